/-
  WALKS: sum, difference, product, quotient, root; whole parts.
-/
import Derived.Test.YtffohkpohgkglaaGreatWalkA
namespace Go.Proofs.YtffohkpohgkglaaGreat
set_option linter.unusedVariables false
set_option linter.unusedSimpArgs false
open Go.RowKit
open Ieee
theorem drew_below (w : World) : Below w.heap.size w w.drew := (Below.refl _ w).drew
/-- an operation of two floats: its bits, up to which NaN -/
theorem arith_run (op : BinOp) (x y : Nat) (hop : op = .add ∨ op = .mul ∨ op = .quo) (w : World) :
    ∃ r w', (binOp op 36 (.float .f64 x) (.float .f64 y)).run Tryz.prog w = .ok (.float .f64 r) w' ∧ Below w.heap.size w w' ∧ r < 2 ^ 64 ∧
      Nm.tidy r = Nm.tidy ((floatBits op .f64 x y).getD Nm.nan) := by
  cases h : floatBits op .f64 x y with
  | some r =>
    refine ⟨r, w, run_float_arith w op 36 .f64 x y r h, Below.refl _ _, ?_, rfl⟩
    have := floatBits_wf h
    simpa [Lit.wf] using this
  | none =>
    have hw := Nm.wild_nan (w.tape w.drawn (.nanBits .f64 x y))
    refine ⟨_, w.drew, ?_, drew_below w, hw.2, ?_⟩
    · rcases hop with rfl | rfl | rfl
      · simp only [floatBits] at h
        simp [binOp, Op.floatArith, h, Question.forced, Question.cut]
      · simp only [floatBits] at h
        simp [binOp, Op.floatArith, h, Question.forced, Question.cut]
      · simp only [floatBits] at h
        simp [binOp, Op.floatArith, h, Question.forced, Question.cut]
    · rw [Nm.tidy_nan hw.1]
      rfl
theorem add_bits (x y : Nat) (hx : x < 2 ^ 64) (hy : y < 2 ^ 64) : Nm.tidy ((floatBits .add .f64 x y).getD Nm.nan) = Nm.dAdd x y := by
  rw [show floatBits .add .f64 x y = double.add x y from rfl, ← Nm.dAdd_eq x y hx hy, Nm.tidy_ok (Nm.ok_add x y hx hy)]
theorem mul_bits (x y : Nat) (hx : x < 2 ^ 64) (hy : y < 2 ^ 64) : Nm.tidy ((floatBits .mul .f64 x y).getD Nm.nan) = Nm.dMul x y := by
  rw [show floatBits .mul .f64 x y = double.mul x y from rfl, ← Nm.dMul_eq x y hx hy, Nm.tidy_ok (Nm.ok_mul x y)]
theorem div_bits (x y : Nat) (hx : x < 2 ^ 64) (hy : y < 2 ^ 64) : Nm.tidy ((floatBits .quo .f64 x y).getD Nm.nan) = Nm.dDiv x y := by
  rw [show floatBits .quo .f64 x y = double.div x y from rfl, ← Nm.dDiv_eq x y hx hy, Nm.tidy_ok (Nm.ok_div x y)]
theorem add_any (a b : Nat) (ha : a < 2 ^ 64) (hb : b < 2 ^ 64) (w : World) : Calls Tryz.prog 41 #[.int .u64 (a : Int), .int .u64 (b : Int)] w (Gives w (.int .u64 ((Nm.dAdd a b) : Nat))) := by
  obtain ⟨r, w2, hr, hbel, hlt, ht⟩ := arith_run .add a b (.inl rfl) w
  rw [add_bits a b ha hb] at ht
  have HR := Lib.hid hlt
  have HT := Lib.hid ht
  have HB := Lib.hid hbel
  clear hlt ht hbel ha hb
  go_enter Tryz.func41, Tryz.ntmps41
  go_wp2_with fail
  refine (float_any a _).mono ?_
  rintro e w1 ⟨rfl, rfl⟩
  go_wp2_with fail
  refine (float_any b _).mono ?_
  rintro e w1 ⟨rfl, rfl⟩
  go_wp2_with (simp only [hr])
  refine (number_any r HR.out _).mono ?_
  rintro e w1 ⟨rfl, rfl⟩
  go_wp2
  go_ret
  rw [HT.out]
  exact ⟨rfl, HB.out⟩
theorem mul_any (a b : Nat) (ha : a < 2 ^ 64) (hb : b < 2 ^ 64) (w : World) : Calls Tryz.prog 42 #[.int .u64 (a : Int), .int .u64 (b : Int)] w (Gives w (.int .u64 ((Nm.dMul a b) : Nat))) := by
  obtain ⟨r, w2, hr, hbel, hlt, ht⟩ := arith_run .mul a b (.inr (.inl rfl)) w
  rw [mul_bits a b ha hb] at ht
  have HR := Lib.hid hlt
  have HT := Lib.hid ht
  have HB := Lib.hid hbel
  clear hlt ht hbel ha hb
  go_enter Tryz.func42, Tryz.ntmps42
  go_wp2_with fail
  refine (float_any a _).mono ?_
  rintro e w1 ⟨rfl, rfl⟩
  go_wp2_with fail
  refine (float_any b _).mono ?_
  rintro e w1 ⟨rfl, rfl⟩
  go_wp2_with (simp only [hr])
  refine (number_any r HR.out _).mono ?_
  rintro e w1 ⟨rfl, rfl⟩
  go_wp2
  go_ret
  rw [HT.out]
  exact ⟨rfl, HB.out⟩
theorem div_any (a b : Nat) (ha : a < 2 ^ 64) (hb : b < 2 ^ 64) (w : World) : Calls Tryz.prog 46 #[.int .u64 (a : Int), .int .u64 (b : Int)] w (Gives w (.int .u64 ((Nm.dDiv a b) : Nat))) := by
  obtain ⟨r, w2, hr, hbel, hlt, ht⟩ := arith_run .quo a b (.inr (.inr rfl)) w
  rw [div_bits a b ha hb] at ht
  have HR := Lib.hid hlt
  have HT := Lib.hid ht
  have HB := Lib.hid hbel
  clear hlt ht hbel ha hb
  go_enter Tryz.func46, Tryz.ntmps46
  go_wp2_with fail
  refine (float_any a _).mono ?_
  rintro e w1 ⟨rfl, rfl⟩
  go_wp2_with fail
  refine (float_any b _).mono ?_
  rintro e w1 ⟨rfl, rfl⟩
  go_wp2_with (simp only [hr])
  refine (number_any r HR.out _).mono ?_
  rintro e w1 ⟨rfl, rfl⟩
  go_wp2
  go_ret
  rw [HT.out]
  exact ⟨rfl, HB.out⟩
end Go.Proofs.YtffohkpohgkglaaGreat
