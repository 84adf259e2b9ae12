/-
  WALKS: tests of one number; the sign; difference; root; whole parts.
-/
import Derived.Test.YtffohkpohgkglaaGreatWalkB
namespace Go.Proofs.YtffohkpohgkglaaGreat
set_option linter.unusedVariables false
set_option linter.unusedSimpArgs false
open Go.RowKit
open Ieee
theorem abs_bits (a : Nat) (h : a < 2 ^ 64) : bits .andNot .u64 (a : Int) 9223372036854775808 = ((a % 2 ^ 63 : Nat) : Int) := by
  have := u64_andNot_nat a 9223372036854775808 (by omega) (by decide)
  rw [show ((9223372036854775808 : Nat) : Int) = 9223372036854775808 from rfl] at this
  rw [this]
  congr 1
  exact Nat.and_two_pow_sub_one_eq_mod a 63
theorem sign_bits (a : Nat) (h : a < 2 ^ 64) : bits .and .u64 (a : Int) 9223372036854775808 = (((Nm.neg a).toNat * 2 ^ 63 : Nat) : Int) := by
  have := u64_and_nat a 9223372036854775808 (by omega) (by decide)
  rw [show ((9223372036854775808 : Nat) : Int) = 9223372036854775808 from rfl] at this
  rw [this]
  congr 1
  rw [show (9223372036854775808 : Nat) = 2 ^ 63 from rfl, nat_bit 63 a]
  congr 1
  unfold Nm.neg
  by_cases hn : 2 ^ 63 ≤ a
  · rw [decide_eq_true hn, show Bool.toNat true = 1 from rfl]; omega
  · rw [decide_eq_false hn, show Bool.toNat false = 0 from rfl]; omega
theorem turn_bits (a : Nat) (h : a < 2 ^ 64) (hn : Nm.isNaN a = false) : bits .xor .u64 (a : Int) 9223372036854775808 = ((Nm.dNeg a : Nat) : Int) := by
  have := u64_xor_nat a 9223372036854775808 (by omega) (by decide)
  rw [show ((9223372036854775808 : Nat) : Int) = 9223372036854775808 from rfl] at this
  rw [this]
  congr 1
  have h1 : (a ^^^ 2 ^ 63) % 2 ^ 63 = a % 2 ^ 63 := by rw [Nat.xor_mod_two_pow, Nat.mod_self, Nat.xor_zero]
  have h2 : (a ^^^ 2 ^ 63) / 2 ^ 63 = a / 2 ^ 63 ^^^ 1 := by rw [Nat.xor_div_two_pow, Nat.div_self (by decide)]
  have h3 := Nat.div_add_mod (a ^^^ 2 ^ 63) (2 ^ 63)
  unfold Nm.dNeg Nm.neg
  rw [hn]
  have hq : a / 2 ^ 63 = 0 ∨ a / 2 ^ 63 = 1 := by omega
  show a ^^^ 2 ^ 63 = _
  rcases hq with hq | hq
  · rw [hq] at h2
    rw [show (0 ^^^ 1 : Nat) = 1 from rfl] at h2
    rw [h1, h2] at h3
    simp only [Bool.false_eq_true, if_false, decide_eq_true_eq]
    rw [if_neg (by omega)]; omega
  · rw [hq] at h2
    rw [show (1 ^^^ 1 : Nat) = 0 from rfl] at h2
    rw [h1, h2] at h3
    simp only [Bool.false_eq_true, if_false, decide_eq_true_eq]
    rw [if_pos (by omega)]; omega
theorem nan_test (a : Nat) : decide (9218868437227405312 < ((a % 2 ^ 63 : Nat) : Int)) = Nm.isNaN a := by
  unfold Nm.isNaN Nm.inf
  rw [decide_eq_decide]
  omega
theorem beq_dec (x y : Int) : (x == y) = decide (x = y) := by rw [Bool.eq_iff_iff]; simp
theorem bne_dec (x y : Int) : (x != y) = decide (x ≠ y) := by rw [Bool.eq_iff_iff]; simp
theorem inf_test (a : Nat) : (((a % 2 ^ 63 : Nat) : Int) == 9218868437227405312) = Nm.isInf a := by
  rw [beq_dec]
  unfold Nm.isInf Nm.inf
  rw [decide_eq_decide]
  omega
theorem nought_test (a : Nat) : (((a % 2 ^ 63 : Nat) : Int) == 0) = Nm.nought a := by
  rw [beq_dec]
  unfold Nm.nought
  rw [decide_eq_decide]
  omega
theorem neg_test (a : Nat) : ((((Nm.neg a).toNat * 2 ^ 63 : Nat) : Int) != 0) = Nm.neg a := by
  cases Nm.neg a <;> rfl
theorem nannum_any (a : Nat) (ha : a < 2 ^ 64) (w : World) : Calls Tryz.prog 38 #[.int .u64 (a : Int)] w fun e w' => e = .returned (.bool (Nm.isNaN a)) ∧ w' = w := by
  have h := abs_bits a ha
  have h2 := nan_test a
  obtain ⟨m, hm⟩ : ∃ m, a % 2 ^ 63 = m := ⟨_, rfl⟩
  rw [hm] at h h2
  go_enter Tryz.func38, Tryz.ntmps38
  go_wp2
  go_ret
  exact ⟨rfl, rfl⟩
theorem infnum_any (a : Nat) (ha : a < 2 ^ 64) (w : World) : Calls Tryz.prog 64 #[.int .u64 (a : Int)] w fun e w' => e = .returned (.bool (Nm.isInf a)) ∧ w' = w := by
  have h := abs_bits a ha
  have h2 := inf_test a
  obtain ⟨m, hm⟩ : ∃ m, a % 2 ^ 63 = m := ⟨_, rfl⟩
  rw [hm] at h h2
  go_enter Tryz.func64, Tryz.ntmps64
  go_wp2
  go_ret
  exact ⟨rfl, rfl⟩
theorem zero_any (a : Nat) (ha : a < 2 ^ 64) (w : World) : Calls Tryz.prog 61 #[.int .u64 (a : Int)] w fun e w' => e = .returned (.bool (Nm.nought a)) ∧ w' = w := by
  have h := abs_bits a ha
  have h2 := nought_test a
  obtain ⟨m, hm⟩ : ∃ m, a % 2 ^ 63 = m := ⟨_, rfl⟩
  rw [hm] at h h2
  go_enter Tryz.func61, Tryz.ntmps61
  go_wp2
  go_ret
  exact ⟨rfl, rfl⟩
theorem sign_any (a : Nat) (ha : a < 2 ^ 64) (w : World) : Calls Tryz.prog 63 #[.int .u64 (a : Int)] w fun e w' => e = .returned (.bool (Nm.neg a)) ∧ w' = w := by
  have h := sign_bits a ha
  have h2 := neg_test a
  obtain ⟨m, hm⟩ : ∃ m, (Nm.neg a).toNat * 2 ^ 63 = m := ⟨_, rfl⟩
  rw [hm] at h h2
  go_enter Tryz.func63, Tryz.ntmps63
  go_wp2
  go_ret
  exact ⟨rfl, rfl⟩
theorem neg_any (a : Nat) (ha : a < 2 ^ 64) (w : World) : Calls Tryz.prog 77 #[.int .u64 (a : Int)] w fun e w' => e = .returned (.int .u64 ((Nm.dNeg a) : Nat)) ∧ w' = w := by
  have HA := Lib.hid ha
  cases hn : Nm.isNaN a
  · have h := turn_bits a ha hn
    clear ha
    go_enter Tryz.func77, Tryz.ntmps77
    go_wp2_with fail
    refine (nannum_any a HA.out _).mono ?_
    rintro e w1 ⟨rfl, rfl⟩
    rw [hn]
    go_wp2
    go_ret
    exact ⟨rfl, rfl⟩
  · clear ha
    have hr : Nm.dNeg a = Nm.nan := by unfold Nm.dNeg; rw [hn, if_pos rfl]
    go_enter Tryz.func77, Tryz.ntmps77
    go_wp2_with fail
    refine (nannum_any a HA.out _).mono ?_
    rintro e w1 ⟨rfl, rfl⟩
    rw [hn]
    go_wp2
    go_ret
    rw [hr]
    exact ⟨rfl, rfl⟩
theorem abs_any (a : Nat) (ha : a < 2 ^ 64) (w : World) : Calls Tryz.prog 79 #[.int .u64 (a : Int)] w fun e w' => e = .returned (.int .u64 ((Nm.dAbs a) : Nat)) ∧ w' = w := by
  have HA := Lib.hid ha
  cases hn : Nm.isNaN a
  · have h := abs_bits a ha
    clear ha
    have hr : Nm.dAbs a = a % 2 ^ 63 := by unfold Nm.dAbs; rw [hn]; rfl
    rw [← hr] at h
    clear hr
    go_enter Tryz.func79, Tryz.ntmps79
    go_wp2_with fail
    refine (nannum_any a HA.out _).mono ?_
    rintro e w1 ⟨rfl, rfl⟩
    rw [hn]
    go_wp2
    go_ret
    exact ⟨rfl, rfl⟩
  · clear ha
    have hr : Nm.dAbs a = Nm.nan := by unfold Nm.dAbs; rw [hn, if_pos rfl]
    go_enter Tryz.func79, Tryz.ntmps79
    go_wp2_with fail
    refine (nannum_any a HA.out _).mono ?_
    rintro e w1 ⟨rfl, rfl⟩
    rw [hn]
    go_wp2
    go_ret
    rw [hr]
    exact ⟨rfl, rfl⟩
theorem sub_any (a b : Nat) (ha : a < 2 ^ 64) (hb : b < 2 ^ 64) (w : World) : Calls Tryz.prog 43 #[.int .u64 (a : Int), .int .u64 (b : Int)] w (Gives w (.int .u64 ((Nm.dSub a b) : Nat))) := by
  have HA := Lib.hid ha
  have HB := Lib.hid hb
  have HN := Lib.hid (Nm.neg_lt b hb)
  clear ha hb
  go_enter Tryz.func43, Tryz.ntmps43
  go_wp2_with fail
  refine (neg_any b HB.out _).mono ?_
  rintro e w1 ⟨rfl, rfl⟩
  go_wp2_with fail
  refine (add_any a (Nm.dNeg b) HA.out HN.out _).mono ?_
  rintro e w1 ⟨rfl, hb1⟩
  have HB1 := Lib.hid hb1
  clear hb1
  go_wp2
  go_ret
  exact ⟨rfl, HB1.out⟩
theorem ext125 (x : Nat) (hx : x < 2 ^ 64) (w : World) : ∃ r w', (callFunc 125 #[.float .f64 x]).run Tryz.prog w = .ok (.value (.float .f64 r)) w' ∧ Below w.heap.size w w' ∧ r < 2 ^ 64 ∧ Nm.tidy r = Nm.dSqrt x := by
  have he : (callFunc 125 #[.float .f64 x]).run Tryz.prog w = (((Extern.MathSqrt.sqrt #[.float .f64 x]).run Tryz.prog w).andThen fun v w' => .ok (.value v) w') :=
    run_callFunc_extern (e := Extern.MathSqrt.sqrt) Tryz.func125 (by kernel_rfl) (by kernel_rfl) (by kernel_rfl) (by kernel_rfl) _ _
  rw [he]
  have hs : Extern.MathSqrt.sqrt #[.float .f64 x] = (match FloatKind.f64.format.sqrt x with
    | some r => pure (.float .f64 r)
    | none => do pure (.float .f64 (← choose (.nanBits .f64 x x)))) := rfl
  rw [hs, show FloatKind.f64.format.sqrt x = double.sqrt x from rfl]
  have hd := Nm.dSqrt_eq x hx
  cases h : double.sqrt x with
  | some r =>
    rw [h, Option.getD_some] at hd
    refine ⟨r, w, rfl, Below.refl _ _, ?_, ?_⟩
    · rw [← hd]; exact (Nm.ok_sqrt x hx).1
    · rw [← hd]; exact Nm.tidy_ok (Nm.ok_sqrt x hx)
  | none =>
    rw [h, Option.getD_none] at hd
    have hw := Nm.wild_nan (w.tape w.drawn (.nanBits .f64 x x))
    refine ⟨_, w.drew, ?_, drew_below w, hw.2, ?_⟩
    · simp [Question.forced, Question.cut, Result.andThen]
    · rw [Nm.tidy_nan hw.1, hd]
theorem sqrt_any (a : Nat) (ha : a < 2 ^ 64) (w : World) : Calls Tryz.prog 80 #[.int .u64 (a : Int)] w (Gives w (.int .u64 ((Nm.dSqrt a) : Nat))) := by
  obtain ⟨r, w2, hr, hbel, hlt, ht⟩ := ext125 a ha w
  have HR := Lib.hid hlt
  have HT := Lib.hid ht
  have HB := Lib.hid hbel
  clear hlt ht hbel ha
  have h91 : Calls Tryz.prog 110 #[.float .f64 a] w fun e w' => e = .returned (.float .f64 r) ∧ w' = w2 := by
    go_enter Tryz.func110, Tryz.ntmps110
    go_wp2
    go_ret
    exact ⟨rfl, rfl⟩
  clear hr
  go_enter Tryz.func80, Tryz.ntmps80
  go_wp2_with fail
  refine (float_any a _).mono ?_
  rintro e w1 ⟨rfl, rfl⟩
  go_wp2_with fail
  refine h91.mono ?_
  rintro e w3 ⟨rfl, rfl⟩
  go_wp2_with fail
  refine (number_any r HR.out _).mono ?_
  rintro e w4 ⟨rfl, rfl⟩
  go_wp2
  go_ret
  rw [HT.out]
  exact ⟨rfl, HB.out⟩
end Go.Proofs.YtffohkpohgkglaaGreat
