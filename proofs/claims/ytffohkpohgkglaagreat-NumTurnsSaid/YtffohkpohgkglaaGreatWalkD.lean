/-
  WALKS: whole parts; comparisons; of whole numbers.
-/
import Derived.Test.YtffohkpohgkglaaGreatWalkC
import Derived.Test.YtffohkpohgkglaaGreatNumL
namespace Go.Proofs.YtffohkpohgkglaaGreat
set_option linter.unusedVariables false
set_option linter.unusedSimpArgs false
open Go.RowKit
open Ieee
theorem nan_write (s : Bool) (t : Nat) (h : t < 2 ^ 52) : Nm.isNaN (double.write (.nan s (double.quiet t))) = true ∧ double.write (.nan s (double.quiet t)) < 2 ^ 64 := by
  have hq : double.quiet t = t ||| 2 ^ 51 := rfl
  have h1 : t ||| 2 ^ 51 < 2 ^ 52 := Nat.or_lt_two_pow h (by decide)
  have h2 : 2 ^ 51 ≤ t ||| 2 ^ 51 := Nat.right_le_or
  have hw : double.write (.nan s (double.quiet t)) = Nm.word s (Nm.inf + (t ||| 2 ^ 51) % 2 ^ 52) := rfl
  rw [Nat.mod_eq_of_lt h1] at hw
  rw [hw]
  generalize t ||| 2 ^ 51 = q at *
  unfold Nm.isNaN Nm.word Nm.inf
  constructor
  · cases s <;> simp <;> omega
  · cases s <;> simp <;> omega
theorem whole_part (name : String) (way : Toward) (x : Nat) (one : Bool) (hx : x < 2 ^ 64) (hw : (way = .down ∧ one = Nm.neg x) ∨ (way = .up ∧ one = !Nm.neg x) ∨ (way = .zero ∧ one = false)) (w : World) :
    ∃ r w', (Extern.MathFloor.toIntegral name way #[.float .f64 x]).run Tryz.prog w = .ok (.float .f64 r) w' ∧ Below w.heap.size w w' ∧ r < 2 ^ 64 ∧ Nm.tidy r = Nm.dStep x one := by
  have hs : Extern.MathFloor.toIntegral name way #[.float .f64 x] = (match FloatKind.f64.decode x with
    | .nan s t =>
      if FloatKind.f64.format.quiet t = t then pure (.float .f64 x) else do
      let kept ← choose (.extern "math.Floor,Ceil,Trunc,RoundToEven.signallingNaN kept" 2)
      pure (.float .f64 (if kept == 1 then x else FloatKind.f64.encode (.nan s (FloatKind.f64.format.quiet t))))
    | d => pure (.float .f64 (FloatKind.f64.encode (d.integral way)))) := rfl
  rw [hs, show FloatKind.f64.decode x = double.read x from rfl]
  cases hn : Nm.isNaN x
  · have hd := Nm.dStep_eq way x one hw hx hn
    have hk := Nm.ok_step x one hx
    rw [Nm.read_eq x hx, hn] at hd ⊢
    refine ⟨Nm.dStep x one, w, ?_, Below.refl _ _, hk.1, Nm.tidy_ok hk⟩
    rw [hd]
    simp only [Bool.false_eq_true, if_false]
    cases Nm.isInf x <;> rfl
  · have hd : Nm.dStep x one = Nm.nan := by unfold Nm.dStep; rw [hn, if_pos rfl]
    rw [Nm.read_eq x hx, hn, hd]
    simp only [if_true]
    by_cases hq : FloatKind.f64.format.quiet (x % 2 ^ 63 - Nm.inf) = x % 2 ^ 63 - Nm.inf
    · rw [if_pos hq]
      exact ⟨x, w, rfl, Below.refl _ _, hx, Nm.tidy_nan hn⟩
    · rw [if_neg hq]
      have ht : x % 2 ^ 63 - Nm.inf < 2 ^ 52 := by unfold Nm.inf; omega
      obtain ⟨k1, k2⟩ := nan_write (Nm.neg x) _ ht
      obtain ⟨c, hch⟩ : ∃ c, (choose (.extern "math.Floor,Ceil,Trunc,RoundToEven.signallingNaN kept" 2)).run Tryz.prog w = .ok c w.drew :=
        ⟨_, by rw [run_choose_drew, if_neg (by decide)]⟩
      simp only [Sem.run_bind, hch, Result.andThen]
      by_cases hc : c = 1
      · subst hc
        exact ⟨x, w.drew, rfl, drew_below w, hx, Nm.tidy_nan hn⟩
      · refine ⟨_, w.drew, rfl, drew_below w, ?_, ?_⟩
        · rw [if_neg (by simpa using hc)]; exact k2
        · rw [if_neg (by simpa using hc)]; exact Nm.tidy_nan k1

theorem ext126 (x : Nat) (hx : x < 2 ^ 64) (w : World) : ∃ r w', (callFunc 119 #[.float .f64 x]).run Tryz.prog w = .ok (.value (.float .f64 r)) w' ∧ Below w.heap.size w w' ∧ r < 2 ^ 64 ∧ Nm.tidy r = Nm.dFloor x := by
  have he : (callFunc 119 #[.float .f64 x]).run Tryz.prog w = (((Extern.MathFloor.toIntegral "math.archFloor" .down #[.float .f64 x]).run Tryz.prog w).andThen fun v w' => .ok (.value v) w') :=
    run_callFunc_extern (e := Extern.MathFloor.toIntegral "math.archFloor" .down) Tryz.func119 (by kernel_rfl) (by kernel_rfl) (by kernel_rfl) (by kernel_rfl) _ _
  rw [he]
  obtain ⟨r, w2, h1, h2, h3, h4⟩ := whole_part "math.archFloor" .down x (Nm.neg x) hx (by simp) w
  refine ⟨r, w2, ?_, h2, h3, h4⟩
  rw [h1]; rfl
theorem floor_any (a : Nat) (ha : a < 2 ^ 64) (w : World) : Calls Tryz.prog 40 #[.int .u64 (a : Int)] w (Gives w (.int .u64 ((Nm.dFloor a) : Nat))) := by
  obtain ⟨r, w2, hr, hbel, hlt, ht⟩ := ext126 a ha w
  have HR := Lib.hid hlt
  have HT := Lib.hid ht
  have HB := Lib.hid hbel
  clear hlt ht hbel ha
  have hM : Calls Tryz.prog 89 #[.float .f64 a] w fun e w' => e = .returned (.float .f64 r) ∧ w' = w2 := by
    clear HR HT HB
    go_enter Tryz.func89, Tryz.ntmps89
    refine wp_seq ?_
    apply wp_region_lit
    iterate 5 (first | go_step | skip)
    refine wp_seq ?_
    refine wp_cond_true rfl ?_
    go_wp2
    go_ret
    exact ⟨rfl, rfl⟩
  clear hr
  go_enter Tryz.func40, Tryz.ntmps40
  go_wp2_with fail
  refine (float_any a _).mono ?_
  rintro e w1 ⟨rfl, rfl⟩
  go_wp2_with fail
  refine hM.mono ?_
  rintro e w3 ⟨rfl, rfl⟩
  go_wp2_with fail
  refine (number_any r HR.out _).mono ?_
  rintro e w4 ⟨rfl, rfl⟩
  go_wp2
  go_ret
  rw [HT.out]
  exact ⟨rfl, HB.out⟩

theorem ext130 (x : Nat) (hx : x < 2 ^ 64) (w : World) : ∃ r w', (callFunc 121 #[.float .f64 x]).run Tryz.prog w = .ok (.value (.float .f64 r)) w' ∧ Below w.heap.size w w' ∧ r < 2 ^ 64 ∧ Nm.tidy r = Nm.dTrunc x := by
  have he : (callFunc 121 #[.float .f64 x]).run Tryz.prog w = (((Extern.MathFloor.toIntegral "math.archTrunc" .zero #[.float .f64 x]).run Tryz.prog w).andThen fun v w' => .ok (.value v) w') :=
    run_callFunc_extern (e := Extern.MathFloor.toIntegral "math.archTrunc" .zero) Tryz.func121 (by kernel_rfl) (by kernel_rfl) (by kernel_rfl) (by kernel_rfl) _ _
  rw [he]
  obtain ⟨r, w2, h1, h2, h3, h4⟩ := whole_part "math.archTrunc" .zero x (false) hx (by simp) w
  refine ⟨r, w2, ?_, h2, h3, h4⟩
  rw [h1]; rfl
/-- compared by value -/
theorem cmp_any (a b : Nat) (ha : a < 2 ^ 64) (hb : b < 2 ^ 64) (w : World) : Calls Tryz.prog 84 #[.int .u64 (a : Int), .int .u64 (b : Int)] w fun e w' => e = .returned (.tuple #[.int .i64 (Nm.dCmp a b), .bool (Nm.dCok a b)]) ∧ w' = w := by
  have HA := Lib.hid ha
  have HB := Lib.hid hb
  cases n1 : Nm.isNaN a
  · cases n2 : Nm.isNaN b
    · have ho : FloatKind.f64.format.order a b = some (compare (Nm.key a) (Nm.key b)) := Nm.order_eq ha hb n1 n2
      clear ha hb
      rcases Int.lt_trichotomy (Nm.key a) (Nm.key b) with h | h | h
      · have e1 : Nm.dCmp a b = -1 := by unfold Nm.dCmp; rw [n1, n2, if_neg (by decide), if_pos h]
        have e2 : Nm.dCok a b = true := by unfold Nm.dCok; rw [n1, n2]; rfl
        rw [Int.compare_eq_lt.2 h] at ho
        rw [e1, e2]
        clear h e1 e2
        have h1 : (FloatKind.f64.format.order a b == some .lt) = true := by rw [ho]; rfl
        clear ho
        go_enter Tryz.func84, Tryz.ntmps84
        go_wp2_with fail
        refine (nannum_any a HA.out _).mono ?_
        rintro e w1 ⟨rfl, rfl⟩
        rw [n1]
        go_wp2_with fail
        refine (nannum_any b HB.out _).mono ?_
        rintro e w1 ⟨rfl, rfl⟩
        rw [n2]
        go_wp2_with fail
        refine (float_any a _).mono ?_
        rintro e w1 ⟨rfl, rfl⟩
        go_wp2_with fail
        refine (float_any b _).mono ?_
        rintro e w1 ⟨rfl, rfl⟩
        go_wp2
        go_ret2
        exact ⟨rfl, rfl⟩
      · have e1 : Nm.dCmp a b = 0 := by unfold Nm.dCmp; rw [n1, n2, if_neg (by decide), if_neg (by omega), if_neg (by omega)]
        have e2 : Nm.dCok a b = true := by unfold Nm.dCok; rw [n1, n2]; rfl
        rw [Int.compare_eq_eq.2 h] at ho
        rw [e1, e2]
        clear h e1 e2
        have h1 : (FloatKind.f64.format.order a b == some .lt) = false := by rw [ho]; rfl
        have h2 : (FloatKind.f64.format.order a b == some .gt) = false := by rw [ho]; rfl
        clear ho
        go_enter Tryz.func84, Tryz.ntmps84
        go_wp2_with fail
        refine (nannum_any a HA.out _).mono ?_
        rintro e w1 ⟨rfl, rfl⟩
        rw [n1]
        go_wp2_with fail
        refine (nannum_any b HB.out _).mono ?_
        rintro e w1 ⟨rfl, rfl⟩
        rw [n2]
        go_wp2_with fail
        refine (float_any a _).mono ?_
        rintro e w1 ⟨rfl, rfl⟩
        go_wp2_with fail
        refine (float_any b _).mono ?_
        rintro e w1 ⟨rfl, rfl⟩
        go_wp2
        go_ret2
        exact ⟨rfl, rfl⟩
      · have e1 : Nm.dCmp a b = 1 := by unfold Nm.dCmp; rw [n1, n2, if_neg (by decide), if_neg (by omega), if_pos h]
        have e2 : Nm.dCok a b = true := by unfold Nm.dCok; rw [n1, n2]; rfl
        rw [Int.compare_eq_gt.2 h] at ho
        rw [e1, e2]
        clear h e1 e2
        have h1 : (FloatKind.f64.format.order a b == some .lt) = false := by rw [ho]; rfl
        have h2 : (FloatKind.f64.format.order a b == some .gt) = true := by rw [ho]; rfl
        clear ho
        go_enter Tryz.func84, Tryz.ntmps84
        go_wp2_with fail
        refine (nannum_any a HA.out _).mono ?_
        rintro e w1 ⟨rfl, rfl⟩
        rw [n1]
        go_wp2_with fail
        refine (nannum_any b HB.out _).mono ?_
        rintro e w1 ⟨rfl, rfl⟩
        rw [n2]
        go_wp2_with fail
        refine (float_any a _).mono ?_
        rintro e w1 ⟨rfl, rfl⟩
        go_wp2_with fail
        refine (float_any b _).mono ?_
        rintro e w1 ⟨rfl, rfl⟩
        go_wp2
        go_ret2
        exact ⟨rfl, rfl⟩
    · have e1 : Nm.dCmp a b = 0 := by unfold Nm.dCmp; rw [n1, n2]; rfl
      have e2 : Nm.dCok a b = false := by unfold Nm.dCok; rw [n1, n2]; rfl
      rw [e1, e2]
      clear ha hb e1 e2
      go_enter Tryz.func84, Tryz.ntmps84
      go_wp2_with fail
      refine (nannum_any a HA.out _).mono ?_
      rintro e w1 ⟨rfl, rfl⟩
      rw [n1]
      go_wp2_with fail
      refine (nannum_any b HB.out _).mono ?_
      rintro e w1 ⟨rfl, rfl⟩
      rw [n2]
      go_wp2
      go_ret2
      exact ⟨rfl, rfl⟩
  · have e1 : Nm.dCmp a b = 0 := by unfold Nm.dCmp; rw [n1]; rfl
    have e2 : Nm.dCok a b = false := by unfold Nm.dCok; rw [n1]; rfl
    rw [e1, e2]
    clear ha hb e1 e2
    go_enter Tryz.func84, Tryz.ntmps84
    go_wp2_with fail
    refine (nannum_any a HA.out _).mono ?_
    rintro e w1 ⟨rfl, rfl⟩
    rw [n1]
    go_wp2
    go_ret2
    exact ⟨rfl, rfl⟩
end Go.Proofs.YtffohkpohgkglaaGreat
