/-
  CURVES, put together of CurveI, CurveJ, CurveK (a claim holds at most 60 files).
-/
import Derived.Test.YtlklnmoecagjmaaCurveR
/-! ## CURVES: powers: whole ones and far ones, by the code. -/
namespace Go.Proofs.Ytlklnmoecagjmaa
set_option linter.unusedVariables false
set_option linter.unusedSimpArgs false
open Go.RowKit
def powL (n r x : Nat) : Nat := if h : n = 0 then r else powL (n / 2) (if n % 2 = 1 then Nm.dMul r x else r) (Nm.dMul x x)
termination_by n
decreasing_by omega
theorem powL_zero (r x : Nat) : powL 0 r x = r := by rw [powL]; simp
theorem powL_odd {n : Nat} (r x : Nat) (h : n ≠ 0) (ho : n % 2 = 1) : powL n r x = powL (n / 2) (Nm.dMul r x) (Nm.dMul x x) := by rw [powL, dif_neg h, if_pos ho]
theorem powL_even {n : Nat} (r x : Nat) (h : n ≠ 0) (ho : ¬ n % 2 = 1) : powL n r x = powL (n / 2) r (Nm.dMul x x) := by rw [powL, dif_neg h, if_neg ho]
theorem powL_ok (n : Nat) : ∀ (r x : Nat), r < 2 ^ 64 → powL n r x < 2 ^ 64 := by
  induction n using Nat.strongRecOn with
  | ind n ih =>
    intro r x hr
    by_cases h : n = 0
    · subst h
      rw [powL_zero]
      exact hr
    · by_cases ho : n % 2 = 1
      · rw [powL_odd r x h ho]
        exact ih _ (by omega) _ _ (Nm.ok_mul _ _).1
      · rw [powL_even r x h ho]
        exact ih _ (by omega) _ _ hr
def dWp (a : Nat) (n : Int) : Nat := if n < 0 then Nm.dDiv 4607182418800017408 (powL n.natAbs 4607182418800017408 a) else powL n.natAbs 4607182418800017408 a
def dFar (a b : Nat) : Nat := if Nm.dAbs a = 4607182418800017408 then 4607182418800017408 else if (dLt (Nm.dAbs a) 4607182418800017408 == Nm.neg b) then 9218868437227405312 else 0
theorem far_any (a b : Nat) (ha : a < 2 ^ 64) (hb : b < 2 ^ 64) (w : World) : Calls Try.prog 101 #[.int .u64 (a : Int), .int .u64 (b : Int)] w (Gives w (.int .u64 (dFar a b : Nat))) := by
  have Cx : Hid (∀ w, Calls Try.prog 36 #[.int .u64 (a : Nat)] w (Gives w (.int .u64 (Nm.dAbs a : Nat)))) := Lib.hid (fun w => (abs_any a ha w).mono fun _ _ h => gives_of h)
  have ox : Nm.dAbs a < 2 ^ 64 := (Nm.ok_abs _ ha).1
  obtain ⟨x, hx⟩ : ∃ vv, Nm.dAbs a = vv := ⟨_, rfl⟩
  rw [hx] at Cx ox
  have Cl : Hid (∀ w, Calls Try.prog 100 #[.int .u64 (x : Nat), .int .u64 4607182418800017408] w (Gives w (.bool (dLt x 4607182418800017408)))) := Lib.hid (fun w => (isless_any x 4607182418800017408 ox (by decide) w).mono fun _ _ h => gives_of h)
  obtain ⟨l, hl⟩ : ∃ vv, dLt x 4607182418800017408 = vv := ⟨_, rfl⟩
  rw [hl] at Cl
  have Csb : Hid (∀ w, Calls Try.prog 87 #[.int .u64 (b : Nat)] w (Gives w (.bool (Nm.neg b)))) := Lib.hid (fun w => (sign_any b hb w).mono fun _ _ h => gives_of h)
  obtain ⟨sb, hsb⟩ : ∃ vv, Nm.neg b = vv := ⟨_, rfl⟩
  rw [hsb] at Csb
  obtain ⟨R, hR⟩ : ∃ x, dFar a b = x := ⟨_, rfl⟩
  rw [hR]
  unfold dFar at hR
  rw [hx, hl, hsb] at hR
  have CZ : Hid (∀ w, Calls Try.prog 103 #[.bool (l == sb)] w (Gives w (.int .u64 (if (l == sb) = true then 9218868437227405312 else 0)))) := Lib.hid (fun w => zoi_any (l == sb) w)
  by_cases hx1 : x = 4607182418800017408
  · rw [if_pos hx1] at hR
    subst hR
    subst hx1
    clear hx hl hsb ha hb ox
    have BB := Lib.hid (Below.refl w.heap.size w)
    go_enter Try.func101, Try.ntmps101
    go_wp2_with fail
    refine (Cx.out _).mono ?_
    rintro e' wm1 ⟨rfl, hb⟩
    have BB := Lib.hid (BB.out.trans (hb.mono BB.out.size))
    clear hb
    go_wp2
    go_ret
    exact ⟨rfl, BB.out⟩
  · cases l
    · cases sb
      · rw [if_neg hx1] at hR
        have dx : ((x : Int) == 4607182418800017408) = false := by simp; omega
        have hr : 9218868437227405312 = R := hR
        have CZ : Hid (∀ w, Calls Try.prog 103 #[.bool true] w (Gives w (.int .u64 9218868437227405312))) := Lib.hid (fun w => zoi_any true w)
        clear hR
        subst hr
        clear hx hl hsb ha hb ox hx1
        have BB := Lib.hid (Below.refl w.heap.size w)
        go_enter Try.func101, Try.ntmps101
        go_wp2_with fail
        refine (Cx.out _).mono ?_
        rintro e' wm1 ⟨rfl, hb⟩
        have BB := Lib.hid (BB.out.trans (hb.mono BB.out.size))
        clear hb
        go_wp2_with fail
        refine (Cl.out _).mono ?_
        rintro e' wm2 ⟨rfl, hb⟩
        have BB := Lib.hid (BB.out.trans (hb.mono BB.out.size))
        clear hb
        go_wp2_with fail
        refine (Csb.out _).mono ?_
        rintro e' wm3 ⟨rfl, hb⟩
        have BB := Lib.hid (BB.out.trans (hb.mono BB.out.size))
        clear hb
        go_wp2_with fail
        refine (CZ.out _).mono ?_
        rintro e' wm4 ⟨rfl, hb⟩
        have BB := Lib.hid (BB.out.trans (hb.mono BB.out.size))
        clear hb
        go_wp2
        go_ret
        exact ⟨rfl, BB.out⟩
      · rw [if_neg hx1] at hR
        have dx : ((x : Int) == 4607182418800017408) = false := by simp; omega
        have hr : 0 = R := hR
        have CZ : Hid (∀ w, Calls Try.prog 103 #[.bool false] w (Gives w (.int .u64 0))) := Lib.hid (fun w => zoi_any false w)
        clear hR
        subst hr
        clear hx hl hsb ha hb ox hx1
        have BB := Lib.hid (Below.refl w.heap.size w)
        go_enter Try.func101, Try.ntmps101
        go_wp2_with fail
        refine (Cx.out _).mono ?_
        rintro e' wm1 ⟨rfl, hb⟩
        have BB := Lib.hid (BB.out.trans (hb.mono BB.out.size))
        clear hb
        go_wp2_with fail
        refine (Cl.out _).mono ?_
        rintro e' wm2 ⟨rfl, hb⟩
        have BB := Lib.hid (BB.out.trans (hb.mono BB.out.size))
        clear hb
        go_wp2_with fail
        refine (Csb.out _).mono ?_
        rintro e' wm3 ⟨rfl, hb⟩
        have BB := Lib.hid (BB.out.trans (hb.mono BB.out.size))
        clear hb
        go_wp2_with fail
        refine (CZ.out _).mono ?_
        rintro e' wm4 ⟨rfl, hb⟩
        have BB := Lib.hid (BB.out.trans (hb.mono BB.out.size))
        clear hb
        go_wp2
        go_ret
        exact ⟨rfl, BB.out⟩
    · cases sb
      · rw [if_neg hx1] at hR
        have dx : ((x : Int) == 4607182418800017408) = false := by simp; omega
        have hr : 0 = R := hR
        have CZ : Hid (∀ w, Calls Try.prog 103 #[.bool false] w (Gives w (.int .u64 0))) := Lib.hid (fun w => zoi_any false w)
        clear hR
        subst hr
        clear hx hl hsb ha hb ox hx1
        have BB := Lib.hid (Below.refl w.heap.size w)
        go_enter Try.func101, Try.ntmps101
        go_wp2_with fail
        refine (Cx.out _).mono ?_
        rintro e' wm1 ⟨rfl, hb⟩
        have BB := Lib.hid (BB.out.trans (hb.mono BB.out.size))
        clear hb
        go_wp2_with fail
        refine (Cl.out _).mono ?_
        rintro e' wm2 ⟨rfl, hb⟩
        have BB := Lib.hid (BB.out.trans (hb.mono BB.out.size))
        clear hb
        go_wp2_with fail
        refine (Csb.out _).mono ?_
        rintro e' wm3 ⟨rfl, hb⟩
        have BB := Lib.hid (BB.out.trans (hb.mono BB.out.size))
        clear hb
        go_wp2_with fail
        refine (CZ.out _).mono ?_
        rintro e' wm4 ⟨rfl, hb⟩
        have BB := Lib.hid (BB.out.trans (hb.mono BB.out.size))
        clear hb
        go_wp2
        go_ret
        exact ⟨rfl, BB.out⟩
      · rw [if_neg hx1] at hR
        have dx : ((x : Int) == 4607182418800017408) = false := by simp; omega
        have hr : 9218868437227405312 = R := hR
        have CZ : Hid (∀ w, Calls Try.prog 103 #[.bool true] w (Gives w (.int .u64 9218868437227405312))) := Lib.hid (fun w => zoi_any true w)
        clear hR
        subst hr
        clear hx hl hsb ha hb ox hx1
        have BB := Lib.hid (Below.refl w.heap.size w)
        go_enter Try.func101, Try.ntmps101
        go_wp2_with fail
        refine (Cx.out _).mono ?_
        rintro e' wm1 ⟨rfl, hb⟩
        have BB := Lib.hid (BB.out.trans (hb.mono BB.out.size))
        clear hb
        go_wp2_with fail
        refine (Cl.out _).mono ?_
        rintro e' wm2 ⟨rfl, hb⟩
        have BB := Lib.hid (BB.out.trans (hb.mono BB.out.size))
        clear hb
        go_wp2_with fail
        refine (Csb.out _).mono ?_
        rintro e' wm3 ⟨rfl, hb⟩
        have BB := Lib.hid (BB.out.trans (hb.mono BB.out.size))
        clear hb
        go_wp2_with fail
        refine (CZ.out _).mono ?_
        rintro e' wm4 ⟨rfl, hb⟩
        have BB := Lib.hid (BB.out.trans (hb.mono BB.out.size))
        clear hb
        go_wp2
        go_ret
        exact ⟨rfl, BB.out⟩
set_option maxHeartbeats 4000000 in
theorem wp_any (a : Nat) (n : Int) (ha : a < 2 ^ 64) (h1 : -9007199254740992 ≤ n) (h2 : n ≤ 9007199254740992) (w : World) : Calls Try.prog 102 #[.int .u64 (a : Int), .int .i64 n] w (Gives w (.int .u64 (dWp a n : Nat))) := by
  have B0 := Lib.hid (Below.refl w.heap.size w)
  obtain ⟨L, hL⟩ : ∃ L, n.natAbs = L := ⟨_, rfl⟩
  have eneg : IntKind.i64.wrap (-n) = -n := by rw [IntKind.wrap_i64]; omega
  have em1 : (if n < -n then -n else n) = (L : Int) := by split <;> omega
  have em2 : (if -n ≤ n then n else -n) = (L : Int) := by split <;> omega
  have em3 : (if n ≤ -n then -n else n) = (L : Int) := by split <;> omega
  have em4 : (if -n < n then n else -n) = (L : Int) := by split <;> omega
  have em5 : max n (-n) = (L : Int) := by omega
  have em6 : (if n > -n then n else -n) = (L : Int) := by split <;> omega
  have hLb : L ≤ 9007199254740992 := by omega
  obtain ⟨P, hP⟩ : ∃ P, powL L 4607182418800017408 a = P := ⟨_, rfl⟩
  have oP : P < 2 ^ 64 := by rw [← hP]; exact powL_ok _ _ _ (by decide)
  have HP := Lib.hid hP
  have HA := Lib.hid ha
  obtain ⟨R, hR⟩ : ∃ P, dWp a n = P := ⟨_, rfl⟩
  rw [hR]
  unfold dWp at hR
  rw [hL, hP] at hR
  have CD : Hid (∀ w, Calls Try.prog 19 #[.int .u64 4607182418800017408, .int .u64 (P : Nat)] w (Gives w (.int .u64 (Nm.dDiv 4607182418800017408 P : Nat)))) := Lib.hid (fun w => div_any 4607182418800017408 P (by decide) oP w)
  have HR := Lib.hid hR
  clear hL hP oP ha hR h1 h2
  go_enter Try.func102, Try.ntmps102
  go_wp2
  go_loopw [5, 6, 7] (fun r x l wr => ∃ k t y : Nat, l = .int .i64 (k : Nat) ∧ r = .int .u64 (t : Nat) ∧ x = .int .u64 (y : Nat) ∧ k ≤ 9007199254740992 ∧ Hid (t < 2 ^ 64) ∧ Hid (y < 2 ^ 64) ∧ Hid (powL k t y = P) ∧ Hid (Below w.heap.size w wr)) (fun _ _ l _ => (intOf l).toNat)
  case atStart => exact ⟨L, 4607182418800017408, a, rfl, rfl, rfl, hLb, Lib.hid (by decide), HA, HP, B0⟩
  case round =>
    obtain ⟨k, t, y, rfl, rfl, rfl, hk, HT, HY, HS, BB⟩ := hrel
    by_cases h0 : k = 0
    · subst h0
      obtain rfl : t = P := by rw [← HS.out, powL_zero]
      by_cases hn : n < 0
      · have d1 : decide (n < 0) = true := decide_eq_true hn
        have hr : Nm.dDiv 4607182418800017408 t = R := by rw [← HR.out, if_pos hn]
        rw [hr] at CD
        clear hr
        go_wp2_with fail
        refine (CD.out _).mono ?_
        rintro e' wd ⟨rfl, hb⟩
        have BB := Lib.hid (BB.out.trans (hb.mono BB.out.size))
        clear hb
        go_wp2
        go_ret
        exact ⟨rfl, BB.out⟩
      · have d1 : decide (n < 0) = false := decide_eq_false hn
        obtain rfl : t = R := by rw [← HR.out, if_neg hn]
        go_wp2
        go_ret
        exact ⟨rfl, BB.out⟩
    · have d1 : decide ((k : Int) > 0) = true := decide_eq_true (by omega)
      have d2 : decide ((0 : Int) < (k : Int)) = true := decide_eq_true (by omega)
      have d3 : decide (0 < k) = true := decide_eq_true (by omega)
      obtain ⟨k2, hk2⟩ : ∃ q, k / 2 = q := ⟨_, rfl⟩
      have e1 : (k : Int) / 2 = (k2 : Int) := by omega
      have e2 : (k : Int).tdiv 2 = (k2 : Int) := by rw [Int.tdiv_eq_ediv_of_nonneg (by omega)]; exact e1
      have hk3 : k2 < k := by omega
      have CY := Lib.hid (fun w => mul_any y y HY.out HY.out w)
      have CR := Lib.hid (fun w => mul_any t y HT.out HY.out w)
      have oy := Lib.hid (Nm.ok_mul y y).1
      have ot := Lib.hid (Nm.ok_mul t y).1
      by_cases ho : k % 2 = 1
      · have q1 : ((k : Int) % 2 == 1) = true := by simp; omega
        have q2 : ((k : Int).tmod 2 == 1) = true := by rw [Int.tmod_eq_emod_of_nonneg (by omega)]; exact q1
        have HS2 := HS.out
        rw [powL_odd t y h0 ho, hk2] at HS2
        have HS2 := Lib.hid HS2
        obtain ⟨t2, ht2⟩ : ∃ vv, Nm.dMul t y = vv := ⟨_, rfl⟩
        rw [ht2] at CR HS2 ot
        obtain ⟨y2, hy2⟩ : ∃ vv, Nm.dMul y y = vv := ⟨_, rfl⟩
        rw [hy2] at CY HS2 oy
        clear ht2 hy2 hk2
        go_wp2_with fail
        refine (CR.out _).mono ?_
        rintro e' wd ⟨rfl, hb⟩
        have BB := Lib.hid (BB.out.trans (hb.mono BB.out.size))
        clear hb
        go_wp2_with fail
        refine (CY.out _).mono ?_
        rintro e' we ⟨rfl, hb⟩
        have BB := Lib.hid (BB.out.trans (hb.mono BB.out.size))
        clear hb
        go_wp2
        go_roundw
        case rel => exact ⟨k2, t2, y2, rfl, rfl, rfl, by omega, ot, oy, HS2, BB⟩
        case measure => simp [intOf]; omega
      · have q1 : ((k : Int) % 2 == 1) = false := by simp; omega
        have q2 : ((k : Int).tmod 2 == 1) = false := by rw [Int.tmod_eq_emod_of_nonneg (by omega)]; exact q1
        have HS2 := HS.out
        rw [powL_even t y h0 ho, hk2] at HS2
        have HS2 := Lib.hid HS2
        obtain ⟨y2, hy2⟩ : ∃ vv, Nm.dMul y y = vv := ⟨_, rfl⟩
        rw [hy2] at CY HS2 oy
        clear hy2 hk2
        go_wp2_with fail
        refine (CY.out _).mono ?_
        rintro e' we ⟨rfl, hb⟩
        have BB := Lib.hid (BB.out.trans (hb.mono BB.out.size))
        clear hb
        go_wp2
        go_roundw
        case rel => exact ⟨k2, t, y2, rfl, rfl, rfl, by omega, HT, oy, HS2, BB⟩
        case measure => simp [intOf]; omega
end Go.Proofs.Ytlklnmoecagjmaa
/-! ## CURVES: Pow: its mathematics, and the code's. -/
namespace Go.Proofs.Ytlklnmoecagjmaa
set_option linter.unusedVariables false
set_option linter.unusedSimpArgs false
open Go.RowKit
theorem lt_abs {b : Nat} (nb : Nm.isNaN b = false) : dLt 4845873199050653696 (Nm.dAbs b) = decide (4845873199050653696 < b % 2 ^ 63) := by
  have e : Nm.dAbs b = b % 2 ^ 63 := by unfold Nm.dAbs; rw [nb, if_neg (by decide)]
  have hl : b % 2 ^ 63 < 2 ^ 63 := Nat.mod_lt _ (by decide)
  have hn : Nm.isNaN (b % 2 ^ 63) = false := by
    unfold Nm.isNaN at nb ⊢
    rw [Nat.mod_mod]
    exact nb
  unfold dLt Nm.dCmp
  rw [e, hn, show Nm.isNaN 4845873199050653696 = false by decide, key_pos hl, key_pos (x := 4845873199050653696) (by decide)]
  simp only [Bool.or_self, Bool.false_eq_true, if_false]
  by_cases h : 4845873199050653696 < b % 2 ^ 63
  · rw [if_pos (by omega), decide_eq_true h]
    rfl
  · rw [if_neg (by omega), decide_eq_false h]
    split <;> rfl
theorem near {b : Nat} (nb : Nm.isNaN b = false) (h : dLt 4845873199050653696 (Nm.dAbs b) = false) : Nm.isInf b = false ∧ Nm.wv b ≤ 9007199254740992 := by
  rw [lt_abs nb] at h
  have h := of_decide_eq_false h
  have fb : b % 2 ^ 63 < Nm.inf := by unfold Nm.inf; omega
  exact ⟨(fin_facts fb).2, wv_le (V := 4845873199050653696) fb (by decide) (by omega) (by decide +kernel) (by decide +kernel)⟩
theorem far_whole {b : Nat} (nb : Nm.isNaN b = false) (ib : Nm.isInf b = false) (h : dLt 4845873199050653696 (Nm.dAbs b) = true) : Nm.left b = false := by
  rw [lt_abs nb] at h
  have h := of_decide_eq_true h
  have fb := Nm.fin_lt nb ib
  cases hl : Nm.left b
  · rfl
  · have hw := Nm.wv_small hl
    have h1 := (Nm.va_lt (a := 4845873199050653696) (b := b) (by decide) fb).2 (by omega)
    have h2 := Nm.va_wv b
    have h3 := Nm.rest_lt b
    rw [Nm.va_whole (x := 4845873199050653696) (by decide +kernel), show Nm.wv 4845873199050653696 = 2 ^ 53 by decide +kernel, h2] at h1
    have h4 : (Nm.wv b + 1) * Nm.U ≤ 2 ^ 53 * Nm.U := Nat.mul_le_mul_right _ hw
    rw [Nat.add_mul, Nat.one_mul] at h4
    omega
theorem inf_far {b : Nat} (ib : Nm.isInf b = true) : dLt 4845873199050653696 (Nm.dAbs b) = true := by
  rw [lt_abs (Nm.inf_nan ib)]
  unfold Nm.isInf at ib
  rw [of_decide_eq_true ib]
  decide
theorem near_fits {b : Nat} (nb : Nm.isNaN b = false) (h : dLt 4845873199050653696 (Nm.dAbs b) = false) : Nm.fits b = !Nm.left b := by
  obtain ⟨ib, hw⟩ := near nb h
  unfold Nm.fits
  rw [nb, ib]
  have h1 : decide (Nm.wv b ≤ 2 ^ 63) = true := decide_eq_true (by omega)
  have h2 : decide (Nm.wv b < 2 ^ 63) = true := decide_eq_true (by omega)
  rw [h1, h2]
  cases Nm.left b <;> cases Nm.neg b <;> rfl
theorem near_whole {b : Nat} (nb : Nm.isNaN b = false) (h : dLt 4845873199050653696 (Nm.dAbs b) = false) : -9007199254740992 ≤ Nm.dWhole b ∧ Nm.dWhole b ≤ 9007199254740992 := by
  obtain ⟨ib, hw⟩ := near nb h
  unfold Nm.dWhole Nm.sg
  split
  · split <;> omega
  · omega
def dPow (a b : Nat) : Nat :=
  if Nm.nought b then 4607182418800017408 else if a = 4607182418800017408 then 4607182418800017408
  else if Nm.isNaN a || Nm.isNaN b then Nm.nan
  else if dLt 4845873199050653696 (Nm.dAbs b) then dFar a b
  else if Nm.fits b then dWp a (Nm.dWhole b)
  else if Nm.nought a then (if Nm.neg b then 9218868437227405312 else 0)
  else if Nm.isInf a then (if Nm.neg b then 0 else 9218868437227405312)
  else if Nm.neg a then Nm.nan
  else dExp (Nm.dMul b (dLn a))
set_option maxHeartbeats 4000000 in
theorem pow_any (a b : Nat) (ha : a < 2 ^ 64) (hb : b < 2 ^ 64) (w : World) : Calls Try.prog 62 #[.int .u64 (a : Int), .int .u64 (b : Int)] w (Gives w (.int .u64 (dPow a b : Nat))) := by
  have hnw := fun h h2 => near_whole (b := b) h h2
  have Czb : Hid (∀ w, Calls Try.prog 85 #[.int .u64 (b : Nat)] w (Gives w (.bool (Nm.nought b)))) := Lib.hid (fun w => (zero_any b hb w).mono fun _ _ h => gives_of h)
  obtain ⟨zb, hzb⟩ : ∃ vv, Nm.nought b = vv := ⟨_, rfl⟩
  rw [hzb] at Czb
  have Cna : Hid (∀ w, Calls Try.prog 48 #[.int .u64 (a : Nat)] w (Gives w (.bool (Nm.isNaN a)))) := Lib.hid (fun w => (nannum_any a ha w).mono fun _ _ h => gives_of h)
  obtain ⟨na, hna⟩ : ∃ vv, Nm.isNaN a = vv := ⟨_, rfl⟩
  rw [hna] at Cna
  have Cnb : Hid (∀ w, Calls Try.prog 48 #[.int .u64 (b : Nat)] w (Gives w (.bool (Nm.isNaN b)))) := Lib.hid (fun w => (nannum_any b hb w).mono fun _ _ h => gives_of h)
  obtain ⟨nb, hnb⟩ : ∃ vv, Nm.isNaN b = vv := ⟨_, rfl⟩
  rw [hnb] at Cnb
  have Cx : Hid (∀ w, Calls Try.prog 36 #[.int .u64 (b : Nat)] w (Gives w (.int .u64 (Nm.dAbs b : Nat)))) := Lib.hid (fun w => (abs_any b hb w).mono fun _ _ h => gives_of h)
  have ox : Nm.dAbs b < 2 ^ 64 := (Nm.ok_abs _ hb).1
  obtain ⟨x, hx⟩ : ∃ vv, Nm.dAbs b = vv := ⟨_, rfl⟩
  rw [hx] at Cx ox
  have Cfr : Hid (∀ w, Calls Try.prog 100 #[.int .u64 4845873199050653696, .int .u64 (x : Nat)] w (Gives w (.bool (dLt 4845873199050653696 x)))) := Lib.hid (fun w => (isless_any 4845873199050653696 x (by decide) ox w).mono fun _ _ h => gives_of h)
  obtain ⟨fr, hfr⟩ : ∃ vv, dLt 4845873199050653696 x = vv := ⟨_, rfl⟩
  rw [hfr] at Cfr
  have Cza : Hid (∀ w, Calls Try.prog 85 #[.int .u64 (a : Nat)] w (Gives w (.bool (Nm.nought a)))) := Lib.hid (fun w => (zero_any a ha w).mono fun _ _ h => gives_of h)
  obtain ⟨za, hza⟩ : ∃ vv, Nm.nought a = vv := ⟨_, rfl⟩
  rw [hza] at Cza
  have Cia : Hid (∀ w, Calls Try.prog 50 #[.int .u64 (a : Nat)] w (Gives w (.bool (Nm.isInf a)))) := Lib.hid (fun w => (infnum_any a ha w).mono fun _ _ h => gives_of h)
  obtain ⟨ia, hia⟩ : ∃ vv, Nm.isInf a = vv := ⟨_, rfl⟩
  rw [hia] at Cia
  have Csa : Hid (∀ w, Calls Try.prog 87 #[.int .u64 (a : Nat)] w (Gives w (.bool (Nm.neg a)))) := Lib.hid (fun w => (sign_any a ha w).mono fun _ _ h => gives_of h)
  obtain ⟨sa, hsa⟩ : ∃ vv, Nm.neg a = vv := ⟨_, rfl⟩
  rw [hsa] at Csa
  have Csb : Hid (∀ w, Calls Try.prog 87 #[.int .u64 (b : Nat)] w (Gives w (.bool (Nm.neg b)))) := Lib.hid (fun w => (sign_any b hb w).mono fun _ _ h => gives_of h)
  obtain ⟨sb, hsb⟩ : ∃ vv, Nm.neg b = vv := ⟨_, rfl⟩
  rw [hsb] at Csb
  rw [hnb, hx, hfr] at hnw
  have CF : Hid (∀ w, Calls Try.prog 101 #[.int .u64 (a : Nat), .int .u64 (b : Nat)] w (Gives w (.int .u64 (dFar a b : Nat)))) := Lib.hid (fun w => far_any a b ha hb w)
  obtain ⟨fv, hfv⟩ : ∃ vv, dFar a b = vv := ⟨_, rfl⟩
  rw [hfv] at CF
  have CW := Lib.hid (fun w => whole_any b hb w)
  obtain ⟨n, hn⟩ : ∃ vv, Nm.dWhole b = vv := ⟨_, rfl⟩
  obtain ⟨ok, hok⟩ : ∃ vv, Nm.fits b = vv := ⟨_, rfl⟩
  rw [hn, hok] at CW
  rw [hn] at hnw
  have CP : Hid (nb = false → fr = false → ∀ w, Calls Try.prog 102 #[.int .u64 (a : Nat), .int .i64 n] w (Gives w (.int .u64 (dWp a n : Nat)))) := Lib.hid (fun h1 h2 w => wp_any a n ha (hnw h1 h2).1 (hnw h1 h2).2 w)
  obtain ⟨wp, hwp⟩ : ∃ vv, dWp a n = vv := ⟨_, rfl⟩
  rw [hwp] at CP
  have Cln : Hid (∀ w, Calls Try.prog 105 #[.int .u64 (a : Nat)] w (Gives w (.int .u64 (dLn a : Nat)))) := Lib.hid (fun w => ln_any a ha w)
  have oln : dLn a < 2 ^ 64 := dLn_ok _ ha
  obtain ⟨ln, hln⟩ : ∃ vv, dLn a = vv := ⟨_, rfl⟩
  rw [hln] at Cln oln
  have Cm : Hid (∀ w, Calls Try.prog 17 #[.int .u64 (b : Nat), .int .u64 (ln : Nat)] w (Gives w (.int .u64 (Nm.dMul b ln : Nat)))) := Lib.hid (fun w => mul_any b ln hb oln w)
  have om : Nm.dMul b ln < 2 ^ 64 := (Nm.ok_mul _ _).1
  obtain ⟨m, hm⟩ : ∃ vv, Nm.dMul b ln = vv := ⟨_, rfl⟩
  rw [hm] at Cm om
  have Cex : Hid (∀ w, Calls Try.prog 104 #[.int .u64 (m : Nat)] w (Gives w (.int .u64 (dExp m : Nat)))) := Lib.hid (fun w => exp_any m om w)
  have oex : dExp m < 2 ^ 64 := dExp_ok _
  obtain ⟨ex, hex⟩ : ∃ vv, dExp m = vv := ⟨_, rfl⟩
  rw [hex] at Cex oex
  have CZ0 : Hid (∀ w, Calls Try.prog 103 #[.bool false] w (Gives w (.int .u64 0))) := Lib.hid (fun w => zoi_any false w)
  have CZ1 : Hid (∀ w, Calls Try.prog 103 #[.bool true] w (Gives w (.int .u64 9218868437227405312))) := Lib.hid (fun w => zoi_any true w)
  obtain ⟨R, hR⟩ : ∃ x, dPow a b = x := ⟨_, rfl⟩
  rw [hR]
  unfold dPow at hR
  rw [hzb, hna, hnb, hx, hfr, hfv, hok, hn, hwp, hza, hia, hsa, hsb, hln, hm, hex] at hR
  cases zb
  · by_cases ha1 : a = 4607182418800017408
    · rw [if_pos ha1] at hR
      simp only [Bool.false_eq_true, if_false] at hR
      subst hR
      subst ha1
      clear hb hzb hna hnb hx hfr hfv hok hn hwp hza hia hsa hsb hln hm hex ox oln om oex hnw ha
      have BB := Lib.hid (Below.refl w.heap.size w)
      go_enter Try.func62, Try.ntmps62
      go_wp2_with fail
      refine (Czb.out _).mono ?_
      rintro e' wm1 ⟨rfl, hb⟩
      have BB := Lib.hid (BB.out.trans (hb.mono BB.out.size))
      clear hb
      go_wp2
      go_ret
      exact ⟨rfl, BB.out⟩
    · have da : ((a : Int) == 4607182418800017408) = false := by simp; omega
      clear ha
      cases na
      · cases nb
        · cases fr
          · cases ok
            · cases za
              · cases ia
                · cases sa
                  · simp only [Bool.false_eq_true, if_false, if_true, Bool.or_true, Bool.or_false, Bool.true_or, Bool.false_or, ha1] at hR
                    subst hR
                    clear hb hzb hna hnb hx hfr hfv hok hn hwp hza hia hsa hsb hln hm hex ox oln om oex hnw ha1
                    have BB := Lib.hid (Below.refl w.heap.size w)
                    go_enter Try.func62, Try.ntmps62
                    go_wp2_with fail
                    refine (Czb.out _).mono ?_
                    rintro e' wm1 ⟨rfl, hb⟩
                    have BB := Lib.hid (BB.out.trans (hb.mono BB.out.size))
                    clear hb
                    go_wp2_with fail
                    refine (Cna.out _).mono ?_
                    rintro e' wm2 ⟨rfl, hb⟩
                    have BB := Lib.hid (BB.out.trans (hb.mono BB.out.size))
                    clear hb
                    go_wp2_with fail
                    refine (Cnb.out _).mono ?_
                    rintro e' wm3 ⟨rfl, hb⟩
                    have BB := Lib.hid (BB.out.trans (hb.mono BB.out.size))
                    clear hb
                    go_wp2_with fail
                    refine (Cx.out _).mono ?_
                    rintro e' wm4 ⟨rfl, hb⟩
                    have BB := Lib.hid (BB.out.trans (hb.mono BB.out.size))
                    clear hb
                    go_wp2_with fail
                    refine (Cfr.out _).mono ?_
                    rintro e' wm5 ⟨rfl, hb⟩
                    have BB := Lib.hid (BB.out.trans (hb.mono BB.out.size))
                    clear hb
                    go_wp2_with fail
                    refine (CW.out _).mono ?_
                    rintro e' wm6 ⟨rfl, hb⟩
                    have BB := Lib.hid (BB.out.trans (hb.mono BB.out.size))
                    clear hb
                    go_wp2_with fail
                    refine (Cza.out _).mono ?_
                    rintro e' wm7 ⟨rfl, hb⟩
                    have BB := Lib.hid (BB.out.trans (hb.mono BB.out.size))
                    clear hb
                    go_wp2_with fail
                    refine (Cia.out _).mono ?_
                    rintro e' wm8 ⟨rfl, hb⟩
                    have BB := Lib.hid (BB.out.trans (hb.mono BB.out.size))
                    clear hb
                    go_wp2_with fail
                    refine (Csa.out _).mono ?_
                    rintro e' wm9 ⟨rfl, hb⟩
                    have BB := Lib.hid (BB.out.trans (hb.mono BB.out.size))
                    clear hb
                    go_wp2_with fail
                    refine (Cln.out _).mono ?_
                    rintro e' wm10 ⟨rfl, hb⟩
                    have BB := Lib.hid (BB.out.trans (hb.mono BB.out.size))
                    clear hb
                    go_wp2_with fail
                    refine (Cm.out _).mono ?_
                    rintro e' wm11 ⟨rfl, hb⟩
                    have BB := Lib.hid (BB.out.trans (hb.mono BB.out.size))
                    clear hb
                    go_wp2_with fail
                    refine (Cex.out _).mono ?_
                    rintro e' wm12 ⟨rfl, hb⟩
                    have BB := Lib.hid (BB.out.trans (hb.mono BB.out.size))
                    clear hb
                    go_wp2
                    go_ret
                    exact ⟨rfl, BB.out⟩
                  · simp only [Bool.false_eq_true, if_false, if_true, Bool.or_true, Bool.or_false, Bool.true_or, Bool.false_or, ha1] at hR
                    subst hR
                    clear hb hzb hna hnb hx hfr hfv hok hn hwp hza hia hsa hsb hln hm hex ox oln om oex hnw ha1
                    have BB := Lib.hid (Below.refl w.heap.size w)
                    go_enter Try.func62, Try.ntmps62
                    go_wp2_with fail
                    refine (Czb.out _).mono ?_
                    rintro e' wm1 ⟨rfl, hb⟩
                    have BB := Lib.hid (BB.out.trans (hb.mono BB.out.size))
                    clear hb
                    go_wp2_with fail
                    refine (Cna.out _).mono ?_
                    rintro e' wm2 ⟨rfl, hb⟩
                    have BB := Lib.hid (BB.out.trans (hb.mono BB.out.size))
                    clear hb
                    go_wp2_with fail
                    refine (Cnb.out _).mono ?_
                    rintro e' wm3 ⟨rfl, hb⟩
                    have BB := Lib.hid (BB.out.trans (hb.mono BB.out.size))
                    clear hb
                    go_wp2_with fail
                    refine (Cx.out _).mono ?_
                    rintro e' wm4 ⟨rfl, hb⟩
                    have BB := Lib.hid (BB.out.trans (hb.mono BB.out.size))
                    clear hb
                    go_wp2_with fail
                    refine (Cfr.out _).mono ?_
                    rintro e' wm5 ⟨rfl, hb⟩
                    have BB := Lib.hid (BB.out.trans (hb.mono BB.out.size))
                    clear hb
                    go_wp2_with fail
                    refine (CW.out _).mono ?_
                    rintro e' wm6 ⟨rfl, hb⟩
                    have BB := Lib.hid (BB.out.trans (hb.mono BB.out.size))
                    clear hb
                    go_wp2_with fail
                    refine (Cza.out _).mono ?_
                    rintro e' wm7 ⟨rfl, hb⟩
                    have BB := Lib.hid (BB.out.trans (hb.mono BB.out.size))
                    clear hb
                    go_wp2_with fail
                    refine (Cia.out _).mono ?_
                    rintro e' wm8 ⟨rfl, hb⟩
                    have BB := Lib.hid (BB.out.trans (hb.mono BB.out.size))
                    clear hb
                    go_wp2_with fail
                    refine (Csa.out _).mono ?_
                    rintro e' wm9 ⟨rfl, hb⟩
                    have BB := Lib.hid (BB.out.trans (hb.mono BB.out.size))
                    clear hb
                    go_wp2
                    go_ret
                    exact ⟨rfl, BB.out⟩
                · cases sb
                  · simp only [Bool.false_eq_true, if_false, if_true, Bool.or_true, Bool.or_false, Bool.true_or, Bool.false_or, ha1] at hR
                    subst hR
                    clear hb hzb hna hnb hx hfr hfv hok hn hwp hza hia hsa hsb hln hm hex ox oln om oex hnw ha1
                    have BB := Lib.hid (Below.refl w.heap.size w)
                    go_enter Try.func62, Try.ntmps62
                    go_wp2_with fail
                    refine (Czb.out _).mono ?_
                    rintro e' wm1 ⟨rfl, hb⟩
                    have BB := Lib.hid (BB.out.trans (hb.mono BB.out.size))
                    clear hb
                    go_wp2_with fail
                    refine (Cna.out _).mono ?_
                    rintro e' wm2 ⟨rfl, hb⟩
                    have BB := Lib.hid (BB.out.trans (hb.mono BB.out.size))
                    clear hb
                    go_wp2_with fail
                    refine (Cnb.out _).mono ?_
                    rintro e' wm3 ⟨rfl, hb⟩
                    have BB := Lib.hid (BB.out.trans (hb.mono BB.out.size))
                    clear hb
                    go_wp2_with fail
                    refine (Cx.out _).mono ?_
                    rintro e' wm4 ⟨rfl, hb⟩
                    have BB := Lib.hid (BB.out.trans (hb.mono BB.out.size))
                    clear hb
                    go_wp2_with fail
                    refine (Cfr.out _).mono ?_
                    rintro e' wm5 ⟨rfl, hb⟩
                    have BB := Lib.hid (BB.out.trans (hb.mono BB.out.size))
                    clear hb
                    go_wp2_with fail
                    refine (CW.out _).mono ?_
                    rintro e' wm6 ⟨rfl, hb⟩
                    have BB := Lib.hid (BB.out.trans (hb.mono BB.out.size))
                    clear hb
                    go_wp2_with fail
                    refine (Cza.out _).mono ?_
                    rintro e' wm7 ⟨rfl, hb⟩
                    have BB := Lib.hid (BB.out.trans (hb.mono BB.out.size))
                    clear hb
                    go_wp2_with fail
                    refine (Cia.out _).mono ?_
                    rintro e' wm8 ⟨rfl, hb⟩
                    have BB := Lib.hid (BB.out.trans (hb.mono BB.out.size))
                    clear hb
                    go_wp2_with fail
                    refine (Csb.out _).mono ?_
                    rintro e' wm9 ⟨rfl, hb⟩
                    have BB := Lib.hid (BB.out.trans (hb.mono BB.out.size))
                    clear hb
                    go_wp2_with fail
                    refine (CZ1.out _).mono ?_
                    rintro e' wm10 ⟨rfl, hb⟩
                    have BB := Lib.hid (BB.out.trans (hb.mono BB.out.size))
                    clear hb
                    go_wp2
                    go_ret
                    exact ⟨rfl, BB.out⟩
                  · simp only [Bool.false_eq_true, if_false, if_true, Bool.or_true, Bool.or_false, Bool.true_or, Bool.false_or, ha1] at hR
                    subst hR
                    clear hb hzb hna hnb hx hfr hfv hok hn hwp hza hia hsa hsb hln hm hex ox oln om oex hnw ha1
                    have BB := Lib.hid (Below.refl w.heap.size w)
                    go_enter Try.func62, Try.ntmps62
                    go_wp2_with fail
                    refine (Czb.out _).mono ?_
                    rintro e' wm1 ⟨rfl, hb⟩
                    have BB := Lib.hid (BB.out.trans (hb.mono BB.out.size))
                    clear hb
                    go_wp2_with fail
                    refine (Cna.out _).mono ?_
                    rintro e' wm2 ⟨rfl, hb⟩
                    have BB := Lib.hid (BB.out.trans (hb.mono BB.out.size))
                    clear hb
                    go_wp2_with fail
                    refine (Cnb.out _).mono ?_
                    rintro e' wm3 ⟨rfl, hb⟩
                    have BB := Lib.hid (BB.out.trans (hb.mono BB.out.size))
                    clear hb
                    go_wp2_with fail
                    refine (Cx.out _).mono ?_
                    rintro e' wm4 ⟨rfl, hb⟩
                    have BB := Lib.hid (BB.out.trans (hb.mono BB.out.size))
                    clear hb
                    go_wp2_with fail
                    refine (Cfr.out _).mono ?_
                    rintro e' wm5 ⟨rfl, hb⟩
                    have BB := Lib.hid (BB.out.trans (hb.mono BB.out.size))
                    clear hb
                    go_wp2_with fail
                    refine (CW.out _).mono ?_
                    rintro e' wm6 ⟨rfl, hb⟩
                    have BB := Lib.hid (BB.out.trans (hb.mono BB.out.size))
                    clear hb
                    go_wp2_with fail
                    refine (Cza.out _).mono ?_
                    rintro e' wm7 ⟨rfl, hb⟩
                    have BB := Lib.hid (BB.out.trans (hb.mono BB.out.size))
                    clear hb
                    go_wp2_with fail
                    refine (Cia.out _).mono ?_
                    rintro e' wm8 ⟨rfl, hb⟩
                    have BB := Lib.hid (BB.out.trans (hb.mono BB.out.size))
                    clear hb
                    go_wp2_with fail
                    refine (Csb.out _).mono ?_
                    rintro e' wm9 ⟨rfl, hb⟩
                    have BB := Lib.hid (BB.out.trans (hb.mono BB.out.size))
                    clear hb
                    go_wp2_with fail
                    refine (CZ0.out _).mono ?_
                    rintro e' wm10 ⟨rfl, hb⟩
                    have BB := Lib.hid (BB.out.trans (hb.mono BB.out.size))
                    clear hb
                    go_wp2
                    go_ret
                    exact ⟨rfl, BB.out⟩
              · cases sb
                · simp only [Bool.false_eq_true, if_false, if_true, Bool.or_true, Bool.or_false, Bool.true_or, Bool.false_or, ha1] at hR
                  subst hR
                  clear hb hzb hna hnb hx hfr hfv hok hn hwp hza hia hsa hsb hln hm hex ox oln om oex hnw ha1
                  have BB := Lib.hid (Below.refl w.heap.size w)
                  go_enter Try.func62, Try.ntmps62
                  go_wp2_with fail
                  refine (Czb.out _).mono ?_
                  rintro e' wm1 ⟨rfl, hb⟩
                  have BB := Lib.hid (BB.out.trans (hb.mono BB.out.size))
                  clear hb
                  go_wp2_with fail
                  refine (Cna.out _).mono ?_
                  rintro e' wm2 ⟨rfl, hb⟩
                  have BB := Lib.hid (BB.out.trans (hb.mono BB.out.size))
                  clear hb
                  go_wp2_with fail
                  refine (Cnb.out _).mono ?_
                  rintro e' wm3 ⟨rfl, hb⟩
                  have BB := Lib.hid (BB.out.trans (hb.mono BB.out.size))
                  clear hb
                  go_wp2_with fail
                  refine (Cx.out _).mono ?_
                  rintro e' wm4 ⟨rfl, hb⟩
                  have BB := Lib.hid (BB.out.trans (hb.mono BB.out.size))
                  clear hb
                  go_wp2_with fail
                  refine (Cfr.out _).mono ?_
                  rintro e' wm5 ⟨rfl, hb⟩
                  have BB := Lib.hid (BB.out.trans (hb.mono BB.out.size))
                  clear hb
                  go_wp2_with fail
                  refine (CW.out _).mono ?_
                  rintro e' wm6 ⟨rfl, hb⟩
                  have BB := Lib.hid (BB.out.trans (hb.mono BB.out.size))
                  clear hb
                  go_wp2_with fail
                  refine (Cza.out _).mono ?_
                  rintro e' wm7 ⟨rfl, hb⟩
                  have BB := Lib.hid (BB.out.trans (hb.mono BB.out.size))
                  clear hb
                  go_wp2_with fail
                  refine (Csb.out _).mono ?_
                  rintro e' wm8 ⟨rfl, hb⟩
                  have BB := Lib.hid (BB.out.trans (hb.mono BB.out.size))
                  clear hb
                  go_wp2_with fail
                  refine (CZ0.out _).mono ?_
                  rintro e' wm9 ⟨rfl, hb⟩
                  have BB := Lib.hid (BB.out.trans (hb.mono BB.out.size))
                  clear hb
                  go_wp2
                  go_ret
                  exact ⟨rfl, BB.out⟩
                · simp only [Bool.false_eq_true, if_false, if_true, Bool.or_true, Bool.or_false, Bool.true_or, Bool.false_or, ha1] at hR
                  subst hR
                  clear hb hzb hna hnb hx hfr hfv hok hn hwp hza hia hsa hsb hln hm hex ox oln om oex hnw ha1
                  have BB := Lib.hid (Below.refl w.heap.size w)
                  go_enter Try.func62, Try.ntmps62
                  go_wp2_with fail
                  refine (Czb.out _).mono ?_
                  rintro e' wm1 ⟨rfl, hb⟩
                  have BB := Lib.hid (BB.out.trans (hb.mono BB.out.size))
                  clear hb
                  go_wp2_with fail
                  refine (Cna.out _).mono ?_
                  rintro e' wm2 ⟨rfl, hb⟩
                  have BB := Lib.hid (BB.out.trans (hb.mono BB.out.size))
                  clear hb
                  go_wp2_with fail
                  refine (Cnb.out _).mono ?_
                  rintro e' wm3 ⟨rfl, hb⟩
                  have BB := Lib.hid (BB.out.trans (hb.mono BB.out.size))
                  clear hb
                  go_wp2_with fail
                  refine (Cx.out _).mono ?_
                  rintro e' wm4 ⟨rfl, hb⟩
                  have BB := Lib.hid (BB.out.trans (hb.mono BB.out.size))
                  clear hb
                  go_wp2_with fail
                  refine (Cfr.out _).mono ?_
                  rintro e' wm5 ⟨rfl, hb⟩
                  have BB := Lib.hid (BB.out.trans (hb.mono BB.out.size))
                  clear hb
                  go_wp2_with fail
                  refine (CW.out _).mono ?_
                  rintro e' wm6 ⟨rfl, hb⟩
                  have BB := Lib.hid (BB.out.trans (hb.mono BB.out.size))
                  clear hb
                  go_wp2_with fail
                  refine (Cza.out _).mono ?_
                  rintro e' wm7 ⟨rfl, hb⟩
                  have BB := Lib.hid (BB.out.trans (hb.mono BB.out.size))
                  clear hb
                  go_wp2_with fail
                  refine (Csb.out _).mono ?_
                  rintro e' wm8 ⟨rfl, hb⟩
                  have BB := Lib.hid (BB.out.trans (hb.mono BB.out.size))
                  clear hb
                  go_wp2_with fail
                  refine (CZ1.out _).mono ?_
                  rintro e' wm9 ⟨rfl, hb⟩
                  have BB := Lib.hid (BB.out.trans (hb.mono BB.out.size))
                  clear hb
                  go_wp2
                  go_ret
                  exact ⟨rfl, BB.out⟩
            · simp only [Bool.false_eq_true, if_false, if_true, Bool.or_true, Bool.or_false, Bool.true_or, Bool.false_or, ha1] at hR
              subst hR
              clear hb hzb hna hnb hx hfr hfv hok hn hwp hza hia hsa hsb hln hm hex ox oln om oex hnw ha1
              have CP2 : Hid (∀ w, Calls Try.prog 102 #[.int .u64 (a : Nat), .int .i64 n] w (Gives w (.int .u64 (wp : Nat)))) := Lib.hid (fun w => CP.out rfl rfl w)
              clear CP
              have BB := Lib.hid (Below.refl w.heap.size w)
              go_enter Try.func62, Try.ntmps62
              go_wp2_with fail
              refine (Czb.out _).mono ?_
              rintro e' wm1 ⟨rfl, hb⟩
              have BB := Lib.hid (BB.out.trans (hb.mono BB.out.size))
              clear hb
              go_wp2_with fail
              refine (Cna.out _).mono ?_
              rintro e' wm2 ⟨rfl, hb⟩
              have BB := Lib.hid (BB.out.trans (hb.mono BB.out.size))
              clear hb
              go_wp2_with fail
              refine (Cnb.out _).mono ?_
              rintro e' wm3 ⟨rfl, hb⟩
              have BB := Lib.hid (BB.out.trans (hb.mono BB.out.size))
              clear hb
              go_wp2_with fail
              refine (Cx.out _).mono ?_
              rintro e' wm4 ⟨rfl, hb⟩
              have BB := Lib.hid (BB.out.trans (hb.mono BB.out.size))
              clear hb
              go_wp2_with fail
              refine (Cfr.out _).mono ?_
              rintro e' wm5 ⟨rfl, hb⟩
              have BB := Lib.hid (BB.out.trans (hb.mono BB.out.size))
              clear hb
              go_wp2_with fail
              refine (CW.out _).mono ?_
              rintro e' wm6 ⟨rfl, hb⟩
              have BB := Lib.hid (BB.out.trans (hb.mono BB.out.size))
              clear hb
              go_wp2_with fail
              refine (CP2.out _).mono ?_
              rintro e' wm7 ⟨rfl, hb⟩
              have BB := Lib.hid (BB.out.trans (hb.mono BB.out.size))
              clear hb
              go_wp2
              go_ret
              exact ⟨rfl, BB.out⟩
          · simp only [Bool.false_eq_true, if_false, if_true, Bool.or_true, Bool.or_false, Bool.true_or, Bool.false_or, ha1] at hR
            subst hR
            clear hb hzb hna hnb hx hfr hfv hok hn hwp hza hia hsa hsb hln hm hex ox oln om oex hnw ha1
            have BB := Lib.hid (Below.refl w.heap.size w)
            go_enter Try.func62, Try.ntmps62
            go_wp2_with fail
            refine (Czb.out _).mono ?_
            rintro e' wm1 ⟨rfl, hb⟩
            have BB := Lib.hid (BB.out.trans (hb.mono BB.out.size))
            clear hb
            go_wp2_with fail
            refine (Cna.out _).mono ?_
            rintro e' wm2 ⟨rfl, hb⟩
            have BB := Lib.hid (BB.out.trans (hb.mono BB.out.size))
            clear hb
            go_wp2_with fail
            refine (Cnb.out _).mono ?_
            rintro e' wm3 ⟨rfl, hb⟩
            have BB := Lib.hid (BB.out.trans (hb.mono BB.out.size))
            clear hb
            go_wp2_with fail
            refine (Cx.out _).mono ?_
            rintro e' wm4 ⟨rfl, hb⟩
            have BB := Lib.hid (BB.out.trans (hb.mono BB.out.size))
            clear hb
            go_wp2_with fail
            refine (Cfr.out _).mono ?_
            rintro e' wm5 ⟨rfl, hb⟩
            have BB := Lib.hid (BB.out.trans (hb.mono BB.out.size))
            clear hb
            go_wp2_with fail
            refine (CF.out _).mono ?_
            rintro e' wm6 ⟨rfl, hb⟩
            have BB := Lib.hid (BB.out.trans (hb.mono BB.out.size))
            clear hb
            go_wp2
            go_ret
            exact ⟨rfl, BB.out⟩
        · simp only [Bool.false_eq_true, if_false, if_true, Bool.or_true, Bool.or_false, Bool.true_or, Bool.false_or, ha1] at hR
          subst hR
          clear hb hzb hna hnb hx hfr hfv hok hn hwp hza hia hsa hsb hln hm hex ox oln om oex hnw ha1
          have BB := Lib.hid (Below.refl w.heap.size w)
          go_enter Try.func62, Try.ntmps62
          go_wp2_with fail
          refine (Czb.out _).mono ?_
          rintro e' wm1 ⟨rfl, hb⟩
          have BB := Lib.hid (BB.out.trans (hb.mono BB.out.size))
          clear hb
          go_wp2_with fail
          refine (Cna.out _).mono ?_
          rintro e' wm2 ⟨rfl, hb⟩
          have BB := Lib.hid (BB.out.trans (hb.mono BB.out.size))
          clear hb
          go_wp2_with fail
          refine (Cnb.out _).mono ?_
          rintro e' wm3 ⟨rfl, hb⟩
          have BB := Lib.hid (BB.out.trans (hb.mono BB.out.size))
          clear hb
          go_wp2
          go_ret
          exact ⟨rfl, BB.out⟩
      · simp only [Bool.false_eq_true, if_false, if_true, Bool.or_true, Bool.or_false, Bool.true_or, Bool.false_or, ha1] at hR
        subst hR
        clear hb hzb hna hnb hx hfr hfv hok hn hwp hza hia hsa hsb hln hm hex ox oln om oex hnw ha1
        have BB := Lib.hid (Below.refl w.heap.size w)
        go_enter Try.func62, Try.ntmps62
        go_wp2_with fail
        refine (Czb.out _).mono ?_
        rintro e' wm1 ⟨rfl, hb⟩
        have BB := Lib.hid (BB.out.trans (hb.mono BB.out.size))
        clear hb
        go_wp2_with fail
        refine (Cna.out _).mono ?_
        rintro e' wm2 ⟨rfl, hb⟩
        have BB := Lib.hid (BB.out.trans (hb.mono BB.out.size))
        clear hb
        go_wp2
        go_ret
        exact ⟨rfl, BB.out⟩
  · simp only [if_true] at hR
    subst hR
    clear hb hzb hna hnb hx hfr hfv hok hn hwp hza hia hsa hsb hln hm hex ox oln om oex hnw ha
    have BB := Lib.hid (Below.refl w.heap.size w)
    go_enter Try.func62, Try.ntmps62
    go_wp2_with fail
    refine (Czb.out _).mono ?_
    rintro e' wm1 ⟨rfl, hb⟩
    have BB := Lib.hid (BB.out.trans (hb.mono BB.out.size))
    clear hb
    go_wp2
    go_ret
    exact ⟨rfl, BB.out⟩
end Go.Proofs.Ytlklnmoecagjmaa
/-! ## CURVES: Pow, the document's. -/
namespace Go.Proofs.Ytlklnmoecagjmaa
set_option linter.unusedVariables false
set_option linter.unusedSimpArgs false
open Go.RowKit
theorem rwh_any (b : Nat) (hb : b < 2 ^ 64) (nb : Nm.isNaN b = false) (w : World) : Calls Try.prog 106 #[.int .u64 (b : Int)] w (Gives w (.bool (!Nm.isInf b && !Nm.left b))) := by
  have CI : Hid (∀ w, Calls Try.prog 51 #[.int .u64 (b : Nat)] w (Gives w (.bool (Nm.isInf b)))) := Lib.hid (fun w => (rinf_any b hb w).mono fun _ _ h => gives_of h)
  have CT := Lib.hid (fun w => rtrunc_any b hb w)
  have hl : Nm.isInf b = false → (((Nm.dTrunc b : Nat) : Int) == (b : Int)) = !Nm.left b := fun ib => by
    have fb := Nm.fin_lt nb ib
    cases hl : Nm.left b
    · rw [Nm.trunc_whole hb fb hl]
      simp
    · have h := (Nm.trunc_left hb fb hl).1
      have : Nm.dTrunc b ≠ b := fun e => h (by rw [e])
      simp
      omega
  obtain ⟨t, ht⟩ : ∃ vv, Nm.dTrunc b = vv := ⟨_, rfl⟩
  rw [ht] at CT hl
  obtain ⟨ib, hib⟩ : ∃ vv, Nm.isInf b = vv := ⟨_, rfl⟩
  rw [hib] at CI hl ⊢
  obtain ⟨lf, hlf⟩ : ∃ vv, Nm.left b = vv := ⟨_, rfl⟩
  rw [hlf] at hl ⊢
  clear ht hib hlf hb nb
  cases ib
  · have hl := hl rfl
    have BB := Lib.hid (Below.refl w.heap.size w)
    go_enter Try.func106, Try.ntmps106
    go_wp2_with fail
    refine (CI.out _).mono ?_
    rintro e' wa ⟨rfl, hb⟩
    have BB := Lib.hid (BB.out.trans (hb.mono BB.out.size))
    clear hb
    go_wp2_with fail
    refine (CT.out _).mono ?_
    rintro e' wb ⟨rfl, hb⟩
    have BB := Lib.hid (BB.out.trans (hb.mono BB.out.size))
    clear hb
    cases lf
    · go_wp2
      go_ret
      exact ⟨rfl, BB.out⟩
    · go_wp2
      go_ret
      exact ⟨rfl, BB.out⟩
  · clear hl
    have BB := Lib.hid (Below.refl w.heap.size w)
    go_enter Try.func106, Try.ntmps106
    go_wp2_with fail
    refine (CI.out _).mono ?_
    rintro e' wa ⟨rfl, hb⟩
    have BB := Lib.hid (BB.out.trans (hb.mono BB.out.size))
    clear hb
    go_wp2
    go_ret
    exact ⟨rfl, BB.out⟩
theorem cmp_one {x : Nat} (hx : x < 2 ^ 63) (nx : Nm.isNaN x = false) : Nm.dCmp x 4607182418800017408 = 0 ↔ x = 4607182418800017408 := by
  unfold Nm.dCmp
  rw [nx, show Nm.isNaN 4607182418800017408 = false by decide, key_pos hx, key_pos (x := 4607182418800017408) (by decide)]
  simp only [Bool.or_self, Bool.false_eq_true, if_false]
  constructor
  · intro h
    split at h
    · cases h
    · split at h
      · cases h
      · omega
  · intro h
    rw [if_neg (by omega), if_neg (by omega)]
theorem abs_whole {b : Nat} (nb : Nm.isNaN b = false) (h : dLt 4845873199050653696 (Nm.dAbs b) = false) (hl : Nm.left b = false) : Nm.dWhole (Nm.dAbs b) = (Nm.wv b : Nat) := by
  obtain ⟨ib, hw⟩ := near nb h
  have e : Nm.dAbs b = b % 2 ^ 63 := by unfold Nm.dAbs; rw [nb, if_neg (by decide)]
  have hm : b % 2 ^ 63 % 2 ^ 63 = b % 2 ^ 63 := Nat.mod_mod _ _
  obtain ⟨m1, p1⟩ := Nm.mag_mod hm
  have w1 : Nm.wv (b % 2 ^ 63) = Nm.wv b := by unfold Nm.wv; rw [m1, p1]
  have l1 : Nm.left (b % 2 ^ 63) = false := by rw [← hl]; unfold Nm.left; rw [m1, p1]
  have n1 : Nm.isNaN (b % 2 ^ 63) = false := by rw [← nb]; unfold Nm.isNaN; rw [hm]
  have i1 : Nm.isInf (b % 2 ^ 63) = false := by rw [← ib]; unfold Nm.isInf; rw [hm]
  have g1 : Nm.neg (b % 2 ^ 63) = false := by unfold Nm.neg; have : b % 2 ^ 63 < 2 ^ 63 := Nat.mod_lt _ (by decide); exact decide_eq_false (by omega)
  rw [e]
  unfold Nm.dWhole Nm.fits
  rw [w1, l1, n1, i1, g1, if_neg (show ¬ (false = true) by decide), decide_eq_true (show Nm.wv b < 2 ^ 63 by omega)]
  rfl
theorem near_val {b : Nat} (nb : Nm.isNaN b = false) (h : dLt 4845873199050653696 (Nm.dAbs b) = false) (hl : Nm.left b = false) : Nm.dWhole b = Nm.sg (Nm.neg b) (Nm.wv b) := by
  unfold Nm.dWhole
  rw [near_fits nb h, hl, if_pos (show (!false) = true from rfl)]
theorem wv_pos {b : Nat} (hl : Nm.left b = false) (zb : Nm.nought b = false) : Nm.wv b ≠ 0 := by
  intro h0
  have h := Nm.va_whole hl
  rw [h0, Nat.zero_mul] at h
  rw [Nm.nought_mag] at zb
  have hm := of_decide_eq_false zb
  unfold Nm.va at h
  exact absurd h (Nat.mul_ne_zero hm (Nat.ne_of_gt (Nat.two_pow_pos _)))
/-- a whole power by its sign -/
theorem dWp_sign (a : Nat) {b : Nat} (nb : Nm.isNaN b = false) (h : dLt 4845873199050653696 (Nm.dAbs b) = false) (hl : Nm.left b = false) (zb : Nm.nought b = false) :
    dWp a (Nm.dWhole b) = if Nm.neg b then Nm.dDiv 4607182418800017408 (powL (Nm.wv b) 4607182418800017408 a) else powL (Nm.wv b) 4607182418800017408 a := by
  have hw := wv_pos hl zb
  rw [near_val nb h hl]
  unfold dWp Nm.sg
  cases Nm.neg b
  · simp only [Bool.false_eq_true, if_false]
    rw [if_neg (by omega), Int.natAbs_natCast]
  · simp only [if_true]
    rw [if_pos (by omega), Int.natAbs_neg, Int.natAbs_natCast]
end Go.Proofs.Ytlklnmoecagjmaa
