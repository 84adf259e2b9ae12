/-
  ROUNDING KEEPS ORDER, in the shape that the walk takes.
-/
import Derived.Test.YtffohkpohgkglaaGreatNumM
namespace Go.Proofs.YtffohkpohgkglaaGreat.Nm
set_option linter.unusedVariables false
set_option linter.unusedSimpArgs false
open Ieee
theorem cmp_le {x y : Nat} (h : isNaN x = false → isNaN y = false → key x ≤ key y) : dCmp x y ≤ 0 := by
  unfold dCmp
  cases h1 : isNaN x <;> cases h2 : isNaN y <;> simp only [Bool.or_self, Bool.or_true, Bool.true_or, Bool.or_false, Bool.false_or, if_true, Bool.false_eq_true, if_false, Int.le_refl]
  have := h h1 h2
  split
  · omega
  split <;> omega
theorem cmp_ok {x y : Nat} (h : dCok x y = true) : isNaN x = false ∧ isNaN y = false := by
  unfold dCok at h
  cases h1 : isNaN x <;> cases h2 : isNaN y <;> simp_all
theorem cmp_key {x y : Nat} (h : dCok x y = true) (hd : ¬ 0 < dCmp x y) : key x ≤ key y := by
  obtain ⟨h1, h2⟩ := cmp_ok h
  unfold dCmp at hd
  rw [h1, h2] at hd
  simp only [Bool.or_self, Bool.false_eq_true, if_false] at hd
  refine Decidable.by_contra fun hk => hd ?_
  rw [if_neg (by omega), if_pos (by omega)]
  decide
theorem add_nan2 {b : Nat} (a : Nat) (h : isNaN b = true) : dAdd a b = nan := by
  unfold dAdd; rw [h]; simp
theorem neg_isnan (b : Nat) : isNaN (dNeg b) = isNaN b ∨ isNaN b = true := by
  cases h : isNaN b
  · left
    unfold dNeg isNaN
    unfold isNaN at h
    rw [h]
    unfold neg
    simp only [Bool.false_eq_true, if_false]
    simp at h
    split <;> simp <;> omega
  · right; rfl
/-- sums -/
theorem rises_add {a b c : Nat} (hok : dCok a b = true) (hd : ¬ 0 < dCmp a b) : dCok (dAdd a c) (dAdd b c) = false ∨ dCok (dAdd a c) (dAdd b c) = true ∧ dCmp (dAdd a c) (dAdd b c) ≤ 0 := by
  obtain ⟨na, nb'⟩ := cmp_ok hok
  have hk := cmp_key hok hd
  cases h : dCok (dAdd a c) (dAdd b c)
  · exact .inl rfl
  · refine .inr ⟨rfl, cmp_le fun r1 r2 => ?_⟩
    cases nc : isNaN c
    · exact add_mono na nb' nc hk r1 r2
    · rw [add_nan2 a nc] at r1; cases r1
/-- differences -/
theorem rises_sub {a b c : Nat} (ha : a < 2 ^ 64) (hb : b < 2 ^ 64) (hc : c < 2 ^ 64) (hok : dCok a b = true) (hd : ¬ 0 < dCmp a b) : dCok (dSub c b) (dSub c a) = false ∨ dCok (dSub c b) (dSub c a) = true ∧ dCmp (dSub c b) (dSub c a) ≤ 0 := by
  obtain ⟨na, nb'⟩ := cmp_ok hok
  have hk := cmp_key hok hd
  obtain ⟨la, _, ma⟩ := neg_facts ha na
  obtain ⟨lb, _, mb⟩ := neg_facts hb nb'
  have hok2 : dCok (dNeg b) (dNeg a) = true := by unfold dCok; rw [isNaN_mod ma, isNaN_mod mb, na, nb']; rfl
  have hd2 : ¬ 0 < dCmp (dNeg b) (dNeg a) := by
    have := cmp_le (x := dNeg b) (y := dNeg a) (fun _ _ => by rw [key_neg ha na, key_neg hb nb']; omega)
    omega
  have := rises_add (c := c) hok2 hd2
  unfold dSub
  rw [dAdd_comm c (dNeg b) hc lb, dAdd_comm c (dNeg a) hc la]
  exact this
theorem abs_facts {a : Nat} (na : isNaN a = false) : dAbs a < 2 ^ 63 ∧ isNaN (dAbs a) = false ∧ neg (dAbs a) = false := by
  unfold dAbs
  rw [na]
  simp only [Bool.false_eq_true, if_false]
  have h : a % 2 ^ 63 < 2 ^ 63 := Nat.mod_lt _ (by decide)
  refine ⟨h, by rw [isNaN_mod (y := a) (Nat.mod_mod _ _), na], ?_⟩
  unfold neg
  rw [decide_eq_false_iff_not]
  omega
/-- roots -/
theorem rises_root {a b : Nat} (hok : dCok a b = true) :
    dCok (dSqrt (dAbs a)) (dSqrt (dAbs b)) = true ∧ dCok (dAbs a) (dAbs b) = true ∧ (dCmp (dSqrt (dAbs a)) (dSqrt (dAbs b)) = 0 ∨ dCmp (dSqrt (dAbs a)) (dSqrt (dAbs b)) ≠ 0 ∧ dCmp (dSqrt (dAbs a)) (dSqrt (dAbs b)) = dCmp (dAbs a) (dAbs b)) := by
  obtain ⟨na, nb'⟩ := cmp_ok hok
  obtain ⟨_, a2, a3⟩ := abs_facts na
  obtain ⟨_, b2, b3⟩ := abs_facts nb'
  generalize dAbs a = x at *
  generalize dAbs b = y at *
  have sx := sqrt_mono a2 a2 a3 a3 (Int.le_refl _)
  have sy := sqrt_mono b2 b2 b3 b3 (Int.le_refl _)
  have h1 : key x ≤ key y → key (dSqrt x) ≤ key (dSqrt y) := fun h => (sqrt_mono a2 b2 a3 b3 h).1
  have h2 : key y ≤ key x → key (dSqrt y) ≤ key (dSqrt x) := fun h => (sqrt_mono b2 a2 b3 a3 h).1
  unfold dCok dCmp
  rw [sx.2, sy.2, a2, b2]
  refine ⟨rfl, rfl, ?_⟩
  simp only [Bool.or_self, Bool.false_eq_true, if_false]
  rcases Int.lt_trichotomy (key (dSqrt x)) (key (dSqrt y)) with h | h | h
  · right
    rw [if_pos h, if_pos (by omega)]
    exact ⟨by decide, rfl⟩
  · left
    rw [if_neg (by omega), if_neg (by omega)]
  · right
    rw [if_neg (by omega), if_pos h, if_neg (by omega), if_pos (by omega)]
    exact ⟨by decide, rfl⟩
end Go.Proofs.YtffohkpohgkglaaGreat.Nm
