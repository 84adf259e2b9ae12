/-
  THE RING'S LAWS in the shape that the walk takes.
-/
import Derived.Test.YtffohkpohgkglaaGreatNumL
namespace Go.Proofs.YtffohkpohgkglaaGreat.Nm
set_option linter.unusedVariables false
set_option linter.unusedSimpArgs false
open Ieee
theorem dMul_comm (a b : Nat) : dMul a b = dMul b a := by
  unfold dMul
  have e1 : (neg a != neg b) = (neg b != neg a) := by cases neg a <;> cases neg b <;> rfl
  have e2 : (isNaN a || isNaN b || isInf a && nought b || isInf b && nought a) = (isNaN b || isNaN a || isInf b && nought a || isInf a && nought b) := by
    cases isNaN a <;> cases isNaN b <;> cases isInf a <;> cases isInf b <;> cases nought a <;> cases nought b <;> rfl
  rw [e1, e2, Bool.or_comm (isInf a), Nat.mul_comm, Int.add_comm]
theorem add_nan {a : Nat} (b : Nat) (h : isNaN a = true) : dAdd a b = nan := by unfold dAdd; rw [h]; rfl
theorem mul_nan {a : Nat} (b : Nat) (h : isNaN a = true) : dMul a b = nan := by unfold dMul; rw [h]; rfl
theorem neg_nan {a : Nat} (h : isNaN a = true) : dNeg a = nan := by unfold dNeg; rw [h]; rfl
theorem sub_inf {a : Nat} (ha : a < 2 ^ 64) (h : isInf a = true) : dSub a a = nan := by
  have hn := inf_nan h
  obtain ⟨h1, h2, h3⟩ := neg_facts ha hn
  have h4 : isInf (dNeg a) = true := by rw [isInf_mod h3, h]
  have h5 : (a != dNeg a) = true := by
    rw [inf_same ha h1 h h4, h2]
    cases neg a <;> rfl
  unfold dSub dAdd
  rw [hn, isNaN_mod h3, hn, h, h4, h5]
  rfl
theorem cmp_zero {a : Nat} (hn : isNaN a = false) : (dCmp a 0 == 0) = nought a := by
  have k0 : key 0 = 0 := by decide
  have n0 : isNaN 0 = false := by decide
  unfold dCmp nought
  rw [hn, n0, k0]
  have hk : key a = 0 ↔ a % 2 ^ 63 = 0 := by
    unfold key sg
    split <;> omega
  rw [Bool.eq_iff_iff]
  simp only [Bool.or_self, Bool.false_eq_true, if_false, beq_iff_eq, decide_eq_true_eq]
  rw [← hk]
  constructor
  · intro h
    split at h
    · omega
    split at h
    · omega
    omega
  · intro h
    rw [if_neg (by omega), if_neg (by omega)]
theorem neg_zero_ne {s t : Nat} (h : s = dNeg t) (hs : s = 0) : t ≠ 0 := by
  rintro rfl
  subst hs
  exact absurd h (by decide)
end Go.Proofs.YtffohkpohgkglaaGreat.Nm
