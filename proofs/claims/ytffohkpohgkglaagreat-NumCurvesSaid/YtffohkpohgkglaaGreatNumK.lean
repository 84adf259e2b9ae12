/-
  RESULTS ARE CLEAN: they fit 64 bits, and a NaN among them is the one.
-/
import Derived.Test.YtffohkpohgkglaaGreatNumJ
namespace Go.Proofs.YtffohkpohgkglaaGreat.Nm
set_option linter.unusedVariables false
set_option linter.unusedSimpArgs false
open Ieee
/-- fits, and is no other NaN -/
def Ok (x : Nat) : Prop := x < 2 ^ 64 ∧ (isNaN x = true → x = nan)
theorem ok_of {x : Nat} (h : x < 2 ^ 64) (n : isNaN x = false) : Ok x := ⟨h, fun e => by rw [n] at e; cases e⟩
theorem ok_nan : Ok nan := ⟨nan_lt, fun _ => rfl⟩
theorem ok_round (s : Bool) (n : Nat) (e : Int) (m : Bool) : Ok (round s n e m) := ok_of (round_lt s n e m) (round_nan s n e m)
theorem ok_word (s : Bool) : Ok (word s inf) := ok_of (word_lt s (Nat.le_refl _)) (word_nan s (Nat.le_refl _))
theorem ok_zero : Ok 0 := ok_of (by decide) (by decide)
theorem inf_nan {x : Nat} (h : isInf x = true) : isNaN x = false := by
  unfold isInf at h
  unfold isNaN
  simp at h ⊢
  omega
theorem ok_inf {x : Nat} (hx : x < 2 ^ 64) (h : isInf x = true) : Ok x := ok_of hx (inf_nan h)
theorem nought_nan {x : Nat} (h : nought x = true) : isNaN x = false := by
  unfold nought at h
  unfold isNaN inf
  simp at h ⊢
  omega
theorem ok_add (a b : Nat) (ha : a < 2 ^ 64) (hb : b < 2 ^ 64) : Ok (dAdd a b) := by
  unfold dAdd
  split
  · exact ok_nan
  split
  · exact ok_inf ha (by assumption)
  split
  · exact ok_inf hb (by assumption)
  simp only []
  split
  · exact ok_round _ _ _ _
  split
  · exact ok_zero
  split
  · exact ok_round _ _ _ _
  · exact ok_round _ _ _ _
theorem ok_mul (a b : Nat) : Ok (dMul a b) := by
  unfold dMul
  split
  · exact ok_nan
  split
  · exact ok_word _
  · exact ok_round _ _ _ _
theorem ok_div (a b : Nat) : Ok (dDiv a b) := by
  unfold dDiv
  split
  · exact ok_nan
  split
  · exact ok_word _
  split
  · exact ok_round _ _ _ _
  · exact ok_round _ _ _ _
theorem ok_sqrt (a : Nat) (ha : a < 2 ^ 64) : Ok (dSqrt a) := by
  unfold dSqrt
  split
  · exact ok_nan
  split
  · exact ok_of ha (nought_nan (by assumption))
  split
  · exact ok_nan
  split
  · exact ok_inf ha (by assumption)
  · exact ok_round _ _ _ _
theorem ok_step (a : Nat) (one : Bool) (ha : a < 2 ^ 64) : Ok (dStep a one) := by
  unfold dStep
  split
  · exact ok_nan
  split
  · exact ok_inf ha (by assumption)
  · exact ok_round _ _ _ _
theorem neg_lt (a : Nat) (ha : a < 2 ^ 64) : dNeg a < 2 ^ 64 := by
  unfold dNeg neg
  split
  · exact nan_lt
  split
  · omega
  · simp at *; omega
theorem ok_neg (a : Nat) (ha : a < 2 ^ 64) : Ok (dNeg a) := by
  cases h : isNaN a
  · obtain ⟨h1, h2, h3⟩ := neg_facts ha h
    exact ok_of h1 (by rw [isNaN_mod h3, h])
  · unfold dNeg; rw [h, if_pos rfl]; exact ok_nan
theorem ok_abs (a : Nat) (ha : a < 2 ^ 64) : Ok (dAbs a) := by
  cases h : isNaN a
  · unfold dAbs
    rw [h]
    refine ok_of (by simp; omega) ?_
    simp only [Bool.false_eq_true, if_false]
    rw [isNaN_mod (y := a) (by omega), h]
  · unfold dAbs; rw [h, if_pos rfl]; exact ok_nan
/-- one NaN for all -/
def tidy (x : Nat) : Nat := if isNaN x then nan else x
theorem tidy_ok {x : Nat} (h : Ok x) : tidy x = x := by
  unfold tidy
  cases hn : isNaN x
  · simp
  · rw [if_pos rfl, h.2 hn]
theorem tidy_nan {x : Nat} (h : isNaN x = true) : tidy x = nan := by unfold tidy; rw [if_pos h]
theorem ok_tidy (x : Nat) (h : x < 2 ^ 64) : Ok (tidy x) := by
  unfold tidy
  cases hn : isNaN x
  · exact ok_of (by simpa using h) (by simpa using hn)
  · exact ok_nan
/-- what the tape gives in place of no number is a NaN -/
theorem wild_nan (t : Nat) : isNaN ((t % 2) * 2 ^ 63 + 0x7ff0000000000000 + 1 + (t / 2) % (2 ^ 52 - 1)) = true ∧ (t % 2) * 2 ^ 63 + 0x7ff0000000000000 + 1 + (t / 2) % (2 ^ 52 - 1) < 2 ^ 64 := by
  have h1 : (t / 2) % (2 ^ 52 - 1) < 2 ^ 52 - 1 := Nat.mod_lt _ (by decide)
  unfold isNaN inf
  simp only [decide_eq_true_eq]
  rcases Nat.mod_two_eq_zero_or_one t with h | h <;> rw [h] <;> omega
end Go.Proofs.YtffohkpohgkglaaGreat.Nm
