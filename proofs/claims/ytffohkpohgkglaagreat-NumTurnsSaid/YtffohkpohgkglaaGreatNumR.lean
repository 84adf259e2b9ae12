/-
  A WHOLE NUMBER IS FOUND AGAIN.
-/
import Derived.Test.YtffohkpohgkglaaGreatNumQ
namespace Go.Proofs.YtffohkpohgkglaaGreat.Nm
set_option linter.unusedVariables false
set_option linter.unusedSimpArgs false
theorem rest_lt (x : Nat) : (if 0 ≤ plc x then 0 else mag x % 2 ^ (-plc x).toNat * 2 ^ (plc x + 1074).toNat) < U := by
  have hp := plc_ge x
  by_cases h : 0 ≤ plc x
  · rw [if_pos h]; exact U_pos
  · rw [if_neg h, U_split (plc x) hp (by omega)]
    exact Nat.mul_lt_mul_of_pos_right (Nat.mod_lt _ (Nat.two_pow_pos _)) (Nat.two_pow_pos _)
theorem whole_of {x n : Nat} (h : va x = n * U) : wv x = n ∧ left x = false := by
  have h1 := va_wv x
  have h2 := rest_lt x
  have hU := U_pos
  rw [h] at h1
  generalize hr : (if 0 ≤ plc x then 0 else mag x % 2 ^ (-plc x).toNat * 2 ^ (plc x + 1074).toNat) = r at *
  have hw : wv x = n := by
    rcases Nat.lt_trichotomy (wv x) n with h3 | h3 | h3
    · have := Nat.mul_le_mul_right U (show wv x + 1 ≤ n from h3)
      rw [Nat.add_mul, Nat.one_mul] at this
      omega
    · exact h3
    · have := Nat.mul_le_mul_right U (show n + 1 ≤ wv x from h3)
      rw [Nat.add_mul, Nat.one_mul] at this
      omega
  refine ⟨hw, ?_⟩
  rw [hw] at h1
  have hr0 : r = 0 := by omega
  rw [hr0] at hr
  unfold left
  by_cases hp : 0 ≤ plc x
  · rw [if_pos hp]
  · rw [if_neg hp] at hr ⊢
    rcases Nat.mul_eq_zero.1 hr with h4 | h4
    · rw [h4]; rfl
    · have := Nat.two_pow_pos (plc x + 1074).toNat; omega
theorem int_back (n : Int) (h1 : -9007199254740992 ≤ n) (h2 : n ≤ 9007199254740992) : fits (round (decide (n < 0)) n.natAbs 0 false) = true ∧ dWhole (round (decide (n < 0)) n.natAbs 0 false) = n := by
  by_cases ha : n.natAbs < 2 ^ 53
  · obtain ⟨w1, w2, w3, w4⟩ := whl_facts (decide (n < 0)) n.natAbs ha
    unfold whl at w1 w2 w3 w4
    generalize round (decide (n < 0)) n.natAbs 0 false = x at *
    obtain ⟨q1, q2⟩ := whole_of w1
    obtain ⟨n1, n2⟩ := fin_nan w2
    have hf : fits x = true := by
      unfold fits
      rw [n1, n2, q2, q1]
      split
      · simp; omega
      · simp; omega
    refine ⟨hf, ?_⟩
    unfold dWhole
    rw [hf, if_pos rfl, w3, q1]
    unfold sg
    by_cases hn : n < 0
    · rw [decide_eq_true hn, if_pos rfl]; omega
    · rw [decide_eq_false hn, if_neg (by decide)]; omega
  · have : n = 9007199254740992 ∨ n = -9007199254740992 := by omega
    rcases this with rfl | rfl
    · exact ⟨by decide +kernel, by decide +kernel⟩
    · exact ⟨by decide +kernel, by decide +kernel⟩
end Go.Proofs.YtffohkpohgkglaaGreat.Nm
