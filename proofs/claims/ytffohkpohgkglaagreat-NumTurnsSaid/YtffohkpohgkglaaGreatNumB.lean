/-
  ROUNDING where something besides is lost; quotients to as many bits as one likes.
-/
import Derived.Test.YtffohkpohgkglaaGreatNumA
namespace Go.Proofs.YtffohkpohgkglaaGreat.Nm
open Ieee
theorem log2_of {n k : Nat} (h1 : 2 ^ k ≤ n) (h2 : n < 2 ^ (k + 1)) : n.log2 = k := by
  have hn : n ≠ 0 := by have := Nat.two_pow_pos k; omega
  exact (Nat.log2_eq_iff hn).2 ⟨h1, h2⟩
theorem kept_more (n : Nat) (e : Int) (t : Bool) (h : 54 ≤ nb n) : kept n e t = cutE (2 * n + t.toNat) ((los n e).toNat + 1) := by
  have hs : (nb n : Int) - 53 ≤ los n e := Int.le_max_left _ _
  unfold kept
  rw [if_pos (by omega)]
  obtain ⟨s, hs2⟩ : ∃ s, (los n e).toNat = s := ⟨_, rfl⟩
  rw [hs2]
  have hs0 : 0 < s := by omega
  clear hs hs2 h
  have hp : (2 : Nat) ^ (s + 1) = 2 * 2 ^ s := by rw [Nat.pow_succ, Nat.mul_comm]
  have hd : (2 * n + t.toNat) / 2 ^ (s + 1) = n / 2 ^ s := by
    rw [hp, ← Nat.div_div_eq_div_mul]
    congr 1
    cases t <;> simp <;> omega
  have hm : (2 * n + t.toNat) % 2 ^ (s + 1) = t.toNat + 2 * (n % 2 ^ s) := by
    rw [hp, Nat.mod_mul]
    have e1 : (2 * n + t.toNat) % 2 = t.toNat := by cases t <;> simp <;> omega
    have e2 : (2 * n + t.toNat) / 2 = n := by cases t <;> simp <;> omega
    rw [e1, e2]
  cases t
  · rw [goes_false n s hs0]
    unfold cutE
    rw [hd, hm, hp]
    simp only [Bool.toNat_false, Nat.zero_add]
    congr 1
    apply ite_congr _ (fun _ => rfl) (fun _ => rfl)
    apply propext
    omega
  · unfold cutE
    rw [hd, hm]
    congr 1
    unfold goes
    rw [testBit_half n s hs0]
    obtain ⟨t, rfl⟩ : ∃ t, s = t + 1 := ⟨s - 1, by omega⟩
    have hp2 : (2 : Nat) ^ (t + 1) = 2 * 2 ^ t := by rw [Nat.pow_succ, Nat.mul_comm]
    by_cases hc : 2 ^ (t + 1) ≤ 2 * (n % 2 ^ (t + 1))
    · rw [if_pos (.inl (by simp only [Bool.toNat_true]; omega))]; simp [hc]
    · rw [if_neg (by simp only [Bool.toNat_true]; omega)]; simp [hc]
theorem refRung_more (n : Nat) (e : Int) (t : Bool) (h : 54 ≤ nb n) : refRung n e t = rung (2 * n + t.toNat) (e - 1) := by
  have hn : n ≠ 0 := by rintro rfl; simp [nb] at h
  have hs : (nb n : Int) - 53 ≤ los n e := Int.le_max_left _ _
  have ht : t.toNat ≤ 1 := by cases t <;> decide
  have hlog : (2 * n + t.toNat).log2 = n.log2 + 1 := by
    have h1 := Nat.log2_self_le hn
    have h2 : n < 2 ^ (n.log2 + 1) := Nat.lt_log2_self
    refine log2_of ?_ ?_
    · rw [Nat.pow_succ]; omega
    · rw [Nat.pow_succ 2 (n.log2 + 1)]; omega
  have hl : last (2 * n + t.toNat) (e - 1) = last n e := by unfold last; rw [hlog]; omega
  have h3 := los_last n e hn
  rw [refRung_kept n e t hn, kept_more n e t h]
  unfold rung
  rw [hl, show (e - 1 - last n e).toNat = 0 by omega, show (last n e - (e - 1)).toNat = (los n e).toNat + 1 by omega, Nat.pow_zero, Nat.mul_one]
/-- two bits more of which only whether they are 0 is kept -/
def comp (y : Nat) : Nat := 2 * (y / 4) + (if y % 4 = 0 then 0 else 1)
theorem cut_comp (y s : Nat) : cutE y (s + 3) = cutE (comp y) (s + 2) := by
  have h1 : (2 : Nat) ^ (s + 3) = 4 * (2 * 2 ^ s) := by rw [show s + 3 = s + 1 + 1 + 1 from rfl, Nat.pow_succ, Nat.pow_succ, Nat.pow_succ]; omega
  have h2 : (2 : Nat) ^ (s + 2) = 2 * (2 * 2 ^ s) := by rw [show s + 2 = s + 1 + 1 from rfl, Nat.pow_succ, Nat.pow_succ]; omega
  have c1 : comp y / 2 = y / 4 := by unfold comp; split <;> omega
  have c2 : comp y % 2 = (if y % 4 = 0 then 0 else 1) := by unfold comp; split <;> omega
  have d1 : y / 2 ^ (s + 3) = y / 4 / (2 * 2 ^ s) := by rw [h1, Nat.div_div_eq_div_mul]
  have d2 : comp y / 2 ^ (s + 2) = y / 4 / (2 * 2 ^ s) := by rw [h2, ← Nat.div_div_eq_div_mul, c1]
  have m1 : y % 2 ^ (s + 3) = y % 4 + 4 * (y / 4 % (2 * 2 ^ s)) := by rw [h1, Nat.mod_mul]
  have m2 : comp y % 2 ^ (s + 2) = (if y % 4 = 0 then 0 else 1) + 2 * (y / 4 % (2 * 2 ^ s)) := by rw [h2, Nat.mod_mul, c1, c2]
  unfold cutE
  rw [d1, d2, m1, m2, h1, h2]
  congr 1
  apply ite_congr _ (fun _ => rfl) (fun _ => rfl)
  apply propext
  generalize y / 4 % (2 * 2 ^ s) = z
  generalize 2 ^ s = T
  split <;> omega
theorem rung_comp (y : Nat) (p : Int) (h : 55 ≤ y.log2) : rung y p = rung (comp y) (p + 1) := by
  have hy : y ≠ 0 := by rintro rfl; simp at h
  have h1 := Nat.log2_self_le hy
  have h2 : y < 2 ^ (y.log2 + 1) := Nat.lt_log2_self
  obtain ⟨L, hL⟩ : ∃ L, y.log2 = L + 2 := ⟨y.log2 - 2, by omega⟩
  have hlog : (comp y).log2 = L + 1 := by
    rw [hL] at h1 h2
    have e1 : (2 : Nat) ^ (L + 2 + 1) = 4 * (2 * 2 ^ L) := by rw [Nat.pow_succ, Nat.pow_succ, Nat.pow_succ]; omega
    have e2 : (2 : Nat) ^ (L + 2) = 4 * 2 ^ L := by rw [Nat.pow_succ, Nat.pow_succ]; omega
    have e3 : (2 : Nat) ^ (L + 1) = 2 * 2 ^ L := by rw [Nat.pow_succ]; omega
    refine log2_of ?_ ?_
    · rw [e3]; unfold comp; omega
    · rw [show L + 1 + 1 = L + 2 from rfl, e2]; unfold comp; split <;> omega
  have hl : last (comp y) (p + 1) = last y p := by unfold last; rw [hlog, hL]; omega
  have hle : p + y.log2 - 52 ≤ last y p := Int.le_max_left _ _
  unfold rung
  rw [hl, show (p - last y p).toNat = 0 by omega, show (p + 1 - last y p).toNat = 0 by omega, Nat.pow_zero, Nat.mul_one, Nat.mul_one]
  obtain ⟨s, hs⟩ : ∃ s, (last y p - p).toNat = s + 3 := ⟨(last y p - p).toNat - 3, by omega⟩
  rw [hs, show (last y p - (p + 1)).toNat = s + 2 by omega, cut_comp]
/-- a quotient to k bits behind the point, and whether something is left -/
def quo (m n k : Nat) : Nat := 2 * (m * 2 ^ k / n) + (m * 2 ^ k % n != 0).toNat
theorem quo_comp (m n k : Nat) (hn : 0 < n) : comp (quo m n (k + 1)) = quo m n k := by
  unfold quo
  rw [Nat.pow_succ, ← Nat.mul_assoc]
  generalize m * 2 ^ k = D
  have h1 : D * 2 = n * (2 * (D / n)) + 2 * (D % n) := by
    have := Nat.div_add_mod D n
    calc D * 2 = 2 * (n * (D / n) + D % n) := by rw [this]; omega
      _ = _ := by rw [Nat.mul_add, ← Nat.mul_assoc, ← Nat.mul_assoc, Nat.mul_comm 2 n]
  have hr := Nat.mod_lt D hn
  by_cases hc : n ≤ 2 * (D % n)
  · have h2 : D * 2 = n * (2 * (D / n) + 1) + (2 * (D % n) - n) := by rw [h1, Nat.mul_add, Nat.mul_one]; omega
    have q : D * 2 / n = 2 * (D / n) + 1 := by
      rw [h2, Nat.mul_add_div hn, Nat.div_eq_of_lt (show 2 * (D % n) - n < n by omega), Nat.add_zero]
    have r : D * 2 % n = 2 * (D % n) - n := by rw [h2, Nat.mul_add_mod, Nat.mod_eq_of_lt (show 2 * (D % n) - n < n by omega)]
    have hne : D % n ≠ 0 := by omega
    rw [q, r]
    have : (D % n != 0).toNat = 1 := by simp [hne]
    rw [this]
    unfold comp
    have : (2 * (D % n) - n != 0).toNat ≤ 1 := by cases (2 * (D % n) - n != 0) <;> decide
    rw [if_neg (by omega)]
    omega
  · have q : D * 2 / n = 2 * (D / n) := by
      rw [h1, Nat.mul_add_div hn, Nat.div_eq_of_lt (show 2 * (D % n) < n by omega), Nat.add_zero]
    have r : D * 2 % n = 2 * (D % n) := by rw [h1, Nat.mul_add_mod, Nat.mod_eq_of_lt (show 2 * (D % n) < n by omega)]
    rw [q, r]
    unfold comp
    by_cases h0 : D % n = 0
    · rw [h0]
      have : (2 * 0 != 0).toNat = 0 := by decide
      rw [this]
      rw [if_pos (by omega)]
      omega
    · have : (2 * (D % n) != 0).toNat = 1 := by
        have : 2 * (D % n) ≠ 0 := by omega
        simp [this]
      rw [this]
      have : (D % n != 0).toNat = 1 := by simp [h0]
      rw [this, if_neg (by omega)]
      omega
theorem quo_mono (m n k : Nat) (hn : 0 < n) (h : 2 ^ 54 ≤ quo m n k) : 2 ^ 55 ≤ quo m n (k + 1) := by
  have := quo_comp m n k hn
  unfold comp at this
  split at this <;> omega
theorem quo_same (m n k j : Nat) (p : Int) (hn : 0 < n) (h : 2 ^ 54 ≤ quo m n k) : rung (quo m n (k + j)) (p - j) = rung (quo m n k) p ∧ 2 ^ 54 ≤ quo m n (k + j) := by
  induction j with
  | zero => exact ⟨by simp, h⟩
  | succ j ih =>
    obtain ⟨ih1, ih2⟩ := ih
    have h1 := quo_mono m n (k + j) hn ih2
    have hl : 55 ≤ (quo m n (k + j + 1)).log2 := (Nat.le_log2 (by omega)).2 h1
    refine ⟨?_, by rw [← Nat.add_assoc]; omega⟩
    rw [← ih1, ← Nat.add_assoc, rung_comp _ _ hl, quo_comp m n (k + j) hn]
    congr 1; omega
end Go.Proofs.YtffohkpohgkglaaGreat.Nm
