/-
  Quotients and roots: the document's many bits against IEEE's just enough.
-/
import Derived.Test.YtffohkpohgkglaaGreatNumB
namespace Go.Proofs.YtffohkpohgkglaaGreat.Nm
open Ieee
theorem quo_big (m n k : Nat) (hm : 0 < m) (hn : 0 < n) (h : 54 + n.log2 ≤ m.log2 + k) : 2 ^ 53 ≤ m * 2 ^ k / n := by
  rw [Nat.le_div_iff_mul_le hn]
  have h1 := Nat.log2_self_le (n := m) (by omega)
  have h2 : n < 2 ^ (n.log2 + 1) := Nat.lt_log2_self
  have h3 : 2 ^ m.log2 * 2 ^ k ≤ m * 2 ^ k := Nat.mul_le_mul_right _ h1
  rw [← Nat.pow_add] at h3
  have h4 : 2 ^ 53 * n ≤ 2 ^ 53 * 2 ^ (n.log2 + 1) := Nat.mul_le_mul_left _ (by omega)
  rw [← Nat.pow_add] at h4
  exact Nat.le_trans h4 (Nat.le_trans (Nat.pow_le_pow_right (by decide) (by omega)) h3)
theorem nb_ge {n k : Nat} (h : 2 ^ k ≤ n) : k + 1 ≤ nb n := by
  refine Decidable.by_contra fun hk => ?_
  have := (nb_le_iff n k).1 (by omega)
  omega
theorem log2_small {n : Nat} (h : n < 2 ^ 53) : n.log2 ≤ 52 := by
  by_cases h0 : n = 0
  · subst h0; decide
  · have := Nat.log2_self_le h0
    refine Decidable.by_contra fun hk => ?_
    have : 2 ^ 53 ≤ 2 ^ n.log2 := Nat.pow_le_pow_right (by decide) (by omega)
    omega
theorem div_same (m n : Nat) (e : Int) (hm : 0 < m) (hn : 0 < n) (hn2 : n < 2 ^ 53) :
    refRung (m * 2 ^ 120 / n) (e - 120) (m * 2 ^ 120 % n != 0) = rung (quo m n (54 + n.log2 - m.log2)) (e - (54 + n.log2 - m.log2 : Nat) - 1) := by
  have hl := log2_small hn2
  have hb := quo_big m n 120 hm hn (by omega)
  have h1 := quo_big m n (54 + n.log2 - m.log2) hm hn (by omega)
  rw [refRung_more _ _ _ (nb_ge hb)]
  obtain ⟨k, hk⟩ : ∃ k, 54 + n.log2 - m.log2 = k := ⟨_, rfl⟩
  rw [hk] at h1 ⊢
  have h2 := (quo_same m n k (120 - k) (e - (k : Nat) - 1) hn (by unfold quo; omega)).1
  rw [show k + (120 - k) = 120 by omega, show e - (k : Nat) - 1 - ((120 - k : Nat) : Int) = e - 120 - 1 by omega] at h2
  exact h2
/-- the whole root -/
def IsRt (r N : Nat) : Prop := r * r ≤ N ∧ N < (r + 1) * (r + 1)
theorem IsRt.one {r s N : Nat} (h : IsRt r N) (k : IsRt s N) : r = s := by
  rcases Nat.lt_trichotomy r s with h1 | h1 | h1
  · have := Nat.mul_le_mul (show r + 1 ≤ s by omega) (show r + 1 ≤ s by omega)
    have := h.2; have := k.1; omega
  · exact h1
  · have := Nat.mul_le_mul (show s + 1 ≤ r by omega) (show s + 1 ≤ r by omega)
    have := k.2; have := h.1; omega
theorem rootFrom_is (N : Nat) : ∀ (todo r : Nat), r * r ≤ N → N < (r + 2 ^ todo) * (r + 2 ^ todo) → IsRt (Datum.rootFrom N todo r) N
  | 0, r, h1, h2 => by unfold Datum.rootFrom; exact ⟨h1, by simpa using h2⟩
  | todo + 1, r, h1, h2 => by
    unfold Datum.rootFrom
    simp only [Nat.one_shiftLeft]
    have e : r + 2 ^ (todo + 1) = r + 2 ^ todo + 2 ^ todo := by rw [Nat.pow_succ]; omega
    rw [e] at h2
    split
    · rename_i h; exact rootFrom_is N todo _ h h2
    · rename_i h; exact rootFrom_is N todo _ h1 (by omega)
def rt (N : Nat) : Nat := Datum.rootFrom N (N.log2 / 2 + 1) 0
theorem rt_is (N : Nat) : IsRt (rt N) N := by
  refine rootFrom_is N _ 0 (Nat.zero_le _) ?_
  rw [Nat.zero_add, ← Nat.pow_add]
  exact Nat.lt_of_lt_of_le Nat.lt_log2_self (Nat.pow_le_pow_right (by decide) (by omega))
/-- the root, and whether something is left -/
def sqr (N : Nat) : Nat := 2 * rt N + (rt N * rt N != N).toNat
theorem sqr_comp (N : Nat) : comp (sqr (4 * N)) = sqr N := by
  have h := rt_is N
  have k := rt_is (4 * N)
  unfold sqr
  generalize rt (4 * N) = s at *
  generalize rt N = r at *
  obtain ⟨a, b, hs, hb⟩ : ∃ a b, s = 2 * a + b ∧ b < 2 := ⟨s / 2, s % 2, by omega, by omega⟩
  have h4 : ∀ x : Nat, (2 * x) * (2 * x) = 4 * (x * x) := fun x => by
    rw [Nat.mul_mul_mul_comm]
  have ha : IsRt a N := by
    constructor
    · have := Nat.mul_le_mul (show 2 * a ≤ s by omega) (show 2 * a ≤ s by omega)
      rw [h4] at this; have := k.1; omega
    · have := Nat.mul_le_mul (show s + 1 ≤ 2 * (a + 1) by omega) (show s + 1 ≤ 2 * (a + 1) by omega)
      rw [h4] at this; have := k.2; omega
  obtain rfl := ha.one h
  by_cases he : a * a = N
  · have hs2 : IsRt (2 * a) (4 * N) := by
      constructor
      · rw [h4]; omega
      · rw [← he, ← h4]; exact Nat.mul_lt_mul'' (by omega) (by omega)
    have e2 := k.one hs2
    subst e2
    have t1 : (2 * a * (2 * a) != 4 * N).toNat = 0 := by
      have : 2 * a * (2 * a) = 4 * N := by rw [h4, he]
      simp [this]
    have t2 : (a * a != N).toNat = 0 := by simp [he]
    rw [t1, t2]
    unfold comp
    rw [if_pos (by omega)]; omega
  · have t2 : (a * a != N).toNat = 1 := by simp [he]
    rw [t2]
    have hne : ¬ (2 * s + (s * s != 4 * N).toNat) % 4 = 0 := by
      intro h0
      have hle : (s * s != 4 * N).toNat ≤ 1 := by cases (s * s != 4 * N) <;> decide
      have hb0 : b = 0 := by omega
      have ht : (s * s != 4 * N).toNat = 0 := by omega
      have hss : s * s = 4 * N := by
        refine Decidable.by_contra fun hx => ?_
        have : (s * s != 4 * N).toNat = 1 := by simp [hx]
        omega
      subst hb0
      rw [Nat.add_zero] at hs
      rw [hs, h4] at hss
      omega
    have hle : (s * s != 4 * N).toNat ≤ 1 := by cases (s * s != 4 * N) <;> decide
    unfold comp
    rw [if_neg hne]
    omega
theorem sqr_mono (N : Nat) (h : 2 ^ 54 ≤ sqr N) : 2 ^ 55 ≤ sqr (4 * N) := by
  have := sqr_comp N
  unfold comp at this
  split at this <;> omega
theorem sqr_same (N j : Nat) (p : Int) (h : 2 ^ 54 ≤ sqr N) : rung (sqr (N * 2 ^ (2 * j))) (p - j) = rung (sqr N) p ∧ 2 ^ 54 ≤ sqr (N * 2 ^ (2 * j)) := by
  induction j with
  | zero => exact ⟨by simp, by simpa using h⟩
  | succ j ih =>
    obtain ⟨ih1, ih2⟩ := ih
    have e : N * 2 ^ (2 * (j + 1)) = 4 * (N * 2 ^ (2 * j)) := by
      rw [show 2 * (j + 1) = 2 * j + 1 + 1 from rfl, Nat.pow_succ, Nat.pow_succ, ← Nat.mul_assoc, ← Nat.mul_assoc]; omega
    have h1 := sqr_mono _ ih2
    have hl : 55 ≤ (sqr (4 * (N * 2 ^ (2 * j)))).log2 := (Nat.le_log2 (by omega)).2 h1
    refine ⟨?_, by rw [e]; omega⟩
    rw [← ih1, e, rung_comp _ _ hl, sqr_comp]
    congr 1; omega
theorem rt_ge {N k : Nat} (h : 2 ^ (2 * k) ≤ N) : 2 ^ k ≤ rt N := by
  refine Decidable.by_contra fun hk => ?_
  have h1 := (rt_is N).2
  have h2 := Nat.mul_le_mul (show rt N + 1 ≤ 2 ^ k by omega) (show rt N + 1 ≤ 2 ^ k by omega)
  rw [← Nat.pow_add, ← Nat.two_mul] at h2
  omega
/-- 'k' is 120 or 121 so that e - k is even; 'd' is how many IEEE takes -/
theorem sqrt_same (m k d : Nat) (e : Int) (hm : 0 < m) (hk : 120 ≤ k) (hd : d ≤ k) (hd2 : 106 ≤ m.log2 + d) (h1 : (e - k) % 2 = 0) (h2 : (e - d) % 2 = 0) :
    refRung (rt (m * 2 ^ k)) ((e - k) / 2) (rt (m * 2 ^ k) * rt (m * 2 ^ k) != m * 2 ^ k) = rung (sqr (m * 2 ^ d)) ((e - d) / 2 - 1) := by
  have hb : 2 ^ 60 ≤ rt (m * 2 ^ k) := by
    refine rt_ge (Nat.le_trans ?_ (Nat.le_mul_of_pos_left _ hm))
    exact Nat.pow_le_pow_right (by decide) (by omega)
  rw [refRung_more _ _ _ (by have := nb_ge hb; omega)]
  have hs : 2 ^ 53 ≤ rt (m * 2 ^ d) := by
    refine rt_ge ?_
    have h3 := Nat.mul_le_mul_right (2 ^ d) (Nat.log2_self_le (n := m) (by omega))
    rw [← Nat.pow_add] at h3
    exact Nat.le_trans (Nat.pow_le_pow_right (by decide) (by omega)) h3
  obtain ⟨j, hj⟩ : ∃ j, k = d + 2 * j := ⟨(k - d) / 2, by omega⟩
  have h4 := (sqr_same (m * 2 ^ d) j ((e - d) / 2 - 1) (by unfold sqr; omega)).1
  rw [Nat.mul_assoc, ← Nat.pow_add, ← hj] at h4
  rw [← h4]
  show rung (sqr (m * 2 ^ k)) _ = _
  congr 1
  omega
end Go.Proofs.YtffohkpohgkglaaGreat.Nm
