/-
  ROUNDING: the document's own way (whole numbers, a bit to be lost, something besides) against IEEE's.
-/
import Ieee.Arith
namespace Go.Proofs.YtffohkpohgkglaaGreat.Nm
open Ieee
/-- n by 2^s, to the nearest, of two the even one -/
def cutE (n s : Nat) : Nat := n / 2 ^ s + (if 2 ^ s < 2 * (n % 2 ^ s) ∨ (2 ^ s = 2 * (n % 2 ^ s) ∧ n / 2 ^ s % 2 = 1) then 1 else 0)
theorem cut_eq (neg : Bool) (n s : Nat) : Toward.even.cut neg n s = cutE n s := by
  unfold Toward.cut cutE
  simp only [Nat.one_shiftLeft]
  by_cases h : s ≤ n.log2 + 2
  · rw [Nat.min_eq_left h]
    by_cases h1 : 2 ^ s < 2 * (n % 2 ^ s)
    · simp [h1]
    · by_cases h2 : 2 ^ s = 2 * (n % 2 ^ s)
      · by_cases h3 : n / 2 ^ s % 2 = 1
        · simp [← h2, h3]
        · simp [← h2, h3]
      · simp [h1, h2]
  · have hn : n < 2 ^ (n.log2 + 1) := Nat.lt_log2_self
    have hp : 2 ^ (n.log2 + 2) = 2 * 2 ^ (n.log2 + 1) := by rw [Nat.pow_succ, Nat.mul_comm]
    have hq : 2 ^ (n.log2 + 2) ≤ 2 ^ s := Nat.pow_le_pow_right (by decide) (by omega)
    rw [Nat.min_eq_right (by omega)]
    have d1 : n / 2 ^ (n.log2 + 2) = 0 := Nat.div_eq_of_lt (by omega)
    have d2 : n / 2 ^ s = 0 := Nat.div_eq_of_lt (by omega)
    have m1 : n % 2 ^ (n.log2 + 2) = n := Nat.mod_eq_of_lt (by omega)
    have m2 : n % 2 ^ s = n := Nat.mod_eq_of_lt (by omega)
    have c1 : ¬ 2 ^ (n.log2 + 2) < 2 * n := by omega
    have c2 : ¬ 2 ^ s < 2 * n := by omega
    rw [d1, d2, m1, m2]
    simp [c1, c2]
/-- the rung of a number that is not 0 -/
def last (n : Nat) (e : Int) : Int := max (e + n.log2 - 52) (-1074)
def rung (n : Nat) (e : Int) : Nat := min ((last n e + 1074).toNat * 2 ^ 52 + cutE (n * 2 ^ (e - last n e).toNat) (last n e - e).toNat) (2047 * 2 ^ 52)
def word (neg : Bool) (r : Nat) : Nat := if neg then 2 ^ 63 + r else r
theorem nearest_eq (neg : Bool) (n : Nat) (e : Int) (h : n ≠ 0) : Format.nearest double neg n e = word neg (rung n e) := by
  unfold Format.nearest rung word Format.word
  rw [if_neg h]
  have h1 : double.leastPlace = -1074 := by decide
  have h2 : double.binade = 2 ^ 52 := by rfl
  have h3 : double.infRung = 2047 * 2 ^ 52 := by rfl
  have h4 : double.signWeight = 2 ^ 63 := by rfl
  have h5 : double.fractionBits = 52 := rfl
  simp only [h1, h2, h3, h4, h5, cut_eq, Nat.shiftLeft_eq]
  have e1 : max (e + ↑n.log2 - ((52 : Nat) : Int)) (-1074) = last n e := rfl
  rw [e1]
  have e2 : last n e - -1074 = last n e + 1074 := by omega
  rw [e2]
theorem nearest_zero (neg : Bool) (e : Int) : Format.nearest double neg 0 e = word neg 0 := by
  unfold Format.nearest word Format.word
  rw [if_pos rfl]; rfl
/-- how many bits -/
def nb (n : Nat) : Nat := if n = 0 then 0 else n.log2 + 1
theorem nb_lt (n : Nat) : n < 2 ^ nb n := by
  unfold nb
  split
  · subst_vars; decide
  · exact Nat.lt_log2_self
theorem nb_le {n : Nat} (h : n ≠ 0) : 2 ^ (nb n - 1) ≤ n := by
  unfold nb
  rw [if_neg h, Nat.add_sub_cancel]
  exact Nat.log2_self_le h
theorem nb_le_iff (n k : Nat) : nb n ≤ k ↔ n < 2 ^ k := by
  constructor
  · intro h; exact Nat.lt_of_lt_of_le (nb_lt n) (Nat.pow_le_pow_right (by decide) h)
  · intro h
    by_cases h0 : n = 0
    · subst h0; simp [nb]
    · refine Decidable.by_contra fun hk => ?_
      have h1 := nb_le h0
      have h2 : 2 ^ k ≤ 2 ^ (nb n - 1) := Nat.pow_le_pow_right (by decide) (by omega)
      omega
/-- the document's way: how much is lost, what is kept, the rung -/
def los (n : Nat) (e : Int) : Int := max ((nb n : Int) - 53) (-1074 - e)
def goes (n s : Nat) (more : Bool) : Bool := n.testBit (s - 1) && ((decide (1 < s) && n % 2 ^ (s - 1) != 0) || more || n / 2 ^ s % 2 == 1)
def kept (n : Nat) (e : Int) (more : Bool) : Nat := if 0 < los n e then n / 2 ^ (los n e).toNat + (goes n (los n e).toNat more).toNat else n * 2 ^ (-los n e).toNat
def lay (q : Nat) (e : Int) : Nat := if q < 2 ^ 52 then q else if 2047 ≤ e + 1075 then 2047 * 2 ^ 52 else (e + 1075).toNat * 2 ^ 52 + (q - 2 ^ 52)
def refRung (n : Nat) (e : Int) (more : Bool) : Nat := if 53 < nb (kept n e more) then lay (kept n e more / 2) (e + los n e + 1) else lay (kept n e more) (e + los n e)
theorem testBit_half (n s : Nat) (h : 0 < s) : n.testBit (s - 1) = decide (2 ^ s ≤ 2 * (n % 2 ^ s)) := by
  obtain ⟨t, rfl⟩ : ∃ t, s = t + 1 := ⟨s - 1, by omega⟩
  rw [Nat.add_sub_cancel, Nat.testBit_eq_decide_div_mod_eq]
  have hp : (2 : Nat) ^ (t + 1) = 2 * 2 ^ t := by rw [Nat.pow_succ, Nat.mul_comm]
  have h1 : n % 2 ^ (t + 1) = n % 2 ^ t + 2 ^ t * (n / 2 ^ t % 2) := by rw [Nat.pow_succ, Nat.mod_mul]
  have h2 : n % 2 ^ t < 2 ^ t := Nat.mod_lt _ (Nat.two_pow_pos t)
  rcases Nat.mod_two_eq_zero_or_one (n / 2 ^ t) with h3 | h3
  · rw [h3, Nat.mul_zero, Nat.add_zero] at h1
    rw [h3, h1, hp]; simp; omega
  · rw [h3, Nat.mul_one] at h1
    rw [h3, h1, hp]; simp; omega
theorem goes_false (n s : Nat) (h : 0 < s) : n / 2 ^ s + (goes n s false).toNat = cutE n s := by
  unfold goes cutE
  rw [testBit_half n s h]
  obtain ⟨t, rfl⟩ : ∃ t, s = t + 1 := ⟨s - 1, by omega⟩
  rw [Nat.add_sub_cancel]
  have hp : (2 : Nat) ^ (t + 1) = 2 * 2 ^ t := by rw [Nat.pow_succ, Nat.mul_comm]
  have h1 : n % 2 ^ (t + 1) = n % 2 ^ t + 2 ^ t * (n / 2 ^ t % 2) := by rw [Nat.pow_succ, Nat.mod_mul]
  have h2 : n % 2 ^ t < 2 ^ t := Nat.mod_lt _ (Nat.two_pow_pos t)
  have h0 : 0 < 2 ^ t := Nat.two_pow_pos t
  congr 1
  by_cases h3 : n / 2 ^ t % 2 = 0
  · rw [h3, Nat.mul_zero, Nat.add_zero] at h1
    rw [if_neg (by rw [h1, hp]; omega)]
    have : ¬ 2 ^ (t + 1) ≤ 2 * (n % 2 ^ (t + 1)) := by rw [h1, hp]; omega
    simp [this]
  · have h4 : n / 2 ^ t % 2 = 1 := by omega
    rw [h4, Nat.mul_one] at h1
    have hd : 2 ^ (t + 1) ≤ 2 * (n % 2 ^ (t + 1)) := by rw [h1, hp]; omega
    by_cases h5 : n % 2 ^ t = 0
    · have he : 2 ^ (t + 1) = 2 * (n % 2 ^ (t + 1)) := by rw [h1, hp, h5]; omega
      have hnl : ¬ 2 ^ (t + 1) < 2 * (n % 2 ^ (t + 1)) := by omega
      by_cases h6 : n / 2 ^ (t + 1) % 2 = 1
      · rw [if_pos (.inr ⟨he, h6⟩)]; simp [hd, h6]
      · rw [if_neg (fun h => h.elim hnl fun h => h6 h.2)]; simp [h5, h6]
    · have hlt : 2 ^ (t + 1) < 2 * (n % 2 ^ (t + 1)) := by rw [h1, hp]; omega
      rw [if_pos (.inl hlt)]
      have ht : 0 < t := by
        refine Nat.pos_of_ne_zero fun e => h5 ?_
        subst e; rw [Nat.pow_zero]; exact Nat.mod_one n
      simp [hd, h5, ht]
theorem los_last (n : Nat) (e : Int) (h : n ≠ 0) : e + los n e = last n e := by
  unfold los last nb
  rw [if_neg h]
  omega
theorem cutE_zero (n : Nat) : cutE n 0 = n := by
  unfold cutE
  rw [Nat.pow_zero, Nat.mod_one, Nat.div_one, if_neg (by omega)]; rfl
theorem kept_eq (n : Nat) (e : Int) (h : n ≠ 0) : kept n e false = cutE (n * 2 ^ (e - last n e).toNat) (last n e - e).toNat := by
  have hl := los_last n e h
  unfold kept
  split
  · rw [goes_false _ _ (by omega), show (e - last n e).toNat = 0 by omega, show (last n e - e).toNat = (los n e).toNat by omega, Nat.pow_zero, Nat.mul_one]
  · rw [show (last n e - e).toNat = 0 by omega, cutE_zero, show (e - last n e).toNat = (-los n e).toNat by omega]
theorem goes_le (n s : Nat) (more : Bool) : (goes n s more).toNat ≤ 1 := by cases goes n s more <;> decide
theorem kept_le (n : Nat) (e : Int) (more : Bool) : kept n e more ≤ 2 ^ 53 := by
  have hn := nb_lt n
  have hs : (nb n : Int) - 53 ≤ los n e := Int.le_max_left _ _
  unfold kept
  split
  · have h1 : n / 2 ^ (los n e).toNat < 2 ^ 53 := by
      rw [Nat.div_lt_iff_lt_mul (Nat.two_pow_pos _), ← Nat.pow_add]
      exact Nat.lt_of_lt_of_le hn (Nat.pow_le_pow_right (by decide) (by omega))
    have := goes_le n (los n e).toNat more
    omega
  · have h1 : n * 2 ^ (-los n e).toNat ≤ 2 ^ nb n * 2 ^ (-los n e).toNat := Nat.mul_le_mul_right _ (Nat.le_of_lt hn)
    rw [← Nat.pow_add] at h1
    exact Nat.le_trans h1 (Nat.pow_le_pow_right (by decide) (by omega))
theorem kept_ge (n : Nat) (e : Int) (more : Bool) (h : n ≠ 0) (hl : -1074 < last n e) : 2 ^ 52 ≤ kept n e more := by
  have hn := Nat.log2_self_le h
  have he := los_last n e h
  have hs : los n e = (n.log2 : Int) - 52 := by
    unfold last at hl
    have : last n e = e + n.log2 - 52 := by unfold last; omega
    omega
  unfold kept
  split
  · have h1 : 2 ^ 52 ≤ n / 2 ^ (los n e).toNat := by
      rw [Nat.le_div_iff_mul_le (Nat.two_pow_pos _), ← Nat.pow_add]
      exact Nat.le_trans (Nat.pow_le_pow_right (by decide) (by omega)) hn
    omega
  · have h1 : 2 ^ n.log2 * 2 ^ (-los n e).toNat ≤ n * 2 ^ (-los n e).toNat := Nat.mul_le_mul_right _ hn
    rw [← Nat.pow_add] at h1
    exact Nat.le_trans (Nat.pow_le_pow_right (by decide) (by omega)) h1
/-- what is kept and where its last bit stands are all that the rung hangs on -/
theorem refRung_kept (n : Nat) (e : Int) (more : Bool) (h : n ≠ 0) : refRung n e more = min ((last n e + 1074).toNat * 2 ^ 52 + kept n e more) (2047 * 2 ^ 52) := by
  have h1 := kept_le n e more
  have h2 := kept_ge n e more h
  have h3 := los_last n e h
  have h4 : -1074 ≤ last n e := Int.le_max_right _ _
  unfold refRung
  generalize kept n e more = c at *
  have e1 : e + los n e + 1 = last n e + 1 := by omega
  rw [e1, h3]
  have hb := nb_le_iff c 53
  generalize last n e = l at *
  obtain ⟨K, hK⟩ : ∃ K : Nat, (l + 1074).toNat = K := ⟨_, rfl⟩
  rw [hK]
  unfold lay
  by_cases hc : 53 < nb c
  · have hc2 : c = 2 ^ 53 := by omega
    rw [if_pos hc, hc2]
    rw [if_neg (by decide)]
    split
    · omega
    · have : (l + 1 + 1075).toNat = K + 2 := by omega
      rw [this]; omega
  · rw [if_neg hc]
    split
    · have : K = 0 := by omega
      subst this; omega
    · split
      · omega
      · rename_i hx hy
        have hK2 : K ≤ 2045 := by omega
        have hc3 : c < 2 ^ 53 := by omega
        have h9 : (l + 1075).toNat = K + 1 := by omega
        rw [h9]
        clear hK h1 h2 h3 h4 h9 hy hb hc e1 h
        have m1 : (2 : Nat) ^ 52 = 4503599627370496 := rfl
        have m2 : (2 : Nat) ^ 53 = 9007199254740992 := rfl
        rw [m1] at hx ⊢
        rw [m2] at hc3
        omega
theorem refRung_eq (n : Nat) (e : Int) (h : n ≠ 0) : refRung n e false = rung n e := by
  rw [refRung_kept n e false h, kept_eq n e h]; rfl
end Go.Proofs.YtffohkpohgkglaaGreat.Nm
