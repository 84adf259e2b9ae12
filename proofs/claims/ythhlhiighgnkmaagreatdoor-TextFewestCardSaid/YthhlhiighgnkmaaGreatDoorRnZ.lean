/-
  RnA, RnB, RnC, RnD, RnE, RnF, put together (a claim holds at most 60 files).
-/
import Ieee.Arith
/-! ## ROUNDING: the document's own way (whole numbers, a bit to be lost, something besides) against IEEE's. -/
namespace Go.Proofs.YthhlhiighgnkmaaGreatDoor.Nr
open Ieee
/-- n by 2^s, to the nearest, of two the even one -/
def cutE (n s : Nat) : Nat := n / 2 ^ s + (if 2 ^ s < 2 * (n % 2 ^ s) ∨ (2 ^ s = 2 * (n % 2 ^ s) ∧ n / 2 ^ s % 2 = 1) then 1 else 0)
theorem cut_eq (neg : Bool) (n s : Nat) : Toward.even.cut neg n s = cutE n s := by
  unfold Toward.cut cutE
  simp only [Nat.one_shiftLeft]
  by_cases h : s ≤ n.log2 + 2
  · rw [Nat.min_eq_left h]
    by_cases h1 : 2 ^ s < 2 * (n % 2 ^ s)
    · simp [h1]
    · by_cases h2 : 2 ^ s = 2 * (n % 2 ^ s)
      · by_cases h3 : n / 2 ^ s % 2 = 1
        · simp [← h2, h3]
        · simp [← h2, h3]
      · simp [h1, h2]
  · have hn : n < 2 ^ (n.log2 + 1) := Nat.lt_log2_self
    have hp : 2 ^ (n.log2 + 2) = 2 * 2 ^ (n.log2 + 1) := by rw [Nat.pow_succ, Nat.mul_comm]
    have hq : 2 ^ (n.log2 + 2) ≤ 2 ^ s := Nat.pow_le_pow_right (by decide) (by omega)
    rw [Nat.min_eq_right (by omega)]
    have d1 : n / 2 ^ (n.log2 + 2) = 0 := Nat.div_eq_of_lt (by omega)
    have d2 : n / 2 ^ s = 0 := Nat.div_eq_of_lt (by omega)
    have m1 : n % 2 ^ (n.log2 + 2) = n := Nat.mod_eq_of_lt (by omega)
    have m2 : n % 2 ^ s = n := Nat.mod_eq_of_lt (by omega)
    have c1 : ¬ 2 ^ (n.log2 + 2) < 2 * n := by omega
    have c2 : ¬ 2 ^ s < 2 * n := by omega
    rw [d1, d2, m1, m2]
    simp [c1, c2]
/-- the rung of a number that is not 0 -/
def last (n : Nat) (e : Int) : Int := max (e + n.log2 - 52) (-1074)
def rung (n : Nat) (e : Int) : Nat := min ((last n e + 1074).toNat * 2 ^ 52 + cutE (n * 2 ^ (e - last n e).toNat) (last n e - e).toNat) (2047 * 2 ^ 52)
def word (neg : Bool) (r : Nat) : Nat := if neg then 2 ^ 63 + r else r
theorem nearest_eq (neg : Bool) (n : Nat) (e : Int) (h : n ≠ 0) : Format.nearest double neg n e = word neg (rung n e) := by
  unfold Format.nearest rung word Format.word
  rw [if_neg h]
  have h1 : double.leastPlace = -1074 := by decide
  have h2 : double.binade = 2 ^ 52 := by rfl
  have h3 : double.infRung = 2047 * 2 ^ 52 := by rfl
  have h4 : double.signWeight = 2 ^ 63 := by rfl
  have h5 : double.fractionBits = 52 := rfl
  simp only [h1, h2, h3, h4, h5, cut_eq, Nat.shiftLeft_eq]
  have e1 : max (e + ↑n.log2 - ((52 : Nat) : Int)) (-1074) = last n e := rfl
  rw [e1]
  have e2 : last n e - -1074 = last n e + 1074 := by omega
  rw [e2]
theorem nearest_zero (neg : Bool) (e : Int) : Format.nearest double neg 0 e = word neg 0 := by
  unfold Format.nearest word Format.word
  rw [if_pos rfl]; rfl
/-- how many bits -/
def nb (n : Nat) : Nat := if n = 0 then 0 else n.log2 + 1
theorem nb_lt (n : Nat) : n < 2 ^ nb n := by
  unfold nb
  split
  · subst_vars; decide
  · exact Nat.lt_log2_self
theorem nb_le {n : Nat} (h : n ≠ 0) : 2 ^ (nb n - 1) ≤ n := by
  unfold nb
  rw [if_neg h, Nat.add_sub_cancel]
  exact Nat.log2_self_le h
theorem nb_le_iff (n k : Nat) : nb n ≤ k ↔ n < 2 ^ k := by
  constructor
  · intro h; exact Nat.lt_of_lt_of_le (nb_lt n) (Nat.pow_le_pow_right (by decide) h)
  · intro h
    by_cases h0 : n = 0
    · subst h0; simp [nb]
    · refine Decidable.by_contra fun hk => ?_
      have h1 := nb_le h0
      have h2 : 2 ^ k ≤ 2 ^ (nb n - 1) := Nat.pow_le_pow_right (by decide) (by omega)
      omega
/-- the document's way: how much is lost, what is kept, the rung -/
def los (n : Nat) (e : Int) : Int := max ((nb n : Int) - 53) (-1074 - e)
def goes (n s : Nat) (more : Bool) : Bool := n.testBit (s - 1) && ((decide (1 < s) && n % 2 ^ (s - 1) != 0) || more || n / 2 ^ s % 2 == 1)
def kept (n : Nat) (e : Int) (more : Bool) : Nat := if 0 < los n e then n / 2 ^ (los n e).toNat + (goes n (los n e).toNat more).toNat else n * 2 ^ (-los n e).toNat
def lay (q : Nat) (e : Int) : Nat := if q < 2 ^ 52 then q else if 2047 ≤ e + 1075 then 2047 * 2 ^ 52 else (e + 1075).toNat * 2 ^ 52 + (q - 2 ^ 52)
def refRung (n : Nat) (e : Int) (more : Bool) : Nat := if 53 < nb (kept n e more) then lay (kept n e more / 2) (e + los n e + 1) else lay (kept n e more) (e + los n e)
theorem testBit_half (n s : Nat) (h : 0 < s) : n.testBit (s - 1) = decide (2 ^ s ≤ 2 * (n % 2 ^ s)) := by
  obtain ⟨t, rfl⟩ : ∃ t, s = t + 1 := ⟨s - 1, by omega⟩
  rw [Nat.add_sub_cancel, Nat.testBit_eq_decide_div_mod_eq]
  have hp : (2 : Nat) ^ (t + 1) = 2 * 2 ^ t := by rw [Nat.pow_succ, Nat.mul_comm]
  have h1 : n % 2 ^ (t + 1) = n % 2 ^ t + 2 ^ t * (n / 2 ^ t % 2) := by rw [Nat.pow_succ, Nat.mod_mul]
  have h2 : n % 2 ^ t < 2 ^ t := Nat.mod_lt _ (Nat.two_pow_pos t)
  rcases Nat.mod_two_eq_zero_or_one (n / 2 ^ t) with h3 | h3
  · rw [h3, Nat.mul_zero, Nat.add_zero] at h1
    rw [h3, h1, hp]; simp; omega
  · rw [h3, Nat.mul_one] at h1
    rw [h3, h1, hp]; simp; omega
theorem goes_false (n s : Nat) (h : 0 < s) : n / 2 ^ s + (goes n s false).toNat = cutE n s := by
  unfold goes cutE
  rw [testBit_half n s h]
  obtain ⟨t, rfl⟩ : ∃ t, s = t + 1 := ⟨s - 1, by omega⟩
  rw [Nat.add_sub_cancel]
  have hp : (2 : Nat) ^ (t + 1) = 2 * 2 ^ t := by rw [Nat.pow_succ, Nat.mul_comm]
  have h1 : n % 2 ^ (t + 1) = n % 2 ^ t + 2 ^ t * (n / 2 ^ t % 2) := by rw [Nat.pow_succ, Nat.mod_mul]
  have h2 : n % 2 ^ t < 2 ^ t := Nat.mod_lt _ (Nat.two_pow_pos t)
  have h0 : 0 < 2 ^ t := Nat.two_pow_pos t
  congr 1
  by_cases h3 : n / 2 ^ t % 2 = 0
  · rw [h3, Nat.mul_zero, Nat.add_zero] at h1
    rw [if_neg (by rw [h1, hp]; omega)]
    have : ¬ 2 ^ (t + 1) ≤ 2 * (n % 2 ^ (t + 1)) := by rw [h1, hp]; omega
    simp [this]
  · have h4 : n / 2 ^ t % 2 = 1 := by omega
    rw [h4, Nat.mul_one] at h1
    have hd : 2 ^ (t + 1) ≤ 2 * (n % 2 ^ (t + 1)) := by rw [h1, hp]; omega
    by_cases h5 : n % 2 ^ t = 0
    · have he : 2 ^ (t + 1) = 2 * (n % 2 ^ (t + 1)) := by rw [h1, hp, h5]; omega
      have hnl : ¬ 2 ^ (t + 1) < 2 * (n % 2 ^ (t + 1)) := by omega
      by_cases h6 : n / 2 ^ (t + 1) % 2 = 1
      · rw [if_pos (.inr ⟨he, h6⟩)]; simp [hd, h6]
      · rw [if_neg (fun h => h.elim hnl fun h => h6 h.2)]; simp [h5, h6]
    · have hlt : 2 ^ (t + 1) < 2 * (n % 2 ^ (t + 1)) := by rw [h1, hp]; omega
      rw [if_pos (.inl hlt)]
      have ht : 0 < t := by
        refine Nat.pos_of_ne_zero fun e => h5 ?_
        subst e; rw [Nat.pow_zero]; exact Nat.mod_one n
      simp [hd, h5, ht]
theorem los_last (n : Nat) (e : Int) (h : n ≠ 0) : e + los n e = last n e := by
  unfold los last nb
  rw [if_neg h]
  omega
theorem cutE_zero (n : Nat) : cutE n 0 = n := by
  unfold cutE
  rw [Nat.pow_zero, Nat.mod_one, Nat.div_one, if_neg (by omega)]; rfl
theorem kept_eq (n : Nat) (e : Int) (h : n ≠ 0) : kept n e false = cutE (n * 2 ^ (e - last n e).toNat) (last n e - e).toNat := by
  have hl := los_last n e h
  unfold kept
  split
  · rw [goes_false _ _ (by omega), show (e - last n e).toNat = 0 by omega, show (last n e - e).toNat = (los n e).toNat by omega, Nat.pow_zero, Nat.mul_one]
  · rw [show (last n e - e).toNat = 0 by omega, cutE_zero, show (e - last n e).toNat = (-los n e).toNat by omega]
theorem goes_le (n s : Nat) (more : Bool) : (goes n s more).toNat ≤ 1 := by cases goes n s more <;> decide
theorem kept_le (n : Nat) (e : Int) (more : Bool) : kept n e more ≤ 2 ^ 53 := by
  have hn := nb_lt n
  have hs : (nb n : Int) - 53 ≤ los n e := Int.le_max_left _ _
  unfold kept
  split
  · have h1 : n / 2 ^ (los n e).toNat < 2 ^ 53 := by
      rw [Nat.div_lt_iff_lt_mul (Nat.two_pow_pos _), ← Nat.pow_add]
      exact Nat.lt_of_lt_of_le hn (Nat.pow_le_pow_right (by decide) (by omega))
    have := goes_le n (los n e).toNat more
    omega
  · have h1 : n * 2 ^ (-los n e).toNat ≤ 2 ^ nb n * 2 ^ (-los n e).toNat := Nat.mul_le_mul_right _ (Nat.le_of_lt hn)
    rw [← Nat.pow_add] at h1
    exact Nat.le_trans h1 (Nat.pow_le_pow_right (by decide) (by omega))
theorem kept_ge (n : Nat) (e : Int) (more : Bool) (h : n ≠ 0) (hl : -1074 < last n e) : 2 ^ 52 ≤ kept n e more := by
  have hn := Nat.log2_self_le h
  have he := los_last n e h
  have hs : los n e = (n.log2 : Int) - 52 := by
    unfold last at hl
    have : last n e = e + n.log2 - 52 := by unfold last; omega
    omega
  unfold kept
  split
  · have h1 : 2 ^ 52 ≤ n / 2 ^ (los n e).toNat := by
      rw [Nat.le_div_iff_mul_le (Nat.two_pow_pos _), ← Nat.pow_add]
      exact Nat.le_trans (Nat.pow_le_pow_right (by decide) (by omega)) hn
    omega
  · have h1 : 2 ^ n.log2 * 2 ^ (-los n e).toNat ≤ n * 2 ^ (-los n e).toNat := Nat.mul_le_mul_right _ hn
    rw [← Nat.pow_add] at h1
    exact Nat.le_trans (Nat.pow_le_pow_right (by decide) (by omega)) h1
/-- what is kept and where its last bit stands are all that the rung hangs on -/
theorem refRung_kept (n : Nat) (e : Int) (more : Bool) (h : n ≠ 0) : refRung n e more = min ((last n e + 1074).toNat * 2 ^ 52 + kept n e more) (2047 * 2 ^ 52) := by
  have h1 := kept_le n e more
  have h2 := kept_ge n e more h
  have h3 := los_last n e h
  have h4 : -1074 ≤ last n e := Int.le_max_right _ _
  unfold refRung
  generalize kept n e more = c at *
  have e1 : e + los n e + 1 = last n e + 1 := by omega
  rw [e1, h3]
  have hb := nb_le_iff c 53
  generalize last n e = l at *
  obtain ⟨K, hK⟩ : ∃ K : Nat, (l + 1074).toNat = K := ⟨_, rfl⟩
  rw [hK]
  unfold lay
  by_cases hc : 53 < nb c
  · have hc2 : c = 2 ^ 53 := by omega
    rw [if_pos hc, hc2]
    rw [if_neg (by decide)]
    split
    · omega
    · have : (l + 1 + 1075).toNat = K + 2 := by omega
      rw [this]; omega
  · rw [if_neg hc]
    split
    · have : K = 0 := by omega
      subst this; omega
    · split
      · omega
      · rename_i hx hy
        have hK2 : K ≤ 2045 := by omega
        have hc3 : c < 2 ^ 53 := by omega
        have h9 : (l + 1075).toNat = K + 1 := by omega
        rw [h9]
        clear hK h1 h2 h3 h4 h9 hy hb hc e1 h
        have m1 : (2 : Nat) ^ 52 = 4503599627370496 := rfl
        have m2 : (2 : Nat) ^ 53 = 9007199254740992 := rfl
        rw [m1] at hx ⊢
        rw [m2] at hc3
        omega
theorem refRung_eq (n : Nat) (e : Int) (h : n ≠ 0) : refRung n e false = rung n e := by
  rw [refRung_kept n e false h, kept_eq n e h]; rfl
end Go.Proofs.YthhlhiighgnkmaaGreatDoor.Nr
/-! ## ROUNDING where something besides is lost; quotients to as many bits as one likes. -/
namespace Go.Proofs.YthhlhiighgnkmaaGreatDoor.Nr
open Ieee
theorem log2_of {n k : Nat} (h1 : 2 ^ k ≤ n) (h2 : n < 2 ^ (k + 1)) : n.log2 = k := by
  have hn : n ≠ 0 := by have := Nat.two_pow_pos k; omega
  exact (Nat.log2_eq_iff hn).2 ⟨h1, h2⟩
theorem kept_more (n : Nat) (e : Int) (t : Bool) (h : 54 ≤ nb n) : kept n e t = cutE (2 * n + t.toNat) ((los n e).toNat + 1) := by
  have hs : (nb n : Int) - 53 ≤ los n e := Int.le_max_left _ _
  unfold kept
  rw [if_pos (by omega)]
  obtain ⟨s, hs2⟩ : ∃ s, (los n e).toNat = s := ⟨_, rfl⟩
  rw [hs2]
  have hs0 : 0 < s := by omega
  clear hs hs2 h
  have hp : (2 : Nat) ^ (s + 1) = 2 * 2 ^ s := by rw [Nat.pow_succ, Nat.mul_comm]
  have hd : (2 * n + t.toNat) / 2 ^ (s + 1) = n / 2 ^ s := by
    rw [hp, ← Nat.div_div_eq_div_mul]
    congr 1
    cases t <;> simp <;> omega
  have hm : (2 * n + t.toNat) % 2 ^ (s + 1) = t.toNat + 2 * (n % 2 ^ s) := by
    rw [hp, Nat.mod_mul]
    have e1 : (2 * n + t.toNat) % 2 = t.toNat := by cases t <;> simp <;> omega
    have e2 : (2 * n + t.toNat) / 2 = n := by cases t <;> simp <;> omega
    rw [e1, e2]
  cases t
  · rw [goes_false n s hs0]
    unfold cutE
    rw [hd, hm, hp]
    simp only [Bool.toNat_false, Nat.zero_add]
    congr 1
    apply ite_congr _ (fun _ => rfl) (fun _ => rfl)
    apply propext
    omega
  · unfold cutE
    rw [hd, hm]
    congr 1
    unfold goes
    rw [testBit_half n s hs0]
    obtain ⟨t, rfl⟩ : ∃ t, s = t + 1 := ⟨s - 1, by omega⟩
    have hp2 : (2 : Nat) ^ (t + 1) = 2 * 2 ^ t := by rw [Nat.pow_succ, Nat.mul_comm]
    by_cases hc : 2 ^ (t + 1) ≤ 2 * (n % 2 ^ (t + 1))
    · rw [if_pos (.inl (by simp only [Bool.toNat_true]; omega))]; simp [hc]
    · rw [if_neg (by simp only [Bool.toNat_true]; omega)]; simp [hc]
theorem refRung_more (n : Nat) (e : Int) (t : Bool) (h : 54 ≤ nb n) : refRung n e t = rung (2 * n + t.toNat) (e - 1) := by
  have hn : n ≠ 0 := by rintro rfl; simp [nb] at h
  have hs : (nb n : Int) - 53 ≤ los n e := Int.le_max_left _ _
  have ht : t.toNat ≤ 1 := by cases t <;> decide
  have hlog : (2 * n + t.toNat).log2 = n.log2 + 1 := by
    have h1 := Nat.log2_self_le hn
    have h2 : n < 2 ^ (n.log2 + 1) := Nat.lt_log2_self
    refine log2_of ?_ ?_
    · rw [Nat.pow_succ]; omega
    · rw [Nat.pow_succ 2 (n.log2 + 1)]; omega
  have hl : last (2 * n + t.toNat) (e - 1) = last n e := by unfold last; rw [hlog]; omega
  have h3 := los_last n e hn
  rw [refRung_kept n e t hn, kept_more n e t h]
  unfold rung
  rw [hl, show (e - 1 - last n e).toNat = 0 by omega, show (last n e - (e - 1)).toNat = (los n e).toNat + 1 by omega, Nat.pow_zero, Nat.mul_one]
/-- two bits more of which only whether they are 0 is kept -/
def comp (y : Nat) : Nat := 2 * (y / 4) + (if y % 4 = 0 then 0 else 1)
theorem cut_comp (y s : Nat) : cutE y (s + 3) = cutE (comp y) (s + 2) := by
  have h1 : (2 : Nat) ^ (s + 3) = 4 * (2 * 2 ^ s) := by rw [show s + 3 = s + 1 + 1 + 1 from rfl, Nat.pow_succ, Nat.pow_succ, Nat.pow_succ]; omega
  have h2 : (2 : Nat) ^ (s + 2) = 2 * (2 * 2 ^ s) := by rw [show s + 2 = s + 1 + 1 from rfl, Nat.pow_succ, Nat.pow_succ]; omega
  have c1 : comp y / 2 = y / 4 := by unfold comp; split <;> omega
  have c2 : comp y % 2 = (if y % 4 = 0 then 0 else 1) := by unfold comp; split <;> omega
  have d1 : y / 2 ^ (s + 3) = y / 4 / (2 * 2 ^ s) := by rw [h1, Nat.div_div_eq_div_mul]
  have d2 : comp y / 2 ^ (s + 2) = y / 4 / (2 * 2 ^ s) := by rw [h2, ← Nat.div_div_eq_div_mul, c1]
  have m1 : y % 2 ^ (s + 3) = y % 4 + 4 * (y / 4 % (2 * 2 ^ s)) := by rw [h1, Nat.mod_mul]
  have m2 : comp y % 2 ^ (s + 2) = (if y % 4 = 0 then 0 else 1) + 2 * (y / 4 % (2 * 2 ^ s)) := by rw [h2, Nat.mod_mul, c1, c2]
  unfold cutE
  rw [d1, d2, m1, m2, h1, h2]
  congr 1
  apply ite_congr _ (fun _ => rfl) (fun _ => rfl)
  apply propext
  generalize y / 4 % (2 * 2 ^ s) = z
  generalize 2 ^ s = T
  split <;> omega
theorem rung_comp (y : Nat) (p : Int) (h : 55 ≤ y.log2) : rung y p = rung (comp y) (p + 1) := by
  have hy : y ≠ 0 := by rintro rfl; simp at h
  have h1 := Nat.log2_self_le hy
  have h2 : y < 2 ^ (y.log2 + 1) := Nat.lt_log2_self
  obtain ⟨L, hL⟩ : ∃ L, y.log2 = L + 2 := ⟨y.log2 - 2, by omega⟩
  have hlog : (comp y).log2 = L + 1 := by
    rw [hL] at h1 h2
    have e1 : (2 : Nat) ^ (L + 2 + 1) = 4 * (2 * 2 ^ L) := by rw [Nat.pow_succ, Nat.pow_succ, Nat.pow_succ]; omega
    have e2 : (2 : Nat) ^ (L + 2) = 4 * 2 ^ L := by rw [Nat.pow_succ, Nat.pow_succ]; omega
    have e3 : (2 : Nat) ^ (L + 1) = 2 * 2 ^ L := by rw [Nat.pow_succ]; omega
    refine log2_of ?_ ?_
    · rw [e3]; unfold comp; omega
    · rw [show L + 1 + 1 = L + 2 from rfl, e2]; unfold comp; split <;> omega
  have hl : last (comp y) (p + 1) = last y p := by unfold last; rw [hlog, hL]; omega
  have hle : p + y.log2 - 52 ≤ last y p := Int.le_max_left _ _
  unfold rung
  rw [hl, show (p - last y p).toNat = 0 by omega, show (p + 1 - last y p).toNat = 0 by omega, Nat.pow_zero, Nat.mul_one, Nat.mul_one]
  obtain ⟨s, hs⟩ : ∃ s, (last y p - p).toNat = s + 3 := ⟨(last y p - p).toNat - 3, by omega⟩
  rw [hs, show (last y p - (p + 1)).toNat = s + 2 by omega, cut_comp]
/-- a quotient to k bits behind the point, and whether something is left -/
def quo (m n k : Nat) : Nat := 2 * (m * 2 ^ k / n) + (m * 2 ^ k % n != 0).toNat
theorem quo_comp (m n k : Nat) (hn : 0 < n) : comp (quo m n (k + 1)) = quo m n k := by
  unfold quo
  rw [Nat.pow_succ, ← Nat.mul_assoc]
  generalize m * 2 ^ k = D
  have h1 : D * 2 = n * (2 * (D / n)) + 2 * (D % n) := by
    have := Nat.div_add_mod D n
    calc D * 2 = 2 * (n * (D / n) + D % n) := by rw [this]; omega
      _ = _ := by rw [Nat.mul_add, ← Nat.mul_assoc, ← Nat.mul_assoc, Nat.mul_comm 2 n]
  have hr := Nat.mod_lt D hn
  by_cases hc : n ≤ 2 * (D % n)
  · have h2 : D * 2 = n * (2 * (D / n) + 1) + (2 * (D % n) - n) := by rw [h1, Nat.mul_add, Nat.mul_one]; omega
    have q : D * 2 / n = 2 * (D / n) + 1 := by
      rw [h2, Nat.mul_add_div hn, Nat.div_eq_of_lt (show 2 * (D % n) - n < n by omega), Nat.add_zero]
    have r : D * 2 % n = 2 * (D % n) - n := by rw [h2, Nat.mul_add_mod, Nat.mod_eq_of_lt (show 2 * (D % n) - n < n by omega)]
    have hne : D % n ≠ 0 := by omega
    rw [q, r]
    have : (D % n != 0).toNat = 1 := by simp [hne]
    rw [this]
    unfold comp
    have : (2 * (D % n) - n != 0).toNat ≤ 1 := by cases (2 * (D % n) - n != 0) <;> decide
    rw [if_neg (by omega)]
    omega
  · have q : D * 2 / n = 2 * (D / n) := by
      rw [h1, Nat.mul_add_div hn, Nat.div_eq_of_lt (show 2 * (D % n) < n by omega), Nat.add_zero]
    have r : D * 2 % n = 2 * (D % n) := by rw [h1, Nat.mul_add_mod, Nat.mod_eq_of_lt (show 2 * (D % n) < n by omega)]
    rw [q, r]
    unfold comp
    by_cases h0 : D % n = 0
    · rw [h0]
      have : (2 * 0 != 0).toNat = 0 := by decide
      rw [this]
      rw [if_pos (by omega)]
      omega
    · have : (2 * (D % n) != 0).toNat = 1 := by
        have : 2 * (D % n) ≠ 0 := by omega
        simp [this]
      rw [this]
      have : (D % n != 0).toNat = 1 := by simp [h0]
      rw [this, if_neg (by omega)]
      omega
theorem quo_mono (m n k : Nat) (hn : 0 < n) (h : 2 ^ 54 ≤ quo m n k) : 2 ^ 55 ≤ quo m n (k + 1) := by
  have := quo_comp m n k hn
  unfold comp at this
  split at this <;> omega
theorem quo_same (m n k j : Nat) (p : Int) (hn : 0 < n) (h : 2 ^ 54 ≤ quo m n k) : rung (quo m n (k + j)) (p - j) = rung (quo m n k) p ∧ 2 ^ 54 ≤ quo m n (k + j) := by
  induction j with
  | zero => exact ⟨by simp, h⟩
  | succ j ih =>
    obtain ⟨ih1, ih2⟩ := ih
    have h1 := quo_mono m n (k + j) hn ih2
    have hl : 55 ≤ (quo m n (k + j + 1)).log2 := (Nat.le_log2 (by omega)).2 h1
    refine ⟨?_, by rw [← Nat.add_assoc]; omega⟩
    rw [← ih1, ← Nat.add_assoc, rung_comp _ _ hl, quo_comp m n (k + j) hn]
    congr 1; omega
end Go.Proofs.YthhlhiighgnkmaaGreatDoor.Nr
/-! ## Quotients and roots: the document's many bits against IEEE's just enough. -/
namespace Go.Proofs.YthhlhiighgnkmaaGreatDoor.Nr
open Ieee
theorem quo_big (m n k : Nat) (hm : 0 < m) (hn : 0 < n) (h : 54 + n.log2 ≤ m.log2 + k) : 2 ^ 53 ≤ m * 2 ^ k / n := by
  rw [Nat.le_div_iff_mul_le hn]
  have h1 := Nat.log2_self_le (n := m) (by omega)
  have h2 : n < 2 ^ (n.log2 + 1) := Nat.lt_log2_self
  have h3 : 2 ^ m.log2 * 2 ^ k ≤ m * 2 ^ k := Nat.mul_le_mul_right _ h1
  rw [← Nat.pow_add] at h3
  have h4 : 2 ^ 53 * n ≤ 2 ^ 53 * 2 ^ (n.log2 + 1) := Nat.mul_le_mul_left _ (by omega)
  rw [← Nat.pow_add] at h4
  exact Nat.le_trans h4 (Nat.le_trans (Nat.pow_le_pow_right (by decide) (by omega)) h3)
theorem nb_ge {n k : Nat} (h : 2 ^ k ≤ n) : k + 1 ≤ nb n := by
  refine Decidable.by_contra fun hk => ?_
  have := (nb_le_iff n k).1 (by omega)
  omega
theorem log2_small {n : Nat} (h : n < 2 ^ 53) : n.log2 ≤ 52 := by
  by_cases h0 : n = 0
  · subst h0; decide
  · have := Nat.log2_self_le h0
    refine Decidable.by_contra fun hk => ?_
    have : 2 ^ 53 ≤ 2 ^ n.log2 := Nat.pow_le_pow_right (by decide) (by omega)
    omega
theorem div_same (m n : Nat) (e : Int) (hm : 0 < m) (hn : 0 < n) (hn2 : n < 2 ^ 53) :
    refRung (m * 2 ^ 120 / n) (e - 120) (m * 2 ^ 120 % n != 0) = rung (quo m n (54 + n.log2 - m.log2)) (e - (54 + n.log2 - m.log2 : Nat) - 1) := by
  have hl := log2_small hn2
  have hb := quo_big m n 120 hm hn (by omega)
  have h1 := quo_big m n (54 + n.log2 - m.log2) hm hn (by omega)
  rw [refRung_more _ _ _ (nb_ge hb)]
  obtain ⟨k, hk⟩ : ∃ k, 54 + n.log2 - m.log2 = k := ⟨_, rfl⟩
  rw [hk] at h1 ⊢
  have h2 := (quo_same m n k (120 - k) (e - (k : Nat) - 1) hn (by unfold quo; omega)).1
  rw [show k + (120 - k) = 120 by omega, show e - (k : Nat) - 1 - ((120 - k : Nat) : Int) = e - 120 - 1 by omega] at h2
  exact h2
/-- the whole root -/
def IsRt (r N : Nat) : Prop := r * r ≤ N ∧ N < (r + 1) * (r + 1)
theorem IsRt.one {r s N : Nat} (h : IsRt r N) (k : IsRt s N) : r = s := by
  rcases Nat.lt_trichotomy r s with h1 | h1 | h1
  · have := Nat.mul_le_mul (show r + 1 ≤ s by omega) (show r + 1 ≤ s by omega)
    have := h.2; have := k.1; omega
  · exact h1
  · have := Nat.mul_le_mul (show s + 1 ≤ r by omega) (show s + 1 ≤ r by omega)
    have := k.2; have := h.1; omega
theorem rootFrom_is (N : Nat) : ∀ (todo r : Nat), r * r ≤ N → N < (r + 2 ^ todo) * (r + 2 ^ todo) → IsRt (Datum.rootFrom N todo r) N
  | 0, r, h1, h2 => by unfold Datum.rootFrom; exact ⟨h1, by simpa using h2⟩
  | todo + 1, r, h1, h2 => by
    unfold Datum.rootFrom
    simp only [Nat.one_shiftLeft]
    have e : r + 2 ^ (todo + 1) = r + 2 ^ todo + 2 ^ todo := by rw [Nat.pow_succ]; omega
    rw [e] at h2
    split
    · rename_i h; exact rootFrom_is N todo _ h h2
    · rename_i h; exact rootFrom_is N todo _ h1 (by omega)
def rt (N : Nat) : Nat := Datum.rootFrom N (N.log2 / 2 + 1) 0
theorem rt_is (N : Nat) : IsRt (rt N) N := by
  refine rootFrom_is N _ 0 (Nat.zero_le _) ?_
  rw [Nat.zero_add, ← Nat.pow_add]
  exact Nat.lt_of_lt_of_le Nat.lt_log2_self (Nat.pow_le_pow_right (by decide) (by omega))
/-- the root, and whether something is left -/
def sqr (N : Nat) : Nat := 2 * rt N + (rt N * rt N != N).toNat
theorem sqr_comp (N : Nat) : comp (sqr (4 * N)) = sqr N := by
  have h := rt_is N
  have k := rt_is (4 * N)
  unfold sqr
  generalize rt (4 * N) = s at *
  generalize rt N = r at *
  obtain ⟨a, b, hs, hb⟩ : ∃ a b, s = 2 * a + b ∧ b < 2 := ⟨s / 2, s % 2, by omega, by omega⟩
  have h4 : ∀ x : Nat, (2 * x) * (2 * x) = 4 * (x * x) := fun x => by
    rw [Nat.mul_mul_mul_comm]
  have ha : IsRt a N := by
    constructor
    · have := Nat.mul_le_mul (show 2 * a ≤ s by omega) (show 2 * a ≤ s by omega)
      rw [h4] at this; have := k.1; omega
    · have := Nat.mul_le_mul (show s + 1 ≤ 2 * (a + 1) by omega) (show s + 1 ≤ 2 * (a + 1) by omega)
      rw [h4] at this; have := k.2; omega
  obtain rfl := ha.one h
  by_cases he : a * a = N
  · have hs2 : IsRt (2 * a) (4 * N) := by
      constructor
      · rw [h4]; omega
      · rw [← he, ← h4]; exact Nat.mul_lt_mul'' (by omega) (by omega)
    have e2 := k.one hs2
    subst e2
    have t1 : (2 * a * (2 * a) != 4 * N).toNat = 0 := by
      have : 2 * a * (2 * a) = 4 * N := by rw [h4, he]
      simp [this]
    have t2 : (a * a != N).toNat = 0 := by simp [he]
    rw [t1, t2]
    unfold comp
    rw [if_pos (by omega)]; omega
  · have t2 : (a * a != N).toNat = 1 := by simp [he]
    rw [t2]
    have hne : ¬ (2 * s + (s * s != 4 * N).toNat) % 4 = 0 := by
      intro h0
      have hle : (s * s != 4 * N).toNat ≤ 1 := by cases (s * s != 4 * N) <;> decide
      have hb0 : b = 0 := by omega
      have ht : (s * s != 4 * N).toNat = 0 := by omega
      have hss : s * s = 4 * N := by
        refine Decidable.by_contra fun hx => ?_
        have : (s * s != 4 * N).toNat = 1 := by simp [hx]
        omega
      subst hb0
      rw [Nat.add_zero] at hs
      rw [hs, h4] at hss
      omega
    have hle : (s * s != 4 * N).toNat ≤ 1 := by cases (s * s != 4 * N) <;> decide
    unfold comp
    rw [if_neg hne]
    omega
theorem sqr_mono (N : Nat) (h : 2 ^ 54 ≤ sqr N) : 2 ^ 55 ≤ sqr (4 * N) := by
  have := sqr_comp N
  unfold comp at this
  split at this <;> omega
theorem sqr_same (N j : Nat) (p : Int) (h : 2 ^ 54 ≤ sqr N) : rung (sqr (N * 2 ^ (2 * j))) (p - j) = rung (sqr N) p ∧ 2 ^ 54 ≤ sqr (N * 2 ^ (2 * j)) := by
  induction j with
  | zero => exact ⟨by simp, by simpa using h⟩
  | succ j ih =>
    obtain ⟨ih1, ih2⟩ := ih
    have e : N * 2 ^ (2 * (j + 1)) = 4 * (N * 2 ^ (2 * j)) := by
      rw [show 2 * (j + 1) = 2 * j + 1 + 1 from rfl, Nat.pow_succ, Nat.pow_succ, ← Nat.mul_assoc, ← Nat.mul_assoc]; omega
    have h1 := sqr_mono _ ih2
    have hl : 55 ≤ (sqr (4 * (N * 2 ^ (2 * j)))).log2 := (Nat.le_log2 (by omega)).2 h1
    refine ⟨?_, by rw [e]; omega⟩
    rw [← ih1, e, rung_comp _ _ hl, sqr_comp]
    congr 1; omega
theorem rt_ge {N k : Nat} (h : 2 ^ (2 * k) ≤ N) : 2 ^ k ≤ rt N := by
  refine Decidable.by_contra fun hk => ?_
  have h1 := (rt_is N).2
  have h2 := Nat.mul_le_mul (show rt N + 1 ≤ 2 ^ k by omega) (show rt N + 1 ≤ 2 ^ k by omega)
  rw [← Nat.pow_add, ← Nat.two_mul] at h2
  omega
/-- 'k' is 120 or 121 so that e - k is even; 'd' is how many IEEE takes -/
theorem sqrt_same (m k d : Nat) (e : Int) (hm : 0 < m) (hk : 120 ≤ k) (hd : d ≤ k) (hd2 : 106 ≤ m.log2 + d) (h1 : (e - k) % 2 = 0) (h2 : (e - d) % 2 = 0) :
    refRung (rt (m * 2 ^ k)) ((e - k) / 2) (rt (m * 2 ^ k) * rt (m * 2 ^ k) != m * 2 ^ k) = rung (sqr (m * 2 ^ d)) ((e - d) / 2 - 1) := by
  have hb : 2 ^ 60 ≤ rt (m * 2 ^ k) := by
    refine rt_ge (Nat.le_trans ?_ (Nat.le_mul_of_pos_left _ hm))
    exact Nat.pow_le_pow_right (by decide) (by omega)
  rw [refRung_more _ _ _ (by have := nb_ge hb; omega)]
  have hs : 2 ^ 53 ≤ rt (m * 2 ^ d) := by
    refine rt_ge ?_
    have h3 := Nat.mul_le_mul_right (2 ^ d) (Nat.log2_self_le (n := m) (by omega))
    rw [← Nat.pow_add] at h3
    exact Nat.le_trans (Nat.pow_le_pow_right (by decide) (by omega)) h3
  obtain ⟨j, hj⟩ : ∃ j, k = d + 2 * j := ⟨(k - d) / 2, by omega⟩
  have h4 := (sqr_same (m * 2 ^ d) j ((e - d) / 2 - 1) (by unfold sqr; omega)).1
  rw [Nat.mul_assoc, ← Nat.pow_add, ← hj] at h4
  rw [← h4]
  show rung (sqr (m * 2 ^ k)) _ = _
  congr 1
  omega
end Go.Proofs.YthhlhiighgnkmaaGreatDoor.Nr
/-! ## THE OPERATIONS on words: the document's way against IEEE's. -/
namespace Go.Proofs.YthhlhiighgnkmaaGreatDoor.Nr
open Ieee
def nan : Nat := 0x7ff8000000000001
def inf : Nat := 0x7ff0000000000000
def neg (x : Nat) : Bool := decide (2 ^ 63 ≤ x)
def isNaN (x : Nat) : Bool := decide (inf < x % 2 ^ 63)
def isInf (x : Nat) : Bool := decide (x % 2 ^ 63 = inf)
def nought (x : Nat) : Bool := decide (x % 2 ^ 63 = 0)
/-- a finite number: its digits, and the last one's place -/
def mag (x : Nat) : Nat := if x / 2 ^ 52 % 2048 = 0 then x % 2 ^ 52 else 2 ^ 52 + x % 2 ^ 52
def plc (x : Nat) : Int := if x / 2 ^ 52 % 2048 = 0 then -1074 else (x / 2 ^ 52 % 2048 : Nat) - 1075
theorem mag_lt (x : Nat) : mag x < 2 ^ 53 := by
  unfold mag
  have := Nat.mod_lt x (show 0 < 2 ^ 52 by decide)
  split <;> omega
theorem read_eq (x : Nat) (h : x < 2 ^ 64) : double.read x = if isNaN x then .nan (neg x) (x % 2 ^ 63 - inf) else if isInf x then .infinity (neg x) else .number (neg x) (mag x) (plc x) := by
  have h1 : double.leastPlace = -1074 := by decide
  have h2 : double.binade = 2 ^ 52 := by rfl
  have h3 : double.infRung = 0x7ff0000000000000 := by decide
  have h4 : double.signWeight = 2 ^ 63 := by rfl
  unfold Format.read
  simp only [h1, h2, h3, h4]
  have hneg : (x / 2 ^ 63 % 2 == 1) = neg x := by
    unfold neg
    rw [Bool.eq_iff_iff]; simp; omega
  rw [hneg]
  have m1 : x / 2 ^ 52 % 2048 = x % 2 ^ 63 / 2 ^ 52 := by omega
  have m2 : x % 2 ^ 52 = x % 2 ^ 63 % 2 ^ 52 := by omega
  unfold isNaN isInf inf
  by_cases c1 : x % 2 ^ 63 < 2 ^ 52
  · rw [if_pos c1, if_neg (by simp; omega), if_neg (by simp; omega)]
    unfold mag plc
    rw [if_pos (by omega), if_pos (by omega)]
    congr 1; omega
  · rw [if_neg c1]
    by_cases c2 : x % 2 ^ 63 < 0x7ff0000000000000
    · rw [if_pos c2, if_neg (by simp; omega), if_neg (by simp; omega)]
      unfold mag plc
      rw [if_neg (by omega), if_neg (by omega), m1, m2]
      congr 1; omega
    · rw [if_neg c2]
      by_cases c3 : x % 2 ^ 63 = 0x7ff0000000000000
      · rw [if_pos c3, if_neg (by simp; omega), if_pos (by simp; omega)]
      · rw [if_neg c3, if_pos (by simp; omega)]
/-- rounded: with a sign -/
def round (s : Bool) (n : Nat) (e : Int) (more : Bool) : Nat := word s (if n = 0 then 0 else refRung n e more)
theorem round_eq (s : Bool) (n : Nat) (e : Int) : round s n e false = Format.nearest double s n e := by
  unfold round
  by_cases h : n = 0
  · subst h; rw [if_pos rfl, nearest_zero]
  · rw [if_neg h, nearest_eq _ _ _ h, refRung_eq _ _ h]
def up (n : Nat) (k : Int) : Nat := n * 2 ^ k.toNat
def dAdd (a b : Nat) : Nat :=
  if isNaN a || isNaN b || isInf a && isInf b && a != b then nan
  else if isInf a then a else if isInf b then b
  else
    let e := min (plc a) (plc b)
    let x := up (mag a) (plc a - e)
    let y := up (mag b) (plc b - e)
    if neg a = neg b then round (neg a) (x + y) e false
    else if x = y then 0 else if y < x then round (neg a) (x - y) e false else round (neg b) (y - x) e false
def dMul (a b : Nat) : Nat :=
  if isNaN a || isNaN b || isInf a && nought b || isInf b && nought a then nan
  else if isInf a || isInf b then word (neg a != neg b) inf
  else round (neg a != neg b) (mag a * mag b) (plc a + plc b) false
def dDiv (a b : Nat) : Nat :=
  if isNaN a || isNaN b || isInf a && isInf b || nought a && nought b then nan
  else if isInf a || nought b then word (neg a != neg b) inf
  else if isInf b || nought a then round (neg a != neg b) 0 0 false
  else round (neg a != neg b) (mag a * 2 ^ 120 / mag b) (plc a - 120 - plc b) (mag a * 2 ^ 120 % mag b != 0)
theorem inf_word {x : Nat} (h : x < 2 ^ 64) (hi : isInf x = true) : word (neg x) inf = x := by
  unfold isInf at hi
  unfold word neg
  simp at hi
  split <;> simp_all <;> omega
theorem inf_same {a b : Nat} (ha : a < 2 ^ 64) (hb : b < 2 ^ 64) (ia : isInf a = true) (ib : isInf b = true) : (a != b) = (neg a != neg b) := by
  unfold isInf at ia ib
  unfold neg
  simp at ia ib
  rw [Bool.eq_iff_iff]
  simp only [bne_iff_ne, ne_eq, decide_eq_decide]
  omega
theorem write_inf (s : Bool) : double.write (.infinity s) = word s inf := by
  unfold Format.write word Format.word
  rfl
def sg (s : Bool) (x : Nat) : Int := if s then -(x : Int) else x
theorem signed_eq (s : Bool) (m k : Nat) : signed s m k = sg s (m * 2 ^ k) := by
  unfold signed sg; rw [Nat.shiftLeft_eq]
theorem sg_neg (s t : Bool) (x y : Nat) : (if sg s x + sg t y = 0 then s && t else decide (sg s x + sg t y < 0)) = (if s = t then s else if x = y then false else if y < x then s else t) := by
  cases s <;> cases t <;> by_cases h1 : x = y <;> by_cases h2 : y < x <;> simp only [sg, h1, h2, Bool.false_eq_true, if_true, if_false, Bool.and_self, Bool.and_true, Bool.and_false, Bool.true_eq_false] <;> (split <;> first | rfl | (exfalso; omega) | (simp; omega))
theorem sg_abs (s t : Bool) (x y : Nat) : (sg s x + sg t y).natAbs = (if s = t then x + y else if y < x then x - y else y - x) := by
  cases s <;> cases t <;> by_cases h2 : y < x <;> simp only [sg, h2, Bool.false_eq_true, if_true, if_false, Bool.true_eq_false] <;> omega
theorem dAdd_eq (a b : Nat) (ha : a < 2 ^ 64) (hb : b < 2 ^ 64) : dAdd a b = (double.add a b).getD nan := by
  unfold dAdd Format.add
  rw [read_eq a ha, read_eq b hb]
  by_cases na : isNaN a = true
  · simp [na, Datum.sum]
  · by_cases nb' : isNaN b = true
    · have na' : isNaN a = false := by simpa using na
      simp only [na', nb', Bool.true_or, Bool.or_true, if_true]
      by_cases ia : isInf a = true <;> simp [ia, Datum.sum]
    · simp only [na, nb', Bool.false_or, Bool.false_eq_true, if_false]
      by_cases ia : isInf a = true
      · by_cases ib : isInf b = true
        · have hs := inf_same ha hb ia ib
          simp only [ia, ib, Bool.true_and, if_true, hs, Datum.sum]
          by_cases hn : neg a = neg b
          · have h9 := inf_word ha ia
            rw [hn] at h9
            simp [hn, write_inf, h9]
          · simp [hn]
        · simp [ia, ib, Datum.sum, write_inf, inf_word ha ia]
      · by_cases ib : isInf b = true
        · simp [ia, ib, Datum.sum, write_inf, inf_word hb ib]
        · simp only [ia, ib, Bool.false_and, Bool.false_eq_true, if_false, Datum.sum, Option.map_some, Option.getD_some, Format.write]
          rw [signed_eq, signed_eq]
          change _ = double.nearest (if sg (neg a) (up (mag a) (plc a - min (plc a) (plc b))) + sg (neg b) (up (mag b) (plc b - min (plc a) (plc b))) = 0 then _ else decide (sg (neg a) (up (mag a) (plc a - min (plc a) (plc b))) + sg (neg b) (up (mag b) (plc b - min (plc a) (plc b))) < 0)) (sg (neg a) (up (mag a) (plc a - min (plc a) (plc b))) + sg (neg b) (up (mag b) (plc b - min (plc a) (plc b)))).natAbs _
          generalize up (mag a) (plc a - min (plc a) (plc b)) = x
          generalize up (mag b) (plc b - min (plc a) (plc b)) = y
          rw [sg_neg, sg_abs]
          by_cases hn : neg a = neg b
          · simp only [hn, if_true, round_eq]
          · simp only [if_neg hn]
            by_cases hxy : x = y
            · subst hxy; simp [nearest_zero, word]
            · simp only [if_neg hxy]
              by_cases hlt : y < x
              · simp only [if_pos hlt, round_eq]
              · simp only [if_neg hlt, round_eq]
theorem nought_mag (x : Nat) : nought x = decide (mag x = 0) := by
  unfold nought mag
  rw [decide_eq_decide]
  split <;> omega
theorem inf_mag {x : Nat} (h : isInf x = true) : mag x ≠ 0 := by
  unfold isInf inf at h
  unfold mag
  simp at h
  rw [if_neg (by omega)]; omega
theorem dMul_eq (a b : Nat) (ha : a < 2 ^ 64) (hb : b < 2 ^ 64) : dMul a b = (double.mul a b).getD nan := by
  unfold dMul Format.mul
  rw [read_eq a ha, read_eq b hb, nought_mag, nought_mag]
  cases na : isNaN a
  · cases nb' : isNaN b
    · cases ia : isInf a
      · cases ib : isInf b
        · simp [Datum.product, Format.write, round_eq, bne]
        · by_cases h0 : mag a = 0
          · simp [Datum.product, h0]
          · simp [Datum.product, h0, write_inf, Bool.xor_comm]
      · cases ib : isInf b
        · by_cases h0 : mag b = 0
          · simp [Datum.product, h0]
          · simp [Datum.product, h0, write_inf]
        · simp [Datum.product, write_inf, inf_mag ia, inf_mag ib]
    · cases ia : isInf a <;> simp [Datum.product]
  · simp [Datum.product]
theorem dDiv_eq (a b : Nat) (ha : a < 2 ^ 64) (hb : b < 2 ^ 64) : dDiv a b = (double.div a b).getD nan := by
  unfold dDiv Format.div
  rw [read_eq a ha, read_eq b hb, nought_mag, nought_mag]
  cases na : isNaN a
  · cases nb' : isNaN b
    · cases ia : isInf a
      · cases ib : isInf b
        · by_cases h1 : mag b = 0
          · by_cases h0 : mag a = 0
            · simp [Datum.quotient, h0, h1]
            · simp [Datum.quotient, h0, h1, write_inf]
          · by_cases h0 : mag a = 0
            · simp [Datum.quotient, h0, h1, Format.write, round_eq, nearest_zero]
            · simp only [Datum.quotient, h0, h1, decide_false, Bool.false_and, Bool.or_false, Bool.false_eq_true, if_false, Option.map_some, Option.getD_some, Format.write]
              have hd := div_same (mag a) (mag b) (plc a - plc b) (by omega) (by omega) (mag_lt b)
              have hq := quo_big (mag a) (mag b) (54 + (mag b).log2 - (mag a).log2) (by omega) (by omega) (by omega)
              have hq2 := quo_big (mag a) (mag b) 120 (by omega) (by omega) (by have := log2_small (mag_lt b); omega)
              rw [Nat.shiftLeft_eq]
              have e1 : double.fractionBits + 2 + (mag b).log2 - (mag a).log2 = 54 + (mag b).log2 - (mag a).log2 := rfl
              rw [e1, nearest_eq _ _ _ (by omega)]
              unfold round
              rw [if_neg (by omega), show plc a - 120 - plc b = plc a - plc b - 120 by omega, hd]
              rfl
        · simp [Datum.quotient, Format.write, round_eq, nearest_zero, inf_mag ib]
      · cases ib : isInf b
        · simp [Datum.quotient, inf_mag ia, write_inf]
        · simp [Datum.quotient]
    · cases ia : isInf a <;> simp [Datum.quotient]
  · simp [Datum.quotient]
def dSqrt (a : Nat) : Nat :=
  if isNaN a then nan else if nought a then a else if neg a then nan else if isInf a then a
  else
    let k := if plc a % 2 = 0 then 120 else 121
    round false (rt (mag a * 2 ^ k)) ((plc a - (k : Nat)) / 2) (rt (mag a * 2 ^ k) * rt (mag a * 2 ^ k) != mag a * 2 ^ k)
theorem zero_word {x : Nat} (h : x < 2 ^ 64) (hz : mag x = 0) : word (neg x) 0 = x := by
  have : nought x = true := by rw [nought_mag, hz]; rfl
  unfold nought at this
  unfold word neg
  simp at this
  split <;> simp_all <;> omega
theorem dSqrt_eq (a : Nat) (ha : a < 2 ^ 64) : dSqrt a = (double.sqrt a).getD nan := by
  unfold dSqrt Format.sqrt
  rw [read_eq a ha, nought_mag]
  cases na : isNaN a
  · cases ia : isInf a
    · by_cases h0 : mag a = 0
      · simp [Datum.root, h0, Format.write, nearest_zero]
        rw [zero_word ha h0]
      · cases hn : neg a
        · simp only [Datum.root, h0, decide_false, Bool.false_eq_true, if_false, Option.map_some, Option.getD_some, Format.write]
          have hl := log2_small (mag_lt a)
          have e0 : 2 * (double.fractionBits + 2) = 108 := rfl
          rw [e0, Nat.shiftLeft_eq]
          obtain ⟨d0, hd0⟩ : ∃ d0, 108 - (mag a).log2 = d0 := ⟨_, rfl⟩
          rw [hd0]
          obtain ⟨d, hd⟩ : ∃ d, d0 + ((plc a - (d0 : Nat)) % 2).toNat = d := ⟨_, rfl⟩
          rw [hd]
          have hdp : (plc a - (d : Nat)) % 2 = 0 := by omega
          have hd1 : d ≤ 109 := by omega
          have hd2 : 106 ≤ (mag a).log2 + d := by omega
          have hs : 2 ^ 53 ≤ rt (mag a * 2 ^ d) := by
            refine rt_ge ?_
            have h3 := Nat.mul_le_mul_right (2 ^ d) (Nat.log2_self_le (n := mag a) h0)
            rw [← Nat.pow_add] at h3
            exact Nat.le_trans (Nat.pow_le_pow_right (by decide) (by omega)) h3
          change round false _ _ _ = double.nearest false (2 * rt (mag a * 2 ^ d) + (rt (mag a * 2 ^ d) * rt (mag a * 2 ^ d) != mag a * 2 ^ d).toNat) ((plc a - (d : Nat)) / 2 - 1)
          rw [nearest_eq _ _ _ (by omega)]
          unfold round
          by_cases hk : plc a % 2 = 0
          · rw [if_pos hk, if_neg (by have := rt_ge (N := mag a * 2 ^ 120) (k := 60) (Nat.le_mul_of_pos_left _ (by omega)); omega), sqrt_same (mag a) 120 d (plc a) (by omega) (by omega) (by omega) hd2 (by omega) hdp]
            rfl
          · rw [if_neg hk, if_neg (by have := rt_ge (N := mag a * 2 ^ 121) (k := 60) (Nat.le_trans (by decide) (Nat.le_mul_of_pos_left (2 ^ 121) (show 0 < mag a by omega))); omega), sqrt_same (mag a) 121 d (plc a) (by omega) (by omega) (by omega) hd2 (by omega) hdp]
            rfl
        · simp [Datum.root, h0]
    · have hi := inf_word ha ia
      have := inf_mag ia
      cases hn : neg a
      · rw [hn] at hi; simp [Datum.root, this, write_inf, hi]
      · simp [Datum.root, this]
  · simp [Datum.root]
/-- the whole part, and one more where the way says so and something is left -/
def dStep (a : Nat) (one : Bool) : Nat :=
  if isNaN a then nan else if isInf a then a
  else round (neg a) (if 0 ≤ plc a then mag a * 2 ^ (plc a).toNat else mag a / 2 ^ (-plc a).toNat + (one && mag a % 2 ^ (-plc a).toNat != 0).toNat) 0 false
theorem cut_way (way : Toward) (s one : Bool) (hw : (way = .down ∧ one = s) ∨ (way = .up ∧ one = !s) ∨ (way = .zero ∧ one = false)) (n d : Nat) : way.cut s n d = n / 2 ^ d + (one && n % 2 ^ d != 0).toNat := by
  have hg : n / (1 <<< min d (n.log2 + 2)) = n / 2 ^ d ∧ n % (1 <<< min d (n.log2 + 2)) = n % 2 ^ d := by
    rw [Nat.one_shiftLeft]
    by_cases h : d ≤ n.log2 + 2
    · rw [Nat.min_eq_left h]; exact ⟨rfl, rfl⟩
    · have hn : n < 2 ^ (n.log2 + 1) := Nat.lt_log2_self
      have hp : 2 ^ (n.log2 + 2) = 2 * 2 ^ (n.log2 + 1) := by rw [Nat.pow_succ, Nat.mul_comm]
      have hq : 2 ^ (n.log2 + 2) ≤ 2 ^ d := Nat.pow_le_pow_right (by decide) (by omega)
      rw [Nat.min_eq_right (by omega), Nat.div_eq_of_lt (by omega), Nat.div_eq_of_lt (by omega), Nat.mod_eq_of_lt (by omega), Nat.mod_eq_of_lt (by omega)]
      exact ⟨rfl, rfl⟩
  unfold Toward.cut
  simp only [hg.1, hg.2]
  rcases hw with ⟨rfl, rfl⟩ | ⟨rfl, rfl⟩ | ⟨rfl, rfl⟩ <;> simp
theorem dStep_eq (way : Toward) (a : Nat) (one : Bool) (hw : (way = .down ∧ one = neg a) ∨ (way = .up ∧ one = !neg a) ∨ (way = .zero ∧ one = false)) (ha : a < 2 ^ 64) (hn : isNaN a = false) : dStep a one = double.write ((double.read a).integral way) := by
  unfold dStep
  rw [read_eq a ha, hn]
  cases ia : isInf a
  · simp only [Bool.false_eq_true, if_false, Datum.integral, Format.write, round_eq, cut_way way (neg a) one hw, Nat.shiftLeft_eq]
    congr 1
    by_cases hp : 0 ≤ plc a
    · rw [if_pos hp, show (-plc a).toNat = 0 by omega, Nat.pow_zero, Nat.div_one, Nat.mod_one]; simp
    · rw [if_neg hp, show (plc a).toNat = 0 by omega, Nat.pow_zero, Nat.mul_one]
  · simp [Datum.integral, write_inf, inf_word ha ia]
end Go.Proofs.YthhlhiighgnkmaaGreatDoor.Nr
/-! ## ROUNDING KEEPS ORDER; values as whole multiples of the least one; sums by values. -/
namespace Go.Proofs.YthhlhiighgnkmaaGreatDoor.Nr
open Ieee
theorem cut_scale (n k d : Nat) : cutE (n * 2 ^ k) (k + d) = cutE n d := by
  have hk := Nat.two_pow_pos k
  have h1 : n * 2 ^ k / 2 ^ (k + d) = n / 2 ^ d := by
    rw [Nat.pow_add, ← Nat.div_div_eq_div_mul, Nat.mul_div_cancel _ hk]
  have h2 : n * 2 ^ k % 2 ^ (k + d) = 2 ^ k * (n % 2 ^ d) := by
    rw [Nat.pow_add, Nat.mul_comm n, Nat.mul_mod_mul_left]
  unfold cutE
  rw [h1, h2, Nat.pow_add]
  congr 1
  have e : 2 * (2 ^ k * (n % 2 ^ d)) = 2 ^ k * (2 * (n % 2 ^ d)) := by rw [← Nat.mul_assoc, ← Nat.mul_assoc, Nat.mul_comm 2]
  rw [e]
  apply ite_congr _ (fun _ => rfl) (fun _ => rfl)
  apply propext
  rw [Nat.mul_lt_mul_left hk, Nat.mul_right_inj (by omega)]
theorem log2_scale (n k : Nat) (h : n ≠ 0) : (n * 2 ^ k).log2 = n.log2 + k := by
  have h1 := Nat.log2_self_le h
  have h2 : n < 2 ^ (n.log2 + 1) := Nat.lt_log2_self
  refine log2_of ?_ ?_
  · rw [Nat.pow_add]; exact Nat.mul_le_mul_right _ h1
  · rw [show n.log2 + k + 1 = n.log2 + 1 + k by omega, Nat.pow_add]
    exact Nat.mul_lt_mul_of_pos_right h2 (Nat.two_pow_pos k)
theorem rung_scale (n k : Nat) (e : Int) (h : n ≠ 0) : rung (n * 2 ^ k) e = rung n (e + k) := by
  have hl : last (n * 2 ^ k) e = last n (e + k) := by unfold last; rw [log2_scale n k h]; omega
  unfold rung
  rw [hl]
  generalize last n (e + k) = l
  congr 2
  by_cases h1 : l ≤ e
  · rw [show (l - e).toNat = 0 by omega, show (l - (e + k)).toNat = 0 by omega, cutE_zero, cutE_zero, Nat.mul_assoc, ← Nat.pow_add]
    congr 2; omega
  · rw [show (e - l).toNat = 0 by omega, Nat.pow_zero, Nat.mul_one]
    by_cases h2 : l ≤ e + k
    · obtain ⟨j, hj⟩ : ∃ j : Nat, (e + k - l).toNat = j := ⟨_, rfl⟩
      rw [show (l - (e + k)).toNat = 0 by omega, hj, show k = j + (l - e).toNat by omega, Nat.pow_add, ← Nat.mul_assoc, cutE_zero]
      have := cut_scale (n * 2 ^ j) (l - e).toNat 0
      rw [Nat.add_zero, cutE_zero] at this
      exact this
    · rw [show (e + k - l).toNat = 0 by omega, show (l - e).toNat = k + (l - (e + k)).toNat by omega, cut_scale, Nat.pow_zero, Nat.mul_one]
theorem cut_mono {a b : Nat} (s : Nat) (h : a ≤ b) : cutE a s ≤ cutE b s := by
  have hq := Nat.div_le_div_right (c := 2 ^ s) h
  have ha := Nat.div_add_mod a (2 ^ s)
  have hb := Nat.div_add_mod b (2 ^ s)
  unfold cutE
  by_cases hlt : a / 2 ^ s < b / 2 ^ s
  · split <;> omega
  · have he : a / 2 ^ s = b / 2 ^ s := by omega
    have hr : a % 2 ^ s ≤ b % 2 ^ s := by rw [he] at ha; omega
    rw [he]
    by_cases hc : 2 ^ s < 2 * (a % 2 ^ s) ∨ (2 ^ s = 2 * (a % 2 ^ s) ∧ b / 2 ^ s % 2 = 1)
    · rw [if_pos hc, if_pos (by omega)]; exact Nat.le_refl _
    · rw [if_neg hc]; omega
theorem log2_mono {a b : Nat} (h0 : a ≠ 0) (h : a ≤ b) : a.log2 ≤ b.log2 := by
  have h1 := Nat.log2_self_le h0
  exact (Nat.le_log2 (by omega)).2 (Nat.le_trans h1 h)
theorem rung_mono {a b : Nat} (e : Int) (h0 : a ≠ 0) (h : a ≤ b) : rung a e ≤ rung b e := by
  have hb0 : b ≠ 0 := by omega
  have hlog := log2_mono h0 h
  by_cases hl : last a e = last b e
  · unfold rung
    rw [hl]
    have h1 : a * 2 ^ (e - last b e).toNat ≤ b * 2 ^ (e - last b e).toNat := Nat.mul_le_mul_right _ h
    have h2 := cut_mono (last b e - e).toNat h1
    exact Nat.le_min.2 ⟨Nat.le_trans (Nat.min_le_left _ _) (Nat.add_le_add_left h2 _), Nat.min_le_right _ _⟩
  · have hll : last a e < last b e := by unfold last at hl ⊢; omega
    have h4 : -1074 ≤ last a e := Int.le_max_right _ _
    have ka := kept_le a e false
    have kb := kept_ge b e false hb0 (by omega)
    rw [← refRung_eq a e h0, ← refRung_eq b e hb0, refRung_kept a e false h0, refRung_kept b e false hb0]
    generalize kept a e false = ca at *
    generalize kept b e false = cb at *
    obtain ⟨K, hK⟩ : ∃ K, (last a e + 1074).toNat = K := ⟨_, rfl⟩
    obtain ⟨K', hK'⟩ : ∃ K', (last b e + 1074).toNat = K' := ⟨_, rfl⟩
    have hKK : K + 1 ≤ K' := by omega
    rw [hK, hK']
    have h7 : (K + 1) * 2 ^ 52 ≤ K' * 2 ^ 52 := Nat.mul_le_mul_right _ hKK
    rw [Nat.add_mul, Nat.one_mul] at h7
    have h8 : (2 : Nat) ^ 53 = 2 ^ 52 + 2 ^ 52 := rfl
    rw [h8] at ka
    clear hK hK' hll h4 hl hlog h hb0 h0 h8 hKK
    refine Nat.le_min.2 ⟨Nat.le_trans (Nat.min_le_left _ _) ?_, Nat.min_le_right _ _⟩
    generalize (2 : Nat) ^ 52 = M at *
    generalize K * M = A at *
    generalize K' * M = A' at *
    omega
theorem rung_le (n : Nat) (e : Int) : rung n e ≤ 2047 * 2 ^ 52 := Nat.min_le_right _ _
/-- a finite number's value, in units of the least one -/
def va (x : Nat) : Nat := mag x * 2 ^ (plc x + 1074).toNat
def vz (x : Nat) : Int := sg (neg x) (va x)
theorem plc_ge (x : Nat) : -1074 ≤ plc x := by
  unfold plc
  split
  · exact Int.le_refl _
  · omega
/-- a whole number of the least units, rounded: the rung -/
def rungN (n : Nat) : Nat := if n = 0 then 0 else rung n (-1074)
theorem rungN_mono {a b : Nat} (h : a ≤ b) : rungN a ≤ rungN b := by
  unfold rungN
  split
  · exact Nat.zero_le _
  · rw [if_neg (by omega)]; exact rung_mono _ (by assumption) h
theorem rungN_le (n : Nat) : rungN n ≤ 2047 * 2 ^ 52 := by
  unfold rungN
  split
  · decide
  · exact rung_le _ _
theorem round_va (s : Bool) (n : Nat) (e : Int) (h : -1074 ≤ e) : round s n e false = word s (rungN (n * 2 ^ (e + 1074).toNat)) := by
  unfold round rungN
  by_cases h0 : n = 0
  · subst h0; simp
  · have : n * 2 ^ (e + 1074).toNat ≠ 0 := Nat.mul_ne_zero h0 (by have := Nat.two_pow_pos (e + 1074).toNat; omega)
    rw [if_neg h0, if_neg this, refRung_eq _ _ h0, rung_scale _ _ _ h0]
    congr 2; omega
/-- where a word stands among all -/
def key (x : Nat) : Int := sg (neg x) (x % 2 ^ 63)
theorem key_word (s : Bool) (r : Nat) (h : r ≤ 2047 * 2 ^ 52) : key (word s r) = sg s r := by
  have h2 : r < 2 ^ 63 := Nat.lt_of_le_of_lt h (by decide)
  clear h
  cases s
  · have e1 : neg (word false r) = false := by unfold neg word; simp; omega
    have e2 : word false r % 2 ^ 63 = r := by unfold word; simp; omega
    unfold key
    rw [e1, e2]
  · have e1 : neg (word true r) = true := by unfold neg word; simp
    have e2 : word true r % 2 ^ 63 = r := by unfold word; simp; omega
    unfold key
    rw [e1, e2]
def keyZ (v : Int) : Int := sg (decide (v < 0)) (rungN v.natAbs)
theorem keyZ_mono {u v : Int} (h : u ≤ v) : keyZ u ≤ keyZ v := by
  unfold keyZ sg
  by_cases hu : u < 0
  · by_cases hv : v < 0
    · have := rungN_mono (show v.natAbs ≤ u.natAbs by omega)
      simp [hu, hv] <;> omega
    · simp [hu, hv] <;> omega
  · have := rungN_mono (show u.natAbs ≤ v.natAbs by omega)
    simp [hu, show ¬ v < 0 by omega] <;> omega
theorem up_va (x : Nat) (e : Int) (h1 : -1074 ≤ e) (h2 : e ≤ plc x) : up (mag x) (plc x - e) * 2 ^ (e + 1074).toNat = va x := by
  unfold up va
  rw [Nat.mul_assoc, ← Nat.pow_add]
  congr 2; omega
/-- a sum of what is finite, by its value -/
theorem dAdd_key (a b : Nat) (na : isNaN a = false) (nb' : isNaN b = false) (ia : isInf a = false) (ib : isInf b = false) : key (dAdd a b) = keyZ (vz a + vz b) := by
  have pa := plc_ge a
  have pb := plc_ge b
  unfold dAdd
  simp only [na, nb', ia, ib, Bool.or_self, Bool.false_and, Bool.false_eq_true, if_false]
  have h1 := up_va a (min (plc a) (plc b)) (by omega) (by omega)
  have h2 := up_va b (min (plc a) (plc b)) (by omega) (by omega)
  have he : -1074 ≤ min (plc a) (plc b) := by omega
  generalize min (plc a) (plc b) = e at *
  generalize up (mag a) (plc a - e) = x at *
  generalize up (mag b) (plc b - e) = y at *
  have hT := Nat.two_pow_pos (e + 1074).toNat
  unfold vz
  rw [← h1, ← h2]
  simp only [round_va _ _ _ he]
  generalize 2 ^ (e + 1074).toNat = T at *
  unfold keyZ
  rw [sg_abs]
  by_cases hs : neg a = neg b
  · rw [if_pos hs, if_pos hs, key_word _ _ (rungN_le _), ← Nat.add_mul, hs]
    generalize hz : (x + y) * T = z
    have e1 : sg (neg b) (x * T) + sg (neg b) (y * T) = sg (neg b) z := by
      rw [← hz, Nat.add_mul]; unfold sg; split <;> omega
    rw [e1]
    unfold sg
    cases hb : neg b
    · simp; omega
    · by_cases h0 : z = 0
      · subst h0; simp [rungN]
      · simp; omega
  · rw [if_neg hs, if_neg hs]
    by_cases hxy : x = y
    · subst hxy
      rw [if_pos rfl, if_neg (by omega), Nat.sub_self]
      simp [key, rungN, sg]
    · rw [if_neg hxy]
      have hlt : ∀ u v : Nat, u < v → u * T < v * T := fun u v h => Nat.mul_lt_mul_of_pos_right h hT
      by_cases h3 : y < x
      · have h4 := hlt y x h3
        rw [if_pos h3, if_pos h4, key_word _ _ (rungN_le _), Nat.sub_mul]
        congr 1
        unfold sg
        cases h5 : neg a <;> cases h6 : neg b <;> simp_all <;> omega
      · have h4 := hlt x y (by omega)
        rw [if_neg h3, if_neg (by omega), key_word _ _ (rungN_le _), Nat.sub_mul]
        congr 1
        unfold sg
        cases h5 : neg a <;> cases h6 : neg b <;> simp_all <;> omega
end Go.Proofs.YthhlhiighgnkmaaGreatDoor.Nr
/-! ## MATHEMATICS: comparisons of numbers (carried over from the layer below). -/
namespace Go.Proofs.YthhlhiighgnkmaaGreatDoor.Nr
/-! ## NumF -/
section
open Ieee
/-- the digits by the word's lower bits -/
theorem fin_lt {x : Nat} (na : isNaN x = false) (ia : isInf x = false) : x % 2 ^ 63 < inf := by
  unfold isNaN at na
  unfold isInf at ia
  simp at na ia
  omega
theorem rung_own (x : Nat) (hf : x % 2 ^ 63 < inf) (h0 : mag x ≠ 0) : rung (mag x) (plc x) = x % 2 ^ 63 := by
  have hfr : x % 2 ^ 52 < 2 ^ 52 := Nat.mod_lt _ (by decide)
  have hE : x / 2 ^ 52 % 2048 ≤ 2046 := by unfold inf at hf; omega
  have hx : x % 2 ^ 63 = (x / 2 ^ 52 % 2048) * 2 ^ 52 + x % 2 ^ 52 := by omega
  have hM : 2047 * 2 ^ 52 = inf := rfl
  unfold rung
  rw [hM]
  rw [Nat.min_eq_left]
  all_goals
    by_cases he : x / 2 ^ 52 % 2048 = 0
    · have hm : mag x = x % 2 ^ 52 := by unfold mag; rw [if_pos he]
      have hp : plc x = -1074 := by unfold plc; rw [if_pos he]
      have hlog : (mag x).log2 ≤ 51 := by
        have h1 := Nat.log2_self_le h0
        refine Decidable.by_contra fun hk => ?_
        have : 2 ^ 52 ≤ 2 ^ (mag x).log2 := Nat.pow_le_pow_right (by decide) (by omega)
        omega
      have hl : last (mag x) (plc x) = -1074 := by unfold last; omega
      rw [hl, hp]
      have z1 : (-1074 + 1074 : Int).toNat = 0 := rfl
      have z2 : (-1074 - -1074 : Int).toNat = 0 := rfl
      rw [z1, z2, cutE_zero, Nat.pow_zero, Nat.mul_one, Nat.zero_mul, Nat.zero_add, hm]
      rw [he] at hx
      omega
    · have hm : mag x = 2 ^ 52 + x % 2 ^ 52 := by unfold mag; rw [if_neg he]
      have hp : plc x = (x / 2 ^ 52 % 2048 : Nat) - 1075 := by unfold plc; rw [if_neg he]
      have hlog : (mag x).log2 = 52 := log2_of (by omega) (by omega)
      have hl : last (mag x) (plc x) = plc x := by unfold last; rw [hlog]; omega
      rw [hl, Int.sub_self]
      have z2 : (0 : Int).toNat = 0 := rfl
      rw [z2, cutE_zero, Nat.pow_zero, Nat.mul_one, hm, hp]
      obtain ⟨E, hEE⟩ : ∃ E, x / 2 ^ 52 % 2048 = E + 1 := ⟨x / 2 ^ 52 % 2048 - 1, by omega⟩
      rw [hEE] at hx ⊢
      rw [show (((E + 1 : Nat) : Int) - 1075 + 1074).toNat = E by omega]
      rw [Nat.add_mul, Nat.one_mul] at hx
      first | omega | (unfold inf at hf ⊢; omega)
theorem va_zero (x : Nat) : va x = 0 ↔ mag x = 0 := by
  unfold va
  have := Nat.two_pow_pos (plc x + 1074).toNat
  constructor
  · intro h
    rcases Nat.mul_eq_zero.1 h with h | h
    · exact h
    · omega
  · intro h; rw [h, Nat.zero_mul]
theorem mag_zero {x : Nat} (h : mag x = 0) : x % 2 ^ 63 = 0 := by
  have : nought x = true := by rw [nought_mag, h]; rfl
  simpa [nought] using this
theorem rungN_va (x : Nat) (hf : x % 2 ^ 63 < inf) : rungN (va x) = x % 2 ^ 63 := by
  unfold rungN
  by_cases h0 : mag x = 0
  · rw [if_pos ((va_zero x).2 h0), mag_zero h0]
  · rw [if_neg (fun h => h0 ((va_zero x).1 h))]
    unfold va
    have hp := plc_ge x
    rw [rung_scale _ _ _ h0, show (-1074 : Int) + ((plc x + 1074).toNat : Nat) = plc x by omega]
    exact rung_own x hf h0
theorem key_own (x : Nat) (hf : x % 2 ^ 63 < inf) : key x = keyZ (vz x) := by
  unfold key keyZ vz
  rw [← rungN_va x hf]
  unfold sg
  cases h : neg x
  · simp; omega
  · by_cases h0 : va x = 0
    · simp [h0, rungN]
    · simp; omega
/-- what stands higher is worth more -/
theorem va_mono {x y : Nat} (h : x % 2 ^ 63 ≤ y % 2 ^ 63) : va x ≤ va y := by
  have f1 : x % 2 ^ 52 < 2 ^ 52 := Nat.mod_lt _ (by decide)
  have f2 : y % 2 ^ 52 < 2 ^ 52 := Nat.mod_lt _ (by decide)
  have e1 : x % 2 ^ 63 = (x / 2 ^ 52 % 2048) * 2 ^ 52 + x % 2 ^ 52 := by omega
  have e2 : y % 2 ^ 63 = (y / 2 ^ 52 % 2048) * 2 ^ 52 + y % 2 ^ 52 := by omega
  rw [e1, e2] at h
  unfold va mag plc
  generalize x / 2 ^ 52 % 2048 = E at *
  generalize y / 2 ^ 52 % 2048 = E' at *
  generalize x % 2 ^ 52 = f at *
  generalize y % 2 ^ 52 = f' at *
  clear e1 e2
  have hE : E ≤ E' := by
    refine Decidable.by_contra fun hc => ?_
    have := Nat.mul_le_mul_right (2 ^ 52) (show E' + 1 ≤ E by omega)
    rw [Nat.add_mul, Nat.one_mul] at this
    omega
  have z1 : (-1074 + 1074 : Int).toNat = 0 := rfl
  by_cases h1 : E = E'
  · subst h1
    split
    · rw [z1]; exact Nat.mul_le_mul_right _ (by omega)
    · exact Nat.mul_le_mul_right _ (by omega)
  · have h2 : E' ≠ 0 := by omega
    rw [if_neg h2, if_neg h2]
    obtain ⟨t, rfl⟩ : ∃ t, E' = t + 1 := ⟨E' - 1, by omega⟩
    rw [show (((t + 1 : Nat) : Int) - 1075 + 1074).toNat = t by omega]
    have ht := Nat.two_pow_pos t
    by_cases h3 : E = 0
    · rw [if_pos h3, if_pos h3, z1, Nat.pow_zero, Nat.mul_one]
      exact Nat.le_trans (show f ≤ 2 ^ 52 + f' by omega) (Nat.le_mul_of_pos_right _ ht)
    · rw [if_neg h3, if_neg h3]
      obtain ⟨s, rfl⟩ : ∃ s, E = s + 1 := ⟨E - 1, by omega⟩
      rw [show (((s + 1 : Nat) : Int) - 1075 + 1074).toNat = s by omega]
      have h4 : 2 ^ (s + 1) ≤ 2 ^ t := Nat.pow_le_pow_right (by decide) (by omega)
      rw [Nat.pow_succ] at h4
      have h5 : (2 ^ 52 + f) * 2 ^ s ≤ (2 ^ 52 * 2) * 2 ^ s := Nat.mul_le_mul_right _ (by omega)
      have h6 : 2 ^ 52 * (2 ^ s * 2) ≤ 2 ^ 52 * 2 ^ t := Nat.mul_le_mul_left _ h4
      have h7 : (2 ^ 52) * 2 ^ t ≤ (2 ^ 52 + f') * 2 ^ t := Nat.mul_le_mul_right _ (by omega)
      have h8 : (2 ^ 52 * 2) * 2 ^ s = 2 ^ 52 * (2 ^ s * 2) := by rw [Nat.mul_assoc, Nat.mul_comm 2]
      rw [h8] at h5
      exact Nat.le_trans h5 (Nat.le_trans h6 h7)
theorem vz_le_of_key {x y : Nat} (h : key x ≤ key y) : vz x ≤ vz y := by
  unfold key sg at h
  unfold vz sg
  cases h1 : neg x <;> cases h2 : neg y <;> simp only [h1, h2, Bool.false_eq_true, if_true, if_false] at h ⊢
  · have := va_mono (x := x) (y := y) (by omega); omega
  · have h3 : va x = 0 := by
      have := va_mono (x := x) (y := 0) (by simp; omega)
      have : va 0 = 0 := by decide
      omega
    have h4 : va y = 0 := by
      have := va_mono (x := y) (y := 0) (by simp; omega)
      have : va 0 = 0 := by decide
      omega
    omega
  · omega
  · have := va_mono (x := y) (y := x) (by omega); omega
theorem key_lt_iff {x y : Nat} (hx : x % 2 ^ 63 < inf) (hy : y % 2 ^ 63 < inf) : key x < key y ↔ vz x < vz y := by
  constructor
  · intro h
    have h1 := vz_le_of_key (Int.le_of_lt h)
    refine Int.lt_iff_le_and_ne.2 ⟨h1, fun e => ?_⟩
    rw [key_own x hx, key_own y hy, e] at h
    omega
  · intro h
    have h1 := keyZ_mono (Int.le_of_lt h)
    rw [← key_own x hx, ← key_own y hy] at h1
    refine Int.lt_iff_le_and_ne.2 ⟨h1, fun e => ?_⟩
    have := vz_le_of_key (Int.le_of_eq e.symm)
    omega
end
/-! ## NumG -/
section
open Ieee
def dNeg (x : Nat) : Nat := if isNaN x then nan else if neg x then x - 2 ^ 63 else x + 2 ^ 63
def dAbs (x : Nat) : Nat := if isNaN x then nan else x % 2 ^ 63
def dSub (a b : Nat) : Nat := dAdd a (dNeg b)
theorem word_lt (s : Bool) {r : Nat} (h : r ≤ inf) : word s r < 2 ^ 64 := by
  have : r < 2 ^ 63 := Nat.lt_of_le_of_lt h (by decide)
  unfold word; split <;> omega
theorem word_neg (s : Bool) {r : Nat} (h : r ≤ inf) : neg (word s r) = s := by
  have : r < 2 ^ 63 := Nat.lt_of_le_of_lt h (by decide)
  cases s
  · unfold neg word; simp; omega
  · unfold neg word; simp
theorem word_mod (s : Bool) {r : Nat} (h : r ≤ inf) : word s r % 2 ^ 63 = r := by
  have : r < 2 ^ 63 := Nat.lt_of_le_of_lt h (by decide)
  unfold word; cases s <;> simp <;> omega
theorem word_nan (s : Bool) {r : Nat} (h : r ≤ inf) : isNaN (word s r) = false := by
  unfold isNaN
  rw [word_mod s h]; simp; exact h
theorem refRung_le (n : Nat) (e : Int) (more : Bool) (h : n ≠ 0) : refRung n e more ≤ inf := by
  rw [refRung_kept n e more h]; exact Nat.min_le_right _ _
theorem round_le (n : Nat) (e : Int) (more : Bool) : (if n = 0 then 0 else refRung n e more) ≤ inf := by
  split
  · exact Nat.zero_le _
  · exact refRung_le _ _ _ (by assumption)
theorem round_nan (s : Bool) (n : Nat) (e : Int) (more : Bool) : isNaN (round s n e more) = false := word_nan s (round_le n e more)
theorem round_lt (s : Bool) (n : Nat) (e : Int) (more : Bool) : round s n e more < 2 ^ 64 := word_lt s (round_le n e more)
theorem nan_lt : nan < 2 ^ 64 := by decide
theorem nan_nan : isNaN nan = true := by decide
theorem word_self {x : Nat} (h : x < 2 ^ 64) : word (neg x) (x % 2 ^ 63) = x := by
  unfold word neg
  by_cases h1 : 2 ^ 63 ≤ x
  · simp only [h1, decide_true, if_true]; omega
  · simp only [h1, decide_false, Bool.false_eq_true, if_false]; omega
theorem neg_facts {x : Nat} (h : x < 2 ^ 64) (hn : isNaN x = false) : dNeg x < 2 ^ 64 ∧ neg (dNeg x) = !neg x ∧ dNeg x % 2 ^ 63 = x % 2 ^ 63 := by
  unfold dNeg
  rw [hn]
  unfold neg
  by_cases h1 : 2 ^ 63 ≤ x
  · simp only [h1, decide_true, Bool.false_eq_true, if_false, if_true]
    refine ⟨by omega, ?_, by omega⟩
    simp; omega
  · simp only [h1, decide_false, Bool.false_eq_true, if_false]
    refine ⟨by omega, ?_, by omega⟩
    simp
theorem isNaN_mod {x y : Nat} (h : x % 2 ^ 63 = y % 2 ^ 63) : isNaN x = isNaN y := by unfold isNaN; rw [h]
theorem isInf_mod {x y : Nat} (h : x % 2 ^ 63 = y % 2 ^ 63) : isInf x = isInf y := by unfold isInf; rw [h]
theorem mag_mod {x y : Nat} (h : x % 2 ^ 63 = y % 2 ^ 63) : mag x = mag y ∧ plc x = plc y := by
  have e1 : x / 2 ^ 52 % 2048 = y / 2 ^ 52 % 2048 := by omega
  have e2 : x % 2 ^ 52 = y % 2 ^ 52 := by omega
  unfold mag plc
  rw [e1, e2]; exact ⟨rfl, rfl⟩
theorem key_neg {x : Nat} (h : x < 2 ^ 64) (hn : isNaN x = false) : key (dNeg x) = -key x := by
  obtain ⟨_, h2, h3⟩ := neg_facts h hn
  unfold key sg
  rw [h2, h3]
  cases neg x <;> simp
theorem dNeg_neg {x : Nat} (h : x < 2 ^ 64) (hn : isNaN x = false) : dNeg (dNeg x) = x := by
  obtain ⟨h1, h2, h3⟩ := neg_facts h hn
  have hn2 : isNaN (dNeg x) = false := by rw [isNaN_mod h3, hn]
  obtain ⟨k1, k2, k3⟩ := neg_facts h1 hn2
  have e := word_self k1
  rw [k2, k3, h2, h3, Bool.not_not, word_self h] at e
  exact e.symm
theorem dAdd_comm (a b : Nat) (ha : a < 2 ^ 64) (hb : b < 2 ^ 64) : dAdd a b = dAdd b a := by
  unfold dAdd
  cases na : isNaN a <;> cases nb' : isNaN b <;> simp only [Bool.true_or, Bool.or_true, Bool.or_self, Bool.false_or, if_true]
  cases ia : isInf a <;> cases ib : isInf b <;> simp only [Bool.false_and, Bool.true_and, Bool.false_eq_true, if_false, if_true]
  · rw [Int.min_comm (plc b) (plc a)]
    generalize min (plc a) (plc b) = e
    generalize up (mag a) (plc a - e) = x
    generalize up (mag b) (plc b - e) = y
    by_cases hs : neg a = neg b
    · rw [if_pos hs, if_pos hs.symm, Nat.add_comm, hs]
    · rw [if_neg hs, if_neg (show ¬ neg b = neg a from fun h => hs h.symm)]
      by_cases hxy : x = y
      · rw [if_pos hxy, if_pos hxy.symm]
      · rw [if_neg hxy, if_neg (show ¬ y = x from fun h => hxy h.symm)]
        by_cases h3 : y < x
        · rw [if_pos h3, if_neg (by omega)]
        · rw [if_neg h3, if_pos (by omega)]
  · have h1 := inf_same ha hb ia ib
    have h2 := inf_same hb ha ib ia
    by_cases hn : neg a = neg b
    · have e : a = b := by rw [← inf_word ha ia, ← inf_word hb ib, hn]
      rw [e]
    · have e1 : (a != b) = true := by rw [h1]; simp [hn]
      have e2 : (b != a) = true := by rw [h2]; simp; exact fun h => hn h.symm
      rw [e1, e2]; rfl
theorem key_bd {x : Nat} (hn : isNaN x = false) : -(inf : Int) ≤ key x ∧ key x ≤ inf := by
  unfold isNaN at hn
  simp at hn
  unfold key sg
  split <;> omega
theorem key_inf {x : Nat} (hi : isInf x = true) : key x = if neg x then -(inf : Int) else inf := by
  unfold isInf at hi
  simp at hi
  unfold key sg
  rw [hi]
theorem dAdd_nan {a b : Nat} (na : isNaN a = false) (nb' : isNaN b = false) (h : (isInf a && isInf b && a != b) = false) : isNaN (dAdd a b) = false := by
  unfold dAdd
  rw [na, nb', h]
  simp only [Bool.or_self, Bool.false_eq_true, if_false]
  split
  · exact na
  · split
    · exact nb'
    · split
      · exact round_nan _ _ _ _
      · split
        · decide
        · split
          · exact round_nan _ _ _ _
          · exact round_nan _ _ _ _
/-- sums rise with what is added to -/
theorem add_mono {a b c : Nat} (na : isNaN a = false) (nb' : isNaN b = false) (nc : isNaN c = false) (h : key a ≤ key b) (r1 : isNaN (dAdd a c) = false) (r2 : isNaN (dAdd b c) = false) : key (dAdd a c) ≤ key (dAdd b c) := by
  have inl : ∀ x : Nat, isNaN x = false → isInf x = true → isNaN (dAdd x c) = false → dAdd x c = x := fun x nx ix r => by
    unfold dAdd at r ⊢
    rw [nx, nc, ix] at r ⊢
    simp only [Bool.or_self, Bool.false_or, Bool.true_and, if_true] at r ⊢
    split
    · rename_i h; rw [if_pos h, nan_nan] at r; cases r
    · rfl
  cases ia : isInf a
  · cases ib : isInf b
    · cases ic : isInf c
      · rw [dAdd_key a c na nc ia ic, dAdd_key b c nb' nc ib ic]
        have := vz_le_of_key h
        exact keyZ_mono (by omega)
      · have e : ∀ x : Nat, isNaN x = false → isInf x = false → dAdd x c = c := fun x nx ix => by
          unfold dAdd
          rw [nx, nc, ix, ic]; rfl
        rw [e a na ia, e b nb' ib]; exact Int.le_refl _
    · rw [inl b nb' ib r2, key_inf ib]
      by_cases hn : neg b = true
      · have hk := key_inf ib
        rw [if_pos hn] at hk
        have h1 := fin_lt na ia
        exfalso
        unfold key sg at h hk
        rw [hk] at h
        split at h <;> omega
      · rw [if_neg hn]; exact (key_bd r1).2
  · have hd := inl a na ia r1
    rw [hd]
    have hk := key_inf ia
    by_cases hn : neg a = true
    · rw [hk, if_pos hn]; exact (key_bd r2).1
    · rw [if_neg hn] at hk
      have h3 := (key_bd nb').2
      have h4 : key b = inf := by omega
      have ib : isInf b = true := by
        unfold isNaN at nb'
        simp at nb'
        unfold key sg at h4
        unfold isInf
        simp
        have : (0 : Int) < inf := by decide
        split at h4 <;> omega
      rw [inl b nb' ib r2]; exact h
end
/-! ## NumH -/
section
open Ieee
theorem sqr_le {M N : Nat} (h : M ≤ N) : sqr M ≤ sqr N := by
  have h1 := rt_is M
  have h2 := rt_is N
  unfold sqr
  by_cases hr : rt M < rt N
  · have : (rt M * rt M != M).toNat ≤ 1 := by cases (rt M * rt M != M) <;> decide
    omega
  · have hle : rt M = rt N := by
      refine Nat.le_antisymm ?_ (by omega)
      refine Decidable.by_contra fun hc => ?_
      have := Nat.mul_le_mul (show rt N + 1 ≤ rt M by omega) (show rt N + 1 ≤ rt M by omega)
      have := h1.1
      have := h2.2
      omega
    rw [hle]
    by_cases he : rt N * rt N = M
    · have : (rt N * rt N != M).toNat = 0 := by simp [he]
      rw [this]; omega
    · have hne : rt N * rt N ≠ N := by
        intro e
        have := h1.1
        rw [hle] at this
        omega
      have t1 : (rt N * rt N != M).toNat = 1 := by simp [he]
      have t2 : (rt N * rt N != N).toNat = 1 := by simp [hne]
      rw [t1, t2]; exact Nat.le_refl _
theorem dSqrt_va (a : Nat) (na : isNaN a = false) (ia : isInf a = false) (hn : neg a = false) (h0 : mag a ≠ 0) : dSqrt a = word false (rung (sqr (va a * 2 ^ 120)) (-598)) := by
  unfold dSqrt
  rw [na, ia, hn, nought_mag, decide_eq_false h0]
  simp only [Bool.false_eq_true, if_false]
  have hp := plc_ge a
  obtain ⟨k, hk, hk1, hk2, hk3⟩ : ∃ k : Nat, (if plc a % 2 = 0 then 120 else 121) = k ∧ 120 ≤ k ∧ k ≤ 121 ∧ (plc a - (k : Nat)) % 2 = 0 := by
    by_cases h : plc a % 2 = 0
    · exact ⟨120, if_pos h, by omega, by omega, by omega⟩
    · exact ⟨121, if_neg h, by omega, by omega, by omega⟩
  rw [hk]
  clear hk
  have hb : 2 ^ 60 ≤ rt (mag a * 2 ^ k) := by
    refine rt_ge (Nat.le_trans ?_ (Nat.le_mul_of_pos_left _ (by omega)))
    exact Nat.pow_le_pow_right (by decide) (by omega)
  unfold round
  rw [if_neg (by omega), refRung_more _ _ _ (by have := nb_ge hb; omega)]
  obtain ⟨j, hj⟩ : ∃ j : Nat, plc a + 1074 + 120 - (k : Nat) = 2 * (j : Int) := ⟨((plc a + 1074 + 120 - (k : Nat)) / 2).toNat, by omega⟩
  have h4 := (sqr_same (mag a * 2 ^ k) j ((plc a - (k : Nat)) / 2 - 1) (by unfold sqr; omega)).1
  have e1 : mag a * 2 ^ k * 2 ^ (2 * j) = va a * 2 ^ 120 := by
    unfold va
    rw [Nat.mul_assoc, Nat.mul_assoc, ← Nat.pow_add, ← Nat.pow_add]
    congr 2; omega
  rw [e1] at h4
  rw [show (-598 : Int) = (plc a - (k : Nat)) / 2 - 1 - j by omega, h4]
  rfl
theorem va_pos {x : Nat} (h : mag x ≠ 0) : va x ≠ 0 := fun e => h ((va_zero x).1 e)
theorem sqr_ne {N : Nat} (h : N ≠ 0) : sqr N ≠ 0 := by
  intro e
  unfold sqr at e
  have h1 : rt N = 0 := by omega
  have : (rt N * rt N != N).toNat = 1 := by rw [h1]; simp; omega
  omega
/-- the root of what is greater is not less -/
theorem sqrt_mono {a b : Nat} (na : isNaN a = false) (nb' : isNaN b = false) (pa : neg a = false) (pb : neg b = false) (h : key a ≤ key b) : key (dSqrt a) ≤ key (dSqrt b) ∧ isNaN (dSqrt a) = false := by
  have hk : ∀ x : Nat, isNaN x = false → neg x = false → isInf x = false → mag x ≠ 0 → key (dSqrt x) = (rung (sqr (va x * 2 ^ 120)) (-598) : Nat) ∧ isNaN (dSqrt x) = false := fun x nx px ix mx => by
    rw [dSqrt_va x nx ix px mx]
    exact ⟨key_word _ _ (rung_le _ _), word_nan _ (rung_le _ _)⟩
  have hz : ∀ x : Nat, isNaN x = false → mag x = 0 → dSqrt x = x := fun x nx mx => by
    unfold dSqrt
    rw [nx, nought_mag, mx]; rfl
  have hi : ∀ x : Nat, isNaN x = false → neg x = false → isInf x = true → dSqrt x = x := fun x nx px ix => by
    unfold dSqrt
    rw [nx, px, ix, nought_mag, decide_eq_false (inf_mag ix)]; rfl
  have k0 : ∀ x : Nat, mag x = 0 → key x = 0 := fun x mx => by unfold key; rw [mag_zero mx]; unfold sg; split <;> rfl
  cases ia : isInf a
  · by_cases ma : mag a = 0
    · rw [hz a na ma, k0 a ma]
      refine ⟨?_, na⟩
      cases ib : isInf b
      · by_cases mb : mag b = 0
        · rw [hz b nb' mb, k0 b mb]; exact Int.le_refl _
        · rw [(hk b nb' pb ib mb).1]; omega
      · rw [hi b nb' pb ib, key_inf ib, pb]; decide
    · obtain ⟨e1, e2⟩ := hk a na pa ia ma
      refine ⟨?_, e2⟩
      cases ib : isInf b
      · by_cases mb : mag b = 0
        · exfalso
          have h1 := vz_le_of_key h
          unfold vz sg at h1
          rw [pa, pb, (va_zero b).2 mb] at h1
          have := va_pos ma
          simp at h1
          omega
        · rw [e1, (hk b nb' pb ib mb).1]
          have h1 := vz_le_of_key h
          unfold vz sg at h1
          rw [pa, pb] at h1
          simp at h1
          have h2 := sqr_le (Nat.mul_le_mul_right (2 ^ 120) h1)
          have h3 := rung_mono (-598) (sqr_ne (Nat.mul_ne_zero (va_pos ma) (by decide))) h2
          omega
      · rw [hi b nb' pb ib, key_inf ib, pb]
        exact (key_bd e2).2
  · have hkey := key_inf ia
    rw [pa] at hkey
    simp only [Bool.false_eq_true, if_false] at hkey
    have ib : isInf b = true := by
      have h3 := (key_bd nb').2
      have h4 : key b = inf := by omega
      unfold key sg at h4
      rw [pb] at h4
      unfold isInf
      simp at h4 ⊢
      omega
    rw [hi a na pa ia, hi b nb' pb ib]
    exact ⟨h, na⟩
def one : Nat := 0x3ff0000000000000
theorem one_mag : mag one = 2 ^ 52 ∧ plc one = -52 ∧ neg one = false ∧ isNaN one = false ∧ isInf one = false ∧ nought one = false := by decide
/-- a finite number in any spelling is itself -/
theorem round_self {x : Nat} (h : x < 2 ^ 64) (hf : x % 2 ^ 63 < inf) (k : Nat) (e : Int) (he : e + k = plc x) : round (neg x) (mag x * 2 ^ k) e false = x := by
  unfold round
  by_cases h0 : mag x = 0
  · rw [h0, Nat.zero_mul, if_pos rfl]; exact zero_word h h0
  · have hk : mag x * 2 ^ k ≠ 0 := Nat.mul_ne_zero h0 (by have := Nat.two_pow_pos k; omega)
    rw [if_neg hk, refRung_eq _ _ hk, rung_scale _ _ _ h0, he, rung_own x hf h0]
    exact word_self h
theorem mul_one {a : Nat} (h : a < 2 ^ 64) (na : isNaN a = false) : dMul a one = a := by
  obtain ⟨o1, o2, o3, o4, o5, o6⟩ := one_mag
  unfold dMul
  rw [o1, o2, o3, o4, o5, o6, na]
  cases ia : isInf a
  · simp only [Bool.false_and, Bool.or_self, Bool.false_eq_true, if_false, Bool.bne_false]
    exact round_self h (fin_lt na ia) 52 _ (by omega)
  · simp only [Bool.and_false, Bool.false_and, Bool.or_self, Bool.false_eq_true, if_false, Bool.bne_false, Bool.or_false, if_true]
    exact inf_word h ia
theorem div_one {a : Nat} (h : a < 2 ^ 64) (na : isNaN a = false) : dDiv a one = a := by
  obtain ⟨o1, o2, o3, o4, o5, o6⟩ := one_mag
  unfold dDiv
  rw [o1, o2, o3, o4, o5, o6, na]
  cases ia : isInf a
  · simp only [Bool.and_false, Bool.or_self, Bool.false_eq_true, if_false, Bool.bne_false, Bool.false_or]
    have e1 : mag a * 2 ^ 120 = mag a * 2 ^ 68 * 2 ^ 52 := by rw [Nat.mul_assoc, ← Nat.pow_add]
    rw [e1, Nat.mul_div_cancel _ (Nat.two_pow_pos 52), Nat.mul_mod_left]
    cases hz : nought a
    · simp only [Bool.false_eq_true, if_false]
      exact round_self h (fin_lt na ia) 68 _ (by omega)
    · simp only [if_true]
      have hm : mag a = 0 := by rw [nought_mag] at hz; simpa using hz
      unfold round
      rw [if_pos rfl]; exact zero_word h hm
  · simp only [Bool.and_false, Bool.or_self, Bool.false_eq_true, if_false, Bool.bne_false, Bool.or_false, if_true]
    exact inf_word h ia
theorem div_self {a : Nat} (na : isNaN a = false) (ia : isInf a = false) (h0 : nought a = false) : dDiv a a = one := by
  have hm : mag a ≠ 0 := by rw [nought_mag] at h0; simpa using h0
  unfold dDiv
  rw [na, ia, h0]
  simp only [Bool.and_self, Bool.or_self, Bool.false_eq_true, if_false, bne_self_eq_false]
  rw [Nat.mul_div_cancel_left _ (by omega), Nat.mul_mod_right, show plc a - 120 - plc a = -120 by omega]
  decide
theorem sub_self {a : Nat} (h : a < 2 ^ 64) (na : isNaN a = false) (ia : isInf a = false) : dSub a a = 0 := by
  obtain ⟨_, h2, h3⟩ := neg_facts h na
  unfold dSub dAdd
  rw [isNaN_mod h3, isInf_mod h3, na, ia, h2, (mag_mod h3).1, (mag_mod h3).2]
  simp
end
/-! ## NumI -/
section
open Ieee
/-- what has no more than 53 digits, and is not too great, is there exactly -/
theorem va_rung (s : Bool) (n : Nat) (e : Int) (h0 : n ≠ 0) (hn : n < 2 ^ 53) (he : -1074 ≤ e) (hm : e ≤ 919) :
    va (word s (rung n e)) = n * 2 ^ (e + 1074).toNat ∧ word s (rung n e) % 2 ^ 63 < inf := by
  have hL := log2_small hn
  have h1 := Nat.log2_self_le h0
  have h2 : n < 2 ^ (n.log2 + 1) := Nat.lt_log2_self
  have hl1 : last n e ≤ e := by unfold last; omega
  have hl2 : -1074 ≤ last n e := Int.le_max_right _ _
  have hlm : last n e ≤ 919 := by omega
  obtain ⟨c, hc⟩ : ∃ c, n * 2 ^ (e - last n e).toNat = c := ⟨_, rfl⟩
  obtain ⟨K, hK⟩ : ∃ K, (last n e + 1074).toNat = K := ⟨_, rfl⟩
  have hv : n * 2 ^ (e + 1074).toNat = c * 2 ^ K := by
    rw [← hc, Nat.mul_assoc, ← Nat.pow_add]
    congr 2; omega
  have hcl : c < 2 ^ 53 := by
    rw [← hc]
    have h3 : n * 2 ^ (e - last n e).toNat < 2 ^ (n.log2 + 1) * 2 ^ (e - last n e).toNat := Nat.mul_lt_mul_of_pos_right h2 (Nat.two_pow_pos _)
    rw [← Nat.pow_add] at h3
    exact Nat.lt_of_lt_of_le h3 (Nat.pow_le_pow_right (by decide) (by unfold last; omega))
  have hcg : K ≠ 0 → 2 ^ 52 ≤ c := by
    intro hk
    rw [← hc]
    have h3 : 2 ^ n.log2 * 2 ^ (e - last n e).toNat ≤ n * 2 ^ (e - last n e).toNat := Nat.mul_le_mul_right _ h1
    rw [← Nat.pow_add] at h3
    exact Nat.le_trans (Nat.pow_le_pow_right (by decide) (by unfold last at hK ⊢; omega)) h3
  have hKm : K ≤ 1993 := by omega
  have hr : rung n e = K * 2 ^ 52 + c := by
    unfold rung
    rw [show (last n e - e).toNat = 0 by omega, cutE_zero, hc, hK]
    refine Nat.min_eq_left ?_
    have := Nat.mul_le_mul_right (2 ^ 52) hKm
    refine Nat.le_trans (Nat.add_le_add this (Nat.le_of_lt hcl)) (by decide)
  have hri : rung n e < inf := by
    rw [hr]
    have := Nat.mul_le_mul_right (2 ^ 52) hKm
    refine Nat.lt_of_le_of_lt (Nat.add_le_add this (Nat.le_of_lt hcl)) (by decide)
  have hw := word_mod s (Nat.le_of_lt hri)
  refine ⟨?_, by rw [hw]; exact hri⟩
  rw [hv]
  have hwm : word s (rung n e) % 2 ^ 63 = rung n e % 2 ^ 63 := by
    rw [hw, Nat.mod_eq_of_lt (Nat.lt_trans hri (by decide))]
  obtain ⟨m1, m2⟩ := mag_mod hwm
  unfold va
  rw [m1, m2, hr]
  clear hwm hw m1 m2 hri hr hv hc hlm hl1 hl2 h1 h2 hL
  by_cases hk0 : K = 0
  · subst hk0
    rw [Nat.zero_mul, Nat.zero_add, Nat.pow_zero, Nat.mul_one]
    by_cases hc2 : c < 2 ^ 52
    · have e1 : c / 2 ^ 52 % 2048 = 0 := by omega
      have e2 : c % 2 ^ 52 = c := by omega
      unfold mag plc
      rw [e1, if_pos rfl, if_pos rfl, e2]
      have z1 : (-1074 + 1074 : Int).toNat = 0 := rfl
      rw [z1, Nat.pow_zero, Nat.mul_one]
    · have e1 : c / 2 ^ 52 % 2048 = 1 := by omega
      have e2 : c % 2 ^ 52 = c - 2 ^ 52 := by omega
      unfold mag plc
      rw [e1, if_neg (by decide), if_neg (by decide), e2]
      have z1 : (((1 : Nat) : Int) - 1075 + 1074).toNat = 0 := rfl
      rw [z1, Nat.pow_zero, Nat.mul_one]
      omega
  · have hcg := hcg hk0
    have e0 : K * 2 ^ 52 + c = (K + 1) * 2 ^ 52 + (c - 2 ^ 52) := by rw [Nat.add_mul, Nat.one_mul]; omega
    have e1 : (K * 2 ^ 52 + c) / 2 ^ 52 % 2048 = K + 1 := by
      rw [e0, Nat.mul_comm, Nat.mul_add_div (by decide), Nat.div_eq_of_lt (by omega), Nat.add_zero, Nat.mod_eq_of_lt (by omega)]
    have e2 : (K * 2 ^ 52 + c) % 2 ^ 52 = c - 2 ^ 52 := by
      rw [e0, Nat.mul_comm, Nat.mul_add_mod, Nat.mod_eq_of_lt (by omega)]
    unfold mag plc
    rw [e1, e2, if_neg (by omega), if_neg (by omega)]
    rw [show (((K + 1 : Nat) : Int) - 1075 + 1074).toNat = K by omega, show 2 ^ 52 + (c - 2 ^ 52) = c by omega]
theorem neg_zero_facts : dNeg 0 = 2 ^ 63 ∧ mag (2 ^ 63) = 0 ∧ plc (2 ^ 63) = -1074 ∧ neg (2 ^ 63) = true ∧ isNaN (2 ^ 63) = false ∧ isInf (2 ^ 63) = false := by decide
theorem sub_zero {a : Nat} (h : a < 2 ^ 64) (na : isNaN a = false) : dSub a 0 = a := by
  obtain ⟨z0, z1, z2, z3, z4, z5⟩ := neg_zero_facts
  unfold dSub
  rw [z0]
  unfold dAdd
  rw [z1, z2, z3, z4, z5, na]
  cases ia : isInf a
  · simp only [Bool.and_false, Bool.false_and, Bool.or_self, Bool.false_eq_true, if_false]
    have hp := plc_ge a
    rw [show min (plc a) (-1074) = -1074 by omega]
    have hu0 : up 0 (-1074 - -1074) = 0 := by decide
    rw [hu0]
    have hs := round_self h (fin_lt na ia) (plc a - -1074).toNat (-1074) (by omega)
    by_cases hn : neg a = true
    · rw [if_pos hn, Nat.add_zero]; exact hs
    · rw [if_neg hn]
      have hn2 : neg a = false := by simpa using hn
      by_cases h0 : mag a = 0
      · have : up (mag a) (plc a - -1074) = 0 := by unfold up; rw [h0, Nat.zero_mul]
        rw [if_pos this]
        have := zero_word h h0
        rw [hn2] at this
        exact this
      · have hpos : 0 < up (mag a) (plc a - -1074) := Nat.mul_pos (by omega) (Nat.two_pow_pos _)
        rw [if_neg (by omega), if_pos hpos, Nat.sub_zero]
        exact hs
  · simp
theorem neg_word (s : Bool) {r : Nat} (h : r ≤ inf) : dNeg (word s r) = word (!s) r := by
  have hr : r < 2 ^ 63 := Nat.lt_of_le_of_lt h (by decide)
  unfold dNeg
  rw [word_nan s h, word_neg s h]
  unfold word
  cases s <;> simp <;> omega
/-- a difference turned, unless it is nothing -/
theorem sub_turn {a b : Nat} (ha : a < 2 ^ 64) (hb : b < 2 ^ 64) : dSub a b = dNeg (dSub b a) ∨ (dSub a b = 0 ∧ dSub b a = 0) := by
  have nn : dNeg nan = nan := by decide
  have nl : ∀ x y : Nat, isNaN x = true → dAdd x y = nan := fun x y hx => by unfold dAdd; rw [hx]; simp
  have nr : ∀ x y : Nat, isNaN y = true → dAdd x y = nan := fun x y hy => by unfold dAdd; rw [hy]; simp
  have nd : ∀ x : Nat, isNaN x = true → isNaN (dNeg x) = true := fun x hx => by unfold dNeg; rw [hx, if_pos rfl]; exact nan_nan
  cases na : isNaN a
  · cases nb' : isNaN b
    · obtain ⟨a1, a2, a3⟩ := neg_facts ha na
      obtain ⟨b1, b2, b3⟩ := neg_facts hb nb'
      have ma := mag_mod a3
      have mb := mag_mod b3
      have ia' := isInf_mod a3
      have ib' := isInf_mod b3
      have na' := isNaN_mod a3
      have nb'' := isNaN_mod b3
      unfold dSub
      cases ia : isInf a
      · cases ib : isInf b
        · unfold dAdd
          rw [na', nb'', ia', ib', na, nb', ia, ib, a2, b2, ma.1, ma.2, mb.1, mb.2, Int.min_comm (plc b) (plc a)]
          simp only [Bool.or_self, Bool.false_and, Bool.false_eq_true, if_false]
          generalize min (plc a) (plc b) = e
          generalize up (mag a) (plc a - e) = x
          generalize up (mag b) (plc b - e) = y
          have hrn : ∀ (s : Bool) (n : Nat), dNeg (round s n e false) = round (!s) n e false := fun s n => neg_word s (round_le n e false)
          by_cases hs : neg a = !neg b
          · left
            rw [if_pos hs, if_pos (by rw [hs, Bool.not_not]), hrn, Nat.add_comm, hs]
          · have hs2 : neg a = neg b := by cases h1 : neg a <;> cases h2 : neg b <;> simp_all
            rw [if_neg hs, if_neg (show ¬ neg b = !neg a from by rw [hs2]; cases neg b <;> simp)]
            by_cases hxy : x = y
            · right; rw [if_pos hxy, if_pos hxy.symm]; exact ⟨rfl, rfl⟩
            · left
              rw [if_neg hxy, if_neg (show ¬ y = x from fun h => hxy h.symm)]
              by_cases h3 : y < x
              · rw [if_pos h3, if_neg (by omega), hrn, Bool.not_not]
              · rw [if_neg h3, if_pos (by omega), hrn]
        · left
          have e1 : dAdd a (dNeg b) = dNeg b := by unfold dAdd; rw [na, nb'', nb', ia, ib', ib]; simp
          have e2 : dAdd b (dNeg a) = b := by unfold dAdd; rw [na', na, nb', ia', ia, ib]; simp
          rw [e1, e2]
      · cases ib : isInf b
        · left
          have e1 : dAdd a (dNeg b) = a := by unfold dAdd; rw [na, nb'', nb', ia, ib', ib]; simp
          have e2 : dAdd b (dNeg a) = dNeg a := by unfold dAdd; rw [na', na, nb', ia', ia, ib]; simp
          rw [e1, e2, dNeg_neg ha na]
        · left
          have h1 := inf_same ha b1 ia (by rw [ib', ib])
          have h2 := inf_same hb a1 ib (by rw [ia', ia])
          have e3 : neg a = !neg b → a = dNeg b := fun hs => by
            have e4 := inf_word b1 (show isInf (dNeg b) = true by rw [ib', ib])
            rw [← inf_word ha ia, ← e4, b2, hs]
          have e5 : neg a = !neg b → dNeg (dNeg a) = dNeg b := fun hs => by rw [dNeg_neg ha na]; exact e3 hs
          unfold dAdd
          rw [na', nb'', ia', ib', na, nb', ia, ib, h1, h2, a2, b2]
          cases p : neg a <;> cases r : neg b <;> simp only [p, r, Bool.not_true, Bool.not_false, Bool.false_eq_true, Bool.true_eq_false, bne_self_eq_false, Bool.or_self, Bool.and_false, Bool.and_self, Bool.false_or, if_false, if_true, true_implies] at e3 ⊢
          · exact nn.symm
          · rw [← e3]
          · rw [← e3]
          · exact nn.symm
    · left; unfold dSub; rw [nr _ _ (nd b nb'), nl _ _ nb', nn]
  · left; unfold dSub; rw [nl _ _ na, nr _ _ (nd a na), nn]
end
/-! ## NumJ -/
section
open Ieee
/-- one, in units of the least -/
@[irreducible] def U : Nat := 2 ^ 1074
theorem U_eq (k : Nat) (h : k = 1074) : 2 ^ k = U := by subst h; unfold U; rfl
theorem U_ex : ∃ k, U = 2 ^ k ∧ k = 1074 := ⟨1074, by unfold U; rfl, rfl⟩
theorem U_pos : 0 < U := by
  obtain ⟨k, h, _⟩ := U_ex
  rw [h]; exact Nat.two_pow_pos k
/-- a whole number with a sign -/
def whl (s : Bool) (n : Nat) : Nat := round s n 0 false
theorem whl_facts (s : Bool) (n : Nat) (hn : n < 2 ^ 53) : va (whl s n) = n * U ∧ whl s n % 2 ^ 63 < inf ∧ neg (whl s n) = s ∧ whl s n < 2 ^ 64 := by
  refine ⟨?_, ?_, word_neg s (round_le n 0 false), round_lt s n 0 false⟩
  · by_cases h0 : n = 0
    · subst h0
      unfold whl round
      rw [if_pos rfl, Nat.zero_mul, va_zero]
      cases s <;> decide
    · unfold whl round
      rw [if_neg h0, refRung_eq _ _ h0]
      rw [(va_rung s n 0 h0 hn (by omega) (by omega)).1, U_eq ((0 : Int) + 1074).toNat rfl]
  · by_cases h0 : n = 0
    · subst h0
      unfold whl round
      rw [if_pos rfl]
      cases s <;> decide
    · unfold whl round
      rw [if_neg h0, refRung_eq _ _ h0]
      exact (va_rung s n 0 h0 hn (by omega) (by omega)).2
theorem fin_nan {x : Nat} (h : x % 2 ^ 63 < inf) : isNaN x = false ∧ isInf x = false := by
  unfold isNaN isInf
  simp
  omega
/-- what is whole stays -/
theorem step_whole {x n : Nat} (hx : x < 2 ^ 64) (hf : x % 2 ^ 63 < inf) (hv : va x = n * U) (one : Bool) : dStep x one = x := by
  obtain ⟨h1, h2⟩ := fin_nan hf
  unfold dStep
  rw [h1, h2]
  simp only [Bool.false_eq_true, if_false]
  by_cases hp : 0 ≤ plc x
  · rw [if_pos hp]
    exact round_self hx hf (plc x).toNat 0 (by omega)
  · rw [if_neg hp]
    have hpl := plc_ge x
    obtain ⟨d, hd⟩ : ∃ d, (-plc x).toNat = d := ⟨_, rfl⟩
    rw [hd]
    have hm : mag x = n * 2 ^ d := by
      unfold va at hv
      have e : n * U = n * 2 ^ d * 2 ^ (plc x + 1074).toNat := by
        rw [Nat.mul_assoc, ← Nat.pow_add, U_eq _ (by omega)]
      rw [e] at hv
      exact Nat.eq_of_mul_eq_mul_right (Nat.two_pow_pos _) hv
    have e1 : mag x / 2 ^ d = n := by rw [hm, Nat.mul_div_cancel _ (Nat.two_pow_pos d)]
    have e2 : mag x % 2 ^ d = 0 := by rw [hm, Nat.mul_mod_left]
    rw [e1, e2]
    have e3 : (one && (0 : Nat) != 0).toNat = 0 := by cases one <;> rfl
    rw [e3, Nat.add_zero]
    have e4 := round_self hx hf 0 (plc x) (by omega)
    have e5 : round (neg x) n 0 false = round (neg x) (mag x * 2 ^ 0) (plc x) false := by
      have e6 : n * 2 ^ ((0 : Int) + 1074).toNat = n * 2 ^ d * 2 ^ (plc x + 1074).toNat := by
        rw [Nat.mul_assoc, ← Nat.pow_add, U_eq ((0 : Int) + 1074).toNat rfl, U_eq (d + (plc x + 1074).toNat) (by omega)]
      rw [round_va _ _ _ (by omega), round_va _ _ _ hpl, hm, Nat.pow_zero, Nat.mul_one, e6]
    rw [e5]; exact e4
/-- a number that is not whole lies between two that are -/
theorem step_parts {a : Nat} (ha : a < 2 ^ 64) (hf : a % 2 ^ 63 < inf) :
    (∀ one, dStep a one = a) ∨ (∃ w, w < 2 ^ 52 ∧ w * U < va a ∧ va a < (w + 1) * U ∧ dStep a true = whl (neg a) (w + 1) ∧ dStep a false = whl (neg a) w) := by
  obtain ⟨h1, h2⟩ := fin_nan hf
  by_cases hp : 0 ≤ plc a
  · left
    intro one
    unfold dStep
    rw [h1, h2]
    simp only [Bool.false_eq_true, if_false]
    rw [if_pos hp]
    exact round_self ha hf (plc a).toNat 0 (by omega)
  · have hpl := plc_ge a
    obtain ⟨d, hd⟩ : ∃ d, (-plc a).toNat = d := ⟨_, rfl⟩
    have e0 : U = 2 ^ d * 2 ^ (plc a + 1074).toNat := by rw [← Nat.pow_add]; exact (U_eq _ (by omega)).symm
    have hdm := Nat.div_add_mod (mag a) (2 ^ d)
    have hT := Nat.two_pow_pos (plc a + 1074).toNat
    by_cases hr : mag a % 2 ^ d = 0
    · left
      intro one
      refine step_whole ha hf (n := mag a / 2 ^ d) ?_ one
      rw [e0, ← Nat.mul_assoc]
      unfold va
      congr 1
      rw [Nat.mul_comm]; omega
    · right
      refine ⟨mag a / 2 ^ d, ?_, ?_, ?_, ?_, ?_⟩
      · have hm := mag_lt a
        have hd1 : 2 ^ 1 ≤ 2 ^ d := Nat.pow_le_pow_right (by decide) (by omega)
        refine (Nat.div_lt_iff_lt_mul (Nat.two_pow_pos d)).2 ?_
        exact Nat.lt_of_lt_of_le hm (Nat.mul_le_mul_left (2 ^ 52) hd1)
      · rw [e0, ← Nat.mul_assoc]
        unfold va
        refine Nat.mul_lt_mul_of_pos_right ?_ hT
        rw [Nat.mul_comm]; omega
      · rw [e0, ← Nat.mul_assoc]
        unfold va
        refine Nat.mul_lt_mul_of_pos_right ?_ hT
        have := Nat.mod_lt (mag a) (Nat.two_pow_pos d)
        rw [Nat.add_mul, Nat.one_mul, Nat.mul_comm (mag a / 2 ^ d)]; omega
      · unfold dStep whl
        rw [h1, h2]
        simp only [Bool.false_eq_true, if_false, Bool.true_and]
        rw [if_neg hp, hd]
        have : (mag a % 2 ^ d != 0).toNat = 1 := by simp [hr]
        rw [this]
      · unfold dStep whl
        rw [h1, h2]
        simp only [Bool.false_eq_true, if_false, Bool.false_and]
        rw [if_neg hp, hd]
        rfl
theorem key_le_of_vz {x y : Nat} (hx : x % 2 ^ 63 < inf) (hy : y % 2 ^ 63 < inf) (h : vz x ≤ vz y) : key x ≤ key y := by
  rw [key_own x hx, key_own y hy]; exact keyZ_mono h
theorem vz_neg {x : Nat} (h : x < 2 ^ 64) (hn : isNaN x = false) : vz (dNeg x) = -vz x := by
  obtain ⟨_, h2, h3⟩ := neg_facts h hn
  unfold vz va
  rw [h2, (mag_mod h3).1, (mag_mod h3).2]
  unfold sg
  cases neg x <;> simp
def dFloor (a : Nat) : Nat := dStep a (neg a)
def dCeil (a : Nat) : Nat := dStep a (!neg a)
def dTrunc (a : Nat) : Nat := dStep a false
theorem one_key : keyZ (U : Int) = key one := by
  have h := key_own one (by decide)
  have h2 : vz one = U := by
    have : va one = U := by
      unfold va
      rw [one_mag.1, one_mag.2.1, ← Nat.pow_add, U_eq _ (by rfl)]
    unfold vz
    rw [this, one_mag.2.2.1]
    rfl
  rw [h, h2]
theorem lt_next {w : Nat} (h : w < 2 ^ 52) : w + 1 < 2 ^ 53 := by omega
theorem gap1 (x u : Nat) : ((x + u : Nat) : Int) + -((x : Nat) : Int) ≤ u := by omega
theorem gap2 (x u : Nat) : -((x : Nat) : Int) + -(-((x + u : Nat) : Int)) ≤ u := by omega
theorem zero_le_one : key 0 ≤ key one := by decide
theorem zero_no_nan : isNaN 0 = false := by decide
theorem sg_pos (x : Nat) : sg false x = (x : Int) := by unfold sg; rw [if_neg (by decide)]
theorem sg_ng (x : Nat) : sg true x = -(x : Int) := by unfold sg; rw [if_pos rfl]
/-- the laws of whole parts, of what is finite -/
theorem steps_fin {a : Nat} (ha : a < 2 ^ 64) (hf : a % 2 ^ 63 < inf) :
    key (dFloor a) ≤ key a ∧ key a ≤ key (dCeil a) ∧ key (dSub (dCeil a) (dFloor a)) ≤ key one ∧ dFloor (dFloor a) = dFloor a ∧ dCeil (dFloor a) = dFloor a ∧ dTrunc (dCeil a) = dCeil a ∧ (dTrunc a % 2 ^ 63 ≤ a % 2 ^ 63) ∧ (dTrunc a = dFloor a ∨ dTrunc a = dCeil a) ∧ isNaN (dFloor a) = false ∧ isNaN (dCeil a) = false ∧ isNaN (dTrunc a) = false ∧ isNaN (dSub (dCeil a) (dFloor a)) = false := by
  obtain ⟨na, ia⟩ := fin_nan hf
  rcases step_parts ha hf with h | ⟨w, hw, l1, l2, h1, h2⟩
  · have e1 : dFloor a = a := h _
    have e2 : dCeil a = a := h _
    have e3 : dTrunc a = a := h _
    rw [e1, e2, e3, e1, sub_self ha na ia]
    exact ⟨Int.le_refl _, Int.le_refl _, zero_le_one, rfl, rfl, rfl, Nat.le_refl _, .inl rfl, na, na, na, zero_no_nan⟩
  · obtain ⟨p1, p2, p3, p4⟩ := whl_facts (neg a) w (Nat.lt_of_succ_lt (lt_next hw))
    obtain ⟨q1, q2, q3, q4⟩ := whl_facts (neg a) (w + 1) (lt_next hw)
    obtain ⟨pn, pi⟩ := fin_nan p2
    obtain ⟨qn, qi⟩ := fin_nan q2
    have t1 : dTrunc a = whl (neg a) w := h2
    have sm : ∀ one, dStep (whl (neg a) w) one = whl (neg a) w := step_whole p4 p2 p1
    have sq : ∀ one, dStep (whl (neg a) (w + 1)) one = whl (neg a) (w + 1) := step_whole q4 q2 q1
    have ok := one_key
    generalize U = u at *
    have hpow : (w + 1) * u = w * u + u := by rw [Nat.add_mul, Nat.one_mul]
    have habs : ∀ x y : Nat, x % 2 ^ 63 < inf → y % 2 ^ 63 < inf → va x ≤ va y → x % 2 ^ 63 ≤ y % 2 ^ 63 := fun x y hx hy hv => by
      rw [← rungN_va x hx, ← rungN_va y hy]; exact rungN_mono hv
    have hk7 : whl (neg a) w % 2 ^ 63 ≤ a % 2 ^ 63 := habs _ _ p2 hf (by rw [p1]; exact Nat.le_of_lt l1)
    cases hn : neg a
    · rw [hn] at p1 p2 p3 p4 q1 q2 q3 q4 pn pi qn qi t1 sm sq h1 h2 hk7
      have e1 : dFloor a = whl false w := by unfold dFloor; rw [hn]; exact h2
      have e2 : dCeil a = whl false (w + 1) := by unfold dCeil; rw [hn]; exact h1
      obtain ⟨r1, r2, r3⟩ := neg_facts p4 pn
      have va1 : vz (whl false w) = (w * u : Nat) := by unfold vz; rw [p1, p3, sg_pos]
      have va2 : vz (whl false (w + 1)) = ((w + 1) * u : Nat) := by unfold vz; rw [q1, q3, sg_pos]
      have va3 : vz a = va a := by unfold vz; rw [hn, sg_pos]
      rw [e1, e2, t1]
      refine ⟨key_le_of_vz p2 hf (by rw [va1, va3]; exact Int.ofNat_le.2 (Nat.le_of_lt l1)), key_le_of_vz hf q2 (by rw [va2, va3]; exact Int.ofNat_le.2 (Nat.le_of_lt l2)), ?_, sm _, sm _, sq _, hk7, .inl rfl, pn, qn, pn, ?_⟩
      · unfold dSub
        rw [dAdd_key _ _ qn (by rw [isNaN_mod r3]; exact pn) qi (by rw [isInf_mod r3]; exact pi), vz_neg p4 pn, va1, va2, ← ok]
        refine keyZ_mono ?_
        rw [hpow]
        exact gap1 _ _
      · exact dAdd_nan qn (by rw [isNaN_mod r3]; exact pn) (by rw [qi, Bool.false_and, Bool.false_and])
    · rw [hn] at p1 p2 p3 p4 q1 q2 q3 q4 pn pi qn qi t1 sm sq h1 h2 hk7
      have e1 : dFloor a = whl true (w + 1) := by unfold dFloor; rw [hn]; exact h1
      have e2 : dCeil a = whl true w := by unfold dCeil; rw [hn]; exact h2
      obtain ⟨r1, r2, r3⟩ := neg_facts q4 qn
      have va1 : vz (whl true w) = -((w * u : Nat) : Int) := by unfold vz; rw [p1, p3, sg_ng]
      have va2 : vz (whl true (w + 1)) = -(((w + 1) * u : Nat) : Int) := by unfold vz; rw [q1, q3, sg_ng]
      have va3 : vz a = -(va a : Int) := by unfold vz; rw [hn, sg_ng]
      rw [e1, e2, t1]
      refine ⟨key_le_of_vz q2 hf (by rw [va2, va3]; exact Int.neg_le_neg (Int.ofNat_le.2 (Nat.le_of_lt l2))), key_le_of_vz hf p2 (by rw [va1, va3]; exact Int.neg_le_neg (Int.ofNat_le.2 (Nat.le_of_lt l1))), ?_, sq _, sq _, sm _, hk7, .inr rfl, qn, pn, pn, ?_⟩
      · unfold dSub
        rw [dAdd_key _ _ pn (by rw [isNaN_mod r3]; exact qn) pi (by rw [isInf_mod r3]; exact qi), vz_neg q4 qn, va1, va2, ← ok]
        refine keyZ_mono ?_
        rw [hpow]
        exact gap2 _ _
      · exact dAdd_nan pn (by rw [isNaN_mod r3]; exact qn) (by rw [pi, Bool.false_and, Bool.false_and])
end
/-! ## NumK -/
section
set_option linter.unusedVariables false
set_option linter.unusedSimpArgs false
open Ieee
/-- fits, and is no other NaN -/
def Ok (x : Nat) : Prop := x < 2 ^ 64 ∧ (isNaN x = true → x = nan)
theorem ok_of {x : Nat} (h : x < 2 ^ 64) (n : isNaN x = false) : Ok x := ⟨h, fun e => by rw [n] at e; cases e⟩
theorem ok_nan : Ok nan := ⟨nan_lt, fun _ => rfl⟩
theorem ok_round (s : Bool) (n : Nat) (e : Int) (m : Bool) : Ok (round s n e m) := ok_of (round_lt s n e m) (round_nan s n e m)
theorem ok_word (s : Bool) : Ok (word s inf) := ok_of (word_lt s (Nat.le_refl _)) (word_nan s (Nat.le_refl _))
theorem ok_zero : Ok 0 := ok_of (by decide) (by decide)
theorem inf_nan {x : Nat} (h : isInf x = true) : isNaN x = false := by
  unfold isInf at h
  unfold isNaN
  simp at h ⊢
  omega
theorem ok_inf {x : Nat} (hx : x < 2 ^ 64) (h : isInf x = true) : Ok x := ok_of hx (inf_nan h)
theorem nought_nan {x : Nat} (h : nought x = true) : isNaN x = false := by
  unfold nought at h
  unfold isNaN inf
  simp at h ⊢
  omega
theorem ok_add (a b : Nat) (ha : a < 2 ^ 64) (hb : b < 2 ^ 64) : Ok (dAdd a b) := by
  unfold dAdd
  split
  · exact ok_nan
  split
  · exact ok_inf ha (by assumption)
  split
  · exact ok_inf hb (by assumption)
  simp only []
  split
  · exact ok_round _ _ _ _
  split
  · exact ok_zero
  split
  · exact ok_round _ _ _ _
  · exact ok_round _ _ _ _
theorem ok_mul (a b : Nat) : Ok (dMul a b) := by
  unfold dMul
  split
  · exact ok_nan
  split
  · exact ok_word _
  · exact ok_round _ _ _ _
theorem ok_div (a b : Nat) : Ok (dDiv a b) := by
  unfold dDiv
  split
  · exact ok_nan
  split
  · exact ok_word _
  split
  · exact ok_round _ _ _ _
  · exact ok_round _ _ _ _
theorem ok_sqrt (a : Nat) (ha : a < 2 ^ 64) : Ok (dSqrt a) := by
  unfold dSqrt
  split
  · exact ok_nan
  split
  · exact ok_of ha (nought_nan (by assumption))
  split
  · exact ok_nan
  split
  · exact ok_inf ha (by assumption)
  · exact ok_round _ _ _ _
theorem ok_step (a : Nat) (one : Bool) (ha : a < 2 ^ 64) : Ok (dStep a one) := by
  unfold dStep
  split
  · exact ok_nan
  split
  · exact ok_inf ha (by assumption)
  · exact ok_round _ _ _ _
theorem neg_lt (a : Nat) (ha : a < 2 ^ 64) : dNeg a < 2 ^ 64 := by
  unfold dNeg neg
  split
  · exact nan_lt
  split
  · omega
  · simp at *; omega
theorem ok_neg (a : Nat) (ha : a < 2 ^ 64) : Ok (dNeg a) := by
  cases h : isNaN a
  · obtain ⟨h1, h2, h3⟩ := neg_facts ha h
    exact ok_of h1 (by rw [isNaN_mod h3, h])
  · unfold dNeg; rw [h, if_pos rfl]; exact ok_nan
theorem ok_abs (a : Nat) (ha : a < 2 ^ 64) : Ok (dAbs a) := by
  cases h : isNaN a
  · unfold dAbs
    rw [h]
    refine ok_of (by simp; omega) ?_
    simp only [Bool.false_eq_true, if_false]
    rw [isNaN_mod (y := a) (by omega), h]
  · unfold dAbs; rw [h, if_pos rfl]; exact ok_nan
/-- one NaN for all -/
def tidy (x : Nat) : Nat := if isNaN x then nan else x
theorem tidy_ok {x : Nat} (h : Ok x) : tidy x = x := by
  unfold tidy
  cases hn : isNaN x
  · simp
  · rw [if_pos rfl, h.2 hn]
theorem tidy_nan {x : Nat} (h : isNaN x = true) : tidy x = nan := by unfold tidy; rw [if_pos h]
theorem ok_tidy (x : Nat) (h : x < 2 ^ 64) : Ok (tidy x) := by
  unfold tidy
  cases hn : isNaN x
  · exact ok_of (by simpa using h) (by simpa using hn)
  · exact ok_nan
/-- what the tape gives in place of no number is a NaN -/
theorem wild_nan (t : Nat) : isNaN ((t % 2) * 2 ^ 63 + 0x7ff0000000000000 + 1 + (t / 2) % (2 ^ 52 - 1)) = true ∧ (t % 2) * 2 ^ 63 + 0x7ff0000000000000 + 1 + (t / 2) % (2 ^ 52 - 1) < 2 ^ 64 := by
  have h1 : (t / 2) % (2 ^ 52 - 1) < 2 ^ 52 - 1 := Nat.mod_lt _ (by decide)
  unfold isNaN inf
  simp only [decide_eq_true_eq]
  rcases Nat.mod_two_eq_zero_or_one t with h | h <;> rw [h] <;> omega
end
/-! ## NumL -/
section
set_option linter.unusedVariables false
set_option linter.unusedSimpArgs false
open Ieee
theorem compare_scale (a b : Int) (k : Nat) : compare (a * (2 ^ k : Nat)) (b * (2 ^ k : Nat)) = compare a b := by
  have hp : (0 : Int) < (2 ^ k : Nat) := by have := Nat.two_pow_pos k; omega
  rcases Int.lt_trichotomy a b with h | h | h
  · have h2 := Int.mul_lt_mul_of_pos_right h hp
    rw [Int.compare_eq_lt.2 h, Int.compare_eq_lt.2 h2]
  · subst h
    rw [Int.compare_eq_eq.2 rfl, Int.compare_eq_eq.2 rfl]
  · have h2 := Int.mul_lt_mul_of_pos_right h hp
    rw [Int.compare_eq_gt.2 h, Int.compare_eq_gt.2 h2]
theorem sg_mul (s : Bool) (x k : Nat) : sg s (x * k) = sg s x * (k : Nat) := by
  unfold sg; cases s
  · simp
  · simp [Int.neg_mul]
theorem up_vz (x : Nat) (e : Int) (h1 : -1074 ≤ e) (h2 : e ≤ plc x) : signed (neg x) (mag x) (plc x - e).toNat * ((2 ^ (e + 1074).toNat : Nat) : Int) = vz x := by
  rw [signed_eq, ← sg_mul]
  unfold vz
  rw [← up_va x e h1 h2]
  rfl
theorem compare_key {x y : Nat} (hx : x % 2 ^ 63 < inf) (hy : y % 2 ^ 63 < inf) : compare (key x) (key y) = compare (vz x) (vz y) := by
  rcases Int.lt_trichotomy (key x) (key y) with h | h | h
  · rw [Int.compare_eq_lt.2 h, Int.compare_eq_lt.2 ((key_lt_iff hx hy).1 h)]
  · have h1 := vz_le_of_key (Int.le_of_eq h)
    have h2 := vz_le_of_key (Int.le_of_eq h.symm)
    rw [h, Int.le_antisymm h1 h2]
    rw [show compare (key y) (key y) = .eq from Int.compare_eq_eq.2 rfl, show compare (vz y) (vz y) = .eq from Int.compare_eq_eq.2 rfl]
  · rw [Int.compare_eq_gt.2 h, Int.compare_eq_gt.2 ((key_lt_iff hy hx).1 h)]
theorem key_inf_pos {x : Nat} (hi : isInf x = true) (hn : neg x = false) : key x = inf := by rw [key_inf hi, hn]; rfl
theorem key_inf_neg {x : Nat} (hi : isInf x = true) (hn : neg x = true) : key x = -(inf : Int) := by rw [key_inf hi, hn]; rfl
theorem key_fin {x : Nat} (hx : x % 2 ^ 63 < inf) : -(inf : Int) < key x ∧ key x < inf := by
  unfold key sg; split <;> omega
theorem order_eq {x y : Nat} (h1 : x < 2 ^ 64) (h2 : y < 2 ^ 64) (n1 : isNaN x = false) (n2 : isNaN y = false) : double.order x y = some (compare (key x) (key y)) := by
  unfold Format.order
  rw [read_eq x h1, read_eq y h2, n1, n2]
  simp only [Bool.false_eq_true, if_false]
  cases i1 : isInf x <;> cases i2 : isInf y <;> simp only [Bool.false_eq_true, if_false, if_true, Datum.order]
  · have f1 := fin_lt n1 i1
    have f2 := fin_lt n2 i2
    have p1 := plc_ge x
    have p2 := plc_ge y
    rw [compare_key f1 f2, ← up_vz x (min (plc x) (plc y)) (by omega) (by omega), ← up_vz y (min (plc x) (plc y)) (by omega) (by omega), compare_scale]
  · have f1 := key_fin (fin_lt n1 i1)
    cases hn : neg y
    · rw [key_inf_pos i2 hn, Int.compare_eq_lt.2 f1.2]; rfl
    · rw [key_inf_neg i2 hn, Int.compare_eq_gt.2 f1.1]; rfl
  · have f1 := key_fin (fin_lt n2 i2)
    cases hn : neg x
    · rw [key_inf_pos i1 hn, Int.compare_eq_gt.2 f1.2]; rfl
    · rw [key_inf_neg i1 hn, Int.compare_eq_lt.2 f1.1]; rfl
  · cases hn : neg x <;> cases hm : neg y
    · rw [key_inf_pos i1 hn, key_inf_pos i2 hm]; decide
    · rw [key_inf_pos i1 hn, key_inf_neg i2 hm]; decide
    · rw [key_inf_neg i1 hn, key_inf_pos i2 hm]; decide
    · rw [key_inf_neg i1 hn, key_inf_neg i2 hm]; decide
/-- compared: -1, 0, 1 -/
def dCmp (x y : Nat) : Int := if isNaN x || isNaN y then 0 else if key x < key y then -1 else if key y < key x then 1 else 0
def dCok (x y : Nat) : Bool := !(isNaN x || isNaN y)
/-- which of all bits comes first -/
def rising (x : Nat) : Nat := if neg x then 2 ^ 64 - 1 - x else x + 2 ^ 63
def rank (x : Nat) : Nat := if isNaN x then x else rising x + 2 ^ 64
def cmpN (x y : Nat) : Int := if x < y then -1 else if y < x then 1 else 0
def dOrder (x y : Nat) : Int := cmpN (rank x) (rank y)
theorem rank_inj {x y : Nat} (hx : x < 2 ^ 64) (hy : y < 2 ^ 64) (h : rank x = rank y) : x = y := by
  unfold rank rising neg at h
  split at h <;> split at h <;> (try split at h) <;> (try split at h) <;> simp_all <;> omega
theorem rank_key {x y : Nat} (hx : x < 2 ^ 64) (hy : y < 2 ^ 64) (n1 : isNaN x = false) (n2 : isNaN y = false) (h : key x < key y) : rank x < rank y := by
  unfold rank rising
  unfold key sg at h
  rw [n1, n2]
  unfold neg at *
  by_cases g1 : 2 ^ 63 ≤ x <;> by_cases g2 : 2 ^ 63 ≤ y <;> simp only [g1, g2, decide_true, decide_false, Bool.false_eq_true, if_true, if_false] at h ⊢ <;> omega
theorem rank_nan {x y : Nat} (hx : x < 2 ^ 64) (n1 : isNaN x = true) (n2 : isNaN y = false) : rank x < rank y := by
  unfold rank
  rw [n1, n2]
  simp only [if_true, Bool.false_eq_true, if_false]
  omega
theorem order_turn (x y : Nat) : dOrder y x = -dOrder x y := by
  unfold dOrder cmpN
  split <;> split <;> (try split) <;> (try split) <;> omega
theorem order_zero {x y : Nat} (hx : x < 2 ^ 64) (hy : y < 2 ^ 64) : dOrder x y = 0 ↔ x = y := by
  unfold dOrder cmpN
  constructor
  · intro h
    split at h
    · omega
    split at h
    · omega
    exact rank_inj hx hy (by omega)
  · rintro rfl
    rw [if_neg (by omega), if_neg (by omega)]
theorem order_self (x : Nat) : dOrder x x = 0 := by unfold dOrder cmpN; rw [if_neg (by omega), if_neg (by omega)]
theorem order_bd (x y : Nat) : -1 ≤ dOrder x y ∧ dOrder x y ≤ 1 := by
  unfold dOrder cmpN
  split
  · omega
  split <;> omega
theorem order_trans (x y z : Nat) : 0 < dOrder x y ∨ 0 < dOrder y z ∨ (dOrder x z ≤ 0 ∧ ((dOrder x y = 0 ∧ dOrder y z = 0) ∨ dOrder x z < 0)) := by
  unfold dOrder cmpN
  repeat' split
  all_goals omega
theorem order_cmp {x y : Nat} (hx : x < 2 ^ 64) (hy : y < 2 ^ 64) : dCmp x y = 0 ∨ dCmp x y = dOrder x y := by
  unfold dCmp
  cases n1 : isNaN x <;> cases n2 : isNaN y <;> simp only [Bool.or_self, Bool.or_true, Bool.true_or, Bool.or_false, Bool.false_or, if_true, Bool.false_eq_true, if_false, true_or]
  by_cases h1 : key x < key y
  · right
    have := rank_key hx hy n1 n2 h1
    rw [if_pos h1]
    unfold dOrder cmpN
    rw [if_pos this]
  · by_cases h2 : key y < key x
    · right
      have := rank_key hy hx n2 n1 h2
      rw [if_neg h1, if_pos h2]
      unfold dOrder cmpN
      rw [if_neg (by omega), if_pos this]
    · left; rw [if_neg h1, if_neg h2]
theorem order_nan {x y : Nat} (hx : x < 2 ^ 64) (n1 : isNaN x = true) (n2 : isNaN y = false) : dOrder x y = -1 := by
  have := rank_nan hx n1 n2
  unfold dOrder cmpN
  rw [if_pos this]
end
end Go.Proofs.YthhlhiighgnkmaaGreatDoor.Nr
