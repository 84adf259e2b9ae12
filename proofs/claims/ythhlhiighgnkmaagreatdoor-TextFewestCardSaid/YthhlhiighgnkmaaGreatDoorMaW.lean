/-
  MaE, MaF, MaG, MaH, MaI, MaJ, put together (a claim holds at most 60 files).
-/
import Derived.Test.YthhlhiighgnkmaaGreatDoorMaV
import Derived.Test.YthhlhiighgnkmaaGreatDoorRnZ
/-! ## MATHEMATICS: a fraction to the nearest double, and what lies nearest to one. -/
namespace Go.Proofs.YthhlhiighgnkmaaGreatDoor.Nr
theorem near_spec (N U : Nat) (hU : 0 < U) : ∃ c, near N U = c ∧ 2 * (c * U) ≤ 2 * N + U ∧ 2 * N ≤ 2 * (c * U) + U ∧ (2 * (c * U) = 2 * N + U → c % 2 = 0) ∧ (2 * N = 2 * (c * U) + U → c % 2 = 0) := by
  refine ⟨_, rfl, ?_⟩
  unfold near
  have e := Nat.div_add_mod N U
  have m := Nat.mod_lt N hU
  generalize N / U = q at *
  generalize N % U = r at *
  split
  · rename_i h
    rw [Nat.add_mul, Nat.one_mul, Nat.mul_comm q U]
    refine ⟨by omega, by omega, fun k => ?_, fun k => ?_⟩ <;> omega
  · rename_i h
    rw [Nat.add_zero, Nat.mul_comm q U]
    refine ⟨by omega, by omega, fun k => ?_, fun k => ?_⟩ <;> omega
theorem near_of {N U c : Nat} (hU : 0 < U) (h1 : 2 * (c * U) ≤ 2 * N + U) (h2 : 2 * N ≤ 2 * (c * U) + U) (h3 : 2 * (c * U) = 2 * N + U → c % 2 = 0) (h4 : 2 * N = 2 * (c * U) + U → c % 2 = 0) : near N U = c := by
  unfold near
  have e := Nat.div_add_mod N U
  have m := Nat.mod_lt N hU
  generalize N / U = q at *
  generalize N % U = r at *
  have hc : c = q ∨ c = q + 1 := by
    have k1 : c ≤ q + 1 := by
      apply Nat.le_of_lt_succ
      apply Nat.lt_of_mul_lt_mul_right (a := U)
      have : (q + 1).succ * U = U * q + 2 * U := by rw [Nat.succ_mul, Nat.add_mul, Nat.mul_comm]; omega
      omega
    have k2 : q ≤ c := by
      apply Nat.le_of_lt_succ
      apply Nat.lt_of_mul_lt_mul_right (a := U)
      have : c.succ * U = c * U + U := Nat.succ_mul _ _
      rw [Nat.mul_comm]; omega
    omega
  rcases hc with rfl | rfl
  · rw [Nat.mul_comm c U] at h1 h2 h3 h4
    rw [if_neg (by omega), Nat.add_zero]
  · have : (q + 1) * U = U * q + U := by rw [Nat.add_mul, Nat.mul_comm, Nat.one_mul]
    rw [this] at h1 h2 h3 h4
    rw [if_pos (by omega)]
def shN (N d : Nat) : Nat := nb (N / d) - 53
/-- N/d, in multiples of the least double: the index of the nearest double -/
def rndN (N d : Nat) : Nat := min (shN N d * 2 ^ 52 + near N (d * 2 ^ shN N d)) (2047 * 2 ^ 52)
def Norm (m sh : Nat) : Prop := m < 2 ^ 53 ∧ (sh = 0 ∨ 2 ^ 52 ≤ m)
/-- does N/d lie nearest to m 2^sh? -/
def InR (m sh N d : Nat) : Prop :=
  (if m = 2 ^ 52 ∧ 1 ≤ sh then 4 * (m * (d * 2 ^ sh)) ≤ 4 * N + d * 2 ^ sh else 2 * (m * (d * 2 ^ sh)) ≤ 2 * N + d * 2 ^ sh ∧ (2 * (m * (d * 2 ^ sh)) = 2 * N + d * 2 ^ sh → m % 2 = 0)) ∧
  (2 * N ≤ 2 * (m * (d * 2 ^ sh)) + d * 2 ^ sh ∧ (2 * N = 2 * (m * (d * 2 ^ sh)) + d * 2 ^ sh → m % 2 = 0))
theorem nb_eq {n k : Nat} (h1 : 2 ^ k ≤ n) (h2 : n < 2 ^ (k + 1)) : nb n = k + 1 := by
  have := nb_ge h1
  have := (nb_le_iff n (k + 1)).2 h2
  omega
theorem div_lt' {N d k : Nat} (hd : 0 < d) : N / d < k ↔ N < k * d := Nat.div_lt_iff_lt_mul hd
theorem le_div' {N d k : Nat} (hd : 0 < d) : k ≤ N / d ↔ k * d ≤ N := Nat.le_div_iff_mul_le hd
theorem in_rnd {m sh N d : Nat} (hd : 0 < d) (hn : Norm m sh) (hm : 1 ≤ m) (hi : sh * 2 ^ 52 + m < 2047 * 2 ^ 52) (h : InR m sh N d) : rndN N d = sh * 2 ^ 52 + m := by
  obtain ⟨n1, n2⟩ := hn
  obtain ⟨hlo, hup, hue⟩ := h
  have hp : 0 < 2 ^ sh := Nat.two_pow_pos sh
  have hU : 0 < d * 2 ^ sh := Nat.mul_pos hd hp
  unfold rndN
  by_cases hb : sh = 0
  · subst hb
    rw [if_neg (by omega)] at hlo
    simp only [Nat.pow_zero, Nat.mul_one] at *
    have hF : N / d < 2 ^ 53 := by
      rw [div_lt' hd]
      have : (m + 1) * d ≤ 2 ^ 53 * d := Nat.mul_le_mul_right d n1
      rw [Nat.add_mul, Nat.one_mul] at this
      omega
    have hs : shN N d = 0 := by unfold shN; have := (nb_le_iff (N / d) 53).2 hF; omega
    rw [hs, Nat.pow_zero, Nat.mul_one, near_of hd hlo.1 hup hlo.2 hue, Nat.min_eq_left (by omega)]
  · have n3 : 2 ^ 52 ≤ m := by omega
    by_cases hlow : 2 ^ 52 * (d * 2 ^ sh) ≤ N
    · have hF1 : 2 ^ (52 + sh) ≤ N / d := by
        rw [le_div' hd, Nat.pow_add, Nat.mul_assoc, Nat.mul_comm (2 ^ sh)]; exact hlow
      have hF2 : N / d < 2 ^ (52 + sh + 1) := by
        rw [div_lt' hd, show 52 + sh + 1 = 53 + sh by omega, Nat.pow_add, Nat.mul_assoc, Nat.mul_comm (2 ^ sh)]
        have : (m + 1) * (d * 2 ^ sh) ≤ 2 ^ 53 * (d * 2 ^ sh) := Nat.mul_le_mul_right _ n1
        rw [Nat.add_mul, Nat.one_mul] at this
        omega
      have hs : shN N d = sh := by unfold shN; rw [nb_eq hF1 hF2]; omega
      have hmU : 2 ^ 52 * (d * 2 ^ sh) ≤ m * (d * 2 ^ sh) := Nat.mul_le_mul_right _ n3
      rw [hs, near_of hU ?_ hup ?_ hue, Nat.min_eq_left (by omega)]
      · by_cases hq : m = 2 ^ 52 ∧ 1 ≤ sh
        · rw [hq.1]; omega
        · rw [if_neg hq] at hlo; exact hlo.1
      · by_cases hq : m = 2 ^ 52 ∧ 1 ≤ sh
        · intro _; rw [hq.1]
        · rw [if_neg hq] at hlo; exact hlo.2
    · have hm52 : m = 2 ^ 52 := by
        apply Nat.le_antisymm _ n3
        apply Nat.le_of_not_lt
        intro hgt
        rw [if_neg (by omega)] at hlo
        have : (2 ^ 52 + 1) * (d * 2 ^ sh) ≤ m * (d * 2 ^ sh) := Nat.mul_le_mul_right _ hgt
        rw [Nat.add_mul, Nat.one_mul] at this
        omega
      subst hm52
      rw [if_pos ⟨rfl, by omega⟩] at hlo
      obtain ⟨t, rfl⟩ : ∃ t, sh = t + 1 := ⟨sh - 1, by omega⟩
      have ep : d * 2 ^ (t + 1) = 2 * (d * 2 ^ t) := by rw [Nat.pow_succ, ← Nat.mul_assoc, Nat.mul_comm]
      rw [ep] at hlo hlow hup hue
      have hV : 0 < d * 2 ^ t := Nat.mul_pos hd (Nat.two_pow_pos t)
      have hF1 : 2 ^ (52 + t) ≤ N / d := by
        rw [le_div' hd, Nat.pow_add, Nat.mul_assoc, Nat.mul_comm (2 ^ t)]; omega
      have hF2 : N / d < 2 ^ (52 + t + 1) := by
        rw [div_lt' hd, show 52 + t + 1 = 53 + t by omega, Nat.pow_add, Nat.mul_assoc, Nat.mul_comm (2 ^ t)]; omega
      have hs : shN N d = t := by unfold shN; rw [nb_eq hF1 hF2]; omega
      rw [hs, near_of (c := 2 ^ 53) hV (by omega) (by omega) (fun _ => by decide) (fun _ => by decide), Nat.min_eq_left (by omega)]
      omega
theorem rnd_in {N d : Nat} (hd : 0 < d) (h : rndN N d < 2047 * 2 ^ 52) : ∃ m sh, rndN N d = sh * 2 ^ 52 + m ∧ Norm m sh ∧ InR m sh N d := by
  have hp : 0 < 2 ^ shN N d := Nat.two_pow_pos _
  have hU : 0 < d * 2 ^ shN N d := Nat.mul_pos hd hp
  obtain ⟨c, hc, c1, c2, c3, c4⟩ := near_spec N (d * 2 ^ shN N d) hU
  have hr : rndN N d = shN N d * 2 ^ 52 + c := by
    unfold rndN at h ⊢
    rw [hc] at h ⊢
    omega
  -- N below 2^53 U
  have hup : N < 2 ^ 53 * (d * 2 ^ shN N d) := by
    have hlt : N / d < 2 ^ (53 + shN N d) := (nb_le_iff _ _).1 (by unfold shN; omega)
    rw [div_lt' hd, Nat.pow_add, Nat.mul_assoc, Nat.mul_comm (2 ^ shN N d)] at hlt
    exact hlt
  have hlo : shN N d ≠ 0 → 2 ^ 52 * (d * 2 ^ shN N d) ≤ N := by
    intro hne
    have hF : N / d ≠ 0 := by
      intro h0
      apply hne
      unfold shN
      rw [h0]; rfl
    have := nb_le hF
    have e : nb (N / d) - 1 = 52 + shN N d := by unfold shN at hne ⊢; omega
    rw [e, le_div' hd, Nat.pow_add, Nat.mul_assoc, Nat.mul_comm (2 ^ shN N d)] at this
    exact this
  generalize shN N d = sh at *
  by_cases hcc : c < 2 ^ 53
  · refine ⟨c, sh, hr, ⟨hcc, ?_⟩, ?_, c2, c4⟩
    · by_cases h0 : sh = 0
      · exact Or.inl h0
      · right
        have := hlo h0
        apply Nat.le_of_lt_succ
        apply Nat.lt_of_mul_lt_mul_right (a := d * 2 ^ sh)
        have := Nat.succ_mul c (d * 2 ^ sh)
        omega
    · by_cases hq : c = 2 ^ 52 ∧ 1 ≤ sh
      · rw [if_pos hq]
        have := hlo (by omega)
        rw [hq.1]; omega
      · rw [if_neg hq]; exact ⟨c1, c3⟩
  · have hce : c = 2 ^ 53 := by
      apply Nat.le_antisymm _ (by omega)
      apply Nat.le_of_lt_succ
      apply Nat.lt_of_mul_lt_mul_right (a := d * 2 ^ sh)
      have := Nat.succ_mul (2 ^ 53) (d * 2 ^ sh)
      omega
    subst hce
    have ep : d * 2 ^ (sh + 1) = 2 * (d * 2 ^ sh) := by rw [Nat.pow_succ, ← Nat.mul_assoc, Nat.mul_comm]
    refine ⟨2 ^ 52, sh + 1, by omega, ⟨by decide, Or.inr (Nat.le_refl _)⟩, ?_, ?_, ?_⟩
    · rw [if_pos ⟨rfl, by omega⟩, ep]; omega
    · rw [ep]; omega
    · intro _; decide
theorem norm_one {m sh m' sh' : Nat} (h : Norm m sh) (h' : Norm m' sh') (e : sh * 2 ^ 52 + m = sh' * 2 ^ 52 + m') : m = m' ∧ sh = sh' := by
  obtain ⟨a, b⟩ := h
  obtain ⟨a', b'⟩ := h'
  omega
theorem rnd_iff {m sh N d : Nat} (hd : 0 < d) (hn : Norm m sh) (hm : 1 ≤ m) (hi : sh * 2 ^ 52 + m < 2047 * 2 ^ 52) : rndN N d = sh * 2 ^ 52 + m ↔ InR m sh N d := by
  constructor
  · intro h
    obtain ⟨m', sh', e, n', i'⟩ := rnd_in (N := N) hd (by omega)
    obtain ⟨rfl, rfl⟩ := norm_one hn n' (by omega)
    exact i'
  · exact in_rnd hd hn hm hi
end Go.Proofs.YthhlhiighgnkmaaGreatDoor.Nr
/-! ## MATHEMATICS: the document's rounding of a fraction is the nearest double's index. -/
namespace Go.Proofs.YthhlhiighgnkmaaGreatDoor.Nr
theorem near_scale (n d c : Nat) (hc : 0 < c) : near (n * c) (d * c) = near n d := by
  unfold near
  rw [Nat.mul_div_mul_right n d hc, Nat.mul_mod_mul_right]
  congr 1
  have e : 2 * (n % d * c) = 2 * (n % d) * c := by rw [Nat.mul_assoc]
  rw [e]
  apply ite_congr _ (fun _ => rfl) (fun _ => rfl)
  apply propext
  rw [Nat.mul_lt_mul_right hc, Nat.mul_left_inj (by omega)]
theorem near_one (n : Nat) : near n 1 = n := by
  unfold near; rw [Nat.div_one, Nat.mod_one, if_neg (by omega), Nat.add_zero]
theorem cut_near (n s : Nat) : cutE n s = near n (2 ^ s) := rfl
theorem shN_one {N : Nat} : shN N 1 = nb N - 53 := by unfold shN; rw [Nat.div_one]
theorem rung_whole (n : Nat) (e : Int) (he : -1074 ≤ e) (hn : n ≠ 0) : rung n e = rndN (n * 2 ^ (e + 1074).toNat) 1 := by
  obtain ⟨k, hk⟩ : ∃ k : Nat, (e + 1074).toNat = k := ⟨_, rfl⟩
  have hN : n * 2 ^ k ≠ 0 := Nat.mul_ne_zero hn (by have := Nat.two_pow_pos k; omega)
  have hnb : nb (n * 2 ^ k) = n.log2 + k + 1 := by unfold nb; rw [if_neg hN, log2_scale n k hn]
  have hs : shN (n * 2 ^ k) 1 = (last n e + 1074).toNat := by rw [shN_one, hnb]; unfold last; omega
  rw [hk]
  unfold rung rndN
  rw [hs, Nat.one_mul, cut_near]
  congr 2
  have hl : -1074 ≤ last n e := by unfold last; omega
  by_cases h : last n e ≤ e
  · rw [show (last n e - e).toNat = 0 by omega, Nat.pow_zero, near_one]
    have : n * 2 ^ k = n * 2 ^ (e - last n e).toNat * 2 ^ (last n e + 1074).toNat := by
      rw [Nat.mul_assoc, ← Nat.pow_add]; congr 2; omega
    rw [this]
    have := near_scale (n * 2 ^ (e - last n e).toNat) 1 (2 ^ (last n e + 1074).toNat) (Nat.two_pow_pos _)
    rw [Nat.one_mul, near_one] at this
    exact this.symm
  · rw [show (e - last n e).toNat = 0 by omega, Nat.pow_zero, Nat.mul_one]
    have : 2 ^ (last n e + 1074).toNat = 2 ^ (last n e - e).toNat * 2 ^ k := by
      rw [← Nat.pow_add]; congr 1; omega
    rw [this, near_scale _ _ _ (Nat.two_pow_pos k)]
/-- a quotient with a bit for what is left over, cut: as the fraction itself -/
theorem cut_quo (D d j : Nat) (hd : 0 < d) : cutE (2 * (D / d) + (D % d != 0).toNat) (j + 1 + 1) = near D (d * 2 ^ (j + 1)) := by
  have hS : 0 < 2 ^ (j + 1) := Nat.two_pow_pos _
  have hS2 : 2 ^ (j + 1) = 2 * 2 ^ j := by rw [Nat.pow_succ, Nat.mul_comm]
  have e := Nat.div_add_mod D d
  have m := Nat.mod_lt D hd
  have e2 := Nat.div_add_mod (D / d) (2 ^ (j + 1))
  have m2 := Nat.mod_lt (D / d) hS
  have hq : D / (d * 2 ^ (j + 1)) = D / d / 2 ^ (j + 1) := (Nat.div_div_eq_div_mul _ _ _).symm
  have hr : D % (d * 2 ^ (j + 1)) = d * (D / d % 2 ^ (j + 1)) + D % d := by
    rw [Nat.mod_mul]; omega
  have ht : (D % d != 0).toNat = if D % d = 0 then 0 else 1 := by
    by_cases h : D % d = 0
    · rw [h]; rfl
    · rw [if_neg h]; simp [h]
  rw [cut_near]
  unfold near
  rw [hq, hr, ht]
  generalize D % d = r at *
  generalize D / d = q at *
  have f1 : (2 * q + if r = 0 then 0 else 1) / 2 ^ (j + 1 + 1) = q / 2 ^ (j + 1) := by
    rw [show (2 : Nat) ^ (j + 1 + 1) = 2 * 2 ^ (j + 1) by rw [Nat.pow_succ (n := 2) (m := j + 1), Nat.mul_comm], ← Nat.div_div_eq_div_mul]
    congr 1; split <;> omega
  have f2 : (2 * q + if r = 0 then 0 else 1) % 2 ^ (j + 1 + 1) = 2 * (q % 2 ^ (j + 1)) + if r = 0 then 0 else 1 := by
    rw [show (2 : Nat) ^ (j + 1 + 1) = 2 * 2 ^ (j + 1) by rw [Nat.pow_succ (n := 2) (m := j + 1), Nat.mul_comm], Nat.mod_mul]
    have x1 : (2 * q + if r = 0 then 0 else 1) / 2 = q := by split <;> omega
    have x2 : (2 * q + if r = 0 then 0 else 1) % 2 = if r = 0 then 0 else 1 := by split <;> omega
    rw [x1, x2]; omega
  rw [f1, f2, show (2 : Nat) ^ (j + 1 + 1) = 2 * 2 ^ (j + 1) by rw [Nat.pow_succ (n := 2) (m := j + 1), Nat.mul_comm]]
  generalize q % 2 ^ (j + 1) = z at *
  generalize q / 2 ^ (j + 1) = a at *
  rw [hS2]
  congr 1
  apply ite_congr _ (fun _ => rfl) (fun _ => rfl)
  apply propext
  generalize 2 ^ j = S
  -- S against z, and d S against d z
  have k1 : S < z → d * S + d ≤ d * z := by
    intro h; have := Nat.mul_le_mul_left d (Nat.succ_le_of_lt h); rw [Nat.mul_succ] at this; exact this
  have k2 : z < S → d * z + d ≤ d * S := by
    intro h; have := Nat.mul_le_mul_left d (Nat.succ_le_of_lt h); rw [Nat.mul_succ] at this; exact this
  have k3 : d * (2 * S) = 2 * (d * S) := by rw [Nat.mul_left_comm]
  rw [k3]
  rcases Nat.lt_trichotomy S z with h | h | h
  · have := k1 h
    constructor
    · intro _; left; omega
    · intro _; left; omega
  · subst h
    by_cases h0 : r = 0
    · rw [if_pos h0]
      constructor
      · intro hh
        rcases hh with hh | hh
        · left; omega
        · right; exact ⟨by omega, hh.2⟩
      · intro hh
        rcases hh with hh | hh
        · left; omega
        · right; exact ⟨by omega, hh.2⟩
    · rw [if_neg h0]
      constructor <;> (intro _; left; omega)
  · have := k2 h
    have h5 : (if r = 0 then 0 else 1) ≤ 1 := by split <;> omega
    constructor <;> (intro hh; exfalso; omega)
theorem quo_rnd (m d k : Nat) (hd : 0 < d) (hk : 1200 ≤ k) (hq : 2 ^ 53 ≤ m * 2 ^ k / d) : rung (quo m d k) (-(k + 1 : Int)) = rndN (m * 2 ^ 1074) d := by
  obtain ⟨K, rfl⟩ : ∃ K, k = K + 1074 := ⟨k - 1074, by omega⟩
  have hq0 : m * 2 ^ (K + 1074) / d ≠ 0 := by omega
  have el : (quo m d (K + 1074)).log2 = (m * 2 ^ (K + 1074) / d).log2 + 1 := by
    have h1 := Nat.log2_self_le hq0
    have h2 : m * 2 ^ (K + 1074) / d < 2 ^ ((m * 2 ^ (K + 1074) / d).log2 + 1) := Nat.lt_log2_self
    have ht : (m * 2 ^ (K + 1074) % d != 0).toNat ≤ 1 := by cases (m * 2 ^ (K + 1074) % d != 0) <;> decide
    refine log2_of ?_ ?_
    · rw [Nat.pow_succ]; unfold quo; omega
    · rw [Nat.pow_succ]; unfold quo; omega
  have hF : m * 2 ^ 1074 / d = m * 2 ^ (K + 1074) / d / 2 ^ K := by
    rw [Nat.div_div_eq_div_mul, Nat.mul_comm d, ← Nat.div_div_eq_div_mul, Nat.pow_add, ← Nat.mul_assoc, Nat.mul_right_comm, Nat.mul_div_cancel _ (Nat.two_pow_pos K)]
  have hb : 53 ≤ (m * 2 ^ (K + 1074) / d).log2 := (Nat.le_log2 hq0).2 hq
  have hs : shN (m * 2 ^ 1074) d = (m * 2 ^ (K + 1074) / d).log2 - K - 52 := by
    unfold shN nb
    rw [hF]
    generalize m * 2 ^ (K + 1074) / d = q at *
    have h1 := Nat.log2_self_le hq0
    have h2 : q < 2 ^ (q.log2 + 1) := Nat.lt_log2_self
    by_cases h : q / 2 ^ K = 0
    · rw [if_pos h]
      have : q < 2 ^ K := (Nat.div_eq_zero_iff_lt (Nat.two_pow_pos K)).1 h
      have : q.log2 < K := (Nat.log2_lt hq0).2 this
      omega
    · rw [if_neg h]
      have hge : 2 ^ K ≤ q := by
        apply Nat.le_of_not_lt; intro hlt; exact h (Nat.div_eq_of_lt hlt)
      have hK : K ≤ q.log2 := (Nat.le_log2 hq0).2 hge
      have : (q / 2 ^ K).log2 = q.log2 - K := by
        refine log2_of ?_ ?_
        · rw [Nat.le_div_iff_mul_le (Nat.two_pow_pos K), ← Nat.pow_add, show q.log2 - K + K = q.log2 by omega]; exact h1
        · rw [Nat.div_lt_iff_lt_mul (Nat.two_pow_pos K), ← Nat.pow_add, show q.log2 - K + 1 + K = q.log2 + 1 by omega]; exact h2
      rw [this]; omega
  obtain ⟨sh, hsh⟩ : ∃ sh, shN (m * 2 ^ 1074) d = sh := ⟨_, rfl⟩
  have hlast : last (quo m d (K + 1074)) (-((K + 1074 : Nat) + 1 : Int)) = (sh : Int) - 1074 := by
    unfold last; rw [el]; omega
  have key : cutE (quo m d (K + 1074)) ((sh + K - 1) + 1 + 1) = near (m * 2 ^ 1074) (d * 2 ^ sh) := by
    have e1 : m * 2 ^ (K + 1074) = m * 2 ^ 1074 * 2 ^ K := by rw [Nat.add_comm, Nat.pow_add, Nat.mul_assoc]
    have e2 : d * 2 ^ (sh + K) = d * 2 ^ sh * 2 ^ K := by rw [Nat.pow_add, Nat.mul_assoc]
    unfold quo
    rw [cut_quo _ _ _ hd, show sh + K - 1 + 1 = sh + K by omega, e1, e2]
    have := near_scale (m * 2 ^ 1074) (d * 2 ^ sh) (2 ^ K) (Nat.two_pow_pos K)
    generalize m * 2 ^ 1074 = X at this ⊢
    exact this
  unfold rung rndN
  rw [hlast, hsh, show ((-((K + 1074 : Nat) + 1 : Int)) - ((sh : Int) - 1074)).toNat = 0 by omega, Nat.pow_zero, Nat.mul_one,
    show (((sh : Int) - 1074) - (-((K + 1074 : Nat) + 1 : Int))).toNat = (sh + K - 1) + 1 + 1 by omega, show ((sh : Int) - 1074 + 1074).toNat = sh by omega, key]
end Go.Proofs.YthhlhiighgnkmaaGreatDoor.Nr
/-! ## MATHEMATICS: the shortest decimal: what Go takes of the whole numbers that lie nearest to a double. -/
namespace Go.Proofs.YthhlhiighgnkmaaGreatDoor.Nr
/-- is d, in units of which a double's last place has A/B, nearest to M of its places? (sk: below it the places are half as wide) -/
def InU (sk : Bool) (M A B d : Nat) : Prop :=
  (if sk then 4 * (M * A) ≤ 4 * (d * B) + A else 2 * (M * A) ≤ 2 * (d * B) + A ∧ (2 * (M * A) = 2 * (d * B) + A → M % 2 = 0)) ∧
  (2 * (d * B) ≤ 2 * (M * A) + A ∧ (2 * (d * B) = 2 * (M * A) + A → M % 2 = 0))
def dmin (sk : Bool) (M A B : Nat) : Nat :=
  if sk then ceil ((4 * M - 1) * A) (4 * B) else if M % 2 = 0 then ceil ((2 * M - 1) * A) (2 * B) else (2 * M - 1) * A / (2 * B) + 1
def dmax (M A B : Nat) : Nat := if M % 2 = 0 then (2 * M + 1) * A / (2 * B) else ceil ((2 * M + 1) * A) (2 * B) - 1
theorem ceil_le {n d q : Nat} (hd : 0 < d) : ceil n d ≤ q ↔ n ≤ q * d := by
  unfold ceil
  constructor
  · intro h
    have e := Nat.div_add_mod (n + d - 1) d
    have m := Nat.mod_lt (n + d - 1) hd
    have := Nat.mul_le_mul_left d h
    rw [Nat.mul_comm q d]; omega
  · intro h
    apply Nat.le_of_lt_succ
    rw [Nat.div_lt_iff_lt_mul hd, Nat.succ_mul]; omega
theorem pred_mul (a A : Nat) : (a - 1) * A = a * A - A := by rw [Nat.sub_mul, Nat.one_mul]
theorem dmin_le {sk : Bool} {M A B d : Nat} (hB : 0 < B) (hM : 1 ≤ M) (hsk : sk = true → M % 2 = 0) :
    dmin sk M A B ≤ d ↔ (if sk then 4 * (M * A) ≤ 4 * (d * B) + A else 2 * (M * A) ≤ 2 * (d * B) + A ∧ (2 * (M * A) = 2 * (d * B) + A → M % 2 = 0)) := by
  have q4 : d * (4 * B) = 4 * (d * B) := Nat.mul_left_comm _ _ _
  have q2 : d * (2 * B) = 2 * (d * B) := Nat.mul_left_comm _ _ _
  have p4 : 4 * M * A = 4 * (M * A) := Nat.mul_assoc _ _ _
  have p2 : 2 * M * A = 2 * (M * A) := Nat.mul_assoc _ _ _
  have hA : A ≤ M * A := Nat.le_mul_of_pos_left A hM
  unfold dmin
  cases sk with
  | true =>
    rw [if_pos rfl, if_pos rfl, ceil_le (by omega), pred_mul, q4, p4]; omega
  | false =>
    simp only [Bool.false_eq_true, if_false]
    by_cases he : M % 2 = 0
    · rw [if_pos he, ceil_le (by omega), pred_mul, q2, p2]
      constructor
      · intro h; exact ⟨by omega, fun _ => he⟩
      · intro h; omega
    · rw [if_neg he]
      have : (2 * M - 1) * A / (2 * B) + 1 ≤ d ↔ (2 * M - 1) * A / (2 * B) < d := Iff.rfl
      rw [this, Nat.div_lt_iff_lt_mul (by omega), pred_mul, q2, p2]
      constructor
      · intro h; exact ⟨by omega, fun k => by omega⟩
      · intro h
        have : 2 * (M * A) ≠ 2 * (d * B) + A := fun k => he (h.2 k)
        omega
theorem le_dmax {M A B d : Nat} (hB : 0 < B) (hA : 0 < A) : d ≤ dmax M A B ↔ (2 * (d * B) ≤ 2 * (M * A) + A ∧ (2 * (d * B) = 2 * (M * A) + A → M % 2 = 0)) := by
  have q2 : d * (2 * B) = 2 * (d * B) := Nat.mul_left_comm _ _ _
  have p2 : (2 * M + 1) * A = 2 * (M * A) + A := by rw [Nat.add_mul, Nat.one_mul, Nat.mul_assoc]
  unfold dmax
  by_cases he : M % 2 = 0
  · rw [if_pos he, Nat.le_div_iff_mul_le (by omega), q2, p2]
    exact ⟨fun h => ⟨h, fun _ => he⟩, fun h => h.1⟩
  · rw [if_neg he]
    have h1 : ¬ ceil ((2 * M + 1) * A) (2 * B) ≤ 0 := by rw [ceil_le (by omega), p2]; omega
    have : d ≤ ceil ((2 * M + 1) * A) (2 * B) - 1 ↔ ¬ ceil ((2 * M + 1) * A) (2 * B) ≤ d := by omega
    rw [this, ceil_le (by omega), q2, p2]
    constructor
    · intro h; exact ⟨by omega, fun k => by omega⟩
    · intro h hh
      exact he (h.2 (by omega))
theorem inU_iff {sk : Bool} {M A B d : Nat} (hB : 0 < B) (hA : 0 < A) (hM : 1 ≤ M) (hsk : sk = true → M % 2 = 0) : InU sk M A B d ↔ dmin sk M A B ≤ d ∧ d ≤ dmax M A B := by
  unfold InU
  rw [dmin_le hB hM hsk, le_dmax hB hA]
/-- wide enough for one whole number, not for two that are ten apart -/
def Wide (sk : Bool) (A B : Nat) : Prop := if sk then 4 * B ≤ 3 * A ∧ 3 * A < 40 * B else B ≤ A ∧ A < 10 * B
/-- one of the two whole numbers beside the value is in, if any is -/
theorem in_beside {sk : Bool} {M A B d : Nat} (hB : 0 < B) (h : InU sk M A B d) : InU sk M A B (M * A / B) ∨ InU sk M A B (M * A / B + 1) := by
  have e := Nat.div_add_mod (M * A) B
  have m := Nat.mod_lt (M * A) hB
  obtain ⟨h1, h2, h3⟩ := h
  have c1 : B * (M * A / B) = M * A / B * B := Nat.mul_comm _ _
  have c2 : (M * A / B + 1) * B = M * A / B * B + B := Nat.succ_mul _ _
  by_cases hd : d ≤ M * A / B
  · left
    have hm : d * B ≤ M * A / B * B := Nat.mul_le_mul_right B hd
    refine ⟨?_, ?_, ?_⟩
    · cases sk with
      | true => rw [if_pos rfl] at h1 ⊢; omega
      | false =>
        rw [if_neg (by decide)] at h1 ⊢
        refine ⟨by omega, fun k => h1.2 (by omega)⟩
    · omega
    · intro k
      by_cases hA : A = 0
      · subst hA
        cases sk with
        | true => exact h3 (by omega)
        | false => rw [if_neg (by decide)] at h1; exact h1.2 (by omega)
      · omega
  · right
    have hm : (M * A / B + 1) * B ≤ d * B := Nat.mul_le_mul_right B (by omega)
    refine ⟨?_, ?_, ?_⟩
    · cases sk with
      | true => rw [if_pos rfl] at h1 ⊢; omega
      | false =>
        rw [if_neg (by decide)] at h1 ⊢
        refine ⟨by omega, fun k => by omega⟩
    · omega
    · intro k; exact h3 (by omega)
/-- there is one -/
theorem in_some {sk : Bool} {M A B : Nat} (hB : 0 < B) (hw : Wide sk A B) (hsk : sk = true → M % 2 = 0) : InU sk M A B (M * A / B) ∨ InU sk M A B (M * A / B + 1) := by
  have e := Nat.div_add_mod (M * A) B
  have m := Nat.mod_lt (M * A) hB
  have c1 : B * (M * A / B) = M * A / B * B := Nat.mul_comm _ _
  have c2 : (M * A / B + 1) * B = M * A / B * B + B := Nat.succ_mul _ _
  unfold InU
  unfold Wide at hw
  cases sk with
  | true =>
    have hM := hsk rfl
    rw [if_pos rfl] at hw
    rw [if_pos rfl, if_pos rfl]
    by_cases h : 4 * (M * A) ≤ 4 * (M * A / B * B) + A
    · left; exact ⟨h, by omega, fun _ => hM⟩
    · right; exact ⟨by omega, by omega, fun _ => hM⟩
  | false =>
    rw [if_neg (by decide)] at hw
    rw [if_neg (by decide), if_neg (by decide)]
    by_cases h : 2 * (M * A) < 2 * (M * A / B * B) + A
    · left; exact ⟨⟨by omega, fun k => by omega⟩, by omega, fun k => by omega⟩
    · by_cases h2 : 2 * ((M * A / B + 1) * B) < 2 * (M * A) + A
      · right; exact ⟨⟨by omega, fun k => by omega⟩, by omega, fun k => by omega⟩
      · -- both ends just touched: A = B, and the value in the middle: no
        have hAB : A = B := by omega
        subst hAB
        exfalso
        rw [Nat.mul_div_cancel _ hB] at *
        omega
theorem dmin_dmax {sk : Bool} {M A B : Nat} (hB : 0 < B) (hA : 0 < A) (hM : 1 ≤ M) (hw : Wide sk A B) (hsk : sk = true → M % 2 = 0) : dmin sk M A B ≤ dmax M A B := by
  rcases in_some hB hw hsk with h | h
  · have := (inU_iff hB hA hM hsk).1 h; omega
  · have := (inU_iff hB hA hM hsk).1 h; omega
/-- what Go takes, in fine units -/
def pick (sk : Bool) (M A B : Nat) : Nat :=
  if dmin sk M A B ≤ dmax M A B / 10 * 10 then dmax M A B / 10 * 10 else if dmin sk M A B < dmax M A B then near (M * A) B else dmin sk M A B
/-- two multiples of ten can't be in -/
theorem ten_one {sk : Bool} {M A B c d : Nat} (hw : Wide sk A B) (hc : InU sk M A B (10 * c)) (hd : InU sk M A B (10 * d)) : c = d := by
  have key : ∀ c d : Nat, InU sk M A B (10 * c) → InU sk M A B (10 * d) → ¬ c < d := by
    intro c d hc hd hlt
    have hm : 10 * (c + 1) * B ≤ 10 * d * B := Nat.mul_le_mul_right B (by omega)
    have e : 10 * (c + 1) * B = 10 * c * B + 10 * B := by rw [Nat.mul_add, Nat.add_mul]
    unfold Wide at hw
    cases sk with
    | true =>
      rw [if_pos rfl] at hw
      have h1 := hc.1
      rw [if_pos rfl] at h1
      have h2 := hd.2.1
      omega
    | false =>
      rw [if_neg (by decide)] at hw
      have h1 := hc.1
      rw [if_neg (by decide)] at h1
      have h2 := hd.2.1
      omega
  have k1 := key c d hc hd
  have k2 := key d c hd hc
  omega
theorem near_cases (n d : Nat) : (near n d = n / d ∧ 2 * (n % d) ≤ d) ∨ (near n d = n / d + 1 ∧ d ≤ 2 * (n % d)) := by
  unfold near
  by_cases h : d < 2 * (n % d) ∨ (d = 2 * (n % d) ∧ n / d % 2 = 1)
  · rw [if_pos h]; right; exact ⟨rfl, by omega⟩
  · rw [if_neg h]; left; exact ⟨by omega, by omega⟩
theorem near_in {sk : Bool} {M A B : Nat} (hB : 0 < B) (hA : 0 < A) (hM : 1 ≤ M) (hsk : sk = true → M % 2 = 0) (hlt : dmin sk M A B < dmax M A B) : InU sk M A B (near (M * A) B) := by
  have e := Nat.div_add_mod (M * A) B
  have m := Nat.mod_lt (M * A) hB
  have c1 : B * (M * A / B) = M * A / B * B := Nat.mul_comm _ _
  have c2 : (M * A / B + 1) * B = M * A / B * B + B := Nat.succ_mul _ _
  -- two neighbours that are in
  have i1 := (inU_iff (d := dmin sk M A B) hB hA hM hsk).2 ⟨Nat.le_refl _, Nat.le_of_lt hlt⟩
  have i2 := (inU_iff (d := dmin sk M A B + 1) hB hA hM hsk).2 ⟨by omega, hlt⟩
  generalize dmin sk M A B = f at *
  have cf : (f + 1) * B = f * B + B := Nat.succ_mul _ _
  obtain ⟨a1, a2, a3⟩ := i1
  obtain ⟨b1, b2, b3⟩ := i2
  have nc := near_cases (M * A) B
  cases sk with
  | true =>
    have hev := hsk rfl
    rw [if_pos rfl] at a1 b1
    unfold InU
    rw [if_pos rfl]
    rcases nc with ⟨hn, hr⟩ | ⟨hn, hr⟩
    · rw [hn]
      refine ⟨?_, by omega, fun _ => hev⟩
      -- were it too low, both would lie above
      apply Nat.le_of_not_lt
      intro hlo
      have hfq : M * A / B + 1 ≤ f := by
        apply Nat.le_of_not_lt
        intro hh
        have : f * B ≤ M * A / B * B := Nat.mul_le_mul_right B (by omega)
        omega
      have : (M * A / B + 1) * B ≤ f * B := Nat.mul_le_mul_right B hfq
      omega
    · rw [hn]
      exact ⟨by omega, by omega, fun _ => hev⟩
  | false =>
    rw [if_neg (by decide)] at a1 b1
    have hAB : B ≤ A := by omega
    unfold InU
    rw [if_neg (by decide)]
    by_cases hev : M % 2 = 0
    · rcases nc with ⟨hn, hr⟩ | ⟨hn, hr⟩ <;> rw [hn] <;> exact ⟨⟨by omega, fun _ => hev⟩, by omega, fun _ => hev⟩
    · have x1 : 2 * (M * A) ≠ 2 * (f * B) + A := fun k => hev (a1.2 k)
      have x2 : 2 * ((f + 1) * B) ≠ 2 * (M * A) + A := fun k => hev (b3 k)
      rcases nc with ⟨hn, hr⟩ | ⟨hn, hr⟩ <;> rw [hn] <;> exact ⟨⟨by omega, fun k => by omega⟩, by omega, fun k => by omega⟩
theorem pick_in {sk : Bool} {M A B : Nat} (hB : 0 < B) (hA : 0 < A) (hM : 1 ≤ M) (hw : Wide sk A B) (hsk : sk = true → M % 2 = 0) : InU sk M A B (pick sk M A B) := by
  unfold pick
  by_cases h1 : dmin sk M A B ≤ dmax M A B / 10 * 10
  · rw [if_pos h1]
    exact (inU_iff hB hA hM hsk).2 ⟨h1, by omega⟩
  · rw [if_neg h1]
    by_cases h2 : dmin sk M A B < dmax M A B
    · rw [if_pos h2]; exact near_in hB hA hM hsk h2
    · rw [if_neg h2]
      exact (inU_iff hB hA hM hsk).2 ⟨Nat.le_refl _, dmin_dmax hB hA hM hw hsk⟩
/-- if a multiple of ten is in, it is taken -/
theorem pick_ten {sk : Bool} {M A B c : Nat} (hB : 0 < B) (hA : 0 < A) (hM : 1 ≤ M) (hw : Wide sk A B) (hsk : sk = true → M % 2 = 0) (hc : InU sk M A B (10 * c)) : pick sk M A B = 10 * c := by
  have h := (inU_iff hB hA hM hsk).1 hc
  have h10 : 10 * (dmax M A B / 10) ≤ dmax M A B := by omega
  have h1 : dmin sk M A B ≤ dmax M A B / 10 * 10 := by omega
  have hin : InU sk M A B (10 * (dmax M A B / 10)) := (inU_iff hB hA hM hsk).2 ⟨by omega, by omega⟩
  have := ten_one hw hc hin
  unfold pick
  rw [if_pos h1]; omega
/-- if none is, the nearer one of the two beside the value is taken, if both are in, else the one that is -/
theorem pick_fine {sk : Bool} {M A B : Nat} (hB : 0 < B) (hA : 0 < A) (hM : 1 ≤ M) (hw : Wide sk A B) (hsk : sk = true → M % 2 = 0) (hno : ∀ c, ¬ InU sk M A B (10 * c)) :
    (InU sk M A B (M * A / B) ∧ InU sk M A B (M * A / B + 1) ∧ pick sk M A B = near (M * A) B) ∨
    (InU sk M A B (M * A / B) ∧ ¬ InU sk M A B (M * A / B + 1) ∧ pick sk M A B = M * A / B) ∨
    (¬ InU sk M A B (M * A / B) ∧ InU sk M A B (M * A / B + 1) ∧ pick sk M A B = M * A / B + 1) := by
  have hp : pick sk M A B = if dmin sk M A B < dmax M A B then near (M * A) B else dmin sk M A B := by
    unfold pick
    rw [if_neg]
    intro h
    exact hno (dmax M A B / 10) ((inU_iff hB hA hM hsk).2 ⟨by omega, by omega⟩)
  have hnc : near (M * A) B = M * A / B ∨ near (M * A) B = M * A / B + 1 := by
    rcases near_cases (M * A) B with h | h
    · exact Or.inl h.1
    · exact Or.inr h.1
  by_cases h1 : InU sk M A B (M * A / B)
  · by_cases h2 : InU sk M A B (M * A / B + 1)
    · left
      have i1 := (inU_iff hB hA hM hsk).1 h1
      have i2 := (inU_iff hB hA hM hsk).1 h2
      exact ⟨h1, h2, by rw [hp, if_pos (by omega)]⟩
    · right; left
      refine ⟨h1, h2, ?_⟩
      rw [hp]
      by_cases hlt : dmin sk M A B < dmax M A B
      · rw [if_pos hlt]
        have := near_in hB hA hM hsk hlt
        rcases hnc with h | h
        · exact h
        · rw [h] at this; exact absurd this h2
      · rw [if_neg hlt]
        have i1 := (inU_iff hB hA hM hsk).1 h1
        omega
  · have h2 : InU sk M A B (M * A / B + 1) := by
      rcases in_some hB hw hsk with h | h
      · exact absurd h h1
      · exact h
    right; right
    refine ⟨h1, h2, ?_⟩
    rw [hp]
    by_cases hlt : dmin sk M A B < dmax M A B
    · rw [if_pos hlt]
      have := near_in hB hA hM hsk hlt
      rcases hnc with h | h
      · rw [h] at this; exact absurd this h1
      · exact h
    · rw [if_neg hlt]
      have i1 := (inU_iff hB hA hM hsk).1 h2
      omega
end Go.Proofs.YthhlhiighgnkmaaGreatDoor.Nr
/-! ## MATHEMATICS: which power of ten Go takes at each double's place, and that its units fit (all places, by the kernel). -/
namespace Go.Proofs.YthhlhiighgnkmaaGreatDoor.Nr
theorem scaled {U A N Y m k : Nat} (hU : 0 < U) (hA : 0 < A) (h : A * N = Y * U) : k * (m * U) ≤ k * N + U ↔ k * (m * A) ≤ k * Y + A := by
  have e1 : A * (k * (m * U)) = U * (k * (m * A)) := by
    rw [Nat.mul_left_comm A, Nat.mul_left_comm U, Nat.mul_comm m U, Nat.mul_comm m A, Nat.mul_left_comm A]
  have e2 : A * (k * N + U) = U * (k * Y + A) := by
    rw [Nat.mul_add, Nat.mul_add, Nat.mul_left_comm A, h, Nat.mul_comm Y U, Nat.mul_left_comm U, Nat.mul_comm A U]
  constructor
  · intro hh
    have := Nat.mul_le_mul_left A hh
    rw [e1, e2] at this
    exact Nat.le_of_mul_le_mul_left this hU
  · intro hh
    have := Nat.mul_le_mul_left U hh
    rw [← e1, ← e2] at this
    exact Nat.le_of_mul_le_mul_left this hA
theorem scaled' {U A N Y m k : Nat} (hU : 0 < U) (hA : 0 < A) (h : A * N = Y * U) : k * N ≤ k * (m * U) + U ↔ k * Y ≤ k * (m * A) + A := by
  have e1 : A * (k * N) = U * (k * Y) := by
    rw [Nat.mul_left_comm A, h, Nat.mul_left_comm U, Nat.mul_comm U Y]
  have e2 : A * (k * (m * U) + U) = U * (k * (m * A) + A) := by
    rw [Nat.mul_add, Nat.mul_add, Nat.mul_left_comm A, Nat.mul_left_comm U, Nat.mul_left_comm A m, Nat.mul_left_comm U m, Nat.mul_comm A U]
  constructor
  · intro hh
    have := Nat.mul_le_mul_left A hh
    rw [e1, e2] at this
    exact Nat.le_of_mul_le_mul_left this hU
  · intro hh
    have := Nat.mul_le_mul_left U hh
    rw [← e1, ← e2] at this
    exact Nat.le_of_mul_le_mul_left this hA
theorem scaled_eq {U A N Y m k : Nat} (hU : 0 < U) (hA : 0 < A) (h : A * N = Y * U) : k * (m * U) = k * N + U ↔ k * (m * A) = k * Y + A := by
  have e1 : A * (k * (m * U)) = U * (k * (m * A)) := by
    rw [Nat.mul_left_comm A, Nat.mul_left_comm U, Nat.mul_comm m U, Nat.mul_comm m A, Nat.mul_left_comm A]
  have e2 : A * (k * N + U) = U * (k * Y + A) := by
    rw [Nat.mul_add, Nat.mul_add, Nat.mul_left_comm A, h, Nat.mul_comm Y U, Nat.mul_left_comm U, Nat.mul_comm A U]
  constructor
  · intro hh
    have := congrArg (A * ·) hh
    simp only [e1, e2] at this
    exact Nat.eq_of_mul_eq_mul_left hU this
  · intro hh
    have := congrArg (U * ·) hh
    simp only [← e1, ← e2] at this
    exact Nat.eq_of_mul_eq_mul_left hA this
theorem scaled_eq' {U A N Y m k : Nat} (hU : 0 < U) (hA : 0 < A) (h : A * N = Y * U) : k * N = k * (m * U) + U ↔ k * Y = k * (m * A) + A := by
  have e1 : A * (k * N) = U * (k * Y) := by
    rw [Nat.mul_left_comm A, h, Nat.mul_left_comm U, Nat.mul_comm U Y]
  have e2 : A * (k * (m * U) + U) = U * (k * (m * A) + A) := by
    rw [Nat.mul_add, Nat.mul_add, Nat.mul_left_comm A, Nat.mul_left_comm U, Nat.mul_left_comm A m, Nat.mul_left_comm U m, Nat.mul_comm A U]
  constructor
  · intro hh
    have := congrArg (A * ·) hh
    simp only [e1, e2] at this
    exact Nat.eq_of_mul_eq_mul_left hU this
  · intro hh
    have := congrArg (U * ·) hh
    simp only [← e1, ← e2] at this
    exact Nat.eq_of_mul_eq_mul_left hA this
/-- is the place below half as wide? -/
def skew (M sh : Nat) : Bool := decide (M = 2 ^ 52 ∧ 1 ≤ sh)
theorem inR_inU {M sh N den A B d : Nat} (hd : 0 < den) (hA : 0 < A) (h : A * N = d * B * (den * 2 ^ sh)) : InR M sh N den ↔ InU (skew M sh) M A B d := by
  have hU : 0 < den * 2 ^ sh := Nat.mul_pos hd (Nat.two_pow_pos sh)
  unfold InR InU skew
  rw [scaled' hU hA h, scaled_eq' hU hA h, scaled hU hA h, scaled hU hA h, scaled_eq hU hA h]
  simp only [decide_eq_true_eq]
/-- the power of ten that Go takes for the place 2^E -/
def pE (sk : Bool) (E : Int) : Int := if sk then -((E * 631305 - 261663) / 2097152) else -(E * 78913 / 262144)
def lpE (p : Int) : Int := p * 108853 / 32768
def iE (sk : Bool) (sh : Nat) : Nat := (348 + pE sk ((sh : Int) - 1074)).toNat
def wE (sk : Bool) (sh : Nat) : Nat := (127 - lpE (pE sk ((sh : Int) - 1074)) - ((sh : Int) - 1074)).toNat
def aE (sk : Bool) (sh : Nat) : Nat := pn (iE sk sh)
def bE (sk : Bool) (sh : Nat) : Nat := pd (iE sk sh) * 2 ^ wE sk sh
def okS (sk : Bool) (sh : Nat) : Bool :=
  Nat.ble 56 (iE sk sh) && Nat.ble (iE sk sh) 672 && Nat.ble 124 (wE sk sh) && Nat.ble (wE sk sh) 128 &&
  ((iE sk sh : Int) == 348 + pE sk ((sh : Int) - 1074)) && ((wE sk sh : Int) == 127 - lpE (pE sk ((sh : Int) - 1074)) - ((sh : Int) - 1074)) &&
  (aE sk sh * 10 ^ (-pE sk ((sh : Int) - 1074)).toNat * 2 ^ 1074 == bE sk sh * 10 ^ (pE sk ((sh : Int) - 1074)).toNat * 2 ^ sh) &&
  (if sk then Nat.ble (4 * bE sk sh) (3 * aE sk sh) && Nat.blt (3 * aE sk sh) (40 * bE sk sh) else Nat.ble (bE sk sh) (aE sk sh) && Nat.blt (aE sk sh) (10 * bE sk sh))
set_option maxRecDepth 100000 in
theorem okS_plain : allP (okS false) 2046 0 = true := by decide +kernel
set_option maxRecDepth 100000 in
theorem okS_skew : allP (okS true) 2046 0 = true := by decide +kernel
structure Fits (sk : Bool) (sh : Nat) : Prop where
  i1 : 56 ≤ iE sk sh
  i2 : iE sk sh ≤ 672
  w1 : 124 ≤ wE sk sh
  w2 : wE sk sh ≤ 128
  ei : (iE sk sh : Int) = 348 + pE sk ((sh : Int) - 1074)
  ew : (wE sk sh : Int) = 127 - lpE (pE sk ((sh : Int) - 1074)) - ((sh : Int) - 1074)
  eq : aE sk sh * 10 ^ (-pE sk ((sh : Int) - 1074)).toNat * 2 ^ 1074 = bE sk sh * 10 ^ (pE sk ((sh : Int) - 1074)).toNat * 2 ^ sh
  wide : Wide sk (aE sk sh) (bE sk sh)
theorem fits (sk : Bool) (sh : Nat) (h : sh ≤ 2045) : Fits sk sh := by
  have hok : okS sk sh = true := by
    cases sk with
    | false => exact allP_at okS_plain sh (by omega) (by omega)
    | true => exact allP_at okS_skew sh (by omega) (by omega)
  unfold okS at hok
  rw [Bool.and_eq_true, Bool.and_eq_true, Bool.and_eq_true, Bool.and_eq_true, Bool.and_eq_true, Bool.and_eq_true, Bool.and_eq_true, Nat.ble_eq, Nat.ble_eq, Nat.ble_eq, Nat.ble_eq, beq_iff_eq, beq_iff_eq, beq_iff_eq] at hok
  obtain ⟨⟨⟨⟨⟨⟨⟨h1, h2⟩, h3⟩, h4⟩, h5⟩, h6⟩, h7⟩, h8⟩ := hok
  refine ⟨h1, h2, h3, h4, h5, h6, h7, ?_⟩
  unfold Wide
  cases sk with
  | false =>
    rw [if_neg (by decide), Bool.and_eq_true, Nat.ble_eq, Nat.blt_eq] at h8
    rw [if_neg (by decide)]; exact h8
  | true =>
    rw [if_pos rfl, Bool.and_eq_true, Nat.ble_eq, Nat.blt_eq] at h8
    rw [if_pos rfl]; exact h8
theorem aE_pos (sk : Bool) (sh : Nat) : 0 < aE sk sh := pn_pos _
theorem bE_pos (sk : Bool) (sh : Nat) : 0 < bE sk sh := Nat.mul_pos (pd_pos _) (Nat.two_pow_pos _)
end Go.Proofs.YthhlhiighgnkmaaGreatDoor.Nr
/-! ## MATHEMATICS: digits without noughts behind; the document's search for the shortest comes to what Go takes. -/
namespace Go.Proofs.YthhlhiighgnkmaaGreatDoor.Nr
/-- a number's decimal digits, as bytes -/
def dd (u : Nat) : List Nat := if h : u < 10 then [48 + u] else dd (u / 10) ++ [48 + u % 10]
termination_by u
decreasing_by omega
theorem dd_small {u : Nat} (h : u < 10) : dd u = [48 + u] := by rw [dd, dif_pos h]
theorem dd_big {u : Nat} (h : ¬ u < 10) : dd u = dd (u / 10) ++ [48 + u % 10] := by rw [dd, dif_neg h]
/-- without noughts at its end -/
def strip (l : List Nat) : List Nat := (l.reverse.dropWhile (· == 48)).reverse
theorem strip_nought (l : List Nat) : strip (l ++ [48]) = strip l := by
  unfold strip; rw [List.reverse_append]; simp
theorem strip_other (l : List Nat) {c : Nat} (h : c ≠ 48) : strip (l ++ [c]) = l ++ [c] := by
  unfold strip; rw [List.reverse_append]; simp [h]
theorem dd_ne (u : Nat) : dd u ≠ [] := by
  by_cases h : u < 10
  · rw [dd_small h]; simp
  · rw [dd_big h]; simp
theorem dd_len_pos (u : Nat) : 1 ≤ (dd u).length := List.length_pos_iff.2 (dd_ne u)
theorem dd_strip {u : Nat} (h : u % 10 ≠ 0) : strip (dd u) = dd u := by
  by_cases hu : u < 10
  · rw [dd_small hu]; exact strip_other [] (by omega)
  · rw [dd_big hu]; exact strip_other _ (by omega)
theorem dd_ten {u : Nat} (h : 0 < u) : dd (10 * u) = dd u ++ [48] := by
  rw [dd_big (by omega), show 10 * u / 10 = u by omega, show 48 + 10 * u % 10 = 48 by omega]
theorem dd_lt : ∀ (n u : Nat), u ≤ n → u < 10 ^ (dd u).length := by
  intro n
  induction n with
  | zero => intro u h; obtain rfl : u = 0 := by omega
            rw [dd_small (by omega)]; decide
  | succ n ih =>
    intro u h
    by_cases hu : u < 10
    · rw [dd_small hu]; simpa using hu
    · rw [dd_big hu, List.length_append, List.length_singleton, Nat.pow_succ]
      have := ih (u / 10) (by omega)
      omega
theorem dd_ge : ∀ (n u : Nat), u ≤ n → 0 < u → 10 ^ ((dd u).length - 1) ≤ u := by
  intro n
  induction n with
  | zero => intro u h h0; omega
  | succ n ih =>
    intro u h h0
    by_cases hu : u < 10
    · rw [dd_small hu]; simpa using Nat.succ_le_of_lt h0
    · have := ih (u / 10) (by omega) (by omega)
      have hl := dd_len_pos (u / 10)
      rw [dd_big hu, List.length_append, List.length_singleton, Nat.add_sub_cancel]
      obtain ⟨k, hk⟩ : ∃ k, (dd (u / 10)).length = k + 1 := ⟨_, (Nat.sub_add_cancel hl).symm⟩
      rw [hk, Nat.add_sub_cancel] at this
      rw [hk, Nat.pow_succ]; omega
theorem dd_len_of {u n : Nat} (h1 : 10 ^ n ≤ u) (h2 : u < 10 ^ (n + 1)) : (dd u).length = n + 1 := by
  have hu : 0 < u := Nat.lt_of_lt_of_le (Nat.pow_pos (by decide)) h1
  have a := dd_lt u u (Nat.le_refl _)
  have b := dd_ge u u (Nat.le_refl _) hu
  have l := dd_len_pos u
  have k1 : n < (dd u).length := (Nat.pow_lt_pow_iff_right (a := 10) (by decide)).1 (Nat.lt_of_le_of_lt h1 a)
  have k2 : (dd u).length - 1 < n + 1 := (Nat.pow_lt_pow_iff_right (a := 10) (by decide)).1 (Nat.lt_of_le_of_lt b h2)
  omega
/-- a decimal's digits without noughts behind, and where its point stands -/
def canon (c : Nat) (x : Int) : List Nat × Int := (strip (dd c), (dd c).length + x)
theorem canon_ten {c : Nat} (h : 0 < c) (x : Int) : canon (10 * c) x = canon c (x + 1) := by
  unfold canon
  rw [dd_ten h, strip_nought, List.length_append, List.length_singleton]
  congr 1; omega
theorem canon_pow {c : Nat} (h : 0 < c) (t : Nat) (x : Int) : canon (10 ^ t * c) x = canon c (x + t) := by
  induction t generalizing x with
  | zero => rw [Nat.pow_zero, Nat.one_mul]; congr 1; omega
  | succ t ih =>
    rw [Nat.pow_succ, Nat.mul_comm (10 ^ t), Nat.mul_assoc, canon_ten (Nat.mul_pos (Nat.pow_pos (by decide)) h), ih]
    congr 1; omega
theorem canon_one (n : Nat) (x : Int) : canon (10 ^ n) x = ([49], 1 + (x + n)) := by
  have := canon_pow (c := 1) (by decide) n x
  rw [Nat.mul_one] at this
  rw [this]; unfold canon; rw [dd_small (by decide)]; rfl
/-- one of the two decimals of a grid beside the value is in -/
def Mem (sk : Bool) (M A B t : Nat) : Prop := InU sk M A B (10 ^ t * (M * A / (B * 10 ^ t))) ∨ InU sk M A B (10 ^ t * (M * A / (B * 10 ^ t) + 1))
theorem inU_grid {sk : Bool} {M A B t y : Nat} : InU sk M A (B * 10 ^ t) y ↔ InU sk M A B (10 ^ t * y) := by
  unfold InU
  have : y * (B * 10 ^ t) = 10 ^ t * y * B := by rw [Nat.mul_comm B, ← Nat.mul_assoc, Nat.mul_comm y]
  rw [this]
theorem mem_of {sk : Bool} {M A B t y : Nat} (hB : 0 < B) (h : InU sk M A B (10 ^ t * y)) : Mem sk M A B t := by
  have := in_beside (Nat.mul_pos hB (Nat.pow_pos (by decide : 0 < 10))) (inU_grid.2 h)
  rcases this with h | h
  · exact Or.inl (inU_grid.1 h)
  · exact Or.inr (inU_grid.1 h)
theorem div_grid (X B t : Nat) : X / (B * 10 ^ t) = X / B / 10 ^ t := (Nat.div_div_eq_div_mul _ _ _).symm
theorem not_in_zero {sk : Bool} {M A B : Nat} (hA : 0 < A) (hM : 1 ≤ M) : ¬ InU sk M A B 0 := by
  intro h
  have h1 := h.1
  have hMA : A ≤ M * A := Nat.le_mul_of_pos_left A hM
  rw [Nat.zero_mul] at h1
  cases sk with
  | true => rw [if_pos rfl] at h1; omega
  | false => rw [if_neg (by decide)] at h1; omega
theorem pick_pos {sk : Bool} {M A B : Nat} (hB : 0 < B) (hA : 0 < A) (hM : 1 ≤ M) (hw : Wide sk A B) (hsk : sk = true → M % 2 = 0) : 0 < pick sk M A B := by
  rcases Nat.eq_zero_or_pos (pick sk M A B) with h | h
  · have := pick_in hB hA hM hw hsk; rw [h] at this; exact absurd this (not_in_zero hA hM)
  · exact h
/-- the least double, and the next one: one digit before the point in Go's units -/
theorem tiny_all : ∀ M : Nat, 1 ≤ M → M * aE false 0 < 10 * bE false 0 →
    dmin false M (aE false 0) (bE false 0) ≤ M * aE false 0 / bE false 0 ∧ M * aE false 0 / bE false 0 + 1 ≤ dmax M (aE false 0) (bE false 0) ∧ pick false M (aE false 0) (bE false 0) = near (M * aE false 0) (bE false 0) := by
  have h4 : 4 * bE false 0 < aE false 0 := by decide +kernel
  have h1 : dmin false 1 (aE false 0) (bE false 0) ≤ 1 * aE false 0 / bE false 0 ∧ 1 * aE false 0 / bE false 0 + 1 ≤ dmax 1 (aE false 0) (bE false 0) ∧ pick false 1 (aE false 0) (bE false 0) = near (1 * aE false 0) (bE false 0) := by decide +kernel
  have h2 : dmin false 2 (aE false 0) (bE false 0) ≤ 2 * aE false 0 / bE false 0 ∧ 2 * aE false 0 / bE false 0 + 1 ≤ dmax 2 (aE false 0) (bE false 0) ∧ pick false 2 (aE false 0) (bE false 0) = near (2 * aE false 0) (bE false 0) := by decide +kernel
  intro M hM hlt
  have hM2 : M = 1 ∨ M = 2 := by
    have : ¬ 3 ≤ M := by
      intro h3
      have := Nat.mul_le_mul_right (aE false 0) h3
      omega
    omega
  rcases hM2 with rfl | rfl
  · exact h1
  · exact h2
/-- what the document's search finds at its first grid with a decimal that is in -/
theorem found {M sh n : Nat} {y : Nat} (hn : Norm M sh) (hM : 1 ≤ M) (hsh : sh ≤ 2045)
    (h1 : 1 ≤ n) (h2 : n ≤ (dd (M * aE (skew M sh) sh / bE (skew M sh) sh)).length)
    (hno : ∀ n', 1 ≤ n' → n' < n → ¬ Mem (skew M sh) M (aE (skew M sh) sh) (bE (skew M sh) sh) ((dd (M * aE (skew M sh) sh / bE (skew M sh) sh)).length - n'))
    (hy : y = M * aE (skew M sh) sh / (bE (skew M sh) sh * 10 ^ ((dd (M * aE (skew M sh) sh / bE (skew M sh) sh)).length - n)) ∨ y = M * aE (skew M sh) sh / (bE (skew M sh) sh * 10 ^ ((dd (M * aE (skew M sh) sh / bE (skew M sh) sh)).length - n)) + 1)
    (hin : InU (skew M sh) M (aE (skew M sh) sh) (bE (skew M sh) sh) (10 ^ ((dd (M * aE (skew M sh) sh / bE (skew M sh) sh)).length - n) * y))
    (hboth : InU (skew M sh) M (aE (skew M sh) sh) (bE (skew M sh) sh) (10 ^ ((dd (M * aE (skew M sh) sh / bE (skew M sh) sh)).length - n) * (M * aE (skew M sh) sh / (bE (skew M sh) sh * 10 ^ ((dd (M * aE (skew M sh) sh / bE (skew M sh) sh)).length - n)))) →
      InU (skew M sh) M (aE (skew M sh) sh) (bE (skew M sh) sh) (10 ^ ((dd (M * aE (skew M sh) sh / bE (skew M sh) sh)).length - n) * (M * aE (skew M sh) sh / (bE (skew M sh) sh * 10 ^ ((dd (M * aE (skew M sh) sh / bE (skew M sh) sh)).length - n)) + 1)) →
      y = near (M * aE (skew M sh) sh) (bE (skew M sh) sh * 10 ^ ((dd (M * aE (skew M sh) sh / bE (skew M sh) sh)).length - n))) :
    10 ^ ((dd (M * aE (skew M sh) sh / bE (skew M sh) sh)).length - n) * y = pick (skew M sh) M (aE (skew M sh) sh) (bE (skew M sh) sh) ∧ 0 < y ∧
    (dd y).length ≤ n + 1 ∧ ((dd y).length = n + 1 → y = 10 ^ n) ∧ ((dd y).length ≤ n → (dd y).length = n ∧ y % 10 ≠ 0) := by
  have hfit := fits (skew M sh) sh hsh
  have hsk : skew M sh = true → M % 2 = 0 := by
    intro h; unfold skew at h; have := of_decide_eq_true h; rw [this.1]
  have hA := aE_pos (skew M sh) sh
  have hB := bE_pos (skew M sh) sh
  have hw := hfit.wide
  have htiny : M * aE (skew M sh) sh < 10 * bE (skew M sh) sh → skew M sh = false ∧ sh = 0 := by
    intro hlt
    have hs0 : sh = 0 := by
      apply Classical.byContradiction
      intro hne
      have h52 : 2 ^ 52 ≤ M := by rcases hn.2 with h | h <;> omega
      have := Nat.mul_le_mul_right (aE (skew M sh) sh) h52
      unfold Wide at hw
      split at hw <;> omega
    exact ⟨by unfold skew; rw [hs0]; simp, hs0⟩
  have hone : M * aE (skew M sh) sh < 10 * bE (skew M sh) sh →
      dmin (skew M sh) M (aE (skew M sh) sh) (bE (skew M sh) sh) ≤ M * aE (skew M sh) sh / bE (skew M sh) sh ∧ M * aE (skew M sh) sh / bE (skew M sh) sh + 1 ≤ dmax M (aE (skew M sh) sh) (bE (skew M sh) sh) ∧ pick (skew M sh) M (aE (skew M sh) sh) (bE (skew M sh) sh) = near (M * aE (skew M sh) sh) (bE (skew M sh) sh) := by
    intro hlt
    obtain ⟨e1, rfl⟩ := htiny hlt
    rw [e1] at hlt ⊢
    exact tiny_all M hM hlt
  have hm1 : 1 ≤ M * aE (skew M sh) sh / bE (skew M sh) sh := by
    rw [Nat.le_div_iff_mul_le hB, Nat.one_mul]
    have hMA : aE (skew M sh) sh ≤ M * aE (skew M sh) sh := Nat.le_mul_of_pos_left _ hM
    unfold Wide at hw
    by_cases hs : skew M sh = true
    · have h52 : M = 2 ^ 52 := by unfold skew at hs; exact (of_decide_eq_true hs).1
      rw [if_pos hs] at hw
      have h2 : 2 * aE (skew M sh) sh ≤ M * aE (skew M sh) sh := Nat.mul_le_mul_right _ (by omega)
      omega
    · rw [if_neg hs] at hw; omega
  generalize skew M sh = sk at *
  generalize aE sk sh = A at *
  generalize bE sk sh = B at *
  generalize hm0 : M * A / B = m0 at *
  have hlo : 10 ^ ((dd m0).length - 1) ≤ m0 := dd_ge m0 m0 (Nat.le_refl _) hm1
  have hhi : m0 < 10 ^ (dd m0).length := dd_lt m0 m0 (Nat.le_refl _)
  generalize hnF : (dd m0).length = nF at *
  obtain ⟨t, ht⟩ : ∃ t, nF - n = t := ⟨_, rfl⟩
  have hnFt : nF = n + t := by omega
  rw [ht] at hy hin hboth ⊢
  rw [div_grid, hm0] at hy
  have hT : 0 < 10 ^ t := Nat.pow_pos (by decide)
  have hlow1 : 10 ^ (n - 1) ≤ m0 / 10 ^ t := by
    rw [Nat.le_div_iff_mul_le hT, ← Nat.pow_add, show n - 1 + t = nF - 1 by omega]; exact hlo
  have hlow2 : m0 / 10 ^ t < 10 ^ n := by
    rw [Nat.div_lt_iff_lt_mul hT, ← Nat.pow_add, ← hnFt]; exact hhi
  have hpos1 : 0 < 10 ^ (n - 1) := Nat.pow_pos (by decide)
  have hy0 : 0 < y := by omega
  -- no multiple of ten of this grid is in, unless it is the first
  have hten : ∀ z, y = 10 * z → n = 1 := by
    intro z hz
    apply Classical.byContradiction
    intro hn1
    refine hno (n - 1) (by omega) (by omega) ?_
    rw [show nF - (n - 1) = t + 1 by omega]
    apply mem_of hB (y := z)
    rw [Nat.pow_succ, Nat.mul_assoc, ← hz]; exact hin
  refine ⟨?_, hy0, ?_, ?_, ?_⟩
  · by_cases ht0 : t = 0
    · subst ht0
      rw [Nat.pow_zero, Nat.one_mul] at *
      rw [Nat.one_mul, Nat.mul_one, hm0] at hboth
      rw [Nat.div_one] at hy hlow1 hlow2
      by_cases hn1 : n = 1
      · subst hn1
        have hlt : M * A < 10 * B := by
          rw [← Nat.div_lt_iff_lt_mul hB, hm0]; simpa using hlow2
        obtain ⟨k1, k2, k3⟩ := hone hlt
        have i1 := (inU_iff hB hA hM hsk).2 ⟨k1, by omega⟩
        have i2 := (inU_iff hB hA hM hsk).2 ⟨by omega, k2⟩
        rw [k3]; exact hboth i1 i2
      · have hno10 : ∀ c, ¬ InU sk M A B (10 * c) := by
          intro c hc
          refine hno (n - 1) (by omega) (by omega) ?_
          rw [show nF - (n - 1) = 1 by omega]
          apply mem_of hB (y := c)
          rw [Nat.pow_one]; exact hc
        have hpf := pick_fine hB hA hM hw hsk hno10
        rw [hm0] at hpf
        rcases hpf with ⟨i1, i2, hp⟩ | ⟨i1, i2, hp⟩ | ⟨i1, i2, hp⟩
        · rw [hp]; exact hboth i1 i2
        · rcases hy with rfl | rfl
          · exact hp.symm
          · exact absurd hin i2
        · rcases hy with rfl | rfl
          · exact absurd hin i1
          · exact hp.symm
    · obtain ⟨s, rfl⟩ : ∃ s, t = s + 1 := ⟨t - 1, by omega⟩
      have e : 10 ^ (s + 1) * y = 10 * (10 ^ s * y) := by rw [Nat.pow_succ, Nat.mul_comm (10 ^ s), Nat.mul_assoc]
      rw [e] at hin ⊢
      exact (pick_ten hB hA hM hw hsk hin).symm
  · -- at most one digit more
    have hle : y ≤ 10 ^ n := by omega
    by_cases he : y = 10 ^ n
    · rw [he, dd_len_of (n := n) (Nat.le_refl _) (by rw [Nat.pow_succ]; omega)]; omega
    · rw [dd_len_of (n := n - 1) (by omega) (by rw [show n - 1 + 1 = n by omega]; omega)]; omega
  · intro hl
    apply Classical.byContradiction
    intro he
    rw [dd_len_of (n := n - 1) (by omega) (by rw [show n - 1 + 1 = n by omega]; omega)] at hl
    omega
  · intro hl
    have hne : y ≠ 10 ^ n := by
      intro he
      rw [he, dd_len_of (n := n) (Nat.le_refl _) (by rw [Nat.pow_succ]; omega)] at hl
      omega
    refine ⟨by rw [dd_len_of (n := n - 1) (by omega) (by rw [show n - 1 + 1 = n by omega]; omega)]; omega, ?_⟩
    intro h10
    have hn1 := hten (y / 10) (by omega)
    subst hn1
    simp at hlow2 hne
    omega
end Go.Proofs.YthhlhiighgnkmaaGreatDoor.Nr
/-! ## MATHEMATICS: what Go's shortFloat reckons is what is taken of the whole numbers that lie nearest. -/
namespace Go.Proofs.YthhlhiighgnkmaaGreatDoor.Nr
theorem unr_scale (n d c : Nat) (hc : 0 < c) : unr (n * c) (d * c) = unr n d := by
  unfold unr
  rw [Nat.mul_div_mul_right n d hc, Nat.mul_mod_mul_right]
  by_cases h : n % d = 0
  · rw [h, if_pos rfl, if_pos (Nat.zero_mul c)]
  · rw [if_neg h, if_neg (Nat.mul_ne_zero h (by omega))]
theorem unr_le (n d : Nat) : unr n d ≤ n / d + 1 := by rw [unr_val]; split <;> omega
/-- a number by some power of two, scaled: the power falls out -/
theorem scale_out {i y g k K : Nat} (h : K = k + g) : unr (y * 2 ^ g * pn i) (pd i * 2 ^ K) = unr (y * pn i) (pd i * 2 ^ k) := by
  subst h
  rw [Nat.pow_add, ← Nat.mul_assoc, show y * 2 ^ g * pn i = y * pn i * 2 ^ g by rw [Nat.mul_right_comm], unr_scale _ _ _ (Nat.two_pow_pos g)]
structure Short (M sh z : Nat) (mn mx par i hi lo s umn umx um : Nat) : Prop where
  hmn : mn < 2 ^ 64
  hmx : mx < 2 ^ 64
  u1 : codeU mn hi lo s = umn
  u2 : codeU mx hi lo s = umx
  u3 : codeU (M * 2 ^ z) hi lo s = um
  l1 : umn < 2 ^ 60
  l2 : umx < 2 ^ 60
  l3 : um < 2 ^ 60
  g2 : 1 ≤ umx
  d1 : (umn + par + 3) / 4 = dmin (skew M sh) M (aE (skew M sh) sh) (bE (skew M sh) sh)
  d2 : (umx - par) / 4 = dmax M (aE (skew M sh) sh) (bE (skew M sh) sh)
  d3 : (um + 1 + um / 4 % 2) / 4 = near (M * aE (skew M sh) sh) (bE (skew M sh) sh)
theorem short_math {M sh z mn mx hi lo s : Nat} (hn : Norm M sh) (hM : 1 ≤ M) (hsh : sh ≤ 2045) (hz1 : 11 ≤ z) (hz2 : z ≤ 63) (hMz : M < 2 ^ (64 - z))
    (hs : 128 + s = wE (skew M sh) sh - 2 + z) (hpm : hi * 2 ^ 64 = pm (iE (skew M sh) sh) + lo) (hlo : lo < 2 ^ 64)
    (hmn : if skew M sh = true then mn = (4 * M - 1) * 2 ^ (z - 2) else mn = (2 * M - 1) * 2 ^ (z - 1)) (hmx : mx = (2 * M + 1) * 2 ^ (z - 1)) :
    ∃ umn umx um, Short M sh z mn mx (M % 2) (iE (skew M sh) sh) hi lo s umn umx um := by
  have hfit := fits (skew M sh) sh hsh
  have hsk : skew M sh = true → M = 2 ^ 52 := by
    intro h; unfold skew at h; exact (of_decide_eq_true h).1
  have hA := aE_pos (skew M sh) sh
  have hB := bE_pos (skew M sh) sh
  have hw := hfit.wide
  have w1 := hfit.w1
  have w2 := hfit.w2
  have i1 := hfit.i1
  have i2 := hfit.i2
  have hp64 : 2 ^ (64 - z) * 2 ^ (z - 1) = 2 ^ 63 := by rw [← Nat.pow_add]; congr 1; omega
  have hz12 : 2 ^ (z - 1) = 2 * 2 ^ (z - 2) := by rw [← Nat.pow_succ']; congr 1; omega
  have hz01 : 2 ^ z = 2 * 2 ^ (z - 1) := by rw [← Nat.pow_succ']; congr 1; omega
  have h29 : 2 ^ (z - 2) = 2 ^ 9 * 2 ^ (z - 11) := by rw [← Nat.pow_add]; congr 1; omega
  have hpz : 0 < 2 ^ (z - 2) := Nat.two_pow_pos _
  -- the three numbers fit
  have hmul : ∀ k, k ≤ 2 * 2 ^ (64 - z) - 1 → k * 2 ^ (z - 1) < 2 ^ 64 := by
    intro k hk
    have h1 : k * 2 ^ (z - 1) ≤ (2 * 2 ^ (64 - z) - 1) * 2 ^ (z - 1) := Nat.mul_le_mul_right _ hk
    rw [Nat.sub_mul, Nat.mul_assoc, hp64, Nat.one_mul] at h1
    omega
  have fmx : mx < 2 ^ 64 := by rw [hmx]; exact hmul _ (by omega)
  have fm : M * 2 ^ z < 2 ^ 64 := by
    rw [hz01, show M * (2 * 2 ^ (z - 1)) = 2 * M * 2 ^ (z - 1) by rw [Nat.mul_left_comm, Nat.mul_assoc]]
    exact hmul _ (by omega)
  have fmn : mn < 2 ^ 64 := by
    split at hmn
    · rename_i h
      have hM52 := hsk h
      rw [hmn]
      have : (4 * M - 1) * 2 ^ (z - 2) ≤ 2 * M * 2 ^ (z - 1) := by
        rw [hz12, Nat.mul_comm 2 M, Nat.mul_assoc, ← Nat.mul_assoc 2 2, show 2 * 2 = 4 from rfl, ← Nat.mul_assoc, Nat.mul_comm M 4]
        exact Nat.mul_le_mul_right _ (by omega)
      have := hmul (2 * M) (by omega)
      omega
    · rw [hmn]; exact hmul _ (by omega)
  have dv : ∀ k g, z - 2 ≤ g → k * 2 ^ g % 2 ^ 9 = 0 := by
    intro k g hg
    have : k * 2 ^ g = 2 ^ 9 * (k * 2 ^ (g - 9)) := by
      rw [Nat.mul_left_comm, ← Nat.pow_add]; congr 2; omega
    rw [this]; exact Nat.mul_mod_right _ _
  have hs5 : 5 ≤ s := by omega
  have U := fun x (h1 : 1 ≤ x) (h2 : x < 2 ^ 64) (h9 : x % 2 ^ 9 = 0) => uscale_print (s := s) i1 i2 hpm hlo h1 h2 h9 hs5
  have bE_eq : bE (skew M sh) sh = pd (iE (skew M sh) sh) * 2 ^ wE (skew M sh) sh := rfl
  have aE_eq : aE (skew M sh) sh = pn (iE (skew M sh) sh) := rfl
  have hpd := pd_pos (iE (skew M sh) sh)
  have hMub : M < 2 ^ 53 := hn.1
  -- the greatest
  have hAB : aE (skew M sh) sh < 14 * bE (skew M sh) sh := by
    unfold Wide at hw
    split at hw <;> omega
  have eMx : codeU mx hi lo s = unr ((2 * M + 1) * pn (iE (skew M sh) sh)) (pd (iE (skew M sh) sh) * 2 ^ (wE (skew M sh) sh - 1)) := by
    rw [U mx (by rw [hmx]; exact Nat.mul_pos (by omega) (Nat.two_pow_pos _)) fmx (by rw [hmx]; exact dv _ _ (by omega)), hmx]
    exact scale_out (by omega)
  have eM : codeU (M * 2 ^ z) hi lo s = unr (M * pn (iE (skew M sh) sh)) (pd (iE (skew M sh) sh) * 2 ^ (wE (skew M sh) sh - 2)) := by
    rw [U _ (Nat.mul_pos (by omega) (Nat.two_pow_pos _)) fm (dv _ _ (by omega))]
    exact scale_out (by omega)
  have eW1 : 4 * (pd (iE (skew M sh) sh) * 2 ^ (wE (skew M sh) sh - 1)) = 2 * bE (skew M sh) sh := by
    rw [bE_eq, show wE (skew M sh) sh = (wE (skew M sh) sh - 1) + 1 by omega, Nat.pow_succ, Nat.add_sub_cancel]
    rw [Nat.mul_left_comm 4, Nat.mul_left_comm 2, Nat.mul_comm (2 ^ (wE (skew M sh) sh - 1)) 2, ← Nat.mul_assoc 2 2]
  have eW2 : 4 * (pd (iE (skew M sh) sh) * 2 ^ (wE (skew M sh) sh - 2)) = bE (skew M sh) sh := by
    rw [bE_eq, show wE (skew M sh) sh = (wE (skew M sh) sh - 2) + 2 by omega, Nat.pow_add, Nat.add_sub_cancel]
    rw [Nat.mul_left_comm 4, Nat.mul_comm (2 ^ (wE (skew M sh) sh - 2)) (2 ^ 2)]
  have P1 : 0 < pd (iE (skew M sh) sh) * 2 ^ (wE (skew M sh) sh - 1) := Nat.mul_pos hpd (Nat.two_pow_pos _)
  have P2 : 0 < pd (iE (skew M sh) sh) * 2 ^ (wE (skew M sh) sh - 2) := Nat.mul_pos hpd (Nat.two_pow_pos _)
  have small : ∀ y d, 0 < d → y ≤ 2 ^ 54 → bE (skew M sh) sh ≤ 4 * d → unr (y * pn (iE (skew M sh) sh)) d < 2 ^ 60 := by
    intro y d hd hy h4
    have h1 := unr_le (y * pn (iE (skew M sh) sh)) d
    have h3 : y * pn (iE (skew M sh) sh) ≤ 2 ^ 54 * aE (skew M sh) sh := Nat.mul_le_mul_right _ hy
    have h2 : y * pn (iE (skew M sh) sh) / d < 2 ^ 60 - 1 := by
      rw [Nat.div_lt_iff_lt_mul hd]
      omega
    omega
  have hAMx : pn (iE (skew M sh) sh) ≤ (2 * M + 1) * pn (iE (skew M sh) sh) := Nat.le_mul_of_pos_left _ (by omega)
  have g2 : 1 ≤ unr ((2 * M + 1) * pn (iE (skew M sh) sh)) (pd (iE (skew M sh) sh) * 2 ^ (wE (skew M sh) sh - 1)) := by
    have h := unr_ceil ((2 * M + 1) * pn (iE (skew M sh) sh)) _ P1
    have hc : ¬ ceil ((2 * M + 1) * pn (iE (skew M sh) sh)) (4 * (pd (iE (skew M sh) sh) * 2 ^ (wE (skew M sh) sh - 1))) ≤ 0 := by
      rw [ceil_le (by omega)]; omega
    omega
  have hmax : (unr ((2 * M + 1) * pn (iE (skew M sh) sh)) (pd (iE (skew M sh) sh) * 2 ^ (wE (skew M sh) sh - 1)) - M % 2) / 4 = dmax M (aE (skew M sh) sh) (bE (skew M sh) sh) := by
    unfold dmax
    by_cases he : M % 2 = 0
    · rw [if_pos he, he, Nat.sub_zero, unr_floor _ _ P1, eW1]; rfl
    · rw [if_neg he, show M % 2 = 1 by omega, unr_under _ _ P1 (by omega), eW1]; rfl
  have hnear : (unr (M * pn (iE (skew M sh) sh)) (pd (iE (skew M sh) sh) * 2 ^ (wE (skew M sh) sh - 2)) + 1 + unr (M * pn (iE (skew M sh) sh)) (pd (iE (skew M sh) sh) * 2 ^ (wE (skew M sh) sh - 2)) / 4 % 2) / 4 = near (M * aE (skew M sh) sh) (bE (skew M sh) sh) := by
    rw [unr_near _ _ P2, eW2]; rfl
  have lmx := small (2 * M + 1) _ P1 (by omega) (by omega)
  have lm := small M _ P2 (by omega) (by omega)
  by_cases hk : skew M sh = true
  · rw [if_pos hk] at hmn
    have hM52 := hsk hk
    have P0 : 0 < pd (iE (skew M sh) sh) * 2 ^ wE (skew M sh) sh := Nat.mul_pos hpd (Nat.two_pow_pos _)
    have eMn : codeU mn hi lo s = unr ((4 * M - 1) * pn (iE (skew M sh) sh)) (pd (iE (skew M sh) sh) * 2 ^ wE (skew M sh) sh) := by
      rw [U mn (by rw [hmn]; exact Nat.mul_pos (by omega) (Nat.two_pow_pos _)) fmn (by rw [hmn]; exact dv _ _ (Nat.le_refl _)), hmn]
      exact scale_out (by omega)
    refine ⟨_, _, _, fmn, fmx, eMn, eMx, eM, small (4 * M - 1) _ P0 (by omega) (by omega), lmx, lm, g2, ?_, hmax, hnear⟩
    unfold dmin
    rw [if_pos hk, hM52, show (2 ^ 52) % 2 = 0 from rfl, Nat.add_zero, unr_ceil _ _ (by rw [← hM52]; exact P0)]
    rw [← hM52]
    rfl
  · rw [if_neg hk] at hmn
    have eMn : codeU mn hi lo s = unr ((2 * M - 1) * pn (iE (skew M sh) sh)) (pd (iE (skew M sh) sh) * 2 ^ (wE (skew M sh) sh - 1)) := by
      rw [U mn (by rw [hmn]; exact Nat.mul_pos (by omega) (Nat.two_pow_pos _)) fmn (by rw [hmn]; exact dv _ _ (by omega)), hmn]
      exact scale_out (by omega)
    refine ⟨_, _, _, fmn, fmx, eMn, eMx, eM, small (2 * M - 1) _ P1 (by omega) (by omega), lmx, lm, g2, ?_, hmax, hnear⟩
    unfold dmin
    rw [if_neg hk]
    by_cases he : M % 2 = 0
    · rw [if_pos he, he, Nat.add_zero, unr_ceil _ _ P1, eW1]; rfl
    · rw [if_neg he, show M % 2 = 1 by omega, unr_above _ _ P1, eW1]; rfl
end Go.Proofs.YthhlhiighgnkmaaGreatDoor.Nr
