/-
  A FINITE NUMBER IS ITS OWN ROUNDING; comparisons by where words stand.
-/
import Derived.Test.YtffohkpohgkglaaGreatNumE
namespace Go.Proofs.YtffohkpohgkglaaGreat.Nm
open Ieee
/-- the digits by the word's lower bits -/
theorem fin_lt {x : Nat} (na : isNaN x = false) (ia : isInf x = false) : x % 2 ^ 63 < inf := by
  unfold isNaN at na
  unfold isInf at ia
  simp at na ia
  omega
theorem rung_own (x : Nat) (hf : x % 2 ^ 63 < inf) (h0 : mag x ≠ 0) : rung (mag x) (plc x) = x % 2 ^ 63 := by
  have hfr : x % 2 ^ 52 < 2 ^ 52 := Nat.mod_lt _ (by decide)
  have hE : x / 2 ^ 52 % 2048 ≤ 2046 := by unfold inf at hf; omega
  have hx : x % 2 ^ 63 = (x / 2 ^ 52 % 2048) * 2 ^ 52 + x % 2 ^ 52 := by omega
  have hM : 2047 * 2 ^ 52 = inf := rfl
  unfold rung
  rw [hM]
  rw [Nat.min_eq_left]
  all_goals
    by_cases he : x / 2 ^ 52 % 2048 = 0
    · have hm : mag x = x % 2 ^ 52 := by unfold mag; rw [if_pos he]
      have hp : plc x = -1074 := by unfold plc; rw [if_pos he]
      have hlog : (mag x).log2 ≤ 51 := by
        have h1 := Nat.log2_self_le h0
        refine Decidable.by_contra fun hk => ?_
        have : 2 ^ 52 ≤ 2 ^ (mag x).log2 := Nat.pow_le_pow_right (by decide) (by omega)
        omega
      have hl : last (mag x) (plc x) = -1074 := by unfold last; omega
      rw [hl, hp]
      have z1 : (-1074 + 1074 : Int).toNat = 0 := rfl
      have z2 : (-1074 - -1074 : Int).toNat = 0 := rfl
      rw [z1, z2, cutE_zero, Nat.pow_zero, Nat.mul_one, Nat.zero_mul, Nat.zero_add, hm]
      rw [he] at hx
      omega
    · have hm : mag x = 2 ^ 52 + x % 2 ^ 52 := by unfold mag; rw [if_neg he]
      have hp : plc x = (x / 2 ^ 52 % 2048 : Nat) - 1075 := by unfold plc; rw [if_neg he]
      have hlog : (mag x).log2 = 52 := log2_of (by omega) (by omega)
      have hl : last (mag x) (plc x) = plc x := by unfold last; rw [hlog]; omega
      rw [hl, Int.sub_self]
      have z2 : (0 : Int).toNat = 0 := rfl
      rw [z2, cutE_zero, Nat.pow_zero, Nat.mul_one, hm, hp]
      obtain ⟨E, hEE⟩ : ∃ E, x / 2 ^ 52 % 2048 = E + 1 := ⟨x / 2 ^ 52 % 2048 - 1, by omega⟩
      rw [hEE] at hx ⊢
      rw [show (((E + 1 : Nat) : Int) - 1075 + 1074).toNat = E by omega]
      rw [Nat.add_mul, Nat.one_mul] at hx
      first | omega | (unfold inf at hf ⊢; omega)
theorem va_zero (x : Nat) : va x = 0 ↔ mag x = 0 := by
  unfold va
  have := Nat.two_pow_pos (plc x + 1074).toNat
  constructor
  · intro h
    rcases Nat.mul_eq_zero.1 h with h | h
    · exact h
    · omega
  · intro h; rw [h, Nat.zero_mul]
theorem mag_zero {x : Nat} (h : mag x = 0) : x % 2 ^ 63 = 0 := by
  have : nought x = true := by rw [nought_mag, h]; rfl
  simpa [nought] using this
theorem rungN_va (x : Nat) (hf : x % 2 ^ 63 < inf) : rungN (va x) = x % 2 ^ 63 := by
  unfold rungN
  by_cases h0 : mag x = 0
  · rw [if_pos ((va_zero x).2 h0), mag_zero h0]
  · rw [if_neg (fun h => h0 ((va_zero x).1 h))]
    unfold va
    have hp := plc_ge x
    rw [rung_scale _ _ _ h0, show (-1074 : Int) + ((plc x + 1074).toNat : Nat) = plc x by omega]
    exact rung_own x hf h0
theorem key_own (x : Nat) (hf : x % 2 ^ 63 < inf) : key x = keyZ (vz x) := by
  unfold key keyZ vz
  rw [← rungN_va x hf]
  unfold sg
  cases h : neg x
  · simp; omega
  · by_cases h0 : va x = 0
    · simp [h0, rungN]
    · simp; omega
/-- what stands higher is worth more -/
theorem va_mono {x y : Nat} (h : x % 2 ^ 63 ≤ y % 2 ^ 63) : va x ≤ va y := by
  have f1 : x % 2 ^ 52 < 2 ^ 52 := Nat.mod_lt _ (by decide)
  have f2 : y % 2 ^ 52 < 2 ^ 52 := Nat.mod_lt _ (by decide)
  have e1 : x % 2 ^ 63 = (x / 2 ^ 52 % 2048) * 2 ^ 52 + x % 2 ^ 52 := by omega
  have e2 : y % 2 ^ 63 = (y / 2 ^ 52 % 2048) * 2 ^ 52 + y % 2 ^ 52 := by omega
  rw [e1, e2] at h
  unfold va mag plc
  generalize x / 2 ^ 52 % 2048 = E at *
  generalize y / 2 ^ 52 % 2048 = E' at *
  generalize x % 2 ^ 52 = f at *
  generalize y % 2 ^ 52 = f' at *
  clear e1 e2
  have hE : E ≤ E' := by
    refine Decidable.by_contra fun hc => ?_
    have := Nat.mul_le_mul_right (2 ^ 52) (show E' + 1 ≤ E by omega)
    rw [Nat.add_mul, Nat.one_mul] at this
    omega
  have z1 : (-1074 + 1074 : Int).toNat = 0 := rfl
  by_cases h1 : E = E'
  · subst h1
    split
    · rw [z1]; exact Nat.mul_le_mul_right _ (by omega)
    · exact Nat.mul_le_mul_right _ (by omega)
  · have h2 : E' ≠ 0 := by omega
    rw [if_neg h2, if_neg h2]
    obtain ⟨t, rfl⟩ : ∃ t, E' = t + 1 := ⟨E' - 1, by omega⟩
    rw [show (((t + 1 : Nat) : Int) - 1075 + 1074).toNat = t by omega]
    have ht := Nat.two_pow_pos t
    by_cases h3 : E = 0
    · rw [if_pos h3, if_pos h3, z1, Nat.pow_zero, Nat.mul_one]
      exact Nat.le_trans (show f ≤ 2 ^ 52 + f' by omega) (Nat.le_mul_of_pos_right _ ht)
    · rw [if_neg h3, if_neg h3]
      obtain ⟨s, rfl⟩ : ∃ s, E = s + 1 := ⟨E - 1, by omega⟩
      rw [show (((s + 1 : Nat) : Int) - 1075 + 1074).toNat = s by omega]
      have h4 : 2 ^ (s + 1) ≤ 2 ^ t := Nat.pow_le_pow_right (by decide) (by omega)
      rw [Nat.pow_succ] at h4
      have h5 : (2 ^ 52 + f) * 2 ^ s ≤ (2 ^ 52 * 2) * 2 ^ s := Nat.mul_le_mul_right _ (by omega)
      have h6 : 2 ^ 52 * (2 ^ s * 2) ≤ 2 ^ 52 * 2 ^ t := Nat.mul_le_mul_left _ h4
      have h7 : (2 ^ 52) * 2 ^ t ≤ (2 ^ 52 + f') * 2 ^ t := Nat.mul_le_mul_right _ (by omega)
      have h8 : (2 ^ 52 * 2) * 2 ^ s = 2 ^ 52 * (2 ^ s * 2) := by rw [Nat.mul_assoc, Nat.mul_comm 2]
      rw [h8] at h5
      exact Nat.le_trans h5 (Nat.le_trans h6 h7)
theorem vz_le_of_key {x y : Nat} (h : key x ≤ key y) : vz x ≤ vz y := by
  unfold key sg at h
  unfold vz sg
  cases h1 : neg x <;> cases h2 : neg y <;> simp only [h1, h2, Bool.false_eq_true, if_true, if_false] at h ⊢
  · have := va_mono (x := x) (y := y) (by omega); omega
  · have h3 : va x = 0 := by
      have := va_mono (x := x) (y := 0) (by simp; omega)
      have : va 0 = 0 := by decide
      omega
    have h4 : va y = 0 := by
      have := va_mono (x := y) (y := 0) (by simp; omega)
      have : va 0 = 0 := by decide
      omega
    omega
  · omega
  · have := va_mono (x := y) (y := x) (by omega); omega
theorem key_lt_iff {x y : Nat} (hx : x % 2 ^ 63 < inf) (hy : y % 2 ^ 63 < inf) : key x < key y ↔ vz x < vz y := by
  constructor
  · intro h
    have h1 := vz_le_of_key (Int.le_of_lt h)
    refine Int.lt_iff_le_and_ne.2 ⟨h1, fun e => ?_⟩
    rw [key_own x hx, key_own y hy, e] at h
    omega
  · intro h
    have h1 := keyZ_mono (Int.le_of_lt h)
    rw [← key_own x hx, ← key_own y hy] at h1
    refine Int.lt_iff_le_and_ne.2 ⟨h1, fun e => ?_⟩
    have := vz_le_of_key (Int.le_of_eq e.symm)
    omega
end Go.Proofs.YtffohkpohgkglaaGreat.Nm
