/-
  ROUNDING KEEPS ORDER; values as whole multiples of the least one; sums by values.
-/
import Derived.Test.YtffohkpohgkglaaGreatNumD
namespace Go.Proofs.YtffohkpohgkglaaGreat.Nm
open Ieee
theorem cut_scale (n k d : Nat) : cutE (n * 2 ^ k) (k + d) = cutE n d := by
  have hk := Nat.two_pow_pos k
  have h1 : n * 2 ^ k / 2 ^ (k + d) = n / 2 ^ d := by
    rw [Nat.pow_add, ← Nat.div_div_eq_div_mul, Nat.mul_div_cancel _ hk]
  have h2 : n * 2 ^ k % 2 ^ (k + d) = 2 ^ k * (n % 2 ^ d) := by
    rw [Nat.pow_add, Nat.mul_comm n, Nat.mul_mod_mul_left]
  unfold cutE
  rw [h1, h2, Nat.pow_add]
  congr 1
  have e : 2 * (2 ^ k * (n % 2 ^ d)) = 2 ^ k * (2 * (n % 2 ^ d)) := by rw [← Nat.mul_assoc, ← Nat.mul_assoc, Nat.mul_comm 2]
  rw [e]
  apply ite_congr _ (fun _ => rfl) (fun _ => rfl)
  apply propext
  rw [Nat.mul_lt_mul_left hk, Nat.mul_right_inj (by omega)]
theorem log2_scale (n k : Nat) (h : n ≠ 0) : (n * 2 ^ k).log2 = n.log2 + k := by
  have h1 := Nat.log2_self_le h
  have h2 : n < 2 ^ (n.log2 + 1) := Nat.lt_log2_self
  refine log2_of ?_ ?_
  · rw [Nat.pow_add]; exact Nat.mul_le_mul_right _ h1
  · rw [show n.log2 + k + 1 = n.log2 + 1 + k by omega, Nat.pow_add]
    exact Nat.mul_lt_mul_of_pos_right h2 (Nat.two_pow_pos k)
theorem rung_scale (n k : Nat) (e : Int) (h : n ≠ 0) : rung (n * 2 ^ k) e = rung n (e + k) := by
  have hl : last (n * 2 ^ k) e = last n (e + k) := by unfold last; rw [log2_scale n k h]; omega
  unfold rung
  rw [hl]
  generalize last n (e + k) = l
  congr 2
  by_cases h1 : l ≤ e
  · rw [show (l - e).toNat = 0 by omega, show (l - (e + k)).toNat = 0 by omega, cutE_zero, cutE_zero, Nat.mul_assoc, ← Nat.pow_add]
    congr 2; omega
  · rw [show (e - l).toNat = 0 by omega, Nat.pow_zero, Nat.mul_one]
    by_cases h2 : l ≤ e + k
    · obtain ⟨j, hj⟩ : ∃ j : Nat, (e + k - l).toNat = j := ⟨_, rfl⟩
      rw [show (l - (e + k)).toNat = 0 by omega, hj, show k = j + (l - e).toNat by omega, Nat.pow_add, ← Nat.mul_assoc, cutE_zero]
      have := cut_scale (n * 2 ^ j) (l - e).toNat 0
      rw [Nat.add_zero, cutE_zero] at this
      exact this
    · rw [show (e + k - l).toNat = 0 by omega, show (l - e).toNat = k + (l - (e + k)).toNat by omega, cut_scale, Nat.pow_zero, Nat.mul_one]
theorem cut_mono {a b : Nat} (s : Nat) (h : a ≤ b) : cutE a s ≤ cutE b s := by
  have hq := Nat.div_le_div_right (c := 2 ^ s) h
  have ha := Nat.div_add_mod a (2 ^ s)
  have hb := Nat.div_add_mod b (2 ^ s)
  unfold cutE
  by_cases hlt : a / 2 ^ s < b / 2 ^ s
  · split <;> omega
  · have he : a / 2 ^ s = b / 2 ^ s := by omega
    have hr : a % 2 ^ s ≤ b % 2 ^ s := by rw [he] at ha; omega
    rw [he]
    by_cases hc : 2 ^ s < 2 * (a % 2 ^ s) ∨ (2 ^ s = 2 * (a % 2 ^ s) ∧ b / 2 ^ s % 2 = 1)
    · rw [if_pos hc, if_pos (by omega)]; exact Nat.le_refl _
    · rw [if_neg hc]; omega
theorem log2_mono {a b : Nat} (h0 : a ≠ 0) (h : a ≤ b) : a.log2 ≤ b.log2 := by
  have h1 := Nat.log2_self_le h0
  exact (Nat.le_log2 (by omega)).2 (Nat.le_trans h1 h)
theorem rung_mono {a b : Nat} (e : Int) (h0 : a ≠ 0) (h : a ≤ b) : rung a e ≤ rung b e := by
  have hb0 : b ≠ 0 := by omega
  have hlog := log2_mono h0 h
  by_cases hl : last a e = last b e
  · unfold rung
    rw [hl]
    have h1 : a * 2 ^ (e - last b e).toNat ≤ b * 2 ^ (e - last b e).toNat := Nat.mul_le_mul_right _ h
    have h2 := cut_mono (last b e - e).toNat h1
    exact Nat.le_min.2 ⟨Nat.le_trans (Nat.min_le_left _ _) (Nat.add_le_add_left h2 _), Nat.min_le_right _ _⟩
  · have hll : last a e < last b e := by unfold last at hl ⊢; omega
    have h4 : -1074 ≤ last a e := Int.le_max_right _ _
    have ka := kept_le a e false
    have kb := kept_ge b e false hb0 (by omega)
    rw [← refRung_eq a e h0, ← refRung_eq b e hb0, refRung_kept a e false h0, refRung_kept b e false hb0]
    generalize kept a e false = ca at *
    generalize kept b e false = cb at *
    obtain ⟨K, hK⟩ : ∃ K, (last a e + 1074).toNat = K := ⟨_, rfl⟩
    obtain ⟨K', hK'⟩ : ∃ K', (last b e + 1074).toNat = K' := ⟨_, rfl⟩
    have hKK : K + 1 ≤ K' := by omega
    rw [hK, hK']
    have h7 : (K + 1) * 2 ^ 52 ≤ K' * 2 ^ 52 := Nat.mul_le_mul_right _ hKK
    rw [Nat.add_mul, Nat.one_mul] at h7
    have h8 : (2 : Nat) ^ 53 = 2 ^ 52 + 2 ^ 52 := rfl
    rw [h8] at ka
    clear hK hK' hll h4 hl hlog h hb0 h0 h8 hKK
    refine Nat.le_min.2 ⟨Nat.le_trans (Nat.min_le_left _ _) ?_, Nat.min_le_right _ _⟩
    generalize (2 : Nat) ^ 52 = M at *
    generalize K * M = A at *
    generalize K' * M = A' at *
    omega
theorem rung_le (n : Nat) (e : Int) : rung n e ≤ 2047 * 2 ^ 52 := Nat.min_le_right _ _
/-- a finite number's value, in units of the least one -/
def va (x : Nat) : Nat := mag x * 2 ^ (plc x + 1074).toNat
def vz (x : Nat) : Int := sg (neg x) (va x)
theorem plc_ge (x : Nat) : -1074 ≤ plc x := by
  unfold plc
  split
  · exact Int.le_refl _
  · omega
/-- a whole number of the least units, rounded: the rung -/
def rungN (n : Nat) : Nat := if n = 0 then 0 else rung n (-1074)
theorem rungN_mono {a b : Nat} (h : a ≤ b) : rungN a ≤ rungN b := by
  unfold rungN
  split
  · exact Nat.zero_le _
  · rw [if_neg (by omega)]; exact rung_mono _ (by assumption) h
theorem rungN_le (n : Nat) : rungN n ≤ 2047 * 2 ^ 52 := by
  unfold rungN
  split
  · decide
  · exact rung_le _ _
theorem round_va (s : Bool) (n : Nat) (e : Int) (h : -1074 ≤ e) : round s n e false = word s (rungN (n * 2 ^ (e + 1074).toNat)) := by
  unfold round rungN
  by_cases h0 : n = 0
  · subst h0; simp
  · have : n * 2 ^ (e + 1074).toNat ≠ 0 := Nat.mul_ne_zero h0 (by have := Nat.two_pow_pos (e + 1074).toNat; omega)
    rw [if_neg h0, if_neg this, refRung_eq _ _ h0, rung_scale _ _ _ h0]
    congr 2; omega
/-- where a word stands among all -/
def key (x : Nat) : Int := sg (neg x) (x % 2 ^ 63)
theorem key_word (s : Bool) (r : Nat) (h : r ≤ 2047 * 2 ^ 52) : key (word s r) = sg s r := by
  have h2 : r < 2 ^ 63 := Nat.lt_of_le_of_lt h (by decide)
  clear h
  cases s
  · have e1 : neg (word false r) = false := by unfold neg word; simp; omega
    have e2 : word false r % 2 ^ 63 = r := by unfold word; simp; omega
    unfold key
    rw [e1, e2]
  · have e1 : neg (word true r) = true := by unfold neg word; simp
    have e2 : word true r % 2 ^ 63 = r := by unfold word; simp; omega
    unfold key
    rw [e1, e2]
def keyZ (v : Int) : Int := sg (decide (v < 0)) (rungN v.natAbs)
theorem keyZ_mono {u v : Int} (h : u ≤ v) : keyZ u ≤ keyZ v := by
  unfold keyZ sg
  by_cases hu : u < 0
  · by_cases hv : v < 0
    · have := rungN_mono (show v.natAbs ≤ u.natAbs by omega)
      simp [hu, hv] <;> omega
    · simp [hu, hv] <;> omega
  · have := rungN_mono (show u.natAbs ≤ v.natAbs by omega)
    simp [hu, show ¬ v < 0 by omega] <;> omega
theorem up_va (x : Nat) (e : Int) (h1 : -1074 ≤ e) (h2 : e ≤ plc x) : up (mag x) (plc x - e) * 2 ^ (e + 1074).toNat = va x := by
  unfold up va
  rw [Nat.mul_assoc, ← Nat.pow_add]
  congr 2; omega
/-- a sum of what is finite, by its value -/
theorem dAdd_key (a b : Nat) (na : isNaN a = false) (nb' : isNaN b = false) (ia : isInf a = false) (ib : isInf b = false) : key (dAdd a b) = keyZ (vz a + vz b) := by
  have pa := plc_ge a
  have pb := plc_ge b
  unfold dAdd
  simp only [na, nb', ia, ib, Bool.or_self, Bool.false_and, Bool.false_eq_true, if_false]
  have h1 := up_va a (min (plc a) (plc b)) (by omega) (by omega)
  have h2 := up_va b (min (plc a) (plc b)) (by omega) (by omega)
  have he : -1074 ≤ min (plc a) (plc b) := by omega
  generalize min (plc a) (plc b) = e at *
  generalize up (mag a) (plc a - e) = x at *
  generalize up (mag b) (plc b - e) = y at *
  have hT := Nat.two_pow_pos (e + 1074).toNat
  unfold vz
  rw [← h1, ← h2]
  simp only [round_va _ _ _ he]
  generalize 2 ^ (e + 1074).toNat = T at *
  unfold keyZ
  rw [sg_abs]
  by_cases hs : neg a = neg b
  · rw [if_pos hs, if_pos hs, key_word _ _ (rungN_le _), ← Nat.add_mul, hs]
    generalize hz : (x + y) * T = z
    have e1 : sg (neg b) (x * T) + sg (neg b) (y * T) = sg (neg b) z := by
      rw [← hz, Nat.add_mul]; unfold sg; split <;> omega
    rw [e1]
    unfold sg
    cases hb : neg b
    · simp; omega
    · by_cases h0 : z = 0
      · subst h0; simp [rungN]
      · simp; omega
  · rw [if_neg hs, if_neg hs]
    by_cases hxy : x = y
    · subst hxy
      rw [if_pos rfl, if_neg (by omega), Nat.sub_self]
      simp [key, rungN, sg]
    · rw [if_neg hxy]
      have hlt : ∀ u v : Nat, u < v → u * T < v * T := fun u v h => Nat.mul_lt_mul_of_pos_right h hT
      by_cases h3 : y < x
      · have h4 := hlt y x h3
        rw [if_pos h3, if_pos h4, key_word _ _ (rungN_le _), Nat.sub_mul]
        congr 1
        unfold sg
        cases h5 : neg a <;> cases h6 : neg b <;> simp_all <;> omega
      · have h4 := hlt x y (by omega)
        rw [if_neg h3, if_neg (by omega), key_word _ _ (rungN_le _), Nat.sub_mul]
        congr 1
        unfold sg
        cases h5 : neg a <;> cases h6 : neg b <;> simp_all <;> omega
end Go.Proofs.YtffohkpohgkglaaGreat.Nm
