/-
  ROOTS rise; what is exact: times one, by one, less itself, by itself, less nothing; a difference turned.
-/
import Derived.Test.YtffohkpohgkglaaGreatNumG
namespace Go.Proofs.YtffohkpohgkglaaGreat.Nm
open Ieee
theorem sqr_le {M N : Nat} (h : M ≤ N) : sqr M ≤ sqr N := by
  have h1 := rt_is M
  have h2 := rt_is N
  unfold sqr
  by_cases hr : rt M < rt N
  · have : (rt M * rt M != M).toNat ≤ 1 := by cases (rt M * rt M != M) <;> decide
    omega
  · have hle : rt M = rt N := by
      refine Nat.le_antisymm ?_ (by omega)
      refine Decidable.by_contra fun hc => ?_
      have := Nat.mul_le_mul (show rt N + 1 ≤ rt M by omega) (show rt N + 1 ≤ rt M by omega)
      have := h1.1
      have := h2.2
      omega
    rw [hle]
    by_cases he : rt N * rt N = M
    · have : (rt N * rt N != M).toNat = 0 := by simp [he]
      rw [this]; omega
    · have hne : rt N * rt N ≠ N := by
        intro e
        have := h1.1
        rw [hle] at this
        omega
      have t1 : (rt N * rt N != M).toNat = 1 := by simp [he]
      have t2 : (rt N * rt N != N).toNat = 1 := by simp [hne]
      rw [t1, t2]; exact Nat.le_refl _
theorem dSqrt_va (a : Nat) (na : isNaN a = false) (ia : isInf a = false) (hn : neg a = false) (h0 : mag a ≠ 0) : dSqrt a = word false (rung (sqr (va a * 2 ^ 120)) (-598)) := by
  unfold dSqrt
  rw [na, ia, hn, nought_mag, decide_eq_false h0]
  simp only [Bool.false_eq_true, if_false]
  have hp := plc_ge a
  obtain ⟨k, hk, hk1, hk2, hk3⟩ : ∃ k : Nat, (if plc a % 2 = 0 then 120 else 121) = k ∧ 120 ≤ k ∧ k ≤ 121 ∧ (plc a - (k : Nat)) % 2 = 0 := by
    by_cases h : plc a % 2 = 0
    · exact ⟨120, if_pos h, by omega, by omega, by omega⟩
    · exact ⟨121, if_neg h, by omega, by omega, by omega⟩
  rw [hk]
  clear hk
  have hb : 2 ^ 60 ≤ rt (mag a * 2 ^ k) := by
    refine rt_ge (Nat.le_trans ?_ (Nat.le_mul_of_pos_left _ (by omega)))
    exact Nat.pow_le_pow_right (by decide) (by omega)
  unfold round
  rw [if_neg (by omega), refRung_more _ _ _ (by have := nb_ge hb; omega)]
  obtain ⟨j, hj⟩ : ∃ j : Nat, plc a + 1074 + 120 - (k : Nat) = 2 * (j : Int) := ⟨((plc a + 1074 + 120 - (k : Nat)) / 2).toNat, by omega⟩
  have h4 := (sqr_same (mag a * 2 ^ k) j ((plc a - (k : Nat)) / 2 - 1) (by unfold sqr; omega)).1
  have e1 : mag a * 2 ^ k * 2 ^ (2 * j) = va a * 2 ^ 120 := by
    unfold va
    rw [Nat.mul_assoc, Nat.mul_assoc, ← Nat.pow_add, ← Nat.pow_add]
    congr 2; omega
  rw [e1] at h4
  rw [show (-598 : Int) = (plc a - (k : Nat)) / 2 - 1 - j by omega, h4]
  rfl
theorem va_pos {x : Nat} (h : mag x ≠ 0) : va x ≠ 0 := fun e => h ((va_zero x).1 e)
theorem sqr_ne {N : Nat} (h : N ≠ 0) : sqr N ≠ 0 := by
  intro e
  unfold sqr at e
  have h1 : rt N = 0 := by omega
  have : (rt N * rt N != N).toNat = 1 := by rw [h1]; simp; omega
  omega
/-- the root of what is greater is not less -/
theorem sqrt_mono {a b : Nat} (na : isNaN a = false) (nb' : isNaN b = false) (pa : neg a = false) (pb : neg b = false) (h : key a ≤ key b) : key (dSqrt a) ≤ key (dSqrt b) ∧ isNaN (dSqrt a) = false := by
  have hk : ∀ x : Nat, isNaN x = false → neg x = false → isInf x = false → mag x ≠ 0 → key (dSqrt x) = (rung (sqr (va x * 2 ^ 120)) (-598) : Nat) ∧ isNaN (dSqrt x) = false := fun x nx px ix mx => by
    rw [dSqrt_va x nx ix px mx]
    exact ⟨key_word _ _ (rung_le _ _), word_nan _ (rung_le _ _)⟩
  have hz : ∀ x : Nat, isNaN x = false → mag x = 0 → dSqrt x = x := fun x nx mx => by
    unfold dSqrt
    rw [nx, nought_mag, mx]; rfl
  have hi : ∀ x : Nat, isNaN x = false → neg x = false → isInf x = true → dSqrt x = x := fun x nx px ix => by
    unfold dSqrt
    rw [nx, px, ix, nought_mag, decide_eq_false (inf_mag ix)]; rfl
  have k0 : ∀ x : Nat, mag x = 0 → key x = 0 := fun x mx => by unfold key; rw [mag_zero mx]; unfold sg; split <;> rfl
  cases ia : isInf a
  · by_cases ma : mag a = 0
    · rw [hz a na ma, k0 a ma]
      refine ⟨?_, na⟩
      cases ib : isInf b
      · by_cases mb : mag b = 0
        · rw [hz b nb' mb, k0 b mb]; exact Int.le_refl _
        · rw [(hk b nb' pb ib mb).1]; omega
      · rw [hi b nb' pb ib, key_inf ib, pb]; decide
    · obtain ⟨e1, e2⟩ := hk a na pa ia ma
      refine ⟨?_, e2⟩
      cases ib : isInf b
      · by_cases mb : mag b = 0
        · exfalso
          have h1 := vz_le_of_key h
          unfold vz sg at h1
          rw [pa, pb, (va_zero b).2 mb] at h1
          have := va_pos ma
          simp at h1
          omega
        · rw [e1, (hk b nb' pb ib mb).1]
          have h1 := vz_le_of_key h
          unfold vz sg at h1
          rw [pa, pb] at h1
          simp at h1
          have h2 := sqr_le (Nat.mul_le_mul_right (2 ^ 120) h1)
          have h3 := rung_mono (-598) (sqr_ne (Nat.mul_ne_zero (va_pos ma) (by decide))) h2
          omega
      · rw [hi b nb' pb ib, key_inf ib, pb]
        exact (key_bd e2).2
  · have hkey := key_inf ia
    rw [pa] at hkey
    simp only [Bool.false_eq_true, if_false] at hkey
    have ib : isInf b = true := by
      have h3 := (key_bd nb').2
      have h4 : key b = inf := by omega
      unfold key sg at h4
      rw [pb] at h4
      unfold isInf
      simp at h4 ⊢
      omega
    rw [hi a na pa ia, hi b nb' pb ib]
    exact ⟨h, na⟩
def one : Nat := 0x3ff0000000000000
theorem one_mag : mag one = 2 ^ 52 ∧ plc one = -52 ∧ neg one = false ∧ isNaN one = false ∧ isInf one = false ∧ nought one = false := by decide
/-- a finite number in any spelling is itself -/
theorem round_self {x : Nat} (h : x < 2 ^ 64) (hf : x % 2 ^ 63 < inf) (k : Nat) (e : Int) (he : e + k = plc x) : round (neg x) (mag x * 2 ^ k) e false = x := by
  unfold round
  by_cases h0 : mag x = 0
  · rw [h0, Nat.zero_mul, if_pos rfl]; exact zero_word h h0
  · have hk : mag x * 2 ^ k ≠ 0 := Nat.mul_ne_zero h0 (by have := Nat.two_pow_pos k; omega)
    rw [if_neg hk, refRung_eq _ _ hk, rung_scale _ _ _ h0, he, rung_own x hf h0]
    exact word_self h
theorem mul_one {a : Nat} (h : a < 2 ^ 64) (na : isNaN a = false) : dMul a one = a := by
  obtain ⟨o1, o2, o3, o4, o5, o6⟩ := one_mag
  unfold dMul
  rw [o1, o2, o3, o4, o5, o6, na]
  cases ia : isInf a
  · simp only [Bool.false_and, Bool.or_self, Bool.false_eq_true, if_false, Bool.bne_false]
    exact round_self h (fin_lt na ia) 52 _ (by omega)
  · simp only [Bool.and_false, Bool.false_and, Bool.or_self, Bool.false_eq_true, if_false, Bool.bne_false, Bool.or_false, if_true]
    exact inf_word h ia
theorem div_one {a : Nat} (h : a < 2 ^ 64) (na : isNaN a = false) : dDiv a one = a := by
  obtain ⟨o1, o2, o3, o4, o5, o6⟩ := one_mag
  unfold dDiv
  rw [o1, o2, o3, o4, o5, o6, na]
  cases ia : isInf a
  · simp only [Bool.and_false, Bool.or_self, Bool.false_eq_true, if_false, Bool.bne_false, Bool.false_or]
    have e1 : mag a * 2 ^ 120 = mag a * 2 ^ 68 * 2 ^ 52 := by rw [Nat.mul_assoc, ← Nat.pow_add]
    rw [e1, Nat.mul_div_cancel _ (Nat.two_pow_pos 52), Nat.mul_mod_left]
    cases hz : nought a
    · simp only [Bool.false_eq_true, if_false]
      exact round_self h (fin_lt na ia) 68 _ (by omega)
    · simp only [if_true]
      have hm : mag a = 0 := by rw [nought_mag] at hz; simpa using hz
      unfold round
      rw [if_pos rfl]; exact zero_word h hm
  · simp only [Bool.and_false, Bool.or_self, Bool.false_eq_true, if_false, Bool.bne_false, Bool.or_false, if_true]
    exact inf_word h ia
theorem div_self {a : Nat} (na : isNaN a = false) (ia : isInf a = false) (h0 : nought a = false) : dDiv a a = one := by
  have hm : mag a ≠ 0 := by rw [nought_mag] at h0; simpa using h0
  unfold dDiv
  rw [na, ia, h0]
  simp only [Bool.and_self, Bool.or_self, Bool.false_eq_true, if_false, bne_self_eq_false]
  rw [Nat.mul_div_cancel_left _ (by omega), Nat.mul_mod_right, show plc a - 120 - plc a = -120 by omega]
  decide
theorem sub_self {a : Nat} (h : a < 2 ^ 64) (na : isNaN a = false) (ia : isInf a = false) : dSub a a = 0 := by
  obtain ⟨_, h2, h3⟩ := neg_facts h na
  unfold dSub dAdd
  rw [isNaN_mod h3, isInf_mod h3, na, ia, h2, (mag_mod h3).1, (mag_mod h3).2]
  simp
end Go.Proofs.YtffohkpohgkglaaGreat.Nm
