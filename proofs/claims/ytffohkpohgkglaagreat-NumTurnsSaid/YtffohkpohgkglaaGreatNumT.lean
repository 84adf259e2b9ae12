/-
  COMPARISONS by sign and size; the least and the greatest of two.
-/
import Derived.Test.YtffohkpohgkglaaGreatNumS
import Derived.Test.YtffohkpohgkglaaGreatNumN
namespace Go.Proofs.YtffohkpohgkglaaGreat.Nm
set_option linter.unusedVariables false
set_option linter.unusedSimpArgs false
theorem va_lt {a b : Nat} (fa : a % 2 ^ 63 < inf) (fb : b % 2 ^ 63 < inf) : va a < va b ↔ a % 2 ^ 63 < b % 2 ^ 63 := by
  have e1 : a % 2 ^ 63 % 2 ^ 63 = a % 2 ^ 63 := Nat.mod_mod _ _
  have e2 : b % 2 ^ 63 % 2 ^ 63 = b % 2 ^ 63 := Nat.mod_mod _ _
  have h := key_lt_iff (x := a % 2 ^ 63) (y := b % 2 ^ 63) (by rw [e1]; exact fa) (by rw [e2]; exact fb)
  have l1 : a % 2 ^ 63 < 2 ^ 63 := Nat.mod_lt _ (by decide)
  have l2 : b % 2 ^ 63 < 2 ^ 63 := Nat.mod_lt _ (by decide)
  have n1 : neg (a % 2 ^ 63) = false := by unfold neg; rw [decide_eq_false (by omega)]
  have n2 : neg (b % 2 ^ 63) = false := by unfold neg; rw [decide_eq_false (by omega)]
  have k1 : key (a % 2 ^ 63) = ((a % 2 ^ 63 : Nat) : Int) := by unfold key sg; rw [n1, if_neg (by decide), e1]
  have k2 : key (b % 2 ^ 63) = ((b % 2 ^ 63 : Nat) : Int) := by unfold key sg; rw [n2, if_neg (by decide), e2]
  have v1 : vz (a % 2 ^ 63) = (va a : Int) := by
    obtain ⟨m1, p1⟩ := mag_mod e1
    unfold vz va sg
    rw [n1, if_neg (by decide), m1, p1]
  have v2 : vz (b % 2 ^ 63) = (va b : Int) := by
    obtain ⟨m1, p1⟩ := mag_mod e2
    unfold vz va sg
    rw [n2, if_neg (by decide), m1, p1]
  rw [k1, k2, v1, v2] at h
  omega
theorem mxy_lt (a b : Nat) : (mx a b < my a b ↔ va a < va b) ∧ (my a b < mx a b ↔ va b < va a) := by
  have pa := plc_ge a
  have pb := plc_ge b
  have h1 := up_va a (min (plc a) (plc b)) (by omega) (by omega)
  have h2 := up_va b (min (plc a) (plc b)) (by omega) (by omega)
  unfold mx my
  rw [← h1, ← h2]
  have hp := Nat.two_pow_pos (min (plc a) (plc b) + 1074).toNat
  exact ⟨(Nat.mul_lt_mul_right hp).symm, (Nat.mul_lt_mul_right hp).symm⟩
theorem cmp_sizes {a b : Nat} (fa : a % 2 ^ 63 < inf) (fb : b % 2 ^ 63 < inf) : cmpN (mx a b) (my a b) = cmpN (a % 2 ^ 63) (b % 2 ^ 63) := by
  obtain ⟨h1, h2⟩ := mxy_lt a b
  have h3 := va_lt fa fb
  have h4 := va_lt fb fa
  unfold cmpN
  by_cases c1 : a % 2 ^ 63 < b % 2 ^ 63
  · rw [if_pos c1, if_pos (h1.2 (h3.2 c1))]
  · rw [if_neg c1, if_neg (fun h => c1 (h3.1 (h1.1 h)))]
    by_cases c2 : b % 2 ^ 63 < a % 2 ^ 63
    · rw [if_pos c2, if_pos (h2.2 (h4.2 c2))]
    · rw [if_neg c2, if_neg (fun h => c2 (h4.1 (h2.1 h)))]
theorem dCmp_same {a b : Nat} (na : isNaN a = false) (nb' : isNaN b = false) (h : neg a = neg b) : dCmp a b = if neg a then -cmpN (a % 2 ^ 63) (b % 2 ^ 63) else cmpN (a % 2 ^ 63) (b % 2 ^ 63) := by
  unfold dCmp key cmpN sg
  rw [na, nb', ← h]
  cases neg a
  · simp only [Bool.or_self, Bool.false_eq_true, if_false]
    split <;> split <;> (try split) <;> (try split) <;> omega
  · simp only [Bool.or_self, Bool.false_eq_true, if_false, if_true]
    split <;> split <;> (try split) <;> (try split) <;> omega
theorem dCmp_zeros {a b : Nat} (za : nought a = true) (zb : nought b = true) : dCmp a b = 0 := by
  have na := nought_nan za
  have nb' := nought_nan zb
  unfold nought at za zb
  simp at za zb
  unfold dCmp key sg
  rw [na, nb', za, zb]
  simp
theorem dCmp_other {a b : Nat} (na : isNaN a = false) (nb' : isNaN b = false) (hz : (nought a && nought b) = false) (h : neg a ≠ neg b) : dCmp a b = if neg a then -1 else 1 := by
  have hz2 : ¬ (a % 2 ^ 63 = 0 ∧ b % 2 ^ 63 = 0) := by
    unfold nought at hz
    simp at hz
    intro ⟨h1, h2⟩
    exact hz h1 h2
  unfold dCmp key sg
  rw [na, nb']
  cases h1 : neg a <;> cases h2 : neg b
  · rw [h1, h2] at h; exact absurd rfl h
  · simp only [Bool.or_self, Bool.false_eq_true, if_false, if_true]
    split
    · omega
    · split <;> omega
  · simp only [Bool.or_self, Bool.false_eq_true, if_false, if_true]
    split
    · omega
    · split <;> omega
  · rw [h1, h2] at h; exact absurd rfl h
theorem cmpN_inf {a b : Nat} (ia : isInf a = true) (nb' : isNaN b = false) (ib : isInf b = false) : cmpN (a % 2 ^ 63) (b % 2 ^ 63) = 1 ∧ cmpN (b % 2 ^ 63) (a % 2 ^ 63) = -1 := by
  have := fin_lt nb' ib
  unfold isInf at ia
  simp at ia
  rw [ia]
  unfold cmpN
  exact ⟨by rw [if_neg (by omega), if_pos (by omega)], by rw [if_pos (by omega)]⟩
theorem cmpN_infs {a b : Nat} (ia : isInf a = true) (ib : isInf b = true) : cmpN (a % 2 ^ 63) (b % 2 ^ 63) = 0 := by
  unfold isInf at ia ib
  simp at ia ib
  rw [ia, ib]
  unfold cmpN
  rw [if_neg (by omega), if_neg (by omega)]
/-- what the document's comparison comes to -/
def cSize (a b : Nat) : Int := if isInf a then (if isInf b then 0 else 1) else if isInf b then -1 else cmpN (mx a b) (my a b)
theorem cSize_eq {a b : Nat} (na : isNaN a = false) (nb' : isNaN b = false) : cSize a b = cmpN (a % 2 ^ 63) (b % 2 ^ 63) := by
  unfold cSize
  cases ia : isInf a
  · cases ib : isInf b
    · simp only [Bool.false_eq_true, if_false]
      exact cmp_sizes (fin_lt na ia) (fin_lt nb' ib)
    · simp only [Bool.false_eq_true, if_false, if_true]
      exact (cmpN_inf ib na ia).2.symm
  · cases ib : isInf b
    · simp only [Bool.false_eq_true, if_false, if_true]
      exact (cmpN_inf ia nb' ib).1.symm
    · simp only [if_true]
      exact (cmpN_infs ia ib).symm
theorem order_zeros {a b : Nat} (ha : a < 2 ^ 64) (hb : b < 2 ^ 64) (na : isNaN a = false) (nb' : isNaN b = false) (h : dCmp a b = 0) (hne : a ≠ b) : dOrder a b = if neg a then -1 else 1 := by
  have hk : key a = key b := by
    unfold dCmp at h
    rw [na, nb'] at h
    simp only [Bool.or_self, Bool.false_eq_true, if_false] at h
    split at h
    · omega
    split at h
    · omega
    omega
  unfold dOrder rank rising cmpN
  rw [na, nb']
  unfold key sg neg at hk
  unfold neg
  by_cases g1 : 2 ^ 63 ≤ a <;> by_cases g2 : 2 ^ 63 ≤ b <;> simp only [g1, g2, decide_true, decide_false, Bool.false_eq_true, if_true, if_false] at hk ⊢
  · exact absurd (by omega) hne
  · rw [if_pos (by omega)]
  · rw [if_neg (by omega), if_pos (by omega)]
  · exact absurd (by omega) hne
def dMin (a b : Nat) : Nat := if isNaN a && isNaN b then nan else if isNaN a then b else if isNaN b then a else if dCmp b a = -1 then b else a
def dMax (a b : Nat) : Nat := if isNaN a && isNaN b then nan else if isNaN a then b else if isNaN b then a else if dCmp b a = 1 then b else a
theorem cmp_turn (a b : Nat) : dCmp b a = -dCmp a b := by
  unfold dCmp
  rw [Bool.or_comm]
  split
  · rfl
  · split <;> split <;> (try split) <;> (try split) <;> omega
theorem cmp_three (a b : Nat) : dCmp a b = -1 ∨ dCmp a b = 0 ∨ dCmp a b = 1 := by
  unfold dCmp
  split
  · exact .inr (.inl rfl)
  split
  · exact .inl rfl
  split
  · exact .inr (.inr rfl)
  · exact .inr (.inl rfl)
theorem cmp_nan {a b : Nat} (h : isNaN b = true) : dCmp b a = 0 := by unfold dCmp; rw [h]; rfl
end Go.Proofs.YtffohkpohgkglaaGreat.Nm
