/-
  EXACT NUMBERS; differences turned; whole parts.
-/
import Derived.Test.YtffohkpohgkglaaGreatNumH
namespace Go.Proofs.YtffohkpohgkglaaGreat.Nm
open Ieee
/-- what has no more than 53 digits, and is not too great, is there exactly -/
theorem va_rung (s : Bool) (n : Nat) (e : Int) (h0 : n ≠ 0) (hn : n < 2 ^ 53) (he : -1074 ≤ e) (hm : e ≤ 919) :
    va (word s (rung n e)) = n * 2 ^ (e + 1074).toNat ∧ word s (rung n e) % 2 ^ 63 < inf := by
  have hL := log2_small hn
  have h1 := Nat.log2_self_le h0
  have h2 : n < 2 ^ (n.log2 + 1) := Nat.lt_log2_self
  have hl1 : last n e ≤ e := by unfold last; omega
  have hl2 : -1074 ≤ last n e := Int.le_max_right _ _
  have hlm : last n e ≤ 919 := by omega
  obtain ⟨c, hc⟩ : ∃ c, n * 2 ^ (e - last n e).toNat = c := ⟨_, rfl⟩
  obtain ⟨K, hK⟩ : ∃ K, (last n e + 1074).toNat = K := ⟨_, rfl⟩
  have hv : n * 2 ^ (e + 1074).toNat = c * 2 ^ K := by
    rw [← hc, Nat.mul_assoc, ← Nat.pow_add]
    congr 2; omega
  have hcl : c < 2 ^ 53 := by
    rw [← hc]
    have h3 : n * 2 ^ (e - last n e).toNat < 2 ^ (n.log2 + 1) * 2 ^ (e - last n e).toNat := Nat.mul_lt_mul_of_pos_right h2 (Nat.two_pow_pos _)
    rw [← Nat.pow_add] at h3
    exact Nat.lt_of_lt_of_le h3 (Nat.pow_le_pow_right (by decide) (by unfold last; omega))
  have hcg : K ≠ 0 → 2 ^ 52 ≤ c := by
    intro hk
    rw [← hc]
    have h3 : 2 ^ n.log2 * 2 ^ (e - last n e).toNat ≤ n * 2 ^ (e - last n e).toNat := Nat.mul_le_mul_right _ h1
    rw [← Nat.pow_add] at h3
    exact Nat.le_trans (Nat.pow_le_pow_right (by decide) (by unfold last at hK ⊢; omega)) h3
  have hKm : K ≤ 1993 := by omega
  have hr : rung n e = K * 2 ^ 52 + c := by
    unfold rung
    rw [show (last n e - e).toNat = 0 by omega, cutE_zero, hc, hK]
    refine Nat.min_eq_left ?_
    have := Nat.mul_le_mul_right (2 ^ 52) hKm
    refine Nat.le_trans (Nat.add_le_add this (Nat.le_of_lt hcl)) (by decide)
  have hri : rung n e < inf := by
    rw [hr]
    have := Nat.mul_le_mul_right (2 ^ 52) hKm
    refine Nat.lt_of_le_of_lt (Nat.add_le_add this (Nat.le_of_lt hcl)) (by decide)
  have hw := word_mod s (Nat.le_of_lt hri)
  refine ⟨?_, by rw [hw]; exact hri⟩
  rw [hv]
  have hwm : word s (rung n e) % 2 ^ 63 = rung n e % 2 ^ 63 := by
    rw [hw, Nat.mod_eq_of_lt (Nat.lt_trans hri (by decide))]
  obtain ⟨m1, m2⟩ := mag_mod hwm
  unfold va
  rw [m1, m2, hr]
  clear hwm hw m1 m2 hri hr hv hc hlm hl1 hl2 h1 h2 hL
  by_cases hk0 : K = 0
  · subst hk0
    rw [Nat.zero_mul, Nat.zero_add, Nat.pow_zero, Nat.mul_one]
    by_cases hc2 : c < 2 ^ 52
    · have e1 : c / 2 ^ 52 % 2048 = 0 := by omega
      have e2 : c % 2 ^ 52 = c := by omega
      unfold mag plc
      rw [e1, if_pos rfl, if_pos rfl, e2]
      have z1 : (-1074 + 1074 : Int).toNat = 0 := rfl
      rw [z1, Nat.pow_zero, Nat.mul_one]
    · have e1 : c / 2 ^ 52 % 2048 = 1 := by omega
      have e2 : c % 2 ^ 52 = c - 2 ^ 52 := by omega
      unfold mag plc
      rw [e1, if_neg (by decide), if_neg (by decide), e2]
      have z1 : (((1 : Nat) : Int) - 1075 + 1074).toNat = 0 := rfl
      rw [z1, Nat.pow_zero, Nat.mul_one]
      omega
  · have hcg := hcg hk0
    have e0 : K * 2 ^ 52 + c = (K + 1) * 2 ^ 52 + (c - 2 ^ 52) := by rw [Nat.add_mul, Nat.one_mul]; omega
    have e1 : (K * 2 ^ 52 + c) / 2 ^ 52 % 2048 = K + 1 := by
      rw [e0, Nat.mul_comm, Nat.mul_add_div (by decide), Nat.div_eq_of_lt (by omega), Nat.add_zero, Nat.mod_eq_of_lt (by omega)]
    have e2 : (K * 2 ^ 52 + c) % 2 ^ 52 = c - 2 ^ 52 := by
      rw [e0, Nat.mul_comm, Nat.mul_add_mod, Nat.mod_eq_of_lt (by omega)]
    unfold mag plc
    rw [e1, e2, if_neg (by omega), if_neg (by omega)]
    rw [show (((K + 1 : Nat) : Int) - 1075 + 1074).toNat = K by omega, show 2 ^ 52 + (c - 2 ^ 52) = c by omega]
theorem neg_zero_facts : dNeg 0 = 2 ^ 63 ∧ mag (2 ^ 63) = 0 ∧ plc (2 ^ 63) = -1074 ∧ neg (2 ^ 63) = true ∧ isNaN (2 ^ 63) = false ∧ isInf (2 ^ 63) = false := by decide
theorem sub_zero {a : Nat} (h : a < 2 ^ 64) (na : isNaN a = false) : dSub a 0 = a := by
  obtain ⟨z0, z1, z2, z3, z4, z5⟩ := neg_zero_facts
  unfold dSub
  rw [z0]
  unfold dAdd
  rw [z1, z2, z3, z4, z5, na]
  cases ia : isInf a
  · simp only [Bool.and_false, Bool.false_and, Bool.or_self, Bool.false_eq_true, if_false]
    have hp := plc_ge a
    rw [show min (plc a) (-1074) = -1074 by omega]
    have hu0 : up 0 (-1074 - -1074) = 0 := by decide
    rw [hu0]
    have hs := round_self h (fin_lt na ia) (plc a - -1074).toNat (-1074) (by omega)
    by_cases hn : neg a = true
    · rw [if_pos hn, Nat.add_zero]; exact hs
    · rw [if_neg hn]
      have hn2 : neg a = false := by simpa using hn
      by_cases h0 : mag a = 0
      · have : up (mag a) (plc a - -1074) = 0 := by unfold up; rw [h0, Nat.zero_mul]
        rw [if_pos this]
        have := zero_word h h0
        rw [hn2] at this
        exact this
      · have hpos : 0 < up (mag a) (plc a - -1074) := Nat.mul_pos (by omega) (Nat.two_pow_pos _)
        rw [if_neg (by omega), if_pos hpos, Nat.sub_zero]
        exact hs
  · simp
theorem neg_word (s : Bool) {r : Nat} (h : r ≤ inf) : dNeg (word s r) = word (!s) r := by
  have hr : r < 2 ^ 63 := Nat.lt_of_le_of_lt h (by decide)
  unfold dNeg
  rw [word_nan s h, word_neg s h]
  unfold word
  cases s <;> simp <;> omega
/-- a difference turned, unless it is nothing -/
theorem sub_turn {a b : Nat} (ha : a < 2 ^ 64) (hb : b < 2 ^ 64) : dSub a b = dNeg (dSub b a) ∨ (dSub a b = 0 ∧ dSub b a = 0) := by
  have nn : dNeg nan = nan := by decide
  have nl : ∀ x y : Nat, isNaN x = true → dAdd x y = nan := fun x y hx => by unfold dAdd; rw [hx]; simp
  have nr : ∀ x y : Nat, isNaN y = true → dAdd x y = nan := fun x y hy => by unfold dAdd; rw [hy]; simp
  have nd : ∀ x : Nat, isNaN x = true → isNaN (dNeg x) = true := fun x hx => by unfold dNeg; rw [hx, if_pos rfl]; exact nan_nan
  cases na : isNaN a
  · cases nb' : isNaN b
    · obtain ⟨a1, a2, a3⟩ := neg_facts ha na
      obtain ⟨b1, b2, b3⟩ := neg_facts hb nb'
      have ma := mag_mod a3
      have mb := mag_mod b3
      have ia' := isInf_mod a3
      have ib' := isInf_mod b3
      have na' := isNaN_mod a3
      have nb'' := isNaN_mod b3
      unfold dSub
      cases ia : isInf a
      · cases ib : isInf b
        · unfold dAdd
          rw [na', nb'', ia', ib', na, nb', ia, ib, a2, b2, ma.1, ma.2, mb.1, mb.2, Int.min_comm (plc b) (plc a)]
          simp only [Bool.or_self, Bool.false_and, Bool.false_eq_true, if_false]
          generalize min (plc a) (plc b) = e
          generalize up (mag a) (plc a - e) = x
          generalize up (mag b) (plc b - e) = y
          have hrn : ∀ (s : Bool) (n : Nat), dNeg (round s n e false) = round (!s) n e false := fun s n => neg_word s (round_le n e false)
          by_cases hs : neg a = !neg b
          · left
            rw [if_pos hs, if_pos (by rw [hs, Bool.not_not]), hrn, Nat.add_comm, hs]
          · have hs2 : neg a = neg b := by cases h1 : neg a <;> cases h2 : neg b <;> simp_all
            rw [if_neg hs, if_neg (show ¬ neg b = !neg a from by rw [hs2]; cases neg b <;> simp)]
            by_cases hxy : x = y
            · right; rw [if_pos hxy, if_pos hxy.symm]; exact ⟨rfl, rfl⟩
            · left
              rw [if_neg hxy, if_neg (show ¬ y = x from fun h => hxy h.symm)]
              by_cases h3 : y < x
              · rw [if_pos h3, if_neg (by omega), hrn, Bool.not_not]
              · rw [if_neg h3, if_pos (by omega), hrn]
        · left
          have e1 : dAdd a (dNeg b) = dNeg b := by unfold dAdd; rw [na, nb'', nb', ia, ib', ib]; simp
          have e2 : dAdd b (dNeg a) = b := by unfold dAdd; rw [na', na, nb', ia', ia, ib]; simp
          rw [e1, e2]
      · cases ib : isInf b
        · left
          have e1 : dAdd a (dNeg b) = a := by unfold dAdd; rw [na, nb'', nb', ia, ib', ib]; simp
          have e2 : dAdd b (dNeg a) = dNeg a := by unfold dAdd; rw [na', na, nb', ia', ia, ib]; simp
          rw [e1, e2, dNeg_neg ha na]
        · left
          have h1 := inf_same ha b1 ia (by rw [ib', ib])
          have h2 := inf_same hb a1 ib (by rw [ia', ia])
          have e3 : neg a = !neg b → a = dNeg b := fun hs => by
            have e4 := inf_word b1 (show isInf (dNeg b) = true by rw [ib', ib])
            rw [← inf_word ha ia, ← e4, b2, hs]
          have e5 : neg a = !neg b → dNeg (dNeg a) = dNeg b := fun hs => by rw [dNeg_neg ha na]; exact e3 hs
          unfold dAdd
          rw [na', nb'', ia', ib', na, nb', ia, ib, h1, h2, a2, b2]
          cases p : neg a <;> cases r : neg b <;> simp only [p, r, Bool.not_true, Bool.not_false, Bool.false_eq_true, Bool.true_eq_false, bne_self_eq_false, Bool.or_self, Bool.and_false, Bool.and_self, Bool.false_or, if_false, if_true, true_implies] at e3 ⊢
          · exact nn.symm
          · rw [← e3]
          · rw [← e3]
          · exact nn.symm
    · left; unfold dSub; rw [nr _ _ (nd b nb'), nl _ _ nb', nn]
  · left; unfold dSub; rw [nl _ _ na, nr _ _ (nd a na), nn]
end Go.Proofs.YtffohkpohgkglaaGreat.Nm
