/-
  THE LAWS of what a division leaves.
-/
import Derived.Test.YtffohkpohgkglaaGreatNumT
namespace Go.Proofs.YtffohkpohgkglaaGreat.Nm
set_option linter.unusedVariables false
set_option linter.unusedSimpArgs false
open Ieee
theorem va_rung2 (s : Bool) (n : Nat) (e : Int) (h0 : n ≠ 0) (hn : n < 2 ^ 53) (he : -1074 ≤ e) (hm : e + (n.log2 : Nat) ≤ 1023) :
    va (word s (rung n e)) = n * 2 ^ (e + 1074).toNat ∧ word s (rung n e) % 2 ^ 63 < inf := by
  have hL := log2_small hn
  have h1 := Nat.log2_self_le h0
  have h2 : n < 2 ^ (n.log2 + 1) := Nat.lt_log2_self
  have hl1 : last n e ≤ e := by unfold last; omega
  have hl2 : -1074 ≤ last n e := Int.le_max_right _ _
  have hlm : last n e ≤ 971 := by unfold last; omega
  obtain ⟨c, hc⟩ : ∃ c, n * 2 ^ (e - last n e).toNat = c := ⟨_, rfl⟩
  obtain ⟨K, hK⟩ : ∃ K, (last n e + 1074).toNat = K := ⟨_, rfl⟩
  have hv : n * 2 ^ (e + 1074).toNat = c * 2 ^ K := by
    rw [← hc, Nat.mul_assoc, ← Nat.pow_add]
    congr 2; omega
  have hcl : c < 2 ^ 53 := by
    rw [← hc]
    have h3 : n * 2 ^ (e - last n e).toNat < 2 ^ (n.log2 + 1) * 2 ^ (e - last n e).toNat := Nat.mul_lt_mul_of_pos_right h2 (Nat.two_pow_pos _)
    rw [← Nat.pow_add] at h3
    exact Nat.lt_of_lt_of_le h3 (Nat.pow_le_pow_right (by decide) (by unfold last; omega))
  have hcg : K ≠ 0 → 2 ^ 52 ≤ c := by
    intro hk
    rw [← hc]
    have h3 : 2 ^ n.log2 * 2 ^ (e - last n e).toNat ≤ n * 2 ^ (e - last n e).toNat := Nat.mul_le_mul_right _ h1
    rw [← Nat.pow_add] at h3
    exact Nat.le_trans (Nat.pow_le_pow_right (by decide) (by unfold last at hK ⊢; omega)) h3
  have hKm : K ≤ 2045 := by omega
  have hr : rung n e = K * 2 ^ 52 + c := by
    unfold rung
    rw [show (last n e - e).toNat = 0 by omega, cutE_zero, hc, hK]
    refine Nat.min_eq_left ?_
    have := Nat.mul_le_mul_right (2 ^ 52) hKm
    refine Nat.le_trans (Nat.add_le_add this (Nat.le_of_lt hcl)) (by decide)
  have hri : rung n e < inf := by
    rw [hr]
    have := Nat.mul_le_mul_right (2 ^ 52) hKm
    refine Nat.lt_of_lt_of_le (Nat.add_lt_add_of_le_of_lt this hcl) (by decide)
  have hw := word_mod s (Nat.le_of_lt hri)
  refine ⟨?_, by rw [hw]; exact hri⟩
  rw [hv]
  have hwm : word s (rung n e) % 2 ^ 63 = rung n e % 2 ^ 63 := by
    rw [hw, Nat.mod_eq_of_lt (Nat.lt_trans hri (by decide))]
  obtain ⟨m1, m2⟩ := mag_mod hwm
  unfold va
  rw [m1, m2, hr]
  clear hwm hw m1 m2 hri hr hv hc hlm hl1 hl2 h1 h2 hL
  by_cases hk0 : K = 0
  · subst hk0
    rw [Nat.zero_mul, Nat.zero_add, Nat.pow_zero, Nat.mul_one]
    by_cases hc2 : c < 2 ^ 52
    · have e1 : c / 2 ^ 52 % 2048 = 0 := by omega
      have e2 : c % 2 ^ 52 = c := by omega
      unfold mag plc
      rw [e1, if_pos rfl, if_pos rfl, e2]
      have z1 : (-1074 + 1074 : Int).toNat = 0 := rfl
      rw [z1, Nat.pow_zero, Nat.mul_one]
    · have e1 : c / 2 ^ 52 % 2048 = 1 := by omega
      have e2 : c % 2 ^ 52 = c - 2 ^ 52 := by omega
      unfold mag plc
      rw [e1, if_neg (by decide), if_neg (by decide), e2]
      have z1 : (((1 : Nat) : Int) - 1075 + 1074).toNat = 0 := rfl
      rw [z1, Nat.pow_zero, Nat.mul_one]
      omega
  · have hcg := hcg hk0
    have e0 : K * 2 ^ 52 + c = (K + 1) * 2 ^ 52 + (c - 2 ^ 52) := by rw [Nat.add_mul, Nat.one_mul]; omega
    have e1 : (K * 2 ^ 52 + c) / 2 ^ 52 % 2048 = K + 1 := by
      rw [e0, Nat.mul_comm, Nat.mul_add_div (by decide), Nat.div_eq_of_lt (by omega), Nat.add_zero, Nat.mod_eq_of_lt (by omega)]
    have e2 : (K * 2 ^ 52 + c) % 2 ^ 52 = c - 2 ^ 52 := by
      rw [e0, Nat.mul_comm, Nat.mul_add_mod, Nat.mod_eq_of_lt (by omega)]
    unfold mag plc
    rw [e1, e2, if_neg (by omega), if_neg (by omega)]
    rw [show (((K + 1 : Nat) : Int) - 1075 + 1074).toNat = K by omega, show 2 ^ 52 + (c - 2 ^ 52) = c by omega]
theorem fits_left {r b : Nat} (hb : b % 2 ^ 63 < inf) (hr : r < mag b) (h0 : r ≠ 0) : plc b + (r.log2 : Nat) ≤ 1023 := by
  have h1 := plc_log hb
  have h2 := log2_small (Nat.lt_trans hr (mag_lt b))
  omega
theorem mxy_va (a b : Nat) : mx a b * 2 ^ (min (plc a) (plc b) + 1074).toNat = va a ∧ my a b * 2 ^ (min (plc a) (plc b) + 1074).toNat = va b := by
  have pa := plc_ge a
  have pb := plc_ge b
  exact ⟨up_va a (min (plc a) (plc b)) (by omega) (by omega), up_va b (min (plc a) (plc b)) (by omega) (by omega)⟩
theorem my_pos {a b : Nat} (h : nought b = false) : 0 < my a b := by
  rw [nought_mag] at h
  have := of_decide_eq_false h
  unfold my up
  exact Nat.mul_pos (Nat.pos_of_ne_zero this) (Nat.two_pow_pos _)
/-- a finite rest's value -/
theorem rest_va {a b : Nat} (ha : a < 2 ^ 64) (fa : a % 2 ^ 63 < inf) (fb : b % 2 ^ 63 < inf) (zb : nought b = false) :
    va (round (neg a) (mx a b % my a b) (min (plc a) (plc b)) false) = mx a b % my a b * 2 ^ (min (plc a) (plc b) + 1074).toNat ∧ round (neg a) (mx a b % my a b) (min (plc a) (plc b)) false % 2 ^ 63 < inf := by
  by_cases hlt : plc a < plc b
  · obtain ⟨e1, e2⟩ := mod_small hlt
    rw [e1, e2]
    have := round_self (x := a) ha fa 0 (plc a) (by omega)
    rw [Nat.pow_zero, Nat.mul_one] at this
    rw [this]
    exact ⟨rfl, fa⟩
  · obtain ⟨e1, e2⟩ := mod_great (a := a) (b := b) (by omega)
    have hz : mag b ≠ 0 := by
      rw [nought_mag] at zb
      exact of_decide_eq_false zb
    rw [e1, e2]
    have hr : mag a * 2 ^ (plc a - plc b).toNat % mag b < mag b := Nat.mod_lt _ (Nat.pos_of_ne_zero hz)
    generalize mag a * 2 ^ (plc a - plc b).toNat % mag b = r at *
    by_cases h0 : r = 0
    · subst h0
      unfold round
      rw [if_pos rfl, Nat.zero_mul]
      have hw := word_mod (neg a) (r := 0) (Nat.zero_le _)
      obtain ⟨m1, p1⟩ := mag_mod (x := word (neg a) 0) (y := 0) (by rw [hw])
      refine ⟨?_, by rw [hw]; decide⟩
      unfold va
      rw [m1, show mag 0 = 0 by decide, Nat.zero_mul]
    · have hp := plc_ge b
      have := va_rung2 (neg a) r (plc b) h0 (Nat.lt_trans hr (mag_lt b)) hp (fits_left fb hr h0)
      unfold round
      rw [if_neg h0, refRung_eq r (plc b) h0]
      exact this
/-- what is less stays -/
theorem mod_less {m b : Nat} (hm : m < 2 ^ 64) (nm : isNaN m = false) (im : isInf m = false) (nb' : isNaN b = false) (zb : nought b = false) (h : m % 2 ^ 63 < b % 2 ^ 63) : dMod m b = m := by
  unfold dMod
  rw [nm, nb', im, zb]
  simp only [Bool.or_self, Bool.false_eq_true, if_false]
  by_cases ho : (isInf b || nought m) = true
  · rw [if_pos ho]
  · rw [if_neg ho]
    have ib : isInf b = false := by cases hi : isInf b; rfl; rw [hi] at ho; exact absurd rfl ho
    have fm := fin_lt nm im
    have fb := fin_lt nb' ib
    have hx := (mxy_lt m b).1.2 ((va_lt fm fb).2 h)
    rw [Nat.mod_eq_of_lt hx]
    unfold mx up
    have pm := plc_ge m
    exact round_self hm fm (plc m - min (plc m) (plc b)).toNat _ (by omega)
theorem mod_neg {a b : Nat} (hb : b < 2 ^ 64) (nb' : isNaN b = false) : dMod a (dNeg b) = dMod a b := by
  obtain ⟨_, _, h3⟩ := neg_facts hb nb'
  obtain ⟨m1, p1⟩ := mag_mod h3
  have e1 := isNaN_mod h3
  have e2 := isInf_mod h3
  have e3 : nought (dNeg b) = nought b := by unfold nought; rw [h3]
  unfold dMod mx my
  rw [e1, e2, e3, m1, p1]
theorem cmp_lt {x y : Nat} (hx : x < 2 ^ 63) (hy : y < 2 ^ 63) (n1 : isNaN x = false) (n2 : isNaN y = false) (h : x < y) : dCmp x y < 0 := by
  have k : ∀ z : Nat, z < 2 ^ 63 → key z = z := fun z hz => by
    unfold key neg sg
    rw [decide_eq_false (by omega), if_neg (by decide), Nat.mod_eq_of_lt hz]
  unfold dCmp
  rw [n1, n2, k x hx, k y hy]
  simp only [Bool.or_self, Bool.false_eq_true, if_false]
  rw [if_pos (by omega)]; decide
theorem cmp_le2 {x y : Nat} (hx : x < 2 ^ 63) (hy : y < 2 ^ 63) (h : x ≤ y) : dCmp x y ≤ 0 := by
  have k : ∀ z : Nat, z < 2 ^ 63 → key z = z := fun z hz => by
    unfold key neg sg
    rw [decide_eq_false (by omega), if_neg (by decide), Nat.mod_eq_of_lt hz]
  exact cmp_le fun _ _ => by rw [k x hx, k y hy]; omega
/-- the laws -/
theorem mod_laws {a b : Nat} (ha : a < 2 ^ 64) (hb : b < 2 ^ 64) :
    ((isNaN a || isNaN b || isInf a || nought b) = true ∧ dMod a b = nan) ∨
    (isNaN (dMod a b) = false ∧ dCok (dAbs (dMod a b)) (dAbs b) = true ∧ dCok (dAbs (dMod a b)) (dAbs a) = true ∧ dCmp (dAbs (dMod a b)) (dAbs b) < 0 ∧ dCmp (dAbs (dMod a b)) (dAbs a) ≤ 0 ∧ neg (dMod a b) = neg a ∧ dMod (dMod a b) b = dMod a b ∧ dMod a (dNeg b) = dMod a b) := by
  rcases Bool.eq_false_or_eq_true (isNaN a || isNaN b || isInf a || nought b) with hbad | hbad
  · left
    refine ⟨hbad, ?_⟩
    unfold dMod
    rw [hbad, if_pos rfl]
  right
  have hbad2 := hbad
  rw [Bool.or_eq_false_iff, Bool.or_eq_false_iff, Bool.or_eq_false_iff] at hbad2
  obtain ⟨⟨⟨na, nb'⟩, ia⟩, zb⟩ := hbad2
  have fa := fin_lt na ia
  -- what is left is a number, less than the divisor, no more than what was divided, with its sign
  have key1 : isNaN (dMod a b) = false ∧ isInf (dMod a b) = false ∧ dMod a b % 2 ^ 63 < b % 2 ^ 63 ∧ dMod a b % 2 ^ 63 ≤ a % 2 ^ 63 ∧ neg (dMod a b) = neg a := by
    by_cases ho : (isInf b || nought a) = true
    · have e : dMod a b = a := by unfold dMod; rw [hbad, if_neg (by decide), if_pos ho]
      rw [e]
      refine ⟨na, ia, ?_, Nat.le_refl _, rfl⟩
      cases ib : isInf b
      · rw [ib, Bool.false_or] at ho
        unfold nought at ho zb
        simp at ho zb
        omega
      · unfold isInf at ib
        simp at ib
        rw [ib]; exact fa
    · have ho2 : (isInf b || nought a) = false := by simpa using ho
      have ib : isInf b = false := (Bool.or_eq_false_iff.1 ho2).1
      have fb := fin_lt nb' ib
      have e : dMod a b = round (neg a) (mx a b % my a b) (min (plc a) (plc b)) false := by unfold dMod; rw [hbad, ho2, if_neg (by decide), if_neg (by decide)]
      obtain ⟨v1, v2⟩ := rest_va ha fa fb zb
      obtain ⟨x1, x2⟩ := mxy_va a b
      have hy := my_pos (a := a) zb
      have hp := Nat.two_pow_pos (min (plc a) (plc b) + 1074).toNat
      have hr1 : mx a b % my a b < my a b := Nat.mod_lt _ hy
      have hr2 : mx a b % my a b ≤ mx a b := Nat.mod_le _ _
      have hn : neg (round (neg a) (mx a b % my a b) (min (plc a) (plc b)) false) = neg a := word_neg (neg a) (round_le _ _ _)
      rw [e]
      generalize round (neg a) (mx a b % my a b) (min (plc a) (plc b)) false = m at *
      have l1 : va m < va b := by rw [v1, ← x2]; exact Nat.mul_lt_mul_of_pos_right hr1 hp
      have l2 : va m ≤ va a := by rw [v1, ← x1]; exact Nat.mul_le_mul_right _ hr2
      obtain ⟨f1, f2⟩ := fin_nan v2
      refine ⟨f1, f2, (va_lt v2 fb).1 l1, ?_, hn⟩
      refine Decidable.by_contra fun h => ?_
      have := (va_lt fa v2).2 (by omega)
      omega
  obtain ⟨nm, im, l1, l2, hs⟩ := key1
  have hm := (ok_mod a b ha).1
  generalize hM : dMod a b = m at *
  have habs : ∀ x, isNaN x = false → dAbs x = x % 2 ^ 63 ∧ isNaN (dAbs x) = false ∧ dAbs x < 2 ^ 63 := fun x hx => by
    obtain ⟨q1, q2, _⟩ := abs_facts hx
    refine ⟨?_, q2, q1⟩
    unfold dAbs; rw [hx]; rfl
  obtain ⟨am, am2, am3⟩ := habs m nm
  obtain ⟨aa, aa2, aa3⟩ := habs a na
  obtain ⟨ab, ab2, ab3⟩ := habs b nb'
  refine ⟨nm, by unfold dCok; rw [am2, ab2]; rfl, by unfold dCok; rw [am2, aa2]; rfl, cmp_lt am3 ab3 am2 ab2 (by rw [am, ab]; exact l1), cmp_le2 am3 aa3 (by rw [am, aa]; exact l2), hs, mod_less hm nm im nb' zb l1, ?_⟩
  rw [mod_neg hb nb', hM]
end Go.Proofs.YtffohkpohgkglaaGreat.Nm
