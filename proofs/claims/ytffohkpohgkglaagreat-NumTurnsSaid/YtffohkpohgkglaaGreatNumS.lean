/-
  WHAT A DIVISION LEAVES; a number times a power of two.
-/
import Derived.Test.YtffohkpohgkglaaGreatNumR
namespace Go.Proofs.YtffohkpohgkglaaGreat.Nm
set_option linter.unusedVariables false
set_option linter.unusedSimpArgs false
open Ieee
/-- a whole number's bits -/
def fl (m : Nat) : Nat := round false m 0 false
theorem word_false (r : Nat) : word false r = r := by unfold word; rw [if_neg (by decide)]
theorem round_pos (n : Nat) (e : Int) (h : n ≠ 0) : round false n e false = rung n e := by
  unfold round
  rw [if_neg h, word_false, refRung_eq n e h]
theorem shl_bounds {m L : Nat} (h1 : 2 ^ L ≤ m) (h2 : m < 2 ^ (L + 1)) (hL : L ≤ 52) : 2 ^ 52 ≤ m * 2 ^ (52 - L) ∧ m * 2 ^ (52 - L) < 2 ^ 53 := by
  have e1 : (2 : Nat) ^ 52 = 2 ^ L * 2 ^ (52 - L) := by rw [← Nat.pow_add]; congr 1; omega
  have e2 : (2 : Nat) ^ 53 = 2 ^ (L + 1) * 2 ^ (52 - L) := by rw [← Nat.pow_add]; congr 1; omega
  rw [e1, e2]
  exact ⟨Nat.mul_le_mul_right _ h1, Nat.mul_lt_mul_of_pos_right h2 (Nat.two_pow_pos _)⟩
theorem fl_parts {m : Nat} (h0 : m ≠ 0) (hm : m < 2 ^ 53) : ∃ L, L ≤ 52 ∧ 2 ^ L ≤ m ∧ m < 2 ^ (L + 1) ∧ m.log2 = L ∧ fl m = (L + 1023) * 2 ^ 52 + (m * 2 ^ (52 - L) - 2 ^ 52) := by
  have hL := log2_small hm
  have h1 := Nat.log2_self_le h0
  have h2 : m < 2 ^ (m.log2 + 1) := Nat.lt_log2_self
  refine ⟨m.log2, hL, h1, h2, rfl, ?_⟩
  obtain ⟨b1, b2⟩ := shl_bounds h1 h2 hL
  unfold fl
  rw [round_pos m 0 h0]
  unfold rung last
  generalize m.log2 = L at *
  have hl : max ((0 : Int) + (L : Nat) - 52) (-1074) = (L : Int) - 52 := by omega
  rw [hl, show (0 - ((L : Int) - 52)).toNat = 52 - L by omega, show ((L : Int) - 52 - 0).toNat = 0 by omega, show ((L : Int) - 52 + 1074).toNat = L + 1022 by omega, cutE_zero]
  generalize m * 2 ^ (52 - L) = M at *
  rw [Nat.min_eq_left (by omega)]
  omega
/-- a number with another exponent -/
theorem mk_parts (t F : Nat) (ht1 : 1 ≤ t) (ht2 : t ≤ 2046) (hF : F < 2 ^ 52) : mag (t * 2 ^ 52 + F) = 2 ^ 52 + F ∧ plc (t * 2 ^ 52 + F) = (t : Int) - 1075 ∧ neg (t * 2 ^ 52 + F) = false ∧ isNaN (t * 2 ^ 52 + F) = false ∧ isInf (t * 2 ^ 52 + F) = false ∧ nought (t * 2 ^ 52 + F) = false ∧ t * 2 ^ 52 + F < 2 ^ 63 := by
  have e1 : (t * 2 ^ 52 + F) / 2 ^ 52 = t := by omega
  have e2 : (t * 2 ^ 52 + F) % 2 ^ 52 = F := by omega
  have e3 : t % 2048 = t := Nat.mod_eq_of_lt (by omega)
  refine ⟨?_, ?_, ?_, ?_, ?_, ?_, by omega⟩
  · unfold mag; rw [e1, e2, e3, if_neg (by omega)]
  · unfold plc; rw [e1, e3, if_neg (by omega)]
  · unfold neg; rw [decide_eq_false (by omega)]
  · unfold isNaN inf; rw [decide_eq_false (by omega)]
  · unfold isInf inf; rw [decide_eq_false (by omega)]
  · unfold nought; rw [decide_eq_false (by omega)]
def tiny : Nat := 4368491638549381120
theorem tiny_facts : mag tiny = 2 ^ 52 ∧ plc tiny = -105 ∧ neg tiny = false ∧ isNaN tiny = false ∧ isInf tiny = false ∧ nought tiny = false := by decide
set_option maxRecDepth 10000 in
theorem ld_value {m L : Nat} {f : Int} (h0 : m ≠ 0) (hL : L ≤ 52) (h1 : 2 ^ L ≤ m) (h2 : m < 2 ^ (L + 1)) (c t : Nat) (hc : (c = one ∧ (t : Int) = f + L + 1023) ∨ (c = tiny ∧ (t : Int) = f + L + 53 + 1023)) (ht1 : 1 ≤ t) (ht2 : t ≤ 2046) :
    dMul c (t * 2 ^ 52 + (m * 2 ^ (52 - L) - 2 ^ 52)) = round false m f false := by
  obtain ⟨b1, b2⟩ := shl_bounds h1 h2 hL
  obtain ⟨p1, p2, p3, p4, p5, p6, p7⟩ := mk_parts t (m * 2 ^ (52 - L) - 2 ^ 52) ht1 ht2 (by omega)
  obtain ⟨o1, o2, o3, o4, o5, o6⟩ := one_mag
  obtain ⟨q1, q2, q3, q4, q5, q6⟩ := tiny_facts
  have hM : 2 ^ 52 + (m * 2 ^ (52 - L) - 2 ^ 52) = m * 2 ^ (52 - L) := by omega
  rw [hM] at p1
  generalize hy : t * 2 ^ 52 + (m * 2 ^ (52 - L) - 2 ^ 52) = y at *
  have hcm : mag c = 4503599627370496 ∧ neg c = false ∧ isNaN c = false ∧ isInf c = false ∧ nought c = false ∧ plc c + plc y = f - ((104 - L : Nat) : Int) := by
    rcases hc with ⟨hc, ht⟩ | ⟨hc, ht⟩
    · refine ⟨(congrArg mag hc).trans o1, (congrArg neg hc).trans o3, (congrArg isNaN hc).trans o4, (congrArg isInf hc).trans o5, (congrArg nought hc).trans o6, ?_⟩
      rw [(congrArg plc hc).trans o2, p2]; clear hy p1 hM b1 b2 h1 h2 p3 p4 p5 p6 p7; omega
    · refine ⟨(congrArg mag hc).trans q1, (congrArg neg hc).trans q3, (congrArg isNaN hc).trans q4, (congrArg isInf hc).trans q5, (congrArg nought hc).trans q6, ?_⟩
      rw [(congrArg plc hc).trans q2, p2]; clear hy p1 hM b1 b2 h1 h2 p3 p4 p5 p6 p7; omega
  obtain ⟨c1, c2, c3, c4, c5, c6⟩ := hcm
  unfold dMul
  rw [c2, c3, c4, c5, p3, p4, p5, p6, c1, p1, c6]
  simp only [Bool.or_self, Bool.and_false, Bool.false_eq_true, if_false, bne_self_eq_false]
  have e : 4503599627370496 * (m * 2 ^ (52 - L)) = m * 2 ^ (104 - L) := by
    rw [show (4503599627370496 : Nat) = 2 ^ 52 from rfl, Nat.mul_left_comm, ← Nat.pow_add, show 52 + (52 - L) = 104 - L by omega]
  rw [e]
  have hne : m * 2 ^ (104 - L) ≠ 0 := Nat.mul_ne_zero h0 (by have := Nat.two_pow_pos (104 - L); omega)
  have hf : f - ((104 - L : Nat) : Int) + ((104 - L : Nat) : Int) = f := Int.sub_add_cancel _ _
  rw [round_pos _ _ hne, round_pos m f h0, rung_scale m (104 - L) _ h0, hf]
/-- what is left -/
def mx (a b : Nat) : Nat := up (mag a) (plc a - min (plc a) (plc b))
def my (a b : Nat) : Nat := up (mag b) (plc b - min (plc a) (plc b))
def dMod (a b : Nat) : Nat :=
  if isNaN a || isNaN b || isInf a || nought b then nan
  else if isInf b || nought a then a
  else round (neg a) (mx a b % my a b) (min (plc a) (plc b)) false
theorem ok_mod (a b : Nat) (ha : a < 2 ^ 64) : Ok (dMod a b) := by
  unfold dMod
  split
  · exact ok_nan
  split
  · rename_i h1 h2
    refine ok_of ha ?_
    cases h : isNaN a
    · rfl
    · rw [h] at h1; simp at h1
  · exact ok_round _ _ _ _
theorem plc_big {b : Nat} (h : -1074 < plc b) : 2 ^ 52 ≤ mag b := by
  unfold plc at h
  unfold mag
  split at h
  · omega
  · rename_i h1
    rw [if_neg h1]; omega
/-- nothing is taken away where the divisor's last place lies higher -/
theorem mod_small {a b : Nat} (h : plc a < plc b) : mx a b % my a b = mag a ∧ min (plc a) (plc b) = plc a := by
  have hm : min (plc a) (plc b) = plc a := by omega
  refine ⟨?_, hm⟩
  unfold mx my up
  rw [hm, show (plc a - plc a).toNat = 0 by omega, Nat.pow_zero, Nat.mul_one]
  refine Nat.mod_eq_of_lt ?_
  have h1 := plc_big (b := b) (by have := plc_ge a; omega)
  have h2 := mag_lt a
  obtain ⟨k, hk⟩ : ∃ k, (plc b - plc a).toNat = k + 1 := ⟨(plc b - plc a).toNat - 1, by omega⟩
  rw [hk, Nat.pow_succ]
  have h3 := Nat.two_pow_pos k
  have h4 : 2 ^ 52 * (1 * 2) ≤ mag b * (2 ^ k * 2) := Nat.mul_le_mul h1 (Nat.mul_le_mul_right 2 h3)
  omega
theorem mod_great {a b : Nat} (h : plc b ≤ plc a) : mx a b % my a b = mag a * 2 ^ (plc a - plc b).toNat % mag b ∧ min (plc a) (plc b) = plc b := by
  have hm : min (plc a) (plc b) = plc b := by omega
  refine ⟨?_, hm⟩
  unfold mx my up
  rw [hm, show (plc b - plc b).toNat = 0 by omega, Nat.pow_zero, Nat.mul_one]
theorem log2_mono' {a b : Nat} (h0 : a ≠ 0) (h : a ≤ b) : a.log2 ≤ b.log2 := log2_mono h0 h
/-- a number below 2^1024 -/
theorem plc_log {b : Nat} (hf : b % 2 ^ 63 < inf) : plc b ≤ 971 := by
  unfold plc
  split
  · decide
  · have : b / 2 ^ 52 % 2048 ≤ 2046 := by unfold inf at hf; omega
    omega
end Go.Proofs.YtffohkpohgkglaaGreat.Nm
