/-
  WHOLE PARTS: not above, not below, at most one apart; what is whole stays.
-/
import Derived.Test.YtffohkpohgkglaaGreatNumI
namespace Go.Proofs.YtffohkpohgkglaaGreat.Nm
open Ieee
/-- one, in units of the least -/
@[irreducible] def U : Nat := 2 ^ 1074
theorem U_eq (k : Nat) (h : k = 1074) : 2 ^ k = U := by subst h; unfold U; rfl
theorem U_ex : ∃ k, U = 2 ^ k ∧ k = 1074 := ⟨1074, by unfold U; rfl, rfl⟩
theorem U_pos : 0 < U := by
  obtain ⟨k, h, _⟩ := U_ex
  rw [h]; exact Nat.two_pow_pos k
/-- a whole number with a sign -/
def whl (s : Bool) (n : Nat) : Nat := round s n 0 false
theorem whl_facts (s : Bool) (n : Nat) (hn : n < 2 ^ 53) : va (whl s n) = n * U ∧ whl s n % 2 ^ 63 < inf ∧ neg (whl s n) = s ∧ whl s n < 2 ^ 64 := by
  refine ⟨?_, ?_, word_neg s (round_le n 0 false), round_lt s n 0 false⟩
  · by_cases h0 : n = 0
    · subst h0
      unfold whl round
      rw [if_pos rfl, Nat.zero_mul, va_zero]
      cases s <;> decide
    · unfold whl round
      rw [if_neg h0, refRung_eq _ _ h0]
      rw [(va_rung s n 0 h0 hn (by omega) (by omega)).1, U_eq ((0 : Int) + 1074).toNat rfl]
  · by_cases h0 : n = 0
    · subst h0
      unfold whl round
      rw [if_pos rfl]
      cases s <;> decide
    · unfold whl round
      rw [if_neg h0, refRung_eq _ _ h0]
      exact (va_rung s n 0 h0 hn (by omega) (by omega)).2
theorem fin_nan {x : Nat} (h : x % 2 ^ 63 < inf) : isNaN x = false ∧ isInf x = false := by
  unfold isNaN isInf
  simp
  omega
/-- what is whole stays -/
theorem step_whole {x n : Nat} (hx : x < 2 ^ 64) (hf : x % 2 ^ 63 < inf) (hv : va x = n * U) (one : Bool) : dStep x one = x := by
  obtain ⟨h1, h2⟩ := fin_nan hf
  unfold dStep
  rw [h1, h2]
  simp only [Bool.false_eq_true, if_false]
  by_cases hp : 0 ≤ plc x
  · rw [if_pos hp]
    exact round_self hx hf (plc x).toNat 0 (by omega)
  · rw [if_neg hp]
    have hpl := plc_ge x
    obtain ⟨d, hd⟩ : ∃ d, (-plc x).toNat = d := ⟨_, rfl⟩
    rw [hd]
    have hm : mag x = n * 2 ^ d := by
      unfold va at hv
      have e : n * U = n * 2 ^ d * 2 ^ (plc x + 1074).toNat := by
        rw [Nat.mul_assoc, ← Nat.pow_add, U_eq _ (by omega)]
      rw [e] at hv
      exact Nat.eq_of_mul_eq_mul_right (Nat.two_pow_pos _) hv
    have e1 : mag x / 2 ^ d = n := by rw [hm, Nat.mul_div_cancel _ (Nat.two_pow_pos d)]
    have e2 : mag x % 2 ^ d = 0 := by rw [hm, Nat.mul_mod_left]
    rw [e1, e2]
    have e3 : (one && (0 : Nat) != 0).toNat = 0 := by cases one <;> rfl
    rw [e3, Nat.add_zero]
    have e4 := round_self hx hf 0 (plc x) (by omega)
    have e5 : round (neg x) n 0 false = round (neg x) (mag x * 2 ^ 0) (plc x) false := by
      have e6 : n * 2 ^ ((0 : Int) + 1074).toNat = n * 2 ^ d * 2 ^ (plc x + 1074).toNat := by
        rw [Nat.mul_assoc, ← Nat.pow_add, U_eq ((0 : Int) + 1074).toNat rfl, U_eq (d + (plc x + 1074).toNat) (by omega)]
      rw [round_va _ _ _ (by omega), round_va _ _ _ hpl, hm, Nat.pow_zero, Nat.mul_one, e6]
    rw [e5]; exact e4
/-- a number that is not whole lies between two that are -/
theorem step_parts {a : Nat} (ha : a < 2 ^ 64) (hf : a % 2 ^ 63 < inf) :
    (∀ one, dStep a one = a) ∨ (∃ w, w < 2 ^ 52 ∧ w * U < va a ∧ va a < (w + 1) * U ∧ dStep a true = whl (neg a) (w + 1) ∧ dStep a false = whl (neg a) w) := by
  obtain ⟨h1, h2⟩ := fin_nan hf
  by_cases hp : 0 ≤ plc a
  · left
    intro one
    unfold dStep
    rw [h1, h2]
    simp only [Bool.false_eq_true, if_false]
    rw [if_pos hp]
    exact round_self ha hf (plc a).toNat 0 (by omega)
  · have hpl := plc_ge a
    obtain ⟨d, hd⟩ : ∃ d, (-plc a).toNat = d := ⟨_, rfl⟩
    have e0 : U = 2 ^ d * 2 ^ (plc a + 1074).toNat := by rw [← Nat.pow_add]; exact (U_eq _ (by omega)).symm
    have hdm := Nat.div_add_mod (mag a) (2 ^ d)
    have hT := Nat.two_pow_pos (plc a + 1074).toNat
    by_cases hr : mag a % 2 ^ d = 0
    · left
      intro one
      refine step_whole ha hf (n := mag a / 2 ^ d) ?_ one
      rw [e0, ← Nat.mul_assoc]
      unfold va
      congr 1
      rw [Nat.mul_comm]; omega
    · right
      refine ⟨mag a / 2 ^ d, ?_, ?_, ?_, ?_, ?_⟩
      · have hm := mag_lt a
        have hd1 : 2 ^ 1 ≤ 2 ^ d := Nat.pow_le_pow_right (by decide) (by omega)
        refine (Nat.div_lt_iff_lt_mul (Nat.two_pow_pos d)).2 ?_
        exact Nat.lt_of_lt_of_le hm (Nat.mul_le_mul_left (2 ^ 52) hd1)
      · rw [e0, ← Nat.mul_assoc]
        unfold va
        refine Nat.mul_lt_mul_of_pos_right ?_ hT
        rw [Nat.mul_comm]; omega
      · rw [e0, ← Nat.mul_assoc]
        unfold va
        refine Nat.mul_lt_mul_of_pos_right ?_ hT
        have := Nat.mod_lt (mag a) (Nat.two_pow_pos d)
        rw [Nat.add_mul, Nat.one_mul, Nat.mul_comm (mag a / 2 ^ d)]; omega
      · unfold dStep whl
        rw [h1, h2]
        simp only [Bool.false_eq_true, if_false, Bool.true_and]
        rw [if_neg hp, hd]
        have : (mag a % 2 ^ d != 0).toNat = 1 := by simp [hr]
        rw [this]
      · unfold dStep whl
        rw [h1, h2]
        simp only [Bool.false_eq_true, if_false, Bool.false_and]
        rw [if_neg hp, hd]
        rfl
theorem key_le_of_vz {x y : Nat} (hx : x % 2 ^ 63 < inf) (hy : y % 2 ^ 63 < inf) (h : vz x ≤ vz y) : key x ≤ key y := by
  rw [key_own x hx, key_own y hy]; exact keyZ_mono h
theorem vz_neg {x : Nat} (h : x < 2 ^ 64) (hn : isNaN x = false) : vz (dNeg x) = -vz x := by
  obtain ⟨_, h2, h3⟩ := neg_facts h hn
  unfold vz va
  rw [h2, (mag_mod h3).1, (mag_mod h3).2]
  unfold sg
  cases neg x <;> simp
def dFloor (a : Nat) : Nat := dStep a (neg a)
def dCeil (a : Nat) : Nat := dStep a (!neg a)
def dTrunc (a : Nat) : Nat := dStep a false
theorem one_key : keyZ (U : Int) = key one := by
  have h := key_own one (by decide)
  have h2 : vz one = U := by
    have : va one = U := by
      unfold va
      rw [one_mag.1, one_mag.2.1, ← Nat.pow_add, U_eq _ (by rfl)]
    unfold vz
    rw [this, one_mag.2.2.1]
    rfl
  rw [h, h2]
theorem lt_next {w : Nat} (h : w < 2 ^ 52) : w + 1 < 2 ^ 53 := by omega
theorem gap1 (x u : Nat) : ((x + u : Nat) : Int) + -((x : Nat) : Int) ≤ u := by omega
theorem gap2 (x u : Nat) : -((x : Nat) : Int) + -(-((x + u : Nat) : Int)) ≤ u := by omega
theorem zero_le_one : key 0 ≤ key one := by decide
theorem zero_no_nan : isNaN 0 = false := by decide
theorem sg_pos (x : Nat) : sg false x = (x : Int) := by unfold sg; rw [if_neg (by decide)]
theorem sg_ng (x : Nat) : sg true x = -(x : Int) := by unfold sg; rw [if_pos rfl]
/-- the laws of whole parts, of what is finite -/
theorem steps_fin {a : Nat} (ha : a < 2 ^ 64) (hf : a % 2 ^ 63 < inf) :
    key (dFloor a) ≤ key a ∧ key a ≤ key (dCeil a) ∧ key (dSub (dCeil a) (dFloor a)) ≤ key one ∧ dFloor (dFloor a) = dFloor a ∧ dCeil (dFloor a) = dFloor a ∧ dTrunc (dCeil a) = dCeil a ∧ (dTrunc a % 2 ^ 63 ≤ a % 2 ^ 63) ∧ (dTrunc a = dFloor a ∨ dTrunc a = dCeil a) ∧ isNaN (dFloor a) = false ∧ isNaN (dCeil a) = false ∧ isNaN (dTrunc a) = false ∧ isNaN (dSub (dCeil a) (dFloor a)) = false := by
  obtain ⟨na, ia⟩ := fin_nan hf
  rcases step_parts ha hf with h | ⟨w, hw, l1, l2, h1, h2⟩
  · have e1 : dFloor a = a := h _
    have e2 : dCeil a = a := h _
    have e3 : dTrunc a = a := h _
    rw [e1, e2, e3, e1, sub_self ha na ia]
    exact ⟨Int.le_refl _, Int.le_refl _, zero_le_one, rfl, rfl, rfl, Nat.le_refl _, .inl rfl, na, na, na, zero_no_nan⟩
  · obtain ⟨p1, p2, p3, p4⟩ := whl_facts (neg a) w (Nat.lt_of_succ_lt (lt_next hw))
    obtain ⟨q1, q2, q3, q4⟩ := whl_facts (neg a) (w + 1) (lt_next hw)
    obtain ⟨pn, pi⟩ := fin_nan p2
    obtain ⟨qn, qi⟩ := fin_nan q2
    have t1 : dTrunc a = whl (neg a) w := h2
    have sm : ∀ one, dStep (whl (neg a) w) one = whl (neg a) w := step_whole p4 p2 p1
    have sq : ∀ one, dStep (whl (neg a) (w + 1)) one = whl (neg a) (w + 1) := step_whole q4 q2 q1
    have ok := one_key
    generalize U = u at *
    have hpow : (w + 1) * u = w * u + u := by rw [Nat.add_mul, Nat.one_mul]
    have habs : ∀ x y : Nat, x % 2 ^ 63 < inf → y % 2 ^ 63 < inf → va x ≤ va y → x % 2 ^ 63 ≤ y % 2 ^ 63 := fun x y hx hy hv => by
      rw [← rungN_va x hx, ← rungN_va y hy]; exact rungN_mono hv
    have hk7 : whl (neg a) w % 2 ^ 63 ≤ a % 2 ^ 63 := habs _ _ p2 hf (by rw [p1]; exact Nat.le_of_lt l1)
    cases hn : neg a
    · rw [hn] at p1 p2 p3 p4 q1 q2 q3 q4 pn pi qn qi t1 sm sq h1 h2 hk7
      have e1 : dFloor a = whl false w := by unfold dFloor; rw [hn]; exact h2
      have e2 : dCeil a = whl false (w + 1) := by unfold dCeil; rw [hn]; exact h1
      obtain ⟨r1, r2, r3⟩ := neg_facts p4 pn
      have va1 : vz (whl false w) = (w * u : Nat) := by unfold vz; rw [p1, p3, sg_pos]
      have va2 : vz (whl false (w + 1)) = ((w + 1) * u : Nat) := by unfold vz; rw [q1, q3, sg_pos]
      have va3 : vz a = va a := by unfold vz; rw [hn, sg_pos]
      rw [e1, e2, t1]
      refine ⟨key_le_of_vz p2 hf (by rw [va1, va3]; exact Int.ofNat_le.2 (Nat.le_of_lt l1)), key_le_of_vz hf q2 (by rw [va2, va3]; exact Int.ofNat_le.2 (Nat.le_of_lt l2)), ?_, sm _, sm _, sq _, hk7, .inl rfl, pn, qn, pn, ?_⟩
      · unfold dSub
        rw [dAdd_key _ _ qn (by rw [isNaN_mod r3]; exact pn) qi (by rw [isInf_mod r3]; exact pi), vz_neg p4 pn, va1, va2, ← ok]
        refine keyZ_mono ?_
        rw [hpow]
        exact gap1 _ _
      · exact dAdd_nan qn (by rw [isNaN_mod r3]; exact pn) (by rw [qi, Bool.false_and, Bool.false_and])
    · rw [hn] at p1 p2 p3 p4 q1 q2 q3 q4 pn pi qn qi t1 sm sq h1 h2 hk7
      have e1 : dFloor a = whl true (w + 1) := by unfold dFloor; rw [hn]; exact h1
      have e2 : dCeil a = whl true w := by unfold dCeil; rw [hn]; exact h2
      obtain ⟨r1, r2, r3⟩ := neg_facts q4 qn
      have va1 : vz (whl true w) = -((w * u : Nat) : Int) := by unfold vz; rw [p1, p3, sg_ng]
      have va2 : vz (whl true (w + 1)) = -(((w + 1) * u : Nat) : Int) := by unfold vz; rw [q1, q3, sg_ng]
      have va3 : vz a = -(va a : Int) := by unfold vz; rw [hn, sg_ng]
      rw [e1, e2, t1]
      refine ⟨key_le_of_vz q2 hf (by rw [va2, va3]; exact Int.neg_le_neg (Int.ofNat_le.2 (Nat.le_of_lt l2))), key_le_of_vz hf p2 (by rw [va1, va3]; exact Int.neg_le_neg (Int.ofNat_le.2 (Nat.le_of_lt l1))), ?_, sq _, sq _, sm _, hk7, .inr rfl, qn, pn, pn, ?_⟩
      · unfold dSub
        rw [dAdd_key _ _ pn (by rw [isNaN_mod r3]; exact qn) pi (by rw [isInf_mod r3]; exact qi), vz_neg q4 qn, va1, va2, ← ok]
        refine keyZ_mono ?_
        rw [hpow]
        exact gap2 _ _
      · exact dAdd_nan pn (by rw [isNaN_mod r3]; exact qn) (by rw [pi, Bool.false_and, Bool.false_and])
end Go.Proofs.YtffohkpohgkglaaGreat.Nm
