/-
  A NUMBER AS A WHOLE ONE.
-/
import Derived.Test.YtffohkpohgkglaaGreatNumN
namespace Go.Proofs.YtffohkpohgkglaaGreat.Nm
set_option linter.unusedVariables false
set_option linter.unusedSimpArgs false
open Ieee
/-- the whole part, without the sign; whether something is left -/
def wv (x : Nat) : Nat := if 0 ≤ plc x then mag x * 2 ^ (plc x).toNat else mag x / 2 ^ (-plc x).toNat
def left (x : Nat) : Bool := if 0 ≤ plc x then false else mag x % 2 ^ (-plc x).toNat != 0
def fits (x : Nat) : Bool := !isNaN x && !isInf x && !left x && (if neg x then decide (wv x ≤ 2 ^ 63) else decide (wv x < 2 ^ 63))
def dWhole (x : Nat) : Int := if fits x then sg (neg x) (wv x) else 0
theorem U_split (p : Int) (h1 : -1074 ≤ p) (h2 : p < 0) : U = 2 ^ (-p).toNat * 2 ^ (p + 1074).toNat := by
  obtain ⟨k, h, hk⟩ := U_ex
  rw [h, ← Nat.pow_add]
  congr 1; omega
theorem va_wv (x : Nat) : va x = wv x * U + (if 0 ≤ plc x then 0 else mag x % 2 ^ (-plc x).toNat * 2 ^ (plc x + 1074).toNat) := by
  have hp := plc_ge x
  unfold va wv
  by_cases h : 0 ≤ plc x
  · rw [if_pos h, if_pos h, Nat.add_zero]
    obtain ⟨k, hU, hk⟩ := U_ex
    rw [hU, Nat.mul_assoc, ← Nat.pow_add]
    congr 2; omega
  · rw [if_neg h, if_neg h, U_split (plc x) hp (by omega), ← Nat.mul_assoc, ← Nat.add_mul]
    congr 1
    rw [Nat.mul_comm]
    exact (Nat.div_add_mod _ _).symm
theorem va_whole {x : Nat} (h : left x = false) : va x = wv x * U := by
  rw [va_wv]
  unfold left at h
  by_cases hp : 0 ≤ plc x
  · rw [if_pos hp]; omega
  · rw [if_neg hp] at h ⊢
    have : mag x % 2 ^ (-plc x).toNat = 0 := by simpa using h
    rw [this, Nat.zero_mul, Nat.add_zero]
theorem trunc_whole {x : Nat} (hx : x < 2 ^ 64) (hf : x % 2 ^ 63 < inf) (h : left x = false) : dTrunc x = x := step_whole hx hf (va_whole h) false
theorem wv_small {x : Nat} (h : left x = true) : wv x < 2 ^ 53 := by
  unfold left at h
  unfold wv
  by_cases hp : 0 ≤ plc x
  · rw [if_pos hp] at h; cases h
  · rw [if_neg hp]
    exact Nat.lt_of_le_of_lt (Nat.div_le_self _ _) (mag_lt x)
theorem trunc_left {x : Nat} (hx : x < 2 ^ 64) (hf : x % 2 ^ 63 < inf) (h : left x = true) : key (dTrunc x) ≠ key x ∧ isNaN (dTrunc x) = false ∧ dTrunc x < 2 ^ 64 := by
  obtain ⟨n1, n2⟩ := fin_nan hf
  have hs := wv_small h
  have hw : dTrunc x = whl (neg x) (wv x) := by
    unfold dTrunc dStep whl wv
    rw [n1, n2]
    simp
  obtain ⟨w1, w2, w3, w4⟩ := whl_facts (neg x) (wv x) hs
  rw [hw]
  refine ⟨fun e => ?_, (fin_nan w2).1, w4⟩
  have h1 := vz_le_of_key (Int.le_of_eq e)
  have h2 := vz_le_of_key (Int.le_of_eq e.symm)
  have h3 := Int.le_antisymm h1 h2
  unfold vz at h3
  rw [w3, w1] at h3
  have h4 : wv x * U = va x := by
    cases hn : neg x <;> rw [hn] at h3 <;> unfold sg at h3 <;> simp at h3 <;> omega
  rw [va_wv] at h4
  unfold left at h
  by_cases hp : 0 ≤ plc x
  · rw [if_pos hp] at h; cases h
  · rw [if_neg hp] at h h4
    have h5 : mag x % 2 ^ (-plc x).toNat ≠ 0 := by simpa using h
    have h6 := Nat.mul_pos (Nat.pos_of_ne_zero h5) (Nat.two_pow_pos (plc x + 1074).toNat)
    omega
theorem ord_eq {x y : Nat} (h1 : x < 2 ^ 64) (h2 : y < 2 ^ 64) (n1 : isNaN x = false) (n2 : isNaN y = false) :
    (double.order x y == some .lt) = decide (key x < key y) ∧ (double.order x y == some .gt || double.order x y == some .eq) = decide (key y ≤ key x) ∧ (double.order x y != some .eq) = decide (key x ≠ key y) := by
  rw [order_eq h1 h2 n1 n2]
  rcases Int.lt_trichotomy (key x) (key y) with h | h | h
  · rw [Int.compare_eq_lt.2 h, decide_eq_true h, decide_eq_false (show ¬ key y ≤ key x by omega), decide_eq_true (show key x ≠ key y by omega)]; exact ⟨rfl, rfl, rfl⟩
  · rw [Int.compare_eq_eq.2 h, decide_eq_false (show ¬ key x < key y by omega), decide_eq_true (show key y ≤ key x by omega), decide_eq_false (show ¬ key x ≠ key y by omega)]; exact ⟨rfl, rfl, rfl⟩
  · rw [Int.compare_eq_gt.2 h, decide_eq_false (show ¬ key x < key y by omega), decide_eq_true (show key y ≤ key x by omega), decide_eq_true (show key x ≠ key y by omega)]; exact ⟨rfl, rfl, rfl⟩
/-- the bits of -2^63 and 2^63 -/
def lo63 : Nat := 14114281232179134464
def hi63 : Nat := 4890909195324358656
theorem edge_facts : mag lo63 = 2 ^ 52 ∧ plc lo63 = 11 ∧ neg lo63 = true ∧ lo63 % 2 ^ 63 < inf ∧ mag hi63 = 2 ^ 52 ∧ plc hi63 = 11 ∧ neg hi63 = false ∧ hi63 % 2 ^ 63 < inf ∧ lo63 < 2 ^ 64 ∧ hi63 < 2 ^ 64 ∧ isNaN lo63 = false ∧ isNaN hi63 = false := by decide
theorem edge_va : va lo63 = 2 ^ 63 * U ∧ va hi63 = 2 ^ 63 * U := by
  obtain ⟨e1, e2, e3, e4, e5, e6, e7, e8, e9, e10, e11, e12⟩ := edge_facts
  obtain ⟨k, hU, hk⟩ := U_ex
  unfold va
  rw [e1, e2, e5, e6, hU, ← Nat.pow_add, ← Nat.pow_add]
  have : 52 + (11 + 1074 : Int).toNat = 63 + k := by omega
  rw [this]
  exact ⟨rfl, rfl⟩
theorem fin_low {x : Nat} (hf : x % 2 ^ 63 < inf) (h : left x = false) : key x < key lo63 ↔ (neg x = true ∧ 2 ^ 63 < wv x) := by
  obtain ⟨e1, e2, e3, e4, e5, e6, e7, e8, e9, e10, e11, e12⟩ := edge_facts
  rw [key_lt_iff hf e4]
  unfold vz
  rw [e3, edge_va.1, va_whole h]
  have hU := U_pos
  generalize wv x = W
  have hm : (2 ^ 63 * U < W * U) ↔ 2 ^ 63 < W := Nat.mul_lt_mul_right hU
  generalize hA : 2 ^ 63 * U = A at *
  generalize hB : W * U = B at *
  cases hn : neg x <;> unfold sg <;> simp <;> omega
theorem fin_high {x : Nat} (hf : x % 2 ^ 63 < inf) (h : left x = false) : key hi63 ≤ key x ↔ (neg x = false ∧ 2 ^ 63 ≤ wv x) := by
  obtain ⟨e1, e2, e3, e4, e5, e6, e7, e8, e9, e10, e11, e12⟩ := edge_facts
  have hk := key_lt_iff hf e8
  have : key hi63 ≤ key x ↔ ¬ (vz x < vz hi63) := by rw [← hk]; omega
  rw [this]
  unfold vz
  rw [e7, edge_va.2, va_whole h]
  have hU := U_pos
  generalize wv x = W
  have hm : (W * U < 2 ^ 63 * U) ↔ W < 2 ^ 63 := Nat.mul_lt_mul_right hU
  have h0 : 0 < 2 ^ 63 * U := Nat.mul_pos (by decide) hU
  generalize hA : 2 ^ 63 * U = A at *
  generalize hB : W * U = B at *
  cases hn : neg x <;> unfold sg <;> simp <;> omega
theorem toInt_eq {x : Nat} (hx : x < 2 ^ 64) (hf : x % 2 ^ 63 < inf) : (double.read x).toInt .zero = some (sg (neg x) (wv x)) := by
  obtain ⟨n1, n2⟩ := fin_nan hf
  rw [read_eq x hx, n1, n2]
  simp only [Bool.false_eq_true, if_false, Datum.toInt, Datum.integral, signed_eq, Nat.pow_zero, Nat.mul_one]
  congr 2
  rw [cut_way .zero (neg x) false (by simp)]
  simp only [Bool.false_and, Bool.toNat_false, Nat.add_zero, Nat.shiftLeft_eq]
  unfold wv
  by_cases hp : 0 ≤ plc x
  · rw [if_pos hp, show (-plc x).toNat = 0 by omega, Nat.pow_zero, Nat.div_one]
  · rw [if_neg hp, show (plc x).toNat = 0 by omega, Nat.pow_zero, Nat.mul_one]
end Go.Proofs.YtffohkpohgkglaaGreat.Nm
