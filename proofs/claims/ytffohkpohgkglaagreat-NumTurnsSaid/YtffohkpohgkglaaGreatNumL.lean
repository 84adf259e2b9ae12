/-
  THE ORDER OF NUMBERS: by values; of all bits; Ieee's comparison is that of the keys.
-/
import Derived.Test.YtffohkpohgkglaaGreatNumK
namespace Go.Proofs.YtffohkpohgkglaaGreat.Nm
set_option linter.unusedVariables false
set_option linter.unusedSimpArgs false
open Ieee
theorem compare_scale (a b : Int) (k : Nat) : compare (a * (2 ^ k : Nat)) (b * (2 ^ k : Nat)) = compare a b := by
  have hp : (0 : Int) < (2 ^ k : Nat) := by have := Nat.two_pow_pos k; omega
  rcases Int.lt_trichotomy a b with h | h | h
  · have h2 := Int.mul_lt_mul_of_pos_right h hp
    rw [Int.compare_eq_lt.2 h, Int.compare_eq_lt.2 h2]
  · subst h
    rw [Int.compare_eq_eq.2 rfl, Int.compare_eq_eq.2 rfl]
  · have h2 := Int.mul_lt_mul_of_pos_right h hp
    rw [Int.compare_eq_gt.2 h, Int.compare_eq_gt.2 h2]
theorem sg_mul (s : Bool) (x k : Nat) : sg s (x * k) = sg s x * (k : Nat) := by
  unfold sg; cases s
  · simp
  · simp [Int.neg_mul]
theorem up_vz (x : Nat) (e : Int) (h1 : -1074 ≤ e) (h2 : e ≤ plc x) : signed (neg x) (mag x) (plc x - e).toNat * ((2 ^ (e + 1074).toNat : Nat) : Int) = vz x := by
  rw [signed_eq, ← sg_mul]
  unfold vz
  rw [← up_va x e h1 h2]
  rfl
theorem compare_key {x y : Nat} (hx : x % 2 ^ 63 < inf) (hy : y % 2 ^ 63 < inf) : compare (key x) (key y) = compare (vz x) (vz y) := by
  rcases Int.lt_trichotomy (key x) (key y) with h | h | h
  · rw [Int.compare_eq_lt.2 h, Int.compare_eq_lt.2 ((key_lt_iff hx hy).1 h)]
  · have h1 := vz_le_of_key (Int.le_of_eq h)
    have h2 := vz_le_of_key (Int.le_of_eq h.symm)
    rw [h, Int.le_antisymm h1 h2]
    rw [show compare (key y) (key y) = .eq from Int.compare_eq_eq.2 rfl, show compare (vz y) (vz y) = .eq from Int.compare_eq_eq.2 rfl]
  · rw [Int.compare_eq_gt.2 h, Int.compare_eq_gt.2 ((key_lt_iff hy hx).1 h)]
theorem key_inf_pos {x : Nat} (hi : isInf x = true) (hn : neg x = false) : key x = inf := by rw [key_inf hi, hn]; rfl
theorem key_inf_neg {x : Nat} (hi : isInf x = true) (hn : neg x = true) : key x = -(inf : Int) := by rw [key_inf hi, hn]; rfl
theorem key_fin {x : Nat} (hx : x % 2 ^ 63 < inf) : -(inf : Int) < key x ∧ key x < inf := by
  unfold key sg; split <;> omega
theorem order_eq {x y : Nat} (h1 : x < 2 ^ 64) (h2 : y < 2 ^ 64) (n1 : isNaN x = false) (n2 : isNaN y = false) : double.order x y = some (compare (key x) (key y)) := by
  unfold Format.order
  rw [read_eq x h1, read_eq y h2, n1, n2]
  simp only [Bool.false_eq_true, if_false]
  cases i1 : isInf x <;> cases i2 : isInf y <;> simp only [Bool.false_eq_true, if_false, if_true, Datum.order]
  · have f1 := fin_lt n1 i1
    have f2 := fin_lt n2 i2
    have p1 := plc_ge x
    have p2 := plc_ge y
    rw [compare_key f1 f2, ← up_vz x (min (plc x) (plc y)) (by omega) (by omega), ← up_vz y (min (plc x) (plc y)) (by omega) (by omega), compare_scale]
  · have f1 := key_fin (fin_lt n1 i1)
    cases hn : neg y
    · rw [key_inf_pos i2 hn, Int.compare_eq_lt.2 f1.2]; rfl
    · rw [key_inf_neg i2 hn, Int.compare_eq_gt.2 f1.1]; rfl
  · have f1 := key_fin (fin_lt n2 i2)
    cases hn : neg x
    · rw [key_inf_pos i1 hn, Int.compare_eq_gt.2 f1.2]; rfl
    · rw [key_inf_neg i1 hn, Int.compare_eq_lt.2 f1.1]; rfl
  · cases hn : neg x <;> cases hm : neg y
    · rw [key_inf_pos i1 hn, key_inf_pos i2 hm]; decide
    · rw [key_inf_pos i1 hn, key_inf_neg i2 hm]; decide
    · rw [key_inf_neg i1 hn, key_inf_pos i2 hm]; decide
    · rw [key_inf_neg i1 hn, key_inf_neg i2 hm]; decide
/-- compared: -1, 0, 1 -/
def dCmp (x y : Nat) : Int := if isNaN x || isNaN y then 0 else if key x < key y then -1 else if key y < key x then 1 else 0
def dCok (x y : Nat) : Bool := !(isNaN x || isNaN y)
/-- which of all bits comes first -/
def rising (x : Nat) : Nat := if neg x then 2 ^ 64 - 1 - x else x + 2 ^ 63
def rank (x : Nat) : Nat := if isNaN x then x else rising x + 2 ^ 64
def cmpN (x y : Nat) : Int := if x < y then -1 else if y < x then 1 else 0
def dOrder (x y : Nat) : Int := cmpN (rank x) (rank y)
theorem rank_inj {x y : Nat} (hx : x < 2 ^ 64) (hy : y < 2 ^ 64) (h : rank x = rank y) : x = y := by
  unfold rank rising neg at h
  split at h <;> split at h <;> (try split at h) <;> (try split at h) <;> simp_all <;> omega
theorem rank_key {x y : Nat} (hx : x < 2 ^ 64) (hy : y < 2 ^ 64) (n1 : isNaN x = false) (n2 : isNaN y = false) (h : key x < key y) : rank x < rank y := by
  unfold rank rising
  unfold key sg at h
  rw [n1, n2]
  unfold neg at *
  by_cases g1 : 2 ^ 63 ≤ x <;> by_cases g2 : 2 ^ 63 ≤ y <;> simp only [g1, g2, decide_true, decide_false, Bool.false_eq_true, if_true, if_false] at h ⊢ <;> omega
theorem rank_nan {x y : Nat} (hx : x < 2 ^ 64) (n1 : isNaN x = true) (n2 : isNaN y = false) : rank x < rank y := by
  unfold rank
  rw [n1, n2]
  simp only [if_true, Bool.false_eq_true, if_false]
  omega
theorem order_turn (x y : Nat) : dOrder y x = -dOrder x y := by
  unfold dOrder cmpN
  split <;> split <;> (try split) <;> (try split) <;> omega
theorem order_zero {x y : Nat} (hx : x < 2 ^ 64) (hy : y < 2 ^ 64) : dOrder x y = 0 ↔ x = y := by
  unfold dOrder cmpN
  constructor
  · intro h
    split at h
    · omega
    split at h
    · omega
    exact rank_inj hx hy (by omega)
  · rintro rfl
    rw [if_neg (by omega), if_neg (by omega)]
theorem order_self (x : Nat) : dOrder x x = 0 := by unfold dOrder cmpN; rw [if_neg (by omega), if_neg (by omega)]
theorem order_bd (x y : Nat) : -1 ≤ dOrder x y ∧ dOrder x y ≤ 1 := by
  unfold dOrder cmpN
  split
  · omega
  split <;> omega
theorem order_trans (x y z : Nat) : 0 < dOrder x y ∨ 0 < dOrder y z ∨ (dOrder x z ≤ 0 ∧ ((dOrder x y = 0 ∧ dOrder y z = 0) ∨ dOrder x z < 0)) := by
  unfold dOrder cmpN
  repeat' split
  all_goals omega
theorem order_cmp {x y : Nat} (hx : x < 2 ^ 64) (hy : y < 2 ^ 64) : dCmp x y = 0 ∨ dCmp x y = dOrder x y := by
  unfold dCmp
  cases n1 : isNaN x <;> cases n2 : isNaN y <;> simp only [Bool.or_self, Bool.or_true, Bool.true_or, Bool.or_false, Bool.false_or, if_true, Bool.false_eq_true, if_false, true_or]
  by_cases h1 : key x < key y
  · right
    have := rank_key hx hy n1 n2 h1
    rw [if_pos h1]
    unfold dOrder cmpN
    rw [if_pos this]
  · by_cases h2 : key y < key x
    · right
      have := rank_key hy hx n2 n1 h2
      rw [if_neg h1, if_pos h2]
      unfold dOrder cmpN
      rw [if_neg (by omega), if_pos this]
    · left; rw [if_neg h1, if_neg h2]
theorem order_nan {x y : Nat} (hx : x < 2 ^ 64) (n1 : isNaN x = true) (n2 : isNaN y = false) : dOrder x y = -1 := by
  have := rank_nan hx n1 n2
  unfold dOrder cmpN
  rw [if_pos this]
end Go.Proofs.YtffohkpohgkglaaGreat.Nm
