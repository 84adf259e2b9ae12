/-
  THE OPERATIONS on words: the document's way against IEEE's.
-/
import Derived.Test.YtffohkpohgkglaaGreatNumC
namespace Go.Proofs.YtffohkpohgkglaaGreat.Nm
open Ieee
def nan : Nat := 0x7ff8000000000001
def inf : Nat := 0x7ff0000000000000
def neg (x : Nat) : Bool := decide (2 ^ 63 ≤ x)
def isNaN (x : Nat) : Bool := decide (inf < x % 2 ^ 63)
def isInf (x : Nat) : Bool := decide (x % 2 ^ 63 = inf)
def nought (x : Nat) : Bool := decide (x % 2 ^ 63 = 0)
/-- a finite number: its digits, and the last one's place -/
def mag (x : Nat) : Nat := if x / 2 ^ 52 % 2048 = 0 then x % 2 ^ 52 else 2 ^ 52 + x % 2 ^ 52
def plc (x : Nat) : Int := if x / 2 ^ 52 % 2048 = 0 then -1074 else (x / 2 ^ 52 % 2048 : Nat) - 1075
theorem mag_lt (x : Nat) : mag x < 2 ^ 53 := by
  unfold mag
  have := Nat.mod_lt x (show 0 < 2 ^ 52 by decide)
  split <;> omega
theorem read_eq (x : Nat) (h : x < 2 ^ 64) : double.read x = if isNaN x then .nan (neg x) (x % 2 ^ 63 - inf) else if isInf x then .infinity (neg x) else .number (neg x) (mag x) (plc x) := by
  have h1 : double.leastPlace = -1074 := by decide
  have h2 : double.binade = 2 ^ 52 := by rfl
  have h3 : double.infRung = 0x7ff0000000000000 := by decide
  have h4 : double.signWeight = 2 ^ 63 := by rfl
  unfold Format.read
  simp only [h1, h2, h3, h4]
  have hneg : (x / 2 ^ 63 % 2 == 1) = neg x := by
    unfold neg
    rw [Bool.eq_iff_iff]; simp; omega
  rw [hneg]
  have m1 : x / 2 ^ 52 % 2048 = x % 2 ^ 63 / 2 ^ 52 := by omega
  have m2 : x % 2 ^ 52 = x % 2 ^ 63 % 2 ^ 52 := by omega
  unfold isNaN isInf inf
  by_cases c1 : x % 2 ^ 63 < 2 ^ 52
  · rw [if_pos c1, if_neg (by simp; omega), if_neg (by simp; omega)]
    unfold mag plc
    rw [if_pos (by omega), if_pos (by omega)]
    congr 1; omega
  · rw [if_neg c1]
    by_cases c2 : x % 2 ^ 63 < 0x7ff0000000000000
    · rw [if_pos c2, if_neg (by simp; omega), if_neg (by simp; omega)]
      unfold mag plc
      rw [if_neg (by omega), if_neg (by omega), m1, m2]
      congr 1; omega
    · rw [if_neg c2]
      by_cases c3 : x % 2 ^ 63 = 0x7ff0000000000000
      · rw [if_pos c3, if_neg (by simp; omega), if_pos (by simp; omega)]
      · rw [if_neg c3, if_pos (by simp; omega)]
/-- rounded: with a sign -/
def round (s : Bool) (n : Nat) (e : Int) (more : Bool) : Nat := word s (if n = 0 then 0 else refRung n e more)
theorem round_eq (s : Bool) (n : Nat) (e : Int) : round s n e false = Format.nearest double s n e := by
  unfold round
  by_cases h : n = 0
  · subst h; rw [if_pos rfl, nearest_zero]
  · rw [if_neg h, nearest_eq _ _ _ h, refRung_eq _ _ h]
def up (n : Nat) (k : Int) : Nat := n * 2 ^ k.toNat
def dAdd (a b : Nat) : Nat :=
  if isNaN a || isNaN b || isInf a && isInf b && a != b then nan
  else if isInf a then a else if isInf b then b
  else
    let e := min (plc a) (plc b)
    let x := up (mag a) (plc a - e)
    let y := up (mag b) (plc b - e)
    if neg a = neg b then round (neg a) (x + y) e false
    else if x = y then 0 else if y < x then round (neg a) (x - y) e false else round (neg b) (y - x) e false
def dMul (a b : Nat) : Nat :=
  if isNaN a || isNaN b || isInf a && nought b || isInf b && nought a then nan
  else if isInf a || isInf b then word (neg a != neg b) inf
  else round (neg a != neg b) (mag a * mag b) (plc a + plc b) false
def dDiv (a b : Nat) : Nat :=
  if isNaN a || isNaN b || isInf a && isInf b || nought a && nought b then nan
  else if isInf a || nought b then word (neg a != neg b) inf
  else if isInf b || nought a then round (neg a != neg b) 0 0 false
  else round (neg a != neg b) (mag a * 2 ^ 120 / mag b) (plc a - 120 - plc b) (mag a * 2 ^ 120 % mag b != 0)
theorem inf_word {x : Nat} (h : x < 2 ^ 64) (hi : isInf x = true) : word (neg x) inf = x := by
  unfold isInf at hi
  unfold word neg
  simp at hi
  split <;> simp_all <;> omega
theorem inf_same {a b : Nat} (ha : a < 2 ^ 64) (hb : b < 2 ^ 64) (ia : isInf a = true) (ib : isInf b = true) : (a != b) = (neg a != neg b) := by
  unfold isInf at ia ib
  unfold neg
  simp at ia ib
  rw [Bool.eq_iff_iff]
  simp only [bne_iff_ne, ne_eq, decide_eq_decide]
  omega
theorem write_inf (s : Bool) : double.write (.infinity s) = word s inf := by
  unfold Format.write word Format.word
  rfl
def sg (s : Bool) (x : Nat) : Int := if s then -(x : Int) else x
theorem signed_eq (s : Bool) (m k : Nat) : signed s m k = sg s (m * 2 ^ k) := by
  unfold signed sg; rw [Nat.shiftLeft_eq]
theorem sg_neg (s t : Bool) (x y : Nat) : (if sg s x + sg t y = 0 then s && t else decide (sg s x + sg t y < 0)) = (if s = t then s else if x = y then false else if y < x then s else t) := by
  cases s <;> cases t <;> by_cases h1 : x = y <;> by_cases h2 : y < x <;> simp only [sg, h1, h2, Bool.false_eq_true, if_true, if_false, Bool.and_self, Bool.and_true, Bool.and_false, Bool.true_eq_false] <;> (split <;> first | rfl | (exfalso; omega) | (simp; omega))
theorem sg_abs (s t : Bool) (x y : Nat) : (sg s x + sg t y).natAbs = (if s = t then x + y else if y < x then x - y else y - x) := by
  cases s <;> cases t <;> by_cases h2 : y < x <;> simp only [sg, h2, Bool.false_eq_true, if_true, if_false, Bool.true_eq_false] <;> omega
theorem dAdd_eq (a b : Nat) (ha : a < 2 ^ 64) (hb : b < 2 ^ 64) : dAdd a b = (double.add a b).getD nan := by
  unfold dAdd Format.add
  rw [read_eq a ha, read_eq b hb]
  by_cases na : isNaN a = true
  · simp [na, Datum.sum]
  · by_cases nb' : isNaN b = true
    · have na' : isNaN a = false := by simpa using na
      simp only [na', nb', Bool.true_or, Bool.or_true, if_true]
      by_cases ia : isInf a = true <;> simp [ia, Datum.sum]
    · simp only [na, nb', Bool.false_or, Bool.false_eq_true, if_false]
      by_cases ia : isInf a = true
      · by_cases ib : isInf b = true
        · have hs := inf_same ha hb ia ib
          simp only [ia, ib, Bool.true_and, if_true, hs, Datum.sum]
          by_cases hn : neg a = neg b
          · have h9 := inf_word ha ia
            rw [hn] at h9
            simp [hn, write_inf, h9]
          · simp [hn]
        · simp [ia, ib, Datum.sum, write_inf, inf_word ha ia]
      · by_cases ib : isInf b = true
        · simp [ia, ib, Datum.sum, write_inf, inf_word hb ib]
        · simp only [ia, ib, Bool.false_and, Bool.false_eq_true, if_false, Datum.sum, Option.map_some, Option.getD_some, Format.write]
          rw [signed_eq, signed_eq]
          change _ = double.nearest (if sg (neg a) (up (mag a) (plc a - min (plc a) (plc b))) + sg (neg b) (up (mag b) (plc b - min (plc a) (plc b))) = 0 then _ else decide (sg (neg a) (up (mag a) (plc a - min (plc a) (plc b))) + sg (neg b) (up (mag b) (plc b - min (plc a) (plc b))) < 0)) (sg (neg a) (up (mag a) (plc a - min (plc a) (plc b))) + sg (neg b) (up (mag b) (plc b - min (plc a) (plc b)))).natAbs _
          generalize up (mag a) (plc a - min (plc a) (plc b)) = x
          generalize up (mag b) (plc b - min (plc a) (plc b)) = y
          rw [sg_neg, sg_abs]
          by_cases hn : neg a = neg b
          · simp only [hn, if_true, round_eq]
          · simp only [if_neg hn]
            by_cases hxy : x = y
            · subst hxy; simp [nearest_zero, word]
            · simp only [if_neg hxy]
              by_cases hlt : y < x
              · simp only [if_pos hlt, round_eq]
              · simp only [if_neg hlt, round_eq]
theorem nought_mag (x : Nat) : nought x = decide (mag x = 0) := by
  unfold nought mag
  rw [decide_eq_decide]
  split <;> omega
theorem inf_mag {x : Nat} (h : isInf x = true) : mag x ≠ 0 := by
  unfold isInf inf at h
  unfold mag
  simp at h
  rw [if_neg (by omega)]; omega
theorem dMul_eq (a b : Nat) (ha : a < 2 ^ 64) (hb : b < 2 ^ 64) : dMul a b = (double.mul a b).getD nan := by
  unfold dMul Format.mul
  rw [read_eq a ha, read_eq b hb, nought_mag, nought_mag]
  cases na : isNaN a
  · cases nb' : isNaN b
    · cases ia : isInf a
      · cases ib : isInf b
        · simp [Datum.product, Format.write, round_eq, bne]
        · by_cases h0 : mag a = 0
          · simp [Datum.product, h0]
          · simp [Datum.product, h0, write_inf, Bool.xor_comm]
      · cases ib : isInf b
        · by_cases h0 : mag b = 0
          · simp [Datum.product, h0]
          · simp [Datum.product, h0, write_inf]
        · simp [Datum.product, write_inf, inf_mag ia, inf_mag ib]
    · cases ia : isInf a <;> simp [Datum.product]
  · simp [Datum.product]
theorem dDiv_eq (a b : Nat) (ha : a < 2 ^ 64) (hb : b < 2 ^ 64) : dDiv a b = (double.div a b).getD nan := by
  unfold dDiv Format.div
  rw [read_eq a ha, read_eq b hb, nought_mag, nought_mag]
  cases na : isNaN a
  · cases nb' : isNaN b
    · cases ia : isInf a
      · cases ib : isInf b
        · by_cases h1 : mag b = 0
          · by_cases h0 : mag a = 0
            · simp [Datum.quotient, h0, h1]
            · simp [Datum.quotient, h0, h1, write_inf]
          · by_cases h0 : mag a = 0
            · simp [Datum.quotient, h0, h1, Format.write, round_eq, nearest_zero]
            · simp only [Datum.quotient, h0, h1, decide_false, Bool.false_and, Bool.or_false, Bool.false_eq_true, if_false, Option.map_some, Option.getD_some, Format.write]
              have hd := div_same (mag a) (mag b) (plc a - plc b) (by omega) (by omega) (mag_lt b)
              have hq := quo_big (mag a) (mag b) (54 + (mag b).log2 - (mag a).log2) (by omega) (by omega) (by omega)
              have hq2 := quo_big (mag a) (mag b) 120 (by omega) (by omega) (by have := log2_small (mag_lt b); omega)
              rw [Nat.shiftLeft_eq]
              have e1 : double.fractionBits + 2 + (mag b).log2 - (mag a).log2 = 54 + (mag b).log2 - (mag a).log2 := rfl
              rw [e1, nearest_eq _ _ _ (by omega)]
              unfold round
              rw [if_neg (by omega), show plc a - 120 - plc b = plc a - plc b - 120 by omega, hd]
              rfl
        · simp [Datum.quotient, Format.write, round_eq, nearest_zero, inf_mag ib]
      · cases ib : isInf b
        · simp [Datum.quotient, inf_mag ia, write_inf]
        · simp [Datum.quotient]
    · cases ia : isInf a <;> simp [Datum.quotient]
  · simp [Datum.quotient]
def dSqrt (a : Nat) : Nat :=
  if isNaN a then nan else if nought a then a else if neg a then nan else if isInf a then a
  else
    let k := if plc a % 2 = 0 then 120 else 121
    round false (rt (mag a * 2 ^ k)) ((plc a - (k : Nat)) / 2) (rt (mag a * 2 ^ k) * rt (mag a * 2 ^ k) != mag a * 2 ^ k)
theorem zero_word {x : Nat} (h : x < 2 ^ 64) (hz : mag x = 0) : word (neg x) 0 = x := by
  have : nought x = true := by rw [nought_mag, hz]; rfl
  unfold nought at this
  unfold word neg
  simp at this
  split <;> simp_all <;> omega
theorem dSqrt_eq (a : Nat) (ha : a < 2 ^ 64) : dSqrt a = (double.sqrt a).getD nan := by
  unfold dSqrt Format.sqrt
  rw [read_eq a ha, nought_mag]
  cases na : isNaN a
  · cases ia : isInf a
    · by_cases h0 : mag a = 0
      · simp [Datum.root, h0, Format.write, nearest_zero]
        rw [zero_word ha h0]
      · cases hn : neg a
        · simp only [Datum.root, h0, decide_false, Bool.false_eq_true, if_false, Option.map_some, Option.getD_some, Format.write]
          have hl := log2_small (mag_lt a)
          have e0 : 2 * (double.fractionBits + 2) = 108 := rfl
          rw [e0, Nat.shiftLeft_eq]
          obtain ⟨d0, hd0⟩ : ∃ d0, 108 - (mag a).log2 = d0 := ⟨_, rfl⟩
          rw [hd0]
          obtain ⟨d, hd⟩ : ∃ d, d0 + ((plc a - (d0 : Nat)) % 2).toNat = d := ⟨_, rfl⟩
          rw [hd]
          have hdp : (plc a - (d : Nat)) % 2 = 0 := by omega
          have hd1 : d ≤ 109 := by omega
          have hd2 : 106 ≤ (mag a).log2 + d := by omega
          have hs : 2 ^ 53 ≤ rt (mag a * 2 ^ d) := by
            refine rt_ge ?_
            have h3 := Nat.mul_le_mul_right (2 ^ d) (Nat.log2_self_le (n := mag a) h0)
            rw [← Nat.pow_add] at h3
            exact Nat.le_trans (Nat.pow_le_pow_right (by decide) (by omega)) h3
          change round false _ _ _ = double.nearest false (2 * rt (mag a * 2 ^ d) + (rt (mag a * 2 ^ d) * rt (mag a * 2 ^ d) != mag a * 2 ^ d).toNat) ((plc a - (d : Nat)) / 2 - 1)
          rw [nearest_eq _ _ _ (by omega)]
          unfold round
          by_cases hk : plc a % 2 = 0
          · rw [if_pos hk, if_neg (by have := rt_ge (N := mag a * 2 ^ 120) (k := 60) (Nat.le_mul_of_pos_left _ (by omega)); omega), sqrt_same (mag a) 120 d (plc a) (by omega) (by omega) (by omega) hd2 (by omega) hdp]
            rfl
          · rw [if_neg hk, if_neg (by have := rt_ge (N := mag a * 2 ^ 121) (k := 60) (Nat.le_trans (by decide) (Nat.le_mul_of_pos_left (2 ^ 121) (show 0 < mag a by omega))); omega), sqrt_same (mag a) 121 d (plc a) (by omega) (by omega) (by omega) hd2 (by omega) hdp]
            rfl
        · simp [Datum.root, h0]
    · have hi := inf_word ha ia
      have := inf_mag ia
      cases hn : neg a
      · rw [hn] at hi; simp [Datum.root, this, write_inf, hi]
      · simp [Datum.root, this]
  · simp [Datum.root]
/-- the whole part, and one more where the way says so and something is left -/
def dStep (a : Nat) (one : Bool) : Nat :=
  if isNaN a then nan else if isInf a then a
  else round (neg a) (if 0 ≤ plc a then mag a * 2 ^ (plc a).toNat else mag a / 2 ^ (-plc a).toNat + (one && mag a % 2 ^ (-plc a).toNat != 0).toNat) 0 false
theorem cut_way (way : Toward) (s one : Bool) (hw : (way = .down ∧ one = s) ∨ (way = .up ∧ one = !s) ∨ (way = .zero ∧ one = false)) (n d : Nat) : way.cut s n d = n / 2 ^ d + (one && n % 2 ^ d != 0).toNat := by
  have hg : n / (1 <<< min d (n.log2 + 2)) = n / 2 ^ d ∧ n % (1 <<< min d (n.log2 + 2)) = n % 2 ^ d := by
    rw [Nat.one_shiftLeft]
    by_cases h : d ≤ n.log2 + 2
    · rw [Nat.min_eq_left h]; exact ⟨rfl, rfl⟩
    · have hn : n < 2 ^ (n.log2 + 1) := Nat.lt_log2_self
      have hp : 2 ^ (n.log2 + 2) = 2 * 2 ^ (n.log2 + 1) := by rw [Nat.pow_succ, Nat.mul_comm]
      have hq : 2 ^ (n.log2 + 2) ≤ 2 ^ d := Nat.pow_le_pow_right (by decide) (by omega)
      rw [Nat.min_eq_right (by omega), Nat.div_eq_of_lt (by omega), Nat.div_eq_of_lt (by omega), Nat.mod_eq_of_lt (by omega), Nat.mod_eq_of_lt (by omega)]
      exact ⟨rfl, rfl⟩
  unfold Toward.cut
  simp only [hg.1, hg.2]
  rcases hw with ⟨rfl, rfl⟩ | ⟨rfl, rfl⟩ | ⟨rfl, rfl⟩ <;> simp
theorem dStep_eq (way : Toward) (a : Nat) (one : Bool) (hw : (way = .down ∧ one = neg a) ∨ (way = .up ∧ one = !neg a) ∨ (way = .zero ∧ one = false)) (ha : a < 2 ^ 64) (hn : isNaN a = false) : dStep a one = double.write ((double.read a).integral way) := by
  unfold dStep
  rw [read_eq a ha, hn]
  cases ia : isInf a
  · simp only [Bool.false_eq_true, if_false, Datum.integral, Format.write, round_eq, cut_way way (neg a) one hw, Nat.shiftLeft_eq]
    congr 1
    by_cases hp : 0 ≤ plc a
    · rw [if_pos hp, show (-plc a).toNat = 0 by omega, Nat.pow_zero, Nat.div_one, Nat.mod_one]; simp
    · rw [if_neg hp, show (plc a).toNat = 0 by omega, Nat.pow_zero, Nat.mul_one]
  · simp [Datum.integral, write_inf, inf_word ha ia]
end Go.Proofs.YtffohkpohgkglaaGreat.Nm
