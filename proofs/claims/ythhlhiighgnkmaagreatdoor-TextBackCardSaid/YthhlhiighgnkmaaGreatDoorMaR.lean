/-
  MATHEMATICS: a whole number by an exact power of ten, in doubles: products and quotients are rounded once.
-/
import Derived.Test.YthhlhiighgnkmaaGreatDoorMaX
namespace Go.Proofs.YthhlhiighgnkmaaGreatDoor.Nr
set_option exponentiation.threshold 5000
theorem open_parts {M sh : Nat} (hn : Norm M sh) : mag (sh * 2 ^ 52 + M) = M ∧ plc (sh * 2 ^ 52 + M) = (sh : Int) - 1074 ∨ 2047 ≤ sh + 1 := by
  by_cases hs : 2047 ≤ sh + 1
  · exact .inr hs
  · left
    have hm53 := hn.1
    unfold mag plc
    by_cases h52 : M < 2 ^ 52
    · have h0 : sh = 0 := by rcases hn.2 with h | h <;> omega
      subst h0
      rw [if_pos (by omega), if_pos (by omega)]
      exact ⟨by omega, by omega⟩
    · rw [if_neg (by omega), if_neg (by omega)]
      exact ⟨by omega, by omega⟩
/-- the word x is a positive number: v, in multiples of the least double -/
structure Is (x v : Nat) : Prop where
  lt : x < 2047 * 2 ^ 52
  m : 0 < mag x
  e : mag x * 2 ^ (plc x + 1074).toNat = v
theorem Is.nan {x v : Nat} (h : Is x v) : isNaN x = false ∧ isInf x = false ∧ nought x = false ∧ neg x = false := by
  have hl := h.lt
  have hm := h.m
  refine ⟨?_, ?_, ?_, ?_⟩
  · unfold isNaN inf; exact decide_eq_false (by omega)
  · unfold isInf inf; exact decide_eq_false (by omega)
  · unfold nought
    refine decide_eq_false fun h0 => ?_
    have : x = 0 := by omega
    subst this
    unfold mag at hm
    simp at hm
  · unfold neg; exact decide_eq_false (by omega)
theorem exact_in (X U M sh : Nat) : (if M = 2 ^ 52 ∧ 1 ≤ sh then 4 * X ≤ 4 * X + U else 2 * X ≤ 2 * X + U ∧ (2 * X = 2 * X + U → M % 2 = 0)) ∧ (2 * X ≤ 2 * X + U ∧ (2 * X = 2 * X + U → M % 2 = 0)) ∨ U = 0 := by
  by_cases hU : U = 0
  · exact .inr hU
  · left
    refine ⟨?_, by omega, by omega⟩
    split
    · omega
    · exact ⟨by omega, by omega⟩
theorem is_of {d M sh : Nat} (hd : d ≠ 0) (hn : Norm M sh) (hM : 1 ≤ M) (hlt : sh * 2 ^ 52 + M < 2047 * 2 ^ 52) (hsh2 : ¬ 2047 ≤ sh + 1) {N : Nat} (hin : InR M sh (d * 2 ^ 1074) 1) (hN : M * 2 ^ sh = N) : Is (round false d 0 false) N := by
  have hr : round false d 0 false = sh * 2 ^ 52 + M := by
    rw [rung_rnd d hd]
    exact in_rnd (by decide) hn hM hlt hin
  rw [hr]
  obtain ⟨a, b⟩ := (open_parts hn).resolve_right hsh2
  refine ⟨hlt, ?_, ?_⟩
  · rw [a]; exact hM
  · rw [a, b, show ((sh : Int) - 1074 + 1074).toNat = sh by omega]; exact hN
/-- whole numbers below 2^53 are doubles -/
theorem is_int (d : Nat) (h1 : 1 ≤ d) (h2 : d < 2 ^ 53) : Is (round false d 0 false) (d * 2 ^ 1074) := by
  have hnb1 : 2 ^ (nb d - 1) ≤ d := nb_le (by omega)
  have hnb2 : nb d ≤ 53 := (nb_le_iff d 53).2 h2
  have hnb3 : d < 2 ^ nb d := nb_lt d
  have hnb0 : 1 ≤ nb d := by
    have := nb_ge (k := 0) (n := d) h1
    omega
  obtain ⟨z, hz⟩ : ∃ z, 53 - nb d = z := ⟨_, rfl⟩
  obtain ⟨M, hM⟩ : ∃ M, d * 2 ^ z = M := ⟨_, rfl⟩
  have m1 : 2 ^ 52 ≤ M := by
    rw [← hM, show (2 : Nat) ^ 52 = 2 ^ (nb d - 1) * 2 ^ z by rw [← Nat.pow_add]; congr 1; omega]
    exact Nat.mul_le_mul_right _ hnb1
  have m2 : M < 2 ^ 53 := by
    rw [← hM, show (2 : Nat) ^ 53 = 2 ^ nb d * 2 ^ z by rw [← Nat.pow_add]; congr 1; omega]
    exact Nat.mul_lt_mul_of_pos_right hnb3 (Nat.two_pow_pos _)
  obtain ⟨sh, hsh⟩ : ∃ sh, 1074 - z = sh := ⟨_, rfl⟩
  have hlt : sh * 2 ^ 52 + M < 2047 * 2 ^ 52 := by omega
  have hsh2 : ¬ 2047 ≤ sh + 1 := by omega
  have hM1 : 1 ≤ M := by omega
  have hd0 : d ≠ 0 := by omega
  have eN : d * 2 ^ 1074 = M * (1 * 2 ^ sh) := by
    rw [← hM, Nat.one_mul, Nat.mul_assoc, ← Nat.pow_add]; congr 2; omega
  have hn : Norm M sh := ⟨m2, .inr m1⟩
  have hin : InR M sh (d * 2 ^ 1074) 1 := by
    rw [eN]
    exact (exact_in (M * (1 * 2 ^ sh)) (1 * 2 ^ sh) M sh).resolve_right (by rw [Nat.one_mul]; exact Nat.ne_of_gt (Nat.two_pow_pos sh))
  exact is_of hd0 hn hM1 hlt hsh2 hin (by rw [eN, Nat.one_mul])
theorem mul_word {x y u v : Nat} (hx : Is x (u * 2 ^ 1074)) (hy : Is y (v * 2 ^ 1074)) : dMul x y = rndN (u * v * 2 ^ 1074) 1 := by
  obtain ⟨a1, a2, a3, a4⟩ := hx.nan
  obtain ⟨b1, b2, b3, b4⟩ := hy.nan
  have huv : u * v ≠ 0 := by
    have h1 := hx.m
    have h2 := hy.m
    have e1 := hx.e
    have e2 := hy.e
    have p1 : 0 < mag x * 2 ^ (plc x + 1074).toNat := Nat.mul_pos h1 (Nat.two_pow_pos _)
    have p2 : 0 < mag y * 2 ^ (plc y + 1074).toNat := Nat.mul_pos h2 (Nat.two_pow_pos _)
    rw [e1] at p1
    rw [e2] at p2
    exact Nat.mul_ne_zero (Nat.ne_of_gt (Nat.pos_of_mul_pos_right p1)) (Nat.ne_of_gt (Nat.pos_of_mul_pos_right p2))
  have hm : mag x * mag y ≠ 0 := Nat.mul_ne_zero (Nat.ne_of_gt hx.m) (Nat.ne_of_gt hy.m)
  unfold dMul
  rw [a1, a2, a3, a4, b1, b2, b3, b4]
  simp only [Bool.or_false, Bool.false_and, Bool.false_eq_true, if_false, bne_self_eq_false]
  rw [← rung_rnd _ huv]
  unfold round word
  rw [if_neg hm, if_neg huv, refRung_eq _ _ hm, refRung_eq _ _ huv, if_neg (by decide), if_neg (by decide)]
  have g1 := plc_ge x
  have g2 := plc_ge y
  have s1 := rung_scale (mag x * mag y) ((plc x + 1074).toNat + (plc y + 1074).toNat) (-2148) hm
  have s2 := rung_scale (u * v) 2148 (-2148) huv
  rw [show (-2148 : Int) + (((plc x + 1074).toNat + (plc y + 1074).toNat : Nat) : Int) = plc x + plc y by omega] at s1
  rw [show (-2148 : Int) + ((2148 : Nat) : Int) = 0 by omega] at s2
  rw [← s1, ← s2]
  congr 1
  have e1 := hx.e
  have e2 := hy.e
  rw [Nat.pow_add, show (2 : Nat) ^ 2148 = 2 ^ 1074 * 2 ^ 1074 by rw [← Nat.pow_add]]
  generalize 2 ^ (plc x + 1074).toNat = X at *
  generalize 2 ^ (plc y + 1074).toNat = Y at *
  generalize 2 ^ 1074 = Z at *
  calc mag x * mag y * (X * Y) = mag x * X * (mag y * Y) := by ac_rfl
    _ = u * Z * (v * Z) := by rw [e1, e2]
    _ = u * v * (Z * Z) := by ac_rfl
/-- a quotient keeps its bits when both are multiplied -/
theorem quo_cross (m n a b k : Nat) (hn : 0 < n) (h : b ≤ k + a) : quo (m * 2 ^ a) (n * 2 ^ b) k = quo m n (k + a - b) := by
  have e : m * 2 ^ a * 2 ^ k * 1 = m * 2 ^ (k + a - b) * 2 ^ b := by
    rw [Nat.mul_one, Nat.mul_assoc, Nat.mul_assoc, ← Nat.pow_add, ← Nat.pow_add]; congr 2; omega
  have h1 : m * 2 ^ a * 2 ^ k * n = m * 2 ^ (k + a - b) * (n * 2 ^ b) := by
    rw [Nat.mul_one] at e; rw [e]; ac_rfl
  have hB : 0 < n * 2 ^ b := Nat.mul_pos hn (Nat.two_pow_pos _)
  obtain ⟨r1, r2⟩ := ratio hB hn h1
  unfold quo
  rw [r1]
  congr 1
  have : (m * 2 ^ a * 2 ^ k % (n * 2 ^ b) != 0) = (m * 2 ^ (k + a - b) % n != 0) := by
    rw [Bool.eq_iff_iff, bne_iff_ne, bne_iff_ne]
    refine not_congr ?_
    constructor
    · intro z; rw [z, Nat.zero_mul] at r2
      rcases Nat.mul_eq_zero.1 r2.symm with z | z
      · exact z
      · omega
    · intro z; rw [z, Nat.zero_mul] at r2
      rcases Nat.mul_eq_zero.1 r2 with z | z
      · exact z
      · omega
  rw [this]
theorem div_word {x y u v : Nat} (hx : Is x (u * 2 ^ 1074)) (hy : Is y (v * 2 ^ 1074)) (hv : 0 < v) : dDiv x y = rndN (u * 2 ^ 1074) v := by
  obtain ⟨a1, a2, a3, a4⟩ := hx.nan
  obtain ⟨b1, b2, b3, b4⟩ := hy.nan
  have hmx := hx.m
  have hmy := hy.m
  have hm53 := mag_lt y
  have g1 := plc_ge x
  have g2 := plc_ge y
  have hbig := quo_big (mag x) (mag y) 120 hmx hmy (by have := log2_small hm53; omega)
  unfold dDiv
  rw [a1, a2, a3, a4, b1, b2, b3, b4]
  simp only [Bool.or_false, Bool.false_and, Bool.false_eq_true, if_false, bne_self_eq_false]
  unfold round word
  have h0 : mag x * 2 ^ 120 / mag y ≠ 0 := by
    intro z; rw [z] at hbig; exact absurd hbig (by decide)
  rw [if_neg h0, if_neg (by decide), show plc x - 120 - plc y = (plc x - plc y) - 120 by omega, refRung_more _ _ _ (nb_ge hbig)]
  -- more bits, then the common powers of two
  obtain ⟨a, ha⟩ : ∃ a, (plc x + 1074).toNat = a := ⟨_, rfl⟩
  obtain ⟨b, hb⟩ : ∃ b, (plc y + 1074).toNat = b := ⟨_, rfl⟩
  have hab : plc x - plc y = (a : Int) - b := by omega
  obtain ⟨k, hk⟩ : ∃ k, k = 1200 + b := ⟨_, rfl⟩
  have hs := quo_same (mag x) (mag y) 120 (k + a - b - 120) (plc x - plc y - 120 - 1) hmy (by unfold quo; omega)
  have e1 : 2 * (mag x * 2 ^ 120 / mag y) + (mag x * 2 ^ 120 % mag y != 0).toNat = quo (mag x) (mag y) 120 := rfl
  rw [e1, ← hs.1, show 120 + (k + a - b - 120) = k + a - b by omega, ← quo_cross (mag x) (mag y) a b k hmy (by omega)]
  have ex := hx.e
  have ey := hy.e
  rw [ha] at ex
  rw [hb] at ey
  rw [ex, ey, show plc x - plc y - 120 - 1 - ((k + a - b - 120 : Nat) : Int) = -((k : Int) + 1) by omega]
  have hpos : 0 < v * 2 ^ 1074 := Nat.mul_pos hv (Nat.two_pow_pos _)
  have hq53 : 2 ^ 53 ≤ u * 2 ^ 1074 * 2 ^ k / (v * 2 ^ 1074) := by
    have hq := quo_cross (mag x) (mag y) a b k hmy (by omega)
    rw [ex, ey] at hq
    have h2 := hs.2
    rw [show 120 + (k + a - b - 120) = k + a - b by omega, ← hq] at h2
    unfold quo at h2
    have : (u * 2 ^ 1074 * 2 ^ k % (v * 2 ^ 1074) != 0).toNat ≤ 1 := by cases (u * 2 ^ 1074 * 2 ^ k % (v * 2 ^ 1074) != 0) <;> decide
    omega
  rw [quo_rnd (u * 2 ^ 1074) (v * 2 ^ 1074) k hpos (by omega) hq53]
  apply rndN_ratio hpos hv
  generalize 2 ^ 1074 = Z
  ac_rfl
end Go.Proofs.YthhlhiighgnkmaaGreatDoor.Nr
