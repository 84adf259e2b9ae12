/-
  MaL, MaM, MaN, MaO, MaP, MaQ, put together (a claim holds at most 60 files).
-/
import Derived.Test.YthhlhiighgnkmaaGreatDoorMaW
/-! ## MATHEMATICS: the document's search in its own numbers: places, digits, and what it hands back. -/
namespace Go.Proofs.YthhlhiighgnkmaaGreatDoor.Nr
set_option exponentiation.threshold 3000
theorem ratio {a b N D : Nat} (hb : 0 < b) (hD : 0 < D) (h : a * D = N * b) : a / b = N / D ∧ (a % b) * D = (N % D) * b := by
  constructor
  · rw [← Nat.mul_div_mul_right a b hD, h, Nat.mul_comm b D, Nat.mul_div_mul_right N D hb]
  · rw [← Nat.mul_mod_mul_right, ← Nat.mul_mod_mul_right, h, Nat.mul_comm b D]
theorem ratio_lt {a b N D : Nat} (hb : 0 < b) (hD : 0 < D) (h : a * D = N * b) : a < b ↔ N < D := by
  rw [← Nat.mul_lt_mul_right (a := D) hD, h, Nat.mul_comm b D, Nat.mul_lt_mul_right hb]
theorem ratio_two {a b N D : Nat} (hb : 0 < b) (hD : 0 < D) (h : a * D = N * b) : (2 * (a % b) < b ↔ 2 * (N % D) < D) ∧ (2 * (a % b) = b ↔ 2 * (N % D) = D) := by
  have h2 := (ratio hb hD h).2
  have h3 : 2 * (a % b) * D = 2 * (N % D) * b := by rw [Nat.mul_assoc, h2, Nat.mul_assoc]
  constructor
  · exact ratio_lt hb hD h3
  · constructor
    · intro e
      have : D * b = 2 * (N % D) * b := by rw [← h3, e, Nat.mul_comm]
      exact (Nat.eq_of_mul_eq_mul_right hb this).symm
    · intro e
      have : b * D = 2 * (a % b) * D := by rw [h3, e, Nat.mul_comm]
      exact (Nat.eq_of_mul_eq_mul_right hD this).symm
theorem near_ratio {a b N D : Nat} (hb : 0 < b) (hD : 0 < D) (h : a * D = N * b) : near a b = near N D := by
  have h1 := (ratio hb hD h).1
  obtain ⟨h2, h3⟩ := ratio_two hb hD h
  unfold near
  rw [h1]
  congr 1
  have e : (b < 2 * (a % b) ∨ (b = 2 * (a % b) ∧ N / D % 2 = 1)) ↔ (D < 2 * (N % D) ∨ (D = 2 * (N % D) ∧ N / D % 2 = 1)) := by omega
  by_cases hc : D < 2 * (N % D) ∨ (D = 2 * (N % D) ∧ N / D % 2 = 1)
  · rw [if_pos hc, if_pos (e.2 hc)]
  · rw [if_neg hc, if_neg (fun k => hc (e.1 k))]
/-- a power of two or of ten, moved over -/
theorem two_bal (sh : Nat) : 2 ^ ((sh : Int) - 1074).toNat * 2 ^ 1074 = 2 ^ (1074 - (sh : Int)).toNat * 2 ^ sh := by
  rw [← Nat.pow_add, ← Nat.pow_add]; congr 1; omega
theorem ten_bal (p t : Int) (ht : 0 ≤ t) : 10 ^ (p - t).toNat * 10 ^ t.toNat * 10 ^ (-p).toNat = 10 ^ (t - p).toNat * 10 ^ p.toNat := by
  rw [← Nat.pow_add, ← Nat.pow_add, ← Nat.pow_add]; congr 1; omega
theorem swap_last {a b c d X : Nat} (hX : 0 < X) (h : a * b * X = c * d * X) : a * b = c * d := Nat.eq_of_mul_eq_mul_right hX h
/-- the numerator and the denominator of M 2^(sh-1074) 10^x -/
def numE (M sh : Nat) (x : Int) : Nat := M * 2 ^ ((sh : Int) - 1074).toNat * 10 ^ x.toNat
def denE (sh : Nat) (x : Int) : Nat := 2 ^ (1074 - (sh : Int)).toNat * 10 ^ (-x).toNat
theorem denE_pos (sh : Nat) (x : Int) : 0 < denE sh x := Nat.mul_pos (Nat.two_pow_pos _) (Nat.pow_pos (by decide))
section
variable {M sh : Nat}
/-- the value, times 10^(p-t): as Go's units -/
theorem units {sk : Bool} (hsh : sh ≤ 2045) (j : Int) :
    numE M sh (pE sk ((sh : Int) - 1074) - j) * (bE sk sh * 10 ^ j.toNat) = M * aE sk sh * 10 ^ (-j).toNat * denE sh (pE sk ((sh : Int) - 1074) - j) := by
  have F := fits sk sh hsh
  have eq := F.eq
  generalize pE sk ((sh : Int) - 1074) = p at *
  generalize aE sk sh = A at *
  generalize bE sk sh = B at *
  have hX : 0 < 10 ^ (-p).toNat * 2 ^ 1074 := Nat.mul_pos (Nat.pow_pos (by decide)) (Nat.two_pow_pos _)
  apply Nat.eq_of_mul_eq_mul_right hX
  unfold numE denE
  have b2 := two_bal sh
  have b10 : 10 ^ (p - j).toNat * 10 ^ j.toNat * 10 ^ (-p).toNat = 10 ^ (-j).toNat * 10 ^ (-(p - j)).toNat * 10 ^ p.toNat := by
    rw [← Nat.pow_add, ← Nat.pow_add, ← Nat.pow_add, ← Nat.pow_add]; congr 1; omega
  generalize 2 ^ ((sh : Int) - 1074).toNat = u1 at *
  generalize 2 ^ (1074 - (sh : Int)).toNat = u2 at *
  generalize 2 ^ 1074 = u3 at *
  generalize 2 ^ sh = u4 at *
  generalize 10 ^ (p - j).toNat = t1 at *
  generalize 10 ^ j.toNat = t2 at *
  generalize 10 ^ (-p).toNat = t3 at *
  generalize 10 ^ (-j).toNat = t4 at *
  generalize 10 ^ (-(p - j)).toNat = t5 at *
  generalize 10 ^ p.toNat = t6 at *
  calc M * u1 * t1 * (B * t2) * (t3 * u3) = M * B * (u1 * u3) * (t1 * t2 * t3) := by ac_rfl
    _ = M * B * (u2 * u4) * (t4 * t5 * t6) := by rw [b2, b10]
    _ = M * t4 * (u2 * t5) * (B * t6 * u4) := by ac_rfl
    _ = M * t4 * (u2 * t5) * (A * t3 * u3) := by rw [eq]
    _ = M * A * t4 * (u2 * t5) * (t3 * u3) := by ac_rfl
/-- a decimal's place among Go's units -/
theorem units_dec {sk : Bool} (hsh : sh ≤ 2045) (t y : Nat) :
    aE sk sh * (y * 10 ^ ((t : Int) - pE sk ((sh : Int) - 1074)).toNat * 2 ^ 1074) = 10 ^ t * y * bE sk sh * (10 ^ (pE sk ((sh : Int) - 1074) - (t : Int)).toNat * 2 ^ sh) := by
  have F := fits sk sh hsh
  have eq := F.eq
  generalize pE sk ((sh : Int) - 1074) = p at *
  generalize aE sk sh = A at *
  generalize bE sk sh = B at *
  have hX : 0 < 10 ^ (-p).toNat := Nat.pow_pos (by decide)
  apply Nat.eq_of_mul_eq_mul_right hX
  have b10 := ten_bal p t (by omega)
  rw [Int.toNat_natCast] at b10
  generalize 2 ^ 1074 = u3 at *
  generalize 2 ^ sh = u4 at *
  generalize 10 ^ (p - (t : Int)).toNat = t1 at *
  generalize 10 ^ t = t2 at *
  generalize 10 ^ (-p).toNat = t3 at *
  generalize 10 ^ ((t : Int) - p).toNat = t5 at *
  generalize 10 ^ p.toNat = t6 at *
  calc A * (y * t5 * u3) * t3 = y * t5 * (A * t3 * u3) := by ac_rfl
    _ = y * t5 * (B * t6 * u4) := by rw [eq]
    _ = y * B * u4 * (t5 * t6) := by ac_rfl
    _ = y * B * u4 * (t1 * t2 * t3) := by rw [b10]
    _ = t2 * y * B * (t1 * u4) * t3 := by ac_rfl
/-- the digits of Go's units -/
def nF (M sh : Nat) : Nat := (dd (M * aE (skew M sh) sh / bE (skew M sh) sh)).length
/-- where the point stands -/
def kE (M sh : Nat) : Int := (nF M sh : Int) - pE (skew M sh) ((sh : Int) - 1074)
theorem skew_even (M sh : Nat) : skew M sh = true → M % 2 = 0 := by
  intro h; unfold skew at h; have := of_decide_eq_true h; rw [this.1]
theorem m0_pos (_hn : Norm M sh) (hM : 1 ≤ M) (hsh : sh ≤ 2045) : 1 ≤ M * aE (skew M sh) sh / bE (skew M sh) sh := by
  have hw := (fits (skew M sh) sh hsh).wide
  rw [Nat.le_div_iff_mul_le (bE_pos _ _), Nat.one_mul]
  have hMA : aE (skew M sh) sh ≤ M * aE (skew M sh) sh := Nat.le_mul_of_pos_left _ hM
  unfold Wide at hw
  by_cases hs : skew M sh = true
  · have h52 : M = 2 ^ 52 := by unfold skew at hs; exact (of_decide_eq_true hs).1
    rw [if_pos hs] at hw
    have h2 : 2 * aE (skew M sh) sh ≤ M * aE (skew M sh) sh := Nat.mul_le_mul_right _ (by omega)
    omega
  · rw [if_neg hs] at hw; omega
theorem nF_pos : 1 ≤ nF M sh := dd_len_pos _
theorem nF_le (hn : Norm M sh) (hM : 1 ≤ M) (hsh : sh ≤ 2045) : nF M sh ≤ 18 := by
  have hw := (fits (skew M sh) sh hsh).wide
  have hB := bE_pos (skew M sh) sh
  have h1 : M * aE (skew M sh) sh < 10 ^ 18 * bE (skew M sh) sh := by
    have h14 : aE (skew M sh) sh ≤ 14 * bE (skew M sh) sh := by
      unfold Wide at hw
      split at hw <;> omega
    have hm := hn.1
    calc M * aE (skew M sh) sh ≤ M * (14 * bE (skew M sh) sh) := Nat.mul_le_mul_left _ h14
      _ = M * 14 * bE (skew M sh) sh := (Nat.mul_assoc _ _ _).symm
      _ < 10 ^ 18 * bE (skew M sh) sh := Nat.mul_lt_mul_of_pos_right (by omega) hB
  have h2 : M * aE (skew M sh) sh / bE (skew M sh) sh < 10 ^ 18 := (Nat.div_lt_iff_lt_mul hB).2 h1
  have h3 := dd_ge _ _ (Nat.le_refl _) (m0_pos hn hM hsh)
  have : 10 ^ (nF M sh - 1) < 10 ^ 18 := Nat.lt_of_le_of_lt h3 h2
  have := (Nat.pow_lt_pow_iff_right (a := 10) (by decide)).1 this
  omega
/-- the document's under -/
theorem under_iff (hn : Norm M sh) (hM : 1 ≤ M) (hsh : sh ≤ 2045) (k : Int) : numE M sh (-k) < denE sh (-k) ↔ kE M sh ≤ k := by
  have hB := bE_pos (skew M sh) sh
  obtain ⟨j, hj⟩ : ∃ j : Int, k + pE (skew M sh) ((sh : Int) - 1074) = j := ⟨_, rfl⟩
  have hk : -k = pE (skew M sh) ((sh : Int) - 1074) - j := by omega
  have hu := units (M := M) (sk := skew M sh) hsh j
  have h10 : 0 < 10 ^ j.toNat := Nat.pow_pos (by decide)
  rw [hk, ratio_lt (denE_pos _ _) (Nat.mul_pos hB h10) hu]
  have h1 := m0_pos hn hM hsh
  have hlo := dd_ge _ _ (Nat.le_refl _) h1
  have hhi := dd_lt (M * aE (skew M sh) sh / bE (skew M sh) sh) _ (Nat.le_refl _)
  have hkE : kE M sh ≤ k ↔ (nF M sh : Int) ≤ j := by unfold kE; omega
  rw [hkE]
  unfold nF
  by_cases hj0 : 0 ≤ j
  · rw [show (-j).toNat = 0 by omega, Nat.pow_zero, Nat.mul_one, Nat.mul_comm (bE _ _), ← Nat.div_lt_iff_lt_mul hB]
    constructor
    · intro h
      have := (Nat.pow_lt_pow_iff_right (a := 10) (by decide)).1 (Nat.lt_of_le_of_lt hlo h)
      omega
    · intro h
      exact Nat.lt_of_lt_of_le hhi (Nat.pow_le_pow_right (by decide) (by omega))
  · have hpos := nF_pos (M := M) (sh := sh)
    unfold nF at hpos
    rw [show j.toNat = 0 by omega, Nat.pow_zero, Nat.mul_one]
    constructor
    · intro h
      have h2 : M * aE (skew M sh) sh ≤ M * aE (skew M sh) sh * 10 ^ (-j).toNat := Nat.le_mul_of_pos_right _ (Nat.pow_pos (by decide))
      rw [Nat.le_div_iff_mul_le hB, Nat.one_mul] at h1
      omega
    · intro h; omega
/-- the document's first guess at the places -/
def guess (z : Int) : Int := Int.tdiv (z * 30103) 100000 - 2
def okGuess (i : Nat) : Bool := Nat.ble (2 ^ (-((i : Int) - 1074)).toNat * 10 ^ (guess ((i : Int) - 1074) - 1).toNat) (2 ^ ((i : Int) - 1074).toNat * 10 ^ (-(guess ((i : Int) - 1074) - 1)).toNat)
set_option maxRecDepth 100000 in
theorem okGuess_all : allP okGuess 2098 0 = true := by decide +kernel
/-- the guess is not above -/
theorem guess_le (hn : Norm M sh) (hM : 1 ≤ M) (hsh : sh ≤ 2045) : guess ((nb M : Int) + ((sh : Int) - 1074) - 1) ≤ kE M sh := by
  have hnb1 : 2 ^ (nb M - 1) ≤ M := by
    exact nb_le (by omega)
  have hnb2 : nb M ≤ 53 := (nb_le_iff M 53).2 hn.1
  have hnb0 : 1 ≤ nb M := by
    have := nb_ge (k := 0) (n := M) hM
    omega
  obtain ⟨i, hi⟩ : ∃ i : Nat, nb M + sh - 1 = i := ⟨_, rfl⟩
  have hok := allP_at okGuess_all i (by omega) (by omega)
  unfold okGuess at hok
  rw [Nat.ble_eq, show (i : Int) - 1074 = (nb M : Int) + ((sh : Int) - 1074) - 1 by omega] at hok
  generalize hg : guess ((nb M : Int) + ((sh : Int) - 1074) - 1) = g at hok ⊢
  have hnu : ¬ kE M sh ≤ g - 1 := by
    rw [← under_iff hn hM hsh]
    unfold numE denE
    rw [Nat.not_lt, Int.neg_neg]
    have e1 : 2 ^ ((nb M : Int) + ((sh : Int) - 1074) - 1).toNat * 2 ^ (1074 - (sh : Int)).toNat = 2 ^ (-((nb M : Int) + ((sh : Int) - 1074) - 1)).toNat * (2 ^ (nb M - 1) * 2 ^ ((sh : Int) - 1074).toNat) := by
      rw [← Nat.pow_add, ← Nat.pow_add, ← Nat.pow_add]; congr 1; omega
    have hX : 0 < 2 ^ (-((nb M : Int) + ((sh : Int) - 1074) - 1)).toNat := Nat.two_pow_pos _
    apply Nat.le_of_mul_le_mul_left _ hX
    generalize 2 ^ (-((nb M : Int) + ((sh : Int) - 1074) - 1)).toNat = x1 at *
    generalize 2 ^ ((nb M : Int) + ((sh : Int) - 1074) - 1).toNat = x2 at *
    generalize 2 ^ (1074 - (sh : Int)).toNat = x3 at *
    generalize 2 ^ ((sh : Int) - 1074).toNat = x4 at *
    generalize 10 ^ (g - 1).toNat = y1 at *
    generalize 10 ^ (-(g - 1)).toNat = y2 at *
    generalize 2 ^ (nb M - 1) = x5 at *
    calc x1 * (x3 * y1) = x3 * (x1 * y1) := by ac_rfl
      _ ≤ x3 * (x2 * y2) := Nat.mul_le_mul_left _ hok
      _ = x2 * x3 * y2 := by ac_rfl
      _ = x1 * (x5 * x4) * y2 := by rw [e1]
      _ ≤ x1 * (M * x4) * y2 := Nat.mul_le_mul_right _ (Nat.mul_le_mul_left _ (Nat.mul_le_mul_right _ hnb1))
      _ = x1 * (M * x4 * y2) := by ac_rfl
  omega
/-- the document's digits -/
theorem digits_iff (hsh : sh ≤ 2045) (n t : Nat) (ht : n + t = nF M sh) :
    numE M sh ((n : Int) - kE M sh) / denE sh ((n : Int) - kE M sh) = M * aE (skew M sh) sh / (bE (skew M sh) sh * 10 ^ t) ∧
    (2 * (numE M sh ((n : Int) - kE M sh) % denE sh ((n : Int) - kE M sh)) < denE sh ((n : Int) - kE M sh) ↔ 2 * (M * aE (skew M sh) sh % (bE (skew M sh) sh * 10 ^ t)) < bE (skew M sh) sh * 10 ^ t) ∧
    (2 * (numE M sh ((n : Int) - kE M sh) % denE sh ((n : Int) - kE M sh)) = denE sh ((n : Int) - kE M sh) ↔ 2 * (M * aE (skew M sh) sh % (bE (skew M sh) sh * 10 ^ t)) = bE (skew M sh) sh * 10 ^ t) := by
  have hk : (n : Int) - kE M sh = pE (skew M sh) ((sh : Int) - 1074) - t := by unfold kE; omega
  have hu := units (M := M) (sk := skew M sh) hsh t
  rw [Int.toNat_natCast, show (-(t : Int)).toNat = 0 by omega, Nat.pow_zero, Nat.mul_one] at hu
  rw [hk]
  have hD : 0 < bE (skew M sh) sh * 10 ^ t := Nat.mul_pos (bE_pos _ _) (Nat.pow_pos (by decide))
  exact ⟨(ratio (denE_pos _ _) hD hu).1, ratio_two (denE_pos _ _) hD hu⟩
/-- y times 10^x, in multiples of the least double: numerator and denominator -/
def decN (y : Nat) (x : Int) : Nat := y * 10 ^ x.toNat * 2 ^ 1074
def decD (x : Int) : Nat := 10 ^ (-x).toNat
theorem decD_pos (x : Int) : 0 < decD x := Nat.pow_pos (by decide)
/-- the document's test of a decimal -/
theorem decimal_iff (hn : Norm M sh) (hM : 1 ≤ M) (hsh : sh ≤ 2045) (n t y : Nat) (ht : n + t = nF M sh) :
    rndN (decN y (kE M sh - n)) (decD (kE M sh - n)) = sh * 2 ^ 52 + M ↔ InU (skew M sh) M (aE (skew M sh) sh) (bE (skew M sh) sh) (10 ^ t * y) := by
  have hm := hn.1
  rw [rnd_iff (decD_pos _) hn hM (by omega)]
  have hk : kE M sh - n = t - pE (skew M sh) ((sh : Int) - 1074) := by unfold kE; omega
  unfold decN decD
  rw [hk, show -((t : Int) - pE (skew M sh) ((sh : Int) - 1074)) = pE (skew M sh) ((sh : Int) - 1074) - t by omega]
  exact inR_inU (Nat.pow_pos (by decide)) (aE_pos _ _) (units_dec hsh t y)
/-- what is shown: digits, and where the point stands -/
def shownE (M sh : Nat) : List Nat × Int := canon (pick (skew M sh) M (aE (skew M sh) sh) (bE (skew M sh) sh)) (-pE (skew M sh) ((sh : Int) - 1074))
/-- the last grid has one that is in -/
theorem last_in (hsh : sh ≤ 2045) : Mem (skew M sh) M (aE (skew M sh) sh) (bE (skew M sh) sh) 0 := by
  have := in_some (M := M) (bE_pos (skew M sh) sh) (fits (skew M sh) sh hsh).wide (skew_even M sh)
  unfold Mem
  rw [Nat.pow_zero, Nat.one_mul, Nat.one_mul, Nat.mul_one]
  exact this
/-- what the document hands back at its first grid with a decimal that is in -/
theorem search_end (hn : Norm M sh) (hM : 1 ≤ M) (hsh : sh ≤ 2045) (n t q y : Nat) (ht : n + t = nF M sh) (h1 : 1 ≤ n)
    (hno : ∀ n' t', 1 ≤ n' → n' < n → n' + t' = nF M sh → ¬ Mem (skew M sh) M (aE (skew M sh) sh) (bE (skew M sh) sh) t')
    (hq : q = M * aE (skew M sh) sh / (bE (skew M sh) sh * 10 ^ t))
    (hin : InU (skew M sh) M (aE (skew M sh) sh) (bE (skew M sh) sh) (10 ^ t * y))
    (hy : (y = q ∧ (InU (skew M sh) M (aE (skew M sh) sh) (bE (skew M sh) sh) (10 ^ t * (q + 1)) → 2 * (M * aE (skew M sh) sh % (bE (skew M sh) sh * 10 ^ t)) < bE (skew M sh) sh * 10 ^ t ∨ 2 * (M * aE (skew M sh) sh % (bE (skew M sh) sh * 10 ^ t)) = bE (skew M sh) sh * 10 ^ t ∧ q % 2 = 0)) ∨
      (y = q + 1 ∧ (InU (skew M sh) M (aE (skew M sh) sh) (bE (skew M sh) sh) (10 ^ t * q) → ¬ (2 * (M * aE (skew M sh) sh % (bE (skew M sh) sh * 10 ^ t)) < bE (skew M sh) sh * 10 ^ t ∨ 2 * (M * aE (skew M sh) sh % (bE (skew M sh) sh * 10 ^ t)) = bE (skew M sh) sh * 10 ^ t ∧ q % 2 = 0)))) :
    shownE M sh = (if n < (dd y).length then [49] else dd y, if n < (dd y).length then kE M sh + 1 else kE M sh) ∧ 0 < y ∧ (y = q → (dd y).length = n) := by
  have htn : nF M sh - n = t := by omega
  have key := found (n := n) (y := y) hn hM hsh h1 (show n ≤ nF M sh by omega)
    (by
      intro n' a b
      exact hno n' (nF M sh - n') a b (by have : n ≤ nF M sh := by omega
                                          omega))
    (by
      rw [show (dd (M * aE (skew M sh) sh / bE (skew M sh) sh)).length - n = t from htn, ← hq]
      rcases hy with ⟨h, _⟩ | ⟨h, _⟩
      · exact Or.inl h
      · exact Or.inr h)
    (by rw [show (dd (M * aE (skew M sh) sh / bE (skew M sh) sh)).length - n = t from htn]; exact hin)
    (by
      rw [show (dd (M * aE (skew M sh) sh / bE (skew M sh) sh)).length - n = t from htn, ← hq]
      intro i1 i2
      unfold near
      rw [← hq]
      rcases hy with ⟨rfl, h⟩ | ⟨rfl, h⟩
      · have := h i2
        rw [if_neg (by omega), Nat.add_zero]
      · have := h i1
        rw [if_pos (by omega)])
  rw [show (dd (M * aE (skew M sh) sh / bE (skew M sh) sh)).length - n = t from htn] at key
  obtain ⟨k1, k2, k3, k4, k5⟩ := key
  refine ⟨?_, k2, ?_⟩
  · unfold shownE
    rw [← k1, canon_pow k2]
    have hkE : kE M sh = (n : Int) + t - pE (skew M sh) ((sh : Int) - 1074) := by unfold kE; omega
    rw [hkE]
    by_cases hl : n < (dd y).length
    · rw [if_pos hl, if_pos hl, k4 (by omega), canon_one]
      congr 1; omega
    · rw [if_neg hl, if_neg hl]
      obtain ⟨a, b⟩ := k5 (by omega)
      unfold canon
      rw [dd_strip b, a]
      congr 1; omega
  · intro hyq
    apply Classical.byContradiction
    intro hne
    have hl : (dd y).length = n + 1 := by
      apply Classical.byContradiction
      intro h
      exact hne (k5 (by omega)).1
    have h10 := k4 hl
    -- q is below 10^n
    have hB := bE_pos (skew M sh) sh
    have hhi := dd_lt (M * aE (skew M sh) sh / bE (skew M sh) sh) _ (Nat.le_refl _)
    have hqlt : q < 10 ^ n := by
      rw [hq, div_grid, Nat.div_lt_iff_lt_mul (Nat.pow_pos (by decide)), ← Nat.pow_add, ht]; exact hhi
    omega
/-- Go's own answer -/
theorem shownE_go (_hn : Norm M sh) (hM : 1 ≤ M) (hsh : sh ≤ 2045) :
    shownE M sh = (if dmin (skew M sh) M (aE (skew M sh) sh) (bE (skew M sh) sh) ≤ dmax M (aE (skew M sh) sh) (bE (skew M sh) sh) / 10 * 10 then canon (dmax M (aE (skew M sh) sh) (bE (skew M sh) sh) / 10) (-(pE (skew M sh) ((sh : Int) - 1074) - 1))
      else canon (pick (skew M sh) M (aE (skew M sh) sh) (bE (skew M sh) sh)) (-pE (skew M sh) ((sh : Int) - 1074))) := by
  unfold shownE
  split
  · rename_i h
    have hp := pick_pos (bE_pos (skew M sh) sh) (aE_pos (skew M sh) sh) hM (fits (skew M sh) sh hsh).wide (skew_even M sh)
    unfold pick at hp ⊢
    rw [if_pos h] at hp ⊢
    rw [Nat.mul_comm, canon_ten (by omega)]
    congr 1; omega
  · rfl
end
end Go.Proofs.YthhlhiighgnkmaaGreatDoor.Nr
/-! ## MATHEMATICS: what is shown: its digits, how many, what they are read as, and that one fewer is not. -/
namespace Go.Proofs.YthhlhiighgnkmaaGreatDoor.Nr
set_option exponentiation.threshold 3000
theorem least_one {p : Nat → Prop} : ∀ m : Nat, 1 ≤ m → p m → ∃ n, 1 ≤ n ∧ n ≤ m ∧ p n ∧ ∀ k, 1 ≤ k → k < n → ¬ p k := by
  intro m
  induction m using Nat.strongRecOn with
  | ind m ih =>
    intro h1 hp
    by_cases h : ∃ k, 1 ≤ k ∧ k < m ∧ p k
    · obtain ⟨k, a, b, c⟩ := h
      obtain ⟨n, n1, n2, n3, n4⟩ := ih k b a c
      exact ⟨n, n1, by omega, n3, n4⟩
    · exact ⟨m, h1, Nat.le_refl _, hp, fun k a b c => h ⟨k, a, b, c⟩⟩
theorem strip_end : ∀ (n : Nat) (l : List Nat), l.length = n → ∀ l', strip l ≠ l' ++ [48] := by
  intro n
  induction n with
  | zero =>
    intro l hl l' h
    rw [List.length_eq_zero_iff.1 hl] at h
    have := congrArg List.length h
    simp [strip] at this
  | succ n ih =>
    intro l hl l' h
    rcases List.eq_nil_or_concat l with rfl | ⟨L, b, rfl⟩
    · simp at hl
    · by_cases hb : b = 48
      · subst hb
        rw [List.concat_eq_append] at h hl
        rw [strip_nought] at h
        exact ih L (by simpa using hl) l' h
      · rw [List.concat_eq_append, strip_other _ hb] at h
        have := (List.append_inj' h rfl).2
        simp at this
        exact hb this
theorem dd_digs : ∀ (n u : Nat), u ≤ n → ∀ c ∈ dd u, 48 ≤ c ∧ c ≤ 57 := by
  intro n
  induction n with
  | zero =>
    intro u hu c hc
    rw [dd_small (by omega)] at hc
    simp at hc; omega
  | succ n ih =>
    intro u hu c hc
    by_cases h : u < 10
    · rw [dd_small h] at hc
      simp at hc; omega
    · rw [dd_big h, List.mem_append] at hc
      rcases hc with hc | hc
      · exact ih (u / 10) (by omega) c hc
      · simp at hc; omega
theorem dd_head : ∀ (n u : Nat), u ≤ n → 0 < u → ∃ c tl, dd u = c :: tl ∧ 49 ≤ c ∧ c ≤ 57 := by
  intro n
  induction n with
  | zero => intro u hu h0; omega
  | succ n ih =>
    intro u hu h0
    by_cases h : u < 10
    · exact ⟨48 + u, [], dd_small h, by omega, by omega⟩
    · obtain ⟨c, tl, h1, h2⟩ := ih (u / 10) (by omega) (by omega)
      exact ⟨c, tl ++ [48 + u % 10], by rw [dd_big h, h1]; rfl, h2⟩
section
variable {M sh : Nat}
theorem pE_bounds (hsh : sh ≤ 2045) : -400 ≤ pE (skew M sh) ((sh : Int) - 1074) ∧ pE (skew M sh) ((sh : Int) - 1074) ≤ 400 := by
  have F := fits (skew M sh) sh hsh
  have := F.ei
  have := F.i1
  have := F.i2
  constructor <;> omega
/-- the first grid with a decimal that is in -/
theorem grid_end (hn : Norm M sh) (hM : 1 ≤ M) (hsh : sh ≤ 2045) (n t q y : Nat) (ht : n + t = nF M sh) (h1 : 1 ≤ n)
    (hno : ∀ n' t', 1 ≤ n' → n' < n → n' + t' = nF M sh → ¬ Mem (skew M sh) M (aE (skew M sh) sh) (bE (skew M sh) sh) t')
    (hq : q = M * aE (skew M sh) sh / (bE (skew M sh) sh * 10 ^ t))
    (hin : InU (skew M sh) M (aE (skew M sh) sh) (bE (skew M sh) sh) (10 ^ t * y))
    (hy : (y = q ∧ (InU (skew M sh) M (aE (skew M sh) sh) (bE (skew M sh) sh) (10 ^ t * (q + 1)) → 2 * (M * aE (skew M sh) sh % (bE (skew M sh) sh * 10 ^ t)) < bE (skew M sh) sh * 10 ^ t ∨ 2 * (M * aE (skew M sh) sh % (bE (skew M sh) sh * 10 ^ t)) = bE (skew M sh) sh * 10 ^ t ∧ q % 2 = 0)) ∨
      (y = q + 1 ∧ (InU (skew M sh) M (aE (skew M sh) sh) (bE (skew M sh) sh) (10 ^ t * q) → ¬ (2 * (M * aE (skew M sh) sh % (bE (skew M sh) sh * 10 ^ t)) < bE (skew M sh) sh * 10 ^ t ∨ 2 * (M * aE (skew M sh) sh % (bE (skew M sh) sh * 10 ^ t)) = bE (skew M sh) sh * 10 ^ t ∧ q % 2 = 0)))) :
    shownE M sh = (if n < (dd y).length then [49] else dd y, if n < (dd y).length then kE M sh + 1 else kE M sh) ∧ 0 < y ∧
      (dd y).length ≤ n + 1 ∧ ((dd y).length = n + 1 → y = 10 ^ n) ∧ ((dd y).length ≤ n → (dd y).length = n ∧ y % 10 ≠ 0) := by
  have htn : nF M sh - n = t := by omega
  have key := found (n := n) (y := y) hn hM hsh h1 (show n ≤ nF M sh by omega)
    (by
      intro n' a b
      exact hno n' (nF M sh - n') a b (by have : n ≤ nF M sh := by omega
                                          omega))
    (by
      rw [show (dd (M * aE (skew M sh) sh / bE (skew M sh) sh)).length - n = t from htn, ← hq]
      rcases hy with ⟨h, _⟩ | ⟨h, _⟩
      · exact Or.inl h
      · exact Or.inr h)
    (by rw [show (dd (M * aE (skew M sh) sh / bE (skew M sh) sh)).length - n = t from htn]; exact hin)
    (by
      rw [show (dd (M * aE (skew M sh) sh / bE (skew M sh) sh)).length - n = t from htn, ← hq]
      intro i1 i2
      unfold near
      rw [← hq]
      rcases hy with ⟨rfl, h⟩ | ⟨rfl, h⟩
      · have := h i2
        rw [if_neg (by omega), Nat.add_zero]
      · have := h i1
        rw [if_pos (by omega)])
  have hse := (search_end hn hM hsh n t q y ht h1 hno hq hin hy).1
  exact ⟨hse, key.2.1, key.2.2.1, key.2.2.2.1, key.2.2.2.2⟩
theorem near_cross {a b N D : Nat} (hb : 0 < b) (hD : 0 < D) (h : a * D = N * b) : near a b = near N D := near_ratio hb hD h
/-- rounding hangs on the quotient alone -/
theorem rndN_ratio {a b N D : Nat} (hb : 0 < b) (hD : 0 < D) (h : a * D = N * b) : rndN a b = rndN N D := by
  unfold rndN shN
  rw [(ratio hb hD h).1]
  have h2 : a * (D * 2 ^ (nb (N / D) - 53)) = N * (b * 2 ^ (nb (N / D) - 53)) := by rw [← Nat.mul_assoc, h, Nat.mul_assoc]
  rw [near_ratio (Nat.mul_pos hb (Nat.two_pow_pos _)) (Nat.mul_pos hD (Nat.two_pow_pos _)) h2]
/-- one place further on, ten times as many -/
theorem dec_ten (z : Nat) (x : Int) : decN z x * decD (x - (1 : Nat)) = decN (10 * z) (x - (1 : Nat)) * decD x := by
  unfold decN decD
  generalize 2 ^ 1074 = T
  by_cases hx : 1 ≤ x
  · rw [show (-(x - ((1 : Nat) : Int))).toNat = 0 by omega, show (-x).toNat = 0 by omega, show x.toNat = (x - ((1 : Nat) : Int)).toNat + 1 by omega, Nat.pow_succ]
    generalize 10 ^ (x - ((1 : Nat) : Int)).toNat = A
    rw [Nat.pow_zero, Nat.mul_one, Nat.mul_one]
    ac_rfl
  · rw [show (x - ((1 : Nat) : Int)).toNat = 0 by omega, show x.toNat = 0 by omega, show (-(x - ((1 : Nat) : Int))).toNat = (-x).toNat + 1 by omega, Nat.pow_succ]
    generalize 10 ^ (-x).toNat = A
    rw [Nat.pow_zero, Nat.mul_one, Nat.mul_one]
    ac_rfl
/-- what is shown -/
structure Told (M sh y : Nat) (k : Int) : Prop where
  e : shownE M sh = (dd y, k)
  pos : 0 < y
  last : y % 10 ≠ 0
  len : (dd y).length ≤ 18
  k1 : -400 ≤ k
  k2 : k ≤ 420
  back : rndN (decN y (k - (dd y).length)) (decD (k - (dd y).length)) = sh * 2 ^ 52 + M
  few : 2 ≤ (dd y).length → rndN (decN (y / 10) (k - ((dd y).length - 1 : Nat))) (decD (k - ((dd y).length - 1 : Nat))) ≠ sh * 2 ^ 52 + M
theorem told (hn : Norm M sh) (hM : 1 ≤ M) (hsh : sh ≤ 2045) : ∃ y k, Told M sh y k := by
  obtain ⟨n, n1, n2, n3, n4⟩ := least_one (p := fun n => ∀ t, n + t = nF M sh → Mem (skew M sh) M (aE (skew M sh) sh) (bE (skew M sh) sh) t) (nF M sh) nF_pos (fun t ht => by
    rw [show t = 0 by omega]; exact last_in hsh)
  obtain ⟨t, ht⟩ : ∃ t, n + t = nF M sh := ⟨nF M sh - n, by omega⟩
  have hmem := n3 t ht
  have hno : ∀ n' t', 1 ≤ n' → n' < n → n' + t' = nF M sh → ¬ Mem (skew M sh) M (aE (skew M sh) sh) (bE (skew M sh) sh) t' := fun n' t' a b c d =>
    n4 n' a b (fun t2 h2 => by rw [show t2 = t' by omega]; exact d)
  have hnF := nF_le hn hM hsh
  have hp := pE_bounds (M := M) (sh := sh) hsh
  have hkE : kE M sh = (nF M sh : Int) - pE (skew M sh) ((sh : Int) - 1074) := rfl
  obtain ⟨q, hq⟩ : ∃ q, q = M * aE (skew M sh) sh / (bE (skew M sh) sh * 10 ^ t) := ⟨_, rfl⟩
  have hmem' : InU (skew M sh) M (aE (skew M sh) sh) (bE (skew M sh) sh) (10 ^ t * q) ∨ InU (skew M sh) M (aE (skew M sh) sh) (bE (skew M sh) sh) (10 ^ t * (q + 1)) := by
    rw [hq]; exact hmem
  have key : ∃ y, InU (skew M sh) M (aE (skew M sh) sh) (bE (skew M sh) sh) (10 ^ t * y) ∧
      shownE M sh = (if n < (dd y).length then [49] else dd y, if n < (dd y).length then kE M sh + 1 else kE M sh) ∧ 0 < y ∧
      (dd y).length ≤ n + 1 ∧ ((dd y).length = n + 1 → y = 10 ^ n) ∧ ((dd y).length ≤ n → (dd y).length = n ∧ y % 10 ≠ 0) := by
    by_cases hside : (2 * (M * aE (skew M sh) sh % (bE (skew M sh) sh * 10 ^ t)) < bE (skew M sh) sh * 10 ^ t ∨ 2 * (M * aE (skew M sh) sh % (bE (skew M sh) sh * 10 ^ t)) = bE (skew M sh) sh * 10 ^ t ∧ q % 2 = 0)
    · by_cases hb : InU (skew M sh) M (aE (skew M sh) sh) (bE (skew M sh) sh) (10 ^ t * q)
      · exact ⟨q, hb, grid_end hn hM hsh n t q q ht n1 hno hq hb (.inl ⟨rfl, fun _ => hside⟩)⟩
      · have ha := hmem'.resolve_left hb
        exact ⟨q + 1, ha, grid_end hn hM hsh n t q (q + 1) ht n1 hno hq ha (.inr ⟨rfl, fun h => absurd h hb⟩)⟩
    · by_cases ha : InU (skew M sh) M (aE (skew M sh) sh) (bE (skew M sh) sh) (10 ^ t * (q + 1))
      · exact ⟨q + 1, ha, grid_end hn hM hsh n t q (q + 1) ht n1 hno hq ha (.inr ⟨rfl, fun _ => hside⟩)⟩
      · have hb := hmem'.resolve_right ha
        exact ⟨q, hb, grid_end hn hM hsh n t q q ht n1 hno hq hb (.inl ⟨rfl, fun h => absurd h ha⟩)⟩
  obtain ⟨y, hin, hsE, hy0, k3, k4, k5⟩ := key
  have hback := (decimal_iff hn hM hsh n t y ht).2 hin
  by_cases hl : n < (dd y).length
  · rw [if_pos hl, if_pos hl] at hsE
    have h49 : dd 1 = [49] := dd_small (by omega)
    have hl1 : (dd 1).length = 1 := by rw [h49]; rfl
    rw [← h49] at hsE
    have hy10 := k4 (by omega)
    have hn1 : n = 1 := by
      apply Classical.byContradiction
      intro hne
      refine hno 1 (t + n - 1) (Nat.le_refl _) (by omega) (by omega) ?_
      apply mem_of (bE_pos _ _) (y := 10)
      rw [hy10, ← Nat.pow_add] at hin
      rw [show 10 ^ (t + n - 1) * 10 = 10 ^ (t + n) by rw [← Nat.pow_succ]; congr 1; omega]
      exact hin
    refine ⟨1, kE M sh + 1, hsE, by omega, by omega, by omega, by omega, by omega, ?_, by omega⟩
    subst hn1
    rw [hl1, show kE M sh + 1 - ((1 : Nat) : Int) = kE M sh by omega]
    -- 10 times 10^(k-1), or one times 10^k
    have hr := rndN_ratio (decD_pos (kE M sh)) (decD_pos (kE M sh - (1 : Nat))) (dec_ten 1 (kE M sh))
    rw [hr, show 10 * 1 = y by rw [hy10]]
    exact hback
  · rw [if_neg hl, if_neg hl] at hsE
    obtain ⟨k6, k7⟩ := k5 (by omega)
    refine ⟨y, kE M sh, hsE, hy0, k7, by omega, by omega, by omega, by rw [k6]; exact hback, ?_⟩
    intro h2
    rw [k6] at h2 ⊢
    intro hf
    have hf2 := (decimal_iff hn hM hsh (n - 1) (t + 1) (y / 10) (by omega)).1 hf
    exact hno (n - 1) (t + 1) (by omega) (by omega) (by omega) (mem_of (bE_pos _ _) hf2)
end
end Go.Proofs.YthhlhiighgnkmaaGreatDoor.Nr
/-! ## MATHEMATICS: what Go's parseFloat64 reckons is the nearest double. -/
namespace Go.Proofs.YthhlhiighgnkmaaGreatDoor.Nr
set_option exponentiation.threshold 5000
/-- each power of ten that is looked up, against two's -/
def okP (i : Nat) : Bool :=
  (pn i * 10 ^ (348 - i) * 2 ^ (2000 + lpE ((i : Int) - 348)).toNat == pd i * 10 ^ (i - 348) * 2 ^ 2127) &&
  Nat.ble (2 ^ 127 * pd i) (pn i) && Nat.ble (pn i * 2 ^ 12) ((2 ^ 12 - 1) * 2 ^ 128 * pd i)
set_option maxRecDepth 100000 in
theorem okP_all : allP okP 656 3 = true := by decide +kernel
theorem unr_ratio {a b N D : Nat} (hb : 0 < b) (hD : 0 < D) (h : a * D = N * b) : unr a b = unr N D := by
  unfold unr
  obtain ⟨h1, h2⟩ := ratio hb hD h
  rw [h1]
  have : a % b = 0 ↔ N % D = 0 := by
    constructor
    · intro e; rw [e, Nat.zero_mul] at h2
      rcases Nat.mul_eq_zero.1 h2.symm with h | h <;> omega
    · intro e; rw [e, Nat.zero_mul] at h2
      rcases Nat.mul_eq_zero.1 h2 with h | h <;> omega
  by_cases e : a % b = 0
  · rw [if_pos e, if_pos (this.1 e)]
  · rw [if_neg e, if_neg (fun k => e (this.2 k))]
theorem or_bit (x b : Nat) (hb : b ≤ 1) : x ||| b = if b = 1 ∧ x % 2 = 0 then x + 1 else x := by
  rcases (show b = 0 ∨ b = 1 by omega) with rfl | rfl
  · simp
  · rw [or_one]; simp
/-- one bit off at the right, what was lost kept -/
theorem unr_half (n d : Nat) (hd : 0 < d) : unr n d / 2 ||| unr n d % 2 = unr n (2 * d) := by
  rw [or_bit _ _ (by omega), unr_val, unr_val]
  have h1 : n / (2 * d) = n / d / 2 := by rw [Nat.mul_comm, Nat.div_div_eq_div_mul]
  have h2 : n = d * (n / d) + n % d := (Nat.div_add_mod n d).symm
  have h3 : n = 2 * d * (n / (2 * d)) + n % (2 * d) := (Nat.div_add_mod n (2 * d)).symm
  rw [h1] at h3 ⊢
  have h4 : n % (2 * d) = d * (n / d % 2) + n % d := by
    have h5 : d * (n / d) = 2 * d * (n / d / 2) + d * (n / d % 2) := by
      rw [Nat.mul_comm 2 d, Nat.mul_assoc, ← Nat.mul_add, Nat.div_add_mod]
    omega
  rw [h4]
  generalize n / d = Q
  generalize n % d = R
  rcases Nat.mod_two_eq_zero_or_one Q with hq | hq
  · rw [hq, Nat.mul_zero, Nat.zero_add]
    by_cases hR : R = 0
    · simp [hR, hq]
    · simp only [ne_eq, hR, not_false_eq_true, true_and, if_true]
      rw [show (Q + 1) % 2 = 1 by omega, show (Q + 1) / 2 = Q / 2 by omega]
      simp
      split <;> rfl
  · rw [hq, Nat.mul_one]
    have : d + R ≠ 0 := by omega
    simp only [ne_eq, this, not_false_eq_true, true_and]
    rw [if_neg (show ¬ (¬ R = 0 ∧ 1 = 0) by omega), Nat.add_zero, hq]
    simp
    split <;> rfl
/-- what is handed on to be packed -/
structure Res (N D r sh : Nat) : Prop where
  lt : r < 2 ^ 53
  low : r < 2 ^ 52 → sh = 0
  e : rndN N D = min (sh * 2 ^ 52 + r) (2047 * 2 ^ 52)
theorem res_of {N D sh U : Nat} (hD : 0 < D) (hU : unr (4 * N) (D * 2 ^ sh) = U) (hlo : 0 < sh → 2 ^ 54 ≤ U) (hhi : N * 2 ^ 12 ≤ (2 ^ 12 - 1) * 2 ^ 54 * (D * 2 ^ sh)) :
    U < 2 ^ 57 ∧ (U < 2 ^ 55 - 2 → Res N D ((U + 1 + U / 4 % 2) / 4) sh) ∧
    (2 ^ 55 - 2 ≤ U → Res N D (((U / 2 ||| U % 2) + 1 + (U / 2 ||| U % 2) / 4 % 2) / 4) (sh + 1)) := by
  have hT : 0 < D * 2 ^ sh := Nat.mul_pos hD (Nat.two_pow_pos _)
  have hr : (U + 1 + U / 4 % 2) / 4 = near N (D * 2 ^ sh) := by
    rw [← hU, unr_near _ _ hT, Nat.mul_comm 4 N, Nat.mul_comm 4, near_scale _ _ _ (by omega)]
  have hQ : U / 4 = N / (D * 2 ^ sh) := by
    rw [← hU, unr_floor _ _ hT, Nat.mul_div_mul_left _ _ (by omega)]
  have hU2 : U / 2 ||| U % 2 = unr (4 * N) (2 * (D * 2 ^ sh)) := by rw [← hU, unr_half _ _ hT]
  have hr2 : ((U / 2 ||| U % 2) + 1 + (U / 2 ||| U % 2) / 4 % 2) / 4 = near N (D * 2 ^ (sh + 1)) := by
    rw [hU2, unr_near _ _ (by omega), Nat.mul_comm 4 N, Nat.mul_comm 4, near_scale _ _ _ (by omega), Nat.pow_succ]
    congr 1; rw [Nat.mul_comm 2, Nat.mul_assoc]
  have hor := or_bit (U / 2) (U % 2) (by omega)
  have hQ54 : N / (D * 2 ^ sh) < 2 ^ 54 - 2 ^ 41 := by
    rw [Nat.div_lt_iff_lt_mul hT]
    generalize D * 2 ^ sh = T at *
    omega
  have hND : N / D / 2 ^ sh = N / (D * 2 ^ sh) := Nat.div_div_eq_div_mul _ _ _
  have hU57 : U < 2 ^ 57 := by omega
  generalize hV : (U / 2 ||| U % 2) = V at *
  refine ⟨hU57, fun h => ?_, fun h => ?_⟩
  · have hrlt : (U + 1 + U / 4 % 2) / 4 < 2 ^ 53 := by omega
    refine ⟨hrlt, fun h52 => ?_, ?_⟩
    · apply Classical.byContradiction
      intro hs
      have := hlo (by omega)
      omega
    · have hshN : shN N D = sh := by
        unfold shN
        have hq53 : N / D / 2 ^ sh < 2 ^ 53 := by omega
        have h1 : N / D < 2 ^ (53 + sh) := by
          rw [Nat.pow_add]; exact (Nat.div_lt_iff_lt_mul (Nat.two_pow_pos _)).1 hq53
        have h2 := (nb_le_iff (N / D) (53 + sh)).2 h1
        by_cases hs : sh = 0
        · omega
        · have h3 := hlo (by omega)
          have h4 : 2 ^ 52 ≤ N / D / 2 ^ sh := by omega
          have h5 : 2 ^ (52 + sh) ≤ N / D := by
            rw [Nat.pow_add]; exact (Nat.le_div_iff_mul_le (Nat.two_pow_pos _)).1 h4
          have := nb_ge h5
          omega
      unfold rndN
      rw [hshN, hr]
  · by_cases hq : N / (D * 2 ^ sh) < 2 ^ 53
    · -- just below the next power of two, and rounded up to it
      have hV2 : V = 2 ^ 54 - 1 := by
        rw [hor]
        by_cases he : U % 2 = 1 ∧ U / 2 % 2 = 0
        · rw [if_pos he]; omega
        · rw [if_neg he]; omega
      have hr3 : (V + 1 + V / 4 % 2) / 4 = 2 ^ 52 := by rw [hV2]
      have hr4 : near N (D * 2 ^ sh) = 2 ^ 53 := by rw [← hr]; omega
      rw [hr3]
      refine ⟨by decide, fun h => absurd h (by decide), ?_⟩
      have hshN : shN N D = sh := by
        unfold shN
        have hq53 : N / D / 2 ^ sh < 2 ^ 53 := by omega
        have h1 : N / D < 2 ^ (53 + sh) := by
          rw [Nat.pow_add]; exact (Nat.div_lt_iff_lt_mul (Nat.two_pow_pos _)).1 hq53
        have h2 := (nb_le_iff (N / D) (53 + sh)).2 h1
        have h4 : 2 ^ 52 ≤ N / D / 2 ^ sh := by omega
        have h5 : 2 ^ (52 + sh) ≤ N / D := by
          rw [Nat.pow_add]; exact (Nat.le_div_iff_mul_le (Nat.two_pow_pos _)).1 h4
        have := nb_ge h5
        omega
      unfold rndN
      have e9 : sh * 2 ^ 52 + 2 ^ 53 = (sh + 1) * 2 ^ 52 + 2 ^ 52 := by omega
      rw [hshN, hr4, e9]
    · have hV3 : V / 4 = U / 8 := by
        rw [hor]
        by_cases he : U % 2 = 1 ∧ U / 2 % 2 = 0
        · rw [if_pos he]; omega
        · rw [if_neg he]; omega
      have hshN : shN N D = sh + 1 := by
        unfold shN
        have hq54 : N / D / 2 ^ sh < 2 ^ 54 := by omega
        have h1 : N / D < 2 ^ (54 + sh) := by
          rw [Nat.pow_add]; exact (Nat.div_lt_iff_lt_mul (Nat.two_pow_pos _)).1 hq54
        have h2 := (nb_le_iff (N / D) (54 + sh)).2 h1
        have h4 : 2 ^ 53 ≤ N / D / 2 ^ sh := by omega
        have h5 : 2 ^ (53 + sh) ≤ N / D := by
          rw [Nat.pow_add]; exact (Nat.le_div_iff_mul_le (Nat.two_pow_pos _)).1 h4
        have := nb_ge h5
        omega
      refine ⟨by omega, fun h52 => by omega, ?_⟩
      unfold rndN
      rw [hshN, hr2]
theorem cross_up {a P T N c : Nat} (hP : 0 < P) (h : a * T = N * P) (hc : a ≤ c * P) : N ≤ c * T := by
  apply Nat.le_of_mul_le_mul_right _ hP
  rw [← h]
  calc a * T ≤ c * P * T := Nat.mul_le_mul_right _ hc
    _ = c * T * P := by ac_rfl
theorem cross_dn {a P T N c : Nat} (hP : 0 < P) (h : a * T = N * P) (hc : c * P ≤ a) : c * T ≤ N := by
  apply Nat.le_of_mul_le_mul_right _ hP
  rw [← h]
  calc c * T * P = c * P * T := by ac_rfl
    _ ≤ a * T := Nat.mul_le_mul_right _ hc
theorem cross_up' {a P T N c k : Nat} (hP : 0 < P) (h : a * T = N * P) (hc : a * k ≤ c * P) : N * k ≤ c * T := by
  refine cross_up hP (a := a * k) ?_ hc
  calc a * k * T = a * T * k := by ac_rfl
    _ = N * k * P := by rw [h]; ac_rfl
theorem four_le {N k c T : Nat} (h : 4 * N * k ≤ 4 * c * T) : N * k ≤ c * T := by
  rw [Nat.mul_assoc, Nat.mul_assoc] at h; omega
theorem xp_le {x p k a b c : Nat} (h1 : x ≤ a) (h2 : p * k ≤ b * c) : x * p * k ≤ a * b * c := by
  calc x * p * k = x * (p * k) := Nat.mul_assoc _ _ _
    _ ≤ a * (b * c) := Nat.mul_le_mul h1 h2
    _ = a * b * c := (Nat.mul_assoc _ _ _).symm
theorem xp_ge {x p a b c : Nat} (h1 : a ≤ x) (h2 : b * c ≤ p) : a * b * c ≤ x * p := by
  calc a * b * c = a * (b * c) := Nat.mul_assoc _ _ _
    _ ≤ x * p := Nat.mul_le_mul h1 h2
/-- Go's own numbers: d times 10 to the (i - 348) -/
structure Prs (d i b : Nat) (lp e S : Int) (sh : Nat) : Prop where
  hb : b = nb d
  hlp : lp = lpE ((i : Int) - 348)
  he : e = min 1074 (53 - (b : Int) - lp)
  hS : S = 61 - e - b - lp
  hsh : (sh : Int) = 1074 - e
theorem parse_math {d i b sh hi lo : Nat} {lp e S : Int} (h : Prs d i b lp e S sh) (hd : 1 ≤ d) (hd2 : d ≤ 10 ^ 19) (i1 : 3 ≤ i) (i2 : i ≤ 658) (hpm : hi * 2 ^ 64 = pm i + lo) (hlo : lo < 2 ^ 64) :
    8 ≤ S ∧ 1 ≤ b ∧ b ≤ 64 ∧ 2 ^ 63 ≤ d * 2 ^ (64 - b) ∧ d * 2 ^ (64 - b) < 2 ^ 64 ∧
    (64 ≤ S → rndN (decN d ((i : Int) - 348)) (decD ((i : Int) - 348)) = 0) ∧
    (∀ s : Nat, S = s → s < 64 → ∃ U, codeU (d * 2 ^ (64 - b)) hi lo s = U ∧ U < 2 ^ 57 ∧
      (U < 2 ^ 55 - 2 → Res (decN d ((i : Int) - 348)) (decD ((i : Int) - 348)) ((U + 1 + U / 4 % 2) / 4) sh) ∧
      (2 ^ 55 - 2 ≤ U → Res (decN d ((i : Int) - 348)) (decD ((i : Int) - 348)) (((U / 2 ||| U % 2) + 1 + (U / 2 ||| U % 2) / 4 % 2) / 4) (sh + 1))) := by
  obtain ⟨hb, hlp, he, hS, hsh⟩ := h
  have hnb1 : 2 ^ (nb d - 1) ≤ d := nb_le (by omega)
  have hnb2 : nb d ≤ 64 := (nb_le_iff d 64).2 (by omega)
  have hnb3 : d < 2 ^ nb d := (nb_le_iff d (nb d)).1 (Nat.le_refl _)
  have hnb0 : 1 ≤ nb d := by
    have := nb_ge (k := 0) (n := d) hd
    omega
  rw [← hb] at hnb1 hnb2 hnb3 hnb0
  have hx1 : 2 ^ 63 ≤ d * 2 ^ (64 - b) := by
    rw [show (2 : Nat) ^ 63 = 2 ^ (b - 1) * 2 ^ (64 - b) by rw [← Nat.pow_add]; congr 1; omega]
    exact Nat.mul_le_mul_right _ hnb1
  have hx2 : d * 2 ^ (64 - b) < 2 ^ 64 := by
    have := Nat.mul_lt_mul_of_pos_right hnb3 (Nat.two_pow_pos (64 - b))
    rw [← Nat.pow_add, show b + (64 - b) = 64 by omega] at this; exact this
  have hok := allP_at okP_all i i1 (by omega)
  unfold okP at hok
  rw [Bool.and_eq_true, Bool.and_eq_true, beq_iff_eq, Nat.ble_eq, Nat.ble_eq] at hok
  obtain ⟨⟨k1, k2⟩, k3⟩ := hok
  rw [← hlp] at k1
  have hlpb : -1200 ≤ lp ∧ lp ≤ 1100 := by rw [hlp]; unfold lpE; omega
  have hS8 : 8 ≤ S := by omega
  have hp1 : (-((i : Int) - 348)).toNat = 348 - i := by omega
  have hp2 : ((i : Int) - 348).toNat = i - 348 := by omega
  obtain ⟨s, hs⟩ : ∃ s : Nat, S = s := ⟨S.toNat, by omega⟩
  -- the same quotient
  have hcross : d * 2 ^ (64 - b) * pn i * (decD ((i : Int) - 348) * 2 ^ sh) = 4 * decN d ((i : Int) - 348) * (pd i * 2 ^ (128 + s)) := by
    have hX : 0 < 2 ^ (2000 + lp).toNat := Nat.two_pow_pos _
    apply Nat.eq_of_mul_eq_mul_right hX
    unfold decN decD
    rw [hp1, hp2]
    have e2 : 2 ^ (64 - b) * 2 ^ sh * 2 ^ 2127 = 4 * 2 ^ 1074 * 2 ^ (128 + s) * 2 ^ (2000 + lp).toNat := by
      rw [show (4 : Nat) = 2 ^ 2 from rfl, ← Nat.pow_add, ← Nat.pow_add, ← Nat.pow_add, ← Nat.pow_add, ← Nat.pow_add]; congr 1; omega
    generalize 2 ^ (2000 + lp).toNat = A at *
    generalize 2 ^ (64 - b) = B at *
    generalize 2 ^ sh = C at *
    generalize 2 ^ 2127 = E at *
    generalize 2 ^ 1074 = F at *
    generalize 2 ^ (128 + s) = G at *
    generalize 10 ^ (348 - i) = t1 at *
    generalize 10 ^ (i - 348) = t2 at *
    calc d * B * pn i * (t1 * C) * A = d * (B * C) * (pn i * t1 * A) := by ac_rfl
      _ = d * (B * C) * (pd i * t2 * E) := by rw [k1]
      _ = d * t2 * pd i * (B * C * E) := by ac_rfl
      _ = d * t2 * pd i * (4 * F * G * A) := by rw [e2]
      _ = 4 * (d * t2 * F) * (pd i * G) * A := by ac_rfl
  clear k1
  have hD := decD_pos ((i : Int) - 348)
  have hpd := pd_pos i
  have hDT : 0 < decD ((i : Int) - 348) * 2 ^ sh := Nat.mul_pos hD (Nat.two_pow_pos _)
  have hPT : 0 < pd i * 2 ^ (128 + s) := Nat.mul_pos hpd (Nat.two_pow_pos _)
  generalize hNN : decN d ((i : Int) - 348) = N at *
  generalize hDD : decD ((i : Int) - 348) = D at *
  generalize hxx : d * 2 ^ (64 - b) = x at *
  -- bounds of the quotient
  have hup : ∀ c : Nat, x * pn i ≤ c * (pd i * 2 ^ (128 + s)) → 4 * N ≤ c * (D * 2 ^ sh) := fun c hc => cross_up hPT hcross hc
  have hdn : ∀ c : Nat, c * (pd i * 2 ^ (128 + s)) ≤ x * pn i → c * (D * 2 ^ sh) ≤ 4 * N := fun c hc => cross_dn hPT hcross hc
  have hxp1 : x * pn i * 2 ^ 12 ≤ 2 ^ 64 * ((2 ^ 12 - 1) * 2 ^ 128) * pd i := xp_le (Nat.le_of_lt hx2) k3
  have hxp2 : 2 ^ 63 * 2 ^ 127 * pd i ≤ x * pn i := xp_ge hx1 k2
  clear k2 k3
  refine ⟨hS8, hnb0, hnb2, hx1, hx2, ?_, ?_⟩
  · intro h64
    have hsh0 : sh = 0 := by omega
    have h1 : 4 * N ≤ 1 * (D * 2 ^ sh) := by
      apply hup
      rw [Nat.one_mul]
      have h2 : 2 ^ 192 ≤ 2 ^ (128 + s) := Nat.pow_le_pow_right (by decide) (by omega)
      have h3 : pd i * 2 ^ 192 ≤ pd i * 2 ^ (128 + s) := Nat.mul_le_mul_left _ h2
      generalize 2 ^ (128 + s) = G at *
      omega
    rw [hsh0, Nat.pow_zero, Nat.mul_one, Nat.one_mul] at h1
    have hq0 : N / D = 0 := Nat.div_eq_of_lt (by omega)
    have hr0 : N % D = N := Nat.mod_eq_of_lt (by omega)
    have hshN : shN N D = 0 := by
      unfold shN
      have := (nb_le_iff (N / D) 53).2 (by rw [hq0]; decide)
      omega
    unfold rndN
    rw [hshN, Nat.pow_zero, Nat.mul_one]
    unfold near
    rw [hq0, hr0, if_neg (by omega)]
    decide
  · intro s' hs' hs64
    have : s' = s := by omega
    subst this
    have hU := uscale_parse (i := i) (x := x) (hi := hi) (lo := lo) (s := s') i1 i2 hpm hlo hx1 hx2 (by
      by_cases hb64 : b = 64
      · left; rw [← hxx, hb64]; simpa using hd2
      · right; rw [← hxx, show 64 - b = (63 - b) + 1 by omega, Nat.pow_succ, ← Nat.mul_assoc]; omega) (by omega)
    rw [unr_ratio hPT hDT hcross] at hU
    refine ⟨_, hU, ?_⟩
    refine res_of hD rfl ?_ ?_
    · intro hsh0
      have hs8 : s' = 8 := by omega
      have h1 : 2 ^ 54 * (D * 2 ^ sh) ≤ 4 * N := by
        apply hdn
        rw [hs8]
        generalize pd i = P at *
        generalize x * pn i = X at *
        omega
      have h2 : 2 ^ 54 ≤ 4 * N / (D * 2 ^ sh) := (Nat.le_div_iff_mul_le hDT).2 h1
      rw [unr_val]
      omega
    · have h2 : 2 ^ 136 ≤ 2 ^ (128 + s') := Nat.pow_le_pow_right (by decide) (by omega)
      have h3 : pd i * 2 ^ 136 ≤ pd i * 2 ^ (128 + s') := Nat.mul_le_mul_left _ h2
      have h5 : x * pn i * 2 ^ 12 ≤ ((2 ^ 12 - 1) * 2 ^ 56) * (pd i * 2 ^ (128 + s')) := by
        refine Nat.le_trans hxp1 ?_
        rw [show 2 ^ 64 * ((2 ^ 12 - 1) * 2 ^ 128) * pd i = ((2 ^ 12 - 1) * 2 ^ 56) * (pd i * 2 ^ 136) by
          rw [Nat.mul_comm (pd i), ← Nat.mul_assoc ((2 ^ 12 - 1) * 2 ^ 56)]]
        exact Nat.mul_le_mul_left _ h3
      have h6 := cross_up' hPT hcross h5
      refine four_le (k := 2 ^ 12) (c := (2 ^ 12 - 1) * 2 ^ 54) (T := D * 2 ^ sh) ?_
      exact h6
end Go.Proofs.YthhlhiighgnkmaaGreatDoor.Nr
/-! ## MATHEMATICS: the document's decimals, rounded. -/
namespace Go.Proofs.YthhlhiighgnkmaaGreatDoor.Nr
set_option exponentiation.threshold 5000
theorem rung_rnd (n : Nat) (hn : n ≠ 0) : round false n 0 false = rndN (n * 2 ^ 1074) 1 := by
  unfold round word
  rw [if_neg hn, if_neg (by decide), refRung_eq n 0 hn, rung_whole n 0 (by omega) hn]
  rfl
/-- a decimal whose power is not below nought -/
theorem dec_up (n x : Nat) (hn : n ≠ 0) : round false (n * 10 ^ x) 0 false = rndN (decN n x) (decD x) := by
  rw [rung_rnd _ (Nat.mul_ne_zero hn (Nat.ne_of_gt (Nat.pow_pos (by decide))))]
  unfold decN decD
  rw [Int.toNat_natCast, show (-(x : Int)).toNat = 0 by omega, Nat.pow_zero]
theorem quo_ge {n d : Nat} (hn : n ≠ 0) (hd : 0 < d) : 2 ^ 1199 ≤ n * 2 ^ (nb d + 1200) / d := by
  rw [Nat.le_div_iff_mul_le hd]
  have h1 := nb_lt d
  calc 2 ^ 1199 * d ≤ 2 ^ 1199 * 2 ^ nb d := Nat.mul_le_mul_left _ (Nat.le_of_lt h1)
    _ ≤ 2 ^ (nb d + 1200) := by rw [← Nat.pow_add]; exact Nat.pow_le_pow_right (by decide) (by omega)
    _ ≤ n * 2 ^ (nb d + 1200) := Nat.le_mul_of_pos_left _ (by omega)
/-- a quotient with bits enough, rounded -/
theorem dec_quo (n d : Nat) (hn : n ≠ 0) (hd : 0 < d) :
    round false (n * 2 ^ (nb d + 1200) / d) (-((nb d + 1200 : Nat) : Int)) (n * 2 ^ (nb d + 1200) % d != 0) = rndN (n * 2 ^ 1074) d := by
  have hq := quo_ge hn hd
  obtain ⟨k, hk⟩ : ∃ k, nb d + 1200 = k := ⟨_, rfl⟩
  rw [hk] at hq ⊢
  have h53 : 2 ^ 53 ≤ n * 2 ^ k / d := Nat.le_trans (Nat.pow_le_pow_right (by decide) (by decide)) hq
  have h0 : n * 2 ^ k / d ≠ 0 := by
    intro h; rw [h] at h53; exact absurd h53 (by decide)
  have h54 : 54 ≤ nb (n * 2 ^ k / d) := nb_ge h53
  have hr := quo_rnd n d k hd (by omega) h53
  unfold round word
  rw [if_neg (by decide), if_neg h0, refRung_more _ _ _ h54, ← hr]
  unfold quo
  rw [show (-(k : Int) - 1) = -((k : Int) + 1) by omega]
theorem dec_down (n x : Nat) (hn : n ≠ 0) :
    round false (n * 2 ^ (nb (10 ^ x) + 1200) / 10 ^ x) (-((nb (10 ^ x) + 1200 : Nat) : Int)) (n * 2 ^ (nb (10 ^ x) + 1200) % 10 ^ x != 0) = rndN (decN n (-(x : Int))) (decD (-(x : Int))) := by
  rw [dec_quo n (10 ^ x) hn (Nat.pow_pos (by decide))]
  unfold decN decD
  rw [show (-(x : Int)).toNat = 0 by omega, Nat.pow_zero, Nat.mul_one, show (-(-(x : Int))).toNat = x by omega]
/-- what is too great -/
theorem rnd_inf {N D : Nat} (hD : 0 < D) (h : 2 ^ 2099 * D ≤ N) : rndN N D = 2047 * 2 ^ 52 := by
  have h1 : 2 ^ 2099 ≤ N / D := (Nat.le_div_iff_mul_le hD).2 h
  have h2 := nb_ge h1
  unfold rndN
  apply Nat.min_eq_right
  have h3 : 2047 ≤ shN N D := by unfold shN; omega
  exact Nat.le_trans (Nat.mul_le_mul_right _ h3) (Nat.le_add_right _ _)
theorem rnd_zero {N D : Nat} (h : 2 * N < D) : rndN N D = 0 := by
  have hq0 : N / D = 0 := Nat.div_eq_of_lt (by omega)
  have hr0 : N % D = N := Nat.mod_eq_of_lt (by omega)
  have hshN : shN N D = 0 := by
    unfold shN
    have := (nb_le_iff (N / D) 53).2 (by rw [hq0]; decide)
    omega
  unfold rndN
  rw [hshN, Nat.pow_zero, Nat.mul_one]
  unfold near
  rw [hq0, hr0, if_neg (by omega)]
  rw [Nat.zero_mul, Nat.zero_add]
  exact Nat.min_eq_left (Nat.zero_le _)
theorem big_pow : 2 ^ 2099 ≤ 10 ^ 309 * 2 ^ 1074 := by decide +kernel
theorem small_pow : 2 * 2 ^ 1074 < 10 ^ 324 := by decide +kernel
/-- beyond all doubles -/
theorem dec_inf {n : Nat} {x : Int} (hn : n ≠ 0) (hx : 309 ≤ x) : rndN (decN n x) (decD x) = 2047 * 2 ^ 52 := by
  apply rnd_inf (decD_pos x)
  unfold decN decD
  rw [show (-x).toNat = 0 by omega, Nat.pow_zero, Nat.mul_one]
  have h1 : 10 ^ 309 ≤ n * 10 ^ x.toNat := by
    calc 10 ^ 309 ≤ 10 ^ x.toNat := Nat.pow_le_pow_right (by decide) (by omega)
      _ ≤ n * 10 ^ x.toNat := Nat.le_mul_of_pos_left _ (by omega)
  exact Nat.le_trans big_pow (Nat.mul_le_mul_right _ h1)
/-- below all doubles -/
theorem dec_zero {n k : Nat} {x : Int} (hn : n < 10 ^ k) (hx : x + k ≤ -324) : rndN (decN n x) (decD x) = 0 := by
  apply rnd_zero
  unfold decN decD
  rw [show x.toNat = 0 by omega, Nat.pow_zero, Nat.mul_one]
  have h1 : 10 ^ k * 10 ^ 324 ≤ 10 ^ (-x).toNat := by rw [← Nat.pow_add]; exact Nat.pow_le_pow_right (by decide) (by omega)
  refine Nat.lt_of_lt_of_le ?_ h1
  calc 2 * (n * 2 ^ 1074) = n * (2 * 2 ^ 1074) := Nat.mul_left_comm _ _ _
    _ ≤ n * 10 ^ 324 := Nat.mul_le_mul_left _ (Nat.le_of_lt small_pow)
    _ < 10 ^ k * 10 ^ 324 := Nat.mul_lt_mul_of_pos_right hn (Nat.pow_pos (by decide))
theorem nb_same (n : Nat) : (if n = 0 then 0 else n.log2 + 1) = nb n := rfl
/-- ten times as many digits, one place less: the same -/
theorem dec_shift (n t : Nat) (x : Int) : rndN (decN (n * 10 ^ t) (x - t)) (decD (x - t)) = rndN (decN n x) (decD x) := by
  apply rndN_ratio (decD_pos _) (decD_pos _)
  unfold decN decD
  have b10 : 10 ^ t * 10 ^ (x - t).toNat * 10 ^ (-x).toNat = 10 ^ x.toNat * 10 ^ (-(x - t)).toNat := by
    rw [← Nat.pow_add, ← Nat.pow_add, ← Nat.pow_add]; congr 1; omega
  generalize 2 ^ 1074 = T
  generalize 10 ^ t = a at *
  generalize 10 ^ (x - (t : Int)).toNat = b at *
  generalize 10 ^ (-x).toNat = c at *
  generalize 10 ^ x.toNat = d at *
  generalize 10 ^ (-(x - (t : Int))).toNat = e at *
  calc n * a * b * T * c = n * T * (a * b * c) := by ac_rfl
    _ = n * T * (d * e) := by rw [b10]
    _ = n * d * T * e := by ac_rfl
end Go.Proofs.YthhlhiighgnkmaaGreatDoor.Nr
/-! ## MATHEMATICS: what Go's shortFloat hands back is what is shown. -/
namespace Go.Proofs.YthhlhiighgnkmaaGreatDoor.Nr
set_option exponentiation.threshold 3000
section
variable {M sh : Nat}
def shortN (sk : Bool) (M A B : Nat) (p : Int) : Nat × Int :=
  if dmin sk M A B ≤ dmax M A B / 10 * 10 then (dmax M A B / 10, -(p - 1)) else if dmin sk M A B < dmax M A B then (near (M * A) B, -p) else (dmin sk M A B, -p)
theorem short_shown (hn : Norm M sh) (hM : 1 ≤ M) (hsh : sh ≤ 2045) (u : Nat) (p : Int)
    (h : shortN (skew M sh) M (aE (skew M sh) sh) (bE (skew M sh) sh) (pE (skew M sh) ((sh : Int) - 1074)) = (u, p)) :
    canon u p = shownE M sh ∧ 0 < u ∧ u < 2 ^ 60 ∧ -1000 ≤ p ∧ p ≤ 1000 := by
  have hp := pE_bounds (M := M) (sh := sh) hsh
  have hw := (fits (skew M sh) sh hsh).wide
  have hB := bE_pos (skew M sh) sh
  have hA := aE_pos (skew M sh) sh
  have hsk := skew_even M sh
  have hpp := pick_pos hB hA hM hw hsk
  have hdd := dmin_dmax hB hA hM hw hsk
  have hgo := shownE_go hn hM hsh
  have h14 : aE (skew M sh) sh ≤ 14 * bE (skew M sh) sh := by
    unfold Wide at hw
    split at hw <;> omega
  have hm := hn.1
  have hMA : (2 * M + 1) * aE (skew M sh) sh ≤ 2 ^ 54 * 14 * bE (skew M sh) sh := by
    calc (2 * M + 1) * aE (skew M sh) sh ≤ 2 ^ 54 * (14 * bE (skew M sh) sh) := Nat.mul_le_mul (by omega) h14
      _ = 2 ^ 54 * 14 * bE (skew M sh) sh := (Nat.mul_assoc _ _ _).symm
  have hmx : dmax M (aE (skew M sh) sh) (bE (skew M sh) sh) < 2 ^ 58 := by
    have hle : dmax M (aE (skew M sh) sh) (bE (skew M sh) sh) ≤ (2 * M + 1) * aE (skew M sh) sh / (2 * bE (skew M sh) sh) + 1 := by
      unfold dmax ceil
      split
      · omega
      · rw [show (2 * M + 1) * aE (skew M sh) sh + 2 * bE (skew M sh) sh - 1 = ((2 * M + 1) * aE (skew M sh) sh - 1) + 2 * bE (skew M sh) sh by
          have : 1 ≤ (2 * M + 1) * aE (skew M sh) sh := Nat.mul_pos (by omega) hA
          omega, Nat.add_div_right _ (by omega)]
        have := Nat.div_le_div_right (c := 2 * bE (skew M sh) sh) (Nat.sub_le ((2 * M + 1) * aE (skew M sh) sh) 1)
        generalize ((2 * M + 1) * aE (skew M sh) sh - 1) / (2 * bE (skew M sh) sh) = k at *
        generalize (2 * M + 1) * aE (skew M sh) sh / (2 * bE (skew M sh) sh) = j at *
        omega
    have h2 : (2 * M + 1) * aE (skew M sh) sh / (2 * bE (skew M sh) sh) < 2 ^ 57 := by
      rw [Nat.div_lt_iff_lt_mul (by omega)]
      generalize (2 * M + 1) * aE (skew M sh) sh = X at *
      omega
    omega
  have hnr : near (M * aE (skew M sh) sh) (bE (skew M sh) sh) < 2 ^ 58 := by
    have h2 : M * aE (skew M sh) sh / bE (skew M sh) sh < 2 ^ 57 := by
      rw [Nat.div_lt_iff_lt_mul hB]
      rw [Nat.add_mul, Nat.mul_assoc] at hMA
      generalize M * aE (skew M sh) sh = X at *
      omega
    rcases near_cases (M * aE (skew M sh) sh) (bE (skew M sh) sh) with h | h <;> omega
  unfold pick at hpp hgo
  unfold shortN at h
  generalize skew M sh = sk at *
  generalize aE sk sh = A at *
  generalize bE sk sh = B at *
  generalize pE sk ((sh : Int) - 1074) = q at *
  by_cases c1 : dmin sk M A B ≤ dmax M A B / 10 * 10
  · rw [if_pos c1] at h hpp hgo
    obtain ⟨rfl, rfl⟩ := Prod.mk.inj h
    exact ⟨hgo.symm, by omega, by omega, by omega, by omega⟩
  · rw [if_neg c1] at h hpp
    rw [if_neg c1, if_neg c1] at hgo
    by_cases c2 : dmin sk M A B < dmax M A B
    · rw [if_pos c2] at h hpp hgo
      obtain ⟨rfl, rfl⟩ := Prod.mk.inj h
      exact ⟨hgo.symm, hpp, by omega, by omega, by omega⟩
    · rw [if_neg c2] at h hpp hgo
      obtain ⟨rfl, rfl⟩ := Prod.mk.inj h
      exact ⟨hgo.symm, hpp, by omega, by omega, by omega⟩
end
end Go.Proofs.YthhlhiighgnkmaaGreatDoor.Nr
/-! ## MATHEMATICS: digits behind a point, as Go's readFloat takes them: noughts in front, nineteen digits, and whether more is left. -/
namespace Go.Proofs.YthhlhiighgnkmaaGreatDoor.Nr
/-- digits as a number -/
def dv (acc : Nat) (l : List Nat) : Nat := l.foldl (fun v c => 10 * v + (c - 48)) acc
theorem dv_nil (acc : Nat) : dv acc [] = acc := by unfold dv; rw [List.foldl_nil]
theorem dv_cons (acc c : Nat) (l : List Nat) : dv acc (c :: l) = dv (10 * acc + (c - 48)) l := by unfold dv; rw [List.foldl_cons]
theorem dv_append (acc : Nat) (l m : List Nat) : dv acc (l ++ m) = dv (dv acc l) m := by unfold dv; rw [List.foldl_append]
theorem dv_snoc (acc : Nat) (l : List Nat) (c : Nat) : dv acc (l ++ [c]) = 10 * dv acc l + (c - 48) := by rw [dv_append, dv_cons, dv_nil]
theorem dv_acc : ∀ (l : List Nat) (acc : Nat), dv acc l = acc * 10 ^ l.length + dv 0 l := by
  intro l
  induction l with
  | nil => intro acc; rw [dv_nil, dv_nil]; simp
  | cons c l ih =>
    intro acc
    rw [dv_cons, dv_cons, ih (10 * acc + (c - 48)), ih (10 * 0 + (c - 48)), List.length_cons, Nat.pow_succ]
    rw [Nat.mul_zero, Nat.zero_add, Nat.add_mul, ← Nat.add_assoc]
    congr 2
    rw [Nat.mul_comm 10 acc, Nat.mul_assoc, Nat.mul_comm 10]
def Digs (l : List Nat) : Prop := ∀ c ∈ l, 48 ≤ c ∧ c ≤ 57
theorem dv_lt : ∀ (l : List Nat), Digs l → dv 0 l < 10 ^ l.length := by
  intro l
  induction l with
  | nil => intro _; rw [dv_nil]; decide
  | cons c l ih =>
    intro h
    have hc := h c (List.mem_cons_self ..)
    have hl := ih (fun d hd => h d (List.mem_cons_of_mem _ hd))
    rw [dv_cons, dv_acc, List.length_cons, Nat.pow_succ]
    have : (10 * 0 + (c - 48)) * 10 ^ l.length ≤ 9 * 10 ^ l.length := Nat.mul_le_mul_right _ (by omega)
    omega
theorem dv_noughts : ∀ (l : List Nat), (∀ c ∈ l, c = 48) → dv 0 l = 0 := by
  intro l
  induction l with
  | nil => intro _; rw [dv_nil]
  | cons c l ih =>
    intro h
    rw [dv_cons, h c (List.mem_cons_self ..)]
    exact ih (fun d hd => h d (List.mem_cons_of_mem _ hd))
theorem dv_pos : ∀ (l : List Nat), Digs l → dv 0 l = 0 → ∀ c ∈ l, c = 48 := by
  intro l
  induction l with
  | nil => intro _ _ c hc; simp at hc
  | cons d l ih =>
    intro h h0 c hc
    rw [dv_cons, dv_acc] at h0
    have h10 : 0 < 10 ^ l.length := Nat.pow_pos (by decide)
    have hd := h d (List.mem_cons_self ..)
    have h1 : (10 * 0 + (d - 48)) * 10 ^ l.length = 0 := by omega
    have h2 : d = 48 := by
      rcases Nat.mul_eq_zero.1 h1 with h | h <;> omega
    rcases List.mem_cons.1 hc with rfl | hc
    · exact h2
    · exact ih (fun e he => h e (List.mem_cons_of_mem _ he)) (by omega) c hc
def isN (c : Nat) : Bool := c == 48
def lead (l : List Nat) : Nat := (l.takeWhile isN).length
def body (l : List Nat) : List Nat := l.dropWhile isN
theorem lead_body (l : List Nat) : lead l + (body l).length = l.length := by
  unfold lead body
  rw [← List.length_append, List.takeWhile_append_dropWhile]
theorem body_cons (c : Nat) (l : List Nat) : body (c :: l) = if c = 48 then body l else c :: l := by
  unfold body isN
  by_cases h : c = 48
  · rw [if_pos h, List.dropWhile_cons_of_pos (by simpa using h)]
  · rw [if_neg h, List.dropWhile_cons_of_neg (by simpa using h)]
theorem lead_cons (c : Nat) (l : List Nat) : lead (c :: l) = if c = 48 then lead l + 1 else 0 := by
  unfold lead isN
  by_cases h : c = 48
  · rw [if_pos h, List.takeWhile_cons_of_pos (by simpa using h), List.length_cons]
  · rw [if_neg h, List.takeWhile_cons_of_neg (by simpa using h), List.length_nil]
theorem body_nil : body [] = [] := rfl
theorem lead_nil : lead [] = 0 := rfl
theorem body_nought : ∀ (l : List Nat), body l = [] → body (l ++ [48]) = [] ∧ lead (l ++ [48]) = lead l + 1 := by
  intro l
  induction l with
  | nil => intro _; exact ⟨rfl, rfl⟩
  | cons c l ih =>
    intro h
    rw [body_cons] at h
    by_cases hc : c = 48
    · rw [if_pos hc] at h
      obtain ⟨a, b⟩ := ih h
      rw [List.cons_append, body_cons, lead_cons, lead_cons, if_pos hc, if_pos hc, if_pos hc]
      exact ⟨a, by rw [b]⟩
    · rw [if_neg hc] at h; cases h
theorem body_snoc : ∀ (l : List Nat) (c : Nat), ¬ (body l = [] ∧ c = 48) → body (l ++ [c]) = body l ++ [c] ∧ lead (l ++ [c]) = lead l := by
  intro l
  induction l with
  | nil =>
    intro c h
    have hc : c ≠ 48 := fun e => h ⟨rfl, e⟩
    rw [List.nil_append, body_cons, lead_cons, if_neg hc, if_neg hc]
    exact ⟨rfl, rfl⟩
  | cons d l ih =>
    intro c h
    rw [List.cons_append, body_cons, body_cons, lead_cons, lead_cons]
    rw [body_cons] at h
    by_cases hd : d = 48
    · rw [if_pos hd] at h
      obtain ⟨a, b⟩ := ih c h
      rw [if_pos hd, if_pos hd, if_pos hd, if_pos hd, a, b]
      exact ⟨rfl, rfl⟩
    · rw [if_neg hd, if_neg hd, if_neg hd, if_neg hd]
      exact ⟨rfl, rfl⟩
theorem body_len (l : List Nat) : (body l).length ≤ l.length := by have := lead_body l; omega
theorem body_digs (l : List Nat) (h : Digs l) : Digs (body l) := fun c hc => h c (List.dropWhile_sublist (p := isN) |>.subset hc)
theorem dv_body : ∀ (l : List Nat), dv 0 l = dv 0 (body l) := by
  intro l
  induction l with
  | nil => rfl
  | cons c l ih =>
    rw [body_cons]
    by_cases h : c = 48
    · rw [if_pos h, ← ih, dv_cons, h]
    · rw [if_neg h]
/-- what is read of digits behind a point -/
def mantF (l : List Nat) : Nat := dv 0 ((body l).take 19)
def ndF (l : List Nat) : Nat := (body l).length
def ndMF (l : List Nat) : Nat := min 19 (body l).length
def truncF (l : List Nat) : Bool := ((body l).drop 19).any (fun c => !isN c)
theorem step_nought (l : List Nat) (h : ndF l = 0) : mantF (l ++ [48]) = mantF l ∧ ndF (l ++ [48]) = 0 ∧ ndMF (l ++ [48]) = ndMF l ∧ truncF (l ++ [48]) = truncF l ∧ lead (l ++ [48]) = lead l + 1 := by
  have hb : body l = [] := List.length_eq_zero_iff.1 h
  obtain ⟨a, b⟩ := body_nought l hb
  unfold mantF ndF ndMF truncF
  rw [a, b, hb]
  exact ⟨rfl, rfl, rfl, rfl, rfl⟩
theorem step_more (l : List Nat) (c : Nat) (h : ¬ (ndF l = 0 ∧ c = 48)) (h19 : ndF l < 19) : mantF (l ++ [c]) = 10 * mantF l + (c - 48) ∧ ndF (l ++ [c]) = ndF l + 1 ∧ ndMF (l ++ [c]) = ndMF l + 1 ∧ ndMF l = ndF l ∧ truncF (l ++ [c]) = truncF l ∧ lead (l ++ [c]) = lead l := by
  obtain ⟨a, b⟩ := body_snoc l c (fun e => h ⟨List.length_eq_zero_iff.2 e.1, e.2⟩)
  unfold ndF at h19
  have e1 : (body l).take 19 = body l := List.take_of_length_le (by omega)
  have e2 : (body l ++ [c]).take 19 = body l ++ [c] := List.take_of_length_le (by simp; omega)
  have e3 : (body l).drop 19 = [] := List.drop_eq_nil_of_le (by omega)
  have e4 : (body l ++ [c]).drop 19 = [] := List.drop_eq_nil_of_le (by simp; omega)
  unfold mantF ndF ndMF truncF
  rw [a, b, e1, e2, e3, e4, dv_snoc]
  refine ⟨rfl, by simp, by simp; omega, by omega, rfl, rfl⟩
theorem step_past (l : List Nat) (c : Nat) (h19 : 19 ≤ ndF l) : mantF (l ++ [c]) = mantF l ∧ ndF (l ++ [c]) = ndF l + 1 ∧ ndMF (l ++ [c]) = 19 ∧ ndMF l = 19 ∧ truncF (l ++ [c]) = (truncF l || !isN c) ∧ lead (l ++ [c]) = lead l := by
  unfold ndF at h19
  obtain ⟨a, b⟩ := body_snoc l c (fun e => by rw [e.1] at h19; simp at h19)
  have e2 : (body l ++ [c]).take 19 = (body l).take 19 := by rw [List.take_append_of_le_length h19]
  have e4 : (body l ++ [c]).drop 19 = (body l).drop 19 ++ [c] := by rw [List.drop_append_of_le_length h19]
  unfold mantF ndF ndMF truncF
  rw [a, b, e2, e4, List.any_append]
  refine ⟨rfl, by simp, by simp; omega, by omega, by simp, rfl⟩
theorem take_digs (l : List Nat) (h : Digs l) (k : Nat) : Digs (l.take k) := fun c hc => h c (List.mem_of_mem_take hc)
theorem drop_digs (l : List Nat) (h : Digs l) (k : Nat) : Digs (l.drop k) := fun c hc => h c (List.mem_of_mem_drop hc)
theorem mantF_lt (l : List Nat) (h : Digs l) : mantF l < 10 ^ ndMF l := by
  have := dv_lt _ (take_digs _ (body_digs l h) 19)
  rw [List.length_take] at this
  exact this
theorem ndMF_le (l : List Nat) : ndMF l ≤ 19 := by unfold ndMF; omega
/-- the whole, in what is kept and what is not -/
theorem dv_split (l : List Nat) : dv 0 l = mantF l * 10 ^ (ndF l - ndMF l) + dv 0 ((body l).drop 19) ∧ ((body l).drop 19).length = ndF l - ndMF l := by
  have e : ((body l).drop 19).length = ndF l - ndMF l := by rw [List.length_drop]; unfold ndF ndMF; omega
  refine ⟨?_, e⟩
  rw [dv_body]
  conv => lhs; rw [← List.take_append_drop 19 (body l)]
  rw [dv_append, dv_acc, e]
  rfl
theorem dv_whole (l : List Nat) (h : truncF l = false) : dv 0 l = mantF l * 10 ^ (ndF l - ndMF l) := by
  rw [(dv_split l).1, dv_noughts, Nat.add_zero]
  intro c hc
  unfold truncF at h
  rw [List.any_eq_false] at h
  have := h c hc
  simpa [isN] using this
theorem dv_between (l : List Nat) (hd : Digs l) (h : truncF l = true) : mantF l * 10 ^ (ndF l - ndMF l) < dv 0 l ∧ dv 0 l < (mantF l + 1) * 10 ^ (ndF l - ndMF l) := by
  obtain ⟨h1, h2⟩ := dv_split l
  have h3 := dv_lt _ (drop_digs _ (body_digs l hd) 19)
  rw [h2] at h3
  rw [h1, Nat.add_mul, Nat.one_mul]
  refine ⟨?_, by omega⟩
  have : dv 0 ((body l).drop 19) ≠ 0 := by
    intro h0
    have := dv_pos _ (drop_digs _ (body_digs l hd) 19) h0
    unfold truncF at h
    rw [List.any_eq_true] at h
    obtain ⟨c, hc, hn⟩ := h
    rw [this c hc] at hn
    exact absurd hn (by decide)
  omega
/-- the exponent that goes with what is kept -/
theorem dec_kept (l : List Nat) (E : Int) (h : truncF l = false) :
    rndN (decN (dv 0 l) (E - l.length)) (decD (E - l.length)) = rndN (decN (mantF l) (E - lead l - ndMF l)) (decD (E - lead l - ndMF l)) := by
  rw [dv_whole l h]
  have hl := lead_body l
  have hm : ndMF l ≤ ndF l := by unfold ndMF ndF; omega
  have : E - (l.length : Int) = E - lead l - ndMF l - ((ndF l - ndMF l : Nat) : Int) := by unfold ndF at *; omega
  rw [this, dec_shift]
end Go.Proofs.YthhlhiighgnkmaaGreatDoor.Nr
