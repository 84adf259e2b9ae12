/-
  MaA, MaB, MaC, MaD, put together (a claim holds at most 60 files).
-/
import Ieee.Arith
/-! ## MATHEMATICS: multiples that stay out of a window (Euclid), and Go's scaling by a rounded power of ten. -/
namespace Go.Proofs.YthhlhiighgnkmaaGreatDoor.Nr
/-- below this no x has a * x in [l + m y, r + m y] -/
def lb : Nat → Nat → Nat → Nat → Nat → Nat
  | 0, _, _, _, _ => 0
  | n + 1, a, m, l, r =>
    if a = 0 then 2 ^ 80 else
    if (l + a - 1) / a * a ≤ r then (l + a - 1) / a else
    (l + m * lb n (m % a) a (a - (r - l / a * a)) (a - (l - l / a * a)) + a - 1) / a

theorem lb_le : ∀ (n a m l r : Nat), a < m → 1 ≤ l → l ≤ r → ∀ x y : Nat, x < 2 ^ 80 → l + m * y ≤ a * x → a * x ≤ r + m * y → lb n a m l r ≤ x := by
  intro n
  induction n with
  | zero => intro a m l r _ _ _ x y _ _ _; exact Nat.zero_le _
  | succ n ih =>
    intro a m l r h3 h1 h2 x y hx hlo hhi
    unfold lb
    by_cases ha : a = 0
    · subst ha; simp at hlo; omega
    rw [if_neg ha]
    have hpos : 0 < a := by omega
    by_cases ht : (l + a - 1) / a * a ≤ r
    · rw [if_pos ht]
      have : (l + a - 1) / a < x + 1 := by
        rw [Nat.div_lt_iff_lt_mul hpos, Nat.add_mul, Nat.one_mul, Nat.mul_comm x a]; omega
      omega
    rw [if_neg ht]
    -- no multiple of a lies in [l, r]
    have hq : l / a * a ≤ l := Nat.div_mul_le_self l a
    have hq1 : (l + a - 1) / a = l / a + 1 ∧ l / a * a < l := by
      by_cases h0 : l % a = 0
      · exfalso; apply ht
        have e : l = a * (l / a) := by have := Nat.div_add_mod l a; omega
        have : (l + a - 1) / a = l / a := by
          apply Nat.div_eq_of_lt_le
          · rw [Nat.mul_comm]; omega
          · rw [Nat.add_mul, Nat.one_mul, Nat.mul_comm]; omega
        rw [this, Nat.mul_comm, ← e]; exact h2
      · have e := Nat.div_add_mod l a
        have m1 := Nat.mod_lt l hpos
        refine ⟨?_, by rw [Nat.mul_comm]; omega⟩
        apply Nat.div_eq_of_lt_le
        · rw [Nat.add_mul, Nat.one_mul, Nat.mul_comm]; omega
        · rw [Nat.add_mul, Nat.add_mul, Nat.one_mul, Nat.mul_comm]; omega
    rw [hq1.1] at ht
    generalize l / a = q at *
    rw [Nat.add_mul, Nat.one_mul] at ht
    have hr : r < q * a + a := by omega
    -- m y = a z + what lies between
    have key : lb n (m % a) a (a - (r - q * a)) (a - (l - q * a)) ≤ y := by
      have em := Nat.div_add_mod m a
      -- z = x - q - 1 - (m / a) * y
      have e1 : m * y = a * (m / a * y) + m % a * y := by
        conv => lhs; rw [← em]
        rw [Nat.add_mul, Nat.mul_assoc]
      have e2 : q * a = a * q := Nat.mul_comm q a
      have zpos : q + 1 + m / a * y ≤ x := by
        apply Nat.le_of_lt_succ
        apply Nat.lt_of_mul_lt_mul_left (a := a)
        rw [Nat.mul_add a, Nat.mul_add a, Nat.mul_one, Nat.mul_succ]
        omega
      obtain ⟨z, rfl⟩ := Nat.exists_eq_add_of_le zpos
      refine ih (m % a) a _ _ (Nat.mod_lt m hpos) (by omega) (by omega) y z ?_ ?_ ?_
      · have : 1 * y ≤ m / a * y := Nat.mul_le_mul_right y ((Nat.one_le_div_iff hpos).2 (by omega))
        omega
      · rw [Nat.mul_add a, Nat.mul_add a, Nat.mul_add a, Nat.mul_one] at hlo hhi
        omega
      · rw [Nat.mul_add a, Nat.mul_add a, Nat.mul_add a, Nat.mul_one] at hlo hhi
        omega
    generalize lb n (m % a) a (a - (r - q * a)) (a - (l - q * a)) = k at *
    have : (l + m * k + a - 1) / a < x + 1 := by
      rw [Nat.div_lt_iff_lt_mul hpos, Nat.add_mul, Nat.one_mul, Nat.mul_comm x a]
      have := Nat.mul_le_mul_left m key
      omega
    omega

theorem window (n a m lo hi x0 l c N : Nat) (h : lo + a * x0 + l = m * c) (ha : a < m) (h1 : 1 ≤ l) (hr : l + lo + hi < m) (hN : N ≤ x0 + lb n a m l (l + lo + hi)) (x : Nat) (hx0 : x0 ≤ x) (hx : x < N) (hb : x < 2 ^ 80) (y : Nat) (k1 : m * y ≤ a * x + lo) (k2 : a * x ≤ m * y + hi) : False := by
  obtain ⟨t, rfl⟩ := Nat.exists_eq_add_of_le hx0
  rw [Nat.mul_add] at k1 k2
  have hc : c ≤ y := by
    apply Nat.le_of_lt_succ
    apply Nat.lt_of_mul_lt_mul_left (a := m)
    rw [Nat.mul_succ]; omega
  obtain ⟨z, rfl⟩ := Nat.exists_eq_add_of_le hc
  rw [Nat.mul_add] at k1 k2
  have := lb_le n a m l (l + lo + hi) ha h1 (by omega) t z (by omega) (by omega) (by omega)
  omega
/-- the power of ten 10^(i - 348), as 128 bits, rounded up: a fraction's part above, and below -/
def pn (i : Nat) : Nat :=
  if 348 ≤ i then 10 ^ (i - 348) * 2 ^ (127 - (i - 348) * 108853 / 2 ^ 15) else 2 ^ (127 + ((348 - i) * 108853 + 32767) / 2 ^ 15)
def pd (i : Nat) : Nat :=
  if 348 ≤ i then 2 ^ ((i - 348) * 108853 / 2 ^ 15 - 127) else 10 ^ (348 - i)
def pm (i : Nat) : Nat := (pn i + pd i - 1) / pd i
def okW (i M lo hi x0 N : Nat) : Bool :=
  Nat.blt (2 ^ M - (lo + pm i % 2 ^ M * x0) % 2 ^ M + lo + hi) (2 ^ M) && Nat.ble N (x0 + lb 60 (pm i % 2 ^ M) (2 ^ M) (2 ^ M - (lo + pm i % 2 ^ M * x0) % 2 ^ M) (2 ^ M - (lo + pm i % 2 ^ M * x0) % 2 ^ M + lo + hi))
theorem okW_out {i M lo hi x0 N : Nat} (h : okW i M lo hi x0 N = true) (x : Nat) (hx0 : x0 ≤ x) (hx : x < N) (hb : x < 2 ^ 80) (y : Nat) (k1 : 2 ^ M * y ≤ x * pm i + lo) (k2 : x * pm i ≤ 2 ^ M * y + hi) : False := by
  unfold okW at h
  rw [Bool.and_eq_true, Nat.blt_eq, Nat.ble_eq] at h
  obtain ⟨h1, h2⟩ := h
  have hm : 0 < 2 ^ M := Nat.two_pow_pos M
  have e : pm i = 2 ^ M * (pm i / 2 ^ M) + pm i % 2 ^ M := (Nat.div_add_mod _ _).symm
  have ha := Nat.mod_lt (pm i) hm
  generalize pm i % 2 ^ M = a at *
  generalize pm i / 2 ^ M = q at *
  rw [e] at k1 k2
  generalize 2 ^ M = m at *
  have e2 := Nat.div_add_mod (lo + a * x0) m
  have e3 := Nat.mod_lt (lo + a * x0) hm
  have kx : x * (m * q + a) = m * (x * q) + a * x := by rw [Nat.mul_add, Nat.mul_comm x a, ← Nat.mul_assoc, Nat.mul_comm x m, Nat.mul_assoc]
  rw [kx] at k1 k2
  have hy : x * q ≤ y := by
    apply Nat.le_of_lt_succ
    apply Nat.lt_of_mul_lt_mul_left (a := m)
    rw [Nat.mul_succ]
    omega
  obtain ⟨z, rfl⟩ := Nat.exists_eq_add_of_le hy
  rw [Nat.mul_add] at k1 k2
  refine window 60 a m lo hi x0 (m - (lo + a * x0) % m) ((lo + a * x0) / m + 1) N ?_ ha (by omega) h1 h2 x hx0 hx hb z (by omega) (by omega)
  rw [Nat.mul_add, Nat.mul_one]; omega
end Go.Proofs.YthhlhiighgnkmaaGreatDoor.Nr
/-! ## MATHEMATICS: Go's scaling by a rounded power of ten is exact (the windows of all powers, by the kernel). -/
namespace Go.Proofs.YthhlhiighgnkmaaGreatDoor.Nr
def allP (f : Nat → Bool) : Nat → Nat → Bool
  | 0, _ => true
  | n + 1, i => if f i then allP f n (i + 1) else false
theorem allP_at {f : Nat → Bool} : ∀ {n i : Nat}, allP f n i = true → ∀ j, i ≤ j → j < i + n → f j = true := by
  intro n
  induction n with
  | zero => intro i _ j h1 h2; omega
  | succ n ih =>
    intro i h j h1 h2
    unfold allP at h
    cases hf : f i with
    | false => rw [hf] at h; cases h
    | true =>
      rw [hf] at h
      by_cases hj : j = i
      · rw [hj]; exact hf
      · exact ih h j (by omega) (by omega)
theorem print_lo : allP (fun i => okW i 124 (2 ^ 55) (2 ^ 55) 1 (2 ^ 55)) 265 56 = true := by decide +kernel
theorem print_hi : allP (fun i => okW i 124 (2 ^ 55) (2 ^ 55) 1 (2 ^ 55)) 297 376 = true := by decide +kernel
theorem parse_lo : allP (fun i => okW i 136 (2 ^ 64 - 1) (2 ^ 64) (2 ^ 63) (10 ^ 19 + 1)) 318 3 = true := by decide +kernel
theorem parse_hi : allP (fun i => okW i 136 (2 ^ 64 - 1) (2 ^ 64) (2 ^ 63) (10 ^ 19 + 1)) 283 376 = true := by decide +kernel
theorem even_lo : allP (fun i => okW i 135 (2 ^ 63) (2 ^ 63) (2 ^ 62) (2 ^ 63)) 318 3 = true := by decide +kernel
theorem even_hi : allP (fun i => okW i 135 (2 ^ 63) (2 ^ 63) (2 ^ 62) (2 ^ 63)) 283 376 = true := by decide +kernel
/-- n/d in whole numbers, its lowest bit 1 if something is left over -/
def unr (n d : Nat) : Nat := n / d ||| (if n % d = 0 then 0 else 1)
/-- what Go's uscale reckons -/
def codeU (x hi lo s : Nat) : Nat :=
  if x * hi / 2 ^ 64 % 2 ^ s ≠ 0 then x * hi / 2 ^ 64 / 2 ^ s ||| 1 else
  (x * hi / 2 ^ 64 - (if x * hi % 2 ^ 64 < x * lo / 2 ^ 64 then 1 else 0)) / 2 ^ s ||| (if 1 < (2 ^ 64 + x * hi % 2 ^ 64 - x * lo / 2 ^ 64) % 2 ^ 64 then 1 else 0)
theorem unr_of {n d q : Nat} (h1 : d * q < n) (h2 : n < d * (q + 1)) : unr n d = q ||| 1 := by
  have hd : n / d = q := Nat.div_eq_of_lt_le (by rw [Nat.mul_comm]; omega) (by rw [Nat.mul_comm]; omega)
  have := Nat.div_add_mod n d
  rw [hd] at this
  unfold unr
  rw [hd, if_neg (by omega)]
theorem unr_exact {n d q : Nat} (hd : 0 < d) (h : n = d * q) : unr n d = q := by
  subst h; unfold unr; rw [Nat.mul_div_cancel_left _ hd, if_pos (Nat.mul_mod_right d q), Nat.or_zero]
theorem unr_T {x pmv n d K T : Nat} (hT : T = x * pmv) (hx : 1 ≤ x) (hx2 : x < 2 ^ 64) (hd : 0 < d) (c1 : (pmv - 1) * d < n) (c2 : n ≤ pmv * d) (hp : 1 ≤ pmv)
    (hK : 2 ^ 128 ≤ K) (win : ∀ y, K * y ≤ T + (2 ^ 64 - 1) → T ≤ K * y + 2 ^ 64 → x * n = d * K * y) :
    T % K ≤ K - 2 ^ 64 ∧ unr (x * n) (d * K) = T / K ||| (if T % K ≤ 2 ^ 64 then 0 else 1) := by
  have eT := Nat.div_add_mod T K
  have hm := Nat.mod_lt T (show 0 < K by omega)
  have hdK : 0 < d * K := Nat.mul_pos hd (by omega)
  -- T d - x d < x n ≤ T d
  have t2 : x * n ≤ T * d := by rw [hT, Nat.mul_assoc]; exact Nat.mul_le_mul_left x c2
  have t1 : T * d < x * n + x * d := by
    obtain ⟨p, rfl⟩ : ∃ p, pmv = p + 1 := ⟨pmv - 1, by omega⟩
    rw [Nat.add_sub_cancel] at c1
    have h3 : x * (p * d) < x * n := Nat.mul_lt_mul_of_pos_left c1 hx
    rw [hT, Nat.mul_assoc, Nat.add_mul, Nat.one_mul, Nat.mul_add]; omega
  generalize T / K = q at *
  generalize T % K = r at *
  have hr : r ≤ K - 2 ^ 64 := by
    apply Nat.le_of_not_lt
    intro hr
    have e := win (q + 1) (by rw [Nat.mul_succ]; omega) (by rw [Nat.mul_succ]; omega)
    rw [Nat.mul_assoc] at e
    have : T * d < K * (q + 1) * d := Nat.mul_lt_mul_of_pos_right (by rw [Nat.mul_succ]; omega) hd
    rw [Nat.mul_comm (K * (q + 1)) d] at this
    omega
  refine ⟨hr, ?_⟩
  by_cases h0 : r ≤ 2 ^ 64
  · rw [if_pos h0, Nat.or_zero]
    exact unr_exact hdK (win q (by omega) (by omega))
  · rw [if_neg h0]
    apply unr_of
    · -- d K q < x n
      have h4 : (K * q + x) * d < T * d := Nat.mul_lt_mul_of_pos_right (by omega) hd
      rw [Nat.add_mul] at h4
      rw [Nat.mul_assoc, Nat.mul_comm d]; omega
    · have h5 : T * d < K * (q + 1) * d := Nat.mul_lt_mul_of_pos_right (by rw [Nat.mul_succ]; omega) hd
      rw [Nat.mul_assoc, Nat.mul_comm d]; omega
theorem code_T {x hi lo s : Nat} (hx : x ≤ 2 ^ 64 - 2) (hlo : lo < 2 ^ 64) (hle : lo ≤ hi * 2 ^ 64)
    (hr : x * (hi * 2 ^ 64 - lo) % 2 ^ (128 + s) ≤ 2 ^ (128 + s) - 2 ^ 64) :
    codeU x hi lo s = x * (hi * 2 ^ 64 - lo) / 2 ^ (128 + s) ||| (if x * (hi * 2 ^ 64 - lo) % 2 ^ (128 + s) ≤ 2 ^ 64 then 0 else 1) := by
  have eh := Nat.div_add_mod (x * hi) (2 ^ 64)
  have el := Nat.div_add_mod (x * lo) (2 ^ 64)
  have mh := Nat.mod_lt (x * hi) (show 0 < 2 ^ 64 by decide)
  have ml := Nat.mod_lt (x * lo) (show 0 < 2 ^ 64 by decide)
  have bl : x * lo ≤ (2 ^ 64 - 2) * (2 ^ 64 - 1) := Nat.mul_le_mul hx (by omega)
  have eT : x * (hi * 2 ^ 64 - lo) + x * lo = x * hi * 2 ^ 64 := by
    rw [← Nat.mul_add, Nat.sub_add_cancel hle, Nat.mul_assoc]
  unfold codeU
  generalize x * (hi * 2 ^ 64 - lo) = T at *
  generalize x * hi = A at *
  generalize x * lo = B at *
  generalize A / 2 ^ 64 = h at *
  generalize A % 2 ^ 64 = mid at *
  generalize B / 2 ^ 64 = mid2 at *
  generalize B % 2 ^ 64 = low at *
  have hK : 2 ^ (128 + s) = 2 ^ 128 * 2 ^ s := by rw [Nat.pow_add]
  have hp : 0 < 2 ^ s := Nat.two_pow_pos s
  rw [hK] at hr ⊢
  have e1 := Nat.div_add_mod h (2 ^ s)
  have m1 := Nat.mod_lt h hp
  -- T by its parts
  have key : ∀ q r, T = 2 ^ 128 * 2 ^ s * q + r → r < 2 ^ 128 * 2 ^ s → T / (2 ^ 128 * 2 ^ s) = q ∧ T % (2 ^ 128 * 2 ^ s) = r := by
    intro q r h1 h2
    have : T / (2 ^ 128 * 2 ^ s) = q := by
      apply Nat.div_eq_of_lt_le
      · rw [Nat.mul_comm]; omega
      · rw [Nat.mul_comm, Nat.mul_succ]; omega
    have e := Nat.div_add_mod T (2 ^ 128 * 2 ^ s)
    rw [this] at e
    exact ⟨this, by omega⟩
  have eH : 2 ^ 128 * 2 ^ s * (h / 2 ^ s) = 2 ^ 128 * (2 ^ s * (h / 2 ^ s)) := Nat.mul_assoc _ _ _
  generalize h % 2 ^ s = hl at *
  generalize h / 2 ^ s = H at *
  generalize hG : 2 ^ 128 * 2 ^ s = K at *
  generalize 2 ^ s = S at *
  generalize hHS : S * H = HS at *
  by_cases h0 : hl = 0
  · rw [if_neg (by omega)]
    by_cases h2 : mid < mid2
    · rw [if_pos h2]
      have hH : 1 ≤ H := by
        rcases Nat.eq_zero_or_pos H with h | h
        · subst h; omega
        · exact h
      obtain ⟨G, rfl⟩ : ∃ G, H = G + 1 := ⟨H - 1, by omega⟩
      have : h - 1 = S * G + (S - 1) := by rw [Nat.mul_succ] at hHS; omega
      have d1 : (h - 1) / S = G := by
        apply Nat.div_eq_of_lt_le
        · rw [Nat.mul_comm]; omega
        · rw [Nat.mul_comm, Nat.mul_succ]; omega
      obtain ⟨k1, k2⟩ := key G (K - ((mid2 - mid) * 2 ^ 64 + low)) (by rw [Nat.mul_succ] at eH; omega) (by omega)
      rw [d1, k1, k2, if_pos (by omega), if_neg (by omega)]
    · rw [if_neg h2]
      have d1 : (h - 0) / S = H := by
        apply Nat.div_eq_of_lt_le
        · rw [Nat.mul_comm]; omega
        · rw [Nat.mul_comm, Nat.mul_succ]; omega
      rw [d1]
      by_cases h3 : mid = mid2
      · by_cases h4 : low = 0
        · obtain ⟨k1, k2⟩ := key H 0 (by omega) (by omega)
          rw [k1, k2, if_neg (by omega), if_pos (by omega)]
        · exfalso
          have hH : 1 ≤ H := by
            rcases Nat.eq_zero_or_pos H with h | h
            · subst h; omega
            · exact h
          obtain ⟨G, rfl⟩ : ∃ G, H = G + 1 := ⟨H - 1, by omega⟩
          obtain ⟨k1, k2⟩ := key G (K - low) (by rw [Nat.mul_succ] at eH; omega) (by omega)
          omega
      · obtain ⟨k1, k2⟩ := key H ((mid - mid2) * 2 ^ 64 - low) (by omega) (by omega)
        rw [k1, k2]
        by_cases h5 : mid - mid2 = 1
        · rw [if_neg (by omega), if_pos (by omega)]
        · rw [if_pos (by omega), if_neg (by omega)]
  · rw [if_pos (by omega)]
    obtain ⟨k1, k2⟩ := key H (hl * 2 ^ 128 + mid * 2 ^ 64 - mid2 * 2 ^ 64 - low) (by omega) (by
      have : hl + 1 ≤ S := m1
      omega)
    rw [k1, k2, if_neg (by omega)]
end Go.Proofs.YthhlhiighgnkmaaGreatDoor.Nr
/-! ## MATHEMATICS: Go's scaling is exact where it prints and where it reads. -/
namespace Go.Proofs.YthhlhiighgnkmaaGreatDoor.Nr
theorem pd_pos (i : Nat) : 0 < pd i := by
  unfold pd; split
  · exact Nat.two_pow_pos _
  · exact Nat.pow_pos (by decide)
theorem pn_pos (i : Nat) : 0 < pn i := by
  unfold pn; split
  · exact Nat.mul_pos (Nat.pow_pos (by decide)) (Nat.two_pow_pos _)
  · exact Nat.two_pow_pos _
theorem pm_up (i : Nat) : pn i ≤ pm i * pd i := by
  unfold pm
  have h := Nat.div_add_mod (pn i + pd i - 1) (pd i)
  have m := Nat.mod_lt (pn i + pd i - 1) (pd_pos i)
  rw [Nat.mul_comm]; omega
theorem pm_lo (i : Nat) : (pm i - 1) * pd i < pn i := by
  unfold pm
  have h := Nat.div_add_mod (pn i + pd i - 1) (pd i)
  have m := Nat.mod_lt (pn i + pd i - 1) (pd_pos i)
  have p := pn_pos i
  have d := pd_pos i
  generalize (pn i + pd i - 1) / pd i = q at *
  rw [Nat.sub_mul, Nat.one_mul, Nat.mul_comm]; omega
theorem pm_pos (i : Nat) : 1 ≤ pm i := by
  rcases Nat.eq_zero_or_pos (pm i) with h | h
  · have := pm_up i; have := pn_pos i; rw [h] at *; omega
  · exact h
def okG (i : Nat) : Bool :=
  let g := if 348 ≤ i then 2 ^ 65 else 2 ^ (476 - i)
  pn i % g == 0 && pd i * 2 ^ 128 % g == 0 && Nat.ble (pd i * 2 ^ 65) g
theorem small_all : allP okG 55 321 = true := by decide +kernel
theorem near_same {g a b : Nat} (ha : a % g = 0) (hb : b % g = 0) (h1 : a < b + g) (h2 : b < a + g) : a = b := by
  have e1 := Nat.div_add_mod a g
  have e2 := Nat.div_add_mod b g
  rw [ha] at e1; rw [hb] at e2
  have : a / g = b / g := by
    apply Nat.le_antisymm
    · apply Nat.le_of_lt_succ
      apply Nat.lt_of_mul_lt_mul_left (a := g)
      rw [Nat.mul_succ]; omega
    · apply Nat.le_of_lt_succ
      apply Nat.lt_of_mul_lt_mul_left (a := g)
      rw [Nat.mul_succ]; omega
  rw [this] at e1; omega
theorem T_lt (i x : Nat) (hx : 1 ≤ x) : x * pm i * pd i < x * pn i + x * pd i := by
  have c1 := pm_lo i
  obtain ⟨p, hp⟩ : ∃ p, pm i = p + 1 := ⟨pm i - 1, by have := pm_pos i; omega⟩
  rw [hp] at c1 ⊢
  rw [Nat.add_sub_cancel] at c1
  have h3 : x * (p * pd i) < x * pn i := Nat.mul_lt_mul_of_pos_left c1 hx
  rw [Nat.mul_assoc, Nat.add_mul, Nat.one_mul, Nat.mul_add]; omega
theorem win_small {i : Nat} (h1 : 321 ≤ i) (h2 : i ≤ 375) (x s : Nat) (hx : 1 ≤ x) (hx2 : x < 2 ^ 64) (y : Nat)
    (k1 : 2 ^ (128 + s) * y ≤ x * pm i + (2 ^ 64 - 1)) (k2 : x * pm i ≤ 2 ^ (128 + s) * y + 2 ^ 64) : x * pn i = pd i * 2 ^ (128 + s) * y := by
  have h := allP_at small_all i (by omega) (by omega)
  unfold okG at h
  simp only [Bool.and_eq_true, beq_iff_eq, Nat.ble_eq] at h
  obtain ⟨⟨g1, g2⟩, g3⟩ := h
  have hT := T_lt i x hx
  have hU : x * pn i ≤ x * pm i * pd i := by rw [Nat.mul_assoc]; exact Nat.mul_le_mul_left x (pm_up i)
  generalize (if 348 ≤ i then 2 ^ 65 else 2 ^ (476 - i)) = g at *
  have e : pd i * 2 ^ (128 + s) * y = pd i * 2 ^ 128 * (2 ^ s * y) := by rw [Nat.pow_add]; simp only [Nat.mul_assoc]
  have eB : pd i * 2 ^ (128 + s) * y = 2 ^ (128 + s) * y * pd i := by rw [Nat.mul_assoc, Nat.mul_comm]
  refine near_same (g := g) ?_ ?_ ?_ ?_
  · rw [Nat.mul_mod, g1, Nat.mul_zero, Nat.zero_mod]
  · rw [e, Nat.mul_mod, g2, Nat.zero_mul, Nat.zero_mod]
  · have := Nat.mul_le_mul_right (pd i) k2
    rw [Nat.add_mul] at this
    have hd := pd_pos i
    rw [eB]; omega
  · have := Nat.mul_le_mul_right (pd i) k1
    rw [Nat.add_mul] at this
    have hd := pd_pos i
    have hxd : x * pd i ≤ (2 ^ 64 - 1) * pd i := Nat.mul_le_mul_right _ (by omega)
    rw [eB]; omega
theorem win_print {i : Nat} (h1 : 56 ≤ i) (h2 : i ≤ 672) (x s : Nat) (hx : 1 ≤ x) (hx2 : x < 2 ^ 64) (h9 : x % 2 ^ 9 = 0) (hs : 5 ≤ s) (y : Nat)
    (k1 : 2 ^ (128 + s) * y ≤ x * pm i + (2 ^ 64 - 1)) (k2 : x * pm i ≤ 2 ^ (128 + s) * y + 2 ^ 64) : x * pn i = pd i * 2 ^ (128 + s) * y := by
  by_cases hm : 321 ≤ i ∧ i ≤ 375
  · exact win_small hm.1 hm.2 x s hx hx2 y k1 k2
  exfalso
  have hok : okW i 124 (2 ^ 55) (2 ^ 55) 1 (2 ^ 55) = true := by
    by_cases h : i ≤ 320
    · exact allP_at print_lo i (by omega) (by omega)
    · exact allP_at print_hi i (by omega) (by omega)
  have e := Nat.div_add_mod x (2 ^ 9)
  rw [h9] at e
  obtain ⟨t, rfl⟩ := Nat.exists_eq_add_of_le hs
  have eK : 2 ^ (128 + (5 + t)) * y = 2 ^ 9 * (2 ^ 124 * (2 ^ t * y)) := by
    rw [show 128 + (5 + t) = 9 + 124 + t by omega, Nat.pow_add, Nat.pow_add]; simp only [Nat.mul_assoc]
  rw [eK] at k1 k2
  have ex : x * pm i = 2 ^ 9 * (x / 2 ^ 9 * pm i) := by rw [← Nat.mul_assoc, show 2 ^ 9 * (x / 2 ^ 9) = x by omega]
  rw [ex] at k1 k2
  refine okW_out hok (x / 2 ^ 9) (by omega) (by omega) (by omega) (2 ^ t * y) ?_ ?_
  · omega
  · omega
theorem win_parse {i : Nat} (h1 : 3 ≤ i) (h2 : i ≤ 658) (x s : Nat) (hx : 2 ^ 63 ≤ x) (hx2 : x < 2 ^ 64) (h9 : x ≤ 10 ^ 19 ∨ x % 2 = 0) (hs : 8 ≤ s) (y : Nat)
    (k1 : 2 ^ (128 + s) * y ≤ x * pm i + (2 ^ 64 - 1)) (k2 : x * pm i ≤ 2 ^ (128 + s) * y + 2 ^ 64) : x * pn i = pd i * 2 ^ (128 + s) * y := by
  by_cases hm : 321 ≤ i ∧ i ≤ 375
  · exact win_small hm.1 hm.2 x s (by omega) hx2 y k1 k2
  exfalso
  obtain ⟨t, rfl⟩ := Nat.exists_eq_add_of_le hs
  by_cases hl : x ≤ 10 ^ 19
  · have hok : okW i 136 (2 ^ 64 - 1) (2 ^ 64) (2 ^ 63) (10 ^ 19 + 1) = true := by
      by_cases h : i ≤ 320
      · exact allP_at parse_lo i (by omega) (by omega)
      · exact allP_at parse_hi i (by omega) (by omega)
    have eK : 2 ^ (128 + (8 + t)) * y = 2 ^ 136 * (2 ^ t * y) := by
      rw [show 128 + (8 + t) = 136 + t by omega, Nat.pow_add]; simp only [Nat.mul_assoc]
    rw [eK] at k1 k2
    exact okW_out hok x (by omega) (by omega) (by omega) (2 ^ t * y) k1 k2
  · have h9 : x % 2 = 0 := by omega
    have hok : okW i 135 (2 ^ 63) (2 ^ 63) (2 ^ 62) (2 ^ 63) = true := by
      by_cases h : i ≤ 320
      · exact allP_at even_lo i (by omega) (by omega)
      · exact allP_at even_hi i (by omega) (by omega)
    have eK : 2 ^ (128 + (8 + t)) * y = 2 * (2 ^ 135 * (2 ^ t * y)) := by
      rw [show 128 + (8 + t) = 1 + 135 + t by omega, Nat.pow_add, Nat.pow_add]; simp only [Nat.mul_assoc, Nat.pow_one]
    rw [eK] at k1 k2
    have ex : x * pm i = 2 * (x / 2 * pm i) := by rw [← Nat.mul_assoc, show 2 * (x / 2) = x by omega]
    rw [ex] at k1 k2
    refine okW_out hok (x / 2) (by omega) (by omega) (by omega) (2 ^ t * y) ?_ ?_
    · omega
    · omega
theorem codeU_of {i x hi lo s : Nat} (hpm : hi * 2 ^ 64 = pm i + lo) (hlo : lo < 2 ^ 64) (hx : 1 ≤ x) (hx2 : x ≤ 2 ^ 64 - 2)
    (win : ∀ y, 2 ^ (128 + s) * y ≤ x * pm i + (2 ^ 64 - 1) → x * pm i ≤ 2 ^ (128 + s) * y + 2 ^ 64 → x * pn i = pd i * 2 ^ (128 + s) * y) :
    codeU x hi lo s = unr (x * pn i) (pd i * 2 ^ (128 + s)) := by
  have e : hi * 2 ^ 64 - lo = pm i := by omega
  have hk : 2 ^ 128 ≤ 2 ^ (128 + s) := Nat.pow_le_pow_right (by decide) (by omega)
  obtain ⟨u1, u2⟩ := unr_T (K := 2 ^ (128 + s)) rfl hx (by omega) (pd_pos i) (pm_lo i) (pm_up i) (pm_pos i) hk win
  rw [u2]
  have := code_T (x := x) (hi := hi) (lo := lo) (s := s) hx2 hlo (by omega) (by rw [e]; exact u1)
  rw [this, e]
theorem uscale_print {i x hi lo s : Nat} (h1 : 56 ≤ i) (h2 : i ≤ 672) (hpm : hi * 2 ^ 64 = pm i + lo) (hlo : lo < 2 ^ 64) (hx : 1 ≤ x) (hx2 : x < 2 ^ 64) (h9 : x % 2 ^ 9 = 0) (hs : 5 ≤ s) :
    codeU x hi lo s = unr (x * pn i) (pd i * 2 ^ (128 + s)) :=
  codeU_of hpm hlo hx (by omega) (win_print h1 h2 x s hx hx2 h9 hs)
theorem uscale_parse {i x hi lo s : Nat} (h1 : 3 ≤ i) (h2 : i ≤ 658) (hpm : hi * 2 ^ 64 = pm i + lo) (hlo : lo < 2 ^ 64) (hx : 2 ^ 63 ≤ x) (hx2 : x < 2 ^ 64) (h9 : x ≤ 10 ^ 19 ∨ x % 2 = 0) (hs : 8 ≤ s) :
    codeU x hi lo s = unr (x * pn i) (pd i * 2 ^ (128 + s)) :=
  codeU_of hpm hlo (by omega) (by omega) (win_parse h1 h2 x s hx hx2 h9 hs)
end Go.Proofs.YthhlhiighgnkmaaGreatDoor.Nr
/-! ## MATHEMATICS: quarters with something left over, cut down, up and to the nearest. -/
namespace Go.Proofs.YthhlhiighgnkmaaGreatDoor.Nr
/-- n/d, to the nearest, of two the even one -/
def near (n d : Nat) : Nat := n / d + (if d < 2 * (n % d) ∨ (d = 2 * (n % d) ∧ n / d % 2 = 1) then 1 else 0)
/-- the least whole number not below n/d -/
def ceil (n d : Nat) : Nat := (n + d - 1) / d
theorem or_one (q : Nat) : q ||| 1 = if q % 2 = 0 then q + 1 else q := by
  have h : (q ||| 1) / 2 = q / 2 := by rw [Nat.or_div_two]; simp
  have h2 : (q ||| 1) % 2 = 1 := by rw [Nat.or_mod_two_eq_one]; exact Or.inr rfl
  split <;> omega
theorem unr_val (n d : Nat) : unr n d = n / d + (if n % d ≠ 0 ∧ n / d % 2 = 0 then 1 else 0) := by
  unfold unr
  by_cases h : n % d = 0
  · rw [if_pos h, if_neg (by omega), Nat.or_zero, Nat.add_zero]
  · rw [if_neg h, or_one]
    by_cases h2 : n / d % 2 = 0
    · rw [if_pos h2, if_pos ⟨h, h2⟩]
    · rw [if_neg h2, if_neg (fun k => h2 k.2), Nat.add_zero]
/-- a number by quarters: whole part, quarters, rest -/
theorem quarters (n d : Nat) (hd : 0 < d) : ∃ a c r, n = 4 * d * a + d * c + r ∧ c < 4 ∧ r < d ∧ n / d = 4 * a + c ∧ n % d = r ∧ n / (4 * d) = a ∧ n % (4 * d) = d * c + r := by
  have e := Nat.div_add_mod n d
  have m := Nat.mod_lt n hd
  have e4 := Nat.div_add_mod (n / d) 4
  have m4 := Nat.mod_lt (n / d) (show 0 < 4 by decide)
  have eq : n = 4 * d * (n / d / 4) + d * (n / d % 4) + n % d := by
    have : d * (n / d) = 4 * d * (n / d / 4) + d * (n / d % 4) := by
      conv => lhs; rw [← e4]
      rw [Nat.mul_add, ← Nat.mul_assoc, Nat.mul_comm d 4]
    omega
  have h4 : n / (4 * d) = n / d / 4 := by rw [Nat.mul_comm 4 d, Nat.div_div_eq_div_mul]
  refine ⟨n / d / 4, n / d % 4, n % d, eq, m4, m, by omega, rfl, h4, ?_⟩
  have := Nat.div_add_mod n (4 * d)
  rw [h4] at this; omega
theorem unr_floor (n d : Nat) (hd : 0 < d) : unr n d / 4 = n / (4 * d) := by
  obtain ⟨a, c, r, e, hc, hr, q1, q2, q3, q4⟩ := quarters n d hd
  rw [unr_val, q1, q2, q3]
  split <;> omega
theorem ceil_of {n d q : Nat} (h1 : d * q < n + d) (h2 : n ≤ d * q) : ceil n d = q := by
  unfold ceil
  apply Nat.div_eq_of_lt_le
  · rw [Nat.mul_comm]; omega
  · rw [Nat.mul_comm, Nat.mul_succ]; omega
theorem unr_ceil (n d : Nat) (hd : 0 < d) : (unr n d + 3) / 4 = ceil n (4 * d) := by
  obtain ⟨a, c, r, e, hc, hr, q1, q2, q3, q4⟩ := quarters n d hd
  rw [unr_val, q1, q2]
  have h4 : c = 0 ∨ c = 1 ∨ c = 2 ∨ c = 3 := by omega
  by_cases h0 : c = 0 ∧ r = 0
  · obtain ⟨rfl, rfl⟩ := h0
    rw [ceil_of (q := a) (by omega) (by omega), if_neg (by omega)]; omega
  · rw [ceil_of (q := a + 1) (by rw [Nat.mul_succ]; rcases h4 with rfl | rfl | rfl | rfl <;> omega) (by rw [Nat.mul_succ]; rcases h4 with rfl | rfl | rfl | rfl <;> omega)]
    split <;> omega
/-- one quarter more, cut up: the least whole number above -/
theorem unr_above (n d : Nat) (hd : 0 < d) : (unr n d + 1 + 3) / 4 = n / (4 * d) + 1 := by
  have := unr_floor n d hd
  omega
/-- one quarter less, cut down: the greatest whole number below -/
theorem unr_under (n d : Nat) (hd : 0 < d) (hn : 0 < n) : (unr n d - 1) / 4 = ceil n (4 * d) - 1 := by
  have h := unr_ceil n d hd
  have hu : 1 ≤ unr n d := by
    rw [unr_val]
    have e := Nat.div_add_mod n d
    generalize n / d = q at *
    generalize n % d = r at *
    by_cases h1 : q = 0
    · subst h1
      rw [if_pos ⟨by omega, rfl⟩]; omega
    · omega
  omega
theorem unr_near (n d : Nat) (hd : 0 < d) : (unr n d + 1 + unr n d / 4 % 2) / 4 = near n (4 * d) := by
  have hf := unr_floor n d hd
  obtain ⟨a, c, r, e, hc, hr, q1, q2, q3, q4⟩ := quarters n d hd
  unfold near
  rw [hf, q3, q4, unr_val, q1, q2]
  have h4 : c = 0 ∨ c = 1 ∨ c = 2 ∨ c = 3 := by omega
  rcases h4 with rfl | rfl | rfl | rfl
  · rw [if_neg (show ¬ (4 * d < 2 * (d * 0 + r) ∨ _) by omega)]
    split <;> omega
  · rw [if_neg (show ¬ (4 * d < 2 * (d * 1 + r) ∨ _) by omega), if_neg (by omega)]
    omega
  · by_cases h0 : r = 0
    · subst h0
      rw [if_neg (by omega)]
      by_cases ho : a % 2 = 1
      · rw [if_pos (by omega)]; omega
      · rw [if_neg (by omega)]; omega
    · rw [if_pos (by omega), if_pos (by omega)]; omega
  · rw [if_neg (by omega), if_pos (by omega)]; omega
end Go.Proofs.YthhlhiighgnkmaaGreatDoor.Nr
