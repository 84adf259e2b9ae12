/-
  THE PLAIN MATHEMATICS OF THE CHECKSUM, on natural numbers: a step of the register is linear under the exclusive or; half a byte by a table; a run of 32 bits.
-/
namespace Go.Proofs.Ytniajoocpnhhgaa.Crc
def P : Nat := 2197175160
def top : Nat := 4294967295
/-- one bit -/
def S (n : Nat) : Nat := if n % 2 = 1 then (n / 2) ^^^ 2197175160 else n / 2
/-- k bits -/
def It : Nat → Nat → Nat
  | 0, n => n
  | k + 1, n => It k (S n)
/-- one byte -/
def B (r c : Nat) : Nat := It 8 (r ^^^ c)
def R (r : Nat) (l : List Nat) : Nat := l.foldl B r
/-- the complement in 32 bits -/
def C (n : Nat) : Nat := 4294967295 - n
def More (s : Nat) (l : List Nat) : Nat := C (R (C s) l)

theorem S_even (n : Nat) (h : n % 2 = 0) : S n = n / 2 := by unfold S; rw [if_neg (by omega)]
theorem S_odd (n : Nat) (h : n % 2 = 1) : S n = (n / 2) ^^^ 2197175160 := by unfold S; rw [if_pos h]
theorem xor_div2 (a b : Nat) : (a ^^^ b) / 2 = a / 2 ^^^ b / 2 := by
  have := Nat.shiftRight_xor_distrib (a := a) (b := b) (i := 1)
  simpa [Nat.shiftRight_eq_div_pow] using this
theorem xor_mod2 (a b : Nat) : (a ^^^ b) % 2 = (a % 2 + b % 2) % 2 := by
  have h := Nat.testBit_xor a b 0
  simp only [Nat.testBit_zero] at h
  have ha : a % 2 = 0 ∨ a % 2 = 1 := by omega
  have hb : b % 2 = 0 ∨ b % 2 = 1 := by omega
  have hc : (a ^^^ b) % 2 = 0 ∨ (a ^^^ b) % 2 = 1 := by omega
  rcases ha with ha | ha <;> rcases hb with hb | hb <;> rcases hc with hc | hc <;> simp_all
theorem S_xor (a b : Nat) : S (a ^^^ b) = S a ^^^ S b := by
  unfold S
  rw [xor_div2, xor_mod2]
  have ha : a % 2 = 0 ∨ a % 2 = 1 := by omega
  have hb : b % 2 = 0 ∨ b % 2 = 1 := by omega
  rcases ha with ha | ha <;> rcases hb with hb | hb <;> simp only [ha, hb]
  · rfl
  · simp [Nat.xor_assoc]
  · simp only [if_true, Nat.zero_ne_one, if_false]
    rw [Nat.xor_assoc, Nat.xor_comm (b / 2), Nat.xor_assoc]
  · simp only [if_true]
    rw [show (1 + 1) % 2 = 0 from rfl, if_neg (by omega)]
    rw [Nat.xor_assoc, ← Nat.xor_assoc 2197175160, Nat.xor_comm 2197175160 (b / 2), Nat.xor_assoc (b / 2), Nat.xor_self, Nat.xor_zero]
theorem S_lt (n : Nat) (h : n < 4294967296) : S n < 4294967296 := by
  unfold S
  split
  · exact Nat.xor_lt_two_pow (n := 32) (by omega) (by omega)
  · omega
theorem S_zero : S 0 = 0 := rfl
theorem S_pos (n : Nat) (h : n < 4294967296) (h0 : S n = 0) : n = 0 := by
  by_cases ho : n % 2 = 1
  · rw [S_odd n ho] at h0
    have h1 : ((n / 2) ^^^ 2197175160).testBit 31 = false := by rw [h0]; simp
    rw [Nat.testBit_xor] at h1
    have h2 : (n / 2).testBit 31 = false := Nat.testBit_lt_two_pow (by omega)
    rw [h2] at h1
    exact absurd h1 (by decide)
  · rw [S_even n (by omega)] at h0
    omega
theorem It_zero (k : Nat) : It k 0 = 0 := by
  induction k with
  | zero => rfl
  | succ k ih => unfold It; rw [S_zero]; exact ih
theorem It_xor (k a b : Nat) : It k (a ^^^ b) = It k a ^^^ It k b := by
  induction k generalizing a b with
  | zero => rfl
  | succ k ih => unfold It; rw [S_xor, ih]
theorem It_lt (k n : Nat) (h : n < 4294967296) : It k n < 4294967296 := by
  induction k generalizing n with
  | zero => exact h
  | succ k ih => unfold It; exact ih _ (S_lt n h)
theorem It_pos (k n : Nat) (h : n < 4294967296) (h0 : It k n = 0) : n = 0 := by
  induction k generalizing n with
  | zero => exact h0
  | succ k ih => unfold It at h0; exact S_pos n h (ih _ (S_lt n h) h0)
theorem It_add (j k n : Nat) : It (j + k) n = It k (It j n) := by
  induction j generalizing n with
  | zero => rw [Nat.zero_add]; rfl
  | succ j ih =>
    rw [show j + 1 + k = (j + k) + 1 from by omega]
    exact ih (S n)
theorem It_succ (k n : Nat) : It (k + 1) n = S (It k n) := by rw [It_add]; rfl
/-- what only lies above comes down unturned -/
theorem It_pow (k x : Nat) : It k (x * 2 ^ k) = x := by
  induction k with
  | zero => simp [It]
  | succ k ih =>
    show It k (S (x * 2 ^ (k + 1))) = x
    have e : x * 2 ^ (k + 1) = x * 2 ^ k * 2 := by rw [Nat.pow_succ, Nat.mul_assoc]
    rw [e, S_even _ (by omega), Nat.mul_div_cancel _ (by decide)]
    exact ih
/-- four steps by the table of half bytes -/
theorem four (r : Nat) : It 4 r = r / 16 ^^^ It 4 (r % 16) := by
  have e : r = (r / 16 * 2 ^ 4) ^^^ (r % 16) := by
    have h1 := Nat.two_pow_add_eq_or_of_lt (b := r % 16) (i := 4) (by omega) (r / 16)
    have h2 : (2 ^ 4 * (r / 16)) ^^^ (r % 16) = 2 ^ 4 * (r / 16) + r % 16 := by
      apply Nat.eq_of_testBit_eq
      intro i
      rw [h1, Nat.testBit_xor, Nat.testBit_or]
      by_cases hi : i < 4
      · have : (2 ^ 4 * (r / 16)).testBit i = false := by rw [Nat.testBit_two_pow_mul]; simp; omega
        rw [this]; simp
      · have : (r % 16).testBit i = false := Nat.testBit_lt_two_pow (Nat.lt_of_lt_of_le (show r % 16 < 2 ^ 4 by omega) (Nat.pow_le_pow_right (by decide) (by omega)))
        rw [this]; simp
    rw [Nat.mul_comm, h2]; omega
  calc It 4 r = It 4 ((r / 16 * 2 ^ 4) ^^^ (r % 16)) := by rw [← e]
    _ = It 4 (r / 16 * 2 ^ 4) ^^^ It 4 (r % 16) := It_xor _ _ _
    _ = r / 16 ^^^ It 4 (r % 16) := by rw [It_pow]
theorem B_four (r c : Nat) : B r c = It 4 (It 4 (r ^^^ c)) := It_add 4 4 _
theorem B_lt (r c : Nat) (hr : r < 4294967296) (hc : c < 4294967296) : B r c < 4294967296 := It_lt _ _ (Nat.xor_lt_two_pow (n := 32) hr hc)
theorem R_lt (l : List Nat) (hl : ∀ c ∈ l, c < 4294967296) : ∀ r, r < 4294967296 → R r l < 4294967296 := by
  induction l with
  | nil => intro r hr; exact hr
  | cons c t ih => intro r hr; exact ih (fun x hx => hl x (List.mem_cons_of_mem _ hx)) _ (B_lt r c hr (hl c List.mem_cons_self))
theorem R_snoc (r : Nat) (l : List Nat) (c : Nat) : R r (l ++ [c]) = B (R r l) c := by simp [R, List.foldl_append]
theorem R_append (r : Nat) (l m : List Nat) : R r (l ++ m) = R (R r l) m := by simp [R, List.foldl_append]
theorem C_lt (n : Nat) : C n < 4294967296 := by unfold C; omega
theorem C_C (n : Nat) (h : n < 4294967296) : C (C n) = n := by unfold C; omega
theorem C_xor (n : Nat) (h : n < 4294967296) : C n = n ^^^ 4294967295 := by
  apply Nat.eq_of_testBit_eq
  intro i
  unfold C
  have := Nat.testBit_two_pow_sub_succ (x := n) (n := 32) h i
  rw [show (4294967295 : Nat) - n = 2 ^ 32 - (n + 1) from by omega, this, Nat.testBit_xor, show (4294967295 : Nat) = 2 ^ 32 - 1 from rfl, Nat.testBit_two_pow_sub_one]
  by_cases hi : i < 32
  · simp [hi]
  · have h2 : (2 : Nat) ^ 32 ≤ 2 ^ i := Nat.pow_le_pow_right (by decide) (by omega)
    have : n.testBit i = false := Nat.testBit_lt_two_pow (Nat.lt_of_lt_of_le h h2)
    simp [hi, this]
theorem More_lt (s : Nat) (l : List Nat) : More s l < 4294967296 := C_lt _
theorem More_nil (s : Nat) (h : s < 4294967296) : More s [] = s := C_C s h
theorem More_append (s : Nat) (l m : List Nat) (hl : ∀ c ∈ l, c < 4294967296) : More (More s l) m = More s (l ++ m) := by
  unfold More
  rw [C_C _ (R_lt l hl _ (C_lt _)), R_append]
/-! the exclusive or -/
theorem B_xor (r s c d : Nat) : B (r ^^^ s) (c ^^^ d) = B r c ^^^ B s d := by
  unfold B
  rw [← It_xor]
  congr 1
  rw [Nat.xor_assoc, Nat.xor_assoc, ← Nat.xor_assoc s, Nat.xor_comm s c, Nat.xor_assoc c]
theorem R_xor (l m : List Nat) (h : l.length = m.length) : ∀ r s, R (r ^^^ s) (List.zipWith (· ^^^ ·) l m) = R r l ^^^ R s m := by
  induction l generalizing m with
  | nil => intro r s; cases m with
    | nil => rfl
    | cons => simp at h
  | cons c t ih => cases m with
    | nil => simp at h
    | cons d u =>
      intro r s
      simp only [List.zipWith, R, List.foldl]
      rw [B_xor]
      exact ih u (by simpa using h) _ _
theorem xor_zeros (l : List Nat) : List.zipWith (· ^^^ ·) l (List.replicate l.length 0) = l := by
  induction l with
  | nil => rfl
  | cons c t ih => simp [List.replicate, ih]
theorem R_zeros (k r : Nat) : R r (List.replicate k 0) = It (8 * k) r := by
  induction k generalizing r with
  | zero => rfl
  | succ k ih =>
    show R (B r 0) (List.replicate k 0) = _
    rw [ih, show 8 * (k + 1) = 8 + 8 * k from by omega, It_add]
    unfold B; rw [Nat.xor_zero]
/-- THE SUMS OF TWO TEXTS, OF THEIR EXCLUSIVE OR, OF NOUGHTS -/
theorem linear (a b : List Nat) (h : a.length = b.length) (ha : ∀ c ∈ a, c < 4294967296) (hb : ∀ c ∈ b, c < 4294967296) :
    More 0 a ^^^ More 0 b ^^^ More 0 (List.zipWith (· ^^^ ·) a b) ^^^ More 0 (List.replicate a.length 0) = 0 := by
  have h1 : R (C 0) a ^^^ R (C 0) b = R (C 0 ^^^ C 0) (List.zipWith (· ^^^ ·) a b) := (R_xor a b h _ _).symm
  have hx : ∀ c ∈ List.zipWith (· ^^^ ·) a b, c < 4294967296 := by
    intro c hc
    obtain ⟨i, hi, rfl⟩ := List.getElem_of_mem hc
    rw [List.getElem_zipWith]
    exact Nat.xor_lt_two_pow (n := 32) (ha _ (List.getElem_mem _)) (hb _ (List.getElem_mem _))
  have hz : ∀ c ∈ List.replicate a.length 0, c < 4294967296 := by
    intro c hc; rw [List.eq_of_mem_replicate hc]; omega
  have h2 : R (C 0) (List.zipWith (· ^^^ ·) a b) ^^^ R (C 0) (List.replicate a.length 0) = R (C 0 ^^^ C 0) (List.zipWith (· ^^^ ·) a b) := by
    rw [← R_xor _ _ (by simp [h])]
    congr 1
    have : a.length = (List.zipWith (· ^^^ ·) a b).length := by simp [h]
    rw [this]; exact xor_zeros _
  unfold More
  rw [C_xor _ (R_lt a ha _ (C_lt _)), C_xor _ (R_lt b hb _ (C_lt _)), C_xor _ (R_lt _ hx _ (C_lt _)), C_xor _ (R_lt _ hz _ (C_lt _))]
  generalize R (C 0) a = p at *
  generalize R (C 0) b = q at *
  generalize R (C 0) (List.zipWith (· ^^^ ·) a b) = u at *
  generalize R (C 0) (List.replicate a.length 0) = v at *
  generalize R (C 0 ^^^ C 0) (List.zipWith (· ^^^ ·) a b) = t at *
  have e : p ^^^ 4294967295 ^^^ (q ^^^ 4294967295) ^^^ (u ^^^ 4294967295) ^^^ (v ^^^ 4294967295) = (p ^^^ q) ^^^ (u ^^^ v) := by
    apply Nat.eq_of_testBit_eq
    intro i
    simp only [Nat.testBit_xor]
    cases p.testBit i <;> cases q.testBit i <;> cases u.testBit i <;> cases v.testBit i <;> cases (4294967295 : Nat).testBit i <;> rfl
  rw [e, h1, h2, Nat.xor_self]
/-- R moved by what is put to the register ahead -/
theorem R_ahead (l : List Nat) (r s : Nat) : R (r ^^^ s) l = R r l ^^^ It (8 * l.length) s := by
  have := R_xor l (List.replicate l.length 0) (by simp) r s
  rw [xor_zeros, R_zeros] at this
  exact this
/-- ONE BIT TURNED -/
theorem flip (l : List Nat) (q j : Nat) (hq : q < l.length) (hj : j < 8) : ∀ r, R r (l.set q (l[q] ^^^ 2 ^ j)) = R r l ^^^ It (8 * l.length - (8 * q + j)) 1 := by
  induction l generalizing q with
  | nil => simp at hq
  | cons c t ih =>
    intro r
    match q, hq with
    | 0, _ =>
      show R (B r (c ^^^ 2 ^ j)) t = R (B r c) t ^^^ _
      have e : B r (c ^^^ 2 ^ j) = B r c ^^^ It 8 (2 ^ j) := by
        unfold B; rw [← Nat.xor_assoc, It_xor]
      rw [e, R_ahead]
      congr 1
      have e2 : It 8 (2 ^ j) = It (8 - j) 1 := by
        have := It_add j (8 - j) (1 * 2 ^ j)
        rw [It_pow, show j + (8 - j) = 8 from by omega, Nat.one_mul] at this
        exact this
      rw [e2, ← It_add]
      congr 1
      simp; omega
    | q + 1, hq =>
      have hq' : q < t.length := by simpa using hq
      show R (B r c) (t.set q (t[q] ^^^ 2 ^ j)) = R (B r c) t ^^^ _
      rw [ih q hq' (B r c)]
      congr 2
      simp; omega
end Go.Proofs.Ytniajoocpnhhgaa.Crc
