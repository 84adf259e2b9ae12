/-
  PACKED: Math, WalkA, WalkB, WalkC, WalkD, WalkE, Open, B2Math, B2MathB, B2Frame, B2Open, MathB, FrMath
-/
import Derived.Test.YtlegdaoidjpokaaProg
import Derived.WalkKit
import Derived.WalkSpells
import Derived.WalkLawsBesides
import Derived.Lib.Hide
import Derived.Laws.BitsAllLaws
import Derived.Deep.LoopGhost
import Derived.Laws.Rows
import Derived.Laws.CopyOwn
import Derived.Lib.SlBytesConst
import Derived.Deep.QuietTactic
import Derived.BigQuiet
import Derived.Deep.DeepAppendRoom
import Derived.Laws.AppendOwnNone
import Derived.OpenShut
import Derived.StillTailTactics
import Derived.IntWalk
import Derived.Deep.RegionHeld3
namespace Go.Proofs.Ytlegdaoidjpokaa.Crc
def P : Nat := 2197175160
def top : Nat := 4294967295
/-- one bit -/
def S (n : Nat) : Nat := if n % 2 = 1 then (n / 2) ^^^ 2197175160 else n / 2
/-- k bits -/
def It : Nat → Nat → Nat
  | 0, n => n
  | k + 1, n => It k (S n)
/-- one byte -/
def B (r c : Nat) : Nat := It 8 (r ^^^ c)
def R (r : Nat) (l : List Nat) : Nat := l.foldl B r
/-- the complement in 32 bits -/
def C (n : Nat) : Nat := 4294967295 - n
def More (s : Nat) (l : List Nat) : Nat := C (R (C s) l)

theorem S_even (n : Nat) (h : n % 2 = 0) : S n = n / 2 := by unfold S; rw [if_neg (by omega)]
theorem S_odd (n : Nat) (h : n % 2 = 1) : S n = (n / 2) ^^^ 2197175160 := by unfold S; rw [if_pos h]
theorem xor_div2 (a b : Nat) : (a ^^^ b) / 2 = a / 2 ^^^ b / 2 := by
  have := Nat.shiftRight_xor_distrib (a := a) (b := b) (i := 1)
  simpa [Nat.shiftRight_eq_div_pow] using this
theorem xor_mod2 (a b : Nat) : (a ^^^ b) % 2 = (a % 2 + b % 2) % 2 := by
  have h := Nat.testBit_xor a b 0
  simp only [Nat.testBit_zero] at h
  have ha : a % 2 = 0 ∨ a % 2 = 1 := by omega
  have hb : b % 2 = 0 ∨ b % 2 = 1 := by omega
  have hc : (a ^^^ b) % 2 = 0 ∨ (a ^^^ b) % 2 = 1 := by omega
  rcases ha with ha | ha <;> rcases hb with hb | hb <;> rcases hc with hc | hc <;> simp_all
theorem S_xor (a b : Nat) : S (a ^^^ b) = S a ^^^ S b := by
  unfold S
  rw [xor_div2, xor_mod2]
  have ha : a % 2 = 0 ∨ a % 2 = 1 := by omega
  have hb : b % 2 = 0 ∨ b % 2 = 1 := by omega
  rcases ha with ha | ha <;> rcases hb with hb | hb <;> simp only [ha, hb]
  · rfl
  · simp [Nat.xor_assoc]
  · simp only [if_true, Nat.zero_ne_one, if_false]
    rw [Nat.xor_assoc, Nat.xor_comm (b / 2), Nat.xor_assoc]
  · simp only [if_true]
    rw [show (1 + 1) % 2 = 0 from rfl, if_neg (by omega)]
    rw [Nat.xor_assoc, ← Nat.xor_assoc 2197175160, Nat.xor_comm 2197175160 (b / 2), Nat.xor_assoc (b / 2), Nat.xor_self, Nat.xor_zero]
theorem S_lt (n : Nat) (h : n < 4294967296) : S n < 4294967296 := by
  unfold S
  split
  · exact Nat.xor_lt_two_pow (n := 32) (by omega) (by omega)
  · omega
theorem S_zero : S 0 = 0 := rfl
theorem S_pos (n : Nat) (h : n < 4294967296) (h0 : S n = 0) : n = 0 := by
  by_cases ho : n % 2 = 1
  · rw [S_odd n ho] at h0
    have h1 : ((n / 2) ^^^ 2197175160).testBit 31 = false := by rw [h0]; simp
    rw [Nat.testBit_xor] at h1
    have h2 : (n / 2).testBit 31 = false := Nat.testBit_lt_two_pow (by omega)
    rw [h2] at h1
    exact absurd h1 (by decide)
  · rw [S_even n (by omega)] at h0
    omega
theorem It_zero (k : Nat) : It k 0 = 0 := by
  induction k with
  | zero => rfl
  | succ k ih => unfold It; rw [S_zero]; exact ih
theorem It_xor (k a b : Nat) : It k (a ^^^ b) = It k a ^^^ It k b := by
  induction k generalizing a b with
  | zero => rfl
  | succ k ih => unfold It; rw [S_xor, ih]
theorem It_lt (k n : Nat) (h : n < 4294967296) : It k n < 4294967296 := by
  induction k generalizing n with
  | zero => exact h
  | succ k ih => unfold It; exact ih _ (S_lt n h)
theorem It_pos (k n : Nat) (h : n < 4294967296) (h0 : It k n = 0) : n = 0 := by
  induction k generalizing n with
  | zero => exact h0
  | succ k ih => unfold It at h0; exact S_pos n h (ih _ (S_lt n h) h0)
theorem It_add (j k n : Nat) : It (j + k) n = It k (It j n) := by
  induction j generalizing n with
  | zero => rw [Nat.zero_add]; rfl
  | succ j ih =>
    rw [show j + 1 + k = (j + k) + 1 from by omega]
    exact ih (S n)
theorem It_succ (k n : Nat) : It (k + 1) n = S (It k n) := by rw [It_add]; rfl
/-- what only lies above comes down unturned -/
theorem It_pow (k x : Nat) : It k (x * 2 ^ k) = x := by
  induction k with
  | zero => simp [It]
  | succ k ih =>
    show It k (S (x * 2 ^ (k + 1))) = x
    have e : x * 2 ^ (k + 1) = x * 2 ^ k * 2 := by rw [Nat.pow_succ, Nat.mul_assoc]
    rw [e, S_even _ (by omega), Nat.mul_div_cancel _ (by decide)]
    exact ih
/-- four steps by the table of half bytes -/
theorem four (r : Nat) : It 4 r = r / 16 ^^^ It 4 (r % 16) := by
  have e : r = (r / 16 * 2 ^ 4) ^^^ (r % 16) := by
    have h1 := Nat.two_pow_add_eq_or_of_lt (b := r % 16) (i := 4) (by omega) (r / 16)
    have h2 : (2 ^ 4 * (r / 16)) ^^^ (r % 16) = 2 ^ 4 * (r / 16) + r % 16 := by
      apply Nat.eq_of_testBit_eq
      intro i
      rw [h1, Nat.testBit_xor, Nat.testBit_or]
      by_cases hi : i < 4
      · have : (2 ^ 4 * (r / 16)).testBit i = false := by rw [Nat.testBit_two_pow_mul]; simp; omega
        rw [this]; simp
      · have : (r % 16).testBit i = false := Nat.testBit_lt_two_pow (Nat.lt_of_lt_of_le (show r % 16 < 2 ^ 4 by omega) (Nat.pow_le_pow_right (by decide) (by omega)))
        rw [this]; simp
    rw [Nat.mul_comm, h2]; omega
  calc It 4 r = It 4 ((r / 16 * 2 ^ 4) ^^^ (r % 16)) := by rw [← e]
    _ = It 4 (r / 16 * 2 ^ 4) ^^^ It 4 (r % 16) := It_xor _ _ _
    _ = r / 16 ^^^ It 4 (r % 16) := by rw [It_pow]
theorem B_four (r c : Nat) : B r c = It 4 (It 4 (r ^^^ c)) := It_add 4 4 _
theorem B_lt (r c : Nat) (hr : r < 4294967296) (hc : c < 4294967296) : B r c < 4294967296 := It_lt _ _ (Nat.xor_lt_two_pow (n := 32) hr hc)
theorem R_lt (l : List Nat) (hl : ∀ c ∈ l, c < 4294967296) : ∀ r, r < 4294967296 → R r l < 4294967296 := by
  induction l with
  | nil => intro r hr; exact hr
  | cons c t ih => intro r hr; exact ih (fun x hx => hl x (List.mem_cons_of_mem _ hx)) _ (B_lt r c hr (hl c List.mem_cons_self))
theorem R_snoc (r : Nat) (l : List Nat) (c : Nat) : R r (l ++ [c]) = B (R r l) c := by simp [R, List.foldl_append]
theorem R_append (r : Nat) (l m : List Nat) : R r (l ++ m) = R (R r l) m := by simp [R, List.foldl_append]
theorem C_lt (n : Nat) : C n < 4294967296 := by unfold C; omega
theorem C_C (n : Nat) (h : n < 4294967296) : C (C n) = n := by unfold C; omega
theorem C_xor (n : Nat) (h : n < 4294967296) : C n = n ^^^ 4294967295 := by
  apply Nat.eq_of_testBit_eq
  intro i
  unfold C
  have := Nat.testBit_two_pow_sub_succ (x := n) (n := 32) h i
  rw [show (4294967295 : Nat) - n = 2 ^ 32 - (n + 1) from by omega, this, Nat.testBit_xor, show (4294967295 : Nat) = 2 ^ 32 - 1 from rfl, Nat.testBit_two_pow_sub_one]
  by_cases hi : i < 32
  · simp [hi]
  · have h2 : (2 : Nat) ^ 32 ≤ 2 ^ i := Nat.pow_le_pow_right (by decide) (by omega)
    have : n.testBit i = false := Nat.testBit_lt_two_pow (Nat.lt_of_lt_of_le h h2)
    simp [hi, this]
theorem More_lt (s : Nat) (l : List Nat) : More s l < 4294967296 := C_lt _
theorem More_nil (s : Nat) (h : s < 4294967296) : More s [] = s := C_C s h
theorem More_append (s : Nat) (l m : List Nat) (hl : ∀ c ∈ l, c < 4294967296) : More (More s l) m = More s (l ++ m) := by
  unfold More
  rw [C_C _ (R_lt l hl _ (C_lt _)), R_append]
/-! the exclusive or -/
theorem B_xor (r s c d : Nat) : B (r ^^^ s) (c ^^^ d) = B r c ^^^ B s d := by
  unfold B
  rw [← It_xor]
  congr 1
  rw [Nat.xor_assoc, Nat.xor_assoc, ← Nat.xor_assoc s, Nat.xor_comm s c, Nat.xor_assoc c]
theorem R_xor (l m : List Nat) (h : l.length = m.length) : ∀ r s, R (r ^^^ s) (List.zipWith (· ^^^ ·) l m) = R r l ^^^ R s m := by
  induction l generalizing m with
  | nil => intro r s; cases m with
    | nil => rfl
    | cons => simp at h
  | cons c t ih => cases m with
    | nil => simp at h
    | cons d u =>
      intro r s
      simp only [List.zipWith, R, List.foldl]
      rw [B_xor]
      exact ih u (by simpa using h) _ _
theorem xor_zeros (l : List Nat) : List.zipWith (· ^^^ ·) l (List.replicate l.length 0) = l := by
  induction l with
  | nil => rfl
  | cons c t ih => simp [List.replicate, ih]
theorem R_zeros (k r : Nat) : R r (List.replicate k 0) = It (8 * k) r := by
  induction k generalizing r with
  | zero => rfl
  | succ k ih =>
    show R (B r 0) (List.replicate k 0) = _
    rw [ih, show 8 * (k + 1) = 8 + 8 * k from by omega, It_add]
    unfold B; rw [Nat.xor_zero]
/-- THE SUMS OF TWO TEXTS, OF THEIR EXCLUSIVE OR, OF NOUGHTS -/
theorem linear (a b : List Nat) (h : a.length = b.length) (ha : ∀ c ∈ a, c < 4294967296) (hb : ∀ c ∈ b, c < 4294967296) :
    More 0 a ^^^ More 0 b ^^^ More 0 (List.zipWith (· ^^^ ·) a b) ^^^ More 0 (List.replicate a.length 0) = 0 := by
  have h1 : R (C 0) a ^^^ R (C 0) b = R (C 0 ^^^ C 0) (List.zipWith (· ^^^ ·) a b) := (R_xor a b h _ _).symm
  have hx : ∀ c ∈ List.zipWith (· ^^^ ·) a b, c < 4294967296 := by
    intro c hc
    obtain ⟨i, hi, rfl⟩ := List.getElem_of_mem hc
    rw [List.getElem_zipWith]
    exact Nat.xor_lt_two_pow (n := 32) (ha _ (List.getElem_mem _)) (hb _ (List.getElem_mem _))
  have hz : ∀ c ∈ List.replicate a.length 0, c < 4294967296 := by
    intro c hc; rw [List.eq_of_mem_replicate hc]; omega
  have h2 : R (C 0) (List.zipWith (· ^^^ ·) a b) ^^^ R (C 0) (List.replicate a.length 0) = R (C 0 ^^^ C 0) (List.zipWith (· ^^^ ·) a b) := by
    rw [← R_xor _ _ (by simp [h])]
    congr 1
    have : a.length = (List.zipWith (· ^^^ ·) a b).length := by simp [h]
    rw [this]; exact xor_zeros _
  unfold More
  rw [C_xor _ (R_lt a ha _ (C_lt _)), C_xor _ (R_lt b hb _ (C_lt _)), C_xor _ (R_lt _ hx _ (C_lt _)), C_xor _ (R_lt _ hz _ (C_lt _))]
  generalize R (C 0) a = p at *
  generalize R (C 0) b = q at *
  generalize R (C 0) (List.zipWith (· ^^^ ·) a b) = u at *
  generalize R (C 0) (List.replicate a.length 0) = v at *
  generalize R (C 0 ^^^ C 0) (List.zipWith (· ^^^ ·) a b) = t at *
  have e : p ^^^ 4294967295 ^^^ (q ^^^ 4294967295) ^^^ (u ^^^ 4294967295) ^^^ (v ^^^ 4294967295) = (p ^^^ q) ^^^ (u ^^^ v) := by
    apply Nat.eq_of_testBit_eq
    intro i
    simp only [Nat.testBit_xor]
    cases p.testBit i <;> cases q.testBit i <;> cases u.testBit i <;> cases v.testBit i <;> cases (4294967295 : Nat).testBit i <;> rfl
  rw [e, h1, h2, Nat.xor_self]
/-- R moved by what is put to the register ahead -/
theorem R_ahead (l : List Nat) (r s : Nat) : R (r ^^^ s) l = R r l ^^^ It (8 * l.length) s := by
  have := R_xor l (List.replicate l.length 0) (by simp) r s
  rw [xor_zeros, R_zeros] at this
  exact this
/-- ONE BIT TURNED -/
theorem flip (l : List Nat) (q j : Nat) (hq : q < l.length) (hj : j < 8) : ∀ r, R r (l.set q (l[q] ^^^ 2 ^ j)) = R r l ^^^ It (8 * l.length - (8 * q + j)) 1 := by
  induction l generalizing q with
  | nil => simp at hq
  | cons c t ih =>
    intro r
    match q, hq with
    | 0, _ =>
      show R (B r (c ^^^ 2 ^ j)) t = R (B r c) t ^^^ _
      have e : B r (c ^^^ 2 ^ j) = B r c ^^^ It 8 (2 ^ j) := by
        unfold B; rw [← Nat.xor_assoc, It_xor]
      rw [e, R_ahead]
      congr 1
      have e2 : It 8 (2 ^ j) = It (8 - j) 1 := by
        have := It_add j (8 - j) (1 * 2 ^ j)
        rw [It_pow, show j + (8 - j) = 8 from by omega, Nat.one_mul] at this
        exact this
      rw [e2, ← It_add]
      congr 1
      simp; omega
    | q + 1, hq =>
      have hq' : q < t.length := by simpa using hq
      show R (B r c) (t.set q (t[q] ^^^ 2 ^ j)) = R (B r c) t ^^^ _
      rw [ih q hq' (B r c)]
      congr 2
      simp; omega
end Go.Proofs.Ytlegdaoidjpokaa.Crc
namespace Go.Proofs.Ytlegdaoidjpokaa
open Go.RowKit

theorem and1_odd (n : Nat) (h : n < 4294967296) (ho : n % 2 = 1) : bits .and .u32 (n : Int) 1 = 1 := by
  have := u32_and_nat n 1 h (by decide)
  rw [nat_mask1, ho] at this
  exact this
theorem and1_even (n : Nat) (h : n < 4294967296) (ho : n % 2 = 0) : bits .and .u32 (n : Int) 1 = 0 := by
  have := u32_and_nat n 1 h (by decide)
  rw [nat_mask1, ho] at this
  exact this
theorem and15 (n : Nat) (h : n < 4294967296) : bits .and .u32 (n : Int) 15 = ((n % 16 : Nat) : Int) := by
  have := u32_and_nat n 15 h (by decide)
  rw [nat_mask4] at this
  exact this
theorem ret_u32 {a b : Int} (h : a = b) : Ending.returned (.int .u32 a) = .returned (.int .u32 b) := by rw [h]
theorem xor_poly (n : Nat) (h : n < 4294967296) : bits .xor .u32 ((n : Int) / 2) 2197175160 = ((n / 2 ^^^ 2197175160 : Nat) : Int) := by
  have := u32_xor_nat (n / 2) 2197175160 (by omega) (by decide)
  rw [← this]; rfl
/-- 'crc.step': one bit -/
theorem step_any (n : Nat) (h : n < 4294967296) (w : World) :
    Calls Try.prog 76 #[.int .u32 n] w fun e w' => e = .returned (.int .u32 (Crc.S n : Nat)) ∧ w = w' := by
  have ho : n % 2 = 1 ∨ n % 2 = 0 := by omega
  rcases ho with ho | ho
  · have e1 := and1_odd n h ho
    have HO := Lib.hid ho
    clear ho
    go_enter Try.func76, Try.ntmps76
    go_wp2
    go_ret
    exact ⟨ret_u32 (by rw [Crc.S_odd n HO.out]; exact xor_poly n h), rfl⟩
  · have e1 := and1_even n h ho
    have HO := Lib.hid ho
    clear ho
    go_enter Try.func76, Try.ntmps76
    go_wp2
    go_ret
    exact ⟨ret_u32 (by rw [Crc.S_even n HO.out]; rfl), rfl⟩
/-- what the table of half bytes holds, as memory -/
def Tab (w : World) (b : Nat) : Prop := ∀ j : Nat, j < 16 → w.cell? ⟨b, j, none⟩ = some (.int .u32 (Crc.It 4 j : Nat))
theorem Tab.below {w w' : World} {b : Nat} {B : Nat} (h : Tab w b) (hb : Below B w w') (hB : b < B) : Tab w' b := fun j hj => (hb.cell (p := ⟨b, j, none⟩) hB).trans (h j hj)
/-- 'crc.fourSteps': half a byte -/
theorem four_any (n b : Nat) (h : n < 4294967296) (w : World) (hT : Tab w b) :
    Calls Try.prog 75 #[.pointer (some ⟨b, 0, none⟩), .int .u32 n] w fun e w' => e = .returned (.int .u32 (Crc.It 4 n : Nat)) ∧ w = w' := by
  have e1 := and15 n h
  have hc := hT (n % 16) (by omega)
  have hl : n % 16 < 16 := by omega
  clear hT
  go_enter Try.func75, Try.ntmps75
  go_wp2
  go_ret
  exact ⟨ret_u32 (by
    rw [Crc.four n]
    have := u32_xor_nat (n / 16) (Crc.It 4 (n % 16)) (by omega) (Crc.It_lt 4 _ (by omega))
    rw [← this]; rfl), rfl⟩
end Go.Proofs.Ytlegdaoidjpokaa
namespace Go.Proofs.Ytlegdaoidjpokaa
open Go.RowKit
/-- the table, its first k filled in -/
def Tb (k : Nat) : Array Value := ((List.range 16).map fun j => Value.int .u32 ((if j < k then Crc.It 4 j else 0 : Nat) : Int)).toArray
theorem Tb_size (k : Nat) : (Tb k).size = 16 := by simp [Tb]
theorem Tb_get (k j : Nat) (h : j < 16) : (Tb k)[j]? = some (Value.int .u32 ((if j < k then Crc.It 4 j else 0 : Nat) : Int)) := by
  unfold Tb; rw [List.getElem?_toArray, List.getElem?_map, List.getElem?_range h]; rfl
theorem Tb_set (k : Nat) (h : k < 16) : (Tb k).setIfInBounds k (Value.int .u32 (Crc.It 4 k : Nat)) = Tb (k + 1) := by
  apply Array.ext_getElem?
  intro j
  rw [Array.getElem?_setIfInBounds]
  by_cases hj : j < 16
  · rw [Tb_get (k + 1) j hj]
    by_cases e : k = j
    · subst e; rw [if_pos rfl, if_pos (by rw [Tb_size]; exact h), if_pos (by omega)]
    · rw [if_neg e, Tb_get k j hj]
      by_cases l : j < k
      · rw [if_pos l, if_pos (by omega)]
      · rw [if_neg l, if_neg (by omega)]
  · have h1 : (Tb k)[j]? = none := Array.getElem?_eq_none (by rw [Tb_size]; omega)
    have h2 : (Tb (k + 1))[j]? = none := Array.getElem?_eq_none (by rw [Tb_size]; omega)
    rw [if_neg (by omega), h1, h2]
theorem Tb_zero : Tb 0 = #[Value.int .u32 0, .int .u32 0, .int .u32 0, .int .u32 0, .int .u32 0, .int .u32 0, .int .u32 0, .int .u32 0, .int .u32 0, .int .u32 0, .int .u32 0, .int .u32 0, .int .u32 0, .int .u32 0, .int .u32 0, .int .u32 0] := rfl
theorem Tb_one (k : Nat) : (Tb k).all (·.oneCell') = true := by
  rw [Array.all_eq_true_iff_forall_mem]
  intro v hv
  simp [Tb] at hv
  obtain ⟨a, _, rfl⟩ := hv
  rfl
/-- the world in which the first k are filled in -/
def TabAt (w wr : World) (k : Nat) : Prop :=
  wr.heap[w.heap.size + 1]? = some (.cells (Tb k) 200 (0, 0)) ∧ wr.heap[w.heap.size]? = some (.cells (Tb 0) 200 (0, 0)) ∧ Below w.heap.size w wr
theorem tabAt_start (w : World) : TabAt w ((w.alloc (.cells (Tb 0) 200)).alloc (.cells (Tb 0) 200)) 0 :=
  ⟨heap_alloc2_new _ _ _, heap_alloc2_old _ _ _, ((Below.refl _ _).alloc (Nat.le_refl _) _).alloc (by simp) _⟩
theorem tabAt_step {w wr : World} {k : Nat} (hk : k < 16) (h : TabAt w wr k) : TabAt w (wr.setCell ⟨w.heap.size + 1, k, none⟩ (.int .u32 (Crc.It 4 k : Nat))) (k + 1) := by
  obtain ⟨h1, h2, h3⟩ := h
  refine ⟨?_, ?_, h3.setCell (by simp) _⟩
  · rw [heap_setCell_same _ _ _ _ _ _ h1, Tb_set k hk]
  · rw [heap_setCell_other _ _ _ _ (by simp)]; exact h2
theorem tabAt_cell {w wr : World} {k : Nat} (hk : k < 16) (h : TabAt w wr k) : wr.cell? ⟨w.heap.size + 1, k, none⟩ = some (.int .u32 0) := by
  rw [cell_of_row wr _ _ _ _ _ h.1, Tb_get k k hk, if_neg (by omega)]; rfl
theorem tabAt_frozen {w wr : World} {k : Nat} (h : TabAt w wr k) : wr.frozen? ⟨w.heap.size + 1, k, none⟩ = false := frozen_of_row wr _ _ _ _ h.1
set_option maxHeartbeats 400000 in
theorem table_any (w : World) :
    Calls Try.prog 74 #[] w fun e w' => e = .returned (.agg (Tb 16)) ∧ Below w.heap.size w w' := by
  have h0 := Lib.hid (tabAt_start w)
  rw [Tb_zero] at h0
  go_enter Try.func74, Try.ntmps74
  go_wp2
  go_loopw [4] (fun i wr => ∃ k : Nat, k ≤ 16 ∧ i = .int .i64 k ∧ Hid (TabAt w wr k)) (fun i _ => 16 - (intOf i).toNat)
  case atStart => exact ⟨0, Nat.zero_le _, rfl, h0⟩
  case round =>
    obtain ⟨k, hk, rfl, HT⟩ := hrel
    by_cases hlt : k < 16
    · have hd : decide ((k : Int) < 16) = true := by simp; omega
      go_wp2
      go_loop [3, 9] (fun r i => ∃ m : Nat, m ≤ 4 ∧ i = .int .i64 m ∧ r = .int .u32 (Crc.It m k : Nat)) (fun _ i => 4 - (intOf i).toNat)
      case atStart => exact ⟨0, Nat.zero_le _, rfl, rfl⟩
      case round =>
        obtain ⟨m, hm, rfl, rfl⟩ := hrel
        have hb := Crc.It_lt m k (by omega)
        by_cases hl2 : m < 4
        · have HS := Lib.hid (Crc.It_succ m k)
          go_wp2_with (go_at_call 76; refine (step_any _ hb _).mono ?_; rintro e w' ⟨rfl, rfl⟩)
          go_round
          case rel => exact ⟨m + 1, by omega, by go_num, by rw [HS.out]⟩
          case measure => simp [intOf]; omega
        · obtain rfl : m = 4 := by omega
          have hc := tabAt_cell hlt HT.out
          have hf := tabAt_frozen HT.out
          go_wp2
          go_roundw
          case rel => exact ⟨k + 1, by omega, by go_num, tabAt_step hlt HT.out⟩
          case measure => simp [intOf]; omega
    · obtain rfl : k = 16 := by omega
      obtain ⟨h1, h2, h3⟩ := HT.out
      clear HT hlt hk
      have hn := setRow_heap wr w.heap.size (Tb 0) (Tb 16) 200 (0, 0) h2
      have hz : (Tb 0).size = (Tb 16).size := by rw [Tb_size, Tb_size]
      have HZ := Lib.hid hz
      clear hz
      go_wp2_with (first | (refine wpList_load_row rfl 200 (.tmp 1) rfl (w.heap.size + 1) rfl 200 (Tb 16) (0, 0) _ h1 Try.underlying200 rfl (by kernel_rfl) ?_) | (refine wpList_store_row rfl 200 (.tmp 0) (.tmp 18) rfl w.heap.size (Tb 16) rfl rfl 200 (Tb 0) h2 (by kernel_rfl) HZ.out (Tb_one 16) ?_))
      exact bodyPost_ret (results_cell_row rfl _ _ w.heap.size 200 (Tb 16) (0, 0) _ rfl hn Try.underlying200 rfl (by kernel_rfl)) rfl ⟨rfl, below_setRow h3 (Nat.le_refl _) _⟩
end Go.Proofs.Ytlegdaoidjpokaa
namespace Go.Proofs.Ytlegdaoidjpokaa
open Go.RowKit
/-- a slice's address leads to these bytes -/
def Bys (w : World) (a : Option Addr) (bs : List Nat) : Prop :=
  bs.length ≤ maxLen ∧ (∀ c ∈ bs, c < 256) ∧ (bs ≠ [] → ∃ b off, a = some ⟨b, off, none⟩ ∧ b < w.heap.size ∧ ∀ i (h : i < bs.length), w.cell? ⟨b, off + i, none⟩ = some (.int .u8 ((bs[i] : Nat) : Int)))
theorem Bys.below {w w' : World} {a : Option Addr} {bs : List Nat} (h : Bys w a bs) (hb : Below w.heap.size w w') : Bys w' a bs := by
  obtain ⟨h1, h2, h3⟩ := h
  refine ⟨h1, h2, fun hn => ?_⟩
  obtain ⟨b, off, ha, hlt, hc⟩ := h3 hn
  exact ⟨b, off, ha, Nat.lt_of_lt_of_le hlt hb.size, fun i hi => (hb.cell (p := ⟨b, off + i, none⟩) hlt).trans (hc i hi)⟩
theorem take_snoc (bs : List Nat) (k : Nat) (h : k < bs.length) : bs.take (k + 1) = bs.take k ++ [bs[k]] := by
  rw [List.take_succ_eq_append_getElem h]
/-- the world in which a call of More has laid its table -/
theorem laid_table {w w1 : World} (hb : Below w.heap.size w w1) :
    Tab ((w1.alloc (.cells (Tb 0) 200)).setRow w1.heap.size (Tb 16)) w1.heap.size ∧ Below w.heap.size w ((w1.alloc (.cells (Tb 0) 200)).setRow w1.heap.size (Tb 16)) := by
  have h1 := setRow_heap (w1.alloc (.cells (Tb 0) 200)) w1.heap.size (Tb 0) (Tb 16) 200 (0, 0) (heap_alloc_new _ _)
  refine ⟨fun j hj => ?_, below_setRow (hb.alloc hb.size _) hb.size _⟩
  rw [cell_of_row _ _ _ _ _ _ h1, Tb_get 16 j hj, if_pos hj]
theorem tb_sizes : (Tb 0).size = (Tb 16).size := by rw [Tb_size, Tb_size]
theorem not_u32 (n : Nat) (h : n < 4294967296) : bits .xor .u32 IntKind.u32.max (n : Int) = ((Crc.C n : Nat) : Int) := by
  rw [show IntKind.u32.max = 4294967295 from rfl]
  have := u32_xor_nat 4294967295 n (by decide) h
  rw [Nat.xor_comm, ← Crc.C_xor n h] at this
  exact this
set_option maxHeartbeats 400000 in
theorem more_any (s : Nat) (hs : s < 4294967296) (a : Option Addr) (bs : List Nat) (cap : Nat) (w : World) (H : Bys w a bs) :
    Calls Try.prog 71 #[.int .u32 s, .slice a bs.length cap] w fun e w' => e = .returned (.int .u32 (Crc.More s bs : Nat)) ∧ Below w.heap.size w w' := by
  have hlen := H.1
  unfold maxLen at hlen
  have hx := not_u32 s hs
  have hk : IntKind.u32.signed = false := rfl
  by_cases hn : bs = []
  · subst hn
    have HZ := Lib.hid tb_sizes
    have hx2 := not_u32 _ (Crc.C_lt s)
    have HE := Lib.hid (Crc.C_C s hs)
    clear hlen H
    go_enter Try.func71, Try.ntmps71
    go_wp2_with (first | (go_at_call 74; refine (table_any _).mono ?_; rintro e w1 ⟨rfl, hb1⟩; have HB1 := Lib.hid hb1; clear hb1) | (refine wpList_store_row rfl 200 (.tmp 5) (.tmp 9) rfl _ (Tb 16) rfl rfl 200 (Tb 0) (heap_alloc_new _ _) (by kernel_rfl) HZ.out (Tb_one 16) ?_))
    have HB2 := Lib.hid (laid_table HB1.out)
    rw [Tb_zero] at HB2
    generalize hg : w1.heap.size = g at *
    generalize hW : (w1.alloc _).setRow g (Tb 16) = W at *
    clear hW hg
    go_loop [6, 14] (fun r i => i = .int .i64 0 ∧ r = .int .u32 (Crc.C s : Nat)) (fun _ i => 0)
    case atStart => exact ⟨rfl, rfl⟩
    case round =>
      obtain ⟨rfl, rfl⟩ := hrel
      go_wp2
      go_ret
      exact ⟨ret_u32 (by show _ = ((Crc.C (Crc.C s) : Nat) : Int); rfl), HB2.out.2⟩
  · obtain ⟨b, off, rfl, hb, hc⟩ := H.2.2 hn
    have Hc := Lib.hid hc
    have HH := Lib.hid H.2.1
    clear hc H
    have HN := Lib.hid hn
    clear hn
    have HZ := Lib.hid tb_sizes
    go_enter Try.func71, Try.ntmps71
    go_wp2_with (first | (go_at_call 74; refine (table_any _).mono ?_; rintro e w1 ⟨rfl, hb1⟩; have HB1 := Lib.hid hb1; clear hb1) | (refine wpList_store_row rfl 200 (.tmp 5) (.tmp 9) rfl _ (Tb 16) rfl rfl 200 (Tb 0) (heap_alloc_new _ _) (by kernel_rfl) HZ.out (Tb_one 16) ?_))
    have HB2 := Lib.hid (laid_table HB1.out)
    rw [Tb_zero] at HB2
    generalize hg : w1.heap.size = g at *
    generalize hW : (w1.alloc _).setRow g (Tb 16) = W at *
    clear hW hg
    go_loop [6, 14] (fun r i => ∃ k : Nat, k ≤ bs.length ∧ i = .int .i64 k ∧ r = .int .u32 (Crc.R (Crc.C s) (bs.take k) : Nat)) (fun _ i => bs.length - (intOf i).toNat)
    case atStart => exact ⟨0, Nat.zero_le _, rfl, rfl⟩
    case round =>
      obtain ⟨k, hk, rfl, rfl⟩ := hrel
      have hr : Crc.R (Crc.C s) (bs.take k) < 4294967296 := Crc.R_lt _ (fun c hc => Nat.lt_of_lt_of_le (HH.out c (List.mem_of_mem_take hc)) (by decide)) _ (Crc.C_lt s)
      by_cases hlt : k < bs.length
      · obtain ⟨c, hc⟩ : ∃ c, c = bs[k] := ⟨_, rfl⟩
        have hcell : W.cell? ⟨b, off + k, none⟩ = some (.int .u8 (c : Nat)) := by rw [hc]; exact (HB2.out.2.cell (p := ⟨b, off + k, none⟩) hb).trans (Hc.out k hlt)
        have hc2 : c < 256 := by rw [hc]; exact HH.out _ (List.getElem_mem _)
        have HR : Hid (Crc.R (Crc.C s) (bs.take (k + 1)) = Crc.B (Crc.R (Crc.C s) (bs.take k)) c) := by rw [take_snoc bs k hlt, Crc.R_snoc, hc]; exact Lib.hid rfl
        clear hc
        generalize Crc.R (Crc.C s) (bs.take k) = r at *
        have hxr := u32_xor_nat r c hr (by omega)
        have hl1 : r ^^^ c < 4294967296 := Nat.xor_lt_two_pow (n := 32) hr (by omega)
        have hl2 := Crc.It_lt 4 _ hl1
        have H4 := Lib.hid (Crc.B_four r c)
        go_wp2_with (go_at_call 75; refine (four_any _ _ (by assumption) _ HB2.out.1).mono ?_; rintro e w' ⟨rfl, rfl⟩)
        go_round
        case rel => exact ⟨k + 1, by omega, by go_num, by rw [HR.out, H4.out]⟩
        case measure => simp [intOf]; omega
      · obtain rfl : k = bs.length := by omega
        have hx2 := not_u32 _ hr
        have HE : Hid (Crc.More s bs = Crc.C (Crc.R (Crc.C s) (bs.take bs.length))) := by rw [List.take_length]; exact Lib.hid rfl
        generalize Crc.R (Crc.C s) (bs.take bs.length) = r at *
        go_wp2
        go_ret
        exact ⟨ret_u32 (by rw [HE.out]), HB2.out.2⟩
/-- 'crc.Sum' -/
theorem sum_any (a : Option Addr) (bs : List Nat) (cap : Nat) (w : World) (H : Bys w a bs) :
    Calls Try.prog 67 #[.slice a bs.length cap] w fun e w' => e = .returned (.int .u32 (Crc.More 0 bs : Nat)) ∧ Below w.heap.size w w' := by
  have H0 := Lib.hid H
  clear H
  go_enter Try.func67, Try.ntmps67
  go_wp2_with (go_at_call 71; refine (more_any 0 (by decide) a bs cap _ H0.out).mono ?_; rintro e w' ⟨rfl, hb⟩; have HB := Lib.hid hb; clear hb)
  go_ret
  exact ⟨rfl, HB.out⟩
end Go.Proofs.Ytlegdaoidjpokaa
namespace Go.Proofs.Ytlegdaoidjpokaa
open Go.RowKit
set_option maxHeartbeats 800000 in
theorem refmore_any (s : Nat) (hs : s < 4294967296) (a : Option Addr) (bs : List Nat) (cap : Nat) (w : World) (H : Bys w a bs) :
    Calls Try.prog 64 #[.int .u32 s, .slice a bs.length cap] w fun e w' => e = .returned (.int .u32 (Crc.More s bs : Nat)) ∧ w = w' := by
  have hlen := H.1
  unfold maxLen at hlen
  have hx := not_u32 s hs
  have hk : IntKind.u32.signed = false := rfl
  have HH := Lib.hid H.2.1
  have HC := Lib.hid H.2.2
  clear H
  go_enter Try.func64, Try.ntmps64
  go_wp2
  go_loop [5, 6] (fun r i => ∃ k : Nat, k ≤ bs.length ∧ i = .int .i64 k ∧ r = .int .u32 (Crc.R (Crc.C s) (bs.take k) : Nat)) (fun _ i => bs.length - (intOf i).toNat)
  case atStart => exact ⟨0, Nat.zero_le _, rfl, rfl⟩
  case round =>
    obtain ⟨k, hk, rfl, rfl⟩ := hrel
    have hr : Crc.R (Crc.C s) (bs.take k) < 4294967296 := Crc.R_lt _ (fun c hc => Nat.lt_of_lt_of_le (HH.out c (List.mem_of_mem_take hc)) (by decide)) _ (Crc.C_lt s)
    by_cases hlt : k < bs.length
    · obtain ⟨b, off, rfl, hb, hc0⟩ := HC.out (by intro h; rw [h] at hlt; simp at hlt)
      obtain ⟨c, hc⟩ : ∃ c, c = bs[k] := ⟨_, rfl⟩
      have hcell : w.cell? ⟨b, off + k, none⟩ = some (.int .u8 (c : Nat)) := by rw [hc]; exact hc0 k hlt
      have hc2 : c < 256 := by rw [hc]; exact HH.out _ (List.getElem_mem _)
      have HR : Hid (Crc.R (Crc.C s) (bs.take (k + 1)) = Crc.B (Crc.R (Crc.C s) (bs.take k)) c) := by rw [take_snoc bs k hlt, Crc.R_snoc, hc]; exact Lib.hid rfl
      clear hc hc0
      generalize Crc.R (Crc.C s) (bs.take k) = r at *
      have hxr := u32_xor_nat r c hr (by omega)
      have hl1 : r ^^^ c < 4294967296 := Nat.xor_lt_two_pow (n := 32) hr (by omega)
      have H4 : Hid (Crc.B r c = Crc.It 8 (r ^^^ c)) := Lib.hid rfl
      have hd : decide ((k : Int) < (bs.length : Int)) = true := by simp; omega
      go_wp2
      generalize r ^^^ c = q at *
      go_loop [5, 7] (fun r i => ∃ m : Nat, m ≤ 8 ∧ i = .int .i64 m ∧ r = .int .u32 (Crc.It m q : Nat)) (fun _ i => 8 - (intOf i).toNat)
      case atStart => exact ⟨0, Nat.zero_le _, rfl, rfl⟩
      case round =>
        obtain ⟨m, hm, rfl, rfl⟩ := hrel
        have hb := Crc.It_lt m q hl1
        by_cases hl2 : m < 8
        · have HS := Lib.hid (Crc.It_succ m q)
          generalize Crc.It m q = x at *
          have ho : x % 2 = 1 ∨ x % 2 = 0 := by omega
          rcases ho with ho | ho
          · have e1 := and1_odd x hb ho
            have HO := Lib.hid (Crc.S_odd x ho)
            have e2 := xor_poly x hb
            clear ho
            go_wp2
            go_round
            case rel => exact ⟨m + 1, by omega, by go_num, by rw [HS.out, HO.out]⟩
            case measure => simp [intOf]; omega
          · have e1 := and1_even x hb ho
            have HO := Lib.hid (Crc.S_even x ho)
            clear ho
            go_wp2
            go_round
            case rel => exact ⟨m + 1, by omega, by go_num, by rw [HS.out, HO.out]; rfl⟩
            case measure => simp [intOf]; omega
        · obtain rfl : m = 8 := by omega
          go_wp2
          go_round
          case rel => exact ⟨k + 1, by omega, by go_num, by rw [HR.out, H4.out]⟩
          case measure => simp [intOf]; omega
    · obtain rfl : k = bs.length := by omega
      have hx2 := not_u32 _ hr
      have HE : Hid (Crc.More s bs = Crc.C (Crc.R (Crc.C s) (bs.take bs.length))) := by rw [List.take_length]; exact Lib.hid rfl
      generalize Crc.R (Crc.C s) (bs.take bs.length) = r at *
      go_wp2
      go_ret
      exact ⟨ret_u32 (by rw [HE.out]), rfl⟩
theorem refsum_any (a : Option Addr) (bs : List Nat) (cap : Nat) (w : World) (H : Bys w a bs) :
    Calls Try.prog 23 #[.slice a bs.length cap] w fun e w' => e = .returned (.int .u32 (Crc.More 0 bs : Nat)) ∧ w = w' := by
  have H0 := Lib.hid H
  clear H
  go_enter Try.func23, Try.ntmps23
  go_wp2_with (go_at_call 64; refine (refmore_any 0 (by decide) a bs cap _ H0.out).mono ?_; rintro e w' ⟨rfl, rfl⟩)
  go_ret
  exact ⟨rfl, rfl⟩
/-! what 'known' asks -/
theorem lit_bytes (fr : Nat × Nat) (W : World) (bs : List Nat) (h : ∀ c ∈ bs, c < 256) (hl : bs.length ≤ maxLen) : Bys (W.alloc (.cells (bs.map fun c => Value.int .u8 ((c : Nat) : Int)).toArray 5 fr)) (some ⟨W.heap.size, 0, none⟩) bs := by
  refine ⟨hl, h, fun _ => ⟨W.heap.size, 0, rfl, by simp, fun i hi => ?_⟩⟩
  rw [cell_of_row _ _ _ _ _ _ (heap_alloc_new W _)]
  simp [hi]
theorem sum_lit (n : Nat) (a : Option Addr) (bs : List Nat) (cap : Nat) (w : World) (H : Bys w a bs) (hn : Crc.More 0 bs = n) :
    Calls Try.prog 67 #[.slice a bs.length cap] w fun e w' => e = .returned (.int .u32 (n : Int)) ∧ Below w.heap.size w w' := by
  rw [← hn]; exact sum_any a bs cap w H
theorem nil_bytes (W : World) (a : Option Addr) : Bys W a [] := ⟨Nat.zero_le _, fun _ h => absurd h (by simp), fun h => absurd rfl h⟩
theorem known1 : Crc.More 0 [49, 50, 51, 52, 53, 54, 55, 56, 57] = 3808858755 := by decide +kernel
theorem known2 : Crc.More 0 [0] = 1383945041 := by decide +kernel
theorem known3 : Crc.More 0 [] = 0 := by decide +kernel
end Go.Proofs.Ytlegdaoidjpokaa
namespace Go.Proofs.Ytlegdaoidjpokaa
open Go.RowKit
/-- a fact on a byte of such a slice -/
theorem Bys.at {w : World} {a : Option Addr} {bs : List Nat} (h : Bys w a bs) (k : Nat) (hk : k < bs.length) :
    ∃ b off, a = some ⟨b, off, none⟩ ∧ b < w.heap.size ∧ w.cell? ⟨b, off + k, none⟩ = some (.int .u8 ((bs[k] : Nat) : Int)) := by
  obtain ⟨b, off, e, hb, hc⟩ := h.2.2 (by intro h0; rw [h0] at hk; simp at hk)
  exact ⟨b, off, e, hb, hc k hk⟩
theorem below_drewN {B : Nat} {a w : World} (h : Below B a w) (n : Nat) : Below B a (w.drewN n) := ⟨h.os, h.tape, h.output, h.size, h.block⟩
set_option maxHeartbeats 400000 in
theorem same_any (a a2 : Option Addr) (bs : List Nat) (cap cap2 : Nat) (w : World) (H : Bys w a bs) (H2 : Bys w a2 bs) :
    Calls Try.prog 27 #[.slice a bs.length cap, .slice a2 bs.length cap2] w fun e w' => e = .returned (.bool true) ∧ Below w.heap.size w w' := by
  have hlen := H.1
  unfold maxLen at hlen
  have A1 := Lib.hid H
  have A2 := Lib.hid H2
  clear H H2
  go_enter Try.func27, Try.ntmps27
  go_wp2
  go_loopw [5] (fun i wr => ∃ k : Nat, k ≤ bs.length ∧ i = .int .i64 k ∧ Hid (Below w.heap.size w wr)) (fun i _ => bs.length - (intOf i).toNat)
  case atStart => exact ⟨0, Nat.zero_le _, rfl, Lib.hid (Below.refl _ _)⟩
  case round =>
    obtain ⟨k, hk, rfl, HB⟩ := hrel
    by_cases hlt : k < bs.length
    · obtain ⟨b, off, rfl, hb, hc⟩ := (A1.out.below HB.out).at k hlt
      obtain ⟨b2, off2, rfl, hb2, hc2⟩ := (A2.out.below HB.out).at k hlt
      generalize bs[k] = c at *
      have hi : (k : Int) < (bs.length : Int) := by omega
      have hd : decide ((k : Int) < (bs.length : Int)) = true := by simp; omega
      go_wp2
      go_quiet (fail)
      go_wp2
      go_roundw
      case rel => exact ⟨k + 1, by omega, by go_num, Lib.hid (below_drewN HB.out _)⟩
      case measure => simp [intOf]; omega
    · obtain rfl : k = bs.length := by omega
      go_wp2
      go_ret
      exact ⟨rfl, HB.out⟩
/-- numbers as cells -/
def cellsOf (bs : List Nat) : List Value := bs.map fun c => Value.int .u8 ((c : Nat) : Int)
theorem cellsOf_length (bs : List Nat) : (cellsOf bs).length = bs.length := by simp [cellsOf]
theorem cellsOf_one (bs : List Nat) : ∀ u ∈ cellsOf bs, u.oneCell' = true := by
  intro u hu
  obtain ⟨c, _, rfl⟩ := List.mem_map.1 hu
  rfl
theorem cellsOf_at {w : World} {ad : Addr} {bs : List Nat} (h : Bys w (some ad) bs) : ∀ j u, (cellsOf bs)[j]? = some u → w.cell? (ad.add j) = some u := by
  intro j u hu
  have hj : j < bs.length := by
    have := (List.getElem?_eq_some_iff.1 hu).1
    rwa [cellsOf_length] at this
  obtain ⟨b, off, e, _, hc⟩ := h.at j hj
  cases e
  rw [show (⟨b, off, none⟩ : Addr).add j = ⟨b, off + j, none⟩ by unfold Addr.add; split <;> simp_all, hc]
  simp [cellsOf, hj] at hu
  rw [← hu]
theorem grown_below {B : Nat} {w0 w w' : World} {g : Nat} (h : Below B w0 w) (hg : w.grownBy w' (some g)) (hB : B ≤ w.heap.size) (hr : B ≤ g) : Below B w0 w' := h.grown hg hB (fun k hk => by cases hk; exact hr)
theorem grown_below0 {B : Nat} {w0 w w' : World} (h : Below B w0 w) (hg : w.grownBy w' none) (hB : B ≤ w.heap.size) : Below B w0 w' := h.grown hg hB (fun k hk => by cases hk)
/-- what is lent: a block of its own, the bytes and two marks behind them -/
def Lent (w : World) (g : Nat) (bs : List Nat) : Prop := w.heap[g]? = some (.cells (cellsOf (bs ++ [91, 92])).toArray 5 (0, 0))
/-- what a call of LentBytes comes to -/
def LentPost (w : World) (bs : List Nat) (e : Ending) (w' : World) : Prop :=
  ∃ g, w.heap.size ≤ g ∧ e = .returned (.slice (some ⟨g, 0, none⟩) bs.length (bs.length + 2)) ∧ Lent w' g bs ∧ Below w.heap.size w w'
theorem lent_of_owns {w : World} {base g n : Nat} {xs : List Value} (h : w.ownsRow base 5 1 (.slice (some ⟨g, 0, none⟩) n n) n xs) : w.heap[g]? = some (.cells xs.toArray 5 (0, 0)) := by
  obtain ⟨hl, h2⟩ := h
  rcases h2 with ⟨h0, _⟩ | ⟨g', cap, cur, hv, _, hg, _, _, hcs, ht⟩
  · cases h0
  · cases hv
    rw [hg]
    have : cur.toList = xs := by rw [← ht, List.take_of_length_le (by simp; omega)]
    rw [← this]
theorem marks_at (W : World) : ∀ (j : Nat) (u : Value), (cellsOf [91, 92])[j]? = some u → (W.alloc (.cells #[.int .u8 91, .int .u8 92] 5)).cell? ((⟨W.heap.size, 0, none⟩ : Addr).add j) = some u := by
  intro j u hu
  rw [show (⟨W.heap.size, 0, none⟩ : Addr).add j = ⟨W.heap.size, j, none⟩ by unfold Addr.add; split <;> simp_all, cell_of_row _ _ _ _ _ _ (heap_alloc_new W _)]
  rw [show (#[Value.int .u8 91, .int .u8 92] : Array Value) = (cellsOf [91, 92]).toArray from rfl, List.getElem?_toArray]
  exact hu
theorem info5 : (Try.prog.info? 5).map (fun i => (i.zero, i.size, i.bytes)) = some (some (.int .u8 0), 1, 1) := by kernel_rfl
set_option maxHeartbeats 400000 in
theorem lent_any (a : Option Addr) (bs : List Nat) (cap : Nat) (w : World) (H : Bys w a bs) (hc0 : a = none → cap = 0) (hsm : bs.length ≤ 100000) :
    Calls Try.prog 8 #[.slice a bs.length cap] w (LentPost w bs) := by
  obtain ⟨i0, hi, hz0, hz1, hz2⟩ := info_parts info5
  have A1 := Lib.hid H
  clear H
  cases a with
  | none =>
    obtain rfl : cap = 0 := hc0 rfl
    have hbs : bs = [] := by
      refine Decidable.by_contra fun hn => ?_
      obtain ⟨b, off, e, _⟩ := A1.out.2.2 hn
      cases e
    subst hbs
    clear hc0 hsm
    go_enter Try.func8, Try.ntmps8
    go_wp2_with (first | (at_make; refine wpList_make_own _ rfl _ _ 23 rfl w.heap.size 5 i0 (.int .u8 0) 1 Try.underlying23 hi hz0 hz1 .i64 .i64 _ 2 rfl rfl (by rfl) (by rw [hz2]; omega) (by unfold maxLen; omega) (Nat.le_refl _) ?_; intro w1 hown1 hgr1) | (at_builtin; refine wpList_append_own_none rfl (.tmp 8) (.tmp 9) 23 rfl w.heap.size 5 i0 1 Try.underlying23 hi _ 0 [] rfl hown1 rfl ?_) | (at_builtin; refine wpList_append_own_spare _ rfl (.tmp 11) (.tmp 12) 23 rfl w.heap.size 5 i0 1 Try.underlying23 hi hz1 w.heap.size 0 2 [] rfl (hown1.alloc _) ⟨w1.heap.size, 0, none⟩ 2 2 (cellsOf [91, 92]) rfl rfl (marks_at w1) (cellsOf_one _) (by omega) ?_; intro w3 hown3 hgr3))
    go_ret
    have hz1' : w.heap.size ≤ w1.heap.size := hgr1.size
    exact ⟨w.heap.size, Nat.le_refl _, rfl, lent_of_owns hown3, grown_below ((grown_below0 (Below.refl _ _) hgr1 (Nat.le_refl _)).alloc hz1' _) hgr3 (by simp; omega) (Nat.le_refl _)⟩
  | some ad =>
    clear hc0
    go_enter Try.func8, Try.ntmps8
    go_wp2_with (first | (at_make; refine wpList_make_own _ rfl _ _ 23 rfl w.heap.size 5 i0 (.int .u8 0) 1 Try.underlying23 hi hz0 hz1 .i64 .i64 _ (bs.length + 2) rfl rfl (by simp) (by rw [hz2]; omega) (by unfold maxLen; omega) (Nat.le_refl _) ?_; intro w1 hown1 hgr1; have HB1 := Lib.hid (grown_below0 (Below.refl _ _) hgr1 (Nat.le_refl _)); have hsz : w.heap.size ≤ w1.heap.size := hgr1.size; clear hgr1) | (at_builtin; refine wpList_append_own_spare _ rfl (.tmp 8) (.tmp 9) 23 rfl w.heap.size 5 i0 1 Try.underlying23 hi hz1 w.heap.size 0 (bs.length + 2) [] rfl hown1 ad bs.length cap (cellsOf bs) rfl (by rw [cellsOf_length]; omega) (cellsOf_at (A1.out.below HB1.out)) (cellsOf_one bs) (by omega) ?_; intro w2 hown2 hgr2; have hsz2 : w.heap.size ≤ w2.heap.size := Nat.le_trans hsz hgr2.size; have HB2 := Lib.hid (grown_below HB1.out hgr2 hsz (Nat.le_refl _)); clear hgr2 hown1; simp only [Nat.zero_add, List.nil_append] at hown2) | (at_builtin; refine wpList_append_own_spare _ rfl (.tmp 11) (.tmp 12) 23 rfl w.heap.size 5 i0 1 Try.underlying23 hi hz1 w.heap.size bs.length (bs.length + 2) (cellsOf bs) rfl (hown2.alloc _) ⟨w2.heap.size, 0, none⟩ 2 2 (cellsOf [91, 92]) rfl rfl (marks_at w2) (cellsOf_one _) (by omega) ?_; intro w3 hown3 hgr3))
    go_ret
    refine ⟨w.heap.size, Nat.le_refl _, rfl, ?_, grown_below (HB2.out.alloc hsz2 _) hgr3 (by simp; omega) (Nat.le_refl _)⟩
    unfold Lent
    rw [lent_of_owns hown3]
    simp [cellsOf]
theorem Lent.cell {w : World} {g : Nat} {bs : List Nat} (h : Lent w g bs) (j : Nat) : w.cell? ⟨g, j, none⟩ = (cellsOf (bs ++ [91, 92]))[j]? := by
  rw [cell_of_row _ _ _ _ _ _ h, List.getElem?_toArray]
theorem Lent.mark1 {w : World} {g : Nat} {bs : List Nat} (h : Lent w g bs) : w.cell? ⟨g, bs.length, none⟩ = some (.int .u8 91) := by
  rw [h.cell]; simp [cellsOf]
theorem Lent.mark2 {w : World} {g : Nat} {bs : List Nat} (h : Lent w g bs) : w.cell? ⟨g, bs.length + 1, none⟩ = some (.int .u8 92) := by
  rw [h.cell]; simp [cellsOf]
theorem Lent.bytes {w : World} {g : Nat} {bs : List Nat} (h : Lent w g bs) (hl : bs.length ≤ maxLen) (h8 : ∀ c ∈ bs, c < 256) : Bys w (some ⟨g, 0, none⟩) bs := by
  refine ⟨hl, h8, fun _ => ⟨g, 0, rfl, (Array.getElem?_eq_some_iff.1 h).1, fun i hi => ?_⟩⟩
  rw [Nat.zero_add, h.cell]
  unfold cellsOf; rw [List.getElem?_map, List.getElem?_append_left hi, List.getElem?_eq_getElem hi]; rfl
theorem Lent.below {w w' : World} {g : Nat} {bs : List Nat} (h : Lent w g bs) (hb : Below w.heap.size w w') : Lent w' g bs := (hb.block g (Array.getElem?_eq_some_iff.1 h).1).trans h
set_option maxHeartbeats 400000 in
theorem whole_any (g : Nat) (a : Option Addr) (bs : List Nat) (cap : Nat) (w : World) (L : Lent w g bs) (H : Bys w a bs) (hsm : bs.length ≤ 100000) :
    Calls Try.prog 10 #[.slice (some ⟨g, 0, none⟩) bs.length (bs.length + 2), .slice a bs.length cap] w fun e w' => e = .returned (.bool true) ∧ Below w.heap.size w w' := by
  have m1 := L.mark1
  have m2 := L.mark2
  have A1 := Lib.hid (L.bytes H.1 H.2.1)
  have A2 := Lib.hid H
  clear L H
  go_enter Try.func10, Try.ntmps10
  go_wp2_with (go_at_call 27; refine (same_any _ _ bs _ _ _ A1.out A2.out).mono ?_; rintro e w' ⟨rfl, hb⟩; have HB := Lib.hid hb; clear hb)
  go_ret
  exact ⟨rfl, HB.out⟩
end Go.Proofs.Ytlegdaoidjpokaa
namespace Go.Proofs.Ytlegdaoidjpokaa
open Go.RowKit
/-- a slice of integers that came in: nil, or a row of 'cap' cells -/
def IsRow (k : IntKind) (w : World) (a : Option Addr) (len cap : Nat) (zs : List Int) : Prop :=
  (a = none ∧ len = 0 ∧ cap = 0 ∧ zs = []) ∨
  ∃ x, a = some x ∧ len ≤ cap ∧ cap ≤ maxLen ∧ zs.length = cap ∧ (∀ i, i < zs.length → w.cell? (x.add i) = some (.int k (zs.getD i 0))) ∧ ∀ n ∈ zs, (Lit.int k n).wf = true
theorem byte_nat {n : Int} (h : (Lit.int .u8 n).wf = true) : ∃ m : Nat, n = (m : Int) ∧ m < 256 := by
  have hb := bounds_u8 h
  obtain ⟨m, rfl⟩ := Int.eq_ofNat_of_zero_le hb.1
  exact ⟨m, rfl, by omega⟩
theorem bytes_nat : ∀ (zs : List Int), (∀ n ∈ zs, (Lit.int .u8 n).wf = true) → ∃ bs : List Nat, zs = bs.map (fun c => ((c : Nat) : Int)) ∧ ∀ c ∈ bs, c < 256
  | [], _ => ⟨[], rfl, fun _ h => absurd h (by simp)⟩
  | z :: zs, h => by
    obtain ⟨m, rfl, hm⟩ := byte_nat (h z List.mem_cons_self)
    obtain ⟨bs, rfl, hb⟩ := bytes_nat zs (fun n hn => h n (List.mem_cons_of_mem _ hn))
    refine ⟨m :: bs, rfl, fun c hc => ?_⟩
    rcases List.mem_cons.1 hc with rfl | hc
    · exact hm
    · exact hb c hc
theorem bys_of_row {w : World} {a : Option Addr} {len cap : Nat} {zs : List Int} (h : IsRow .u8 w a len cap zs) : ∃ bs : List Nat, bs.length = len ∧ Bys w a bs ∧ (a = none → cap = 0) := by
  rcases h with ⟨rfl, rfl, rfl, rfl⟩ | ⟨x, rfl, hl, hm, hz, hcell, hwz⟩
  · exact ⟨[], rfl, nil_bytes _ _, fun _ => rfl⟩
  · obtain ⟨bs, rfl, h8⟩ := bytes_nat zs hwz
    have hz' : bs.length = cap := by simpa using hz
    refine ⟨bs.take len, by simp; omega, ⟨by simp; omega, fun c hc => h8 c (List.mem_of_mem_take hc), fun hn => ?_⟩, fun h => by cases h⟩
    have hlen : 0 < len := by
      refine Nat.pos_of_ne_zero fun h0 => hn ?_
      subst h0; simp
    obtain ⟨b, off, spot⟩ := x
    have hc0 := hcell 0 (by simp; omega)
    have hspot : spot = none := by simpa [Addr.add] using World.cell?_spot hc0
    subst hspot
    refine ⟨b, off, rfl, ?_, fun i hi => ?_⟩
    · have := World.block_lt_of_cell? _ _ hc0
      simpa [Addr.add] using this
    · have hi' : i < bs.length := by simp at hi; omega
      have hc := hcell i (by simpa using hi')
      rw [show (⟨b, off, none⟩ : Addr).add i = ⟨b, off + i, none⟩ by unfold Addr.add; split <;> simp_all] at hc
      rw [hc]
      simp [hi']
end Go.Proofs.Ytlegdaoidjpokaa
namespace Go.Proofs.Ytlegdaoidjpokaa.B2.Bt
/-- the n lowest bits of v, the highest first -/
def top (v : Nat) : Nat → List Bool
  | 0 => []
  | n + 1 => v.testBit n :: top v n
theorem top_length (v n : Nat) : (top v n).length = n := by
  induction n with
  | zero => rfl
  | succ n ih => simp [top, ih]
theorem top_split (v a b : Nat) : top v (a + b) = top (v >>> b) a ++ top v b := by
  induction a with
  | zero => simp [top]
  | succ a ih =>
    rw [show a + 1 + b = (a + b) + 1 by omega]
    simp only [top, List.cons_append, ih, Nat.testBit_shiftRight]
    rw [Nat.add_comm b a]
theorem top_drop (v a b : Nat) : (top v (a + b)).drop a = top v b := by
  rw [top_split, List.drop_append_of_le_length (by rw [top_length]; exact Nat.le_refl _)]
  rw [List.drop_of_length_le (by rw [top_length]; exact Nat.le_refl _), List.nil_append]
theorem top_take (v a b : Nat) : (top v (a + b)).take a = top (v >>> b) a := by
  rw [top_split, List.take_append_of_le_length (by rw [top_length]; exact Nat.le_refl _)]
  rw [List.take_of_length_le (by rw [top_length]; exact Nat.le_refl _)]
theorem top_get (v n i : Nat) (h : i < n) : (top v n)[i]? = some (v.testBit (n - 1 - i)) := by
  induction n generalizing i with
  | zero => omega
  | succ n ih =>
    cases i with
    | zero => simp [top]
    | succ i =>
      simp only [top, List.getElem?_cons_succ]
      rw [ih i (by omega)]
      congr 2; omega
/-- the number of a row of bits, the first one being the highest -/
def val (l : List Bool) : Nat := l.foldl (fun a b => 2 * a + b.toNat) 0
theorem val_from (l : List Bool) (a : Nat) : l.foldl (fun a b => 2 * a + b.toNat) a = a * 2 ^ l.length + val l := by
  induction l generalizing a with
  | nil => simp [val]
  | cons b l ih =>
    simp only [val, List.foldl_cons, List.length_cons]
    rw [ih (2 * a + b.toNat), ih (2 * 0 + b.toNat), Nat.pow_succ, Nat.add_mul, Nat.add_mul]
    have h1 : 2 * a * 2 ^ l.length = a * (2 ^ l.length * 2) := by
      rw [Nat.mul_comm 2 a, Nat.mul_assoc, Nat.mul_comm 2]
    rw [h1]; omega
theorem val_append (l m : List Bool) : val (l ++ m) = val l * 2 ^ m.length + val m := by
  unfold val; rw [List.foldl_append, val_from]; rfl
theorem val_snoc (l : List Bool) (b : Bool) : val (l ++ [b]) = 2 * val l + b.toNat := by
  rw [val_append]; simp [val]; omega
theorem val_lt (l : List Bool) : val l < 2 ^ l.length := by
  induction l with
  | nil => simp [val]
  | cons b l ih =>
    have h := val_append [b] l
    simp only [List.singleton_append] at h
    rw [h, List.length_cons, Nat.pow_succ]
    have : val [b] ≤ 1 := by cases b <;> simp [val]
    have h2 : val [b] * 2 ^ l.length ≤ 1 * 2 ^ l.length := Nat.mul_le_mul_right _ this
    omega
theorem val_top (v n : Nat) : val (top v n) = v % 2 ^ n := by
  induction n with
  | zero => simp [top, val, Nat.mod_one]
  | succ n ih =>
    have h := val_append [v.testBit n] (top v n)
    simp only [List.singleton_append] at h
    rw [show top v (n + 1) = v.testBit n :: top v n from rfl, h, ih, top_length]
    have e : val [v.testBit n] = (v >>> n) % 2 := by
      simp only [val, List.foldl_cons, List.foldl_nil, Nat.testBit_eq_decide_div_mod_eq, Nat.shiftRight_eq_div_pow]
      by_cases hb : v / 2 ^ n % 2 = 1
      · simp [hb]
      · have : v / 2 ^ n % 2 = 0 := by omega
        simp [this]
    rw [e, Nat.pow_succ, Nat.shiftRight_eq_div_pow, Nat.mod_mul]
    rw [Nat.mul_comm]; omega
theorem top_val (l : List Bool) : top (val l) l.length = l := by
  induction l with
  | nil => rfl
  | cons b l ih =>
    have h := val_append [b] l
    simp only [List.singleton_append] at h
    have hl := val_lt l
    rw [List.length_cons]
    have e1 : (val (b :: l)).testBit l.length = b := by
      rw [h, Nat.testBit_eq_decide_div_mod_eq]
      have : (val [b] * 2 ^ l.length + val l) / 2 ^ l.length = val [b] := by
        rw [Nat.mul_comm, Nat.mul_add_div (Nat.two_pow_pos _), Nat.div_eq_of_lt hl, Nat.add_zero]
      rw [this]
      cases b <;> simp [val]
    have e2 : top (val (b :: l)) l.length = top (val l) l.length := by
      have key : ∀ x n, n ≤ l.length → top (x * 2 ^ l.length + val l) n = top (val l) n := by
        intro x n hn
        induction n with
        | zero => rfl
        | succ n ihn =>
          simp only [top]
          rw [ihn (by omega), Nat.mul_comm x, Nat.testBit_two_pow_mul_add x hl, if_pos (by omega)]
      rw [h]; exact key _ _ (Nat.le_refl _)
    show (val (b :: l)).testBit l.length :: top (val (b :: l)) l.length = b :: l
    rw [e1, e2, ih]
/-- bytes as bits -/
def unpack (ds : List Nat) : List Bool := ds.flatMap fun c => top c 8
theorem unpack_length (ds : List Nat) : (unpack ds).length = 8 * ds.length := by
  induction ds with
  | nil => rfl
  | cons c ds ih => simp only [unpack, List.flatMap_cons, List.length_append, top_length, List.length_cons] at *; omega
theorem unpack_append (a b : List Nat) : unpack (a ++ b) = unpack a ++ unpack b := by simp [unpack]
theorem unpack_cons (c : Nat) (b : List Nat) : unpack (c :: b) = top c 8 ++ unpack b := by simp [unpack]
theorem unpack_one (c : Nat) : unpack [c] = top c 8 := by simp [unpack]
theorem top8_inj {a b : Nat} (ha : a < 256) (hb : b < 256) (h : top a 8 = top b 8) : a = b := by
  have := congrArg val h
  rw [val_top, val_top] at this
  omega
theorem unpack_inj : ∀ (a b : List Nat), (∀ c ∈ a, c < 256) → (∀ c ∈ b, c < 256) → unpack a = unpack b → a = b
  | [], [], _, _, _ => rfl
  | [], c :: b, _, _, h => by have := congrArg List.length h; simp [unpack_length] at this
  | c :: a, [], _, _, h => by have := congrArg List.length h; simp [unpack_length] at this
  | c :: a, d :: b, ha, hb, h => by
    rw [unpack_cons, unpack_cons] at h
    obtain ⟨h1, h2⟩ := List.append_inj h (by rw [top_length, top_length])
    rw [top8_inj (ha c List.mem_cons_self) (hb d List.mem_cons_self) h1, unpack_inj a b (fun x hx => ha x (List.mem_cons_of_mem _ hx)) (fun x hx => hb x (List.mem_cons_of_mem _ hx)) h2]
/-- these bytes have these bits, and k noughts behind them -/
def Packs (k : Nat) (ds : List Nat) (B : List Bool) : Prop := (∀ c ∈ ds, c < 256) ∧ unpack ds = B ++ List.replicate k false
theorem Packs.length {k : Nat} {ds : List Nat} {B : List Bool} (h : Packs k ds B) : 8 * ds.length = B.length + k := by
  have := congrArg List.length h.2
  rw [unpack_length] at this
  simpa using this
theorem packs_nil : Packs 0 [] [] := ⟨by simp, rfl⟩
theorem Packs.grow {ds : List Nat} {B : List Bool} (h : Packs 0 ds B) : Packs 8 (ds ++ [0]) B := by
  refine ⟨fun c hc => ?_, ?_⟩
  · rcases List.mem_append.1 hc with hc | hc
    · exact h.1 c hc
    · simp at hc; omega
  · rw [unpack_append, h.2, unpack_one]; simp [top]
/-- so a byte is filled up -/
theorem fill_get (c x k s : Nat) (X : List Bool) (hk : k ≤ 8) (hs : s ≤ k) (h : top c 8 = X ++ List.replicate k false) :
    top (c ||| (((x % 256) <<< (8 - s)) % 256) >>> (8 - k)) 8 = (X ++ top x s) ++ List.replicate (k - s) false := by
  have hX : X.length = 8 - k := by
    have := congrArg List.length h
    rw [top_length] at this; simp at this; omega
  apply List.ext_getElem?
  intro i
  by_cases hi : i < 8
  · rw [top_get _ _ _ hi]
    have hci := congrArg (fun l => l[i]?) h
    rw [top_get _ _ _ hi] at hci
    have hp : ((((x % 256) <<< (8 - s)) % 256) >>> (8 - k)).testBit (8 - 1 - i) = (decide (8 - k + (8 - 1 - i) < 8) && (decide (8 - k + (8 - 1 - i) ≥ 8 - s) && (decide (8 - k + (8 - 1 - i) - (8 - s) < 8) && x.testBit (8 - k + (8 - 1 - i) - (8 - s))))) := by
      rw [Nat.testBit_shiftRight, show (256 : Nat) = 2 ^ 8 from rfl, Nat.testBit_mod_two_pow, Nat.testBit_shiftLeft, Nat.testBit_mod_two_pow]
    rw [Nat.testBit_or, hp]
    by_cases h1 : i < 8 - k
    · rw [List.getElem?_append_left (by simp; omega)]
      rw [List.getElem?_append_left (by omega)] at hci ⊢
      have : decide (8 - k + (8 - 1 - i) < 8) = false := by simp; omega
      rw [this]; simp only [Bool.false_and, Bool.or_false]
      exact hci
    · have hc0 : c.testBit (8 - 1 - i) = false := by
        rw [List.getElem?_append_right (by omega), List.getElem?_replicate, if_pos (by omega)] at hci
        exact Option.some.inj hci
      rw [hc0, Bool.false_or]
      have e1 : decide (8 - k + (8 - 1 - i) < 8) = true := by simp; omega
      rw [e1, Bool.true_and]
      by_cases h2 : i < 8 - k + s
      · rw [List.getElem?_append_left (by simp [top_length]; omega), List.getElem?_append_right (by omega), top_get _ _ _ (by omega)]
        have e2 : decide (8 - k + (8 - 1 - i) ≥ 8 - s) = true := by simp; omega
        have e3 : decide (8 - k + (8 - 1 - i) - (8 - s) < 8) = true := by simp; omega
        rw [e2, e3, Bool.true_and, Bool.true_and]
        congr 2; omega
      · rw [List.getElem?_append_right (by simp [top_length]; omega), List.getElem?_replicate, if_pos (by simp [top_length]; omega)]
        have e2 : decide (8 - k + (8 - 1 - i) ≥ 8 - s) = false := by simp; omega
        rw [e2]; rfl
  · rw [List.getElem?_eq_none (by rw [top_length]; omega), List.getElem?_eq_none (by simp [top_length]; omega)]
theorem or_lt8 (c p : Nat) (hc : c < 256) (hp : p < 256) : c ||| p < 256 := Nat.or_lt_two_pow (n := 8) hc hp
theorem piece_lt (y n : Nat) : ((y % 256)) >>> n < 256 := by
  rw [Nat.shiftRight_eq_div_pow]
  exact Nat.lt_of_le_of_lt (Nat.div_le_self _ _) (Nat.mod_lt _ (by decide))
theorem Packs.fill {k s x c : Nat} {ini : List Nat} {B : List Bool} (h : Packs k (ini ++ [c]) B) (hk : k ≤ 8) (hs : s ≤ k) :
    Packs (k - s) (ini ++ [c ||| (((x % 256) <<< (8 - s)) % 256) >>> (8 - k)]) (B ++ top x s) := by
  obtain ⟨h1, h2⟩ := h
  have hc : c < 256 := h1 c (by simp)
  rw [unpack_append, unpack_one] at h2
  have hl := congrArg List.length h2
  rw [List.length_append, unpack_length, top_length] at hl
  simp only [List.length_append, List.length_replicate] at hl
  obtain ⟨X, hX⟩ : ∃ X, B = unpack ini ++ X := by
    refine ⟨B.drop (unpack ini).length, ?_⟩
    have ht : B.take (unpack ini).length = unpack ini := by
      have := congrArg (List.take (unpack ini).length) h2
      rw [List.take_left, List.take_append_of_le_length (by rw [unpack_length]; omega)] at this
      exact this.symm
    rw [← ht, List.length_take, Nat.min_eq_left (by rw [unpack_length]; omega)]
    exact (List.take_append_drop _ _).symm
  subst hX
  rw [List.append_assoc] at h2
  have h3 := List.append_cancel_left h2
  refine ⟨fun d hd => ?_, ?_⟩
  · rcases List.mem_append.1 hd with hd | hd
    · exact h1 d (by simp [hd])
    · simp only [List.mem_singleton] at hd
      subst hd
      exact or_lt8 _ _ hc (piece_lt _ _)
  · rw [unpack_append, unpack_one, fill_get c x k s X hk hs h3]
    simp [List.append_assoc]
/-- a row of bytes that has these bits is one -/
theorem packs_unique {k j : Nat} {a b : List Nat} {B : List Bool} (h : Packs k a B) (h2 : Packs j b B) (hk : k < 8) (hj : j < 8) : a = b := by
  have l1 := h.length
  have l2 := h2.length
  obtain rfl : k = j := by omega
  exact unpack_inj a b h.1 h2.1 (h.2.trans h2.2.symm)
/-- bits of a byte read as a number -/
theorem piece_read (c a s : Nat) (h : a + s ≤ 8) : ((c <<< a) % 256) >>> (8 - s) = val (((top c 8).drop a).take s) := by
  have e : (top c 8).drop a = top c (8 - a) := by
    have := top_drop c a (8 - a)
    rwa [show a + (8 - a) = 8 by omega] at this
  have e2 : (top c (8 - a)).take s = top (c >>> (8 - a - s)) s := by
    have := top_take c s (8 - a - s)
    rwa [show s + (8 - a - s) = 8 - a by omega] at this
  rw [e, e2, val_top]
  apply Nat.eq_of_testBit_eq
  intro i
  rw [Nat.testBit_shiftRight, show (256 : Nat) = 2 ^ 8 from rfl, Nat.testBit_mod_two_pow, Nat.testBit_shiftLeft, Nat.testBit_mod_two_pow, Nat.testBit_shiftRight]
  by_cases hi : i < s
  · have e1 : decide (8 - s + i < 8) = true := by simp; omega
    have e2 : decide (8 - s + i ≥ a) = true := by simp; omega
    have e3 : decide (i < s) = true := by simpa using hi
    rw [e1, e2, e3]
    simp only [Bool.true_and]
    congr 1
    omega
  · have e1 : decide (8 - s + i < 8) = false := by simp; omega
    have e3 : decide (i < s) = false := by simpa using hi
    rw [e1, e3]; simp
theorem unpack_drop (ds : List Nat) (q : Nat) : (unpack ds).drop (8 * q) = unpack (ds.drop q) := by
  induction ds generalizing q with
  | nil => simp [unpack]
  | cons c ds ih =>
    cases q with
    | zero => simp
    | succ q =>
      rw [unpack_cons, List.drop_succ_cons, ← ih q]
      rw [show 8 * (q + 1) = 8 + 8 * q by omega, ← List.drop_drop]
      congr 1
/-- the bits from a place on that lie in one byte -/
theorem read_here (ds : List Nat) (at_ s : Nat) (hq : at_ / 8 < ds.length) (h : at_ % 8 + s ≤ 8) :
    ((ds[at_ / 8] <<< (at_ % 8)) % 256) >>> (8 - s) = val (((unpack ds).drop at_).take s) := by
  rw [piece_read _ _ _ h]
  congr 1
  have e : at_ = 8 * (at_ / 8) + at_ % 8 := by omega
  have e2 : (unpack ds).drop at_ = ((top ds[at_ / 8] 8).drop (at_ % 8)) ++ unpack (ds.drop (at_ / 8 + 1)) := by
    conv => lhs; rw [e]
    rw [← List.drop_drop, unpack_drop, List.drop_eq_getElem_cons hq, unpack_cons, List.drop_append_of_le_length (by rw [top_length]; omega)]
  rw [e2, List.take_append_of_le_length (by rw [List.length_drop, top_length]; omega)]
theorem val_take_add (l : List Bool) (a b : Nat) (h : a + b ≤ l.length) : val (l.take (a + b)) = val (l.take a) * 2 ^ b + val ((l.drop a).take b) := by
  rw [List.take_add, val_append]
  congr 2
  rw [List.length_take, List.length_drop]
  congr 1; omega
end Go.Proofs.Ytlegdaoidjpokaa.B2.Bt
namespace Go.Proofs.Ytlegdaoidjpokaa.B2.Bt
/-- a number's groups, the lowest first; f is at least the number -/
def vgf : Nat → Nat → List Nat
  | 0, v => [v]
  | f + 1, v => if v < 128 then [v] else (v % 128 + 128) :: vgf f (v / 128)
theorem vgf_any (f g v : Nat) (hf : v ≤ f) (hg : v ≤ g) : vgf f v = vgf g v := by
  induction f generalizing g v with
  | zero =>
    obtain rfl : v = 0 := by omega
    cases g <;> rfl
  | succ f ih =>
    cases g with
    | zero =>
      obtain rfl : v = 0 := by omega
      rfl
    | succ g =>
      unfold vgf
      by_cases h : v < 128
      · rw [if_pos h, if_pos h]
      · rw [if_neg h, if_neg h, ih g (v / 128) (by omega) (by omega)]
/-- a number's groups, the lowest first -/
def vg (v : Nat) : List Nat := vgf v v
theorem vg_small {v : Nat} (h : v < 128) : vg v = [v] := by
  unfold vg
  cases v with
  | zero => rfl
  | succ v => rw [vgf, if_pos h]
theorem vg_big {v : Nat} (h : 128 ≤ v) : vg v = (v % 128 + 128) :: vg (v / 128) := by
  unfold vg
  cases v with
  | zero => omega
  | succ v => rw [vgf, if_neg (by omega), vgf_any v ((v + 1) / 128) _ (by omega) (Nat.le_refl _)]
def vb (v : Nat) : List Bool := unpack (vg v)
theorem vb_small {v : Nat} (h : v < 128) : vb v = top v 8 := by rw [vb, vg_small h, unpack_one]
theorem vb_big {v : Nat} (h : 128 ≤ v) : vb v = top (v % 128 + 128) 8 ++ vb (v / 128) := by rw [vb, vg_big h, unpack_cons]; rfl
theorem vg_lt (v : Nat) : ∀ c ∈ vg v, c < 256 := by
  induction v using Nat.strongRecOn with
  | _ v ih =>
    by_cases h : v < 128
    · rw [vg_small h]; intro c hc; simp at hc; omega
    · rw [vg_big (by omega)]
      intro c hc
      rcases List.mem_cons.1 hc with rfl | hc
      · omega
      · exact ih (v / 128) (by omega) c hc
theorem vg_pos (v : Nat) : 1 ≤ (vg v).length := by
  by_cases h : v < 128
  · rw [vg_small h]; simp
  · rw [vg_big (by omega)]; simp
theorem vg_le (v k : Nat) (h : v < 128 ^ (k + 1)) : (vg v).length ≤ k + 1 := by
  induction k generalizing v with
  | zero => rw [vg_small (by simpa using h)]; simp
  | succ k ih =>
    by_cases hs : v < 128
    · rw [vg_small hs]; simp
    · rw [vg_big (by omega), List.length_cons]
      have := ih (v / 128) (by rw [Nat.div_lt_iff_lt_mul (by decide)]; rw [Nat.pow_succ] at h; exact h)
      omega
theorem vg_ten (v : Nat) (h : v < 18446744073709551616) : (vg v).length ≤ 10 :=
  vg_le v 9 (Nat.lt_of_lt_of_le h (by decide))
theorem vg_mono (a b : Nat) (h : a ≤ b) : (vg a).length ≤ (vg b).length := by
  induction b using Nat.strongRecOn generalizing a with
  | _ b ih =>
    by_cases ha : a < 128
    · rw [vg_small ha]; exact vg_pos b
    · rw [vg_big (by omega), vg_big (v := b) (by omega), List.length_cons, List.length_cons]
      have := ih (b / 128) (by omega) (a / 128) (by omega)
      omega
theorem vb_length (v : Nat) : (vb v).length = 8 * (vg v).length := unpack_length _
/-- a number that may be below nought, as one that is not -/
def zz (v : Int) : Nat := if 0 ≤ v then (2 * v).toNat else (-2 * v - 1).toNat
def uz (t : Nat) : Int := if t % 2 = 1 then -((t / 2 : Nat) : Int) - 1 else ((t / 2 : Nat) : Int)
theorem uz_zz (v : Int) : uz (zz v) = v := by
  unfold uz zz
  by_cases h : 0 ≤ v
  · rw [if_pos h, if_neg (by omega)]; omega
  · rw [if_neg h, if_pos (by omega)]; omega
theorem zz_lt (v : Int) (h1 : -9223372036854775808 ≤ v) (h2 : v ≤ 9223372036854775807) : zz v < 18446744073709551616 := by
  unfold zz; split <;> omega
theorem uz_bd (t : Nat) (h : t < 18446744073709551616) : -9223372036854775808 ≤ uz t ∧ uz t ≤ 9223372036854775807 := by
  unfold uz; split <;> omega
/-- reading: the number, the error, how many bits were taken -/
def rvf : Nat → Nat → Nat → List Bool → Nat × Nat × Nat
  | 0, _, _, _ => (0, 21, 0)
  | f + 1, i, v, S =>
    if S.length < 8 then (0, 20, 0)
    else if i = 9 ∧ 1 < val (S.take 8) then (0, 21, 0)
    else if 128 ≤ val (S.take 8) then rvf f (i + 1) (v + val (S.take 8) % 128 * 2 ^ (7 * i)) (S.drop 8)
    else if val (S.take 8) = 0 ∧ 0 < i then (0, 21, 0)
    else (v + val (S.take 8) % 128 * 2 ^ (7 * i), 0, 8 * (i + 1))
def rv (S : List Bool) : Nat × Nat × Nat := rvf 10 0 0 S
theorem rvf_err (f i v : Nat) (S : List Bool) : (rvf f i v S).2.1 = 0 ∨ ((rvf f i v S).1 = 0 ∧ (rvf f i v S).2.2 = 0 ∧ ((rvf f i v S).2.1 = 20 ∨ (rvf f i v S).2.1 = 21)) := by
  induction f generalizing i v S with
  | zero => exact .inr ⟨rfl, rfl, .inr rfl⟩
  | succ f ih =>
    unfold rvf
    split
    · exact .inr ⟨rfl, rfl, .inl rfl⟩
    · split
      · exact .inr ⟨rfl, rfl, .inr rfl⟩
      · split
        · exact ih _ _ _
        · split
          · exact .inr ⟨rfl, rfl, .inr rfl⟩
          · exact .inl rfl
theorem val_head8 (c : Nat) (R : List Bool) (h : c < 256) : val ((top c 8 ++ R).take 8) = c := by
  rw [List.take_append_of_le_length (by rw [top_length]; omega), List.take_of_length_le (by rw [top_length]; omega), val_top]
  omega
theorem drop_head8 (c : Nat) (R : List Bool) : (top c 8 ++ R).drop 8 = R := by
  rw [List.drop_append_of_le_length (by rw [top_length]; omega), List.drop_of_length_le (by rw [top_length]; omega), List.nil_append]
theorem rvf_back (f i acc v : Nat) (R : List Bool) (hf : f + i = 10) (h0 : 0 < f) (hv : v < 2 ^ (64 - 7 * i)) (hi : i = 0 ∨ 0 < v) :
    rvf f i acc (vb v ++ R) = (acc + v * 2 ^ (7 * i), 0, 8 * (i + (vg v).length)) := by
  induction f generalizing i acc v with
  | zero => omega
  | succ f ih =>
    by_cases hs : v < 128
    · rw [vb_small hs, vg_small hs]
      unfold rvf
      rw [val_head8 v R (by omega), if_neg (by simp [top_length]), if_neg, if_neg (by omega), if_neg (by omega), Nat.mod_eq_of_lt hs]
      · rfl
      · rintro ⟨rfl, h⟩; simp at hv; omega
    · have hi9 : i < 9 := by
        refine Nat.lt_of_not_le fun h => ?_
        have : i = 9 := by omega
        subst this; simp at hv; omega
      rw [vb_big (by omega), vg_big (by omega), List.append_assoc]
      unfold rvf
      rw [val_head8 _ _ (by omega), drop_head8, if_neg (by simp [top_length]), if_neg (by omega), if_pos (by omega)]
      have e1 : (v % 128 + 128) % 128 = v % 128 := by omega
      have hp : 2 ^ (64 - 7 * i) = 2 ^ (64 - 7 * (i + 1)) * 128 := by
        rw [show 64 - 7 * i = (64 - 7 * (i + 1)) + 7 by omega, Nat.pow_add]
      rw [ih (i + 1) _ (v / 128) (by omega) (by omega) (by rw [Nat.div_lt_iff_lt_mul (by decide), ← hp]; exact hv) (.inr (by omega)), e1]
      simp only [Prod.mk.injEq, List.length_cons, true_and]
      refine ⟨?_, by omega⟩
      have hp2 : 2 ^ (7 * (i + 1)) = 128 * 2 ^ (7 * i) := by rw [show 7 * (i + 1) = 7 + 7 * i by omega, Nat.pow_add]
      rw [hp2, Nat.add_assoc, ← Nat.mul_assoc, ← Nat.add_mul]
      congr 2; omega
theorem rv_back (v : Nat) (R : List Bool) (h : v < 18446744073709551616) : rv (vb v ++ R) = (v, 0, (vb v).length) := by
  rw [rv, rvf_back 10 0 0 v R rfl (by decide) h (.inl rfl), vb_length]
  simp
theorem top8_val (S : List Bool) (h : 8 ≤ S.length) : top (val (S.take 8)) 8 = S.take 8 := by
  have := top_val (S.take 8)
  rwa [List.length_take, Nat.min_eq_left h] at this
theorem rvf_one (f i acc : Nat) (S : List Bool) (hf : f + i = 10) (h : (rvf f i acc S).2.1 = 0) :
    ∃ u, (rvf f i acc S).1 = acc + u * 2 ^ (7 * i) ∧ (rvf f i acc S).2.2 = 8 * (i + (vg u).length) ∧ 8 * (vg u).length ≤ S.length ∧ S.take (8 * (vg u).length) = vb u ∧ u < 2 ^ (64 - 7 * i) ∧ (i = 0 ∨ 0 < u) := by
  induction f generalizing i acc S with
  | zero => simp [rvf] at h
  | succ f ih =>
    have hl := val_lt (S.take 8)
    unfold rvf at h ⊢
    by_cases h1 : S.length < 8
    · simp [h1] at h
    · rw [if_neg h1] at h ⊢
      rw [List.length_take, Nat.min_eq_left (by omega)] at hl
      by_cases h2 : i = 9 ∧ 1 < val (S.take 8)
      · simp [h2] at h
      · rw [if_neg h2] at h ⊢
        have ht := top8_val S (by omega)
        by_cases h3 : 128 ≤ val (S.take 8)
        · rw [if_pos h3] at h ⊢
          have hi9 : i < 9 := by omega
          obtain ⟨u, e1, e2, e3, e4, e5, e6⟩ := ih (i + 1) _ (S.drop 8) (by omega) h
          have hu : 0 < u := by omega
          generalize hg : val (S.take 8) = g at *
          refine ⟨g % 128 + 128 * u, ?_, ?_, ?_, ?_, ?_, .inr (by omega)⟩
          · rw [e1, show 7 * (i + 1) = 7 + 7 * i by omega, Nat.pow_add, Nat.add_mul, Nat.add_assoc]
            congr 2
            rw [Nat.mul_comm 128 u, Nat.mul_assoc]
          · rw [e2, vg_big (v := g % 128 + 128 * u) (by omega), List.length_cons, show (g % 128 + 128 * u) / 128 = u by omega]; omega
          · rw [vg_big (by omega), List.length_cons, show (g % 128 + 128 * u) / 128 = u by omega]
            rw [List.length_drop] at e3; omega
          · rw [vb_big (by omega), vg_big (by omega), List.length_cons, show (g % 128 + 128 * u) / 128 = u by omega, show (g % 128 + 128 * u) % 128 + 128 = g by omega, ht, ← e4]
            rw [show 8 * ((vg u).length + 1) = 8 + 8 * (vg u).length by omega, List.take_add]
          · have hp : 2 ^ (64 - 7 * i) = 2 ^ (64 - 7 * (i + 1)) * 128 := by
              rw [show 64 - 7 * i = (64 - 7 * (i + 1)) + 7 by omega, Nat.pow_add]
            omega
        · rw [if_neg h3] at h ⊢
          by_cases h4 : val (S.take 8) = 0 ∧ 0 < i
          · simp [h4] at h
          · rw [if_neg h4] at h ⊢
            generalize hg : val (S.take 8) = g at *
            have hgl : g < 128 := by omega
            refine ⟨g, by rw [Nat.mod_eq_of_lt hgl], by rw [vg_small hgl]; rfl, by rw [vg_small hgl]; simp; omega, by rw [vb_small hgl, vg_small hgl, ht]; rfl, ?_, by omega⟩
            by_cases h9 : i = 9
            · subst h9; simp; omega
            · have : 2 ^ 8 ≤ 2 ^ (64 - 7 * i) := Nat.pow_le_pow_right (by decide) (by omega)
              omega
theorem rv_one (S : List Bool) (h : (rv S).2.1 = 0) : (rv S).1 < 18446744073709551616 ∧ (rv S).2.2 = 8 * (vg (rv S).1).length ∧ 8 * (vg (rv S).1).length ≤ S.length ∧ S.take (8 * (vg (rv S).1).length) = vb (rv S).1 := by
  obtain ⟨u, e1, e2, e3, e4, e5, _⟩ := rvf_one 10 0 0 S rfl h
  have e : (rv S).1 = u := by rw [rv, e1]; simp
  rw [e]
  exact ⟨by simpa using e5, by rw [rv, e2]; simp, e3, e4⟩
theorem rv_err (S : List Bool) : (rv S).2.1 = 0 ∨ ((rv S).1 = 0 ∧ (rv S).2.2 = 0 ∧ ((rv S).2.1 = 20 ∨ (rv S).2.1 = 21)) := rvf_err _ _ _ _
theorem rv_lt (S : List Bool) : (rv S).1 < 18446744073709551616 := by
  rcases rv_err S with h | h
  · exact (rv_one S h).1
  · rw [h.1]; decide
theorem rv_take (S : List Bool) : (rv S).2.2 ≤ S.length := by
  rcases rv_err S with h | h
  · have := rv_one S h; omega
  · rw [h.2.1]; exact Nat.zero_le _
end Go.Proofs.Ytlegdaoidjpokaa.B2.Bt
namespace Go.Proofs.Ytlegdaoidjpokaa.B2
open Go.RowKit
/-- only these blocks, and what is new, may have turned -/
structure Only (S : List Nat) (w w' : World) : Prop where
  os : w'.os = w.os
  tape : w'.tape = w.tape
  output : w'.output = w.output
  size : w.heap.size ≤ w'.heap.size
  block : ∀ k, k < w.heap.size → k ∉ S → w'.heap[k]? = w.heap[k]?
theorem Only.refl (S : List Nat) (w : World) : Only S w w := ⟨rfl, rfl, rfl, Nat.le_refl _, fun _ _ _ => rfl⟩
theorem Only.trans {S S' : List Nat} {a b c : World} (h : Only S a b) (k : Only S' b c) (hs : ∀ x ∈ S', x ∈ S ∨ a.heap.size ≤ x) : Only S a c :=
  ⟨k.os.trans h.os, k.tape.trans h.tape, k.output.trans h.output, Nat.le_trans h.size k.size, fun i hi hn => (k.block i (Nat.lt_of_lt_of_le hi h.size) (fun hm => by
    rcases hs i hm with h1 | h1
    · exact hn h1
    · omega)).trans (h.block i hi hn)⟩
theorem Only.mono {S S' : List Nat} {a b : World} (h : Only S a b) (hs : ∀ x ∈ S, x ∈ S') : Only S' a b := ⟨h.os, h.tape, h.output, h.size, fun i hi hn => h.block i hi fun hm => hn (hs i hm)⟩
theorem Only.drew {S : List Nat} {a b : World} (h : Only S a b) : Only S a b.drew := ⟨h.os, h.tape, h.output, h.size, h.block⟩
theorem Only.drewN {S : List Nat} {a b : World} (h : Only S a b) (n : Nat) : Only S a (b.drewN n) := ⟨h.os, h.tape, h.output, h.size, h.block⟩
theorem Only.alloc {S : List Nat} {a b : World} (h : Only S a b) (o : Obj) : Only S a (b.alloc o) :=
  ⟨h.os, h.tape, h.output, Nat.le_trans h.size (by simp), fun k hk hn => (Below.heap_alloc _ _ _ (Nat.lt_of_lt_of_le hk h.size)).trans (h.block k hk hn)⟩
theorem Only.setCell {S : List Nat} {a b : World} (h : Only S a b) {p : Addr} (hp : p.block ∈ S ∨ a.heap.size ≤ p.block) (u : Value) : Only S a (b.setCell p u) :=
  ⟨h.os, h.tape, h.output, by simpa [World.setCell] using h.size, fun k hk hn => (Below.heap_setCell _ _ _ _ (by
    rintro rfl
    rcases hp with hp | hp
    · exact hn hp
    · omega)).trans (h.block k hk hn)⟩
theorem Only.grown {S : List Nat} {a b c : World} {row : Option Nat} (h : Only S a b) (hg : b.grownBy c row) (hr : ∀ k, row = some k → k ∈ S ∨ a.heap.size ≤ k) : Only S a c :=
  ⟨hg.os.trans h.os, hg.tape.trans h.tape, hg.output.trans h.output, Nat.le_trans h.size hg.size, fun k hk hn => (hg.block k (Nat.lt_of_lt_of_le hk h.size) (fun e => by
    rcases hr k e.symm with h1 | h1
    · exact hn h1
    · omega)).trans (h.block k hk hn)⟩
theorem Only.of_below {a b : World} (h : Below a.heap.size a b) (S : List Nat) : Only S a b := ⟨h.os, h.tape, h.output, h.size, fun k hk _ => h.block k hk⟩
theorem Only.below {S : List Nat} {a b : World} (h : Only S a b) {B : Nat} (hB : B ≤ a.heap.size) (hs : ∀ x ∈ S, B ≤ x) : Below B a b :=
  ⟨h.os, h.tape, h.output, h.size, fun k hk => h.block k (Nat.lt_of_lt_of_le hk hB) fun hm => by have := hs k hm; omega⟩
theorem Only.cell {S : List Nat} {a b : World} (h : Only S a b) {p : Addr} (hp : p.block < a.heap.size) (hn : p.block ∉ S) : b.cell? p = a.cell? p := World.cell?_of_block (w := a) (h.block _ hp hn)
theorem Only.lift {S : List Nat} {B : Nat} {a b c : World} (h : Below B a b) (k : Only S b c) (hB : B ≤ b.heap.size) (hs : ∀ x ∈ S, B ≤ x) : Below B a c := h.trans (k.below hB hs)
/-- numbers as cells -/
def cellsOf (bs : List Nat) : List Value := bs.map fun c => Value.int .u8 ((c : Nat) : Int)
theorem cellsOf_length (bs : List Nat) : (cellsOf bs).length = bs.length := by simp [cellsOf]
theorem cellsOf_one (bs : List Nat) : ∀ u ∈ cellsOf bs, u.oneCell' = true := by
  intro u hu
  obtain ⟨c, _, rfl⟩ := List.mem_map.1 hu
  rfl
theorem cellsOf_append (a b : List Nat) : cellsOf (a ++ b) = cellsOf a ++ cellsOf b := by simp [cellsOf]
theorem cellsOf_get (bs : List Nat) (i : Nat) (h : i < bs.length) : (cellsOf bs)[i]? = some (.int .u8 ((bs[i] : Nat) : Int)) := by
  simp [cellsOf, h]
theorem add_here (g j : Nat) : (⟨g, 0, none⟩ : Addr).add j = ⟨g, j, none⟩ := by unfold Addr.add; split <;> simp_all
theorem add_at (g o j : Nat) : (⟨g, o, none⟩ : Addr).add j = ⟨g, o + j, none⟩ := by unfold Addr.add; split <;> simp_all
section
variable {P : Program}
/-- append to a row of the call's own, with the word where the row lies behind it -/
theorem run_append_place (w : World) (t ty e : TypeId) (i : TypeInfo) (z : Value) (size bytes : Nat) (ht : P.underlying t = some (.slice e)) (hi : P.info? e = some i) (hz : i.zero = some z)
    (hsize : i.size = size) (hby : i.bytes = bytes) (hzs : z.cells.size = size) (hsz : 0 < size)
    (v : Value) (n : Nat) (xs : List Value) (hown : w.ownsRow 0 e size v n xs)
    (a : Addr) (m c : Nat) (news : List Value) (hl : news.length = m * size) (hnews : ∀ j u, news[j]? = some u → w.cell? (a.add j) = some u) (h1 : ∀ u ∈ news, u.oneCell' = true)
    (h63 : n + m ≤ maxLen) (hbytes : (n + m) * bytes ≤ 140737488355328) :
    ∃ v' w', (Builtin.append_ #[t, t] ty #[v, .slice (some a) m c]).run P w = .ok v' w' ∧ w'.ownsRow 0 e size v' (n + m) (xs ++ news) ∧ w.grownBy w' v.ownBlock ∧
      (v'.ownBlock = v.ownBlock ∨ ∃ g, v'.ownBlock = some g ∧ w.heap.size ≤ g) := by
  obtain ⟨v', w', hr, h2, h3, h4⟩ := run_append_own (P := P) w 0 t ty e i z size bytes ht hi hz hsize hby hzs hsz v n xs hown a m c news hl hnews h1 h63 hbytes (Nat.zero_le _)
  refine ⟨v', w', hr, h2, h3, ?_⟩
  rcases hown.2 with ⟨rfl, rfl⟩ | ⟨g, cap, cur, rfl, hbg, hg, hnc, hcm, hcs, htake⟩
  · have hx : xs = [] := List.eq_nil_of_length_eq_zero (by simpa using hown.1)
    subst hx
    obtain ⟨v2, w2, hr2, k2, k3, k4⟩ := run_append_own (P := P) w w.heap.size t ty e i z size bytes ht hi hz hsize hby hzs hsz _ 0 [] (World.ownsRow_nil w _ e size) a m c news hl hnews h1 h63 hbytes (Nat.le_refl _)
    rw [hr] at hr2
    cases hr2
    cases hv : v'.ownBlock with
    | none => exact .inl rfl
    | some g => exact .inr ⟨g, rfl, (k2.lt g hv).1⟩
  · by_cases hroom : n + m ≤ cap
    · have hfit : n * i.size + news.length ≤ cur.size := by rw [hl, hcs, hsize, ← Nat.add_mul]; exact Nat.mul_le_mul_right _ hroom
      have hr2 := run_append_room (P := P) w t ty e i ht hi g n cap cur hg a m c news (by rw [hsize]; exact hl) hnews h1 hroom hfit
      rw [hr] at hr2
      cases hr2
      exact .inl rfl
    · have holds := hown.cells (g := g) rfl
      have hr2 := run_append_grow (P := P) w t ty e i z ht hi hz ⟨g, 0, none⟩ n cap xs (by rw [hsize]; exact hown.1) holds a m c news (by rw [hsize]; exact hl) hnews (by omega) (by simp only [maxLen] at h63; omega) (growslice_fits (by omega) (by rw [hby]; exact hbytes))
      rw [hr] at hr2
      cases hr2
      exact .inr ⟨_, rfl, Nat.le_refl _⟩
theorem wpList_append_place (w : World) {ops : Array Oper} {rest : List Oper} {o : Oper} {a : Act} {Q : Exit → Act → World → Prop} (hgd : o.guard = none) (s x : Operand) (t : TypeId)
    (ho : o.op = .call { callee := .builtin .append, args := #[s, x], argTypes := #[t, t] })
    (e : TypeId) (i : TypeInfo) (z : Value) (size bytes : Nat) (ht : P.underlying t = some (.slice e)) (hi : P.info? e = some i) (hz : i.zero = some z)
    (hsize : i.size = size) (hby : i.bytes = bytes) (hzs : z.cells.size = size) (hsz : 0 < size)
    (v : Value) (n : Nat) (xs : List Value) (hs : a.eval s = v) (hown : w.ownsRow 0 e size v n xs)
    (ad : Addr) (m c : Nat) (news : List Value) (hx : a.eval x = .slice (some ad) m c) (hl : news.length = m * size) (hnews : ∀ j u, news[j]? = some u → w.cell? (ad.add j) = some u) (h1 : ∀ u ∈ news, u.oneCell' = true)
    (h63 : n + m ≤ maxLen) (hbytes : (n + m) * bytes ≤ 140737488355328)
    (h : ∀ v' w', w'.ownsRow 0 e size v' (n + m) (xs ++ news) → w.grownBy w' v.ownBlock → (v'.ownBlock = v.ownBlock ∨ ∃ g, v'.ownBlock = some g ∧ w.heap.size ≤ g) → wpList P ops Q rest (a.put o.dst v') w') : wpList P ops Q (o :: rest) a w := by
  refine wpList_plain hgd fun K hK => ?_
  obtain ⟨v', w', hr, h2, h3, h4⟩ := run_append_place (P := P) w t o.type e i z size bytes ht hi hz hsize hby hzs hsz v n xs hown ad m c news hl hnews h1 h63 hbytes
  unfold Oper.wp execOp
  simp only [ho, resolve, invoke, builtin, Sem.run_bind, Sem.run_pure, Result.andThen_ok, List.map_toArray, List.map_cons, List.map_nil, hs, hx, hr]
  exact hK _ _ (h v' w' h2 h3 h4)
end
/-- a slice is the row of these bytes, from its block's head on; an empty one may be nil (then d is whatever it is) -/
def Row (w : World) (d : Nat) (v : Value) (ds : List Nat) : Prop :=
  w.ownsRow 0 5 1 v ds.length (cellsOf ds) ∧ (v.ownBlock = none ∨ v.ownBlock = some d)
theorem Row.nil (w : World) (d : Nat) : Row w d (.slice none 0 0) [] := ⟨World.ownsRow_nil w 0 5 1, .inl rfl⟩
theorem Row.value {w : World} {d : Nat} {v : Value} {ds : List Nat} (h : Row w d v ds) : (v = .slice none 0 0 ∧ ds = []) ∨ ∃ cap cur, v = .slice (some ⟨d, 0, none⟩) ds.length cap ∧ w.heap[d]? = some (.cells cur 5 (0, 0)) ∧ ds.length ≤ cap ∧ cap ≤ maxLen ∧ cur.size = cap ∧ cur.toList.take ds.length = cellsOf ds := by
  obtain ⟨⟨_, h1⟩, h2⟩ := h
  rcases h1 with ⟨hv, hn⟩ | ⟨g, cap, cur, hv, _, hg, hc, hm, hcs, ht⟩
  · exact .inl ⟨hv, List.eq_nil_of_length_eq_zero hn⟩
  · subst hv
    rcases h2 with h2 | h2
    · cases h2
    · simp only [Value.ownBlock, Option.some.injEq] at h2
      subst h2
      exact .inr ⟨cap, cur, rfl, hg, hc, hm, by simpa using hcs, by simpa using ht⟩
theorem Row.mk {w : World} {d cap : Nat} {cur : Array Value} {ds : List Nat} (hg : w.heap[d]? = some (.cells cur 5 (0, 0))) (hc : ds.length ≤ cap) (hm : cap ≤ maxLen) (hs : cur.size = cap) (ht : cur.toList.take ds.length = cellsOf ds) : Row w d (.slice (some ⟨d, 0, none⟩) ds.length cap) ds :=
  ⟨⟨by simp [cellsOf_length], .inr ⟨d, cap, cur, rfl, Nat.zero_le _, hg, hc, hm, by simpa using hs, by simpa using ht⟩⟩, .inr rfl⟩
theorem Row.only {w w' : World} {d : Nat} {v : Value} {ds : List Nat} (h : Row w d v ds) {S : List Nat} (ho : Only S w w') (hd : d ∉ S) : Row w' d v ds := by
  rcases h.value with ⟨rfl, rfl⟩ | ⟨cap, cur, rfl, hg, hc, hm, hs, ht⟩
  · exact Row.nil _ _
  · exact Row.mk ((ho.block d (Array.getElem?_eq_some_iff.1 hg).1 hd).trans hg) hc hm hs ht
theorem Row.below {w w' : World} {d : Nat} {v : Value} {ds : List Nat} (h : Row w d v ds) (ho : Below w.heap.size w w') : Row w' d v ds := h.only (Only.of_below ho []) (by simp)
theorem Row.cell {w : World} {d : Nat} {v : Value} {ds : List Nat} (h : Row w d v ds) (i : Nat) (hi : i < ds.length) : ∃ cap, v = .slice (some ⟨d, 0, none⟩) ds.length cap ∧ ds.length ≤ cap ∧ d < w.heap.size ∧ w.cell? ⟨d, i, none⟩ = some (.int .u8 ((ds[i] : Nat) : Int)) ∧ w.frozen? ⟨d, i, none⟩ = false := by
  rcases h.value with ⟨rfl, rfl⟩ | ⟨cap, cur, rfl, hg, hc, hm, hs, ht⟩
  · simp at hi
  · refine ⟨cap, rfl, hc, (Array.getElem?_eq_some_iff.1 hg).1, ?_, frozen_of_row _ _ _ _ _ hg⟩
    rw [cell_of_row _ _ _ _ _ _ hg, ← Array.getElem?_toList]
    have := congrArg (fun l => l[i]?) ht
    simp only [List.getElem?_take, if_pos hi, cellsOf_get ds i hi] at this
    exact this
theorem Row.len {w : World} {d : Nat} {v : Value} {ds : List Nat} (h : Row w d v ds) : ds.length ≤ maxLen := by
  rcases h.value with ⟨rfl, rfl⟩ | ⟨cap, cur, rfl, hg, hc, hm, hs, ht⟩
  · simp
  · omega
/-- one byte of it is written -/
theorem Row.set {w : World} {d cap : Nat} {a : Option Addr} {ini : List Nat} {c c' : Nat} (h : Row w d (.slice a (ini ++ [c]).length cap) (ini ++ [c])) :
    Row (w.setCell ⟨d, ini.length, none⟩ (.int .u8 (c' : Int))) d (.slice a (ini ++ [c]).length cap) (ini ++ [c']) := by
  rcases h.value with ⟨_, h0⟩ | ⟨cap', cur, hv, hg, hc, hm, hs, ht⟩
  · simp at h0
  · cases hv
    have hl : ini.length < cur.size := by simp at hc; omega
    have e : (ini ++ [c]).length = (ini ++ [c']).length := by simp
    rw [e]
    refine Row.mk (cur := cur.setIfInBounds ini.length (.int .u8 (c' : Int))) (heap_setCell_same _ _ _ _ _ _ hg) (by rw [← e]; exact hc) hm (by simpa using hs) ?_
    rw [Array.toList_setIfInBounds, List.take_set, ← e, ht, cellsOf_append, cellsOf_append]
    rw [List.set_append_right _ _ (by rw [cellsOf_length]; exact Nat.le_refl _), cellsOf_length, Nat.sub_self]
    rfl
theorem info5 : (Try.prog.info? 5).map (fun i => (i.zero, i.size, i.bytes)) = some (some (.int .u8 0), 1, 1) := by kernel_rfl
end Go.Proofs.Ytlegdaoidjpokaa.B2
namespace Go.Proofs.Ytlegdaoidjpokaa.B2
open Go.RowKit
/-- b is behind a: of what was there in a nothing has turned -/
structure Since (a b : World) : Prop where
  out : Below a.heap.size a b
theorem Since.start (a : World) : Since a a.drew := ⟨(Below.refl _ _).drew⟩
theorem Since.next {a b c : World} (h : Since a b) (k : Below b.heap.size b c) : Since a c := ⟨h.out.trans (k.mono h.out.size)⟩
theorem Since.alloc {a b : World} (h : Since a b) (o : Obj) : Since a (b.alloc o) := ⟨h.out.alloc h.out.size o⟩
end Go.Proofs.Ytlegdaoidjpokaa.B2
namespace Go.Proofs.Ytlegdaoidjpokaa.Crc
/-- the bits that the first i rounds turn: those of the change that lie within the text's N bits, from the bit 'f' on -/
def Wm (c f N : Nat) : Nat → Nat
  | 0 => 0
  | i + 1 => if c.testBit i = true ∧ f + i < N then Wm c f N i ^^^ 2 ^ i else Wm c f N i
theorem Wm_lt (c f N : Nat) : ∀ i, Wm c f N i < 2 ^ i
  | 0 => Nat.one_pos
  | i + 1 => by
    have h := Wm_lt c f N i
    have h2 : 2 ^ i < 2 ^ (i + 1) := by rw [Nat.pow_succ]; have := Nat.two_pow_pos i; omega
    unfold Wm
    split
    · exact Nat.xor_lt_two_pow (by omega) h2
    · omega
theorem Wm_yes (c f N i : Nat) (h : c.testBit i = true) (h2 : f + i < N) : Wm c f N (i + 1) = Wm c f N i ^^^ 2 ^ i := by
  show (if c.testBit i = true ∧ f + i < N then _ else _) = _
  rw [if_pos ⟨h, h2⟩]
theorem Wm_no (c f N i : Nat) (h : ¬ (c.testBit i = true ∧ f + i < N)) : Wm c f N (i + 1) = Wm c f N i := by
  show (if c.testBit i = true ∧ f + i < N then _ else _) = _
  rw [if_neg h]
theorem Wm_ne (c f N i : Nat) (h : c.testBit i = true) (h2 : f + i < N) : Wm c f N (i + 1) ≠ 0 := by
  rw [Wm_yes c f N i h h2]
  intro h0
  have h1 : (Wm c f N i ^^^ 2 ^ i).testBit i = false := by rw [h0]; simp
  rw [Nat.testBit_xor, Nat.testBit_lt_two_pow (Wm_lt c f N i), Nat.testBit_two_pow_self] at h1
  cases h1
/-- one round that turns a bit -/
theorem turn (l m : List Nat) (f i w q j : Nat) (hm : m.length = l.length) (h : ∀ r, R r m = R r l ^^^ It (8 * l.length - f) w) (hb : f + i < 8 * l.length) (hj : j < 8) (hqj : 8 * q + j = f + i) (hq : q < m.length) :
    ∀ r, R r (m.set q (m[q] ^^^ 2 ^ j)) = R r l ^^^ It (8 * l.length - f) (w ^^^ 2 ^ i) := by
  intro r
  rw [flip m q j hq hj r, h r, It_xor, Nat.xor_assoc, hm, hqj]
  congr 2
  have e : 8 * l.length - f = i + (8 * l.length - (f + i)) := by omega
  have := It_add i (8 * l.length - (f + i)) (1 * 2 ^ i)
  rw [It_pow, Nat.one_mul] at this
  rw [e, this]
/-- the sums are the same just where nothing was turned -/
theorem told (l m : List Nat) (f w : Nat) (hl : ∀ c ∈ l, c < 4294967296) (hm : ∀ c ∈ m, c < 4294967296) (h : ∀ r, R r m = R r l ^^^ It (8 * l.length - f) w) (hw : w < 4294967296) : More 0 m = More 0 l ↔ w = 0 := by
  unfold More
  have h1 := h (C 0)
  have a1 := R_lt m hm (C 0) (C_lt 0)
  have a2 := R_lt l hl (C 0) (C_lt 0)
  constructor
  · intro e
    have e2 : R (C 0) m = R (C 0) l := by unfold C at e a1 a2 ⊢; omega
    rw [e2] at h1
    have h3 : It (8 * l.length - f) w = 0 := by
      have : R (C 0) l ^^^ (R (C 0) l ^^^ It (8 * l.length - f) w) = R (C 0) l ^^^ R (C 0) l := by rw [← h1]
      rw [← Nat.xor_assoc, Nat.xor_self, Nat.zero_xor] at this
      exact this
    exact It_pos _ _ hw h3
  · rintro rfl
    rw [h1, It_zero, Nat.xor_zero]
end Go.Proofs.Ytlegdaoidjpokaa.Crc
namespace Go.Proofs.Ytlegdaoidjpokaa.Fr
open Crc (R It More C B S)
set_option linter.unusedVariables false
set_option linter.unusedSimpArgs false
/-- k bytes of a number, the lowest first -/
def le : Nat → Nat → List Nat
  | 0, _ => []
  | k + 1, n => n % 256 :: le k (n / 256)
theorem le_len (k n : Nat) : (le k n).length = k := by
  induction k generalizing n with
  | zero => rfl
  | succ k ih => simp [le, ih]
theorem le_lt (k n : Nat) : ∀ c ∈ le k n, c < 256 := by
  induction k generalizing n with
  | zero => intro c hc; simp [le] at hc
  | succ k ih =>
    intro c hc
    rcases List.mem_cons.1 hc with rfl | hc
    · omega
    · exact ih _ c hc
theorem le_inj (k n m : Nat) (hn : n < 256 ^ k) (hm : m < 256 ^ k) (h : le k n = le k m) : n = m := by
  induction k generalizing n m with
  | zero => rw [Nat.pow_zero] at hn hm; omega
  | succ k ih =>
    simp only [le, List.cons.injEq] at h
    rw [Nat.pow_succ] at hn hm
    have := ih (n / 256) (m / 256) (by omega) (by omega) h.2
    omega
theorem low_xor (n : Nat) : n = (n / 256 * 2 ^ 8) ^^^ (n % 256) := by
  have h1 := Nat.two_pow_add_eq_or_of_lt (b := n % 256) (i := 8) (by omega) (n / 256)
  have h2 : (2 ^ 8 * (n / 256)) ^^^ (n % 256) = 2 ^ 8 * (n / 256) + n % 256 := by
    apply Nat.eq_of_testBit_eq
    intro i
    rw [h1, Nat.testBit_xor, Nat.testBit_or]
    by_cases hi : i < 8
    · have : (2 ^ 8 * (n / 256)).testBit i = false := by rw [Nat.testBit_two_pow_mul]; simp; omega
      rw [this]; simp
    · have : (n % 256).testBit i = false := Nat.testBit_lt_two_pow (Nat.lt_of_lt_of_le (show n % 256 < 2 ^ 8 by omega) (Nat.pow_le_pow_right (by decide) (by omega)))
      rw [this]; simp
  rw [Nat.mul_comm, h2]; omega
theorem R_le (k n r : Nat) (hn : n < 256 ^ k) : R r (le k n) = It (8 * k) (r ^^^ n) := by
  induction k generalizing n r with
  | zero => rw [Nat.pow_zero] at hn; obtain rfl : n = 0 := by omega
            simp [le, R, It]
  | succ k ih =>
    show R (B r (n % 256)) (le k (n / 256)) = _
    rw [Nat.pow_succ] at hn
    rw [ih _ _ (by omega), show 8 * (k + 1) = 8 + 8 * k by omega, Crc.It_add]
    congr 1
    conv => rhs; rw [low_xor n]
    have e : r ^^^ (n / 256 * 2 ^ 8 ^^^ n % 256) = (r ^^^ n % 256) ^^^ (n / 256 * 2 ^ 8) := by
      rw [Nat.xor_comm (n / 256 * 2 ^ 8), Nat.xor_assoc]
    rw [e, Crc.It_xor, Crc.It_pow]
    rfl
/-- behind its own sum each text has the same one -/
theorem residue (l : List Nat) (hl : ∀ c ∈ l, c < 4294967296) : More 0 (l ++ le 4 (More 0 l)) = C (It 32 4294967295) := by
  unfold More
  congr 1
  have h1 := Crc.R_lt l hl (C 0) (Crc.C_lt 0)
  rw [Crc.R_append, R_le 4 _ _ (Crc.C_lt _)]
  congr 1
  rw [Crc.C_xor _ h1, ← Nat.xor_assoc, Nat.xor_self, Nat.zero_xor]
/-! a sector -/
def head (kind seg at' len : Nat) : List Nat := [66, 76, kind, 0] ++ (le 4 seg ++ (le 2 at' ++ le 2 len))
def data (kind seg at' : Nat) (pc : List Nat) : List Nat := head kind seg at' pc.length ++ (pc ++ List.replicate (240 - pc.length) 0)
def sec (kind seg at' : Nat) (pc : List Nat) : List Nat := data kind seg at' pc ++ le 4 (More 0 (data kind seg at' pc))
theorem head_len (kind seg at' len : Nat) : (head kind seg at' len).length = 12 := by simp [head, le_len]
theorem data_len (kind seg at' : Nat) (pc : List Nat) (h : pc.length ≤ 240) : (data kind seg at' pc).length = 252 := by
  simp only [data, List.length_append, head_len, List.length_replicate]; omega
theorem sec_len (kind seg at' : Nat) (pc : List Nat) (h : pc.length ≤ 240) : (sec kind seg at' pc).length = 256 := by
  simp only [sec, List.length_append, data_len _ _ _ _ h, le_len]
theorem head_lt (kind seg at' len : Nat) (hk : kind < 256) : ∀ c ∈ head kind seg at' len, c < 256 := by
  intro c hc
  simp only [head, List.mem_append, List.mem_cons, List.not_mem_nil, or_false] at hc
  rcases hc with (h | h | h | h) | h | h | h
  · omega
  · omega
  · omega
  · omega
  · exact le_lt _ _ c h
  · exact le_lt _ _ c h
  · exact le_lt _ _ c h
theorem data_lt (kind seg at' : Nat) (pc : List Nat) (hk : kind < 256) (hp : ∀ c ∈ pc, c < 256) : ∀ c ∈ data kind seg at' pc, c < 256 := by
  intro c hc
  simp only [data, List.mem_append] at hc
  rcases hc with h | h | h
  · exact head_lt _ _ _ _ hk c h
  · exact hp c h
  · rw [List.eq_of_mem_replicate h]; omega
theorem sec_lt (kind seg at' : Nat) (pc : List Nat) (hk : kind < 256) (hp : ∀ c ∈ pc, c < 256) : ∀ c ∈ sec kind seg at' pc, c < 256 := by
  intro c hc
  simp only [sec, List.mem_append] at hc
  rcases hc with h | h
  · exact data_lt _ _ _ _ hk hp c h
  · exact le_lt _ _ c h
theorem sec_res (kind seg at' : Nat) (pc : List Nat) (hk : kind < 256) (hp : ∀ c ∈ pc, c < 256) : More 0 (sec kind seg at' pc) = C (It 32 4294967295) :=
  residue _ (fun c hc => by have := data_lt kind seg at' pc hk hp c hc; omega)
/-- the sector, cell by cell ahead of the piece -/
theorem sec_cons (kind seg at' : Nat) (pc : List Nat) : ∃ tl, sec kind seg at' pc = 66 :: 76 :: kind :: 0 :: seg % 256 :: seg / 256 % 256 :: seg / 256 / 256 % 256 :: seg / 256 / 256 / 256 % 256 :: at' % 256 :: at' / 256 % 256 :: pc.length % 256 :: pc.length / 256 % 256 :: (pc ++ tl) :=
  ⟨List.replicate (240 - pc.length) 0 ++ le 4 (More 0 (data kind seg at' pc)), by simp [sec, data, head, le]⟩
theorem sec_inj {k k' s s' a a' : Nat} {p p' : List Nat} (hs : s < 4294967296) (hs' : s' < 4294967296) (ha : a < 65536) (ha' : a' < 65536) (hp : p.length ≤ 240) (hp' : p'.length ≤ 240) (h : sec k s a p = sec k' s' a' p') : k = k' ∧ s = s' ∧ a = a' ∧ p = p' := by
  obtain ⟨t, e⟩ := sec_cons k s a p
  obtain ⟨t', e'⟩ := sec_cons k' s' a' p'
  rw [e, e'] at h
  simp only [List.cons.injEq, true_and] at h
  obtain ⟨h1, h2, h3, h4, h5, h6, h7, h8, h9, h10⟩ := h
  have hl : p.length = p'.length := by omega
  refine ⟨h1, by omega, by omega, (List.append_inj h10 hl).1⟩
/-! a sector read -/
def kinds (k : Nat) : Nat := if k = 1 ∨ k = 2 ∨ k = 4 then k else 3
def sizeOk (k n : Nat) : Bool := if k = 2 ∨ k = 3 then n == 240 else k == 1 || decide (0 < n)
def readS (seg at' : Nat) (s : List Nat) : Option (Nat × List Nat) :=
  if s.length = 256 ∧ at' ≤ 65535 ∧ s.getD 10 0 + 256 * s.getD 11 0 ≤ 240 then
    if sizeOk (kinds (s.getD 2 0)) (s.getD 10 0 + 256 * s.getD 11 0) = true ∧ s = sec (kinds (s.getD 2 0)) seg at' ((s.drop 12).take (s.getD 10 0 + 256 * s.getD 11 0)) then
      some (kinds (s.getD 2 0), (s.drop 12).take (s.getD 10 0 + 256 * s.getD 11 0)) else none
  else none
theorem kinds_is (k : Nat) : kinds k = 1 ∨ kinds k = 2 ∨ kinds k = 3 ∨ kinds k = 4 := by unfold kinds; split <;> omega
theorem kinds_same (k : Nat) (h : k = 1 ∨ k = 2 ∨ k = 3 ∨ k = 4) : kinds k = k := by unfold kinds; split <;> omega
theorem readS_some {seg at' : Nat} {s : List Nat} {k : Nat} {pc : List Nat} (h : readS seg at' s = some (k, pc)) : s = sec k seg at' pc ∧ pc.length ≤ 240 ∧ sizeOk k pc.length = true ∧ at' ≤ 65535 ∧ (k = 1 ∨ k = 2 ∨ k = 3 ∨ k = 4) := by
  unfold readS at h
  split at h
  case isFalse => cases h
  case isTrue h1 =>
    split at h
    case isFalse => cases h
    case isTrue h2 =>
      injection h with h
      injection h with h3 h4
      subst h3
      have hl : pc.length = s.getD 10 0 + 256 * s.getD 11 0 := by
        rw [← h4, List.length_take, List.length_drop]; omega
      rw [← hl] at h2 h1
      refine ⟨?_, by omega, h2.1, h1.2.1, kinds_is _⟩
      have := h2.2
      rw [hl, h4] at this
      exact this
theorem readS_sec {k seg at' : Nat} {pc : List Nat} (hk : k = 1 ∨ k = 2 ∨ k = 3 ∨ k = 4) (ha : at' ≤ 65535) (hp : pc.length ≤ 240) (hs : sizeOk k pc.length = true) : readS seg at' (sec k seg at' pc) = some (k, pc) := by
  obtain ⟨t, e⟩ := sec_cons k seg at' pc
  have e10 : (sec k seg at' pc).getD 10 0 = pc.length % 256 := by rw [e]; rfl
  have e11 : (sec k seg at' pc).getD 11 0 = pc.length / 256 % 256 := by rw [e]; rfl
  have e2 : (sec k seg at' pc).getD 2 0 = k := by rw [e]; rfl
  have en : pc.length % 256 + 256 * (pc.length / 256 % 256) = pc.length := by omega
  have ed : ((sec k seg at' pc).drop 12).take pc.length = pc := by rw [e]; simp
  unfold readS
  rw [e10, e11, e2, en, ed, kinds_same k hk, if_pos ⟨sec_len _ _ _ _ hp, ha, hp⟩, if_pos ⟨hs, rfl⟩]
/-! records -/
def recS (seg : Nat) : List (List Nat) → Nat → Bool → List Nat → Option (List Nat × Nat)
  | [], _, _, _ => none
  | s :: rest, at', first, acc => match readS seg at' s with
    | none => none
    | some (k, pc) => if (decide (k = 1 ∨ k = 2)) ≠ first ∨ 7680 < acc.length + pc.length then none
      else if k = 1 ∨ k = 4 then some (acc ++ pc, 1) else (recS seg rest (at' + 1) false (acc ++ pc)).map fun x => (x.1, x.2 + 1)
theorem recS_pos {seg : Nat} {l : List (List Nat)} {at' : Nat} {first : Bool} {acc r : List Nat} {n : Nat} (h : recS seg l at' first acc = some (r, n)) : 0 < n ∧ n ≤ l.length := by
  induction l generalizing at' first acc r n with
  | nil => cases h
  | cons s rest ih =>
    unfold recS at h
    split at h
    · cases h
    · split at h
      · cases h
      · split at h
        · injection h with h; injection h with h1 h2; subst h2; simp
        · cases he : recS seg rest (at' + 1) false _ with
          | none => rw [he] at h; cases h
          | some y =>
            rw [he] at h
            obtain ⟨a, b⟩ := y
            simp only [Option.map_some, Option.some.injEq, Prod.mk.injEq] at h
            have := ih he
            simp; omega
/-- what stands at the beginning: at most 'fuel' records -/
def scanS (seg : Nat) : Nat → List (List Nat) → Nat → List (List Nat) × Nat
  | 0, _, _ => ([], 0)
  | fuel + 1, l, at' => match recS seg l at' true [] with
    | none => ([], 0)
    | some (r, n) => (r :: (scanS seg fuel (l.drop n) (at' + n)).1, n + (scanS seg fuel (l.drop n) (at' + n)).2)
def scan (seg : Nat) (l : List (List Nat)) : List (List Nat) × Nat := scanS seg (l.length + 1) l 0
theorem scanS_fuel (seg f g : Nat) (l : List (List Nat)) (at' : Nat) (hf : l.length < f) (hg : l.length < g) : scanS seg f l at' = scanS seg g l at' := by
  induction f generalizing g l at' with
  | zero => omega
  | succ f ih =>
    cases g with
    | zero => omega
    | succ g =>
      unfold scanS
      cases h : recS seg l at' true [] with
      | none => rfl
      | some y =>
        obtain ⟨r, n⟩ := y
        have hn := recS_pos h
        simp only
        rw [ih g (l.drop n) (at' + n) (by rw [List.length_drop]; omega) (by rw [List.length_drop]; omega)]
/-! a record cut -/
def need (n : Nat) : Nat := max 1 ((n + 239) / 240)
def kindOf (i n : Nat) : Nat := if n = 1 then 1 else if i = 0 then 2 else if i + 1 = n then 4 else 3
def part (r : List Nat) (i : Nat) : List Nat := (r.drop (i * 240)).take 240
def cutS (seg at' : Nat) (r : List Nat) : List (List Nat) := (List.range (need r.length)).map fun i => sec (kindOf i (need r.length)) seg (at' + i) (part r i)
theorem cutS_len (seg at' : Nat) (r : List Nat) : (cutS seg at' r).length = need r.length := by simp [cutS]
theorem part_len (r : List Nat) (i : Nat) : (part r i).length = min 240 (r.length - i * 240) := by simp [part]
theorem part_size (r : List Nat) (i : Nat) (hi : i < need r.length) : sizeOk (kindOf i (need r.length)) (part r i).length = true := by
  have hl := part_len r i
  generalize (part r i).length = n at hl ⊢
  unfold sizeOk kindOf
  by_cases h1 : need r.length = 1
  · simp [h1]
  · by_cases h2 : i = 0
    · have : n = 240 := by unfold need at *; omega
      simp [h1, h2, this]
    · by_cases h3 : i + 1 = need r.length
      · have : 0 < n := by unfold need at *; omega
        simp [h1, h2, h3, this]
      · have : n = 240 := by unfold need at *; omega
        simp [h1, h2, h3, this]
theorem kindOf_is (i n : Nat) : kindOf i n = 1 ∨ kindOf i n = 2 ∨ kindOf i n = 3 ∨ kindOf i n = 4 := by unfold kindOf; split <;> (try split) <;> (try split) <;> omega
theorem part_more (r : List Nat) (i : Nat) : r.take (i * 240) ++ part r i = r.take ((i + 1) * 240) := by
  unfold part
  rw [show (i + 1) * 240 = i * 240 + 240 by omega, List.take_add]
/-- the rest of a record that is cut, from the piece i on -/
theorem recS_cut (seg at0 : Nat) (r : List Nat) (hr : r.length ≤ 7680) (rest : List (List Nat)) (m i : Nat) (hm : m = need r.length - i) (hi : i < need r.length) (ha : at0 + need r.length ≤ 65536) :
    recS seg (((List.range (need r.length)).map fun i => sec (kindOf i (need r.length)) seg (at0 + i) (part r i)).drop i ++ rest) (at0 + i) (decide (i = 0)) (r.take (i * 240)) = some (r, need r.length - i) := by
  induction m generalizing i with
  | zero => omega
  | succ m ih =>
    have hd : ((List.range (need r.length)).map fun i => sec (kindOf i (need r.length)) seg (at0 + i) (part r i)).drop i = sec (kindOf i (need r.length)) seg (at0 + i) (part r i) :: ((List.range (need r.length)).map fun i => sec (kindOf i (need r.length)) seg (at0 + i) (part r i)).drop (i + 1) := by
      rw [List.drop_eq_getElem_cons (by simpa using hi)]
      simp
    rw [hd, List.cons_append]
    unfold recS
    rw [readS_sec (kindOf_is _ _) (by omega) (by rw [part_len]; omega) (part_size r i hi)]
    simp only
    have h1 : ¬ (decide (kindOf i (need r.length) = 1 ∨ kindOf i (need r.length) = 2) ≠ decide (i = 0) ∨ 7680 < (r.take (i * 240)).length + (part r i).length) := by
      rw [← List.length_append, part_more, List.length_take]
      rintro (h | h)
      · apply h
        unfold kindOf need at *
        split <;> (try split) <;> (try split) <;> simp <;> omega
      · omega
    rw [if_neg h1, part_more]
    by_cases h2 : i + 1 = need r.length
    · have hk : kindOf i (need r.length) = 1 ∨ kindOf i (need r.length) = 4 := by unfold kindOf; split <;> (try split) <;> (try split) <;> omega
      rw [if_pos hk, List.take_of_length_le (by unfold need at h2; omega)]
      congr 2
      omega
    · have hk : ¬ (kindOf i (need r.length) = 1 ∨ kindOf i (need r.length) = 4) := by unfold kindOf; split <;> (try split) <;> (try split) <;> omega
      rw [if_neg hk]
      have := ih (i + 1) (by omega) (by omega)
      rw [show decide (i + 1 = 0) = false by simp] at this
      rw [show at0 + i + 1 = at0 + (i + 1) by omega, this]
      simp only [Option.map_some]
      congr 2
      omega
theorem recS_split (seg at0 : Nat) (r : List Nat) (hr : r.length ≤ 7680) (rest : List (List Nat)) (ha : at0 + need r.length ≤ 65536) : recS seg (cutS seg at0 r ++ rest) at0 true [] = some (r, need r.length) := by
  have := recS_cut seg at0 r hr rest _ 0 rfl (by unfold need; omega) ha
  simpa [cutS] using this
end Go.Proofs.Ytlegdaoidjpokaa.Fr
