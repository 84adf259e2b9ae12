/-
  THE PLAIN MATHEMATICS OF A RUN OF 32 BITS: what is turned, as one number; the register moves by that number, stepped to the text's end.
-/
import Derived.Test.YtniajoocpnhhgaaMath
namespace Go.Proofs.Ytniajoocpnhhgaa.Crc
/-- the bits that the first i rounds turn: those of the change that lie within the text's N bits, from the bit 'f' on -/
def Wm (c f N : Nat) : Nat → Nat
  | 0 => 0
  | i + 1 => if c.testBit i = true ∧ f + i < N then Wm c f N i ^^^ 2 ^ i else Wm c f N i
theorem Wm_lt (c f N : Nat) : ∀ i, Wm c f N i < 2 ^ i
  | 0 => Nat.one_pos
  | i + 1 => by
    have h := Wm_lt c f N i
    have h2 : 2 ^ i < 2 ^ (i + 1) := by rw [Nat.pow_succ]; have := Nat.two_pow_pos i; omega
    unfold Wm
    split
    · exact Nat.xor_lt_two_pow (by omega) h2
    · omega
theorem Wm_yes (c f N i : Nat) (h : c.testBit i = true) (h2 : f + i < N) : Wm c f N (i + 1) = Wm c f N i ^^^ 2 ^ i := by
  show (if c.testBit i = true ∧ f + i < N then _ else _) = _
  rw [if_pos ⟨h, h2⟩]
theorem Wm_no (c f N i : Nat) (h : ¬ (c.testBit i = true ∧ f + i < N)) : Wm c f N (i + 1) = Wm c f N i := by
  show (if c.testBit i = true ∧ f + i < N then _ else _) = _
  rw [if_neg h]
theorem Wm_ne (c f N i : Nat) (h : c.testBit i = true) (h2 : f + i < N) : Wm c f N (i + 1) ≠ 0 := by
  rw [Wm_yes c f N i h h2]
  intro h0
  have h1 : (Wm c f N i ^^^ 2 ^ i).testBit i = false := by rw [h0]; simp
  rw [Nat.testBit_xor, Nat.testBit_lt_two_pow (Wm_lt c f N i), Nat.testBit_two_pow_self] at h1
  cases h1
/-- one round that turns a bit -/
theorem turn (l m : List Nat) (f i w q j : Nat) (hm : m.length = l.length) (h : ∀ r, R r m = R r l ^^^ It (8 * l.length - f) w) (hb : f + i < 8 * l.length) (hj : j < 8) (hqj : 8 * q + j = f + i) (hq : q < m.length) :
    ∀ r, R r (m.set q (m[q] ^^^ 2 ^ j)) = R r l ^^^ It (8 * l.length - f) (w ^^^ 2 ^ i) := by
  intro r
  rw [flip m q j hq hj r, h r, It_xor, Nat.xor_assoc, hm, hqj]
  congr 2
  have e : 8 * l.length - f = i + (8 * l.length - (f + i)) := by omega
  have := It_add i (8 * l.length - (f + i)) (1 * 2 ^ i)
  rw [It_pow, Nat.one_mul] at this
  rw [e, this]
/-- the sums are the same just where nothing was turned -/
theorem told (l m : List Nat) (f w : Nat) (hl : ∀ c ∈ l, c < 4294967296) (hm : ∀ c ∈ m, c < 4294967296) (h : ∀ r, R r m = R r l ^^^ It (8 * l.length - f) w) (hw : w < 4294967296) : More 0 m = More 0 l ↔ w = 0 := by
  unfold More
  have h1 := h (C 0)
  have a1 := R_lt m hm (C 0) (C_lt 0)
  have a2 := R_lt l hl (C 0) (C_lt 0)
  constructor
  · intro e
    have e2 : R (C 0) m = R (C 0) l := by unfold C at e a1 a2 ⊢; omega
    rw [e2] at h1
    have h3 : It (8 * l.length - f) w = 0 := by
      have : R (C 0) l ^^^ (R (C 0) l ^^^ It (8 * l.length - f) w) = R (C 0) l ^^^ R (C 0) l := by rw [← h1]
      rw [← Nat.xor_assoc, Nat.xor_self, Nat.zero_xor] at this
      exact this
    exact It_pos _ _ hw h3
  · rintro rfl
    rw [h1, It_zero, Nat.xor_zero]
end Go.Proofs.Ytniajoocpnhhgaa.Crc
