/-
  WALKS of the checksum's own functions.
-/
import Derived.Test.YtniajoocpnhhgaaProg
import Derived.Test.YtniajoocpnhhgaaMath
import Derived.WalkKit
import Derived.WalkSpells
import Derived.WalkLawsBesides
import Derived.Lib.Hide
import Derived.Laws.BitsAllLaws
namespace Go.Proofs.Ytniajoocpnhhgaa
open Go.RowKit

theorem and1_odd (n : Nat) (h : n < 4294967296) (ho : n % 2 = 1) : bits .and .u32 (n : Int) 1 = 1 := by
  have := u32_and_nat n 1 h (by decide)
  rw [nat_mask1, ho] at this
  exact this
theorem and1_even (n : Nat) (h : n < 4294967296) (ho : n % 2 = 0) : bits .and .u32 (n : Int) 1 = 0 := by
  have := u32_and_nat n 1 h (by decide)
  rw [nat_mask1, ho] at this
  exact this
theorem and15 (n : Nat) (h : n < 4294967296) : bits .and .u32 (n : Int) 15 = ((n % 16 : Nat) : Int) := by
  have := u32_and_nat n 15 h (by decide)
  rw [nat_mask4] at this
  exact this
theorem ret_u32 {a b : Int} (h : a = b) : Ending.returned (.int .u32 a) = .returned (.int .u32 b) := by rw [h]
theorem xor_poly (n : Nat) (h : n < 4294967296) : bits .xor .u32 ((n : Int) / 2) 2197175160 = ((n / 2 ^^^ 2197175160 : Nat) : Int) := by
  have := u32_xor_nat (n / 2) 2197175160 (by omega) (by decide)
  rw [← this]; rfl
/-- 'crc.step': one bit -/
theorem step_any (n : Nat) (h : n < 4294967296) (w : World) :
    Calls Try.prog 17 #[.int .u32 n] w fun e w' => e = .returned (.int .u32 (Crc.S n : Nat)) ∧ w = w' := by
  have ho : n % 2 = 1 ∨ n % 2 = 0 := by omega
  rcases ho with ho | ho
  · have e1 := and1_odd n h ho
    have HO := Lib.hid ho
    clear ho
    go_enter Try.func17, Try.ntmps17
    go_wp2
    go_ret
    exact ⟨ret_u32 (by rw [Crc.S_odd n HO.out]; exact xor_poly n h), rfl⟩
  · have e1 := and1_even n h ho
    have HO := Lib.hid ho
    clear ho
    go_enter Try.func17, Try.ntmps17
    go_wp2
    go_ret
    exact ⟨ret_u32 (by rw [Crc.S_even n HO.out]; rfl), rfl⟩
/-- what the table of half bytes holds, as memory -/
def Tab (w : World) (b : Nat) : Prop := ∀ j : Nat, j < 16 → w.cell? ⟨b, j, none⟩ = some (.int .u32 (Crc.It 4 j : Nat))
theorem Tab.below {w w' : World} {b : Nat} {B : Nat} (h : Tab w b) (hb : Below B w w') (hB : b < B) : Tab w' b := fun j hj => (hb.cell (p := ⟨b, j, none⟩) hB).trans (h j hj)
/-- 'crc.fourSteps': half a byte -/
theorem four_any (n b : Nat) (h : n < 4294967296) (w : World) (hT : Tab w b) :
    Calls Try.prog 15 #[.pointer (some ⟨b, 0, none⟩), .int .u32 n] w fun e w' => e = .returned (.int .u32 (Crc.It 4 n : Nat)) ∧ w = w' := by
  have e1 := and15 n h
  have hc := hT (n % 16) (by omega)
  have hl : n % 16 < 16 := by omega
  clear hT
  go_enter Try.func15, Try.ntmps15
  go_wp2
  go_ret
  exact ⟨ret_u32 (by
    rw [Crc.four n]
    have := u32_xor_nat (n / 16) (Crc.It 4 (n % 16)) (by omega) (Crc.It_lt 4 _ (by omega))
    rw [← this]; rfl), rfl⟩
end Go.Proofs.Ytniajoocpnhhgaa
