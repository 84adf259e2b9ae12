/-
  WALKS: the order of all bits; whole numbers; what is known.
-/
import Derived.Test.YtffohkpohgkglaaGreatWalkD
namespace Go.Proofs.YtffohkpohgkglaaGreat
set_option linter.unusedVariables false
set_option linter.unusedSimpArgs false
open Go.RowKit
open Ieee
theorem not_bits (a : Nat) (h : a < 2 ^ 64) : bits .xor .u64 IntKind.u64.max (a : Int) = ((2 ^ 64 - 1 - a : Nat) : Int) := by
  rw [show IntKind.u64.max = ((18446744073709551615 : Nat) : Int) from rfl, u64_xor_nat 18446744073709551615 a (by decide) (by omega)]
  congr 1
  have h2 : (BitVec.allOnes 64 ^^^ BitVec.ofNat 64 a).toNat = 18446744073709551615 ^^^ a := by
    rw [BitVec.toNat_xor, BitVec.toNat_allOnes, BitVec.toNat_ofNat, Nat.mod_eq_of_lt h]
  rw [← h2, BitVec.allOnes_xor, BitVec.toNat_not, BitVec.toNat_ofNat, Nat.mod_eq_of_lt h]
theorem or_bits (a : Nat) (h : a < 2 ^ 63) : bits .or .u64 (a : Int) 9223372036854775808 = ((a + 2 ^ 63 : Nat) : Int) := by
  have := u64_or_nat a 9223372036854775808 (by omega) (by decide)
  rw [show ((9223372036854775808 : Nat) : Int) = 9223372036854775808 from rfl] at this
  rw [this, Nat.or_comm, nat_join 63 9223372036854775808 a (by decide) h, Nat.add_comm]
theorem rising_lt (a : Nat) (h : a < 2 ^ 64) : Nm.rising a < 2 ^ 64 := by
  unfold Nm.rising Nm.neg
  split
  · omega
  · simp at *; omega
/-- a whole number's bits -/
def dInt (n : Int) : Nat := Nm.round (decide (n < 0)) n.natAbs 0 false
theorem int_bits (n : Int) : floatOfInt .f64 n = dInt n := by
  unfold dInt
  rw [Nm.round_eq]
  rfl
theorem ok_int (n : Int) : Nm.Ok (dInt n) := Nm.ok_round _ _ _ _
theorem int_any (n : Int) (w : World) : Calls Tryz.prog 47 #[.int .i64 n] w fun e w' => e = .returned (.int .u64 ((dInt n) : Nat)) ∧ w' = w := by
  have ho := ok_int n
  have h := int_bits n
  obtain ⟨x, hx⟩ : ∃ x, dInt n = x := ⟨_, rfl⟩
  rw [hx] at ho h ⊢
  have HO := Lib.hid ho
  clear ho hx
  go_enter Tryz.func47, Tryz.ntmps47
  go_wp2_with fail
  refine (number_any x HO.out.1 _).mono ?_
  rintro e w1 ⟨rfl, rfl⟩
  go_wp2
  go_ret
  rw [Nm.tidy_ok HO.out]
  exact ⟨rfl, rfl⟩
end Go.Proofs.YtffohkpohgkglaaGreat
