/-
  WALKS: the order of all bits; whole numbers; what is known.
-/
import Derived.Test.YtlklnmoecagjmaaWalkD
namespace Go.Proofs.Ytlklnmoecagjmaa
set_option linter.unusedVariables false
set_option linter.unusedSimpArgs false
open Go.RowKit
open Ieee
theorem isnan124_any (a : Nat) (w : World) : Calls Try.prog 124 #[.int .u64 (a : Int)] w fun e w' => e = .returned (.bool false) ∧ w' = w := by
  have h : (((a : Int)) != (a : Int)) = false := by simp
  go_enter Try.func124, Try.ntmps124
  go_wp2
  go_ret
  exact ⟨rfl, rfl⟩
theorem compare_any (a b : Nat) (w : World) : Calls Try.prog 89 #[.int .u64 (a : Int), .int .u64 (b : Int)] w fun e w' => e = .returned (.int .i64 (Nm.cmpN a b)) ∧ w' = w := by
  rcases Nat.lt_trichotomy a b with h | h | h
  · have e1 : Nm.cmpN a b = -1 := by unfold Nm.cmpN; rw [if_pos h]
    have d1 : decide (a < b) = true := by simpa using h
    rw [e1]
    clear e1 h
    go_enter Try.func89, Try.ntmps89
    go_wp2_with fail
    refine (isnan124_any a _).mono ?_
    rintro e w1 ⟨rfl, rfl⟩
    go_wp2_with fail
    refine (isnan124_any b _).mono ?_
    rintro e w1 ⟨rfl, rfl⟩
    go_wp2
    go_ret
    exact ⟨rfl, rfl⟩
  · have e1 : Nm.cmpN a b = 0 := by unfold Nm.cmpN; rw [if_neg (by omega), if_neg (by omega)]
    have d1 : decide (a < b) = false := by simp; omega
    have d2 : decide (b < a) = false := by simp; omega
    rw [e1]
    clear e1 h
    go_enter Try.func89, Try.ntmps89
    go_wp2_with fail
    refine (isnan124_any a _).mono ?_
    rintro e w1 ⟨rfl, rfl⟩
    go_wp2_with fail
    refine (isnan124_any b _).mono ?_
    rintro e w1 ⟨rfl, rfl⟩
    go_wp2
    go_ret
    exact ⟨rfl, rfl⟩
  · have e1 : Nm.cmpN a b = 1 := by unfold Nm.cmpN; rw [if_neg (by omega), if_pos h]
    have d1 : decide (a < b) = false := by simp; omega
    have d2 : decide (b < a) = true := by simpa using h
    rw [e1]
    clear e1 h
    go_enter Try.func89, Try.ntmps89
    go_wp2_with fail
    refine (isnan124_any a _).mono ?_
    rintro e w1 ⟨rfl, rfl⟩
    go_wp2_with fail
    refine (isnan124_any b _).mono ?_
    rintro e w1 ⟨rfl, rfl⟩
    go_wp2
    go_ret
    exact ⟨rfl, rfl⟩
theorem not_bits (a : Nat) (h : a < 2 ^ 64) : bits .xor .u64 IntKind.u64.max (a : Int) = ((2 ^ 64 - 1 - a : Nat) : Int) := by
  rw [show IntKind.u64.max = ((18446744073709551615 : Nat) : Int) from rfl, u64_xor_nat 18446744073709551615 a (by decide) (by omega)]
  congr 1
  have h2 : (BitVec.allOnes 64 ^^^ BitVec.ofNat 64 a).toNat = 18446744073709551615 ^^^ a := by
    rw [BitVec.toNat_xor, BitVec.toNat_allOnes, BitVec.toNat_ofNat, Nat.mod_eq_of_lt h]
  rw [← h2, BitVec.allOnes_xor, BitVec.toNat_not, BitVec.toNat_ofNat, Nat.mod_eq_of_lt h]
theorem or_bits (a : Nat) (h : a < 2 ^ 63) : bits .or .u64 (a : Int) 9223372036854775808 = ((a + 2 ^ 63 : Nat) : Int) := by
  have := u64_or_nat a 9223372036854775808 (by omega) (by decide)
  rw [show ((9223372036854775808 : Nat) : Int) = 9223372036854775808 from rfl] at this
  rw [this, Nat.or_comm, nat_join 63 9223372036854775808 a (by decide) h, Nat.add_comm]
theorem rising_lt (a : Nat) (h : a < 2 ^ 64) : Nm.rising a < 2 ^ 64 := by
  unfold Nm.rising Nm.neg
  split
  · omega
  · simp at *; omega
theorem rising_any (a : Nat) (ha : a < 2 ^ 64) (w : World) : Calls Try.prog 90 #[.int .u64 (a : Int)] w fun e w' => e = .returned (.int .u64 (Nm.rising a : Nat)) ∧ w' = w := by
  have HA := Lib.hid ha
  cases hn : Nm.neg a
  · have h : bits .or .u64 (a : Int) 9223372036854775808 = ((Nm.rising a : Nat) : Int) := by
      rw [or_bits a (by unfold Nm.neg at hn; simp at hn; omega)]
      unfold Nm.rising
      rw [hn]; rfl
    clear ha
    go_enter Try.func90, Try.ntmps90
    go_wp2_with fail
    refine (sign_any a HA.out _).mono ?_
    rintro e w1 ⟨rfl, rfl⟩
    rw [hn]
    go_wp2
    go_ret
    exact ⟨rfl, rfl⟩
  · have h : bits .xor .u64 IntKind.u64.max (a : Int) = ((Nm.rising a : Nat) : Int) := by
      rw [not_bits a ha]
      unfold Nm.rising
      rw [hn]; rfl
    clear ha
    go_enter Try.func90, Try.ntmps90
    go_wp2_with fail
    refine (sign_any a HA.out _).mono ?_
    rintro e w1 ⟨rfl, rfl⟩
    rw [hn]
    go_wp2
    go_ret
    exact ⟨rfl, rfl⟩
theorem order_any (a b : Nat) (ha : a < 2 ^ 64) (hb : b < 2 ^ 64) (w : World) : Calls Try.prog 32 #[.int .u64 (a : Int), .int .u64 (b : Int)] w fun e w' => e = .returned (.int .i64 (Nm.dOrder a b)) ∧ w' = w := by
  have HA := Lib.hid ha
  have HB := Lib.hid hb
  have ra := rising_lt a ha
  have rb := rising_lt b hb
  cases n1 : Nm.isNaN a
  · cases n2 : Nm.isNaN b
    · have e1 : Nm.dOrder a b = Nm.cmpN (Nm.rising a) (Nm.rising b) := by
        unfold Nm.dOrder Nm.rank Nm.cmpN
        rw [n1, n2]
        simp only [Bool.false_eq_true, if_false, Nat.add_lt_add_iff_right]
      rw [e1]
      clear e1 ha hb ra rb
      go_enter Try.func32, Try.ntmps32
      go_wp2_with fail
      refine (nannum_any a HA.out _).mono ?_
      rintro e w1 ⟨rfl, rfl⟩
      rw [n1]
      go_wp2_with fail
      refine (nannum_any a HA.out _).mono ?_
      rintro e w1 ⟨rfl, rfl⟩
      rw [n1]
      go_wp2_with fail
      refine (nannum_any b HB.out _).mono ?_
      rintro e w1 ⟨rfl, rfl⟩
      rw [n2]
      go_wp2_with fail
      refine (rising_any a HA.out _).mono ?_
      rintro e w1 ⟨rfl, rfl⟩
      go_wp2_with fail
      refine (rising_any b HB.out _).mono ?_
      rintro e w1 ⟨rfl, rfl⟩
      go_wp2_with fail
      refine (compare_any _ _ _).mono ?_
      rintro e w1 ⟨rfl, rfl⟩
      go_wp2
      go_ret
      exact ⟨rfl, rfl⟩
    · have e1 : Nm.dOrder a b = 1 := by
        have := Nm.rank_nan hb n2 n1
        unfold Nm.dOrder Nm.cmpN
        rw [if_neg (by omega), if_pos this]
      rw [e1]
      clear e1 ha hb ra rb
      go_enter Try.func32, Try.ntmps32
      go_wp2_with fail
      refine (nannum_any a HA.out _).mono ?_
      rintro e w1 ⟨rfl, rfl⟩
      rw [n1]
      go_wp2_with fail
      refine (nannum_any a HA.out _).mono ?_
      rintro e w1 ⟨rfl, rfl⟩
      rw [n1]
      go_wp2_with fail
      refine (nannum_any b HB.out _).mono ?_
      rintro e w1 ⟨rfl, rfl⟩
      rw [n2]
      go_wp2
      go_ret
      exact ⟨rfl, rfl⟩
  · cases n2 : Nm.isNaN b
    · have e1 : Nm.dOrder a b = -1 := Nm.order_nan ha n1 n2
      rw [e1]
      clear e1 ha hb ra rb
      go_enter Try.func32, Try.ntmps32
      go_wp2_with fail
      refine (nannum_any a HA.out _).mono ?_
      rintro e w1 ⟨rfl, rfl⟩
      rw [n1]
      go_wp2_with fail
      refine (nannum_any b HB.out _).mono ?_
      rintro e w1 ⟨rfl, rfl⟩
      rw [n2]
      go_wp2_with fail
      refine (nannum_any a HA.out _).mono ?_
      rintro e w1 ⟨rfl, rfl⟩
      rw [n1]
      go_wp2
      go_ret
      exact ⟨rfl, rfl⟩
    · have e1 : Nm.dOrder a b = Nm.cmpN a b := by
        unfold Nm.dOrder Nm.rank
        rw [n1, n2]; rfl
      rw [e1]
      clear e1 ha hb ra rb
      go_enter Try.func32, Try.ntmps32
      go_wp2_with fail
      refine (nannum_any a HA.out _).mono ?_
      rintro e w1 ⟨rfl, rfl⟩
      rw [n1]
      go_wp2_with fail
      refine (nannum_any b HB.out _).mono ?_
      rintro e w1 ⟨rfl, rfl⟩
      rw [n2]
      go_wp2_with fail
      refine (compare_any _ _ _).mono ?_
      rintro e w1 ⟨rfl, rfl⟩
      go_wp2
      go_ret
      exact ⟨rfl, rfl⟩
/-- a whole number's bits -/
def dInt (n : Int) : Nat := Nm.round (decide (n < 0)) n.natAbs 0 false
theorem int_bits (n : Int) : floatOfInt .f64 n = dInt n := by
  unfold dInt
  rw [Nm.round_eq]
  rfl
theorem ok_int (n : Int) : Nm.Ok (dInt n) := Nm.ok_round _ _ _ _
theorem int_any (n : Int) (w : World) : Calls Try.prog 58 #[.int .i64 n] w fun e w' => e = .returned (.int .u64 ((dInt n) : Nat)) ∧ w' = w := by
  have ho := ok_int n
  have h := int_bits n
  obtain ⟨x, hx⟩ : ∃ x, dInt n = x := ⟨_, rfl⟩
  rw [hx] at ho h ⊢
  have HO := Lib.hid ho
  clear ho hx
  go_enter Try.func58, Try.ntmps58
  go_wp2_with fail
  refine (number_any x HO.out.1 _).mono ?_
  rintro e w1 ⟨rfl, rfl⟩
  go_wp2
  go_ret
  rw [Nm.tidy_ok HO.out]
  exact ⟨rfl, rfl⟩
theorem nan_any (w : World) : Calls Try.prog 60 #[] w fun e w' => e = .returned (.int .u64 (Nm.nan : Nat)) ∧ w' = w := by
  go_enter Try.func60, Try.ntmps60
  go_wp2
  go_ret
  exact ⟨rfl, rfl⟩
end Go.Proofs.Ytlklnmoecagjmaa
