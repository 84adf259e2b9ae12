/-
  WALKS: tests of one number, its sign, comparisons (carried over from the layer below); the document's own.
-/
import Derived.Test.YthhlhiighgnkmaaGreatDoorShZ
import Derived.Test.YthhlhiighgnkmaaGreatDoorRnZ
namespace Go.Proofs.YthhlhiighgnkmaaGreatDoor.Tn
set_option linter.unusedVariables false
set_option linter.unusedSimpArgs false
open Go.RowKit Go.PlainAid
open Ieee
theorem abs_bits (a : Nat) (h : a < 2 ^ 64) : bits .andNot .u64 (a : Int) 9223372036854775808 = ((a % 2 ^ 63 : Nat) : Int) := by
  have := u64_andNot_nat a 9223372036854775808 (by omega) (by decide)
  rw [show ((9223372036854775808 : Nat) : Int) = 9223372036854775808 from rfl] at this
  rw [this]
  congr 1
  exact Nat.and_two_pow_sub_one_eq_mod a 63
theorem sign_bits (a : Nat) (h : a < 2 ^ 64) : bits .and .u64 (a : Int) 9223372036854775808 = (((Nr.neg a).toNat * 2 ^ 63 : Nat) : Int) := by
  have := u64_and_nat a 9223372036854775808 (by omega) (by decide)
  rw [show ((9223372036854775808 : Nat) : Int) = 9223372036854775808 from rfl] at this
  rw [this]
  congr 1
  rw [show (9223372036854775808 : Nat) = 2 ^ 63 from rfl, nat_bit 63 a]
  congr 1
  unfold Nr.neg
  by_cases hn : 2 ^ 63 ≤ a
  · rw [decide_eq_true hn, show Bool.toNat true = 1 from rfl]; omega
  · rw [decide_eq_false hn, show Bool.toNat false = 0 from rfl]; omega
theorem turn_bits (a : Nat) (h : a < 2 ^ 64) (hn : Nr.isNaN a = false) : bits .xor .u64 (a : Int) 9223372036854775808 = ((Nr.dNeg a : Nat) : Int) := by
  have := u64_xor_nat a 9223372036854775808 (by omega) (by decide)
  rw [show ((9223372036854775808 : Nat) : Int) = 9223372036854775808 from rfl] at this
  rw [this]
  congr 1
  have h1 : (a ^^^ 2 ^ 63) % 2 ^ 63 = a % 2 ^ 63 := by rw [Nat.xor_mod_two_pow, Nat.mod_self, Nat.xor_zero]
  have h2 : (a ^^^ 2 ^ 63) / 2 ^ 63 = a / 2 ^ 63 ^^^ 1 := by rw [Nat.xor_div_two_pow, Nat.div_self (by decide)]
  have h3 := Nat.div_add_mod (a ^^^ 2 ^ 63) (2 ^ 63)
  unfold Nr.dNeg Nr.neg
  rw [hn]
  have hq : a / 2 ^ 63 = 0 ∨ a / 2 ^ 63 = 1 := by omega
  show a ^^^ 2 ^ 63 = _
  rcases hq with hq | hq
  · rw [hq] at h2
    rw [show (0 ^^^ 1 : Nat) = 1 from rfl] at h2
    rw [h1, h2] at h3
    simp only [Bool.false_eq_true, if_false, decide_eq_true_eq]
    rw [if_neg (by omega)]; omega
  · rw [hq] at h2
    rw [show (1 ^^^ 1 : Nat) = 0 from rfl] at h2
    rw [h1, h2] at h3
    simp only [Bool.false_eq_true, if_false, decide_eq_true_eq]
    rw [if_pos (by omega)]; omega
theorem nan_test (a : Nat) : decide (9218868437227405312 < ((a % 2 ^ 63 : Nat) : Int)) = Nr.isNaN a := by
  unfold Nr.isNaN Nr.inf
  rw [decide_eq_decide]
  omega
theorem beq_dec (x y : Int) : (x == y) = decide (x = y) := by rw [Bool.eq_iff_iff]; simp
theorem bne_dec (x y : Int) : (x != y) = decide (x ≠ y) := by rw [Bool.eq_iff_iff]; simp
theorem inf_test (a : Nat) : (((a % 2 ^ 63 : Nat) : Int) == 9218868437227405312) = Nr.isInf a := by
  rw [beq_dec]
  unfold Nr.isInf Nr.inf
  rw [decide_eq_decide]
  omega
theorem nought_test (a : Nat) : (((a % 2 ^ 63 : Nat) : Int) == 0) = Nr.nought a := by
  rw [beq_dec]
  unfold Nr.nought
  rw [decide_eq_decide]
  omega
theorem neg_test (a : Nat) : ((((Nr.neg a).toNat * 2 ^ 63 : Nat) : Int) != 0) = Nr.neg a := by
  cases Nr.neg a <;> rfl
theorem nannum_any (a : Nat) (ha : a < 2 ^ 64) (w : World) : Calls Tryz.prog 62 #[.int .u64 (a : Int)] w fun e w' => e = .returned (.bool (Nr.isNaN a)) ∧ w' = w := by
  have h := abs_bits a ha
  have h2 := nan_test a
  obtain ⟨m, hm⟩ : ∃ m, a % 2 ^ 63 = m := ⟨_, rfl⟩
  rw [hm] at h h2
  go_enter Tryz.func62, Tryz.ntmps62
  go_wp2
  go_ret
  exact ⟨rfl, rfl⟩
theorem infnum_any (a : Nat) (ha : a < 2 ^ 64) (w : World) : Calls Tryz.prog 32 #[.int .u64 (a : Int)] w fun e w' => e = .returned (.bool (Nr.isInf a)) ∧ w' = w := by
  have h := abs_bits a ha
  have h2 := inf_test a
  obtain ⟨m, hm⟩ : ∃ m, a % 2 ^ 63 = m := ⟨_, rfl⟩
  rw [hm] at h h2
  go_enter Tryz.func32, Tryz.ntmps32
  go_wp2
  go_ret
  exact ⟨rfl, rfl⟩
theorem sign_any (a : Nat) (ha : a < 2 ^ 64) (w : World) : Calls Tryz.prog 110 #[.int .u64 (a : Int)] w fun e w' => e = .returned (.bool (Nr.neg a)) ∧ w' = w := by
  have h := sign_bits a ha
  have h2 := neg_test a
  obtain ⟨m, hm⟩ : ∃ m, (Nr.neg a).toNat * 2 ^ 63 = m := ⟨_, rfl⟩
  rw [hm] at h h2
  go_enter Tryz.func110, Tryz.ntmps110
  go_wp2
  go_ret
  exact ⟨rfl, rfl⟩
theorem neg_any (a : Nat) (ha : a < 2 ^ 64) (w : World) : Calls Tryz.prog 85 #[.int .u64 (a : Int)] w fun e w' => e = .returned (.int .u64 ((Nr.dNeg a) : Nat)) ∧ w' = w := by
  have HA := Lib.hid ha
  cases hn : Nr.isNaN a
  · have h := turn_bits a ha hn
    clear ha
    go_enter Tryz.func85, Tryz.ntmps85
    go_wp2_with fail
    refine (nannum_any a HA.out _).mono ?_
    rintro e w1 ⟨rfl, rfl⟩
    rw [hn]
    go_wp2
    go_ret
    exact ⟨rfl, rfl⟩
  · clear ha
    have hr : Nr.dNeg a = Nr.nan := by unfold Nr.dNeg; rw [hn, if_pos rfl]
    go_enter Tryz.func85, Tryz.ntmps85
    go_wp2_with fail
    refine (nannum_any a HA.out _).mono ?_
    rintro e w1 ⟨rfl, rfl⟩
    rw [hn]
    go_wp2
    go_ret
    rw [hr]
    exact ⟨rfl, rfl⟩
theorem abs_any (a : Nat) (ha : a < 2 ^ 64) (w : World) : Calls Tryz.prog 35 #[.int .u64 (a : Int)] w fun e w' => e = .returned (.int .u64 ((Nr.dAbs a) : Nat)) ∧ w' = w := by
  have HA := Lib.hid ha
  cases hn : Nr.isNaN a
  · have h := abs_bits a ha
    clear ha
    have hr : Nr.dAbs a = a % 2 ^ 63 := by unfold Nr.dAbs; rw [hn]; rfl
    rw [← hr] at h
    clear hr
    go_enter Tryz.func35, Tryz.ntmps35
    go_wp2_with fail
    refine (nannum_any a HA.out _).mono ?_
    rintro e w1 ⟨rfl, rfl⟩
    rw [hn]
    go_wp2
    go_ret
    exact ⟨rfl, rfl⟩
  · clear ha
    have hr : Nr.dAbs a = Nr.nan := by unfold Nr.dAbs; rw [hn, if_pos rfl]
    go_enter Tryz.func35, Tryz.ntmps35
    go_wp2_with fail
    refine (nannum_any a HA.out _).mono ?_
    rintro e w1 ⟨rfl, rfl⟩
    rw [hn]
    go_wp2
    go_ret
    rw [hr]
    exact ⟨rfl, rfl⟩
theorem float_any (a : Nat) (w : World) : Calls Tryz.prog 65 #[.int .u64 (a : Int)] w fun e w' => e = .returned (.float .f64 a) ∧ w' = w := by
  have h68 : ∀ w, (callFunc 68 #[.int .u64 (a : Int)]).run Tryz.prog w = .ok (.value (.float .f64 a)) w := fun w => from68 a w
  go_enter Tryz.func65, Tryz.ntmps65
  go_wp2
  go_ret
  exact ⟨rfl, rfl⟩
/-- compared by value -/
theorem cmp_any (a b : Nat) (ha : a < 2 ^ 64) (hb : b < 2 ^ 64) (w : World) : Calls Tryz.prog 31 #[.int .u64 (a : Int), .int .u64 (b : Int)] w fun e w' => e = .returned (.tuple #[.int .i64 (Nr.dCmp a b), .bool (Nr.dCok a b)]) ∧ w' = w := by
  have HA := Lib.hid ha
  have HB := Lib.hid hb
  cases n1 : Nr.isNaN a
  · cases n2 : Nr.isNaN b
    · have ho : FloatKind.f64.format.order a b = some (compare (Nr.key a) (Nr.key b)) := Nr.order_eq ha hb n1 n2
      clear ha hb
      rcases Int.lt_trichotomy (Nr.key a) (Nr.key b) with h | h | h
      · have e1 : Nr.dCmp a b = -1 := by unfold Nr.dCmp; rw [n1, n2, if_neg (by decide), if_pos h]
        have e2 : Nr.dCok a b = true := by unfold Nr.dCok; rw [n1, n2]; rfl
        rw [Int.compare_eq_lt.2 h] at ho
        rw [e1, e2]
        clear h e1 e2
        have h1 : (FloatKind.f64.format.order a b == some .lt) = true := by rw [ho]; rfl
        clear ho
        go_enter Tryz.func31, Tryz.ntmps31
        go_wp2_with fail
        refine (nannum_any a HA.out _).mono ?_
        rintro e w1 ⟨rfl, rfl⟩
        rw [n1]
        go_wp2_with fail
        refine (nannum_any b HB.out _).mono ?_
        rintro e w1 ⟨rfl, rfl⟩
        rw [n2]
        go_wp2_with fail
        refine (float_any a _).mono ?_
        rintro e w1 ⟨rfl, rfl⟩
        go_wp2_with fail
        refine (float_any b _).mono ?_
        rintro e w1 ⟨rfl, rfl⟩
        go_wp2
        go_ret2
        exact ⟨rfl, rfl⟩
      · have e1 : Nr.dCmp a b = 0 := by unfold Nr.dCmp; rw [n1, n2, if_neg (by decide), if_neg (by omega), if_neg (by omega)]
        have e2 : Nr.dCok a b = true := by unfold Nr.dCok; rw [n1, n2]; rfl
        rw [Int.compare_eq_eq.2 h] at ho
        rw [e1, e2]
        clear h e1 e2
        have h1 : (FloatKind.f64.format.order a b == some .lt) = false := by rw [ho]; rfl
        have h2 : (FloatKind.f64.format.order a b == some .gt) = false := by rw [ho]; rfl
        clear ho
        go_enter Tryz.func31, Tryz.ntmps31
        go_wp2_with fail
        refine (nannum_any a HA.out _).mono ?_
        rintro e w1 ⟨rfl, rfl⟩
        rw [n1]
        go_wp2_with fail
        refine (nannum_any b HB.out _).mono ?_
        rintro e w1 ⟨rfl, rfl⟩
        rw [n2]
        go_wp2_with fail
        refine (float_any a _).mono ?_
        rintro e w1 ⟨rfl, rfl⟩
        go_wp2_with fail
        refine (float_any b _).mono ?_
        rintro e w1 ⟨rfl, rfl⟩
        go_wp2
        go_ret2
        exact ⟨rfl, rfl⟩
      · have e1 : Nr.dCmp a b = 1 := by unfold Nr.dCmp; rw [n1, n2, if_neg (by decide), if_neg (by omega), if_pos h]
        have e2 : Nr.dCok a b = true := by unfold Nr.dCok; rw [n1, n2]; rfl
        rw [Int.compare_eq_gt.2 h] at ho
        rw [e1, e2]
        clear h e1 e2
        have h1 : (FloatKind.f64.format.order a b == some .lt) = false := by rw [ho]; rfl
        have h2 : (FloatKind.f64.format.order a b == some .gt) = true := by rw [ho]; rfl
        clear ho
        go_enter Tryz.func31, Tryz.ntmps31
        go_wp2_with fail
        refine (nannum_any a HA.out _).mono ?_
        rintro e w1 ⟨rfl, rfl⟩
        rw [n1]
        go_wp2_with fail
        refine (nannum_any b HB.out _).mono ?_
        rintro e w1 ⟨rfl, rfl⟩
        rw [n2]
        go_wp2_with fail
        refine (float_any a _).mono ?_
        rintro e w1 ⟨rfl, rfl⟩
        go_wp2_with fail
        refine (float_any b _).mono ?_
        rintro e w1 ⟨rfl, rfl⟩
        go_wp2
        go_ret2
        exact ⟨rfl, rfl⟩
    · have e1 : Nr.dCmp a b = 0 := by unfold Nr.dCmp; rw [n1, n2]; rfl
      have e2 : Nr.dCok a b = false := by unfold Nr.dCok; rw [n1, n2]; rfl
      rw [e1, e2]
      clear ha hb e1 e2
      go_enter Tryz.func31, Tryz.ntmps31
      go_wp2_with fail
      refine (nannum_any a HA.out _).mono ?_
      rintro e w1 ⟨rfl, rfl⟩
      rw [n1]
      go_wp2_with fail
      refine (nannum_any b HB.out _).mono ?_
      rintro e w1 ⟨rfl, rfl⟩
      rw [n2]
      go_wp2
      go_ret2
      exact ⟨rfl, rfl⟩
  · have e1 : Nr.dCmp a b = 0 := by unfold Nr.dCmp; rw [n1]; rfl
    have e2 : Nr.dCok a b = false := by unfold Nr.dCok; rw [n1]; rfl
    rw [e1, e2]
    clear ha hb e1 e2
    go_enter Tryz.func31, Tryz.ntmps31
    go_wp2_with fail
    refine (nannum_any a HA.out _).mono ?_
    rintro e w1 ⟨rfl, rfl⟩
    rw [n1]
    go_wp2
    go_ret2
    exact ⟨rfl, rfl⟩
theorem isnan124_any (a : Nat) (w : World) : Calls Tryz.prog 109 #[.int .u64 (a : Int)] w fun e w' => e = .returned (.bool false) ∧ w' = w := by
  have h : (((a : Int)) != (a : Int)) = false := by simp
  go_enter Tryz.func109, Tryz.ntmps109
  go_wp2
  go_ret
  exact ⟨rfl, rfl⟩
theorem compare_any (a b : Nat) (w : World) : Calls Tryz.prog 63 #[.int .u64 (a : Int), .int .u64 (b : Int)] w fun e w' => e = .returned (.int .i64 (Nr.cmpN a b)) ∧ w' = w := by
  rcases Nat.lt_trichotomy a b with h | h | h
  · have e1 : Nr.cmpN a b = -1 := by unfold Nr.cmpN; rw [if_pos h]
    have d1 : decide (a < b) = true := by simpa using h
    rw [e1]
    clear e1 h
    go_enter Tryz.func63, Tryz.ntmps63
    go_wp2_with fail
    refine (isnan124_any a _).mono ?_
    rintro e w1 ⟨rfl, rfl⟩
    go_wp2_with fail
    refine (isnan124_any b _).mono ?_
    rintro e w1 ⟨rfl, rfl⟩
    go_wp2
    go_ret
    exact ⟨rfl, rfl⟩
  · have e1 : Nr.cmpN a b = 0 := by unfold Nr.cmpN; rw [if_neg (by omega), if_neg (by omega)]
    have d1 : decide (a < b) = false := by simp; omega
    have d2 : decide (b < a) = false := by simp; omega
    rw [e1]
    clear e1 h
    go_enter Tryz.func63, Tryz.ntmps63
    go_wp2_with fail
    refine (isnan124_any a _).mono ?_
    rintro e w1 ⟨rfl, rfl⟩
    go_wp2_with fail
    refine (isnan124_any b _).mono ?_
    rintro e w1 ⟨rfl, rfl⟩
    go_wp2
    go_ret
    exact ⟨rfl, rfl⟩
  · have e1 : Nr.cmpN a b = 1 := by unfold Nr.cmpN; rw [if_neg (by omega), if_pos h]
    have d1 : decide (a < b) = false := by simp; omega
    have d2 : decide (b < a) = true := by simpa using h
    rw [e1]
    clear e1 h
    go_enter Tryz.func63, Tryz.ntmps63
    go_wp2_with fail
    refine (isnan124_any a _).mono ?_
    rintro e w1 ⟨rfl, rfl⟩
    go_wp2_with fail
    refine (isnan124_any b _).mono ?_
    rintro e w1 ⟨rfl, rfl⟩
    go_wp2
    go_ret
    exact ⟨rfl, rfl⟩
theorem not_bits (a : Nat) (h : a < 2 ^ 64) : bits .xor .u64 IntKind.u64.max (a : Int) = ((2 ^ 64 - 1 - a : Nat) : Int) := by
  rw [show IntKind.u64.max = ((18446744073709551615 : Nat) : Int) from rfl, u64_xor_nat 18446744073709551615 a (by decide) (by omega)]
  congr 1
  have h2 : (BitVec.allOnes 64 ^^^ BitVec.ofNat 64 a).toNat = 18446744073709551615 ^^^ a := by
    rw [BitVec.toNat_xor, BitVec.toNat_allOnes, BitVec.toNat_ofNat, Nat.mod_eq_of_lt h]
  rw [← h2, BitVec.allOnes_xor, BitVec.toNat_not, BitVec.toNat_ofNat, Nat.mod_eq_of_lt h]
theorem or_bits (a : Nat) (h : a < 2 ^ 63) : bits .or .u64 (a : Int) 9223372036854775808 = ((a + 2 ^ 63 : Nat) : Int) := by
  have := u64_or_nat a 9223372036854775808 (by omega) (by decide)
  rw [show ((9223372036854775808 : Nat) : Int) = 9223372036854775808 from rfl] at this
  rw [this, Nat.or_comm, nat_join 63 9223372036854775808 a (by decide) h, Nat.add_comm]
theorem rising_lt (a : Nat) (h : a < 2 ^ 64) : Nr.rising a < 2 ^ 64 := by
  unfold Nr.rising Nr.neg
  split
  · omega
  · simp at *; omega
theorem rising_any (a : Nat) (ha : a < 2 ^ 64) (w : World) : Calls Tryz.prog 64 #[.int .u64 (a : Int)] w fun e w' => e = .returned (.int .u64 (Nr.rising a : Nat)) ∧ w' = w := by
  have HA := Lib.hid ha
  cases hn : Nr.neg a
  · have h : bits .or .u64 (a : Int) 9223372036854775808 = ((Nr.rising a : Nat) : Int) := by
      rw [or_bits a (by unfold Nr.neg at hn; simp at hn; omega)]
      unfold Nr.rising
      rw [hn]; rfl
    clear ha
    go_enter Tryz.func64, Tryz.ntmps64
    go_wp2_with fail
    refine (sign_any a HA.out _).mono ?_
    rintro e w1 ⟨rfl, rfl⟩
    rw [hn]
    go_wp2
    go_ret
    exact ⟨rfl, rfl⟩
  · have h : bits .xor .u64 IntKind.u64.max (a : Int) = ((Nr.rising a : Nat) : Int) := by
      rw [not_bits a ha]
      unfold Nr.rising
      rw [hn]; rfl
    clear ha
    go_enter Tryz.func64, Tryz.ntmps64
    go_wp2_with fail
    refine (sign_any a HA.out _).mono ?_
    rintro e w1 ⟨rfl, rfl⟩
    rw [hn]
    go_wp2
    go_ret
    exact ⟨rfl, rfl⟩
theorem order_any (a b : Nat) (ha : a < 2 ^ 64) (hb : b < 2 ^ 64) (w : World) : Calls Tryz.prog 30 #[.int .u64 (a : Int), .int .u64 (b : Int)] w fun e w' => e = .returned (.int .i64 (Nr.dOrder a b)) ∧ w' = w := by
  have HA := Lib.hid ha
  have HB := Lib.hid hb
  have ra := rising_lt a ha
  have rb := rising_lt b hb
  cases n1 : Nr.isNaN a
  · cases n2 : Nr.isNaN b
    · have e1 : Nr.dOrder a b = Nr.cmpN (Nr.rising a) (Nr.rising b) := by
        unfold Nr.dOrder Nr.rank Nr.cmpN
        rw [n1, n2]
        simp only [Bool.false_eq_true, if_false, Nat.add_lt_add_iff_right]
      rw [e1]
      clear e1 ha hb ra rb
      go_enter Tryz.func30, Tryz.ntmps30
      go_wp2_with fail
      refine (nannum_any a HA.out _).mono ?_
      rintro e w1 ⟨rfl, rfl⟩
      rw [n1]
      go_wp2_with fail
      refine (nannum_any a HA.out _).mono ?_
      rintro e w1 ⟨rfl, rfl⟩
      rw [n1]
      go_wp2_with fail
      refine (nannum_any b HB.out _).mono ?_
      rintro e w1 ⟨rfl, rfl⟩
      rw [n2]
      go_wp2_with fail
      refine (rising_any a HA.out _).mono ?_
      rintro e w1 ⟨rfl, rfl⟩
      go_wp2_with fail
      refine (rising_any b HB.out _).mono ?_
      rintro e w1 ⟨rfl, rfl⟩
      go_wp2_with fail
      refine (compare_any _ _ _).mono ?_
      rintro e w1 ⟨rfl, rfl⟩
      go_wp2
      go_ret
      exact ⟨rfl, rfl⟩
    · have e1 : Nr.dOrder a b = 1 := by
        have := Nr.rank_nan hb n2 n1
        unfold Nr.dOrder Nr.cmpN
        rw [if_neg (by omega), if_pos this]
      rw [e1]
      clear e1 ha hb ra rb
      go_enter Tryz.func30, Tryz.ntmps30
      go_wp2_with fail
      refine (nannum_any a HA.out _).mono ?_
      rintro e w1 ⟨rfl, rfl⟩
      rw [n1]
      go_wp2_with fail
      refine (nannum_any a HA.out _).mono ?_
      rintro e w1 ⟨rfl, rfl⟩
      rw [n1]
      go_wp2_with fail
      refine (nannum_any b HB.out _).mono ?_
      rintro e w1 ⟨rfl, rfl⟩
      rw [n2]
      go_wp2
      go_ret
      exact ⟨rfl, rfl⟩
  · cases n2 : Nr.isNaN b
    · have e1 : Nr.dOrder a b = -1 := Nr.order_nan ha n1 n2
      rw [e1]
      clear e1 ha hb ra rb
      go_enter Tryz.func30, Tryz.ntmps30
      go_wp2_with fail
      refine (nannum_any a HA.out _).mono ?_
      rintro e w1 ⟨rfl, rfl⟩
      rw [n1]
      go_wp2_with fail
      refine (nannum_any b HB.out _).mono ?_
      rintro e w1 ⟨rfl, rfl⟩
      rw [n2]
      go_wp2_with fail
      refine (nannum_any a HA.out _).mono ?_
      rintro e w1 ⟨rfl, rfl⟩
      rw [n1]
      go_wp2
      go_ret
      exact ⟨rfl, rfl⟩
    · have e1 : Nr.dOrder a b = Nr.cmpN a b := by
        unfold Nr.dOrder Nr.rank
        rw [n1, n2]; rfl
      rw [e1]
      clear e1 ha hb ra rb
      go_enter Tryz.func30, Tryz.ntmps30
      go_wp2_with fail
      refine (nannum_any a HA.out _).mono ?_
      rintro e w1 ⟨rfl, rfl⟩
      rw [n1]
      go_wp2_with fail
      refine (nannum_any b HB.out _).mono ?_
      rintro e w1 ⟨rfl, rfl⟩
      rw [n2]
      go_wp2_with fail
      refine (compare_any _ _ _).mono ?_
      rintro e w1 ⟨rfl, rfl⟩
      go_wp2
      go_ret
      exact ⟨rfl, rfl⟩
theorem nan_any (w : World) : Calls Tryz.prog 132 #[] w fun e w' => e = .returned (.int .u64 (Nr.nan : Nat)) ∧ w' = w := by
  go_enter Tryz.func132, Tryz.ntmps132
  go_wp2
  go_ret
  exact ⟨rfl, rfl⟩
theorem rnan_any (a : Nat) (ha : a < 2 ^ 64) (w : World) : Calls Tryz.prog 16 #[.int .u64 (a : Int)] w fun e w' => e = .returned (.bool (Nr.isNaN a)) ∧ w' = w := by
  have h := abs_bits a ha
  have h2 := nan_test a
  obtain ⟨m, hm⟩ : ∃ m, a % 2 ^ 63 = m := ⟨_, rfl⟩
  rw [hm] at h h2
  go_enter Tryz.func16, Tryz.ntmps16
  go_wp2
  go_ret
  exact ⟨rfl, rfl⟩
theorem rinf_any (a : Nat) (ha : a < 2 ^ 64) (w : World) : Calls Tryz.prog 37 #[.int .u64 (a : Int)] w fun e w' => e = .returned (.bool (Nr.isInf a)) ∧ w' = w := by
  have h := abs_bits a ha
  have h2 := inf_test a
  obtain ⟨m, hm⟩ : ∃ m, a % 2 ^ 63 = m := ⟨_, rfl⟩
  rw [hm] at h h2
  go_enter Tryz.func37, Tryz.ntmps37
  go_wp2
  go_ret
  exact ⟨rfl, rfl⟩
theorem rzero_any (a : Nat) (ha : a < 2 ^ 64) (w : World) : Calls Tryz.prog 38 #[.int .u64 (a : Int)] w fun e w' => e = .returned (.bool (Nr.nought a)) ∧ w' = w := by
  have h := abs_bits a ha
  have h2 := nought_test a
  obtain ⟨m, hm⟩ : ∃ m, a % 2 ^ 63 = m := ⟨_, rfl⟩
  rw [hm] at h h2
  go_enter Tryz.func38, Tryz.ntmps38
  go_wp2
  go_ret
  exact ⟨rfl, rfl⟩
theorem rsign_any (a : Nat) (ha : a < 2 ^ 64) (w : World) : Calls Tryz.prog 36 #[.int .u64 (a : Int)] w fun e w' => e = .returned (.bool (Nr.neg a)) ∧ w' = w := by
  have h := sign_bits a ha
  have h2 := neg_test a
  obtain ⟨m, hm⟩ : ∃ m, (Nr.neg a).toNat * 2 ^ 63 = m := ⟨_, rfl⟩
  rw [hm] at h h2
  go_enter Tryz.func36, Tryz.ntmps36
  go_wp2
  go_ret
  exact ⟨rfl, rfl⟩
theorem rabs_any (a : Nat) (ha : a < 2 ^ 64) (w : World) : Calls Tryz.prog 40 #[.int .u64 (a : Int)] w fun e w' => e = .returned (.int .u64 ((Nr.dAbs a) : Nat)) ∧ w' = w := by
  have HA := Lib.hid ha
  cases hn : Nr.isNaN a
  · have h := abs_bits a ha
    clear ha
    have hr : Nr.dAbs a = a % 2 ^ 63 := by unfold Nr.dAbs; rw [hn]; rfl
    rw [← hr] at h
    clear hr
    go_enter Tryz.func40, Tryz.ntmps40
    go_wp2_with fail
    refine (rnan_any a HA.out _).mono ?_
    rintro e w1 ⟨rfl, rfl⟩
    rw [hn]
    go_wp2
    go_ret
    exact ⟨rfl, rfl⟩
  · clear ha
    have hr : Nr.dAbs a = Nr.nan := by unfold Nr.dAbs; rw [hn, if_pos rfl]
    go_enter Tryz.func40, Tryz.ntmps40
    go_wp2_with fail
    refine (rnan_any a HA.out _).mono ?_
    rintro e w1 ⟨rfl, rfl⟩
    rw [hn]
    go_wp2
    go_ret
    rw [hr]
    exact ⟨rfl, rfl⟩
theorem rinfv_any (s : Bool) (w : World) : Calls Tryz.prog 46 #[.bool s] w fun e w' => e = .returned (.int .u64 (Nr.word s Nr.inf : Nat)) ∧ w' = w := by
  have h1 : Nr.word true Nr.inf = 18442240474082181120 := by decide
  have h2 : Nr.word false Nr.inf = 9218868437227405312 := by decide
  cases s
  · rw [h2]
    clear h1 h2
    go_enter Tryz.func46, Tryz.ntmps46
    go_wp2
    go_ret
    exact ⟨rfl, rfl⟩
  · rw [h1]
    clear h1 h2
    go_enter Tryz.func46, Tryz.ntmps46
    go_wp2
    go_ret
    exact ⟨rfl, rfl⟩
theorem exp_bits (a : Nat) (h : a < 2 ^ 64) : bits .and .u64 ((a : Int) / 4503599627370496) 2047 = ((a / 2 ^ 52 % 2048 : Nat) : Int) := by
  have := u64_and_nat (a / 2 ^ 52) 2047 (by omega) (by decide)
  rw [nat_mask11] at this
  rw [show (a : Int) / 4503599627370496 = ((a / 2 ^ 52 : Nat) : Int) by omega]
  exact this
theorem frac_bits (a : Nat) (h : a < 2 ^ 64) : bits .and .u64 (a : Int) 4503599627370495 = ((a % 2 ^ 52 : Nat) : Int) := by
  have := u64_and_nat a 4503599627370495 (by omega) (by decide)
  rw [show ((4503599627370495 : Nat) : Int) = 4503599627370495 from rfl] at this
  rw [this]
  congr 1
  exact Nat.and_two_pow_sub_one_eq_mod a 52
theorem lead_bits (f : Nat) (h : f < 2 ^ 52) : bits .or .u64 4503599627370496 (f : Int) = ((2 ^ 52 + f : Nat) : Int) := by
  have := u64_or_nat 4503599627370496 f (by decide) (by omega)
  rw [show ((4503599627370496 : Nat) : Int) = 4503599627370496 from rfl] at this
  rw [this]
  congr 1
  exact nat_join 52 4503599627370496 f (by decide) h
theorem open_any (a : Nat) (ha : a < 2 ^ 64) (w : World) : Calls Tryz.prog 73 #[.int .u64 (a : Int)] w fun e w' => e = .returned (.tuple #[.int .u64 (Nr.mag a : Nat), .int .i64 (Nr.plc a)]) ∧ w' = w := by
  have h1 := exp_bits a ha
  have h2 := frac_bits a ha
  have hE : a / 2 ^ 52 % 2048 < 2048 := Nat.mod_lt _ (by decide)
  have hf : a % 2 ^ 52 < 2 ^ 52 := Nat.mod_lt _ (by decide)
  have h3 := lead_bits (a % 2 ^ 52) hf
  unfold Nr.mag Nr.plc
  obtain ⟨E, he⟩ : ∃ E, a / 2 ^ 52 % 2048 = E := ⟨_, rfl⟩
  obtain ⟨F, hF⟩ : ∃ F, a % 2 ^ 52 = F := ⟨_, rfl⟩
  obtain ⟨G, hG⟩ : ∃ G, 2 ^ 52 + F = G := ⟨_, rfl⟩
  rw [he] at h1 hE ⊢
  rw [hF] at h2 h3 hf ⊢
  rw [hG] at h3 ⊢
  clear he hF hG ha hf
  by_cases h0 : E = 0
  · subst h0
    rw [if_pos rfl, if_pos rfl]
    go_enter Tryz.func73, Tryz.ntmps73
    go_wp2
    go_ret2
    exact ⟨rfl, rfl⟩
  · rw [if_neg h0, if_neg h0]
    have d0 : ((E : Int) == 0) = false := by simpa using h0
    go_enter Tryz.func73, Tryz.ntmps73
    go_wp2
    go_ret2
    exact ⟨rfl, rfl⟩
end Go.Proofs.YthhlhiighgnkmaaGreatDoor.Tn
