/-
  WALKS: a number as a whole one; what is known.
-/
import Derived.Test.YtffohkpohgkglaaGreatWalkE
namespace Go.Proofs.YtffohkpohgkglaaGreat
set_option linter.unusedVariables false
set_option linter.unusedSimpArgs false
open Go.RowKit
open Ieee
theorem trunc96 (a : Nat) (ha : a < 2 ^ 64) (hn : Nm.isNaN a = false) (w : World) : Calls Tryz.prog 90 #[.float .f64 a] w fun e w' => e = .returned (.float .f64 (Nm.dTrunc a)) ∧ Below w.heap.size w w' := by
  obtain ⟨r, w2, hr, hbel, hlt, ht⟩ := ext130 a ha w
  have he : r = Nm.dTrunc a := by
    unfold Nm.tidy at ht
    split at ht
    · have : Nm.isNaN (Nm.dTrunc a) = false := by
        unfold Nm.dTrunc Nm.dStep
        rw [hn]
        simp only [Bool.false_eq_true, if_false]
        split
        · exact Nm.inf_nan (by assumption)
        · exact Nm.round_nan _ _ _ _
      rw [← ht, Nm.nan_nan] at this
      cases this
    · exact ht
  subst he
  have HB := Lib.hid hbel
  clear hbel hlt ht
  go_enter Tryz.func90, Tryz.ntmps90
  refine wp_seq ?_
  apply wp_region_lit
  iterate 5 (first | go_step | skip)
  refine wp_seq ?_
  refine wp_cond_true rfl ?_
  go_wp2
  go_ret
  exact ⟨rfl, HB.out⟩
/-- the bits of -2^63 and 2^63 -/
def lo63 : Nat := 14114281232179134464
def hi63 : Nat := 4890909195324358656
def WholePost (w : World) (n : Int) (ok : Bool) (e : Ending) (w' : World) : Prop := e = .returned (.tuple #[.int .i64 n, .bool ok]) ∧ Below w.heap.size w w'
theorem whole_nan (a : Nat) (ha : a < 2 ^ 64) (hn : Nm.isNaN a = true) (w : World) : Calls Tryz.prog 48 #[.int .u64 (a : Int)] w (WholePost w 0 false) := by
  have HA := Lib.hid ha
  clear ha
  go_enter Tryz.func48, Tryz.ntmps48
  go_wp2_with fail
  refine (float_any a _).mono ?_
  rintro e w1 ⟨rfl, rfl⟩
  go_wp2_with fail
  refine (nannum_any a HA.out _).mono ?_
  rintro e w1 ⟨rfl, rfl⟩
  rw [hn]
  go_wp2
  go_ret2
  exact ⟨rfl, Below.refl _ _⟩

theorem whole_rest (a : Nat) (ha : a < 2 ^ 64) (hn : Nm.isNaN a = false) (h1 : (FloatKind.f64.format.order a (Nm.dTrunc a) != some .eq) = true) (w : World) : Calls Tryz.prog 48 #[.int .u64 (a : Int)] w (WholePost w 0 false) := by
  have HA := Lib.hid ha
  clear ha
  go_enter Tryz.func48, Tryz.ntmps48
  go_wp2_with fail
  refine (float_any a _).mono ?_
  rintro e w1 ⟨rfl, rfl⟩
  go_wp2_with fail
  refine (nannum_any a HA.out _).mono ?_
  rintro e w1 ⟨rfl, rfl⟩
  rw [hn]
  go_wp2_with fail
  refine (trunc96 a HA.out hn _).mono ?_
  rintro e w2 ⟨rfl, hb⟩
  have HB := Lib.hid hb
  clear hb
  go_wp2
  go_ret2
  exact ⟨rfl, HB.out⟩

theorem whole_low (a : Nat) (ha : a < 2 ^ 64) (hn : Nm.isNaN a = false) (h1 : (FloatKind.f64.format.order a (Nm.dTrunc a) != some .eq) = false) (h2 : (FloatKind.f64.format.order a 14114281232179134464 == some .lt) = true) (w : World) : Calls Tryz.prog 48 #[.int .u64 (a : Int)] w (WholePost w 0 false) := by
  have HA := Lib.hid ha
  clear ha
  go_enter Tryz.func48, Tryz.ntmps48
  go_wp2_with fail
  refine (float_any a _).mono ?_
  rintro e w1 ⟨rfl, rfl⟩
  go_wp2_with fail
  refine (nannum_any a HA.out _).mono ?_
  rintro e w1 ⟨rfl, rfl⟩
  rw [hn]
  go_wp2_with fail
  refine (trunc96 a HA.out hn _).mono ?_
  rintro e w2 ⟨rfl, hb⟩
  have HB := Lib.hid hb
  clear hb
  go_wp2
  go_ret2
  exact ⟨rfl, HB.out⟩

theorem whole_high (a : Nat) (ha : a < 2 ^ 64) (hn : Nm.isNaN a = false) (h1 : (FloatKind.f64.format.order a (Nm.dTrunc a) != some .eq) = false) (h2 : (FloatKind.f64.format.order a 14114281232179134464 == some .lt) = false) (h3 : (FloatKind.f64.format.order a 4890909195324358656 == some .gt || FloatKind.f64.format.order a 4890909195324358656 == some .eq) = true) (w : World) : Calls Tryz.prog 48 #[.int .u64 (a : Int)] w (WholePost w 0 false) := by
  have HA := Lib.hid ha
  clear ha
  go_enter Tryz.func48, Tryz.ntmps48
  go_wp2_with fail
  refine (float_any a _).mono ?_
  rintro e w1 ⟨rfl, rfl⟩
  go_wp2_with fail
  refine (nannum_any a HA.out _).mono ?_
  rintro e w1 ⟨rfl, rfl⟩
  rw [hn]
  go_wp2_with fail
  refine (trunc96 a HA.out hn _).mono ?_
  rintro e w2 ⟨rfl, hb⟩
  have HB := Lib.hid hb
  clear hb
  go_wp2
  go_ret2
  exact ⟨rfl, HB.out⟩

theorem whole_fits (a : Nat) (ha : a < 2 ^ 64) (hn : Nm.isNaN a = false) (h1 : (FloatKind.f64.format.order a (Nm.dTrunc a) != some .eq) = false) (h2 : (FloatKind.f64.format.order a 14114281232179134464 == some .lt) = false) (h3 : (FloatKind.f64.format.order a 4890909195324358656 == some .gt || FloatKind.f64.format.order a 4890909195324358656 == some .eq) = false) (n : Int) (h4 : floatToIntVal .f64 a .i64 = some n) (w : World) : Calls Tryz.prog 48 #[.int .u64 (a : Int)] w (WholePost w n true) := by
  have HA := Lib.hid ha
  clear ha
  have hc : ∀ w, (convert 36 2 (.float .f64 a)).run Tryz.prog w = .ok (.int .i64 n) w := fun w => run_convert_float_int w 36 2 .f64 .i64 a n (by rw [Tryz.underlying36]; rfl) Tryz.underlying2 h4
  go_enter Tryz.func48, Tryz.ntmps48
  go_wp2_with fail
  refine (float_any a _).mono ?_
  rintro e w1 ⟨rfl, rfl⟩
  go_wp2_with fail
  refine (nannum_any a HA.out _).mono ?_
  rintro e w1 ⟨rfl, rfl⟩
  rw [hn]
  go_wp2_with fail
  refine (trunc96 a HA.out hn _).mono ?_
  rintro e w2 ⟨rfl, hb⟩
  have HB := Lib.hid hb
  clear hb
  go_wp2_with (simp only [hc])
  go_ret2
  exact ⟨rfl, HB.out⟩

theorem known_any (w : World) : Calls Tryz.prog 25 #[] w (Gives w (.bool true)) := by
  have k0 : dInt 9007199254740993 = 4845873199050653696 := by decide +kernel
  have k1 : dInt (-3) = 13837309855095848960 := by decide +kernel
  have k2 : dInt 2 = 4611686018427387904 := by decide +kernel
  have k3 : dInt 1 = 4607182418800017408 := by decide +kernel
  have k4 : dInt 3 = 4613937818241073152 := by decide +kernel
  have k5 : Nm.dCmp 13837309855095848960 4611686018427387904 = -1 := by decide +kernel
  have k6 : Nm.dCok 13837309855095848960 4611686018427387904 = true := by decide +kernel
  have k7 : Nm.dAdd 4591870180066957722 4596373779694328218 = 4599075939470750516 := by decide +kernel
  have k8 : Nm.dDiv 4607182418800017408 4613937818241073152 = 4599676419421066581 := by decide +kernel
  have k9 : Nm.dSqrt 4611686018427387904 = 4609047870845172685 := by decide +kernel
  have w1 : ∀ w, Calls Tryz.prog 48 #[.int .u64 4845873199050653696] w (WholePost w 9007199254740992 true) := fun w => whole_fits 4845873199050653696 (by decide) (by decide +kernel) (by decide +kernel) (by decide +kernel) (by decide +kernel) 9007199254740992 (by decide +kernel) w
  have HW := Lib.hid w1
  clear w1
  have i0 := fun w => int_any 9007199254740993 w
  have i1 := fun w => int_any (-3) w
  have i2 := fun w => int_any 2 w
  have i3 := fun w => int_any 1 w
  have i4 := fun w => int_any 3 w
  rw [k0] at i0
  rw [k1] at i1
  rw [k2] at i2
  rw [k3] at i3
  rw [k4] at i4
  have c1 := fun w => cmp_any 13837309855095848960 4611686018427387904 (by decide) (by decide) w
  rw [k5, k6] at c1
  have a1 := fun w => add_any 4591870180066957722 4596373779694328218 (by decide) (by decide) w
  rw [k7] at a1
  have q1 := fun w => div_any 4607182418800017408 4613937818241073152 (by decide) (by decide) w
  rw [k8] at q1
  have r1 := fun w => sqrt_any 4611686018427387904 (by decide) w
  rw [k9] at r1
  clear k0 k1 k2 k3 k4 k5 k6 k7 k8 k9
  have I0 := Lib.hid i0
  have I1 := Lib.hid i1
  have I2 := Lib.hid i2
  have I3 := Lib.hid i3
  have I4 := Lib.hid i4
  have C1 := Lib.hid c1
  have A1 := Lib.hid a1
  have Q1 := Lib.hid q1
  have R1 := Lib.hid r1
  clear i0 i1 i2 i3 i4 c1 a1 q1 r1
  go_enter Tryz.func25, Tryz.ntmps25
  go_wp2_with fail
  refine (I0.out _).mono ?_
  rintro e w1 ⟨rfl, rfl⟩
  go_wp2_with fail
  refine (HW.out _).mono ?_
  rintro e w2 ⟨rfl, hb⟩
  have B2 := Lib.hid hb
  clear hb
  go_wp2_with fail
  refine (I1.out _).mono ?_
  rintro e w3 ⟨rfl, rfl⟩
  go_wp2_with fail
  refine (I2.out _).mono ?_
  rintro e w4 ⟨rfl, rfl⟩
  go_wp2_with fail
  refine (C1.out _).mono ?_
  rintro e w5 ⟨rfl, rfl⟩
  go_wp2_with fail
  refine (A1.out _).mono ?_
  rintro e w6 ⟨rfl, hb⟩
  have B6 := Lib.hid (B2.out.trans (hb.mono B2.out.size))
  clear hb B2
  go_wp2_with fail
  refine (I3.out _).mono ?_
  rintro e w7 ⟨rfl, rfl⟩
  go_wp2_with fail
  refine (I4.out _).mono ?_
  rintro e w8 ⟨rfl, rfl⟩
  go_wp2_with fail
  refine (Q1.out _).mono ?_
  rintro e w9 ⟨rfl, hb⟩
  have B9 := Lib.hid (B6.out.trans (hb.mono B6.out.size))
  clear hb B6
  go_wp2_with fail
  refine (I2.out _).mono ?_
  rintro e w10 ⟨rfl, rfl⟩
  go_wp2_with fail
  refine (R1.out _).mono ?_
  rintro e w11 ⟨rfl, hb⟩
  have B11 := Lib.hid (B9.out.trans (hb.mono B9.out.size))
  clear hb B9
  go_wp2
  go_ret
  exact ⟨rfl, B11.out⟩
end Go.Proofs.YtffohkpohgkglaaGreat
