/-
  WALKS: one tenth is shown: the number's order, sign and point.
-/
import Derived.Test.YthhlhiighgnkmaaGreatDoorShF
namespace Go.Proofs.YthhlhiighgnkmaaGreatDoor
set_option linter.unusedVariables false
set_option linter.unusedSimpArgs false
open Go.RowKit Go.PlainAid
theorem an_a : bits .andNot .u64 4591870180066957722 9223372036854775808 = 4591870180066957722 := by decide +kernel
theorem an_0 : bits .andNot .u64 0 9223372036854775808 = 0 := by decide +kernel
set_option maxRecDepth 100000 in
theorem nan_a (w : World) : Calls Tryz.prog 62 #[.int .u64 4591870180066957722] w fun e w' => e = .returned (.bool false) ∧ w' = w := by
  have h := an_a
  go_enter Tryz.func62, Tryz.ntmps62
  go_wp2
  go_ret
  exact ⟨rfl, rfl⟩
set_option maxRecDepth 100000 in
theorem nan_0 (w : World) : Calls Tryz.prog 62 #[.int .u64 0] w fun e w' => e = .returned (.bool false) ∧ w' = w := by
  have h := an_0
  go_enter Tryz.func62, Tryz.ntmps62
  go_wp2
  go_ret
  exact ⟨rfl, rfl⟩
set_option maxRecDepth 100000 in
theorem inf_a (w : World) : Calls Tryz.prog 32 #[.int .u64 4591870180066957722] w fun e w' => e = .returned (.bool false) ∧ w' = w := by
  have h := an_a
  go_enter Tryz.func32, Tryz.ntmps32
  go_wp2
  go_ret
  exact ⟨rfl, rfl⟩
set_option maxRecDepth 100000 in
theorem abs_a (w : World) : Calls Tryz.prog 35 #[.int .u64 4591870180066957722] w fun e w' => e = .returned (.int .u64 4591870180066957722) ∧ w' = w := by
  have h := an_a
  have C := Lib.hid nan_a
  go_enter Tryz.func35, Tryz.ntmps35
  go_wp2_with fail
  refine (C.out _).mono ?_
  rintro e w1 ⟨rfl, rfl⟩
  go_wp2
  go_ret
  exact ⟨rfl, rfl⟩
set_option maxRecDepth 100000 in
theorem sgn_a (w : World) : Calls Tryz.prog 110 #[.int .u64 4591870180066957722] w fun e w' => e = .returned (.bool false) ∧ w' = w := by
  go_enter Tryz.func110, Tryz.ntmps110
  go_wp2
  go_ret
  exact ⟨rfl, rfl⟩
set_option maxRecDepth 100000 in
theorem sgn_0 (w : World) : Calls Tryz.prog 110 #[.int .u64 0] w fun e w' => e = .returned (.bool false) ∧ w' = w := by
  go_enter Tryz.func110, Tryz.ntmps110
  go_wp2
  go_ret
  exact ⟨rfl, rfl⟩
theorem or_a : bits .or .u64 4591870180066957722 9223372036854775808 = 13815242216921733530 := by decide +kernel
theorem or_0 : bits .or .u64 0 9223372036854775808 = 9223372036854775808 := by decide +kernel
set_option maxRecDepth 100000 in
theorem rising_a (w : World) : Calls Tryz.prog 64 #[.int .u64 4591870180066957722] w fun e w' => e = .returned (.int .u64 13815242216921733530) ∧ w' = w := by
  have h := or_a
  have C := Lib.hid sgn_a
  go_enter Tryz.func64, Tryz.ntmps64
  go_wp2_with fail
  refine (C.out _).mono ?_
  rintro e w1 ⟨rfl, rfl⟩
  go_wp2
  go_ret
  exact ⟨rfl, rfl⟩
set_option maxRecDepth 100000 in
theorem rising_0 (w : World) : Calls Tryz.prog 64 #[.int .u64 0] w fun e w' => e = .returned (.int .u64 9223372036854775808) ∧ w' = w := by
  have h := or_0
  have C := Lib.hid sgn_0
  go_enter Tryz.func64, Tryz.ntmps64
  go_wp2_with fail
  refine (C.out _).mono ?_
  rintro e w1 ⟨rfl, rfl⟩
  go_wp2
  go_ret
  exact ⟨rfl, rfl⟩
theorem num_nan (n : Int) (w : World) : Calls Tryz.prog 109 #[.int .u64 n] w fun e w' => e = .returned (.bool false) ∧ w' = w := by
  go_enter Tryz.func109, Tryz.ntmps109
  go_wp2
  go_ret
  exact ⟨rfl, rfl⟩
set_option maxRecDepth 100000 in
theorem compare_a (w : World) : Calls Tryz.prog 63 #[.int .u64 13815242216921733530, .int .u64 9223372036854775808] w fun e w' => e = .returned (.int .i64 1) ∧ w' = w := by
  have C := Lib.hid num_nan
  go_enter Tryz.func63, Tryz.ntmps63
  go_wp2_with fail
  refine (C.out _ _).mono ?_
  rintro e w1 ⟨rfl, rfl⟩
  go_wp2_with fail
  refine (C.out _ _).mono ?_
  rintro e w1 ⟨rfl, rfl⟩
  go_wp2
  go_ret
  exact ⟨rfl, rfl⟩
set_option maxRecDepth 100000 in
theorem order_a (w : World) : Calls Tryz.prog 30 #[.int .u64 4591870180066957722, .int .u64 0] w fun e w' => e = .returned (.int .i64 1) ∧ w' = w := by
  have C1 := Lib.hid nan_a
  have C2 := Lib.hid nan_0
  have C3 := Lib.hid rising_a
  have C4 := Lib.hid rising_0
  have C5 := Lib.hid compare_a
  go_enter Tryz.func30, Tryz.ntmps30
  go_wp2_with fail
  refine (C1.out _).mono ?_
  rintro e w1 ⟨rfl, rfl⟩
  go_wp2_with fail
  refine (C1.out _).mono ?_
  rintro e w1 ⟨rfl, rfl⟩
  go_wp2_with fail
  refine (C2.out _).mono ?_
  rintro e w1 ⟨rfl, rfl⟩
  go_wp2_with fail
  refine (C3.out _).mono ?_
  rintro e w1 ⟨rfl, rfl⟩
  go_wp2_with fail
  refine (C4.out _).mono ?_
  rintro e w1 ⟨rfl, rfl⟩
  go_wp2_with fail
  refine (C5.out _).mono ?_
  rintro e w1 ⟨rfl, rfl⟩
  go_wp2
  go_ret
  exact ⟨rfl, rfl⟩
set_option maxRecDepth 100000 in
theorem float_a (w : World) : Calls Tryz.prog 65 #[.int .u64 4591870180066957722] w fun e w' => e = .returned (.float .f64 4591870180066957722) ∧ w' = w := by
  have h68 : ∀ w, (callFunc 68 #[.int .u64 4591870180066957722]).run Tryz.prog w = .ok (.value (.float .f64 4591870180066957722)) w := fun w => from68 4591870180066957722 w
  go_enter Tryz.func65, Tryz.ntmps65
  go_wp2
  go_ret
  exact ⟨rfl, rfl⟩
theorem float_0 (w : World) : Calls Tryz.prog 65 #[.int .u64 0] w fun e w' => e = .returned (.float .f64 0) ∧ w' = w := by
  have h68 : ∀ w, (callFunc 68 #[.int .u64 0]).run Tryz.prog w = .ok (.value (.float .f64 0)) w := fun w => from68 0 w
  go_enter Tryz.func65, Tryz.ntmps65
  go_wp2
  go_ret
  exact ⟨rfl, rfl⟩
set_option maxRecDepth 100000 in
theorem cmp_a (w : World) : Calls Tryz.prog 31 #[.int .u64 4591870180066957722, .int .u64 0] w fun e w' => e = .returned (.tuple #[.int .i64 1, .bool true]) ∧ w' = w := by
  have C1 := Lib.hid nan_a
  have C2 := Lib.hid nan_0
  have C3 := Lib.hid float_a
  have C4 := Lib.hid float_0
  go_enter Tryz.func31, Tryz.ntmps31
  go_wp2_with fail
  refine (C1.out _).mono ?_
  rintro e w1 ⟨rfl, rfl⟩
  go_wp2_with fail
  refine (C2.out _).mono ?_
  rintro e w1 ⟨rfl, rfl⟩
  go_wp2_with fail
  refine (C3.out _).mono ?_
  rintro e w1 ⟨rfl, rfl⟩
  go_wp2_with fail
  refine (C4.out _).mono ?_
  rintro e w1 ⟨rfl, rfl⟩
  go_wp2
  go_ret2
  exact ⟨rfl, rfl⟩
theorem point_a (w : World) : Calls Tryz.prog 33 #[.string { data := #[49] }, .int .i64 0] w fun e w' => e = .returned (.string { data := #[48, 46, 49] }) ∧ w' = w := by
  have CR := Lib.hid (fun w => Tryz.strings_Repeat_zero { data := #[48] } w)
  go_enter Tryz.func33, Tryz.ntmps33
  go_wp2_with fail
  refine (CR.out _).mono ?_
  rintro e w1 ⟨rfl, rfl⟩
  go_wp2
  go_ret
  exact ⟨rfl, rfl⟩
end Go.Proofs.YthhlhiighgnkmaaGreatDoor
