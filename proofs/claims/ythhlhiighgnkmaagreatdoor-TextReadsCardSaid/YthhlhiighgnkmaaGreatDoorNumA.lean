/-
  WALKS: ".1" is read: what Go's library does with ".1e0".
-/
import Derived.Test.YthhlhiighgnkmaaGreatDoorDurD
import Derived.WalkMore
namespace Go.Proofs.YthhlhiighgnkmaaGreatDoor
set_option linter.unusedVariables false
set_option linter.unusedSimpArgs false
open Go.RowKit Go.PlainAid
theorem special_dot (S : ByteArray) (hs : S.size = 4) (h0 : bt S 0 = 46) (w : World) : Calls Tryz.prog 243 #[.string S] w fun e w' => e = .returned (.tuple #[.float .f64 0, .int .i64 0, .bool false]) ∧ w' = w := by
  have hbt := get_bt S
  go_enter Tryz.func243, Tryz.ntmps243
  go_wp2
  go_returns
  exact ⟨rfl, rfl⟩
theorem lower_e (w : World) : Calls Tryz.prog 218 #[.int .u8 101] w fun e w' => e = .returned (.int .u8 101) ∧ w' = w := by
  go_enter Tryz.func218, Tryz.ntmps218
  go_wp2
  go_ret
  exact ⟨rfl, rfl⟩
set_option maxRecDepth 100000 in
set_option maxHeartbeats 2000000 in
theorem readfloat_dot (S : ByteArray) (hs : S.size = 4) (h0 : bt S 0 = 46) (h1 : bt S 1 = 49) (h2 : bt S 2 = 101) (h3 : bt S 3 = 48) (w : World) : Calls Tryz.prog 244 #[.string S] w fun e w' => e = .returned (.tuple #[.int .u64 1, .int .i64 (-1), .bool false, .bool false, .bool false, .int .i64 4, .bool true]) ∧ w' = w := by
  have hbt := get_bt S
  have CE := Lib.hid lower_e
  go_enter Tryz.func244, Tryz.ntmps244
  go_wp2
  go_step3
  go_wp2
  go_step3
  go_wp2
  refine wp_loop_rounds 4 ?_
  rw [rounds_succ]
  go_wp2
  rw [rounds_succ]
  go_wp2
  rw [rounds_succ]
  go_wp2_with fail
  refine (CE.out _).mono ?_
  rintro e w1 ⟨rfl, rfl⟩
  go_wp2
  refine wp_loop_rounds 3 ?_
  rw [rounds_succ]
  go_wp2
  rw [rounds_succ]
  go_wp2
  rw [Exit.noGoto_ret]
  show bodyPost Tryz.prog Tryz.f244 _ _ _ _
  go_returns
  exact ⟨rfl, rfl⟩
end Go.Proofs.YthhlhiighgnkmaaGreatDoor
