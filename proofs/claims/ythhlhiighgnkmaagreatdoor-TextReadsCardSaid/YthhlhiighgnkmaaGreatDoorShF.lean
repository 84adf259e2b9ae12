/-
  WALKS: one tenth is shown: FormatFloat, shortest.
-/
import Derived.Test.YthhlhiighgnkmaaGreatDoorShE
import Derived.OwnWalk
namespace Go.Proofs.YthhlhiighgnkmaaGreatDoor
set_option linter.unusedVariables false
set_option linter.unusedSimpArgs false
open Go.RowKit Go.PlainAid
set_option maxRecDepth 100000 in
set_option maxHeartbeats 1000000 in
theorem format_tenth (m : Int) (w : World) (T : ShTab w m) :
    Calls Tryz.prog 119 #[.float .f64 4591870180066957722, .int .u8 101, .int .i64 (-1), .int .i64 64] w (Gives w (.string (strOf [49, 101, 45, 48, 49]))) := by
  obtain ⟨i0, hi, hz0, hz1, hz2⟩ := info_parts info5
  have CF := Lib.hid (fun w1 v hO hb T => ftoa_tenth w.heap.size m w1 v hO hb T)
  have HT := Lib.hid T
  have hmax : max (3 : Int) 24 = 24 := by decide
  clear T
  go_enter Tryz.func119, Tryz.ntmps119
  go_wp2_with (refine wpList_make_own _ rfl (.const (.int .i64 0)) (.tmp 25) 87 rfl w.heap.size 5 i0 (.int .u8 0) 1 Tryz.underlying87 hi hz0 hz1 .i64 .i64 24 24 rfl rfl rfl (by rw [hz2]; decide) (by decide) (Nat.le_refl _) ?_; intro w1 hown hgr; have O1 := Lib.hid (show Own w1 w.heap.size (.slice (some ⟨w.heap.size, 0, none⟩) 0 24) [] from hown); have B1 := Lib.hid ((Below.refl w.heap.size w).grown hgr (Nat.le_refl _) (fun k hk => by cases hk)); clear hown hgr)
  refine (CF.out _ _ O1.out B1.out.size (HT.out.below B1.out (by have := HT.out.size; omega))).mono ?_
  rintro e w2 ⟨v2, rfl, ho, hb⟩
  have hcv := conv_own ho (by unfold IsB; decide)
  have B2 := Lib.hid (B1.out.trans hb)
  clear ho hb
  go_wp2
  go_ret
  exact ⟨rfl, B2.out⟩
theorem format70_tenth (m : Int) (w : World) (T : ShTab w m) :
    Calls Tryz.prog 70 #[.float .f64 4591870180066957722, .int .u8 101, .int .i64 (-1), .int .i64 64] w (Gives w (.string (strOf [49, 101, 45, 48, 49]))) := by
  have CF := Lib.hid (format_tenth m w T)
  obtain ⟨S, hS⟩ : ∃ S, strOf [49, 101, 45, 48, 49] = S := ⟨_, rfl⟩
  rw [hS] at CF ⊢
  clear hS T
  go_enter Tryz.func70, Tryz.ntmps70
  go_wp2_with fail
  refine CF.out.mono ?_
  rintro e w2 ⟨rfl, hb⟩
  have B2 := Lib.hid hb
  clear hb
  go_wp2
  go_ret
  exact ⟨rfl, B2.out⟩
theorem from68 (a : Nat) (w : World) : (callFunc 68 #[.int .u64 (a : Int)]).run Tryz.prog w = .ok (.value (.float .f64 a)) w := by
  rw [run_callFunc_extern (e := Extern.MathFloatBits.float64frombits) Tryz.func68 (by kernel_rfl) (by kernel_rfl) (by kernel_rfl) (by kernel_rfl)]
  rw [show Extern.MathFloatBits.float64frombits #[.int .u64 (a : Int)] = pure (.float .f64 (a : Int).toNat) from rfl, Int.toNat_natCast]
  rfl
theorem cut_tenth : Lib.cut (strOf [49, 101, 45, 48, 49]).data.toList (ByteArray.mk #[101]).data.toList = ([49], [45, 48, 49], true) := by decide +kernel
set_option maxRecDepth 100000 in
set_option maxHeartbeats 1000000 in
theorem shortest_tenth (m : Int) (w : World) (T : ShTab w m) :
    Calls Tryz.prog 34 #[.int .u64 4591870180066957722] w (Gives w (.tuple #[.string { data := #[49] }, .int .i64 0])) := by
  have h68 : ∀ w, (callFunc 68 #[.int .u64 4591870180066957722]).run Tryz.prog w = .ok (.value (.float .f64 4591870180066957722)) w := fun w => from68 4591870180066957722 w
  have CF := Lib.hid (format70_tenth m w T)
  have CC := Lib.hid (fun w1 (T : ShTab w1 m) => Tryz.strings_Cut (strOf [49, 101, 45, 48, 49]) { data := #[101] } m w1 (by decide) T.max)
  rw [cut_tenth] at CC
  have CA := Lib.hid (fun w1 => Tryz.strconv_Atoi_ok { data := #[45, 48, 49] } (by decide) (-1) (by decide +kernel) w1)
  have CR := Lib.hid (fun w1 (T : ShTab w1 m) => Tryz.strings_Replace_absent { data := #[49] } { data := #[46] } { data := #[] } 1 m w1 (by decide) T.max (by decide) (by decide) (by decide) (by decide +kernel))
  have HT := Lib.hid T
  obtain ⟨S, hS⟩ : ∃ S, strOf [49, 101, 45, 48, 49] = S := ⟨_, rfl⟩
  rw [hS] at CF CC
  clear hS T
  go_enter Tryz.func34, Tryz.ntmps34
  go_wp2_with fail
  refine CF.out.mono ?_
  rintro e w2 ⟨rfl, hb⟩
  have B2 := Lib.hid hb
  have T2 := Lib.hid (HT.out.below hb (by have := HT.out.size; omega))
  clear hb
  go_wp2_with fail
  refine (CC.out w2 T2.out).mono ?_
  rintro e w3 ⟨rfl, n3, rfl⟩
  go_wp2_with fail
  refine (CA.out _).mono ?_
  rintro e w4 ⟨rfl, hw4⟩
  have B4 := Lib.hid (show Below (w2.drewN n3).heap.size (w2.drewN n3) w4 by
    rcases hw4 with rfl | ⟨t, rfl⟩
    · exact Below.refl _ _
    · exact Lib.bytesWorld_below _ 5 t)
  have T4 := Lib.hid (T2.out.below (w' := w4) (B := w2.heap.size) ((below_drewN (Below.refl w2.heap.size w2) n3).trans B4.out) (by have := T2.out.size; omega))
  have B5 := Lib.hid ((below_drewN B2.out n3).trans (B4.out.mono (B2.out.size)))
  clear hw4
  go_wp2_with fail
  refine (CR.out w4 T4.out).mono ?_
  rintro e w5 ⟨rfl, rfl⟩
  go_wp2
  go_ret2
  exact ⟨rfl, B5.out⟩
end Go.Proofs.YthhlhiighgnkmaaGreatDoor
