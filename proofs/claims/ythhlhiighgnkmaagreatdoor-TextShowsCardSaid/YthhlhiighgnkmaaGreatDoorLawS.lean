/-
  WALKS: the law of what is shown.
-/
import Derived.Test.YthhlhiighgnkmaaGreatDoorPtZ
import Derived.Test.YthhlhiighgnkmaaGreatDoorLaidP
import Derived.Test.YthhlhiighgnkmaaGreatDoorKno
namespace Go.Proofs.YthhlhiighgnkmaaGreatDoor
set_option linter.unusedVariables false
set_option linter.unusedSimpArgs false
open Go.RowKit Go.PlainAid
theorem law_shows (m : Int) (b o cap : Nat) (a : Nat) (ha : a < 2 ^ 64) (w : World) (TT : TenTab w b o cap) (TS : ShTab w m) (T : Tabs w m) (ht : PowT w) : Calls Tryz.prog 3 #[.int .u64 (a : Int)] w (Gives w (.bool true)) := by
  have C1 := Lib.hid (fun (w : World) (T : Tabs w m) (ht : PowT w) => cshow_any m a ha w T ht)
  have C2 := Lib.hid (fun (w : World) => rshow_any a ha w)
  have CK := Lib.hid (known_any m b o cap w TT TS)
  have HT := Lib.hid T
  have HP := Lib.hid ht
  obtain ⟨S, hS⟩ : ∃ S, strOf (showS a) = S := ⟨_, rfl⟩
  rw [hS] at C1 C2
  clear hS TT TS T ht ha
  go_enter Tryz.func3, Tryz.ntmps3
  go_wp2_with fail
  refine CK.out.mono ?_
  rintro e w1 ⟨rfl, hb⟩
  have B1 := Lib.hid hb
  have T1 := Lib.hid (HT.out.below hb (by have := HT.out.size; omega))
  have P1 := Lib.hid (HP.out.below hb)
  clear hb
  go_wp2_with fail
  refine (C1.out _ T1.out P1.out).mono ?_
  rintro e w2 ⟨rfl, hb⟩
  have B2 := Lib.hid (B1.out.trans (hb.mono B1.out.size))
  clear hb
  go_wp2_with fail
  refine (C2.out _).mono ?_
  rintro e w3 ⟨rfl, hb⟩
  have B3 := Lib.hid (B2.out.trans (hb.mono B2.out.size))
  clear hb
  go_wp2
  go_ret
  exact ⟨rfl, B3.out⟩
end Go.Proofs.YthhlhiighgnkmaaGreatDoor
