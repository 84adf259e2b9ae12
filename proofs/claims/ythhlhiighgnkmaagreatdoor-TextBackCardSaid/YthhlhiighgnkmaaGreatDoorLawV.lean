/-
  WALKS: the law of what is read back.
-/
import Derived.Test.YthhlhiighgnkmaaGreatDoorPaU
import Derived.Test.YthhlhiighgnkmaaGreatDoorKno
namespace Go.Proofs.YthhlhiighgnkmaaGreatDoor
set_option linter.unusedVariables false
set_option linter.unusedSimpArgs false
open Go.RowKit Go.PlainAid
theorem rnan17 (w : World) : Calls Tryz.prog 17 #[] w fun e w' => e = .returned (.int .u64 ((9221120237041090561 : Nat) : Int)) ∧ w' = w := by
  go_enter Tryz.func17, Tryz.ntmps17
  go_wp2
  go_ret
  exact ⟨rfl, rfl⟩
set_option maxRecDepth 100000 in
theorem law_back (m : Int) (b o cap b2 o2 cap2 : Nat) (a : Nat) (ha : a < 2 ^ 64) (w : World) (TT : TenTab w b o cap) (TS : ShTab w m) (T : Tabs w m) (TN : NumTabs w b2 o2 cap2) (hb : b < w.heap.size) : Calls Tryz.prog 5 #[.int .u64 (a : Int)] w (Gives w (.bool true)) := by
  have C1 := Lib.hid (fun (w : World) (T : Tabs w m) (ht : PowT w) => cshow_any m a ha w T ht)
  have C2 := Lib.hid (fun (w : World) (TN : NumTabs w b2 o2 cap2) => number_show a ha b2 o2 cap2 w TN)
  have CI := Lib.hid (fun (w : World) => Tn.rnan_any a ha w)
  have CN := Lib.hid rnan17
  have CK := Lib.hid (fun (w : World) (TT : TenTab w b o cap) (TS : ShTab w m) => known_any m b o cap w TT TS)
  have HT := Lib.hid T
  have HN := Lib.hid TN
  have HTT := Lib.hid TT
  have HTS := Lib.hid TS
  have Hb := Lib.hid hb
  obtain ⟨S, hS⟩ : ∃ S, strOf (showS a) = S := ⟨_, rfl⟩
  rw [hS] at C1 C2
  have hs18 : Hid (18 ≤ w.heap.size) := Lib.hid TN.s
  have hP := Lib.hid TN.p
  clear TT TS T TN hb hS
  cases hn : Nr.isNaN a
  · rw [hn] at CI
    have hbv : backV a = a := by unfold backV; rw [hn]; rfl
    rw [hbv] at C2
    clear hbv ha hn
    go_enter Tryz.func5, Tryz.ntmps5
    go_wp2_with fail
    refine (C1.out _ HT.out hP.out).mono ?_
    rintro e w1 ⟨rfl, hb⟩
    have B1 := Lib.hid hb
    clear hb
    go_wp2_with fail
    refine (C2.out _ (HN.out.stay B1.out)).mono ?_
    rintro e w2 ⟨rfl, hb⟩
    have B2 := Lib.hid (B1.out.trans (hb.mono B1.out.size))
    clear hb
    go_wp2_with fail
    refine (CI.out _).mono ?_
    rintro e w3 ⟨rfl, rfl⟩
    go_wp2_with fail
    refine (CK.out _ (HTT.out.below B2.out hs18.out Hb.out) (HTS.out.below B2.out (by have := hs18.out; omega))).mono ?_
    rintro e w4 ⟨rfl, hb⟩
    have B3 := Lib.hid (B2.out.trans (hb.mono B2.out.size))
    clear hb
    go_wp2
    go_ret
    exact ⟨rfl, B3.out⟩
  · rw [hn] at CI
    have hbv : backV a = 9221120237041090561 := by unfold backV; rw [hn]; rfl
    rw [hbv] at C2
    clear hbv ha hn
    go_enter Tryz.func5, Tryz.ntmps5
    go_wp2_with fail
    refine (C1.out _ HT.out hP.out).mono ?_
    rintro e w1 ⟨rfl, hb⟩
    have B1 := Lib.hid hb
    clear hb
    go_wp2_with fail
    refine (C2.out _ (HN.out.stay B1.out)).mono ?_
    rintro e w2 ⟨rfl, hb⟩
    have B2 := Lib.hid (B1.out.trans (hb.mono B1.out.size))
    clear hb
    go_wp2_with fail
    refine (CI.out _).mono ?_
    rintro e w3 ⟨rfl, rfl⟩
    go_wp2_with fail
    refine (CN.out _).mono ?_
    rintro e w3 ⟨rfl, rfl⟩
    go_wp2_with fail
    refine (CK.out _ (HTT.out.below B2.out hs18.out Hb.out) (HTS.out.below B2.out (by have := hs18.out; omega))).mono ?_
    rintro e w4 ⟨rfl, hb⟩
    have B3 := Lib.hid (B2.out.trans (hb.mono B2.out.size))
    clear hb
    go_wp2
    go_ret
    exact ⟨rfl, B3.out⟩
end Go.Proofs.YthhlhiighgnkmaaGreatDoor
