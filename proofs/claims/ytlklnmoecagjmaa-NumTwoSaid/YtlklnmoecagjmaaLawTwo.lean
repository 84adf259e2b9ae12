/-
  THE WALK of NumTwo.
-/
import Derived.Test.YtlklnmoecagjmaaRefH
namespace Go.Proofs.Ytlklnmoecagjmaa
set_option linter.unusedVariables false
set_option linter.unusedSimpArgs false
open Go.RowKit
set_option maxRecDepth 100000 in
set_option maxHeartbeats 4000000 in
theorem numtwo_walk (a b : Nat) (ha : a < 2 ^ 64) (hb : b < 2 ^ 64) (w : World) : Calls Try.prog 3 #[.int .u64 (a : Int), .int .u64 (b : Int)] w (Gives w (.bool true)) := by
  have A1 := fun w => add_any a b ha hb w
  have A2 := fun w => radd_any a b ha hb w
  obtain ⟨vA, hA⟩ : ∃ x, Nm.dAdd a b = x := ⟨_, rfl⟩
  rw [hA] at A1 A2
  have HA1 := Lib.hid A1
  have HA2 := Lib.hid A2
  clear A1 A2 hA
  have S1 := fun w => sub_any a b ha hb w
  have S2 := fun w => rsub_any a b ha hb w
  obtain ⟨vS, hS⟩ : ∃ x, Nm.dSub a b = x := ⟨_, rfl⟩
  rw [hS] at S1 S2
  have HS1 := Lib.hid S1
  have HS2 := Lib.hid S2
  clear S1 S2 hS
  have M1 := fun w => mul_any a b ha hb w
  have M2 := fun w => rmul_any a b ha hb w
  obtain ⟨vM, hM⟩ : ∃ x, Nm.dMul a b = x := ⟨_, rfl⟩
  rw [hM] at M1 M2
  have HM1 := Lib.hid M1
  have HM2 := Lib.hid M2
  clear M1 M2 hM
  have D1 := fun w => div_any a b ha hb w
  have D2 := fun w => rdiv_any a b ha hb w
  obtain ⟨vD, hD⟩ : ∃ x, Nm.dDiv a b = x := ⟨_, rfl⟩
  rw [hD] at D1 D2
  have HD1 := Lib.hid D1
  have HD2 := Lib.hid D2
  clear D1 D2 hD
  have O1 := fun w => mod_any a b ha hb w
  have O2 := fun w => rmod_any a b ha hb w
  obtain ⟨vO, hO⟩ : ∃ x, Nm.dMod a b = x := ⟨_, rfl⟩
  rw [hO] at O1 O2
  have HO1 := Lib.hid O1
  have HO2 := Lib.hid O2
  clear O1 O2 hO
  have L1 := fun w => min_any a b ha hb w
  have L2 := fun w => rmin_any a b ha hb w
  obtain ⟨vL, hL⟩ : ∃ x, Nm.dMin a b = x := ⟨_, rfl⟩
  rw [hL] at L1 L2
  have HL1 := Lib.hid L1
  have HL2 := Lib.hid L2
  clear L1 L2 hL
  have H1 := fun w => max_any a b ha hb w
  have H2 := fun w => rmax_any a b ha hb w
  obtain ⟨vH, hH⟩ : ∃ x, Nm.dMax a b = x := ⟨_, rfl⟩
  rw [hH] at H1 H2
  have HH1 := Lib.hid H1
  have HH2 := Lib.hid H2
  clear H1 H2 hH
  have N1 := fun w => near_any a b ha hb w
  have N2 := fun w => rnear_any a b ha hb w
  obtain ⟨vN, hN⟩ : ∃ x, dNearest a b = x := ⟨_, rfl⟩
  rw [hN] at N1 N2
  have HN1 := Lib.hid N1
  have HN2 := Lib.hid N2
  clear N1 N2 hN
  have C1 := fun w => cmp_any a b ha hb w
  have C2 := fun w => rcmp_any a b ha hb w
  have R1 := fun w => order_any a b ha hb w
  have R2 := fun w => rorder_any a b ha hb w
  obtain ⟨c, hc⟩ : ∃ x, Nm.dCmp a b = x := ⟨_, rfl⟩
  obtain ⟨ok, hok⟩ : ∃ x, Nm.dCok a b = x := ⟨_, rfl⟩
  obtain ⟨o, ho⟩ : ∃ x, Nm.dOrder a b = x := ⟨_, rfl⟩
  rw [hc, hok] at C1 C2
  rw [ho] at R1 R2
  have HC1 := Lib.hid C1
  have HC2 := Lib.hid C2
  have HR1 := Lib.hid R1
  have HR2 := Lib.hid R2
  have CK := Lib.hid known_any
  clear C1 C2 R1 R2 hc hok ho ha hb
  have BB := Lib.hid (Below.refl w.heap.size w)
  go_enter Try.func3, Try.ntmps3
  go_wp2_with fail
  refine (HA1.out _).mono ?_
  rintro e' wm1 ⟨rfl, hb⟩
  have BB := Lib.hid (BB.out.trans (hb.mono BB.out.size))
  clear hb
  go_wp2_with fail
  refine (HA2.out _).mono ?_
  rintro e' wm2 ⟨rfl, hb⟩
  have BB := Lib.hid (BB.out.trans (hb.mono BB.out.size))
  clear hb
  go_wp2_with fail
  refine (HS1.out _).mono ?_
  rintro e' wm3 ⟨rfl, hb⟩
  have BB := Lib.hid (BB.out.trans (hb.mono BB.out.size))
  clear hb
  go_wp2_with fail
  refine (HS2.out _).mono ?_
  rintro e' wm4 ⟨rfl, hb⟩
  have BB := Lib.hid (BB.out.trans (hb.mono BB.out.size))
  clear hb
  go_wp2_with fail
  refine (HM1.out _).mono ?_
  rintro e' wm5 ⟨rfl, hb⟩
  have BB := Lib.hid (BB.out.trans (hb.mono BB.out.size))
  clear hb
  go_wp2_with fail
  refine (HM2.out _).mono ?_
  rintro e' wm6 ⟨rfl, hb⟩
  have BB := Lib.hid (BB.out.trans (hb.mono BB.out.size))
  clear hb
  go_wp2_with fail
  refine (HD1.out _).mono ?_
  rintro e' wm7 ⟨rfl, hb⟩
  have BB := Lib.hid (BB.out.trans (hb.mono BB.out.size))
  clear hb
  go_wp2_with fail
  refine (HD2.out _).mono ?_
  rintro e' wm8 ⟨rfl, hb⟩
  have BB := Lib.hid (BB.out.trans (hb.mono BB.out.size))
  clear hb
  go_wp2_with fail
  refine (HO1.out _).mono ?_
  rintro e' wm9 ⟨rfl, hb⟩
  have BB := Lib.hid (BB.out.trans (hb.mono BB.out.size))
  clear hb
  go_wp2_with fail
  refine (HO2.out _).mono ?_
  rintro e' wm10 ⟨rfl, hb⟩
  have BB := Lib.hid (BB.out.trans (hb.mono BB.out.size))
  clear hb
  go_wp2_with fail
  refine (HL1.out _).mono ?_
  rintro e' wm11 ⟨rfl, hb⟩
  have BB := Lib.hid (BB.out.trans (hb.mono BB.out.size))
  clear hb
  go_wp2_with fail
  refine (HL2.out _).mono ?_
  rintro e' wm12 ⟨rfl, hb⟩
  have BB := Lib.hid (BB.out.trans (hb.mono BB.out.size))
  clear hb
  go_wp2_with fail
  refine (HH1.out _).mono ?_
  rintro e' wm13 ⟨rfl, hb⟩
  have BB := Lib.hid (BB.out.trans (hb.mono BB.out.size))
  clear hb
  go_wp2_with fail
  refine (HH2.out _).mono ?_
  rintro e' wm14 ⟨rfl, hb⟩
  have BB := Lib.hid (BB.out.trans (hb.mono BB.out.size))
  clear hb
  go_wp2_with fail
  refine (HN1.out _).mono ?_
  rintro e' wm15 ⟨rfl, hb⟩
  have BB := Lib.hid (BB.out.trans (hb.mono BB.out.size))
  clear hb
  go_wp2_with fail
  refine (HN2.out _).mono ?_
  rintro e' wm16 ⟨rfl, hb⟩
  have BB := Lib.hid (BB.out.trans (hb.mono BB.out.size))
  clear hb
  go_wp2_with fail
  refine (HC1.out _).mono ?_
  rintro e' wq17 ⟨rfl, rfl⟩
  go_wp2_with fail
  refine (HC2.out _).mono ?_
  rintro e' wm18 ⟨rfl, hb⟩
  have BB := Lib.hid (BB.out.trans (hb.mono BB.out.size))
  clear hb
  go_wp2_with fail
  refine (CK.out _).mono ?_
  rintro e' wm19 ⟨rfl, hb⟩
  have BB := Lib.hid (BB.out.trans (hb.mono BB.out.size))
  clear hb
  go_wp2_with fail
  refine (HR1.out _).mono ?_
  rintro e' wq20 ⟨rfl, rfl⟩
  go_wp2_with fail
  refine (HR2.out _).mono ?_
  rintro e' wm21 ⟨rfl, hb⟩
  have BB := Lib.hid (BB.out.trans (hb.mono BB.out.size))
  clear hb
  go_wp2
  go_ret
  exact ⟨rfl, BB.out⟩
end Go.Proofs.Ytlklnmoecagjmaa
