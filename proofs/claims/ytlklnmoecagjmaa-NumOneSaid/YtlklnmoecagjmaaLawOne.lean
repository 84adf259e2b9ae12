/-
  THE WALK of NumOne.
-/
import Derived.Test.YtlklnmoecagjmaaRefE
namespace Go.Proofs.Ytlklnmoecagjmaa
set_option linter.unusedVariables false
set_option linter.unusedSimpArgs false
open Go.RowKit
set_option maxRecDepth 100000 in
set_option maxHeartbeats 4000000 in
theorem numone_walk (a : Nat) (ha : a < 2 ^ 64) (w : World) : Calls Try.prog 4 #[.int .u64 (a : Int)] w (Gives w (.bool true)) := by
  have N1 := fun w => neg_any a ha w
  have N2 := fun w => rneg_any a ha w
  obtain ⟨vN, hN⟩ : ∃ x, Nm.dNeg a = x := ⟨_, rfl⟩
  rw [hN] at N1 N2
  have HN1 := Lib.hid N1
  have HN2 := Lib.hid N2
  clear N1 N2 hN
  have A1 := fun w => abs_any a ha w
  have A2 := fun w => rabs_any a ha w
  obtain ⟨vA, hA⟩ : ∃ x, Nm.dAbs a = x := ⟨_, rfl⟩
  rw [hA] at A1 A2
  have HA1 := Lib.hid A1
  have HA2 := Lib.hid A2
  clear A1 A2 hA
  have S1 := fun w => sgn_any a ha w
  have S2 := fun w => rsgn_any a ha w
  obtain ⟨vS, hS⟩ : ∃ x, dSgn a = x := ⟨_, rfl⟩
  rw [hS] at S1 S2
  have HS1 := Lib.hid S1
  have HS2 := Lib.hid S2
  clear S1 S2 hS
  have Q1 := fun w => sqrt_any a ha w
  have Q2 := fun w => rsqrt_any a ha w
  obtain ⟨vQ, hQ⟩ : ∃ x, Nm.dSqrt a = x := ⟨_, rfl⟩
  rw [hQ] at Q1 Q2
  have HQ1 := Lib.hid Q1
  have HQ2 := Lib.hid Q2
  clear Q1 Q2 hQ
  have F1 := fun w => floor_any a ha w
  have F2 := fun w => rfloor_any a ha w
  obtain ⟨vF, hF⟩ : ∃ x, Nm.dFloor a = x := ⟨_, rfl⟩
  rw [hF] at F1 F2
  have HF1 := Lib.hid F1
  have HF2 := Lib.hid F2
  clear F1 F2 hF
  have C1 := fun w => ceil_any a ha w
  have C2 := fun w => rceil_any a ha w
  obtain ⟨vC, hC⟩ : ∃ x, Nm.dCeil a = x := ⟨_, rfl⟩
  rw [hC] at C1 C2
  have HC1 := Lib.hid C1
  have HC2 := Lib.hid C2
  clear C1 C2 hC
  have T1 := fun w => trunc_any a ha w
  have T2 := fun w => rtrunc_any a ha w
  obtain ⟨vT, hT⟩ : ∃ x, Nm.dTrunc a = x := ⟨_, rfl⟩
  rw [hT] at T1 T2
  have HT1 := Lib.hid T1
  have HT2 := Lib.hid T2
  clear T1 T2 hT
  have D1 := fun w => deg_any a ha w
  have D2 := fun w => rdeg_any a ha w
  obtain ⟨vD, hD⟩ : ∃ x, Nm.dDiv (Nm.dMul a 4640537203540230144) 4614256656552045848 = x := ⟨_, rfl⟩
  rw [hD] at D1 D2
  have HD1 := Lib.hid D1
  have HD2 := Lib.hid D2
  clear D1 D2 hD
  have R1 := fun w => rad_any a ha w
  have R2 := fun w => rrad_any a ha w
  obtain ⟨vR, hR⟩ : ∃ x, Nm.dDiv (Nm.dMul a 4614256656552045848) 4640537203540230144 = x := ⟨_, rfl⟩
  rw [hR] at R1 R2
  have HR1 := Lib.hid R1
  have HR2 := Lib.hid R2
  clear R1 R2 hR
  have NN1 := fun w => nannum_any a ha w
  have NN2 := fun w => rnan_any a ha w
  obtain ⟨bNN, hNN⟩ : ∃ x, Nm.isNaN a = x := ⟨_, rfl⟩
  rw [hNN] at NN1 NN2
  have HNN1 := Lib.hid NN1
  have HNN2 := Lib.hid NN2
  clear NN1 NN2 hNN
  have II1 := fun w => infnum_any a ha w
  have II2 := fun w => rinf_any a ha w
  obtain ⟨bII, hII⟩ : ∃ x, Nm.isInf a = x := ⟨_, rfl⟩
  rw [hII] at II1 II2
  have HII1 := Lib.hid II1
  have HII2 := Lib.hid II2
  clear II1 II2 hII
  have W1 := fun w => whole_any a ha w
  have W2 := fun w => rwhole_any a ha w
  obtain ⟨m, hm⟩ : ∃ x, Nm.dWhole a = x := ⟨_, rfl⟩
  obtain ⟨ok, hok⟩ : ∃ x, Nm.fits a = x := ⟨_, rfl⟩
  rw [hm, hok] at W1 W2
  have HW1 := Lib.hid W1
  have HW2 := Lib.hid W2
  have CK := Lib.hid known_any
  clear W1 W2 hm hok ha
  have BB := Lib.hid (Below.refl w.heap.size w)
  go_enter Try.func4, Try.ntmps4
  go_wp2_with fail
  refine (HN1.out _).mono ?_
  rintro e' wq1 ⟨rfl, rfl⟩
  go_wp2_with fail
  refine (HN2.out _).mono ?_
  rintro e' wq2 ⟨rfl, rfl⟩
  go_wp2_with fail
  refine (HA1.out _).mono ?_
  rintro e' wq3 ⟨rfl, rfl⟩
  go_wp2_with fail
  refine (HA2.out _).mono ?_
  rintro e' wq4 ⟨rfl, rfl⟩
  go_wp2_with fail
  refine (HS1.out _).mono ?_
  rintro e' wm5 ⟨rfl, hb⟩
  have BB := Lib.hid (BB.out.trans (hb.mono BB.out.size))
  clear hb
  go_wp2_with fail
  refine (HS2.out _).mono ?_
  rintro e' wm6 ⟨rfl, hb⟩
  have BB := Lib.hid (BB.out.trans (hb.mono BB.out.size))
  clear hb
  go_wp2_with fail
  refine (HQ1.out _).mono ?_
  rintro e' wm7 ⟨rfl, hb⟩
  have BB := Lib.hid (BB.out.trans (hb.mono BB.out.size))
  clear hb
  go_wp2_with fail
  refine (HQ2.out _).mono ?_
  rintro e' wm8 ⟨rfl, hb⟩
  have BB := Lib.hid (BB.out.trans (hb.mono BB.out.size))
  clear hb
  go_wp2_with fail
  refine (HF1.out _).mono ?_
  rintro e' wm9 ⟨rfl, hb⟩
  have BB := Lib.hid (BB.out.trans (hb.mono BB.out.size))
  clear hb
  go_wp2_with fail
  refine (HF2.out _).mono ?_
  rintro e' wm10 ⟨rfl, hb⟩
  have BB := Lib.hid (BB.out.trans (hb.mono BB.out.size))
  clear hb
  go_wp2_with fail
  refine (HC1.out _).mono ?_
  rintro e' wm11 ⟨rfl, hb⟩
  have BB := Lib.hid (BB.out.trans (hb.mono BB.out.size))
  clear hb
  go_wp2_with fail
  refine (HC2.out _).mono ?_
  rintro e' wm12 ⟨rfl, hb⟩
  have BB := Lib.hid (BB.out.trans (hb.mono BB.out.size))
  clear hb
  go_wp2_with fail
  refine (HT1.out _).mono ?_
  rintro e' wm13 ⟨rfl, hb⟩
  have BB := Lib.hid (BB.out.trans (hb.mono BB.out.size))
  clear hb
  go_wp2_with fail
  refine (HT2.out _).mono ?_
  rintro e' wm14 ⟨rfl, hb⟩
  have BB := Lib.hid (BB.out.trans (hb.mono BB.out.size))
  clear hb
  go_wp2_with fail
  refine (HNN1.out _).mono ?_
  rintro e' wq15 ⟨rfl, rfl⟩
  go_wp2_with fail
  refine (HNN2.out _).mono ?_
  rintro e' wq16 ⟨rfl, rfl⟩
  go_wp2_with fail
  refine (HII1.out _).mono ?_
  rintro e' wq17 ⟨rfl, rfl⟩
  go_wp2_with fail
  refine (HII2.out _).mono ?_
  rintro e' wq18 ⟨rfl, rfl⟩
  go_wp2_with fail
  refine (HD1.out _).mono ?_
  rintro e' wm19 ⟨rfl, hb⟩
  have BB := Lib.hid (BB.out.trans (hb.mono BB.out.size))
  clear hb
  go_wp2_with fail
  refine (HD2.out _).mono ?_
  rintro e' wm20 ⟨rfl, hb⟩
  have BB := Lib.hid (BB.out.trans (hb.mono BB.out.size))
  clear hb
  go_wp2_with fail
  refine (HR1.out _).mono ?_
  rintro e' wm21 ⟨rfl, hb⟩
  have BB := Lib.hid (BB.out.trans (hb.mono BB.out.size))
  clear hb
  go_wp2_with fail
  refine (HR2.out _).mono ?_
  rintro e' wm22 ⟨rfl, hb⟩
  have BB := Lib.hid (BB.out.trans (hb.mono BB.out.size))
  clear hb
  go_wp2_with fail
  refine (HW1.out _).mono ?_
  rintro e' wm23 ⟨rfl, hb⟩
  have BB := Lib.hid (BB.out.trans (hb.mono BB.out.size))
  clear hb
  go_wp2_with fail
  refine (HW2.out _).mono ?_
  rintro e' wm24 ⟨rfl, hb⟩
  have BB := Lib.hid (BB.out.trans (hb.mono BB.out.size))
  clear hb
  go_wp2_with fail
  refine (CK.out _).mono ?_
  rintro e' wm25 ⟨rfl, hb⟩
  have BB := Lib.hid (BB.out.trans (hb.mono BB.out.size))
  clear hb
  go_wp2
  go_ret
  exact ⟨rfl, BB.out⟩
end Go.Proofs.Ytlklnmoecagjmaa
