/-
  THE LAW NumCurves, walked.
-/
import Derived.Test.YtffohkpohgkglaaGreatCurveW
import Derived.Test.YtffohkpohgkglaaGreatCurveX
import Derived.Test.YtffohkpohgkglaaGreatWalkF
namespace Go.Proofs.YtffohkpohgkglaaGreat
set_option linter.unusedVariables false
set_option linter.unusedSimpArgs false
open Go.RowKit
set_option maxHeartbeats 8000000 in
theorem numcurves_walk (a : Nat) (ha : a < 2 ^ 64) (w : World) : Calls Tryz.prog 3 #[.int .u64 (a : Int)] w (Gives w (.bool true)) := by
  have CK := Lib.hid (fun w => known_any w)
  have C0 := Lib.hid (fun w => exp_any a ha w)
  have D0 := Lib.hid (fun w => rexp_any a ha w)
  obtain ⟨v0, h0⟩ : ∃ vv, dExp a = vv := ⟨_, rfl⟩
  rw [h0] at C0 D0
  clear h0
  have C1 := Lib.hid (fun w => ln_any a ha w)
  have D1 := Lib.hid (fun w => rln_any a ha w)
  obtain ⟨v1, h1⟩ : ∃ vv, dLn a = vv := ⟨_, rfl⟩
  rw [h1] at C1 D1
  clear h1
  have C2 := Lib.hid (fun w => log2_any a ha w)
  have D2 := Lib.hid (fun w => rlog2_any a ha w)
  obtain ⟨v2, h2⟩ : ∃ vv, dLog2 a = vv := ⟨_, rfl⟩
  rw [h2] at C2 D2
  clear h2
  have C3 := Lib.hid (fun w => log10_any a ha w)
  have D3 := Lib.hid (fun w => rlog10_any a ha w)
  obtain ⟨v3, h3⟩ : ∃ vv, dLog10 a = vv := ⟨_, rfl⟩
  rw [h3] at C3 D3
  clear h3
  have C4 := Lib.hid (fun w => sinh_any a ha w)
  have D4 := Lib.hid (fun w => rsinh_any a ha w)
  obtain ⟨v4, h4⟩ : ∃ vv, dSinh a = vv := ⟨_, rfl⟩
  rw [h4] at C4 D4
  clear h4
  have C5 := Lib.hid (fun w => cosh_any a ha w)
  have D5 := Lib.hid (fun w => rcosh_any a ha w)
  obtain ⟨v5, h5⟩ : ∃ vv, dCosh a = vv := ⟨_, rfl⟩
  rw [h5] at C5 D5
  clear h5
  have C6 := Lib.hid (fun w => tanh_any a ha w)
  have D6 := Lib.hid (fun w => rtanh_any a ha w)
  obtain ⟨v6, h6⟩ : ∃ vv, dTanh a = vv := ⟨_, rfl⟩
  rw [h6] at C6 D6
  clear h6
  have C7 := Lib.hid (fun w => asinh_any a ha w)
  have D7 := Lib.hid (fun w => rasinh_any a ha w)
  obtain ⟨v7, h7⟩ : ∃ vv, dAsinh a = vv := ⟨_, rfl⟩
  rw [h7] at C7 D7
  clear h7
  have C8 := Lib.hid (fun w => acosh_any a ha w)
  have D8 := Lib.hid (fun w => racosh_any a ha w)
  obtain ⟨v8, h8⟩ : ∃ vv, dAcosh a = vv := ⟨_, rfl⟩
  rw [h8] at C8 D8
  clear h8
  have C9 := Lib.hid (fun w => atanh_any a ha w)
  have D9 := Lib.hid (fun w => ratanh_any a ha w)
  obtain ⟨v9, h9⟩ : ∃ vv, dAtanh a = vv := ⟨_, rfl⟩
  rw [h9] at C9 D9
  clear h9
  clear ha
  have BB := Lib.hid (Below.refl w.heap.size w)
  go_enter Tryz.func3, Tryz.ntmps3
  go_wp2_with fail
  refine (C0.out _).mono ?_
  rintro e' wm1 ⟨rfl, hb⟩
  have BB := Lib.hid (BB.out.trans (hb.mono BB.out.size))
  clear hb
  go_wp2_with fail
  refine (D0.out _).mono ?_
  rintro e' wm2 ⟨rfl, hb⟩
  have BB := Lib.hid (BB.out.trans (hb.mono BB.out.size))
  clear hb
  go_wp2_with fail
  refine (C1.out _).mono ?_
  rintro e' wm3 ⟨rfl, hb⟩
  have BB := Lib.hid (BB.out.trans (hb.mono BB.out.size))
  clear hb
  go_wp2_with fail
  refine (D1.out _).mono ?_
  rintro e' wm4 ⟨rfl, hb⟩
  have BB := Lib.hid (BB.out.trans (hb.mono BB.out.size))
  clear hb
  go_wp2_with fail
  refine (C2.out _).mono ?_
  rintro e' wm5 ⟨rfl, hb⟩
  have BB := Lib.hid (BB.out.trans (hb.mono BB.out.size))
  clear hb
  go_wp2_with fail
  refine (D2.out _).mono ?_
  rintro e' wm6 ⟨rfl, hb⟩
  have BB := Lib.hid (BB.out.trans (hb.mono BB.out.size))
  clear hb
  go_wp2_with fail
  refine (C3.out _).mono ?_
  rintro e' wm7 ⟨rfl, hb⟩
  have BB := Lib.hid (BB.out.trans (hb.mono BB.out.size))
  clear hb
  go_wp2_with fail
  refine (D3.out _).mono ?_
  rintro e' wm8 ⟨rfl, hb⟩
  have BB := Lib.hid (BB.out.trans (hb.mono BB.out.size))
  clear hb
  go_wp2_with fail
  refine (C4.out _).mono ?_
  rintro e' wm9 ⟨rfl, hb⟩
  have BB := Lib.hid (BB.out.trans (hb.mono BB.out.size))
  clear hb
  go_wp2_with fail
  refine (D4.out _).mono ?_
  rintro e' wm10 ⟨rfl, hb⟩
  have BB := Lib.hid (BB.out.trans (hb.mono BB.out.size))
  clear hb
  go_wp2_with fail
  refine (C5.out _).mono ?_
  rintro e' wm11 ⟨rfl, hb⟩
  have BB := Lib.hid (BB.out.trans (hb.mono BB.out.size))
  clear hb
  go_wp2_with fail
  refine (D5.out _).mono ?_
  rintro e' wm12 ⟨rfl, hb⟩
  have BB := Lib.hid (BB.out.trans (hb.mono BB.out.size))
  clear hb
  go_wp2_with fail
  refine (C6.out _).mono ?_
  rintro e' wm13 ⟨rfl, hb⟩
  have BB := Lib.hid (BB.out.trans (hb.mono BB.out.size))
  clear hb
  go_wp2_with fail
  refine (D6.out _).mono ?_
  rintro e' wm14 ⟨rfl, hb⟩
  have BB := Lib.hid (BB.out.trans (hb.mono BB.out.size))
  clear hb
  go_wp2_with fail
  refine (C7.out _).mono ?_
  rintro e' wm15 ⟨rfl, hb⟩
  have BB := Lib.hid (BB.out.trans (hb.mono BB.out.size))
  clear hb
  go_wp2_with fail
  refine (D7.out _).mono ?_
  rintro e' wm16 ⟨rfl, hb⟩
  have BB := Lib.hid (BB.out.trans (hb.mono BB.out.size))
  clear hb
  go_wp2_with fail
  refine (C8.out _).mono ?_
  rintro e' wm17 ⟨rfl, hb⟩
  have BB := Lib.hid (BB.out.trans (hb.mono BB.out.size))
  clear hb
  go_wp2_with fail
  refine (D8.out _).mono ?_
  rintro e' wm18 ⟨rfl, hb⟩
  have BB := Lib.hid (BB.out.trans (hb.mono BB.out.size))
  clear hb
  go_wp2_with fail
  refine (C9.out _).mono ?_
  rintro e' wm19 ⟨rfl, hb⟩
  have BB := Lib.hid (BB.out.trans (hb.mono BB.out.size))
  clear hb
  go_wp2_with fail
  refine (D9.out _).mono ?_
  rintro e' wm20 ⟨rfl, hb⟩
  have BB := Lib.hid (BB.out.trans (hb.mono BB.out.size))
  clear hb
  go_wp2_with fail
  refine (CK.out _).mono ?_
  rintro e' wm21 ⟨rfl, hb⟩
  have BB := Lib.hid (BB.out.trans (hb.mono BB.out.size))
  clear hb
  go_wp2
  go_ret
  exact ⟨rfl, BB.out⟩
end Go.Proofs.YtffohkpohgkglaaGreat
