/-
  THE LAW NumTurns, walked.
-/
import Derived.Test.YtffohkpohgkglaaGreatCurveW
import Derived.Test.YtffohkpohgkglaaGreatCurveV
import Derived.Test.YtffohkpohgkglaaGreatWalkF
namespace Go.Proofs.YtffohkpohgkglaaGreat
set_option linter.unusedVariables false
set_option linter.unusedSimpArgs false
open Go.RowKit
set_option maxHeartbeats 8000000 in
theorem numturns_walk (a : Nat) (ha : a < 2 ^ 64) (w : World) : Calls Tryz.prog 4 #[.int .u64 (a : Int)] w (Gives w (.bool true)) := by
  have CK := Lib.hid (fun w => known_any w)
  have C0 := Lib.hid (fun w => sin_any a ha w)
  have D0 := Lib.hid (fun w => rsin_any a ha w)
  obtain ⟨v0, h0⟩ : ∃ vv, dQuart a 0 = vv := ⟨_, rfl⟩
  rw [h0] at C0 D0
  clear h0
  have C1 := Lib.hid (fun w => cos_any a ha w)
  have D1 := Lib.hid (fun w => rcos_any a ha w)
  obtain ⟨v1, h1⟩ : ∃ vv, dQuart a 1 = vv := ⟨_, rfl⟩
  rw [h1] at C1 D1
  clear h1
  have C2 := Lib.hid (fun w => tan_any a ha w)
  have D2 := Lib.hid (fun w => rtan_any a ha w)
  obtain ⟨v2, h2⟩ : ∃ vv, dTan a = vv := ⟨_, rfl⟩
  rw [h2] at C2 D2
  clear h2
  have C3 := Lib.hid (fun w => asin_any a ha w)
  have D3 := Lib.hid (fun w => rasin_any a ha w)
  obtain ⟨v3, h3⟩ : ∃ vv, dAsin a = vv := ⟨_, rfl⟩
  rw [h3] at C3 D3
  clear h3
  have C4 := Lib.hid (fun w => acos_any a ha w)
  have D4 := Lib.hid (fun w => racos_any a ha w)
  obtain ⟨v4, h4⟩ : ∃ vv, dAcos a = vv := ⟨_, rfl⟩
  rw [h4] at C4 D4
  clear h4
  have C5 := Lib.hid (fun w => atan_any a ha w)
  have D5 := Lib.hid (fun w => ratan_any a ha w)
  obtain ⟨v5, h5⟩ : ∃ vv, dAtan a = vv := ⟨_, rfl⟩
  rw [h5] at C5 D5
  clear h5
  clear ha
  have BB := Lib.hid (Below.refl w.heap.size w)
  go_enter Tryz.func4, Tryz.ntmps4
  go_wp2_with fail
  refine (C0.out _).mono ?_
  rintro e' wm1 ⟨rfl, hb⟩
  have BB := Lib.hid (BB.out.trans (hb.mono BB.out.size))
  clear hb
  go_wp2_with fail
  refine (D0.out _).mono ?_
  rintro e' wm2 ⟨rfl, hb⟩
  have BB := Lib.hid (BB.out.trans (hb.mono BB.out.size))
  clear hb
  go_wp2_with fail
  refine (C1.out _).mono ?_
  rintro e' wm3 ⟨rfl, hb⟩
  have BB := Lib.hid (BB.out.trans (hb.mono BB.out.size))
  clear hb
  go_wp2_with fail
  refine (D1.out _).mono ?_
  rintro e' wm4 ⟨rfl, hb⟩
  have BB := Lib.hid (BB.out.trans (hb.mono BB.out.size))
  clear hb
  go_wp2_with fail
  refine (C2.out _).mono ?_
  rintro e' wm5 ⟨rfl, hb⟩
  have BB := Lib.hid (BB.out.trans (hb.mono BB.out.size))
  clear hb
  go_wp2_with fail
  refine (D2.out _).mono ?_
  rintro e' wm6 ⟨rfl, hb⟩
  have BB := Lib.hid (BB.out.trans (hb.mono BB.out.size))
  clear hb
  go_wp2_with fail
  refine (C3.out _).mono ?_
  rintro e' wm7 ⟨rfl, hb⟩
  have BB := Lib.hid (BB.out.trans (hb.mono BB.out.size))
  clear hb
  go_wp2_with fail
  refine (D3.out _).mono ?_
  rintro e' wm8 ⟨rfl, hb⟩
  have BB := Lib.hid (BB.out.trans (hb.mono BB.out.size))
  clear hb
  go_wp2_with fail
  refine (C4.out _).mono ?_
  rintro e' wm9 ⟨rfl, hb⟩
  have BB := Lib.hid (BB.out.trans (hb.mono BB.out.size))
  clear hb
  go_wp2_with fail
  refine (D4.out _).mono ?_
  rintro e' wm10 ⟨rfl, hb⟩
  have BB := Lib.hid (BB.out.trans (hb.mono BB.out.size))
  clear hb
  go_wp2_with fail
  refine (C5.out _).mono ?_
  rintro e' wm11 ⟨rfl, hb⟩
  have BB := Lib.hid (BB.out.trans (hb.mono BB.out.size))
  clear hb
  go_wp2_with fail
  refine (D5.out _).mono ?_
  rintro e' wm12 ⟨rfl, hb⟩
  have BB := Lib.hid (BB.out.trans (hb.mono BB.out.size))
  clear hb
  go_wp2_with fail
  refine (CK.out _).mono ?_
  rintro e' wm13 ⟨rfl, hb⟩
  have BB := Lib.hid (BB.out.trans (hb.mono BB.out.size))
  clear hb
  go_wp2
  go_ret
  exact ⟨rfl, BB.out⟩
end Go.Proofs.YtffohkpohgkglaaGreat
