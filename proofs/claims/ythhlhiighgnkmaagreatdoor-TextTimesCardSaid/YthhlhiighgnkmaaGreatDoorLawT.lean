/-
  WALKS: the law of durations and times that are written.
-/
import Derived.Test.YthhlhiighgnkmaaGreatDoorTwJ
import Derived.Test.YthhlhiighgnkmaaGreatDoorLawR
namespace Go.Proofs.YthhlhiighgnkmaaGreatDoor
set_option linter.unusedVariables false
set_option linter.unusedSimpArgs false
open Go.RowKit Go.PlainAid
set_option maxRecDepth 100000 in
set_option maxHeartbeats 1000000 in
theorem law_times (m : Int) (a o cap : Nat) (v : Int) (w : World) (TT : TenTab w a o cap) (TS : ShTab w m) (hg : w.cell? ⟨0, 0, none⟩ = some (rt 60)) (hE : ErrR w) (hP : PowT w) : Calls Tryz.prog 7 #[.int .i64 v] w (Gives w (.bool true)) := by
  obtain ⟨b1, F1, r0, hB1, f1, l1, A1, A3, hr0, k1⟩ := dur_case v
  obtain ⟨b2, F2, hB2, f2, l2, A2, A4, k2⟩ := time_case v
  have C1 := Lib.hid A1
  have C2 := Lib.hid A2
  have C3 := Lib.hid A3
  have C4 := Lib.hid A4
  have C5 := Lib.hid (fun w hg hE => readdur_any b1 r0 (by rw [if_neg (by omega)]; exact hr0) hB1 w hg hE)
  have C6 := Lib.hid (fun w hg hE => readtime_any b2 hB2 w hg hE)
  obtain ⟨R1, hR1⟩ : ∃ R, natI r0 = R := ⟨_, rfl⟩
  obtain ⟨R2, hR2⟩ : ∃ R, timeR b2 = R := ⟨_, rfl⟩
  rw [hR1] at C5 k1
  rw [hR2] at C6 k2
  obtain ⟨S1, hS1⟩ : ∃ S, strOf b1 = S := ⟨_, rfl⟩
  obtain ⟨S2, hS2⟩ : ∃ S, strOf b2 = S := ⟨_, rfl⟩
  rw [hS1] at C1 C3 C5
  rw [hS2] at C2 C4 C6
  have CK := Lib.hid (fun w T1 T2 => known_any m a o cap w T1 T2)
  have HT := Lib.hid TT
  have HS := Lib.hid TS
  have HG := Lib.hid hg
  have HG0 := Lib.hid (zero_lt hg)
  have HE := Lib.hid hE
  have HP := Lib.hid hP
  have e1 : IntKind.i64.wrap (F1 : Int) = (F1 : Int) := by rw [IntKind.wrap_i64]; omega
  have e2 : IntKind.i64.wrap (F2 : Int) = (F2 : Int) := by rw [IntKind.wrap_i64]; omega
  have K1 := Lib.hid (show F1 = 0 → tErr R1 = 0 ∧ tVal R1 = v from fun h => by rw [k1 h]; exact ⟨rfl, rfl⟩)
  have K2 := Lib.hid (show F2 = 0 → tErr R2 = 0 ∧ tVal R2 = v from fun h => by rw [k2 h]; exact ⟨rfl, rfl⟩)
  clear hB1 hB2 l1 l2 A1 A2 A3 A4 hr0 k1 k2 hR1 hR2 hS1 hS2 TT TS hg hE hP
  obtain ⟨V1, hV1⟩ : ∃ A, tVal R1 = A := ⟨_, rfl⟩
  obtain ⟨E1, hE1⟩ : ∃ A, tErr R1 = A := ⟨_, rfl⟩
  obtain ⟨V2, hV2⟩ : ∃ A, tVal R2 = A := ⟨_, rfl⟩
  obtain ⟨E2, hE2⟩ : ∃ A, tErr R2 = A := ⟨_, rfl⟩
  rw [hV1, hE1] at C5 K1
  rw [hV2, hE2] at C6 K2
  clear hV1 hE1 hV2 hE2
  go_enter Tryz.func7, Tryz.ntmps7
  go_wp2_with fail
  refine (C1.out _ HP.out).mono ?_
  rintro e w1 ⟨rfl, hb⟩
  have B1 := Lib.hid hb
  clear hb
  go_wp2_with fail
  refine (C2.out _ (HP.out.below (B1.out.mono (Nat.le_refl _)))).mono ?_
  rintro e w2 ⟨rfl, hb⟩
  have B2 := Lib.hid (B1.out.trans (hb.mono B1.out.size))
  clear hb
  go_wp2_with fail
  refine (C3.out _).mono ?_
  rintro e w3 ⟨rfl, hb⟩
  have B3 := Lib.hid (B2.out.trans (hb.mono B2.out.size))
  clear hb
  go_wp2_with fail
  refine (C4.out _).mono ?_
  rintro e w4 ⟨rfl, hb⟩
  have B4 := Lib.hid (B3.out.trans (hb.mono B3.out.size))
  have T4 := Lib.hid (HT.out.stay B4.out)
  have S4 := Lib.hid (HS.out.below B4.out (by have := HS.out.size; omega))
  clear hb
  go_wp2_with fail
  refine (CK.out _ T4.out S4.out).mono ?_
  rintro e w5 ⟨rfl, hb⟩
  have B5 := Lib.hid (B4.out.trans (hb.mono B4.out.size))
  clear hb
  go_wp2_with fail
  refine (C5.out _ ((B5.out.cell (p := ⟨0, 0, none⟩) HG0.out).trans HG.out) (HE.out.below B5.out)).mono ?_
  rintro e w6 ⟨rfl, hb⟩
  have B6 := Lib.hid (B5.out.trans (hb.mono B5.out.size))
  clear hb
  go_wp2_with fail
  refine (C6.out _ ((B6.out.cell (p := ⟨0, 0, none⟩) HG0.out).trans HG.out) (HE.out.below B6.out)).mono ?_
  rintro e w7 ⟨rfl, hb⟩
  have B7 := Lib.hid (B6.out.trans (hb.mono B6.out.size))
  clear hb
  have K1' := K1.out
  have K2' := K2.out
  clear C1 C2 C3 C4 C5 C6 CK HT HS HG HG0 HE HP K1 K2 B1 B2 B3 B4 T4 S4 B5 B6
  by_cases h1 : F1 = 0
  · obtain ⟨rfl, g1⟩ := K1' h1
    have q1 : (V1 == v) = true := by simp [g1]
    subst h1
    clear K1'
    by_cases h2 : F2 = 0
    · obtain ⟨rfl, g2⟩ := K2' h2
      have q2 : (V2 == v) = true := by simp [g2]
      subst h2
      clear K2'
      go_wp2
      all_goals first | (exfalso; omega) | skip
      all_goals go_ret
      all_goals exact ⟨rfl, B7.out⟩
    · have n2 : ((F2 : Int) == 0) = false := by simp; omega
      have n3 : ((F2 : Int) != 0) = true := by simp; omega
      clear K2'
      go_wp2
      all_goals first | (exfalso; omega) | skip
      all_goals go_ret
      all_goals exact ⟨rfl, B7.out⟩
  · have n1 : ((F1 : Int) == 0) = false := by simp; omega
    have n4 : ((F1 : Int) != 0) = true := by simp; omega
    clear K1'
    by_cases h2 : F2 = 0
    · obtain ⟨rfl, g2⟩ := K2' h2
      have q2 : (V2 == v) = true := by simp [g2]
      subst h2
      clear K2'
      go_wp2
      all_goals first | (exfalso; omega) | skip
      all_goals go_ret
      all_goals exact ⟨rfl, B7.out⟩
    · have n2 : ((F2 : Int) == 0) = false := by simp; omega
      have n3 : ((F2 : Int) != 0) = true := by simp; omega
      clear K2'
      go_wp2
      all_goals first | (exfalso; omega) | skip
      all_goals go_ret
      all_goals exact ⟨rfl, B7.out⟩
end Go.Proofs.YthhlhiighgnkmaaGreatDoor
