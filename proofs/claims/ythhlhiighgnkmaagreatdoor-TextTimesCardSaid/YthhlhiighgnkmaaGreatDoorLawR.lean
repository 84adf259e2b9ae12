/-
  WALKS: the law of what is read as durations and times.
-/
import Derived.Test.YthhlhiighgnkmaaGreatDoorTiN
import Derived.Test.YthhlhiighgnkmaaGreatDoorKno
namespace Go.Proofs.YthhlhiighgnkmaaGreatDoor
set_option linter.unusedVariables false
set_option linter.unusedSimpArgs false
open Go.RowKit Go.PlainAid
theorem tErr_le (r : Option Int) : tErr r ≤ 41 := by cases r <;> simp [tErr]
set_option maxRecDepth 100000 in
set_option maxHeartbeats 1000000 in
theorem law_reads (m : Int) (a o cap : Nat) (s : ByteArray) (w : World) (TT : TenTab w a o cap) (TS : ShTab w m) (hg : w.cell? ⟨0, 0, none⟩ = some (rt 60)) (hE : ErrR w) : Calls Tryz.prog 8 #[.string s] w (Gives w (.bool true)) := by
  by_cases h1 : 20000 < s.size
  · have d1 : decide ((s.size : Int) > 20000) = true := decide_eq_true (by omega)
    obtain ⟨L, hL⟩ : ∃ L, s.size = L := ⟨_, rfl⟩
    rw [hL] at d1 h1
    clear TT TS hE hg
    go_enter Tryz.func8, Tryz.ntmps8
    go_wp2
    go_ret
    exact ⟨rfl, Below.refl _ _⟩
  have d1 : decide ((s.size : Int) > 20000) = false := decide_eq_false (by omega)
  have hBs := isB_bytesOf s
  have hls := bytesOf_length s
  obtain ⟨r0, hr0⟩ := dur_all (bytesOf s) _ 0 0 0 (Nat.zero_le _) (Nat.le_refl _)
  have hr : if 100 < (bytesOf s).length then (if 100 < (bytesOf s).length then none else r0) = none else DurRun (bytesOf s) 0 0 0 (if 100 < (bytesOf s).length then none else r0) := by
    by_cases h : 100 < (bytesOf s).length
    · rw [if_pos h, if_pos h]
    · rw [if_neg h, if_neg h]; exact hr0
  have C1 := Lib.hid (fun w hg hE => readdur_any (bytesOf s) _ hr hBs w hg hE)
  have C2 := Lib.hid (fun w hg hE => readtime_any (bytesOf s) hBs w hg hE)
  have C3 := Lib.hid (fun w => rreaddur_any (bytesOf s) r0 hBs (by omega) hr0 w)
  have C4 := Lib.hid (fun w => rreadtime_any (bytesOf s) hBs (by omega) w)
  rw [strOf_bytesOf] at C1 C2 C3 C4
  obtain ⟨R1, hR1⟩ : ∃ R, natI (if 100 < (bytesOf s).length then none else r0) = R := ⟨_, rfl⟩
  obtain ⟨R2, hR2⟩ : ∃ R, timeR (bytesOf s) = R := ⟨_, rfl⟩
  rw [hR1] at C1 C3
  rw [hR2] at C2 C4
  unfold tvalR at C3 C4
  have CK := Lib.hid (fun w T1 T2 => known_any m a o cap w T1 T2)
  have HT := Lib.hid TT
  have HS := Lib.hid TS
  have HG := Lib.hid hg
  have HG0 := Lib.hid (zero_lt hg)
  have HE := Lib.hid hE
  have q1 := tErr_le R1
  have q2 := tErr_le R2
  obtain ⟨A1, hA1⟩ : ∃ A, tVal R1 = A := ⟨_, rfl⟩
  obtain ⟨E1, hE1⟩ : ∃ A, tErr R1 = A := ⟨_, rfl⟩
  obtain ⟨A2, hA2⟩ : ∃ A, tVal R2 = A := ⟨_, rfl⟩
  obtain ⟨E2, hE2⟩ : ∃ A, tErr R2 = A := ⟨_, rfl⟩
  rw [hA1, hE1] at C1 C3
  rw [hA2, hE2] at C2 C4
  rw [hE1] at q1
  rw [hE2] at q2
  have e1 : IntKind.i64.wrap (E1 : Int) = (E1 : Int) := by rw [IntKind.wrap_i64]; omega
  have e2 : IntKind.i64.wrap (E2 : Int) = (E2 : Int) := by rw [IntKind.wrap_i64]; omega
  obtain ⟨L, hL⟩ : ∃ L, s.size = L := ⟨_, rfl⟩
  rw [hL] at d1 h1
  clear hBs hls hr hr0 hA1 hE1 hA2 hE2 hR1 hR2 TT TS hg hE
  go_enter Tryz.func8, Tryz.ntmps8
  go_wp2_with fail
  refine (C1.out _ HG.out HE.out).mono ?_
  rintro e w1 ⟨rfl, hb⟩
  have B1 := Lib.hid hb
  clear hb
  go_wp2_with fail
  refine (C2.out _ ((B1.out.cell (p := ⟨0, 0, none⟩) HG0.out).trans HG.out) (HE.out.below B1.out)).mono ?_
  rintro e w2 ⟨rfl, hb⟩
  have B2 := Lib.hid (B1.out.trans (hb.mono B1.out.size))
  clear hb
  go_wp2_with fail
  refine (C3.out _).mono ?_
  rintro e w3 ⟨rfl, hb⟩
  have B3 := Lib.hid (B2.out.trans (hb.mono B2.out.size))
  clear hb
  go_wp2_with fail
  refine (C4.out _).mono ?_
  rintro e w4 ⟨rfl, hb⟩
  have B4 := Lib.hid (B3.out.trans (hb.mono B3.out.size))
  have T4 := Lib.hid (HT.out.stay B4.out)
  have S4 := Lib.hid (HS.out.below B4.out (by have := HS.out.size; omega))
  clear hb
  go_wp2_with fail
  refine (CK.out _ T4.out S4.out).mono ?_
  rintro e w5 ⟨rfl, hb⟩
  have B5 := Lib.hid (B4.out.trans (hb.mono B4.out.size))
  clear hb
  go_wp2
  go_ret
  exact ⟨rfl, B5.out⟩
end Go.Proofs.YthhlhiighgnkmaaGreatDoor
