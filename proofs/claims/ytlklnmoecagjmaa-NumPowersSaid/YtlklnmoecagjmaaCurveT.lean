/-
  CURVES, put together of CurveL, LawPowers (a claim holds at most 60 files).
-/
import Derived.Test.YtlklnmoecagjmaaCurveS
/-! ## CURVES: Pow, the document's: the walk. -/
namespace Go.Proofs.Ytlklnmoecagjmaa
set_option linter.unusedVariables false
set_option linter.unusedSimpArgs false
open Go.RowKit
set_option maxHeartbeats 8000000 in
theorem rpow_any (a b : Nat) (ha : a < 2 ^ 64) (hb : b < 2 ^ 64) (w : World) : Calls Try.prog 63 #[.int .u64 (a : Int), .int .u64 (b : Int)] w (Gives w (.int .u64 (dPow a b : Nat))) := by
  have Czb : Hid (∀ w, Calls Try.prog 78 #[.int .u64 (b : Nat)] w (Gives w (.bool (Nm.nought b)))) := Lib.hid (fun w => (rzero_any b hb w).mono fun _ _ h => gives_of h)
  obtain ⟨zb, hzb⟩ : ∃ vv, Nm.nought b = vv := ⟨_, rfl⟩
  rw [hzb] at Czb
  have Cna : Hid (∀ w, Calls Try.prog 49 #[.int .u64 (a : Nat)] w (Gives w (.bool (Nm.isNaN a)))) := Lib.hid (fun w => (rnan_any a ha w).mono fun _ _ h => gives_of h)
  obtain ⟨na, hna⟩ : ∃ vv, Nm.isNaN a = vv := ⟨_, rfl⟩
  rw [hna] at Cna
  have Cnb : Hid (∀ w, Calls Try.prog 49 #[.int .u64 (b : Nat)] w (Gives w (.bool (Nm.isNaN b)))) := Lib.hid (fun w => (rnan_any b hb w).mono fun _ _ h => gives_of h)
  obtain ⟨nb, hnb⟩ : ∃ vv, Nm.isNaN b = vv := ⟨_, rfl⟩
  rw [hnb] at Cnb
  have Cib : Hid (∀ w, Calls Try.prog 51 #[.int .u64 (b : Nat)] w (Gives w (.bool (Nm.isInf b)))) := Lib.hid (fun w => (rinf_any b hb w).mono fun _ _ h => gives_of h)
  obtain ⟨ib, hib⟩ : ∃ vv, Nm.isInf b = vv := ⟨_, rfl⟩
  rw [hib] at Cib
  have Cx : Hid (∀ w, Calls Try.prog 37 #[.int .u64 (b : Nat)] w (Gives w (.int .u64 (Nm.dAbs b : Nat)))) := Lib.hid (fun w => (rabs_any b hb w).mono fun _ _ h => gives_of h)
  have ox : Nm.dAbs b < 2 ^ 64 := (Nm.ok_abs _ hb).1
  obtain ⟨x, hx⟩ : ∃ vv, Nm.dAbs b = vv := ⟨_, rfl⟩
  rw [hx] at Cx ox
  have CT : Hid (∀ w, Calls Try.prog 108 #[.int .i64 53] w (Gives w (.int .u64 4845873199050653696))) := Lib.hid (fun w => rptwo_any 53 (by decide) (by decide) w)
  have Cfr : Hid (∀ w, Calls Try.prog 107 #[.int .u64 (x : Nat), .int .u64 4845873199050653696] w (Gives w (.bool (dLt 4845873199050653696 x)))) := Lib.hid (fun w => rabove_any x 4845873199050653696 ox (by decide) w)
  obtain ⟨fr, hfr⟩ : ∃ vv, dLt 4845873199050653696 x = vv := ⟨_, rfl⟩
  rw [hfr] at Cfr
  have CWH : Hid (nb = false → ∀ w, Calls Try.prog 106 #[.int .u64 (b : Nat)] w (Gives w (.bool (!ib && !Nm.left b)))) := Lib.hid (by rw [← hib, ← hnb]; exact fun h w => rwh_any b hb h w)
  have Cy : Hid (∀ w, Calls Try.prog 37 #[.int .u64 (a : Nat)] w (Gives w (.int .u64 (Nm.dAbs a : Nat)))) := Lib.hid (fun w => (rabs_any a ha w).mono fun _ _ h => gives_of h)
  have oy : Nm.dAbs a < 2 ^ 64 := (Nm.ok_abs _ ha).1
  obtain ⟨y, hy⟩ : ∃ vv, Nm.dAbs a = vv := ⟨_, rfl⟩
  rw [hy] at Cy oy
  have CC : Hid (∀ w, Calls Try.prog 30 #[.int .u64 (y : Nat), .int .u64 4607182418800017408] w (Gives w (.tuple #[.int .i64 (Nm.dCmp y 4607182418800017408), .bool (Nm.dCok y 4607182418800017408)]))) := Lib.hid (fun w => rcmp_any y 4607182418800017408 oy (by decide) w)
  have hc1 : na = false → (Nm.dCmp y 4607182418800017408 = 0 ↔ y = 4607182418800017408) := fun h => by
    obtain ⟨y1, y2, _⟩ := Nm.abs_facts (a := a) (hna.trans h)
    rw [hy] at y1 y2
    exact cmp_one y1 y2
  have hc2 : dLt y 4607182418800017408 = decide (Nm.dCmp y 4607182418800017408 < 0) := rfl
  have hfa : dFar a b = if y = 4607182418800017408 then 4607182418800017408 else if (dLt y 4607182418800017408 == Nm.neg b) = true then 9218868437227405312 else 0 := by
    unfold dFar
    rw [hy]
  obtain ⟨cc, hcc⟩ : ∃ vv, Nm.dCmp y 4607182418800017408 = vv := ⟨_, rfl⟩
  obtain ⟨co, hco⟩ : ∃ vv, Nm.dCok y 4607182418800017408 = vv := ⟨_, rfl⟩
  rw [hcc, hco] at CC
  rw [hcc] at hc1 hc2
  rw [hc2] at hfa
  have m1 : ib = true → fr = true := fun h => by rw [← hfr, ← hx]; exact inf_far (hib.trans h)
  have m2 : nb = false → ib = false → fr = true → Nm.left b = false := fun h1 h2 h3 => far_whole (hnb.trans h1) (hib.trans h2) (by rw [hx, hfr]; exact h3)
  have m3 : nb = false → fr = false → Nm.fits b = !Nm.left b := fun h1 h2 => near_fits (hnb.trans h1) (by rw [hx, hfr]; exact h2)
  have m4 : nb = false → fr = false → Nm.left b = false → zb = false → dWp a (Nm.dWhole b) = if Nm.neg b then Nm.dDiv 4607182418800017408 (powL (Nm.wv b) 4607182418800017408 a) else powL (Nm.wv b) 4607182418800017408 a := fun h1 h2 h3 h4 => dWp_sign a (hnb.trans h1) (by rw [hx, hfr]; exact h2) h3 (hzb.trans h4)
  have m5 : nb = false → fr = false → Nm.left b = false → Nm.dWhole x = (Nm.wv b : Nat) := fun h1 h2 h3 => by rw [← hx]; exact abs_whole (hnb.trans h1) (by rw [hx, hfr]; exact h2) h3
  have m6 : nb = false → fr = false → Nm.wv b ≤ 9007199254740992 := fun h1 h2 => (near (hnb.trans h1) (by rw [hx, hfr]; exact h2)).2
  have CW := Lib.hid (fun w => rwhole_any x ox w)
  obtain ⟨L, hL⟩ : ∃ vv, Nm.wv b = vv := ⟨_, rfl⟩
  rw [hL] at m4 m5 m6
  obtain ⟨lf, hlf⟩ : ∃ vv, Nm.left b = vv := ⟨_, rfl⟩
  rw [hlf] at m2 m3 m4 m5 CWH
  have Cza : Hid (∀ w, Calls Try.prog 78 #[.int .u64 (a : Nat)] w (Gives w (.bool (Nm.nought a)))) := Lib.hid (fun w => (rzero_any a ha w).mono fun _ _ h => gives_of h)
  obtain ⟨za, hza⟩ : ∃ vv, Nm.nought a = vv := ⟨_, rfl⟩
  rw [hza] at Cza
  have Cia : Hid (∀ w, Calls Try.prog 51 #[.int .u64 (a : Nat)] w (Gives w (.bool (Nm.isInf a)))) := Lib.hid (fun w => (rinf_any a ha w).mono fun _ _ h => gives_of h)
  obtain ⟨ia, hia⟩ : ∃ vv, Nm.isInf a = vv := ⟨_, rfl⟩
  rw [hia] at Cia
  have Csa : Hid (∀ w, Calls Try.prog 73 #[.int .u64 (a : Nat)] w (Gives w (.bool (Nm.neg a)))) := Lib.hid (fun w => (rsign_any a ha w).mono fun _ _ h => gives_of h)
  obtain ⟨sa, hsa⟩ : ∃ vv, Nm.neg a = vv := ⟨_, rfl⟩
  rw [hsa] at Csa
  have Csb : Hid (∀ w, Calls Try.prog 73 #[.int .u64 (b : Nat)] w (Gives w (.bool (Nm.neg b)))) := Lib.hid (fun w => (rsign_any b hb w).mono fun _ _ h => gives_of h)
  obtain ⟨sb, hsb⟩ : ∃ vv, Nm.neg b = vv := ⟨_, rfl⟩
  rw [hsb] at Csb
  rw [hsb] at hfa m4
  have Cln : Hid (∀ w, Calls Try.prog 110 #[.int .u64 (a : Nat)] w (Gives w (.int .u64 (dLn a : Nat)))) := Lib.hid (fun w => rln_any a ha w)
  have oln : dLn a < 2 ^ 64 := dLn_ok _ ha
  obtain ⟨ln, hln⟩ : ∃ vv, dLn a = vv := ⟨_, rfl⟩
  rw [hln] at Cln oln
  have Cm : Hid (∀ w, Calls Try.prog 18 #[.int .u64 (b : Nat), .int .u64 (ln : Nat)] w (Gives w (.int .u64 (Nm.dMul b ln : Nat)))) := Lib.hid (fun w => rmul_any b ln hb oln w)
  have om : Nm.dMul b ln < 2 ^ 64 := (Nm.ok_mul _ _).1
  obtain ⟨m, hm⟩ : ∃ vv, Nm.dMul b ln = vv := ⟨_, rfl⟩
  rw [hm] at Cm om
  have Cex : Hid (∀ w, Calls Try.prog 109 #[.int .u64 (m : Nat)] w (Gives w (.int .u64 (dExp m : Nat)))) := Lib.hid (fun w => rexp_any m om w)
  have oex : dExp m < 2 ^ 64 := dExp_ok _
  obtain ⟨ex, hex⟩ : ∃ vv, dExp m = vv := ⟨_, rfl⟩
  rw [hex] at Cex oex
  obtain ⟨P, hP⟩ : ∃ vv, powL L 4607182418800017408 a = vv := ⟨_, rfl⟩
  have oP : P < 2 ^ 64 := by rw [← hP]; exact powL_ok _ _ _ (by decide)
  have HP := Lib.hid hP
  have HA := Lib.hid ha
  rw [hP] at m4
  have CD : Hid (∀ w, Calls Try.prog 20 #[.int .u64 4607182418800017408, .int .u64 (P : Nat)] w (Gives w (.int .u64 (Nm.dDiv 4607182418800017408 P : Nat)))) := Lib.hid (fun w => rdiv_any 4607182418800017408 P (by decide) oP w)
  obtain ⟨dv, hdv⟩ : ∃ vv, Nm.dDiv 4607182418800017408 P = vv := ⟨_, rfl⟩
  rw [hdv] at CD m4
  obtain ⟨R, hR⟩ : ∃ x, dPow a b = x := ⟨_, rfl⟩
  rw [hR]
  unfold dPow at hR
  rw [hzb, hna, hnb, hx, hfr, hza, hia, hsa, hsb, hln, hm, hex] at hR
  cases zb
  · by_cases ha1 : a = 4607182418800017408
    · rw [if_pos ha1] at hR
      simp only [Bool.false_eq_true, if_false] at hR
      subst hR
      subst ha1
      clear hb hzb hna hnb hib hx hfr hza hia hsa hsb hln hm hex ox oy oln om oex hy hcc hco hL hlf hP oP hdv hc2 m1 m2 m3 m4 m5 m6 hc1 hfa ha HA HP CWH
      have BB := Lib.hid (Below.refl w.heap.size w)
      go_enter Try.func63, Try.ntmps63
      go_wp2_with fail
      refine (Czb.out _).mono ?_
      rintro e' wm1 ⟨rfl, hb⟩
      have BB := Lib.hid (BB.out.trans (hb.mono BB.out.size))
      clear hb
      go_wp2
      go_ret
      exact ⟨rfl, BB.out⟩
    · have da : ((a : Int) == 4607182418800017408) = false := by simp; omega
      rw [if_neg ha1] at hR
      simp only [Bool.false_eq_true, if_false] at hR
      clear ha
      cases na
      · cases nb
        · have CWH2 : Hid (∀ w, Calls Try.prog 106 #[.int .u64 (b : Nat)] w (Gives w (.bool (!ib && !lf)))) := Lib.hid (fun w => CWH.out rfl w)
          simp only [Bool.or_false, Bool.false_eq_true, if_false] at hR
          have hzi : za = true → ia = false := fun h => by
            rw [← hia]
            have h2 := hza.trans h
            unfold Nm.nought at h2
            unfold Nm.isInf
            have := of_decide_eq_true h2
            exact decide_eq_false (by rw [this]; decide)
          clear CWH hb hzb hna hnb hib hx hfr hza hia hsa hsb hln hm hex ox oy oln om oex hy hcc hco hP oP hdv hc2 hlf hL
          cases ib
          · cases lf
            · cases fr
              · rw [m3 rfl rfl] at hR
                simp only [Bool.not_false, Bool.false_eq_true, if_false, if_true] at hR
                rw [m4 rfl rfl rfl rfl] at hR
                have hLb := m6 rfl rfl
                rw [m5 rfl rfl rfl] at CW
                have HRR := Lib.hid hR
                clear hR m1 m2 m3 m4 m5 m6 hc1 hfa ha1 hzi
                have BB := Lib.hid (Below.refl w.heap.size w)
                go_enter Try.func63, Try.ntmps63
                go_wp2_with fail
                refine (Czb.out _).mono ?_
                rintro e' wm1 ⟨rfl, hb⟩
                have BB := Lib.hid (BB.out.trans (hb.mono BB.out.size))
                clear hb
                go_wp2_with fail
                refine (Cna.out _).mono ?_
                rintro e' wm2 ⟨rfl, hb⟩
                have BB := Lib.hid (BB.out.trans (hb.mono BB.out.size))
                clear hb
                go_wp2_with fail
                refine (Cnb.out _).mono ?_
                rintro e' wm3 ⟨rfl, hb⟩
                have BB := Lib.hid (BB.out.trans (hb.mono BB.out.size))
                clear hb
                go_wp2_with fail
                refine (Cib.out _).mono ?_
                rintro e' wm4 ⟨rfl, hb⟩
                have BB := Lib.hid (BB.out.trans (hb.mono BB.out.size))
                clear hb
                go_wp2_with fail
                refine (CWH2.out _).mono ?_
                rintro e' wm5 ⟨rfl, hb⟩
                have BB := Lib.hid (BB.out.trans (hb.mono BB.out.size))
                clear hb
                go_wp2_with fail
                refine (Cx.out _).mono ?_
                rintro e' wm6 ⟨rfl, hb⟩
                have BB := Lib.hid (BB.out.trans (hb.mono BB.out.size))
                clear hb
                go_wp2_with fail
                refine (CT.out _).mono ?_
                rintro e' wm7 ⟨rfl, hb⟩
                have BB := Lib.hid (BB.out.trans (hb.mono BB.out.size))
                clear hb
                go_wp2_with fail
                refine (Cfr.out _).mono ?_
                rintro e' wm8 ⟨rfl, hb⟩
                have BB := Lib.hid (BB.out.trans (hb.mono BB.out.size))
                clear hb
                go_wp2_with fail
                refine (CWH2.out _).mono ?_
                rintro e' wm9 ⟨rfl, hb⟩
                have BB := Lib.hid (BB.out.trans (hb.mono BB.out.size))
                clear hb
                go_wp2_with fail
                refine (Cx.out _).mono ?_
                rintro e' wm10 ⟨rfl, hb⟩
                have BB := Lib.hid (BB.out.trans (hb.mono BB.out.size))
                clear hb
                go_wp2_with fail
                refine (CW.out _).mono ?_
                rintro e' wm11 ⟨rfl, hb⟩
                have BB := Lib.hid (BB.out.trans (hb.mono BB.out.size))
                clear hb
                go_wp2
                go_loopw [7, 9, 10] (fun l r q wr => ∃ k t v : Nat, l = .int .i64 (k : Nat) ∧ r = .int .u64 (t : Nat) ∧ q = .int .u64 (v : Nat) ∧ k ≤ 9007199254740992 ∧ Hid (t < 2 ^ 64) ∧ Hid (v < 2 ^ 64) ∧ Hid (powL k t v = P) ∧ Hid (Below w.heap.size w wr)) (fun l _ _ _ => (intOf l).toNat)
                case atStart => exact ⟨L, 4607182418800017408, a, rfl, rfl, rfl, hLb, Lib.hid (by decide), HA, HP, BB⟩
                case round =>
                  obtain ⟨k, t, v, rfl, rfl, rfl, hk, HT, HY, HS, BB⟩ := hrel
                  by_cases h0 : k = 0
                  · subst h0
                    obtain rfl : t = P := by rw [← HS.out, powL_zero]
                    cases sb
                    · obtain rfl : t = R := HRR.out
                      go_wp2_with fail
                      refine (Csb.out _).mono ?_
                      rintro e' wm12 ⟨rfl, hb⟩
                      have BB := Lib.hid (BB.out.trans (hb.mono BB.out.size))
                      clear hb
                      go_wp2
                      go_ret
                      exact ⟨rfl, BB.out⟩
                    · obtain rfl : dv = R := HRR.out
                      go_wp2_with fail
                      refine (Csb.out _).mono ?_
                      rintro e' wm13 ⟨rfl, hb⟩
                      have BB := Lib.hid (BB.out.trans (hb.mono BB.out.size))
                      clear hb
                      go_wp2_with fail
                      refine (CD.out _).mono ?_
                      rintro e' wm14 ⟨rfl, hb⟩
                      have BB := Lib.hid (BB.out.trans (hb.mono BB.out.size))
                      clear hb
                      go_wp2
                      go_ret
                      exact ⟨rfl, BB.out⟩
                  · have d1 : decide ((k : Int) > 0) = true := decide_eq_true (by omega)
                    have d2 : decide ((0 : Int) < (k : Int)) = true := decide_eq_true (by omega)
                    have d3 : decide (0 < k) = true := decide_eq_true (by omega)
                    obtain ⟨k2, hk2⟩ : ∃ q, k / 2 = q := ⟨_, rfl⟩
                    have e1 : (k : Int) / 2 = (k2 : Int) := by omega
                    have e2 : (k : Int).tdiv 2 = (k2 : Int) := by rw [Int.tdiv_eq_ediv_of_nonneg (by omega)]; exact e1
                    have hk3 : k2 < k := by omega
                    have CY := Lib.hid (fun w => rmul_any v v HY.out HY.out w)
                    have CR := Lib.hid (fun w => rmul_any t v HT.out HY.out w)
                    have oy := Lib.hid (Nm.ok_mul v v).1
                    have ot := Lib.hid (Nm.ok_mul t v).1
                    by_cases ho : k % 2 = 1
                    · have q1 : ((k : Int) % 2 == 1) = true := by simp; omega
                      have q2 : ((k : Int).tmod 2 == 1) = true := by rw [Int.tmod_eq_emod_of_nonneg (by omega)]; exact q1
                      have HS2 := HS.out
                      rw [powL_odd t v h0 ho, hk2] at HS2
                      have HS2 := Lib.hid HS2
                      obtain ⟨t2, ht2⟩ : ∃ vv, Nm.dMul t v = vv := ⟨_, rfl⟩
                      rw [ht2] at CR HS2 ot
                      obtain ⟨y2, hy2⟩ : ∃ vv, Nm.dMul v v = vv := ⟨_, rfl⟩
                      rw [hy2] at CY HS2 oy
                      clear ht2 hy2 hk2
                      go_wp2_with fail
                      refine (CR.out _).mono ?_
                      rintro e' wm15 ⟨rfl, hb⟩
                      have BB := Lib.hid (BB.out.trans (hb.mono BB.out.size))
                      clear hb
                      go_wp2_with fail
                      refine (CY.out _).mono ?_
                      rintro e' wm16 ⟨rfl, hb⟩
                      have BB := Lib.hid (BB.out.trans (hb.mono BB.out.size))
                      clear hb
                      go_wp2
                      go_roundw
                      case rel => exact ⟨k2, t2, y2, rfl, rfl, rfl, by omega, ot, oy, HS2, BB⟩
                      case measure => simp [intOf]; omega
                    · have q1 : ((k : Int) % 2 == 1) = false := by simp; omega
                      have q2 : ((k : Int).tmod 2 == 1) = false := by rw [Int.tmod_eq_emod_of_nonneg (by omega)]; exact q1
                      have HS2 := HS.out
                      rw [powL_even t v h0 ho, hk2] at HS2
                      have HS2 := Lib.hid HS2
                      obtain ⟨y2, hy2⟩ : ∃ vv, Nm.dMul v v = vv := ⟨_, rfl⟩
                      rw [hy2] at CY HS2 oy
                      clear hy2 hk2
                      go_wp2_with fail
                      refine (CY.out _).mono ?_
                      rintro e' wm17 ⟨rfl, hb⟩
                      have BB := Lib.hid (BB.out.trans (hb.mono BB.out.size))
                      clear hb
                      go_wp2
                      go_roundw
                      case rel => exact ⟨k2, t, y2, rfl, rfl, rfl, by omega, HT, oy, HS2, BB⟩
                      case measure => simp [intOf]; omega
              · simp only [if_true] at hR
                rw [hfa] at hR
                by_cases hy1 : y = 4607182418800017408
                · obtain rfl : cc = 0 := (hc1 rfl).2 hy1
                  rw [if_pos hy1] at hR
                  subst hR
                  clear m1 m2 m3 m4 m5 m6 hc1 hfa ha1 HP HA hzi hy1
                  have BB := Lib.hid (Below.refl w.heap.size w)
                  go_enter Try.func63, Try.ntmps63
                  go_wp2_with fail
                  refine (Czb.out _).mono ?_
                  rintro e' wm1 ⟨rfl, hb⟩
                  have BB := Lib.hid (BB.out.trans (hb.mono BB.out.size))
                  clear hb
                  go_wp2_with fail
                  refine (Cna.out _).mono ?_
                  rintro e' wm2 ⟨rfl, hb⟩
                  have BB := Lib.hid (BB.out.trans (hb.mono BB.out.size))
                  clear hb
                  go_wp2_with fail
                  refine (Cnb.out _).mono ?_
                  rintro e' wm3 ⟨rfl, hb⟩
                  have BB := Lib.hid (BB.out.trans (hb.mono BB.out.size))
                  clear hb
                  go_wp2_with fail
                  refine (Cib.out _).mono ?_
                  rintro e' wm4 ⟨rfl, hb⟩
                  have BB := Lib.hid (BB.out.trans (hb.mono BB.out.size))
                  clear hb
                  go_wp2_with fail
                  refine (CWH2.out _).mono ?_
                  rintro e' wm5 ⟨rfl, hb⟩
                  have BB := Lib.hid (BB.out.trans (hb.mono BB.out.size))
                  clear hb
                  go_wp2_with fail
                  refine (Cx.out _).mono ?_
                  rintro e' wm6 ⟨rfl, hb⟩
                  have BB := Lib.hid (BB.out.trans (hb.mono BB.out.size))
                  clear hb
                  go_wp2_with fail
                  refine (CT.out _).mono ?_
                  rintro e' wm7 ⟨rfl, hb⟩
                  have BB := Lib.hid (BB.out.trans (hb.mono BB.out.size))
                  clear hb
                  go_wp2_with fail
                  refine (Cfr.out _).mono ?_
                  rintro e' wm8 ⟨rfl, hb⟩
                  have BB := Lib.hid (BB.out.trans (hb.mono BB.out.size))
                  clear hb
                  go_wp2_with fail
                  refine (Cy.out _).mono ?_
                  rintro e' wm9 ⟨rfl, hb⟩
                  have BB := Lib.hid (BB.out.trans (hb.mono BB.out.size))
                  clear hb
                  go_wp2_with fail
                  refine (CC.out _).mono ?_
                  rintro e' wm10 ⟨rfl, hb⟩
                  have BB := Lib.hid (BB.out.trans (hb.mono BB.out.size))
                  clear hb
                  go_wp2
                  go_ret
                  exact ⟨rfl, BB.out⟩
                · have hcn : cc ≠ 0 := fun h => hy1 ((hc1 rfl).1 h)
                  have d0 : (cc == 0) = false := by simpa using hcn
                  rw [if_neg hy1] at hR
                  clear m1 m2 m3 m4 m5 m6 hc1 hfa ha1 HP HA hzi hy1
                  by_cases hneg : cc < 0
                  · have dn : decide (cc < 0) = true := by exact decide_eq_true hneg
                    have dp : decide (cc > 0) = false := by apply decide_eq_false; omega
                    have dp2 : decide (0 < cc) = false := dp
                    rw [dn] at hR
                    clear hneg hcn
                    cases sb
                    · have hr : 0 = R := hR
                      clear hR
                      subst hr
                      have BB := Lib.hid (Below.refl w.heap.size w)
                      go_enter Try.func63, Try.ntmps63
                      go_wp2_with fail
                      refine (Czb.out _).mono ?_
                      rintro e' wm1 ⟨rfl, hb⟩
                      have BB := Lib.hid (BB.out.trans (hb.mono BB.out.size))
                      clear hb
                      go_wp2_with fail
                      refine (Cna.out _).mono ?_
                      rintro e' wm2 ⟨rfl, hb⟩
                      have BB := Lib.hid (BB.out.trans (hb.mono BB.out.size))
                      clear hb
                      go_wp2_with fail
                      refine (Cnb.out _).mono ?_
                      rintro e' wm3 ⟨rfl, hb⟩
                      have BB := Lib.hid (BB.out.trans (hb.mono BB.out.size))
                      clear hb
                      go_wp2_with fail
                      refine (Cib.out _).mono ?_
                      rintro e' wm4 ⟨rfl, hb⟩
                      have BB := Lib.hid (BB.out.trans (hb.mono BB.out.size))
                      clear hb
                      go_wp2_with fail
                      refine (CWH2.out _).mono ?_
                      rintro e' wm5 ⟨rfl, hb⟩
                      have BB := Lib.hid (BB.out.trans (hb.mono BB.out.size))
                      clear hb
                      go_wp2_with fail
                      refine (Cx.out _).mono ?_
                      rintro e' wm6 ⟨rfl, hb⟩
                      have BB := Lib.hid (BB.out.trans (hb.mono BB.out.size))
                      clear hb
                      go_wp2_with fail
                      refine (CT.out _).mono ?_
                      rintro e' wm7 ⟨rfl, hb⟩
                      have BB := Lib.hid (BB.out.trans (hb.mono BB.out.size))
                      clear hb
                      go_wp2_with fail
                      refine (Cfr.out _).mono ?_
                      rintro e' wm8 ⟨rfl, hb⟩
                      have BB := Lib.hid (BB.out.trans (hb.mono BB.out.size))
                      clear hb
                      go_wp2_with fail
                      refine (Cy.out _).mono ?_
                      rintro e' wm9 ⟨rfl, hb⟩
                      have BB := Lib.hid (BB.out.trans (hb.mono BB.out.size))
                      clear hb
                      go_wp2_with fail
                      refine (CC.out _).mono ?_
                      rintro e' wm10 ⟨rfl, hb⟩
                      have BB := Lib.hid (BB.out.trans (hb.mono BB.out.size))
                      clear hb
                      go_wp2_with fail
                      refine (Csb.out _).mono ?_
                      rintro e' wm11 ⟨rfl, hb⟩
                      have BB := Lib.hid (BB.out.trans (hb.mono BB.out.size))
                      clear hb
                      go_wp2
                      go_ret
                      exact ⟨rfl, BB.out⟩
                    · have hr : 9218868437227405312 = R := hR
                      clear hR
                      subst hr
                      have BB := Lib.hid (Below.refl w.heap.size w)
                      go_enter Try.func63, Try.ntmps63
                      go_wp2_with fail
                      refine (Czb.out _).mono ?_
                      rintro e' wm1 ⟨rfl, hb⟩
                      have BB := Lib.hid (BB.out.trans (hb.mono BB.out.size))
                      clear hb
                      go_wp2_with fail
                      refine (Cna.out _).mono ?_
                      rintro e' wm2 ⟨rfl, hb⟩
                      have BB := Lib.hid (BB.out.trans (hb.mono BB.out.size))
                      clear hb
                      go_wp2_with fail
                      refine (Cnb.out _).mono ?_
                      rintro e' wm3 ⟨rfl, hb⟩
                      have BB := Lib.hid (BB.out.trans (hb.mono BB.out.size))
                      clear hb
                      go_wp2_with fail
                      refine (Cib.out _).mono ?_
                      rintro e' wm4 ⟨rfl, hb⟩
                      have BB := Lib.hid (BB.out.trans (hb.mono BB.out.size))
                      clear hb
                      go_wp2_with fail
                      refine (CWH2.out _).mono ?_
                      rintro e' wm5 ⟨rfl, hb⟩
                      have BB := Lib.hid (BB.out.trans (hb.mono BB.out.size))
                      clear hb
                      go_wp2_with fail
                      refine (Cx.out _).mono ?_
                      rintro e' wm6 ⟨rfl, hb⟩
                      have BB := Lib.hid (BB.out.trans (hb.mono BB.out.size))
                      clear hb
                      go_wp2_with fail
                      refine (CT.out _).mono ?_
                      rintro e' wm7 ⟨rfl, hb⟩
                      have BB := Lib.hid (BB.out.trans (hb.mono BB.out.size))
                      clear hb
                      go_wp2_with fail
                      refine (Cfr.out _).mono ?_
                      rintro e' wm8 ⟨rfl, hb⟩
                      have BB := Lib.hid (BB.out.trans (hb.mono BB.out.size))
                      clear hb
                      go_wp2_with fail
                      refine (Cy.out _).mono ?_
                      rintro e' wm9 ⟨rfl, hb⟩
                      have BB := Lib.hid (BB.out.trans (hb.mono BB.out.size))
                      clear hb
                      go_wp2_with fail
                      refine (CC.out _).mono ?_
                      rintro e' wm10 ⟨rfl, hb⟩
                      have BB := Lib.hid (BB.out.trans (hb.mono BB.out.size))
                      clear hb
                      go_wp2_with fail
                      refine (Csb.out _).mono ?_
                      rintro e' wm11 ⟨rfl, hb⟩
                      have BB := Lib.hid (BB.out.trans (hb.mono BB.out.size))
                      clear hb
                      go_wp2
                      go_ret
                      exact ⟨rfl, BB.out⟩
                  · have dn : decide (cc < 0) = false := by exact decide_eq_false hneg
                    have dp : decide (cc > 0) = true := by apply decide_eq_true; omega
                    have dp2 : decide (0 < cc) = true := dp
                    rw [dn] at hR
                    clear hneg hcn
                    cases sb
                    · have hr : 9218868437227405312 = R := hR
                      clear hR
                      subst hr
                      have BB := Lib.hid (Below.refl w.heap.size w)
                      go_enter Try.func63, Try.ntmps63
                      go_wp2_with fail
                      refine (Czb.out _).mono ?_
                      rintro e' wm1 ⟨rfl, hb⟩
                      have BB := Lib.hid (BB.out.trans (hb.mono BB.out.size))
                      clear hb
                      go_wp2_with fail
                      refine (Cna.out _).mono ?_
                      rintro e' wm2 ⟨rfl, hb⟩
                      have BB := Lib.hid (BB.out.trans (hb.mono BB.out.size))
                      clear hb
                      go_wp2_with fail
                      refine (Cnb.out _).mono ?_
                      rintro e' wm3 ⟨rfl, hb⟩
                      have BB := Lib.hid (BB.out.trans (hb.mono BB.out.size))
                      clear hb
                      go_wp2_with fail
                      refine (Cib.out _).mono ?_
                      rintro e' wm4 ⟨rfl, hb⟩
                      have BB := Lib.hid (BB.out.trans (hb.mono BB.out.size))
                      clear hb
                      go_wp2_with fail
                      refine (CWH2.out _).mono ?_
                      rintro e' wm5 ⟨rfl, hb⟩
                      have BB := Lib.hid (BB.out.trans (hb.mono BB.out.size))
                      clear hb
                      go_wp2_with fail
                      refine (Cx.out _).mono ?_
                      rintro e' wm6 ⟨rfl, hb⟩
                      have BB := Lib.hid (BB.out.trans (hb.mono BB.out.size))
                      clear hb
                      go_wp2_with fail
                      refine (CT.out _).mono ?_
                      rintro e' wm7 ⟨rfl, hb⟩
                      have BB := Lib.hid (BB.out.trans (hb.mono BB.out.size))
                      clear hb
                      go_wp2_with fail
                      refine (Cfr.out _).mono ?_
                      rintro e' wm8 ⟨rfl, hb⟩
                      have BB := Lib.hid (BB.out.trans (hb.mono BB.out.size))
                      clear hb
                      go_wp2_with fail
                      refine (Cy.out _).mono ?_
                      rintro e' wm9 ⟨rfl, hb⟩
                      have BB := Lib.hid (BB.out.trans (hb.mono BB.out.size))
                      clear hb
                      go_wp2_with fail
                      refine (CC.out _).mono ?_
                      rintro e' wm10 ⟨rfl, hb⟩
                      have BB := Lib.hid (BB.out.trans (hb.mono BB.out.size))
                      clear hb
                      go_wp2_with fail
                      refine (Csb.out _).mono ?_
                      rintro e' wm11 ⟨rfl, hb⟩
                      have BB := Lib.hid (BB.out.trans (hb.mono BB.out.size))
                      clear hb
                      go_wp2
                      go_ret
                      exact ⟨rfl, BB.out⟩
                    · have hr : 0 = R := hR
                      clear hR
                      subst hr
                      have BB := Lib.hid (Below.refl w.heap.size w)
                      go_enter Try.func63, Try.ntmps63
                      go_wp2_with fail
                      refine (Czb.out _).mono ?_
                      rintro e' wm1 ⟨rfl, hb⟩
                      have BB := Lib.hid (BB.out.trans (hb.mono BB.out.size))
                      clear hb
                      go_wp2_with fail
                      refine (Cna.out _).mono ?_
                      rintro e' wm2 ⟨rfl, hb⟩
                      have BB := Lib.hid (BB.out.trans (hb.mono BB.out.size))
                      clear hb
                      go_wp2_with fail
                      refine (Cnb.out _).mono ?_
                      rintro e' wm3 ⟨rfl, hb⟩
                      have BB := Lib.hid (BB.out.trans (hb.mono BB.out.size))
                      clear hb
                      go_wp2_with fail
                      refine (Cib.out _).mono ?_
                      rintro e' wm4 ⟨rfl, hb⟩
                      have BB := Lib.hid (BB.out.trans (hb.mono BB.out.size))
                      clear hb
                      go_wp2_with fail
                      refine (CWH2.out _).mono ?_
                      rintro e' wm5 ⟨rfl, hb⟩
                      have BB := Lib.hid (BB.out.trans (hb.mono BB.out.size))
                      clear hb
                      go_wp2_with fail
                      refine (Cx.out _).mono ?_
                      rintro e' wm6 ⟨rfl, hb⟩
                      have BB := Lib.hid (BB.out.trans (hb.mono BB.out.size))
                      clear hb
                      go_wp2_with fail
                      refine (CT.out _).mono ?_
                      rintro e' wm7 ⟨rfl, hb⟩
                      have BB := Lib.hid (BB.out.trans (hb.mono BB.out.size))
                      clear hb
                      go_wp2_with fail
                      refine (Cfr.out _).mono ?_
                      rintro e' wm8 ⟨rfl, hb⟩
                      have BB := Lib.hid (BB.out.trans (hb.mono BB.out.size))
                      clear hb
                      go_wp2_with fail
                      refine (Cy.out _).mono ?_
                      rintro e' wm9 ⟨rfl, hb⟩
                      have BB := Lib.hid (BB.out.trans (hb.mono BB.out.size))
                      clear hb
                      go_wp2_with fail
                      refine (CC.out _).mono ?_
                      rintro e' wm10 ⟨rfl, hb⟩
                      have BB := Lib.hid (BB.out.trans (hb.mono BB.out.size))
                      clear hb
                      go_wp2_with fail
                      refine (Csb.out _).mono ?_
                      rintro e' wm11 ⟨rfl, hb⟩
                      have BB := Lib.hid (BB.out.trans (hb.mono BB.out.size))
                      clear hb
                      go_wp2
                      go_ret
                      exact ⟨rfl, BB.out⟩
            · obtain rfl : fr = false := by
                cases fr
                · rfl
                · exact absurd (m2 rfl rfl rfl) (by decide)
              rw [m3 rfl rfl] at hR
              simp only [Bool.not_true, Bool.false_eq_true, if_false] at hR
              clear m1 m2 m3 m4 m5 m6 hc1 hfa ha1 HP HA
              cases za
              · clear hzi
                cases ia
                · cases sa
                  · simp only [Bool.false_eq_true, if_false, if_true] at hR
                    subst hR
                    have BB := Lib.hid (Below.refl w.heap.size w)
                    go_enter Try.func63, Try.ntmps63
                    go_wp2_with fail
                    refine (Czb.out _).mono ?_
                    rintro e' wm1 ⟨rfl, hb⟩
                    have BB := Lib.hid (BB.out.trans (hb.mono BB.out.size))
                    clear hb
                    go_wp2_with fail
                    refine (Cna.out _).mono ?_
                    rintro e' wm2 ⟨rfl, hb⟩
                    have BB := Lib.hid (BB.out.trans (hb.mono BB.out.size))
                    clear hb
                    go_wp2_with fail
                    refine (Cnb.out _).mono ?_
                    rintro e' wm3 ⟨rfl, hb⟩
                    have BB := Lib.hid (BB.out.trans (hb.mono BB.out.size))
                    clear hb
                    go_wp2_with fail
                    refine (Cib.out _).mono ?_
                    rintro e' wm4 ⟨rfl, hb⟩
                    have BB := Lib.hid (BB.out.trans (hb.mono BB.out.size))
                    clear hb
                    go_wp2_with fail
                    refine (CWH2.out _).mono ?_
                    rintro e' wm5 ⟨rfl, hb⟩
                    have BB := Lib.hid (BB.out.trans (hb.mono BB.out.size))
                    clear hb
                    go_wp2_with fail
                    refine (CWH2.out _).mono ?_
                    rintro e' wm6 ⟨rfl, hb⟩
                    have BB := Lib.hid (BB.out.trans (hb.mono BB.out.size))
                    clear hb
                    go_wp2_with fail
                    refine (Cza.out _).mono ?_
                    rintro e' wm7 ⟨rfl, hb⟩
                    have BB := Lib.hid (BB.out.trans (hb.mono BB.out.size))
                    clear hb
                    go_wp2_with fail
                    refine (Cia.out _).mono ?_
                    rintro e' wm8 ⟨rfl, hb⟩
                    have BB := Lib.hid (BB.out.trans (hb.mono BB.out.size))
                    clear hb
                    go_wp2_with fail
                    refine (Cza.out _).mono ?_
                    rintro e' wm9 ⟨rfl, hb⟩
                    have BB := Lib.hid (BB.out.trans (hb.mono BB.out.size))
                    clear hb
                    go_wp2_with fail
                    refine (Cia.out _).mono ?_
                    rintro e' wm10 ⟨rfl, hb⟩
                    have BB := Lib.hid (BB.out.trans (hb.mono BB.out.size))
                    clear hb
                    go_wp2_with fail
                    refine (Csa.out _).mono ?_
                    rintro e' wm11 ⟨rfl, hb⟩
                    have BB := Lib.hid (BB.out.trans (hb.mono BB.out.size))
                    clear hb
                    go_wp2_with fail
                    refine (Cln.out _).mono ?_
                    rintro e' wm12 ⟨rfl, hb⟩
                    have BB := Lib.hid (BB.out.trans (hb.mono BB.out.size))
                    clear hb
                    go_wp2_with fail
                    refine (Cm.out _).mono ?_
                    rintro e' wm13 ⟨rfl, hb⟩
                    have BB := Lib.hid (BB.out.trans (hb.mono BB.out.size))
                    clear hb
                    go_wp2_with fail
                    refine (Cex.out _).mono ?_
                    rintro e' wm14 ⟨rfl, hb⟩
                    have BB := Lib.hid (BB.out.trans (hb.mono BB.out.size))
                    clear hb
                    go_wp2
                    go_ret
                    exact ⟨rfl, BB.out⟩
                  · simp only [Bool.false_eq_true, if_false, if_true] at hR
                    subst hR
                    have BB := Lib.hid (Below.refl w.heap.size w)
                    go_enter Try.func63, Try.ntmps63
                    go_wp2_with fail
                    refine (Czb.out _).mono ?_
                    rintro e' wm1 ⟨rfl, hb⟩
                    have BB := Lib.hid (BB.out.trans (hb.mono BB.out.size))
                    clear hb
                    go_wp2_with fail
                    refine (Cna.out _).mono ?_
                    rintro e' wm2 ⟨rfl, hb⟩
                    have BB := Lib.hid (BB.out.trans (hb.mono BB.out.size))
                    clear hb
                    go_wp2_with fail
                    refine (Cnb.out _).mono ?_
                    rintro e' wm3 ⟨rfl, hb⟩
                    have BB := Lib.hid (BB.out.trans (hb.mono BB.out.size))
                    clear hb
                    go_wp2_with fail
                    refine (Cib.out _).mono ?_
                    rintro e' wm4 ⟨rfl, hb⟩
                    have BB := Lib.hid (BB.out.trans (hb.mono BB.out.size))
                    clear hb
                    go_wp2_with fail
                    refine (CWH2.out _).mono ?_
                    rintro e' wm5 ⟨rfl, hb⟩
                    have BB := Lib.hid (BB.out.trans (hb.mono BB.out.size))
                    clear hb
                    go_wp2_with fail
                    refine (CWH2.out _).mono ?_
                    rintro e' wm6 ⟨rfl, hb⟩
                    have BB := Lib.hid (BB.out.trans (hb.mono BB.out.size))
                    clear hb
                    go_wp2_with fail
                    refine (Cza.out _).mono ?_
                    rintro e' wm7 ⟨rfl, hb⟩
                    have BB := Lib.hid (BB.out.trans (hb.mono BB.out.size))
                    clear hb
                    go_wp2_with fail
                    refine (Cia.out _).mono ?_
                    rintro e' wm8 ⟨rfl, hb⟩
                    have BB := Lib.hid (BB.out.trans (hb.mono BB.out.size))
                    clear hb
                    go_wp2_with fail
                    refine (Cza.out _).mono ?_
                    rintro e' wm9 ⟨rfl, hb⟩
                    have BB := Lib.hid (BB.out.trans (hb.mono BB.out.size))
                    clear hb
                    go_wp2_with fail
                    refine (Cia.out _).mono ?_
                    rintro e' wm10 ⟨rfl, hb⟩
                    have BB := Lib.hid (BB.out.trans (hb.mono BB.out.size))
                    clear hb
                    go_wp2_with fail
                    refine (Csa.out _).mono ?_
                    rintro e' wm11 ⟨rfl, hb⟩
                    have BB := Lib.hid (BB.out.trans (hb.mono BB.out.size))
                    clear hb
                    go_wp2
                    go_ret
                    exact ⟨rfl, BB.out⟩
                · cases sb
                  · simp only [Bool.false_eq_true, if_false, if_true] at hR
                    subst hR
                    have BB := Lib.hid (Below.refl w.heap.size w)
                    go_enter Try.func63, Try.ntmps63
                    go_wp2_with fail
                    refine (Czb.out _).mono ?_
                    rintro e' wm1 ⟨rfl, hb⟩
                    have BB := Lib.hid (BB.out.trans (hb.mono BB.out.size))
                    clear hb
                    go_wp2_with fail
                    refine (Cna.out _).mono ?_
                    rintro e' wm2 ⟨rfl, hb⟩
                    have BB := Lib.hid (BB.out.trans (hb.mono BB.out.size))
                    clear hb
                    go_wp2_with fail
                    refine (Cnb.out _).mono ?_
                    rintro e' wm3 ⟨rfl, hb⟩
                    have BB := Lib.hid (BB.out.trans (hb.mono BB.out.size))
                    clear hb
                    go_wp2_with fail
                    refine (Cib.out _).mono ?_
                    rintro e' wm4 ⟨rfl, hb⟩
                    have BB := Lib.hid (BB.out.trans (hb.mono BB.out.size))
                    clear hb
                    go_wp2_with fail
                    refine (CWH2.out _).mono ?_
                    rintro e' wm5 ⟨rfl, hb⟩
                    have BB := Lib.hid (BB.out.trans (hb.mono BB.out.size))
                    clear hb
                    go_wp2_with fail
                    refine (CWH2.out _).mono ?_
                    rintro e' wm6 ⟨rfl, hb⟩
                    have BB := Lib.hid (BB.out.trans (hb.mono BB.out.size))
                    clear hb
                    go_wp2_with fail
                    refine (Cza.out _).mono ?_
                    rintro e' wm7 ⟨rfl, hb⟩
                    have BB := Lib.hid (BB.out.trans (hb.mono BB.out.size))
                    clear hb
                    go_wp2_with fail
                    refine (Cia.out _).mono ?_
                    rintro e' wm8 ⟨rfl, hb⟩
                    have BB := Lib.hid (BB.out.trans (hb.mono BB.out.size))
                    clear hb
                    go_wp2_with fail
                    refine (Csb.out _).mono ?_
                    rintro e' wm9 ⟨rfl, hb⟩
                    have BB := Lib.hid (BB.out.trans (hb.mono BB.out.size))
                    clear hb
                    go_wp2
                    go_ret
                    exact ⟨rfl, BB.out⟩
                  · simp only [Bool.false_eq_true, if_false, if_true] at hR
                    subst hR
                    have BB := Lib.hid (Below.refl w.heap.size w)
                    go_enter Try.func63, Try.ntmps63
                    go_wp2_with fail
                    refine (Czb.out _).mono ?_
                    rintro e' wm1 ⟨rfl, hb⟩
                    have BB := Lib.hid (BB.out.trans (hb.mono BB.out.size))
                    clear hb
                    go_wp2_with fail
                    refine (Cna.out _).mono ?_
                    rintro e' wm2 ⟨rfl, hb⟩
                    have BB := Lib.hid (BB.out.trans (hb.mono BB.out.size))
                    clear hb
                    go_wp2_with fail
                    refine (Cnb.out _).mono ?_
                    rintro e' wm3 ⟨rfl, hb⟩
                    have BB := Lib.hid (BB.out.trans (hb.mono BB.out.size))
                    clear hb
                    go_wp2_with fail
                    refine (Cib.out _).mono ?_
                    rintro e' wm4 ⟨rfl, hb⟩
                    have BB := Lib.hid (BB.out.trans (hb.mono BB.out.size))
                    clear hb
                    go_wp2_with fail
                    refine (CWH2.out _).mono ?_
                    rintro e' wm5 ⟨rfl, hb⟩
                    have BB := Lib.hid (BB.out.trans (hb.mono BB.out.size))
                    clear hb
                    go_wp2_with fail
                    refine (CWH2.out _).mono ?_
                    rintro e' wm6 ⟨rfl, hb⟩
                    have BB := Lib.hid (BB.out.trans (hb.mono BB.out.size))
                    clear hb
                    go_wp2_with fail
                    refine (Cza.out _).mono ?_
                    rintro e' wm7 ⟨rfl, hb⟩
                    have BB := Lib.hid (BB.out.trans (hb.mono BB.out.size))
                    clear hb
                    go_wp2_with fail
                    refine (Cia.out _).mono ?_
                    rintro e' wm8 ⟨rfl, hb⟩
                    have BB := Lib.hid (BB.out.trans (hb.mono BB.out.size))
                    clear hb
                    go_wp2_with fail
                    refine (Csb.out _).mono ?_
                    rintro e' wm9 ⟨rfl, hb⟩
                    have BB := Lib.hid (BB.out.trans (hb.mono BB.out.size))
                    clear hb
                    go_wp2_with fail
                    refine (Cza.out _).mono ?_
                    rintro e' wm10 ⟨rfl, hb⟩
                    have BB := Lib.hid (BB.out.trans (hb.mono BB.out.size))
                    clear hb
                    go_wp2_with fail
                    refine (Cia.out _).mono ?_
                    rintro e' wm11 ⟨rfl, hb⟩
                    have BB := Lib.hid (BB.out.trans (hb.mono BB.out.size))
                    clear hb
                    go_wp2
                    go_ret
                    exact ⟨rfl, BB.out⟩
              · obtain rfl : ia = false := hzi rfl
                clear hzi
                cases sb
                · simp only [Bool.false_eq_true, if_false, if_true] at hR
                  subst hR
                  have BB := Lib.hid (Below.refl w.heap.size w)
                  go_enter Try.func63, Try.ntmps63
                  go_wp2_with fail
                  refine (Czb.out _).mono ?_
                  rintro e' wm1 ⟨rfl, hb⟩
                  have BB := Lib.hid (BB.out.trans (hb.mono BB.out.size))
                  clear hb
                  go_wp2_with fail
                  refine (Cna.out _).mono ?_
                  rintro e' wm2 ⟨rfl, hb⟩
                  have BB := Lib.hid (BB.out.trans (hb.mono BB.out.size))
                  clear hb
                  go_wp2_with fail
                  refine (Cnb.out _).mono ?_
                  rintro e' wm3 ⟨rfl, hb⟩
                  have BB := Lib.hid (BB.out.trans (hb.mono BB.out.size))
                  clear hb
                  go_wp2_with fail
                  refine (Cib.out _).mono ?_
                  rintro e' wm4 ⟨rfl, hb⟩
                  have BB := Lib.hid (BB.out.trans (hb.mono BB.out.size))
                  clear hb
                  go_wp2_with fail
                  refine (CWH2.out _).mono ?_
                  rintro e' wm5 ⟨rfl, hb⟩
                  have BB := Lib.hid (BB.out.trans (hb.mono BB.out.size))
                  clear hb
                  go_wp2_with fail
                  refine (CWH2.out _).mono ?_
                  rintro e' wm6 ⟨rfl, hb⟩
                  have BB := Lib.hid (BB.out.trans (hb.mono BB.out.size))
                  clear hb
                  go_wp2_with fail
                  refine (Cza.out _).mono ?_
                  rintro e' wm7 ⟨rfl, hb⟩
                  have BB := Lib.hid (BB.out.trans (hb.mono BB.out.size))
                  clear hb
                  go_wp2_with fail
                  refine (Csb.out _).mono ?_
                  rintro e' wm8 ⟨rfl, hb⟩
                  have BB := Lib.hid (BB.out.trans (hb.mono BB.out.size))
                  clear hb
                  go_wp2_with fail
                  refine (Cia.out _).mono ?_
                  rintro e' wm9 ⟨rfl, hb⟩
                  have BB := Lib.hid (BB.out.trans (hb.mono BB.out.size))
                  clear hb
                  go_wp2_with fail
                  refine (Cza.out _).mono ?_
                  rintro e' wm10 ⟨rfl, hb⟩
                  have BB := Lib.hid (BB.out.trans (hb.mono BB.out.size))
                  clear hb
                  go_wp2
                  go_ret
                  exact ⟨rfl, BB.out⟩
                · simp only [Bool.false_eq_true, if_false, if_true] at hR
                  subst hR
                  have BB := Lib.hid (Below.refl w.heap.size w)
                  go_enter Try.func63, Try.ntmps63
                  go_wp2_with fail
                  refine (Czb.out _).mono ?_
                  rintro e' wm1 ⟨rfl, hb⟩
                  have BB := Lib.hid (BB.out.trans (hb.mono BB.out.size))
                  clear hb
                  go_wp2_with fail
                  refine (Cna.out _).mono ?_
                  rintro e' wm2 ⟨rfl, hb⟩
                  have BB := Lib.hid (BB.out.trans (hb.mono BB.out.size))
                  clear hb
                  go_wp2_with fail
                  refine (Cnb.out _).mono ?_
                  rintro e' wm3 ⟨rfl, hb⟩
                  have BB := Lib.hid (BB.out.trans (hb.mono BB.out.size))
                  clear hb
                  go_wp2_with fail
                  refine (Cib.out _).mono ?_
                  rintro e' wm4 ⟨rfl, hb⟩
                  have BB := Lib.hid (BB.out.trans (hb.mono BB.out.size))
                  clear hb
                  go_wp2_with fail
                  refine (CWH2.out _).mono ?_
                  rintro e' wm5 ⟨rfl, hb⟩
                  have BB := Lib.hid (BB.out.trans (hb.mono BB.out.size))
                  clear hb
                  go_wp2_with fail
                  refine (CWH2.out _).mono ?_
                  rintro e' wm6 ⟨rfl, hb⟩
                  have BB := Lib.hid (BB.out.trans (hb.mono BB.out.size))
                  clear hb
                  go_wp2_with fail
                  refine (Cza.out _).mono ?_
                  rintro e' wm7 ⟨rfl, hb⟩
                  have BB := Lib.hid (BB.out.trans (hb.mono BB.out.size))
                  clear hb
                  go_wp2_with fail
                  refine (Csb.out _).mono ?_
                  rintro e' wm8 ⟨rfl, hb⟩
                  have BB := Lib.hid (BB.out.trans (hb.mono BB.out.size))
                  clear hb
                  go_wp2
                  go_ret
                  exact ⟨rfl, BB.out⟩
          · obtain rfl : fr = true := m1 rfl
            simp only [if_true] at hR
            rw [hfa] at hR
            by_cases hy1 : y = 4607182418800017408
            · obtain rfl : cc = 0 := (hc1 rfl).2 hy1
              rw [if_pos hy1] at hR
              subst hR
              clear m1 m2 m3 m4 m5 m6 hc1 hfa ha1 HP HA hzi hy1
              have BB := Lib.hid (Below.refl w.heap.size w)
              go_enter Try.func63, Try.ntmps63
              go_wp2_with fail
              refine (Czb.out _).mono ?_
              rintro e' wm1 ⟨rfl, hb⟩
              have BB := Lib.hid (BB.out.trans (hb.mono BB.out.size))
              clear hb
              go_wp2_with fail
              refine (Cna.out _).mono ?_
              rintro e' wm2 ⟨rfl, hb⟩
              have BB := Lib.hid (BB.out.trans (hb.mono BB.out.size))
              clear hb
              go_wp2_with fail
              refine (Cnb.out _).mono ?_
              rintro e' wm3 ⟨rfl, hb⟩
              have BB := Lib.hid (BB.out.trans (hb.mono BB.out.size))
              clear hb
              go_wp2_with fail
              refine (Cib.out _).mono ?_
              rintro e' wm4 ⟨rfl, hb⟩
              have BB := Lib.hid (BB.out.trans (hb.mono BB.out.size))
              clear hb
              go_wp2_with fail
              refine (Cy.out _).mono ?_
              rintro e' wm5 ⟨rfl, hb⟩
              have BB := Lib.hid (BB.out.trans (hb.mono BB.out.size))
              clear hb
              go_wp2_with fail
              refine (CC.out _).mono ?_
              rintro e' wm6 ⟨rfl, hb⟩
              have BB := Lib.hid (BB.out.trans (hb.mono BB.out.size))
              clear hb
              go_wp2
              go_ret
              exact ⟨rfl, BB.out⟩
            · have hcn : cc ≠ 0 := fun h => hy1 ((hc1 rfl).1 h)
              have d0 : (cc == 0) = false := by simpa using hcn
              rw [if_neg hy1] at hR
              clear m1 m2 m3 m4 m5 m6 hc1 hfa ha1 HP HA hzi hy1
              by_cases hneg : cc < 0
              · have dn : decide (cc < 0) = true := by exact decide_eq_true hneg
                have dp : decide (cc > 0) = false := by apply decide_eq_false; omega
                have dp2 : decide (0 < cc) = false := dp
                rw [dn] at hR
                clear hneg hcn
                cases sb
                · have hr : 0 = R := hR
                  clear hR
                  subst hr
                  have BB := Lib.hid (Below.refl w.heap.size w)
                  go_enter Try.func63, Try.ntmps63
                  go_wp2_with fail
                  refine (Czb.out _).mono ?_
                  rintro e' wm1 ⟨rfl, hb⟩
                  have BB := Lib.hid (BB.out.trans (hb.mono BB.out.size))
                  clear hb
                  go_wp2_with fail
                  refine (Cna.out _).mono ?_
                  rintro e' wm2 ⟨rfl, hb⟩
                  have BB := Lib.hid (BB.out.trans (hb.mono BB.out.size))
                  clear hb
                  go_wp2_with fail
                  refine (Cnb.out _).mono ?_
                  rintro e' wm3 ⟨rfl, hb⟩
                  have BB := Lib.hid (BB.out.trans (hb.mono BB.out.size))
                  clear hb
                  go_wp2_with fail
                  refine (Cib.out _).mono ?_
                  rintro e' wm4 ⟨rfl, hb⟩
                  have BB := Lib.hid (BB.out.trans (hb.mono BB.out.size))
                  clear hb
                  go_wp2_with fail
                  refine (Cy.out _).mono ?_
                  rintro e' wm5 ⟨rfl, hb⟩
                  have BB := Lib.hid (BB.out.trans (hb.mono BB.out.size))
                  clear hb
                  go_wp2_with fail
                  refine (CC.out _).mono ?_
                  rintro e' wm6 ⟨rfl, hb⟩
                  have BB := Lib.hid (BB.out.trans (hb.mono BB.out.size))
                  clear hb
                  go_wp2_with fail
                  refine (Csb.out _).mono ?_
                  rintro e' wm7 ⟨rfl, hb⟩
                  have BB := Lib.hid (BB.out.trans (hb.mono BB.out.size))
                  clear hb
                  go_wp2
                  go_ret
                  exact ⟨rfl, BB.out⟩
                · have hr : 9218868437227405312 = R := hR
                  clear hR
                  subst hr
                  have BB := Lib.hid (Below.refl w.heap.size w)
                  go_enter Try.func63, Try.ntmps63
                  go_wp2_with fail
                  refine (Czb.out _).mono ?_
                  rintro e' wm1 ⟨rfl, hb⟩
                  have BB := Lib.hid (BB.out.trans (hb.mono BB.out.size))
                  clear hb
                  go_wp2_with fail
                  refine (Cna.out _).mono ?_
                  rintro e' wm2 ⟨rfl, hb⟩
                  have BB := Lib.hid (BB.out.trans (hb.mono BB.out.size))
                  clear hb
                  go_wp2_with fail
                  refine (Cnb.out _).mono ?_
                  rintro e' wm3 ⟨rfl, hb⟩
                  have BB := Lib.hid (BB.out.trans (hb.mono BB.out.size))
                  clear hb
                  go_wp2_with fail
                  refine (Cib.out _).mono ?_
                  rintro e' wm4 ⟨rfl, hb⟩
                  have BB := Lib.hid (BB.out.trans (hb.mono BB.out.size))
                  clear hb
                  go_wp2_with fail
                  refine (Cy.out _).mono ?_
                  rintro e' wm5 ⟨rfl, hb⟩
                  have BB := Lib.hid (BB.out.trans (hb.mono BB.out.size))
                  clear hb
                  go_wp2_with fail
                  refine (CC.out _).mono ?_
                  rintro e' wm6 ⟨rfl, hb⟩
                  have BB := Lib.hid (BB.out.trans (hb.mono BB.out.size))
                  clear hb
                  go_wp2_with fail
                  refine (Csb.out _).mono ?_
                  rintro e' wm7 ⟨rfl, hb⟩
                  have BB := Lib.hid (BB.out.trans (hb.mono BB.out.size))
                  clear hb
                  go_wp2
                  go_ret
                  exact ⟨rfl, BB.out⟩
              · have dn : decide (cc < 0) = false := by exact decide_eq_false hneg
                have dp : decide (cc > 0) = true := by apply decide_eq_true; omega
                have dp2 : decide (0 < cc) = true := dp
                rw [dn] at hR
                clear hneg hcn
                cases sb
                · have hr : 9218868437227405312 = R := hR
                  clear hR
                  subst hr
                  have BB := Lib.hid (Below.refl w.heap.size w)
                  go_enter Try.func63, Try.ntmps63
                  go_wp2_with fail
                  refine (Czb.out _).mono ?_
                  rintro e' wm1 ⟨rfl, hb⟩
                  have BB := Lib.hid (BB.out.trans (hb.mono BB.out.size))
                  clear hb
                  go_wp2_with fail
                  refine (Cna.out _).mono ?_
                  rintro e' wm2 ⟨rfl, hb⟩
                  have BB := Lib.hid (BB.out.trans (hb.mono BB.out.size))
                  clear hb
                  go_wp2_with fail
                  refine (Cnb.out _).mono ?_
                  rintro e' wm3 ⟨rfl, hb⟩
                  have BB := Lib.hid (BB.out.trans (hb.mono BB.out.size))
                  clear hb
                  go_wp2_with fail
                  refine (Cib.out _).mono ?_
                  rintro e' wm4 ⟨rfl, hb⟩
                  have BB := Lib.hid (BB.out.trans (hb.mono BB.out.size))
                  clear hb
                  go_wp2_with fail
                  refine (Cy.out _).mono ?_
                  rintro e' wm5 ⟨rfl, hb⟩
                  have BB := Lib.hid (BB.out.trans (hb.mono BB.out.size))
                  clear hb
                  go_wp2_with fail
                  refine (CC.out _).mono ?_
                  rintro e' wm6 ⟨rfl, hb⟩
                  have BB := Lib.hid (BB.out.trans (hb.mono BB.out.size))
                  clear hb
                  go_wp2_with fail
                  refine (Csb.out _).mono ?_
                  rintro e' wm7 ⟨rfl, hb⟩
                  have BB := Lib.hid (BB.out.trans (hb.mono BB.out.size))
                  clear hb
                  go_wp2
                  go_ret
                  exact ⟨rfl, BB.out⟩
                · have hr : 0 = R := hR
                  clear hR
                  subst hr
                  have BB := Lib.hid (Below.refl w.heap.size w)
                  go_enter Try.func63, Try.ntmps63
                  go_wp2_with fail
                  refine (Czb.out _).mono ?_
                  rintro e' wm1 ⟨rfl, hb⟩
                  have BB := Lib.hid (BB.out.trans (hb.mono BB.out.size))
                  clear hb
                  go_wp2_with fail
                  refine (Cna.out _).mono ?_
                  rintro e' wm2 ⟨rfl, hb⟩
                  have BB := Lib.hid (BB.out.trans (hb.mono BB.out.size))
                  clear hb
                  go_wp2_with fail
                  refine (Cnb.out _).mono ?_
                  rintro e' wm3 ⟨rfl, hb⟩
                  have BB := Lib.hid (BB.out.trans (hb.mono BB.out.size))
                  clear hb
                  go_wp2_with fail
                  refine (Cib.out _).mono ?_
                  rintro e' wm4 ⟨rfl, hb⟩
                  have BB := Lib.hid (BB.out.trans (hb.mono BB.out.size))
                  clear hb
                  go_wp2_with fail
                  refine (Cy.out _).mono ?_
                  rintro e' wm5 ⟨rfl, hb⟩
                  have BB := Lib.hid (BB.out.trans (hb.mono BB.out.size))
                  clear hb
                  go_wp2_with fail
                  refine (CC.out _).mono ?_
                  rintro e' wm6 ⟨rfl, hb⟩
                  have BB := Lib.hid (BB.out.trans (hb.mono BB.out.size))
                  clear hb
                  go_wp2_with fail
                  refine (Csb.out _).mono ?_
                  rintro e' wm7 ⟨rfl, hb⟩
                  have BB := Lib.hid (BB.out.trans (hb.mono BB.out.size))
                  clear hb
                  go_wp2
                  go_ret
                  exact ⟨rfl, BB.out⟩
        · simp only [Bool.or_true, if_true] at hR
          subst hR
          clear hb hzb hna hnb hib hx hfr hza hia hsa hsb hln hm hex ox oy oln om oex hy hcc hco hL hlf hP oP hdv hc2 m1 m2 m3 m4 m5 m6 hc1 hfa CWH HA HP ha1
          have BB := Lib.hid (Below.refl w.heap.size w)
          go_enter Try.func63, Try.ntmps63
          go_wp2_with fail
          refine (Czb.out _).mono ?_
          rintro e' wm1 ⟨rfl, hb⟩
          have BB := Lib.hid (BB.out.trans (hb.mono BB.out.size))
          clear hb
          go_wp2_with fail
          refine (Cna.out _).mono ?_
          rintro e' wm2 ⟨rfl, hb⟩
          have BB := Lib.hid (BB.out.trans (hb.mono BB.out.size))
          clear hb
          go_wp2_with fail
          refine (Cnb.out _).mono ?_
          rintro e' wm3 ⟨rfl, hb⟩
          have BB := Lib.hid (BB.out.trans (hb.mono BB.out.size))
          clear hb
          go_wp2
          go_ret
          exact ⟨rfl, BB.out⟩
      · simp only [Bool.true_or, if_true] at hR
        subst hR
        clear hb hzb hna hnb hib hx hfr hza hia hsa hsb hln hm hex ox oy oln om oex hy hcc hco hL hlf hP oP hdv hc2 m1 m2 m3 m4 m5 m6 hc1 hfa CWH HA HP ha1
        have BB := Lib.hid (Below.refl w.heap.size w)
        go_enter Try.func63, Try.ntmps63
        go_wp2_with fail
        refine (Czb.out _).mono ?_
        rintro e' wm1 ⟨rfl, hb⟩
        have BB := Lib.hid (BB.out.trans (hb.mono BB.out.size))
        clear hb
        go_wp2_with fail
        refine (Cna.out _).mono ?_
        rintro e' wm2 ⟨rfl, hb⟩
        have BB := Lib.hid (BB.out.trans (hb.mono BB.out.size))
        clear hb
        go_wp2
        go_ret
        exact ⟨rfl, BB.out⟩
  · simp only [if_true] at hR
    subst hR
    clear hb hzb hna hnb hib hx hfr hza hia hsa hsb hln hm hex ox oy oln om oex hy hcc hco hL hlf hP oP hdv hc2 m1 m2 m3 m4 m5 m6 hc1 hfa CWH HA HP ha
    have BB := Lib.hid (Below.refl w.heap.size w)
    go_enter Try.func63, Try.ntmps63
    go_wp2_with fail
    refine (Czb.out _).mono ?_
    rintro e' wm1 ⟨rfl, hb⟩
    have BB := Lib.hid (BB.out.trans (hb.mono BB.out.size))
    clear hb
    go_wp2
    go_ret
    exact ⟨rfl, BB.out⟩
end Go.Proofs.Ytlklnmoecagjmaa
/-! ## THE LAW NumPowers, walked. -/
namespace Go.Proofs.Ytlklnmoecagjmaa
set_option linter.unusedVariables false
set_option linter.unusedSimpArgs false
open Go.RowKit
set_option maxHeartbeats 2000000 in
theorem numpowers_walk (a b : Nat) (ha : a < 2 ^ 64) (hb : b < 2 ^ 64) (w : World) : Calls Try.prog 6 #[.int .u64 (a : Int), .int .u64 (b : Int)] w (Gives w (.bool true)) := by
  have CK := Lib.hid (fun w => known_any w)
  have C1 := Lib.hid (fun w => pow_any a b ha hb w)
  have C2 := Lib.hid (fun w => rpow_any a b ha hb w)
  have C3 := Lib.hid (fun w => atan2_any a b ha hb w)
  have C4 := Lib.hid (fun w => ratan2_any a b ha hb w)
  obtain ⟨P, hP⟩ : ∃ vv, dPow a b = vv := ⟨_, rfl⟩
  obtain ⟨Q, hQ⟩ : ∃ vv, dAtan2 a b = vv := ⟨_, rfl⟩
  rw [hP] at C1 C2
  rw [hQ] at C3 C4
  clear hP hQ ha hb
  have BB := Lib.hid (Below.refl w.heap.size w)
  go_enter Try.func6, Try.ntmps6
  go_wp2_with fail
  refine (CK.out _).mono ?_
  rintro e' wa ⟨rfl, hb⟩
  have BB := Lib.hid (BB.out.trans (hb.mono BB.out.size))
  clear hb
  go_wp2_with fail
  refine (C1.out _).mono ?_
  rintro e' wb ⟨rfl, hb⟩
  have BB := Lib.hid (BB.out.trans (hb.mono BB.out.size))
  clear hb
  go_wp2_with fail
  refine (C2.out _).mono ?_
  rintro e' wc ⟨rfl, hb⟩
  have BB := Lib.hid (BB.out.trans (hb.mono BB.out.size))
  clear hb
  go_wp2_with fail
  refine (C3.out _).mono ?_
  rintro e' wd ⟨rfl, hb⟩
  have BB := Lib.hid (BB.out.trans (hb.mono BB.out.size))
  clear hb
  go_wp2_with fail
  refine (C4.out _).mono ?_
  rintro e' we ⟨rfl, hb⟩
  have BB := Lib.hid (BB.out.trans (hb.mono BB.out.size))
  clear hb
  go_wp2
  go_ret
  exact ⟨rfl, BB.out⟩
end Go.Proofs.Ytlklnmoecagjmaa
