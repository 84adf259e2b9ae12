/-
  WALKS of the document's own: quotient.
-/
import Derived.Test.YtffohkpohgkglaaGreatRefA
namespace Go.Proofs.YtffohkpohgkglaaGreat
set_option linter.unusedVariables false
set_option linter.unusedSimpArgs false
open Go.RowKit
set_option maxRecDepth 100000 in
set_option maxHeartbeats 4000000 in
theorem rdiv_any (a b : Nat) (ha : a < 2 ^ 64) (hb : b < 2 ^ 64) (w : World) : Calls Tryz.prog 57 #[.int .u64 (a : Int), .int .u64 (b : Int)] w (Gives w (.int .u64 (Nm.dDiv a b : Nat))) := by
  obtain ⟨R, hR⟩ : ∃ R, Nm.dDiv a b = R := ⟨_, rfl⟩
  rw [hR]
  obtain ⟨na, hna⟩ : ∃ x, Nm.isNaN a = x := ⟨_, rfl⟩
  obtain ⟨nb, hnb⟩ : ∃ x, Nm.isNaN b = x := ⟨_, rfl⟩
  obtain ⟨ia, hia⟩ : ∃ x, Nm.isInf a = x := ⟨_, rfl⟩
  obtain ⟨ib, hib⟩ : ∃ x, Nm.isInf b = x := ⟨_, rfl⟩
  obtain ⟨za, hza⟩ : ∃ x, Nm.nought a = x := ⟨_, rfl⟩
  obtain ⟨zb, hzb⟩ : ∃ x, Nm.nought b = x := ⟨_, rfl⟩
  obtain ⟨sa, hsa⟩ : ∃ x, Nm.neg a = x := ⟨_, rfl⟩
  obtain ⟨sb, hsb⟩ : ∃ x, Nm.neg b = x := ⟨_, rfl⟩
  have NA : Hid (∀ w, Calls Tryz.prog 50 #[.int .u64 (a : Nat)] w fun e w' => e = .returned (.bool na) ∧ w' = w) := Lib.hid (by rw [← hna]; exact fun w => rnan_any a ha w)
  have NB : Hid (∀ w, Calls Tryz.prog 50 #[.int .u64 (b : Nat)] w fun e w' => e = .returned (.bool nb) ∧ w' = w) := Lib.hid (by rw [← hnb]; exact fun w => rnan_any b hb w)
  have IA : Hid (∀ w, Calls Tryz.prog 72 #[.int .u64 (a : Nat)] w fun e w' => e = .returned (.bool ia) ∧ w' = w) := Lib.hid (by rw [← hia]; exact fun w => rinf_any a ha w)
  have IB : Hid (∀ w, Calls Tryz.prog 72 #[.int .u64 (b : Nat)] w fun e w' => e = .returned (.bool ib) ∧ w' = w) := Lib.hid (by rw [← hib]; exact fun w => rinf_any b hb w)
  have ZA : Hid (∀ w, Calls Tryz.prog 69 #[.int .u64 (a : Nat)] w fun e w' => e = .returned (.bool za) ∧ w' = w) := Lib.hid (by rw [← hza]; exact fun w => rzero_any a ha w)
  have ZB : Hid (∀ w, Calls Tryz.prog 69 #[.int .u64 (b : Nat)] w fun e w' => e = .returned (.bool zb) ∧ w' = w) := Lib.hid (by rw [← hzb]; exact fun w => rzero_any b hb w)
  have SA : Hid (∀ w, Calls Tryz.prog 71 #[.int .u64 (a : Nat)] w fun e w' => e = .returned (.bool sa) ∧ w' = w) := Lib.hid (by rw [← hsa]; exact fun w => rsign_any a ha w)
  have SB : Hid (∀ w, Calls Tryz.prog 71 #[.int .u64 (b : Nat)] w fun e w' => e = .returned (.bool sb) ∧ w' = w) := Lib.hid (by rw [← hsb]; exact fun w => rsign_any b hb w)
  obtain ⟨ma, hma⟩ : ∃ x, Nm.mag a = x := ⟨_, rfl⟩
  obtain ⟨mb, hmb⟩ : ∃ x, Nm.mag b = x := ⟨_, rfl⟩
  obtain ⟨pa, hpa⟩ : ∃ x, Nm.plc a = x := ⟨_, rfl⟩
  obtain ⟨pb, hpb⟩ : ∃ x, Nm.plc b = x := ⟨_, rfl⟩
  have OA : Hid (∀ w, Calls Tryz.prog 73 #[.int .u64 (a : Nat)] w fun e w' => e = .returned (.tuple #[.int .u64 (ma : Nat), .int .i64 pa]) ∧ w' = w) := Lib.hid (by rw [← hma, ← hpa]; exact fun w => open_any a ha w)
  have OB : Hid (∀ w, Calls Tryz.prog 73 #[.int .u64 (b : Nat)] w fun e w' => e = .returned (.tuple #[.int .u64 (mb : Nat), .int .i64 pb]) ∧ w' = w) := Lib.hid (by rw [← hmb, ← hpb]; exact fun w => open_any b hb w)
  have lma : ma < 2 ^ 64 := by rw [← hma]; exact Nat.lt_trans (Nm.mag_lt a) (by decide)
  have lmb : mb < 2 ^ 64 := by rw [← hmb]; exact Nat.lt_trans (Nm.mag_lt b) (by decide)
  have wma : (Nm.wds ma).length ≤ 2 := by rw [← hma]; exact len_mag a
  have wmb : (Nm.wds mb).length ≤ 2 := by rw [← hmb]; exact len_mag b
  have pa1 : -1074 ≤ pa := by rw [← hpa]; exact Nm.plc_ge a
  have pa2 : pa ≤ 972 := by rw [← hpa]; exact plc_le a
  have pb1 : -1074 ≤ pb := by rw [← hpb]; exact Nm.plc_ge b
  have pb2 : pb ≤ 972 := by rw [← hpb]; exact plc_le b
  have BAD := Lib.hid (show (na || nb || ia && ib || za && zb) = true → Nm.nan = R from fun h => by
    rw [← hR]; unfold Nm.dDiv; rw [hna, hnb, hia, hib, hza, hzb, if_pos h])
  have INF := Lib.hid (show (na || nb || ia && ib || za && zb) = false → (ia || zb) = true → Nm.word (sa != sb) Nm.inf = R from fun h h2 => by
    rw [← hR]; unfold Nm.dDiv; rw [hna, hnb, hia, hib, hza, hzb, hsa, hsb, h, if_neg (by decide), if_pos h2])
  have ZER := Lib.hid (show (na || nb || ia && ib || za && zb) = false → (ia || zb) = false → (ib || za) = true → Nm.round (sa != sb) 0 0 false = R from fun h h2 h3 => by
    rw [← hR]; unfold Nm.dDiv; rw [hna, hnb, hia, hib, hza, hzb, hsa, hsb, h, h2, if_neg (by decide), if_neg (by decide), if_pos h3])
  have FIN := Lib.hid (show (na || nb || ia && ib || za && zb) = false → (ia || zb) = false → (ib || za) = false → Nm.round (sa != sb) (ma * 2 ^ 120 / mb) (pa - 120 - pb) (ma * 2 ^ 120 % mb != 0) = R from fun h h2 h3 => by
    rw [← hR]; unfold Nm.dDiv; rw [hna, hnb, hia, hib, hza, hzb, hsa, hsb, h, h2, h3, if_neg (by decide), if_neg (by decide), if_neg (by decide), hma, hmb, hpa, hpb])
  have hmb0 : zb = false → 0 < mb := fun h => by
    rw [← hzb, Nm.nought_mag, hmb] at h
    have := of_decide_eq_false h
    omega
  have HM0 := Lib.hid hmb0
  clear hR hma hmb hpa hpb hna hnb hia hib hza hzb hsa hsb ha hb hmb0
  cases na
  · cases nb
    · cases ia
      · cases za
        · cases sa
          · cases sb
            · cases zb
              · cases ib
                · obtain rfl : Nm.round false (ma * 2 ^ 120 / mb) (pa - 120 - pb) (ma * 2 ^ 120 % mb != 0) = R := FIN.out rfl rfl rfl
                  clear BAD INF FIN ZER
                  obtain ⟨Q, hQ⟩ : ∃ x, ma * 2 ^ 120 / mb = x := ⟨_, rfl⟩
                  obtain ⟨T, hT⟩ : ∃ x, ma * 2 ^ 120 % mb = x := ⟨_, rfl⟩
                  have lu : (Nm.wds (ma * 2 ^ 120)).length ≤ 123 := len_mul wma (wds_pow 120)
                  have lq : (Nm.wds Q).length ≤ 123 := by rw [← hQ]; exact Nat.le_trans (Nm.wds_mono (Nat.div_le_self _ _)) lu
                  have lT : (Nm.wds T).length ≤ 123 := by rw [← hT]; exact Nat.le_trans (Nm.wds_mono (Nat.mod_le _ _)) lu
                  have CP := Lib.hid (fun v1 v2 w H1 H2 => parts_any v1 v2 (ma * 2 ^ 120) mb w H1 H2 (by omega) (by omega) (HM0.out rfl))
                  rw [hQ, hT] at CP ⊢
                  have CR := Lib.hid (fun v w H => round_any false (T != 0) v Q (pa - 120 - pb) w H (by omega) (by omega) (by omega))
                  have hlen : decide ((0 : Int) < ((Nm.wds T).length : Int)) = (T != 0) := by
                    rw [Bool.eq_iff_iff]
                    have := Nm.wds_nil (n := T)
                    simp
                    omega
                  obtain ⟨mo, hmo⟩ : ∃ x, (T != 0) = x := ⟨_, rfl⟩
                  obtain ⟨LT, hLT⟩ : ∃ x, (Nm.wds T).length = x := ⟨_, rfl⟩
                  have hlen2 : decide (0 < LT) = mo := by rw [← hmo, ← hlen, ← hLT, decide_eq_decide]; omega
                  rw [hmo] at CR hlen ⊢
                  rw [hLT] at hlen
                  have HLT := Lib.hid hLT
                  clear hQ hT hmo hLT
                  have BB := Lib.hid (Below.refl w.heap.size w)
                  go_enter Tryz.func57, Tryz.ntmps57
                  go_wp2_with fail
                  refine (NA.out _).mono ?_
                  rintro e' wq1 ⟨rfl, rfl⟩
                  go_wp2_with fail
                  refine (NB.out _).mono ?_
                  rintro e' wq2 ⟨rfl, rfl⟩
                  go_wp2_with fail
                  refine (IA.out _).mono ?_
                  rintro e' wq3 ⟨rfl, rfl⟩
                  go_wp2_with fail
                  refine (ZA.out _).mono ?_
                  rintro e' wq4 ⟨rfl, rfl⟩
                  go_wp2_with fail
                  refine (SA.out _).mono ?_
                  rintro e' wq5 ⟨rfl, rfl⟩
                  go_wp2_with fail
                  refine (SB.out _).mono ?_
                  rintro e' wq6 ⟨rfl, rfl⟩
                  go_wp2_with fail
                  refine (IA.out _).mono ?_
                  rintro e' wq7 ⟨rfl, rfl⟩
                  go_wp2_with fail
                  refine (ZB.out _).mono ?_
                  rintro e' wq8 ⟨rfl, rfl⟩
                  go_wp2_with fail
                  refine (IB.out _).mono ?_
                  rintro e' wq9 ⟨rfl, rfl⟩
                  go_wp2_with fail
                  refine (ZA.out _).mono ?_
                  rintro e' wq10 ⟨rfl, rfl⟩
                  go_wp2_with fail
                  refine (OA.out _).mono ?_
                  rintro e' wq11 ⟨rfl, rfl⟩
                  go_wp2_with fail
                  refine (OB.out _).mono ?_
                  rintro e' wq12 ⟨rfl, rfl⟩
                  go_wp2_with fail
                  refine (from_any ma lma _).mono ?_
                  rintro e' wb13 ⟨vG1, rfl, hbig, hb⟩
                  have BB := Lib.hid (BB.out.trans (hb.mono BB.out.size))
                  clear hb
                  have G1 := Lib.hid hbig
                  clear hbig
                  go_wp2_with fail
                  refine (up_any _ ma 120 _ G1.out (by omega) (by omega)).mono ?_
                  rintro e' wb14 ⟨vG2, rfl, hbig, hb⟩
                  have G1 := Lib.hid (G1.out.below hb)
                  have BB := Lib.hid (BB.out.trans (hb.mono BB.out.size))
                  clear hb
                  have G2 := Lib.hid hbig
                  clear hbig
                  go_wp2_with fail
                  refine (from_any mb lmb _).mono ?_
                  rintro e' wb15 ⟨vG3, rfl, hbig, hb⟩
                  have G1 := Lib.hid (G1.out.below hb)
                  have G2 := Lib.hid (G2.out.below hb)
                  have BB := Lib.hid (BB.out.trans (hb.mono BB.out.size))
                  clear hb
                  have G3 := Lib.hid hbig
                  clear hbig
                  go_wp2_with fail
                  refine (CP.out _ _ _ G2.out G3.out).mono ?_
                  rintro e' wb16 ⟨vG4, vG5, rfl, hbig1, hbig2, hb⟩
                  have G1 := Lib.hid (G1.out.below hb)
                  have G2 := Lib.hid (G2.out.below hb)
                  have G3 := Lib.hid (G3.out.below hb)
                  have BB := Lib.hid (BB.out.trans (hb.mono BB.out.size))
                  clear hb
                  have G4 := Lib.hid hbig1
                  have G5 := Lib.hid hbig2
                  clear hbig1 hbig2
                  obtain ⟨a5, c5, rfl, hc5, hw5⟩ := G5.out
                  rw [HLT.out]
                  clear hc5 hw5
                  go_wp2_with fail
                  refine (CR.out _ _ G4.out).mono ?_
                  rintro e' wm17 ⟨rfl, hb⟩
                  have G1 := Lib.hid (G1.out.below hb)
                  have G2 := Lib.hid (G2.out.below hb)
                  have G3 := Lib.hid (G3.out.below hb)
                  have G4 := Lib.hid (G4.out.below hb)
                  have BB := Lib.hid (BB.out.trans (hb.mono BB.out.size))
                  clear hb
                  go_wp2
                  go_ret
                  exact ⟨rfl, BB.out⟩
                · obtain rfl : Nm.round false 0 0 false = R := ZER.out rfl rfl rfl
                  clear BAD INF FIN ZER
                  have CR := Lib.hid (fun w => round_any false false (.slice none 0 0) 0 0 w (Big.nil w) (by rw [Nm.wds_zero]; decide) (by omega) (by omega))
                  have BB := Lib.hid (Below.refl w.heap.size w)
                  go_enter Tryz.func57, Tryz.ntmps57
                  go_wp2_with fail
                  refine (NA.out _).mono ?_
                  rintro e' wq1 ⟨rfl, rfl⟩
                  go_wp2_with fail
                  refine (NB.out _).mono ?_
                  rintro e' wq2 ⟨rfl, rfl⟩
                  go_wp2_with fail
                  refine (IA.out _).mono ?_
                  rintro e' wq3 ⟨rfl, rfl⟩
                  go_wp2_with fail
                  refine (ZA.out _).mono ?_
                  rintro e' wq4 ⟨rfl, rfl⟩
                  go_wp2_with fail
                  refine (SA.out _).mono ?_
                  rintro e' wq5 ⟨rfl, rfl⟩
                  go_wp2_with fail
                  refine (SB.out _).mono ?_
                  rintro e' wq6 ⟨rfl, rfl⟩
                  go_wp2_with fail
                  refine (IA.out _).mono ?_
                  rintro e' wq7 ⟨rfl, rfl⟩
                  go_wp2_with fail
                  refine (ZB.out _).mono ?_
                  rintro e' wq8 ⟨rfl, rfl⟩
                  go_wp2_with fail
                  refine (IB.out _).mono ?_
                  rintro e' wq9 ⟨rfl, rfl⟩
                  go_wp2_with fail
                  refine (CR.out _).mono ?_
                  rintro e' wm10 ⟨rfl, hb⟩
                  have BB := Lib.hid (BB.out.trans (hb.mono BB.out.size))
                  clear hb
                  go_wp2
                  go_ret
                  exact ⟨rfl, BB.out⟩
              · obtain rfl : Nm.word false Nm.inf = R := INF.out rfl rfl
                clear BAD INF FIN
                have BB := Lib.hid (Below.refl w.heap.size w)
                go_enter Tryz.func57, Tryz.ntmps57
                go_wp2_with fail
                refine (NA.out _).mono ?_
                rintro e' wq1 ⟨rfl, rfl⟩
                go_wp2_with fail
                refine (NB.out _).mono ?_
                rintro e' wq2 ⟨rfl, rfl⟩
                go_wp2_with fail
                refine (IA.out _).mono ?_
                rintro e' wq3 ⟨rfl, rfl⟩
                go_wp2_with fail
                refine (ZA.out _).mono ?_
                rintro e' wq4 ⟨rfl, rfl⟩
                go_wp2_with fail
                refine (SA.out _).mono ?_
                rintro e' wq5 ⟨rfl, rfl⟩
                go_wp2_with fail
                refine (SB.out _).mono ?_
                rintro e' wq6 ⟨rfl, rfl⟩
                go_wp2_with fail
                refine (IA.out _).mono ?_
                rintro e' wq7 ⟨rfl, rfl⟩
                go_wp2_with fail
                refine (ZB.out _).mono ?_
                rintro e' wq8 ⟨rfl, rfl⟩
                go_wp2_with fail
                refine (rinfv_any false _).mono ?_
                rintro e' wq9 ⟨rfl, rfl⟩
                go_wp2
                go_ret
                exact ⟨rfl, BB.out⟩
            · cases zb
              · cases ib
                · obtain rfl : Nm.round true (ma * 2 ^ 120 / mb) (pa - 120 - pb) (ma * 2 ^ 120 % mb != 0) = R := FIN.out rfl rfl rfl
                  clear BAD INF FIN ZER
                  obtain ⟨Q, hQ⟩ : ∃ x, ma * 2 ^ 120 / mb = x := ⟨_, rfl⟩
                  obtain ⟨T, hT⟩ : ∃ x, ma * 2 ^ 120 % mb = x := ⟨_, rfl⟩
                  have lu : (Nm.wds (ma * 2 ^ 120)).length ≤ 123 := len_mul wma (wds_pow 120)
                  have lq : (Nm.wds Q).length ≤ 123 := by rw [← hQ]; exact Nat.le_trans (Nm.wds_mono (Nat.div_le_self _ _)) lu
                  have lT : (Nm.wds T).length ≤ 123 := by rw [← hT]; exact Nat.le_trans (Nm.wds_mono (Nat.mod_le _ _)) lu
                  have CP := Lib.hid (fun v1 v2 w H1 H2 => parts_any v1 v2 (ma * 2 ^ 120) mb w H1 H2 (by omega) (by omega) (HM0.out rfl))
                  rw [hQ, hT] at CP ⊢
                  have CR := Lib.hid (fun v w H => round_any true (T != 0) v Q (pa - 120 - pb) w H (by omega) (by omega) (by omega))
                  have hlen : decide ((0 : Int) < ((Nm.wds T).length : Int)) = (T != 0) := by
                    rw [Bool.eq_iff_iff]
                    have := Nm.wds_nil (n := T)
                    simp
                    omega
                  obtain ⟨mo, hmo⟩ : ∃ x, (T != 0) = x := ⟨_, rfl⟩
                  obtain ⟨LT, hLT⟩ : ∃ x, (Nm.wds T).length = x := ⟨_, rfl⟩
                  have hlen2 : decide (0 < LT) = mo := by rw [← hmo, ← hlen, ← hLT, decide_eq_decide]; omega
                  rw [hmo] at CR hlen ⊢
                  rw [hLT] at hlen
                  have HLT := Lib.hid hLT
                  clear hQ hT hmo hLT
                  have BB := Lib.hid (Below.refl w.heap.size w)
                  go_enter Tryz.func57, Tryz.ntmps57
                  go_wp2_with fail
                  refine (NA.out _).mono ?_
                  rintro e' wq1 ⟨rfl, rfl⟩
                  go_wp2_with fail
                  refine (NB.out _).mono ?_
                  rintro e' wq2 ⟨rfl, rfl⟩
                  go_wp2_with fail
                  refine (IA.out _).mono ?_
                  rintro e' wq3 ⟨rfl, rfl⟩
                  go_wp2_with fail
                  refine (ZA.out _).mono ?_
                  rintro e' wq4 ⟨rfl, rfl⟩
                  go_wp2_with fail
                  refine (SA.out _).mono ?_
                  rintro e' wq5 ⟨rfl, rfl⟩
                  go_wp2_with fail
                  refine (SB.out _).mono ?_
                  rintro e' wq6 ⟨rfl, rfl⟩
                  go_wp2_with fail
                  refine (IA.out _).mono ?_
                  rintro e' wq7 ⟨rfl, rfl⟩
                  go_wp2_with fail
                  refine (ZB.out _).mono ?_
                  rintro e' wq8 ⟨rfl, rfl⟩
                  go_wp2_with fail
                  refine (IB.out _).mono ?_
                  rintro e' wq9 ⟨rfl, rfl⟩
                  go_wp2_with fail
                  refine (ZA.out _).mono ?_
                  rintro e' wq10 ⟨rfl, rfl⟩
                  go_wp2_with fail
                  refine (OA.out _).mono ?_
                  rintro e' wq11 ⟨rfl, rfl⟩
                  go_wp2_with fail
                  refine (OB.out _).mono ?_
                  rintro e' wq12 ⟨rfl, rfl⟩
                  go_wp2_with fail
                  refine (from_any ma lma _).mono ?_
                  rintro e' wb13 ⟨vG1, rfl, hbig, hb⟩
                  have BB := Lib.hid (BB.out.trans (hb.mono BB.out.size))
                  clear hb
                  have G1 := Lib.hid hbig
                  clear hbig
                  go_wp2_with fail
                  refine (up_any _ ma 120 _ G1.out (by omega) (by omega)).mono ?_
                  rintro e' wb14 ⟨vG2, rfl, hbig, hb⟩
                  have G1 := Lib.hid (G1.out.below hb)
                  have BB := Lib.hid (BB.out.trans (hb.mono BB.out.size))
                  clear hb
                  have G2 := Lib.hid hbig
                  clear hbig
                  go_wp2_with fail
                  refine (from_any mb lmb _).mono ?_
                  rintro e' wb15 ⟨vG3, rfl, hbig, hb⟩
                  have G1 := Lib.hid (G1.out.below hb)
                  have G2 := Lib.hid (G2.out.below hb)
                  have BB := Lib.hid (BB.out.trans (hb.mono BB.out.size))
                  clear hb
                  have G3 := Lib.hid hbig
                  clear hbig
                  go_wp2_with fail
                  refine (CP.out _ _ _ G2.out G3.out).mono ?_
                  rintro e' wb16 ⟨vG4, vG5, rfl, hbig1, hbig2, hb⟩
                  have G1 := Lib.hid (G1.out.below hb)
                  have G2 := Lib.hid (G2.out.below hb)
                  have G3 := Lib.hid (G3.out.below hb)
                  have BB := Lib.hid (BB.out.trans (hb.mono BB.out.size))
                  clear hb
                  have G4 := Lib.hid hbig1
                  have G5 := Lib.hid hbig2
                  clear hbig1 hbig2
                  obtain ⟨a5, c5, rfl, hc5, hw5⟩ := G5.out
                  rw [HLT.out]
                  clear hc5 hw5
                  go_wp2_with fail
                  refine (CR.out _ _ G4.out).mono ?_
                  rintro e' wm17 ⟨rfl, hb⟩
                  have G1 := Lib.hid (G1.out.below hb)
                  have G2 := Lib.hid (G2.out.below hb)
                  have G3 := Lib.hid (G3.out.below hb)
                  have G4 := Lib.hid (G4.out.below hb)
                  have BB := Lib.hid (BB.out.trans (hb.mono BB.out.size))
                  clear hb
                  go_wp2
                  go_ret
                  exact ⟨rfl, BB.out⟩
                · obtain rfl : Nm.round true 0 0 false = R := ZER.out rfl rfl rfl
                  clear BAD INF FIN ZER
                  have CR := Lib.hid (fun w => round_any true false (.slice none 0 0) 0 0 w (Big.nil w) (by rw [Nm.wds_zero]; decide) (by omega) (by omega))
                  have BB := Lib.hid (Below.refl w.heap.size w)
                  go_enter Tryz.func57, Tryz.ntmps57
                  go_wp2_with fail
                  refine (NA.out _).mono ?_
                  rintro e' wq1 ⟨rfl, rfl⟩
                  go_wp2_with fail
                  refine (NB.out _).mono ?_
                  rintro e' wq2 ⟨rfl, rfl⟩
                  go_wp2_with fail
                  refine (IA.out _).mono ?_
                  rintro e' wq3 ⟨rfl, rfl⟩
                  go_wp2_with fail
                  refine (ZA.out _).mono ?_
                  rintro e' wq4 ⟨rfl, rfl⟩
                  go_wp2_with fail
                  refine (SA.out _).mono ?_
                  rintro e' wq5 ⟨rfl, rfl⟩
                  go_wp2_with fail
                  refine (SB.out _).mono ?_
                  rintro e' wq6 ⟨rfl, rfl⟩
                  go_wp2_with fail
                  refine (IA.out _).mono ?_
                  rintro e' wq7 ⟨rfl, rfl⟩
                  go_wp2_with fail
                  refine (ZB.out _).mono ?_
                  rintro e' wq8 ⟨rfl, rfl⟩
                  go_wp2_with fail
                  refine (IB.out _).mono ?_
                  rintro e' wq9 ⟨rfl, rfl⟩
                  go_wp2_with fail
                  refine (CR.out _).mono ?_
                  rintro e' wm10 ⟨rfl, hb⟩
                  have BB := Lib.hid (BB.out.trans (hb.mono BB.out.size))
                  clear hb
                  go_wp2
                  go_ret
                  exact ⟨rfl, BB.out⟩
              · obtain rfl : Nm.word true Nm.inf = R := INF.out rfl rfl
                clear BAD INF FIN
                have BB := Lib.hid (Below.refl w.heap.size w)
                go_enter Tryz.func57, Tryz.ntmps57
                go_wp2_with fail
                refine (NA.out _).mono ?_
                rintro e' wq1 ⟨rfl, rfl⟩
                go_wp2_with fail
                refine (NB.out _).mono ?_
                rintro e' wq2 ⟨rfl, rfl⟩
                go_wp2_with fail
                refine (IA.out _).mono ?_
                rintro e' wq3 ⟨rfl, rfl⟩
                go_wp2_with fail
                refine (ZA.out _).mono ?_
                rintro e' wq4 ⟨rfl, rfl⟩
                go_wp2_with fail
                refine (SA.out _).mono ?_
                rintro e' wq5 ⟨rfl, rfl⟩
                go_wp2_with fail
                refine (SB.out _).mono ?_
                rintro e' wq6 ⟨rfl, rfl⟩
                go_wp2_with fail
                refine (IA.out _).mono ?_
                rintro e' wq7 ⟨rfl, rfl⟩
                go_wp2_with fail
                refine (ZB.out _).mono ?_
                rintro e' wq8 ⟨rfl, rfl⟩
                go_wp2_with fail
                refine (rinfv_any true _).mono ?_
                rintro e' wq9 ⟨rfl, rfl⟩
                go_wp2
                go_ret
                exact ⟨rfl, BB.out⟩
          · cases sb
            · cases zb
              · cases ib
                · obtain rfl : Nm.round true (ma * 2 ^ 120 / mb) (pa - 120 - pb) (ma * 2 ^ 120 % mb != 0) = R := FIN.out rfl rfl rfl
                  clear BAD INF FIN ZER
                  obtain ⟨Q, hQ⟩ : ∃ x, ma * 2 ^ 120 / mb = x := ⟨_, rfl⟩
                  obtain ⟨T, hT⟩ : ∃ x, ma * 2 ^ 120 % mb = x := ⟨_, rfl⟩
                  have lu : (Nm.wds (ma * 2 ^ 120)).length ≤ 123 := len_mul wma (wds_pow 120)
                  have lq : (Nm.wds Q).length ≤ 123 := by rw [← hQ]; exact Nat.le_trans (Nm.wds_mono (Nat.div_le_self _ _)) lu
                  have lT : (Nm.wds T).length ≤ 123 := by rw [← hT]; exact Nat.le_trans (Nm.wds_mono (Nat.mod_le _ _)) lu
                  have CP := Lib.hid (fun v1 v2 w H1 H2 => parts_any v1 v2 (ma * 2 ^ 120) mb w H1 H2 (by omega) (by omega) (HM0.out rfl))
                  rw [hQ, hT] at CP ⊢
                  have CR := Lib.hid (fun v w H => round_any true (T != 0) v Q (pa - 120 - pb) w H (by omega) (by omega) (by omega))
                  have hlen : decide ((0 : Int) < ((Nm.wds T).length : Int)) = (T != 0) := by
                    rw [Bool.eq_iff_iff]
                    have := Nm.wds_nil (n := T)
                    simp
                    omega
                  obtain ⟨mo, hmo⟩ : ∃ x, (T != 0) = x := ⟨_, rfl⟩
                  obtain ⟨LT, hLT⟩ : ∃ x, (Nm.wds T).length = x := ⟨_, rfl⟩
                  have hlen2 : decide (0 < LT) = mo := by rw [← hmo, ← hlen, ← hLT, decide_eq_decide]; omega
                  rw [hmo] at CR hlen ⊢
                  rw [hLT] at hlen
                  have HLT := Lib.hid hLT
                  clear hQ hT hmo hLT
                  have BB := Lib.hid (Below.refl w.heap.size w)
                  go_enter Tryz.func57, Tryz.ntmps57
                  go_wp2_with fail
                  refine (NA.out _).mono ?_
                  rintro e' wq1 ⟨rfl, rfl⟩
                  go_wp2_with fail
                  refine (NB.out _).mono ?_
                  rintro e' wq2 ⟨rfl, rfl⟩
                  go_wp2_with fail
                  refine (IA.out _).mono ?_
                  rintro e' wq3 ⟨rfl, rfl⟩
                  go_wp2_with fail
                  refine (ZA.out _).mono ?_
                  rintro e' wq4 ⟨rfl, rfl⟩
                  go_wp2_with fail
                  refine (SA.out _).mono ?_
                  rintro e' wq5 ⟨rfl, rfl⟩
                  go_wp2_with fail
                  refine (SB.out _).mono ?_
                  rintro e' wq6 ⟨rfl, rfl⟩
                  go_wp2_with fail
                  refine (IA.out _).mono ?_
                  rintro e' wq7 ⟨rfl, rfl⟩
                  go_wp2_with fail
                  refine (ZB.out _).mono ?_
                  rintro e' wq8 ⟨rfl, rfl⟩
                  go_wp2_with fail
                  refine (IB.out _).mono ?_
                  rintro e' wq9 ⟨rfl, rfl⟩
                  go_wp2_with fail
                  refine (ZA.out _).mono ?_
                  rintro e' wq10 ⟨rfl, rfl⟩
                  go_wp2_with fail
                  refine (OA.out _).mono ?_
                  rintro e' wq11 ⟨rfl, rfl⟩
                  go_wp2_with fail
                  refine (OB.out _).mono ?_
                  rintro e' wq12 ⟨rfl, rfl⟩
                  go_wp2_with fail
                  refine (from_any ma lma _).mono ?_
                  rintro e' wb13 ⟨vG1, rfl, hbig, hb⟩
                  have BB := Lib.hid (BB.out.trans (hb.mono BB.out.size))
                  clear hb
                  have G1 := Lib.hid hbig
                  clear hbig
                  go_wp2_with fail
                  refine (up_any _ ma 120 _ G1.out (by omega) (by omega)).mono ?_
                  rintro e' wb14 ⟨vG2, rfl, hbig, hb⟩
                  have G1 := Lib.hid (G1.out.below hb)
                  have BB := Lib.hid (BB.out.trans (hb.mono BB.out.size))
                  clear hb
                  have G2 := Lib.hid hbig
                  clear hbig
                  go_wp2_with fail
                  refine (from_any mb lmb _).mono ?_
                  rintro e' wb15 ⟨vG3, rfl, hbig, hb⟩
                  have G1 := Lib.hid (G1.out.below hb)
                  have G2 := Lib.hid (G2.out.below hb)
                  have BB := Lib.hid (BB.out.trans (hb.mono BB.out.size))
                  clear hb
                  have G3 := Lib.hid hbig
                  clear hbig
                  go_wp2_with fail
                  refine (CP.out _ _ _ G2.out G3.out).mono ?_
                  rintro e' wb16 ⟨vG4, vG5, rfl, hbig1, hbig2, hb⟩
                  have G1 := Lib.hid (G1.out.below hb)
                  have G2 := Lib.hid (G2.out.below hb)
                  have G3 := Lib.hid (G3.out.below hb)
                  have BB := Lib.hid (BB.out.trans (hb.mono BB.out.size))
                  clear hb
                  have G4 := Lib.hid hbig1
                  have G5 := Lib.hid hbig2
                  clear hbig1 hbig2
                  obtain ⟨a5, c5, rfl, hc5, hw5⟩ := G5.out
                  rw [HLT.out]
                  clear hc5 hw5
                  go_wp2_with fail
                  refine (CR.out _ _ G4.out).mono ?_
                  rintro e' wm17 ⟨rfl, hb⟩
                  have G1 := Lib.hid (G1.out.below hb)
                  have G2 := Lib.hid (G2.out.below hb)
                  have G3 := Lib.hid (G3.out.below hb)
                  have G4 := Lib.hid (G4.out.below hb)
                  have BB := Lib.hid (BB.out.trans (hb.mono BB.out.size))
                  clear hb
                  go_wp2
                  go_ret
                  exact ⟨rfl, BB.out⟩
                · obtain rfl : Nm.round true 0 0 false = R := ZER.out rfl rfl rfl
                  clear BAD INF FIN ZER
                  have CR := Lib.hid (fun w => round_any true false (.slice none 0 0) 0 0 w (Big.nil w) (by rw [Nm.wds_zero]; decide) (by omega) (by omega))
                  have BB := Lib.hid (Below.refl w.heap.size w)
                  go_enter Tryz.func57, Tryz.ntmps57
                  go_wp2_with fail
                  refine (NA.out _).mono ?_
                  rintro e' wq1 ⟨rfl, rfl⟩
                  go_wp2_with fail
                  refine (NB.out _).mono ?_
                  rintro e' wq2 ⟨rfl, rfl⟩
                  go_wp2_with fail
                  refine (IA.out _).mono ?_
                  rintro e' wq3 ⟨rfl, rfl⟩
                  go_wp2_with fail
                  refine (ZA.out _).mono ?_
                  rintro e' wq4 ⟨rfl, rfl⟩
                  go_wp2_with fail
                  refine (SA.out _).mono ?_
                  rintro e' wq5 ⟨rfl, rfl⟩
                  go_wp2_with fail
                  refine (SB.out _).mono ?_
                  rintro e' wq6 ⟨rfl, rfl⟩
                  go_wp2_with fail
                  refine (IA.out _).mono ?_
                  rintro e' wq7 ⟨rfl, rfl⟩
                  go_wp2_with fail
                  refine (ZB.out _).mono ?_
                  rintro e' wq8 ⟨rfl, rfl⟩
                  go_wp2_with fail
                  refine (IB.out _).mono ?_
                  rintro e' wq9 ⟨rfl, rfl⟩
                  go_wp2_with fail
                  refine (CR.out _).mono ?_
                  rintro e' wm10 ⟨rfl, hb⟩
                  have BB := Lib.hid (BB.out.trans (hb.mono BB.out.size))
                  clear hb
                  go_wp2
                  go_ret
                  exact ⟨rfl, BB.out⟩
              · obtain rfl : Nm.word true Nm.inf = R := INF.out rfl rfl
                clear BAD INF FIN
                have BB := Lib.hid (Below.refl w.heap.size w)
                go_enter Tryz.func57, Tryz.ntmps57
                go_wp2_with fail
                refine (NA.out _).mono ?_
                rintro e' wq1 ⟨rfl, rfl⟩
                go_wp2_with fail
                refine (NB.out _).mono ?_
                rintro e' wq2 ⟨rfl, rfl⟩
                go_wp2_with fail
                refine (IA.out _).mono ?_
                rintro e' wq3 ⟨rfl, rfl⟩
                go_wp2_with fail
                refine (ZA.out _).mono ?_
                rintro e' wq4 ⟨rfl, rfl⟩
                go_wp2_with fail
                refine (SA.out _).mono ?_
                rintro e' wq5 ⟨rfl, rfl⟩
                go_wp2_with fail
                refine (SB.out _).mono ?_
                rintro e' wq6 ⟨rfl, rfl⟩
                go_wp2_with fail
                refine (IA.out _).mono ?_
                rintro e' wq7 ⟨rfl, rfl⟩
                go_wp2_with fail
                refine (ZB.out _).mono ?_
                rintro e' wq8 ⟨rfl, rfl⟩
                go_wp2_with fail
                refine (rinfv_any true _).mono ?_
                rintro e' wq9 ⟨rfl, rfl⟩
                go_wp2
                go_ret
                exact ⟨rfl, BB.out⟩
            · cases zb
              · cases ib
                · obtain rfl : Nm.round false (ma * 2 ^ 120 / mb) (pa - 120 - pb) (ma * 2 ^ 120 % mb != 0) = R := FIN.out rfl rfl rfl
                  clear BAD INF FIN ZER
                  obtain ⟨Q, hQ⟩ : ∃ x, ma * 2 ^ 120 / mb = x := ⟨_, rfl⟩
                  obtain ⟨T, hT⟩ : ∃ x, ma * 2 ^ 120 % mb = x := ⟨_, rfl⟩
                  have lu : (Nm.wds (ma * 2 ^ 120)).length ≤ 123 := len_mul wma (wds_pow 120)
                  have lq : (Nm.wds Q).length ≤ 123 := by rw [← hQ]; exact Nat.le_trans (Nm.wds_mono (Nat.div_le_self _ _)) lu
                  have lT : (Nm.wds T).length ≤ 123 := by rw [← hT]; exact Nat.le_trans (Nm.wds_mono (Nat.mod_le _ _)) lu
                  have CP := Lib.hid (fun v1 v2 w H1 H2 => parts_any v1 v2 (ma * 2 ^ 120) mb w H1 H2 (by omega) (by omega) (HM0.out rfl))
                  rw [hQ, hT] at CP ⊢
                  have CR := Lib.hid (fun v w H => round_any false (T != 0) v Q (pa - 120 - pb) w H (by omega) (by omega) (by omega))
                  have hlen : decide ((0 : Int) < ((Nm.wds T).length : Int)) = (T != 0) := by
                    rw [Bool.eq_iff_iff]
                    have := Nm.wds_nil (n := T)
                    simp
                    omega
                  obtain ⟨mo, hmo⟩ : ∃ x, (T != 0) = x := ⟨_, rfl⟩
                  obtain ⟨LT, hLT⟩ : ∃ x, (Nm.wds T).length = x := ⟨_, rfl⟩
                  have hlen2 : decide (0 < LT) = mo := by rw [← hmo, ← hlen, ← hLT, decide_eq_decide]; omega
                  rw [hmo] at CR hlen ⊢
                  rw [hLT] at hlen
                  have HLT := Lib.hid hLT
                  clear hQ hT hmo hLT
                  have BB := Lib.hid (Below.refl w.heap.size w)
                  go_enter Tryz.func57, Tryz.ntmps57
                  go_wp2_with fail
                  refine (NA.out _).mono ?_
                  rintro e' wq1 ⟨rfl, rfl⟩
                  go_wp2_with fail
                  refine (NB.out _).mono ?_
                  rintro e' wq2 ⟨rfl, rfl⟩
                  go_wp2_with fail
                  refine (IA.out _).mono ?_
                  rintro e' wq3 ⟨rfl, rfl⟩
                  go_wp2_with fail
                  refine (ZA.out _).mono ?_
                  rintro e' wq4 ⟨rfl, rfl⟩
                  go_wp2_with fail
                  refine (SA.out _).mono ?_
                  rintro e' wq5 ⟨rfl, rfl⟩
                  go_wp2_with fail
                  refine (SB.out _).mono ?_
                  rintro e' wq6 ⟨rfl, rfl⟩
                  go_wp2_with fail
                  refine (IA.out _).mono ?_
                  rintro e' wq7 ⟨rfl, rfl⟩
                  go_wp2_with fail
                  refine (ZB.out _).mono ?_
                  rintro e' wq8 ⟨rfl, rfl⟩
                  go_wp2_with fail
                  refine (IB.out _).mono ?_
                  rintro e' wq9 ⟨rfl, rfl⟩
                  go_wp2_with fail
                  refine (ZA.out _).mono ?_
                  rintro e' wq10 ⟨rfl, rfl⟩
                  go_wp2_with fail
                  refine (OA.out _).mono ?_
                  rintro e' wq11 ⟨rfl, rfl⟩
                  go_wp2_with fail
                  refine (OB.out _).mono ?_
                  rintro e' wq12 ⟨rfl, rfl⟩
                  go_wp2_with fail
                  refine (from_any ma lma _).mono ?_
                  rintro e' wb13 ⟨vG1, rfl, hbig, hb⟩
                  have BB := Lib.hid (BB.out.trans (hb.mono BB.out.size))
                  clear hb
                  have G1 := Lib.hid hbig
                  clear hbig
                  go_wp2_with fail
                  refine (up_any _ ma 120 _ G1.out (by omega) (by omega)).mono ?_
                  rintro e' wb14 ⟨vG2, rfl, hbig, hb⟩
                  have G1 := Lib.hid (G1.out.below hb)
                  have BB := Lib.hid (BB.out.trans (hb.mono BB.out.size))
                  clear hb
                  have G2 := Lib.hid hbig
                  clear hbig
                  go_wp2_with fail
                  refine (from_any mb lmb _).mono ?_
                  rintro e' wb15 ⟨vG3, rfl, hbig, hb⟩
                  have G1 := Lib.hid (G1.out.below hb)
                  have G2 := Lib.hid (G2.out.below hb)
                  have BB := Lib.hid (BB.out.trans (hb.mono BB.out.size))
                  clear hb
                  have G3 := Lib.hid hbig
                  clear hbig
                  go_wp2_with fail
                  refine (CP.out _ _ _ G2.out G3.out).mono ?_
                  rintro e' wb16 ⟨vG4, vG5, rfl, hbig1, hbig2, hb⟩
                  have G1 := Lib.hid (G1.out.below hb)
                  have G2 := Lib.hid (G2.out.below hb)
                  have G3 := Lib.hid (G3.out.below hb)
                  have BB := Lib.hid (BB.out.trans (hb.mono BB.out.size))
                  clear hb
                  have G4 := Lib.hid hbig1
                  have G5 := Lib.hid hbig2
                  clear hbig1 hbig2
                  obtain ⟨a5, c5, rfl, hc5, hw5⟩ := G5.out
                  rw [HLT.out]
                  clear hc5 hw5
                  go_wp2_with fail
                  refine (CR.out _ _ G4.out).mono ?_
                  rintro e' wm17 ⟨rfl, hb⟩
                  have G1 := Lib.hid (G1.out.below hb)
                  have G2 := Lib.hid (G2.out.below hb)
                  have G3 := Lib.hid (G3.out.below hb)
                  have G4 := Lib.hid (G4.out.below hb)
                  have BB := Lib.hid (BB.out.trans (hb.mono BB.out.size))
                  clear hb
                  go_wp2
                  go_ret
                  exact ⟨rfl, BB.out⟩
                · obtain rfl : Nm.round false 0 0 false = R := ZER.out rfl rfl rfl
                  clear BAD INF FIN ZER
                  have CR := Lib.hid (fun w => round_any false false (.slice none 0 0) 0 0 w (Big.nil w) (by rw [Nm.wds_zero]; decide) (by omega) (by omega))
                  have BB := Lib.hid (Below.refl w.heap.size w)
                  go_enter Tryz.func57, Tryz.ntmps57
                  go_wp2_with fail
                  refine (NA.out _).mono ?_
                  rintro e' wq1 ⟨rfl, rfl⟩
                  go_wp2_with fail
                  refine (NB.out _).mono ?_
                  rintro e' wq2 ⟨rfl, rfl⟩
                  go_wp2_with fail
                  refine (IA.out _).mono ?_
                  rintro e' wq3 ⟨rfl, rfl⟩
                  go_wp2_with fail
                  refine (ZA.out _).mono ?_
                  rintro e' wq4 ⟨rfl, rfl⟩
                  go_wp2_with fail
                  refine (SA.out _).mono ?_
                  rintro e' wq5 ⟨rfl, rfl⟩
                  go_wp2_with fail
                  refine (SB.out _).mono ?_
                  rintro e' wq6 ⟨rfl, rfl⟩
                  go_wp2_with fail
                  refine (IA.out _).mono ?_
                  rintro e' wq7 ⟨rfl, rfl⟩
                  go_wp2_with fail
                  refine (ZB.out _).mono ?_
                  rintro e' wq8 ⟨rfl, rfl⟩
                  go_wp2_with fail
                  refine (IB.out _).mono ?_
                  rintro e' wq9 ⟨rfl, rfl⟩
                  go_wp2_with fail
                  refine (CR.out _).mono ?_
                  rintro e' wm10 ⟨rfl, hb⟩
                  have BB := Lib.hid (BB.out.trans (hb.mono BB.out.size))
                  clear hb
                  go_wp2
                  go_ret
                  exact ⟨rfl, BB.out⟩
              · obtain rfl : Nm.word false Nm.inf = R := INF.out rfl rfl
                clear BAD INF FIN
                have BB := Lib.hid (Below.refl w.heap.size w)
                go_enter Tryz.func57, Tryz.ntmps57
                go_wp2_with fail
                refine (NA.out _).mono ?_
                rintro e' wq1 ⟨rfl, rfl⟩
                go_wp2_with fail
                refine (NB.out _).mono ?_
                rintro e' wq2 ⟨rfl, rfl⟩
                go_wp2_with fail
                refine (IA.out _).mono ?_
                rintro e' wq3 ⟨rfl, rfl⟩
                go_wp2_with fail
                refine (ZA.out _).mono ?_
                rintro e' wq4 ⟨rfl, rfl⟩
                go_wp2_with fail
                refine (SA.out _).mono ?_
                rintro e' wq5 ⟨rfl, rfl⟩
                go_wp2_with fail
                refine (SB.out _).mono ?_
                rintro e' wq6 ⟨rfl, rfl⟩
                go_wp2_with fail
                refine (IA.out _).mono ?_
                rintro e' wq7 ⟨rfl, rfl⟩
                go_wp2_with fail
                refine (ZB.out _).mono ?_
                rintro e' wq8 ⟨rfl, rfl⟩
                go_wp2_with fail
                refine (rinfv_any false _).mono ?_
                rintro e' wq9 ⟨rfl, rfl⟩
                go_wp2
                go_ret
                exact ⟨rfl, BB.out⟩
        · cases zb
          · cases sa
            · cases sb
              · cases ib
                · obtain rfl : Nm.round false 0 0 false = R := ZER.out rfl rfl rfl
                  clear BAD INF FIN ZER
                  have CR := Lib.hid (fun w => round_any false false (.slice none 0 0) 0 0 w (Big.nil w) (by rw [Nm.wds_zero]; decide) (by omega) (by omega))
                  have BB := Lib.hid (Below.refl w.heap.size w)
                  go_enter Tryz.func57, Tryz.ntmps57
                  go_wp2_with fail
                  refine (NA.out _).mono ?_
                  rintro e' wq1 ⟨rfl, rfl⟩
                  go_wp2_with fail
                  refine (NB.out _).mono ?_
                  rintro e' wq2 ⟨rfl, rfl⟩
                  go_wp2_with fail
                  refine (IA.out _).mono ?_
                  rintro e' wq3 ⟨rfl, rfl⟩
                  go_wp2_with fail
                  refine (ZA.out _).mono ?_
                  rintro e' wq4 ⟨rfl, rfl⟩
                  go_wp2_with fail
                  refine (ZB.out _).mono ?_
                  rintro e' wq5 ⟨rfl, rfl⟩
                  go_wp2_with fail
                  refine (SA.out _).mono ?_
                  rintro e' wq6 ⟨rfl, rfl⟩
                  go_wp2_with fail
                  refine (SB.out _).mono ?_
                  rintro e' wq7 ⟨rfl, rfl⟩
                  go_wp2_with fail
                  refine (IA.out _).mono ?_
                  rintro e' wq8 ⟨rfl, rfl⟩
                  go_wp2_with fail
                  refine (ZB.out _).mono ?_
                  rintro e' wq9 ⟨rfl, rfl⟩
                  go_wp2_with fail
                  refine (IB.out _).mono ?_
                  rintro e' wq10 ⟨rfl, rfl⟩
                  go_wp2_with fail
                  refine (ZA.out _).mono ?_
                  rintro e' wq11 ⟨rfl, rfl⟩
                  go_wp2_with fail
                  refine (CR.out _).mono ?_
                  rintro e' wm12 ⟨rfl, hb⟩
                  have BB := Lib.hid (BB.out.trans (hb.mono BB.out.size))
                  clear hb
                  go_wp2
                  go_ret
                  exact ⟨rfl, BB.out⟩
                · obtain rfl : Nm.round false 0 0 false = R := ZER.out rfl rfl rfl
                  clear BAD INF FIN ZER
                  have CR := Lib.hid (fun w => round_any false false (.slice none 0 0) 0 0 w (Big.nil w) (by rw [Nm.wds_zero]; decide) (by omega) (by omega))
                  have BB := Lib.hid (Below.refl w.heap.size w)
                  go_enter Tryz.func57, Tryz.ntmps57
                  go_wp2_with fail
                  refine (NA.out _).mono ?_
                  rintro e' wq1 ⟨rfl, rfl⟩
                  go_wp2_with fail
                  refine (NB.out _).mono ?_
                  rintro e' wq2 ⟨rfl, rfl⟩
                  go_wp2_with fail
                  refine (IA.out _).mono ?_
                  rintro e' wq3 ⟨rfl, rfl⟩
                  go_wp2_with fail
                  refine (ZA.out _).mono ?_
                  rintro e' wq4 ⟨rfl, rfl⟩
                  go_wp2_with fail
                  refine (ZB.out _).mono ?_
                  rintro e' wq5 ⟨rfl, rfl⟩
                  go_wp2_with fail
                  refine (SA.out _).mono ?_
                  rintro e' wq6 ⟨rfl, rfl⟩
                  go_wp2_with fail
                  refine (SB.out _).mono ?_
                  rintro e' wq7 ⟨rfl, rfl⟩
                  go_wp2_with fail
                  refine (IA.out _).mono ?_
                  rintro e' wq8 ⟨rfl, rfl⟩
                  go_wp2_with fail
                  refine (ZB.out _).mono ?_
                  rintro e' wq9 ⟨rfl, rfl⟩
                  go_wp2_with fail
                  refine (IB.out _).mono ?_
                  rintro e' wq10 ⟨rfl, rfl⟩
                  go_wp2_with fail
                  refine (CR.out _).mono ?_
                  rintro e' wm11 ⟨rfl, hb⟩
                  have BB := Lib.hid (BB.out.trans (hb.mono BB.out.size))
                  clear hb
                  go_wp2
                  go_ret
                  exact ⟨rfl, BB.out⟩
              · cases ib
                · obtain rfl : Nm.round true 0 0 false = R := ZER.out rfl rfl rfl
                  clear BAD INF FIN ZER
                  have CR := Lib.hid (fun w => round_any true false (.slice none 0 0) 0 0 w (Big.nil w) (by rw [Nm.wds_zero]; decide) (by omega) (by omega))
                  have BB := Lib.hid (Below.refl w.heap.size w)
                  go_enter Tryz.func57, Tryz.ntmps57
                  go_wp2_with fail
                  refine (NA.out _).mono ?_
                  rintro e' wq1 ⟨rfl, rfl⟩
                  go_wp2_with fail
                  refine (NB.out _).mono ?_
                  rintro e' wq2 ⟨rfl, rfl⟩
                  go_wp2_with fail
                  refine (IA.out _).mono ?_
                  rintro e' wq3 ⟨rfl, rfl⟩
                  go_wp2_with fail
                  refine (ZA.out _).mono ?_
                  rintro e' wq4 ⟨rfl, rfl⟩
                  go_wp2_with fail
                  refine (ZB.out _).mono ?_
                  rintro e' wq5 ⟨rfl, rfl⟩
                  go_wp2_with fail
                  refine (SA.out _).mono ?_
                  rintro e' wq6 ⟨rfl, rfl⟩
                  go_wp2_with fail
                  refine (SB.out _).mono ?_
                  rintro e' wq7 ⟨rfl, rfl⟩
                  go_wp2_with fail
                  refine (IA.out _).mono ?_
                  rintro e' wq8 ⟨rfl, rfl⟩
                  go_wp2_with fail
                  refine (ZB.out _).mono ?_
                  rintro e' wq9 ⟨rfl, rfl⟩
                  go_wp2_with fail
                  refine (IB.out _).mono ?_
                  rintro e' wq10 ⟨rfl, rfl⟩
                  go_wp2_with fail
                  refine (ZA.out _).mono ?_
                  rintro e' wq11 ⟨rfl, rfl⟩
                  go_wp2_with fail
                  refine (CR.out _).mono ?_
                  rintro e' wm12 ⟨rfl, hb⟩
                  have BB := Lib.hid (BB.out.trans (hb.mono BB.out.size))
                  clear hb
                  go_wp2
                  go_ret
                  exact ⟨rfl, BB.out⟩
                · obtain rfl : Nm.round true 0 0 false = R := ZER.out rfl rfl rfl
                  clear BAD INF FIN ZER
                  have CR := Lib.hid (fun w => round_any true false (.slice none 0 0) 0 0 w (Big.nil w) (by rw [Nm.wds_zero]; decide) (by omega) (by omega))
                  have BB := Lib.hid (Below.refl w.heap.size w)
                  go_enter Tryz.func57, Tryz.ntmps57
                  go_wp2_with fail
                  refine (NA.out _).mono ?_
                  rintro e' wq1 ⟨rfl, rfl⟩
                  go_wp2_with fail
                  refine (NB.out _).mono ?_
                  rintro e' wq2 ⟨rfl, rfl⟩
                  go_wp2_with fail
                  refine (IA.out _).mono ?_
                  rintro e' wq3 ⟨rfl, rfl⟩
                  go_wp2_with fail
                  refine (ZA.out _).mono ?_
                  rintro e' wq4 ⟨rfl, rfl⟩
                  go_wp2_with fail
                  refine (ZB.out _).mono ?_
                  rintro e' wq5 ⟨rfl, rfl⟩
                  go_wp2_with fail
                  refine (SA.out _).mono ?_
                  rintro e' wq6 ⟨rfl, rfl⟩
                  go_wp2_with fail
                  refine (SB.out _).mono ?_
                  rintro e' wq7 ⟨rfl, rfl⟩
                  go_wp2_with fail
                  refine (IA.out _).mono ?_
                  rintro e' wq8 ⟨rfl, rfl⟩
                  go_wp2_with fail
                  refine (ZB.out _).mono ?_
                  rintro e' wq9 ⟨rfl, rfl⟩
                  go_wp2_with fail
                  refine (IB.out _).mono ?_
                  rintro e' wq10 ⟨rfl, rfl⟩
                  go_wp2_with fail
                  refine (CR.out _).mono ?_
                  rintro e' wm11 ⟨rfl, hb⟩
                  have BB := Lib.hid (BB.out.trans (hb.mono BB.out.size))
                  clear hb
                  go_wp2
                  go_ret
                  exact ⟨rfl, BB.out⟩
            · cases sb
              · cases ib
                · obtain rfl : Nm.round true 0 0 false = R := ZER.out rfl rfl rfl
                  clear BAD INF FIN ZER
                  have CR := Lib.hid (fun w => round_any true false (.slice none 0 0) 0 0 w (Big.nil w) (by rw [Nm.wds_zero]; decide) (by omega) (by omega))
                  have BB := Lib.hid (Below.refl w.heap.size w)
                  go_enter Tryz.func57, Tryz.ntmps57
                  go_wp2_with fail
                  refine (NA.out _).mono ?_
                  rintro e' wq1 ⟨rfl, rfl⟩
                  go_wp2_with fail
                  refine (NB.out _).mono ?_
                  rintro e' wq2 ⟨rfl, rfl⟩
                  go_wp2_with fail
                  refine (IA.out _).mono ?_
                  rintro e' wq3 ⟨rfl, rfl⟩
                  go_wp2_with fail
                  refine (ZA.out _).mono ?_
                  rintro e' wq4 ⟨rfl, rfl⟩
                  go_wp2_with fail
                  refine (ZB.out _).mono ?_
                  rintro e' wq5 ⟨rfl, rfl⟩
                  go_wp2_with fail
                  refine (SA.out _).mono ?_
                  rintro e' wq6 ⟨rfl, rfl⟩
                  go_wp2_with fail
                  refine (SB.out _).mono ?_
                  rintro e' wq7 ⟨rfl, rfl⟩
                  go_wp2_with fail
                  refine (IA.out _).mono ?_
                  rintro e' wq8 ⟨rfl, rfl⟩
                  go_wp2_with fail
                  refine (ZB.out _).mono ?_
                  rintro e' wq9 ⟨rfl, rfl⟩
                  go_wp2_with fail
                  refine (IB.out _).mono ?_
                  rintro e' wq10 ⟨rfl, rfl⟩
                  go_wp2_with fail
                  refine (ZA.out _).mono ?_
                  rintro e' wq11 ⟨rfl, rfl⟩
                  go_wp2_with fail
                  refine (CR.out _).mono ?_
                  rintro e' wm12 ⟨rfl, hb⟩
                  have BB := Lib.hid (BB.out.trans (hb.mono BB.out.size))
                  clear hb
                  go_wp2
                  go_ret
                  exact ⟨rfl, BB.out⟩
                · obtain rfl : Nm.round true 0 0 false = R := ZER.out rfl rfl rfl
                  clear BAD INF FIN ZER
                  have CR := Lib.hid (fun w => round_any true false (.slice none 0 0) 0 0 w (Big.nil w) (by rw [Nm.wds_zero]; decide) (by omega) (by omega))
                  have BB := Lib.hid (Below.refl w.heap.size w)
                  go_enter Tryz.func57, Tryz.ntmps57
                  go_wp2_with fail
                  refine (NA.out _).mono ?_
                  rintro e' wq1 ⟨rfl, rfl⟩
                  go_wp2_with fail
                  refine (NB.out _).mono ?_
                  rintro e' wq2 ⟨rfl, rfl⟩
                  go_wp2_with fail
                  refine (IA.out _).mono ?_
                  rintro e' wq3 ⟨rfl, rfl⟩
                  go_wp2_with fail
                  refine (ZA.out _).mono ?_
                  rintro e' wq4 ⟨rfl, rfl⟩
                  go_wp2_with fail
                  refine (ZB.out _).mono ?_
                  rintro e' wq5 ⟨rfl, rfl⟩
                  go_wp2_with fail
                  refine (SA.out _).mono ?_
                  rintro e' wq6 ⟨rfl, rfl⟩
                  go_wp2_with fail
                  refine (SB.out _).mono ?_
                  rintro e' wq7 ⟨rfl, rfl⟩
                  go_wp2_with fail
                  refine (IA.out _).mono ?_
                  rintro e' wq8 ⟨rfl, rfl⟩
                  go_wp2_with fail
                  refine (ZB.out _).mono ?_
                  rintro e' wq9 ⟨rfl, rfl⟩
                  go_wp2_with fail
                  refine (IB.out _).mono ?_
                  rintro e' wq10 ⟨rfl, rfl⟩
                  go_wp2_with fail
                  refine (CR.out _).mono ?_
                  rintro e' wm11 ⟨rfl, hb⟩
                  have BB := Lib.hid (BB.out.trans (hb.mono BB.out.size))
                  clear hb
                  go_wp2
                  go_ret
                  exact ⟨rfl, BB.out⟩
              · cases ib
                · obtain rfl : Nm.round false 0 0 false = R := ZER.out rfl rfl rfl
                  clear BAD INF FIN ZER
                  have CR := Lib.hid (fun w => round_any false false (.slice none 0 0) 0 0 w (Big.nil w) (by rw [Nm.wds_zero]; decide) (by omega) (by omega))
                  have BB := Lib.hid (Below.refl w.heap.size w)
                  go_enter Tryz.func57, Tryz.ntmps57
                  go_wp2_with fail
                  refine (NA.out _).mono ?_
                  rintro e' wq1 ⟨rfl, rfl⟩
                  go_wp2_with fail
                  refine (NB.out _).mono ?_
                  rintro e' wq2 ⟨rfl, rfl⟩
                  go_wp2_with fail
                  refine (IA.out _).mono ?_
                  rintro e' wq3 ⟨rfl, rfl⟩
                  go_wp2_with fail
                  refine (ZA.out _).mono ?_
                  rintro e' wq4 ⟨rfl, rfl⟩
                  go_wp2_with fail
                  refine (ZB.out _).mono ?_
                  rintro e' wq5 ⟨rfl, rfl⟩
                  go_wp2_with fail
                  refine (SA.out _).mono ?_
                  rintro e' wq6 ⟨rfl, rfl⟩
                  go_wp2_with fail
                  refine (SB.out _).mono ?_
                  rintro e' wq7 ⟨rfl, rfl⟩
                  go_wp2_with fail
                  refine (IA.out _).mono ?_
                  rintro e' wq8 ⟨rfl, rfl⟩
                  go_wp2_with fail
                  refine (ZB.out _).mono ?_
                  rintro e' wq9 ⟨rfl, rfl⟩
                  go_wp2_with fail
                  refine (IB.out _).mono ?_
                  rintro e' wq10 ⟨rfl, rfl⟩
                  go_wp2_with fail
                  refine (ZA.out _).mono ?_
                  rintro e' wq11 ⟨rfl, rfl⟩
                  go_wp2_with fail
                  refine (CR.out _).mono ?_
                  rintro e' wm12 ⟨rfl, hb⟩
                  have BB := Lib.hid (BB.out.trans (hb.mono BB.out.size))
                  clear hb
                  go_wp2
                  go_ret
                  exact ⟨rfl, BB.out⟩
                · obtain rfl : Nm.round false 0 0 false = R := ZER.out rfl rfl rfl
                  clear BAD INF FIN ZER
                  have CR := Lib.hid (fun w => round_any false false (.slice none 0 0) 0 0 w (Big.nil w) (by rw [Nm.wds_zero]; decide) (by omega) (by omega))
                  have BB := Lib.hid (Below.refl w.heap.size w)
                  go_enter Tryz.func57, Tryz.ntmps57
                  go_wp2_with fail
                  refine (NA.out _).mono ?_
                  rintro e' wq1 ⟨rfl, rfl⟩
                  go_wp2_with fail
                  refine (NB.out _).mono ?_
                  rintro e' wq2 ⟨rfl, rfl⟩
                  go_wp2_with fail
                  refine (IA.out _).mono ?_
                  rintro e' wq3 ⟨rfl, rfl⟩
                  go_wp2_with fail
                  refine (ZA.out _).mono ?_
                  rintro e' wq4 ⟨rfl, rfl⟩
                  go_wp2_with fail
                  refine (ZB.out _).mono ?_
                  rintro e' wq5 ⟨rfl, rfl⟩
                  go_wp2_with fail
                  refine (SA.out _).mono ?_
                  rintro e' wq6 ⟨rfl, rfl⟩
                  go_wp2_with fail
                  refine (SB.out _).mono ?_
                  rintro e' wq7 ⟨rfl, rfl⟩
                  go_wp2_with fail
                  refine (IA.out _).mono ?_
                  rintro e' wq8 ⟨rfl, rfl⟩
                  go_wp2_with fail
                  refine (ZB.out _).mono ?_
                  rintro e' wq9 ⟨rfl, rfl⟩
                  go_wp2_with fail
                  refine (IB.out _).mono ?_
                  rintro e' wq10 ⟨rfl, rfl⟩
                  go_wp2_with fail
                  refine (CR.out _).mono ?_
                  rintro e' wm11 ⟨rfl, hb⟩
                  have BB := Lib.hid (BB.out.trans (hb.mono BB.out.size))
                  clear hb
                  go_wp2
                  go_ret
                  exact ⟨rfl, BB.out⟩
          · obtain rfl : Nm.nan = R := BAD.out rfl
            clear BAD INF FIN
            have BB := Lib.hid (Below.refl w.heap.size w)
            go_enter Tryz.func57, Tryz.ntmps57
            go_wp2_with fail
            refine (NA.out _).mono ?_
            rintro e' wq1 ⟨rfl, rfl⟩
            go_wp2_with fail
            refine (NB.out _).mono ?_
            rintro e' wq2 ⟨rfl, rfl⟩
            go_wp2_with fail
            refine (IA.out _).mono ?_
            rintro e' wq3 ⟨rfl, rfl⟩
            go_wp2_with fail
            refine (ZA.out _).mono ?_
            rintro e' wq4 ⟨rfl, rfl⟩
            go_wp2_with fail
            refine (ZB.out _).mono ?_
            rintro e' wq5 ⟨rfl, rfl⟩
            go_wp2
            go_ret
            exact ⟨rfl, BB.out⟩
      · cases ib
        · cases za
          · cases sa
            · cases sb
              · obtain rfl : Nm.word false Nm.inf = R := INF.out rfl rfl
                clear BAD INF FIN
                have BB := Lib.hid (Below.refl w.heap.size w)
                go_enter Tryz.func57, Tryz.ntmps57
                go_wp2_with fail
                refine (NA.out _).mono ?_
                rintro e' wq1 ⟨rfl, rfl⟩
                go_wp2_with fail
                refine (NB.out _).mono ?_
                rintro e' wq2 ⟨rfl, rfl⟩
                go_wp2_with fail
                refine (IA.out _).mono ?_
                rintro e' wq3 ⟨rfl, rfl⟩
                go_wp2_with fail
                refine (IB.out _).mono ?_
                rintro e' wq4 ⟨rfl, rfl⟩
                go_wp2_with fail
                refine (ZA.out _).mono ?_
                rintro e' wq5 ⟨rfl, rfl⟩
                go_wp2_with fail
                refine (SA.out _).mono ?_
                rintro e' wq6 ⟨rfl, rfl⟩
                go_wp2_with fail
                refine (SB.out _).mono ?_
                rintro e' wq7 ⟨rfl, rfl⟩
                go_wp2_with fail
                refine (IA.out _).mono ?_
                rintro e' wq8 ⟨rfl, rfl⟩
                go_wp2_with fail
                refine (rinfv_any false _).mono ?_
                rintro e' wq9 ⟨rfl, rfl⟩
                go_wp2
                go_ret
                exact ⟨rfl, BB.out⟩
              · obtain rfl : Nm.word true Nm.inf = R := INF.out rfl rfl
                clear BAD INF FIN
                have BB := Lib.hid (Below.refl w.heap.size w)
                go_enter Tryz.func57, Tryz.ntmps57
                go_wp2_with fail
                refine (NA.out _).mono ?_
                rintro e' wq1 ⟨rfl, rfl⟩
                go_wp2_with fail
                refine (NB.out _).mono ?_
                rintro e' wq2 ⟨rfl, rfl⟩
                go_wp2_with fail
                refine (IA.out _).mono ?_
                rintro e' wq3 ⟨rfl, rfl⟩
                go_wp2_with fail
                refine (IB.out _).mono ?_
                rintro e' wq4 ⟨rfl, rfl⟩
                go_wp2_with fail
                refine (ZA.out _).mono ?_
                rintro e' wq5 ⟨rfl, rfl⟩
                go_wp2_with fail
                refine (SA.out _).mono ?_
                rintro e' wq6 ⟨rfl, rfl⟩
                go_wp2_with fail
                refine (SB.out _).mono ?_
                rintro e' wq7 ⟨rfl, rfl⟩
                go_wp2_with fail
                refine (IA.out _).mono ?_
                rintro e' wq8 ⟨rfl, rfl⟩
                go_wp2_with fail
                refine (rinfv_any true _).mono ?_
                rintro e' wq9 ⟨rfl, rfl⟩
                go_wp2
                go_ret
                exact ⟨rfl, BB.out⟩
            · cases sb
              · obtain rfl : Nm.word true Nm.inf = R := INF.out rfl rfl
                clear BAD INF FIN
                have BB := Lib.hid (Below.refl w.heap.size w)
                go_enter Tryz.func57, Tryz.ntmps57
                go_wp2_with fail
                refine (NA.out _).mono ?_
                rintro e' wq1 ⟨rfl, rfl⟩
                go_wp2_with fail
                refine (NB.out _).mono ?_
                rintro e' wq2 ⟨rfl, rfl⟩
                go_wp2_with fail
                refine (IA.out _).mono ?_
                rintro e' wq3 ⟨rfl, rfl⟩
                go_wp2_with fail
                refine (IB.out _).mono ?_
                rintro e' wq4 ⟨rfl, rfl⟩
                go_wp2_with fail
                refine (ZA.out _).mono ?_
                rintro e' wq5 ⟨rfl, rfl⟩
                go_wp2_with fail
                refine (SA.out _).mono ?_
                rintro e' wq6 ⟨rfl, rfl⟩
                go_wp2_with fail
                refine (SB.out _).mono ?_
                rintro e' wq7 ⟨rfl, rfl⟩
                go_wp2_with fail
                refine (IA.out _).mono ?_
                rintro e' wq8 ⟨rfl, rfl⟩
                go_wp2_with fail
                refine (rinfv_any true _).mono ?_
                rintro e' wq9 ⟨rfl, rfl⟩
                go_wp2
                go_ret
                exact ⟨rfl, BB.out⟩
              · obtain rfl : Nm.word false Nm.inf = R := INF.out rfl rfl
                clear BAD INF FIN
                have BB := Lib.hid (Below.refl w.heap.size w)
                go_enter Tryz.func57, Tryz.ntmps57
                go_wp2_with fail
                refine (NA.out _).mono ?_
                rintro e' wq1 ⟨rfl, rfl⟩
                go_wp2_with fail
                refine (NB.out _).mono ?_
                rintro e' wq2 ⟨rfl, rfl⟩
                go_wp2_with fail
                refine (IA.out _).mono ?_
                rintro e' wq3 ⟨rfl, rfl⟩
                go_wp2_with fail
                refine (IB.out _).mono ?_
                rintro e' wq4 ⟨rfl, rfl⟩
                go_wp2_with fail
                refine (ZA.out _).mono ?_
                rintro e' wq5 ⟨rfl, rfl⟩
                go_wp2_with fail
                refine (SA.out _).mono ?_
                rintro e' wq6 ⟨rfl, rfl⟩
                go_wp2_with fail
                refine (SB.out _).mono ?_
                rintro e' wq7 ⟨rfl, rfl⟩
                go_wp2_with fail
                refine (IA.out _).mono ?_
                rintro e' wq8 ⟨rfl, rfl⟩
                go_wp2_with fail
                refine (rinfv_any false _).mono ?_
                rintro e' wq9 ⟨rfl, rfl⟩
                go_wp2
                go_ret
                exact ⟨rfl, BB.out⟩
          · cases zb
            · cases sa
              · cases sb
                · obtain rfl : Nm.word false Nm.inf = R := INF.out rfl rfl
                  clear BAD INF FIN
                  have BB := Lib.hid (Below.refl w.heap.size w)
                  go_enter Tryz.func57, Tryz.ntmps57
                  go_wp2_with fail
                  refine (NA.out _).mono ?_
                  rintro e' wq1 ⟨rfl, rfl⟩
                  go_wp2_with fail
                  refine (NB.out _).mono ?_
                  rintro e' wq2 ⟨rfl, rfl⟩
                  go_wp2_with fail
                  refine (IA.out _).mono ?_
                  rintro e' wq3 ⟨rfl, rfl⟩
                  go_wp2_with fail
                  refine (IB.out _).mono ?_
                  rintro e' wq4 ⟨rfl, rfl⟩
                  go_wp2_with fail
                  refine (ZA.out _).mono ?_
                  rintro e' wq5 ⟨rfl, rfl⟩
                  go_wp2_with fail
                  refine (ZB.out _).mono ?_
                  rintro e' wq6 ⟨rfl, rfl⟩
                  go_wp2_with fail
                  refine (SA.out _).mono ?_
                  rintro e' wq7 ⟨rfl, rfl⟩
                  go_wp2_with fail
                  refine (SB.out _).mono ?_
                  rintro e' wq8 ⟨rfl, rfl⟩
                  go_wp2_with fail
                  refine (IA.out _).mono ?_
                  rintro e' wq9 ⟨rfl, rfl⟩
                  go_wp2_with fail
                  refine (rinfv_any false _).mono ?_
                  rintro e' wq10 ⟨rfl, rfl⟩
                  go_wp2
                  go_ret
                  exact ⟨rfl, BB.out⟩
                · obtain rfl : Nm.word true Nm.inf = R := INF.out rfl rfl
                  clear BAD INF FIN
                  have BB := Lib.hid (Below.refl w.heap.size w)
                  go_enter Tryz.func57, Tryz.ntmps57
                  go_wp2_with fail
                  refine (NA.out _).mono ?_
                  rintro e' wq1 ⟨rfl, rfl⟩
                  go_wp2_with fail
                  refine (NB.out _).mono ?_
                  rintro e' wq2 ⟨rfl, rfl⟩
                  go_wp2_with fail
                  refine (IA.out _).mono ?_
                  rintro e' wq3 ⟨rfl, rfl⟩
                  go_wp2_with fail
                  refine (IB.out _).mono ?_
                  rintro e' wq4 ⟨rfl, rfl⟩
                  go_wp2_with fail
                  refine (ZA.out _).mono ?_
                  rintro e' wq5 ⟨rfl, rfl⟩
                  go_wp2_with fail
                  refine (ZB.out _).mono ?_
                  rintro e' wq6 ⟨rfl, rfl⟩
                  go_wp2_with fail
                  refine (SA.out _).mono ?_
                  rintro e' wq7 ⟨rfl, rfl⟩
                  go_wp2_with fail
                  refine (SB.out _).mono ?_
                  rintro e' wq8 ⟨rfl, rfl⟩
                  go_wp2_with fail
                  refine (IA.out _).mono ?_
                  rintro e' wq9 ⟨rfl, rfl⟩
                  go_wp2_with fail
                  refine (rinfv_any true _).mono ?_
                  rintro e' wq10 ⟨rfl, rfl⟩
                  go_wp2
                  go_ret
                  exact ⟨rfl, BB.out⟩
              · cases sb
                · obtain rfl : Nm.word true Nm.inf = R := INF.out rfl rfl
                  clear BAD INF FIN
                  have BB := Lib.hid (Below.refl w.heap.size w)
                  go_enter Tryz.func57, Tryz.ntmps57
                  go_wp2_with fail
                  refine (NA.out _).mono ?_
                  rintro e' wq1 ⟨rfl, rfl⟩
                  go_wp2_with fail
                  refine (NB.out _).mono ?_
                  rintro e' wq2 ⟨rfl, rfl⟩
                  go_wp2_with fail
                  refine (IA.out _).mono ?_
                  rintro e' wq3 ⟨rfl, rfl⟩
                  go_wp2_with fail
                  refine (IB.out _).mono ?_
                  rintro e' wq4 ⟨rfl, rfl⟩
                  go_wp2_with fail
                  refine (ZA.out _).mono ?_
                  rintro e' wq5 ⟨rfl, rfl⟩
                  go_wp2_with fail
                  refine (ZB.out _).mono ?_
                  rintro e' wq6 ⟨rfl, rfl⟩
                  go_wp2_with fail
                  refine (SA.out _).mono ?_
                  rintro e' wq7 ⟨rfl, rfl⟩
                  go_wp2_with fail
                  refine (SB.out _).mono ?_
                  rintro e' wq8 ⟨rfl, rfl⟩
                  go_wp2_with fail
                  refine (IA.out _).mono ?_
                  rintro e' wq9 ⟨rfl, rfl⟩
                  go_wp2_with fail
                  refine (rinfv_any true _).mono ?_
                  rintro e' wq10 ⟨rfl, rfl⟩
                  go_wp2
                  go_ret
                  exact ⟨rfl, BB.out⟩
                · obtain rfl : Nm.word false Nm.inf = R := INF.out rfl rfl
                  clear BAD INF FIN
                  have BB := Lib.hid (Below.refl w.heap.size w)
                  go_enter Tryz.func57, Tryz.ntmps57
                  go_wp2_with fail
                  refine (NA.out _).mono ?_
                  rintro e' wq1 ⟨rfl, rfl⟩
                  go_wp2_with fail
                  refine (NB.out _).mono ?_
                  rintro e' wq2 ⟨rfl, rfl⟩
                  go_wp2_with fail
                  refine (IA.out _).mono ?_
                  rintro e' wq3 ⟨rfl, rfl⟩
                  go_wp2_with fail
                  refine (IB.out _).mono ?_
                  rintro e' wq4 ⟨rfl, rfl⟩
                  go_wp2_with fail
                  refine (ZA.out _).mono ?_
                  rintro e' wq5 ⟨rfl, rfl⟩
                  go_wp2_with fail
                  refine (ZB.out _).mono ?_
                  rintro e' wq6 ⟨rfl, rfl⟩
                  go_wp2_with fail
                  refine (SA.out _).mono ?_
                  rintro e' wq7 ⟨rfl, rfl⟩
                  go_wp2_with fail
                  refine (SB.out _).mono ?_
                  rintro e' wq8 ⟨rfl, rfl⟩
                  go_wp2_with fail
                  refine (IA.out _).mono ?_
                  rintro e' wq9 ⟨rfl, rfl⟩
                  go_wp2_with fail
                  refine (rinfv_any false _).mono ?_
                  rintro e' wq10 ⟨rfl, rfl⟩
                  go_wp2
                  go_ret
                  exact ⟨rfl, BB.out⟩
            · obtain rfl : Nm.nan = R := BAD.out rfl
              clear BAD INF FIN
              have BB := Lib.hid (Below.refl w.heap.size w)
              go_enter Tryz.func57, Tryz.ntmps57
              go_wp2_with fail
              refine (NA.out _).mono ?_
              rintro e' wq1 ⟨rfl, rfl⟩
              go_wp2_with fail
              refine (NB.out _).mono ?_
              rintro e' wq2 ⟨rfl, rfl⟩
              go_wp2_with fail
              refine (IA.out _).mono ?_
              rintro e' wq3 ⟨rfl, rfl⟩
              go_wp2_with fail
              refine (IB.out _).mono ?_
              rintro e' wq4 ⟨rfl, rfl⟩
              go_wp2_with fail
              refine (ZA.out _).mono ?_
              rintro e' wq5 ⟨rfl, rfl⟩
              go_wp2_with fail
              refine (ZB.out _).mono ?_
              rintro e' wq6 ⟨rfl, rfl⟩
              go_wp2
              go_ret
              exact ⟨rfl, BB.out⟩
        · obtain rfl : Nm.nan = R := BAD.out rfl
          clear BAD INF FIN
          have BB := Lib.hid (Below.refl w.heap.size w)
          go_enter Tryz.func57, Tryz.ntmps57
          go_wp2_with fail
          refine (NA.out _).mono ?_
          rintro e' wq1 ⟨rfl, rfl⟩
          go_wp2_with fail
          refine (NB.out _).mono ?_
          rintro e' wq2 ⟨rfl, rfl⟩
          go_wp2_with fail
          refine (IA.out _).mono ?_
          rintro e' wq3 ⟨rfl, rfl⟩
          go_wp2_with fail
          refine (IB.out _).mono ?_
          rintro e' wq4 ⟨rfl, rfl⟩
          go_wp2
          go_ret
          exact ⟨rfl, BB.out⟩
    · obtain rfl : Nm.nan = R := BAD.out rfl
      clear BAD INF FIN
      have BB := Lib.hid (Below.refl w.heap.size w)
      go_enter Tryz.func57, Tryz.ntmps57
      go_wp2_with fail
      refine (NA.out _).mono ?_
      rintro e' wq1 ⟨rfl, rfl⟩
      go_wp2_with fail
      refine (NB.out _).mono ?_
      rintro e' wq2 ⟨rfl, rfl⟩
      go_wp2
      go_ret
      exact ⟨rfl, BB.out⟩
  · obtain rfl : Nm.nan = R := BAD.out rfl
    clear BAD INF FIN
    have BB := Lib.hid (Below.refl w.heap.size w)
    go_enter Tryz.func57, Tryz.ntmps57
    go_wp2_with fail
    refine (NA.out _).mono ?_
    rintro e' wq1 ⟨rfl, rfl⟩
    go_wp2
    go_ret
    exact ⟨rfl, BB.out⟩
end Go.Proofs.YtffohkpohgkglaaGreat
