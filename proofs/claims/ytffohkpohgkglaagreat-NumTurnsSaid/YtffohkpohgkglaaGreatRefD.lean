/-
  WALKS of the document's own: whole parts, roots.
-/
import Derived.Test.YtffohkpohgkglaaGreatRefA
namespace Go.Proofs.YtffohkpohgkglaaGreat
set_option linter.unusedVariables false
set_option linter.unusedSimpArgs false
open Go.RowKit
theorem rpart_any (a : Nat) (ha : a < 2 ^ 64) (w : World) : Calls Tryz.prog 100 #[.int .u64 (a : Int)] w (DownPost w (Nm.wv a) (Nm.left a)) := by
  obtain ⟨ma, hma⟩ : ∃ x, Nm.mag a = x := ⟨_, rfl⟩
  obtain ⟨pa, hpa⟩ : ∃ x, Nm.plc a = x := ⟨_, rfl⟩
  have OA : Hid (∀ w, Calls Tryz.prog 73 #[.int .u64 (a : Nat)] w fun e w' => e = .returned (.tuple #[.int .u64 (ma : Nat), .int .i64 pa]) ∧ w' = w) := Lib.hid (by rw [← hma, ← hpa]; exact fun w => open_any a ha w)
  have lma : ma < 2 ^ 64 := by rw [← hma]; exact Nat.lt_trans (Nm.mag_lt a) (by decide)
  have wma : (Nm.wds ma).length ≤ 2 := by rw [← hma]; exact len_mag a
  have pa1 : -1074 ≤ pa := by rw [← hpa]; exact Nm.plc_ge a
  have pa2 : pa ≤ 972 := by rw [← hpa]; exact plc_le a
  unfold Nm.wv Nm.left
  rw [hma, hpa]
  clear hma hpa ha
  by_cases h0 : 0 ≤ pa
  · have d0 : decide (0 ≤ pa) = true := decide_eq_true h0
    obtain ⟨p, hp⟩ : ∃ p : Nat, pa = (p : Int) := ⟨pa.toNat, by omega⟩
    have hp2 : p ≤ 972 := by omega
    rw [if_pos h0, if_pos h0, hp, Int.toNat_natCast]
    subst hp
    clear h0
    have BB := Lib.hid (Below.refl w.heap.size w)
    go_enter Tryz.func100, Tryz.ntmps100
    go_wp2_with fail
    refine (OA.out _).mono ?_
    rintro e' wq1 ⟨rfl, rfl⟩
    go_wp2_with fail
    refine (from_any ma lma _).mono ?_
    rintro e' wb2 ⟨vG1, rfl, hbig, hb⟩
    have BB := Lib.hid (BB.out.trans (hb.mono BB.out.size))
    clear hb
    have G1 := Lib.hid hbig
    clear hbig
    go_wp2_with fail
    refine (up_any _ ma p _ G1.out (by omega) (by omega)).mono ?_
    rintro e' wb3 ⟨vG2, rfl, hbig, hb⟩
    have G1 := Lib.hid (G1.out.below hb)
    have BB := Lib.hid (BB.out.trans (hb.mono BB.out.size))
    clear hb
    have G2 := Lib.hid hbig
    clear hbig
    go_wp2
    go_ret2
    exact ⟨_, rfl, G2.out, BB.out⟩
  · have d0 : decide (0 ≤ pa) = false := decide_eq_false h0
    obtain ⟨p, hp⟩ : ∃ p : Nat, -pa = (p : Int) := ⟨(-pa).toNat, by omega⟩
    have hwr : IntKind.i64.wrap (-pa) = (p : Int) := by rw [IntKind.wrap_i64]; omega
    have hp2 : p ≤ 1074 := by omega
    rw [if_neg h0, if_neg h0, hp, Int.toNat_natCast]
    clear h0
    have BB := Lib.hid (Below.refl w.heap.size w)
    go_enter Tryz.func100, Tryz.ntmps100
    go_wp2_with fail
    refine (OA.out _).mono ?_
    rintro e' wq1 ⟨rfl, rfl⟩
    go_wp2_with fail
    refine (from_any ma lma _).mono ?_
    rintro e' wb2 ⟨vG1, rfl, hbig, hb⟩
    have BB := Lib.hid (BB.out.trans (hb.mono BB.out.size))
    clear hb
    have G1 := Lib.hid hbig
    clear hbig
    go_wp2_with fail
    refine (down_any _ ma p _ G1.out (by omega) (by omega)).mono ?_
    rintro e' wd ⟨v2, rfl, hbig, hb⟩
    have G2 := Lib.hid hbig
    have BB := Lib.hid (BB.out.trans (hb.mono BB.out.size))
    clear hb hbig
    go_wp2
    go_ret2
    exact ⟨_, rfl, G2.out, BB.out⟩
theorem step_wv (a : Nat) (one : Bool) : Nm.dStep a one = if Nm.isNaN a then Nm.nan else if Nm.isInf a then a else Nm.round (Nm.neg a) (Nm.wv a + (one && Nm.left a).toNat) 0 false := by
  unfold Nm.dStep Nm.wv Nm.left
  by_cases h : 0 ≤ Nm.plc a
  · rw [if_pos h, if_pos h, if_pos h]; simp
  · rw [if_neg h, if_neg h, if_neg h]
theorem len_wv (a : Nat) : (Nm.wds (Nm.wv a)).length ≤ 1000 := by
  unfold Nm.wv
  have h2 := plc_le a
  split
  · refine Nat.le_trans (len_mul (len_mag a) (wds_pow _)) (by omega)
  · exact Nat.le_trans (Nm.wds_mono (Nat.div_le_self _ _)) (Nat.le_trans (len_mag a) (by decide))
set_option maxHeartbeats 1000000 in
theorem rstep_any (a : Nat) (up : Bool) (ha : a < 2 ^ 64) (w : World) : Calls Tryz.prog 92 #[.int .u64 (a : Int), .bool up] w (Gives w (.int .u64 (Nm.dStep a up : Nat))) := by
  obtain ⟨R, hR⟩ : ∃ R, Nm.dStep a up = R := ⟨_, rfl⟩
  rw [hR]
  rw [step_wv] at hR
  obtain ⟨na, hna⟩ : ∃ x, Nm.isNaN a = x := ⟨_, rfl⟩
  obtain ⟨ia, hia⟩ : ∃ x, Nm.isInf a = x := ⟨_, rfl⟩
  obtain ⟨sa, hsa⟩ : ∃ x, Nm.neg a = x := ⟨_, rfl⟩
  obtain ⟨la, hla⟩ : ∃ x, Nm.left a = x := ⟨_, rfl⟩
  have NA : Hid (∀ w, Calls Tryz.prog 50 #[.int .u64 (a : Nat)] w fun e w' => e = .returned (.bool na) ∧ w' = w) := Lib.hid (by rw [← hna]; exact fun w => rnan_any a ha w)
  have IA : Hid (∀ w, Calls Tryz.prog 72 #[.int .u64 (a : Nat)] w fun e w' => e = .returned (.bool ia) ∧ w' = w) := Lib.hid (by rw [← hia]; exact fun w => rinf_any a ha w)
  have SA : Hid (∀ w, Calls Tryz.prog 71 #[.int .u64 (a : Nat)] w fun e w' => e = .returned (.bool sa) ∧ w' = w) := Lib.hid (by rw [← hsa]; exact fun w => rsign_any a ha w)
  have CW : Hid (∀ w, Calls Tryz.prog 100 #[.int .u64 (a : Nat)] w (DownPost w (Nm.wv a) la)) := Lib.hid (by rw [← hla]; exact fun w => rpart_any a ha w)
  have lw := len_wv a
  rw [hna, hia, hsa, hla] at hR
  obtain ⟨W, hW⟩ : ∃ x, Nm.wv a = x := ⟨_, rfl⟩
  rw [hW] at CW lw hR
  have h1l : (Nm.wds 1).length ≤ 1 := Nm.wds_len2 (by decide)
  have BAD := Lib.hid (show na = true → Nm.nan = R from fun h => by rw [← hR, h, if_pos rfl])
  have INF := Lib.hid (show na = false → ia = true → a = R from fun h h2 => by rw [← hR, h, h2, if_neg (by decide), if_pos rfl])
  have FIN := Lib.hid (show na = false → ia = false → Nm.round sa (W + (up && la).toNat) 0 false = R from fun h h2 => by rw [← hR, h, h2, if_neg (by decide), if_neg (by decide)])
  clear hR hna hia hsa hla hW ha
  cases na
  · cases ia
    · cases la
      · have hF : Nm.round sa W 0 false = R := by have := FIN.out rfl rfl; simpa using this
        have CR := Lib.hid (fun v w H => round_any sa false v W 0 w H (by omega) (by omega) (by omega))
        rw [hF] at CR
        clear BAD INF FIN hF
        have BB := Lib.hid (Below.refl w.heap.size w)
        go_enter Tryz.func92, Tryz.ntmps92
        go_wp2_with fail
        refine (NA.out _).mono ?_
        rintro e' wq1 ⟨rfl, rfl⟩
        go_wp2_with fail
        refine (IA.out _).mono ?_
        rintro e' wq2 ⟨rfl, rfl⟩
        go_wp2_with fail
        refine (CW.out _).mono ?_
        rintro e' wd ⟨v2, rfl, hbig, hb⟩
        have G2 := Lib.hid hbig
        have BB := Lib.hid (BB.out.trans (hb.mono BB.out.size))
        clear hb hbig
        go_wp2_with fail
        refine (SA.out _).mono ?_
        rintro e' wq3 ⟨rfl, rfl⟩
        go_wp2_with fail
        refine (CR.out _ _ G2.out).mono ?_
        rintro e' wm4 ⟨rfl, hb⟩
        have G2 := Lib.hid (G2.out.below hb)
        have BB := Lib.hid (BB.out.trans (hb.mono BB.out.size))
        clear hb
        go_wp2
        go_ret
        exact ⟨rfl, BB.out⟩
      · cases up
        · have hF : Nm.round sa W 0 false = R := by have := FIN.out rfl rfl; simpa using this
          have CR := Lib.hid (fun v w H => round_any sa false v W 0 w H (by omega) (by omega) (by omega))
          rw [hF] at CR
          clear BAD INF FIN hF
          have BB := Lib.hid (Below.refl w.heap.size w)
          go_enter Tryz.func92, Tryz.ntmps92
          go_wp2_with fail
          refine (NA.out _).mono ?_
          rintro e' wq1 ⟨rfl, rfl⟩
          go_wp2_with fail
          refine (IA.out _).mono ?_
          rintro e' wq2 ⟨rfl, rfl⟩
          go_wp2_with fail
          refine (CW.out _).mono ?_
          rintro e' wd ⟨v2, rfl, hbig, hb⟩
          have G2 := Lib.hid hbig
          have BB := Lib.hid (BB.out.trans (hb.mono BB.out.size))
          clear hb hbig
          go_wp2_with fail
          refine (SA.out _).mono ?_
          rintro e' wq3 ⟨rfl, rfl⟩
          go_wp2_with fail
          refine (CR.out _ _ G2.out).mono ?_
          rintro e' wm4 ⟨rfl, hb⟩
          have G2 := Lib.hid (G2.out.below hb)
          have BB := Lib.hid (BB.out.trans (hb.mono BB.out.size))
          clear hb
          go_wp2
          go_ret
          exact ⟨rfl, BB.out⟩
        · have hF : Nm.round sa (W + 1) 0 false = R := FIN.out rfl rfl
          have l3 : (Nm.wds (W + 1)).length ≤ 1001 := wds_sum lw (by omega)
          have CR := Lib.hid (fun v w H => round_any sa false v (W + 1) 0 w H (by omega) (by omega) (by omega))
          rw [hF] at CR
          clear BAD INF FIN hF
          have BB := Lib.hid (Below.refl w.heap.size w)
          go_enter Tryz.func92, Tryz.ntmps92
          go_wp2_with fail
          refine (NA.out _).mono ?_
          rintro e' wq1 ⟨rfl, rfl⟩
          go_wp2_with fail
          refine (IA.out _).mono ?_
          rintro e' wq2 ⟨rfl, rfl⟩
          go_wp2_with fail
          refine (CW.out _).mono ?_
          rintro e' wd ⟨v2, rfl, hbig, hb⟩
          have G2 := Lib.hid hbig
          have BB := Lib.hid (BB.out.trans (hb.mono BB.out.size))
          clear hb hbig
          go_wp2_with fail
          refine (from_any 1 (by decide) _).mono ?_
          rintro e' wb3 ⟨vG3, rfl, hbig, hb⟩
          have G2 := Lib.hid (G2.out.below hb)
          have BB := Lib.hid (BB.out.trans (hb.mono BB.out.size))
          clear hb
          have G3 := Lib.hid hbig
          clear hbig
          go_wp2_with fail
          refine (plus_any _ _ W 1 _ G2.out G3.out (by omega) (by omega)).mono ?_
          rintro e' wb4 ⟨vG4, rfl, hbig, hb⟩
          have G2 := Lib.hid (G2.out.below hb)
          have G3 := Lib.hid (G3.out.below hb)
          have BB := Lib.hid (BB.out.trans (hb.mono BB.out.size))
          clear hb
          have G4 := Lib.hid hbig
          clear hbig
          go_wp2_with fail
          refine (SA.out _).mono ?_
          rintro e' wq5 ⟨rfl, rfl⟩
          go_wp2_with fail
          refine (CR.out _ _ G4.out).mono ?_
          rintro e' wm6 ⟨rfl, hb⟩
          have G2 := Lib.hid (G2.out.below hb)
          have G3 := Lib.hid (G3.out.below hb)
          have G4 := Lib.hid (G4.out.below hb)
          have BB := Lib.hid (BB.out.trans (hb.mono BB.out.size))
          clear hb
          go_wp2
          go_ret
          exact ⟨rfl, BB.out⟩
    · obtain rfl : a = R := INF.out rfl rfl
      clear BAD INF FIN
      have BB := Lib.hid (Below.refl w.heap.size w)
      go_enter Tryz.func92, Tryz.ntmps92
      go_wp2_with fail
      refine (NA.out _).mono ?_
      rintro e' wq1 ⟨rfl, rfl⟩
      go_wp2_with fail
      refine (IA.out _).mono ?_
      rintro e' wq2 ⟨rfl, rfl⟩
      go_wp2
      go_ret
      exact ⟨rfl, BB.out⟩
  · obtain rfl : Nm.nan = R := BAD.out rfl
    clear BAD INF FIN
    have BB := Lib.hid (Below.refl w.heap.size w)
    go_enter Tryz.func92, Tryz.ntmps92
    go_wp2_with fail
    refine (NA.out _).mono ?_
    rintro e' wq1 ⟨rfl, rfl⟩
    go_wp2
    go_ret
    exact ⟨rfl, BB.out⟩
theorem rfloor_any (a : Nat) (ha : a < 2 ^ 64) (w : World) : Calls Tryz.prog 53 #[.int .u64 (a : Int)] w (Gives w (.int .u64 (Nm.dFloor a : Nat))) := by
  have SA := Lib.hid (fun w => rsign_any a ha w)
  have CS := Lib.hid (fun w => rstep_any a (Nm.neg a) ha w)
  obtain ⟨R, hR⟩ : ∃ R, Nm.dFloor a = R := ⟨_, rfl⟩
  rw [hR]
  have CS2 : Hid (∀ w, Calls Tryz.prog 92 #[.int .u64 (a : Int), .bool (Nm.neg a)] w (Gives w (.int .u64 (R : Nat)))) := Lib.hid (by rw [← hR]; exact CS.out)
  clear CS hR
  cases hs : Nm.neg a
  · rw [hs] at SA CS2
    clear hs ha
    have BB := Lib.hid (Below.refl w.heap.size w)
    go_enter Tryz.func53, Tryz.ntmps53
    go_wp2_with fail
    refine (SA.out _).mono ?_
    rintro e' wq1 ⟨rfl, rfl⟩
    go_wp2_with fail
    refine (CS2.out _).mono ?_
    rintro e' wm2 ⟨rfl, hb⟩
    have BB := Lib.hid (BB.out.trans (hb.mono BB.out.size))
    clear hb
    go_wp2
    go_ret
    exact ⟨rfl, BB.out⟩
  · rw [hs] at SA CS2
    clear hs ha
    have BB := Lib.hid (Below.refl w.heap.size w)
    go_enter Tryz.func53, Tryz.ntmps53
    go_wp2_with fail
    refine (SA.out _).mono ?_
    rintro e' wq1 ⟨rfl, rfl⟩
    go_wp2_with fail
    refine (CS2.out _).mono ?_
    rintro e' wm2 ⟨rfl, hb⟩
    have BB := Lib.hid (BB.out.trans (hb.mono BB.out.size))
    clear hb
    go_wp2
    go_ret
    exact ⟨rfl, BB.out⟩
set_option maxHeartbeats 1000000 in
theorem rwhole_any (a : Nat) (ha : a < 2 ^ 64) (w : World) : Calls Tryz.prog 59 #[.int .u64 (a : Int)] w (WholePost w (Nm.dWhole a) (Nm.fits a)) := by
  obtain ⟨D, hD⟩ : ∃ R, Nm.dWhole a = R := ⟨_, rfl⟩
  obtain ⟨F, hF⟩ : ∃ R, Nm.fits a = R := ⟨_, rfl⟩
  rw [hD, hF]
  obtain ⟨na, hna⟩ : ∃ x, Nm.isNaN a = x := ⟨_, rfl⟩
  obtain ⟨ia, hia⟩ : ∃ x, Nm.isInf a = x := ⟨_, rfl⟩
  obtain ⟨sa, hsa⟩ : ∃ x, Nm.neg a = x := ⟨_, rfl⟩
  obtain ⟨la, hla⟩ : ∃ x, Nm.left a = x := ⟨_, rfl⟩
  have NA : Hid (∀ w, Calls Tryz.prog 50 #[.int .u64 (a : Nat)] w fun e w' => e = .returned (.bool na) ∧ w' = w) := Lib.hid (by rw [← hna]; exact fun w => rnan_any a ha w)
  have IA : Hid (∀ w, Calls Tryz.prog 72 #[.int .u64 (a : Nat)] w fun e w' => e = .returned (.bool ia) ∧ w' = w) := Lib.hid (by rw [← hia]; exact fun w => rinf_any a ha w)
  have SA : Hid (∀ w, Calls Tryz.prog 71 #[.int .u64 (a : Nat)] w fun e w' => e = .returned (.bool sa) ∧ w' = w) := Lib.hid (by rw [← hsa]; exact fun w => rsign_any a ha w)
  have CW : Hid (∀ w, Calls Tryz.prog 100 #[.int .u64 (a : Nat)] w (DownPost w (Nm.wv a) la)) := Lib.hid (by rw [← hla]; exact fun w => rpart_any a ha w)
  unfold Nm.dWhole at hD
  rw [hF] at hD
  unfold Nm.fits at hF
  obtain ⟨W, hW⟩ : ∃ x, Nm.wv a = x := ⟨_, rfl⟩
  rw [hW] at CW hD hF
  rw [hsa] at hD
  rw [hna, hia, hla, hsa] at hF
  have CB := Lib.hid (fun v w H => bits_any v W w H)
  have CL := Lib.hid (fun v w H => low_any v W w H)
  obtain ⟨N, hN⟩ : ∃ N, Nm.nb W = N := ⟨_, rfl⟩
  rw [hN] at CB
  have HN := Lib.hid hN
  have HD := Lib.hid hD
  have HF := Lib.hid hF
  clear hna hia hsa hla hW ha hN hD hF
  have NO : F = false → D = 0 := fun h => by have := HD.out; rw [h, if_neg (by decide)] at this; exact this.symm
  have HNO := Lib.hid NO
  clear NO
  cases na
  · cases ia
    · cases la
      · cases sa
        · have hF2 : decide (W < 2 ^ 63) = F := by rw [← HF.out]; simp
          by_cases h64 : 64 < N
          · have d64 : decide ((64 : Int) < (N : Int)) = true := decide_eq_true (by omega)
            have d64b : decide (64 < N) = true := decide_eq_true h64
            have hbig : 2 ^ 64 ≤ W := by
              refine Decidable.by_contra fun hn => ?_
              have := (Nm.nb_le_iff W 64).2 (by omega)
              have := HN.out
              omega
            obtain rfl : F = false := by rw [← hF2]; exact decide_eq_false (by omega)
            obtain rfl : D = 0 := HNO.out rfl
            clear hF2 hbig
            have BB := Lib.hid (Below.refl w.heap.size w)
            go_enter Tryz.func59, Tryz.ntmps59
            go_wp2_with fail
            refine (NA.out _).mono ?_
            rintro e' wq1 ⟨rfl, rfl⟩
            go_wp2_with fail
            refine (IA.out _).mono ?_
            rintro e' wq2 ⟨rfl, rfl⟩
            go_wp2_with fail
            refine (CW.out _).mono ?_
            rintro e' wd ⟨v2, rfl, hbig, hb⟩
            have G2 := Lib.hid hbig
            have BB := Lib.hid (BB.out.trans (hb.mono BB.out.size))
            clear hb hbig
            go_wp2_with fail
            refine (CB.out _ _ G2.out).mono ?_
            rintro e' wq3 ⟨rfl, rfl⟩
            go_wp2
            go_ret2
            exact ⟨rfl, BB.out⟩
          · have d64 : decide ((64 : Int) < (N : Int)) = false := decide_eq_false (by omega)
            have d64b : decide (64 < N) = false := decide_eq_false h64
            have hlt : W < 2 ^ 64 := (Nm.nb_le_iff W 64).1 (by have := HN.out; omega)
            have hm : W % 2 ^ 64 = W := Nat.mod_eq_of_lt hlt
            rw [hm] at CL
            by_cases hc : 9223372036854775808 ≤ W
            · have dc : decide ((9223372036854775808 : Int) ≤ (W : Int)) = true := decide_eq_true (by omega)
              have dc2 : decide (9223372036854775808 ≤ W) = true := decide_eq_true hc
              obtain rfl : F = false := by rw [← hF2]; exact decide_eq_false (by omega)
              obtain rfl : D = 0 := HNO.out rfl
              clear hF2 hm
              have BB := Lib.hid (Below.refl w.heap.size w)
              go_enter Tryz.func59, Tryz.ntmps59
              go_wp2_with fail
              refine (NA.out _).mono ?_
              rintro e' wq1 ⟨rfl, rfl⟩
              go_wp2_with fail
              refine (IA.out _).mono ?_
              rintro e' wq2 ⟨rfl, rfl⟩
              go_wp2_with fail
              refine (CW.out _).mono ?_
              rintro e' wd ⟨v2, rfl, hbig, hb⟩
              have G2 := Lib.hid hbig
              have BB := Lib.hid (BB.out.trans (hb.mono BB.out.size))
              clear hb hbig
              go_wp2_with fail
              refine (CB.out _ _ G2.out).mono ?_
              rintro e' wq3 ⟨rfl, rfl⟩
              go_wp2_with fail
              refine (CL.out _ _ G2.out).mono ?_
              rintro e' wq4 ⟨rfl, rfl⟩
              go_wp2_with fail
              refine (SA.out _).mono ?_
              rintro e' wq5 ⟨rfl, rfl⟩
              go_wp2
              go_ret2
              exact ⟨rfl, BB.out⟩
            · have dc : decide ((9223372036854775808 : Int) ≤ (W : Int)) = false := decide_eq_false (by omega)
              have dc2 : decide (9223372036854775808 ≤ W) = false := decide_eq_false hc
              obtain rfl : F = true := by rw [← hF2]; exact decide_eq_true (by omega)
              obtain rfl : D = (W : Int) := by rw [← HD.out, if_pos rfl]; rfl
              have hw1 : IntKind.i64.wrap (W : Int) = (W : Int) := by rw [IntKind.wrap_i64]; omega
              clear hF2 hm
              have BB := Lib.hid (Below.refl w.heap.size w)
              go_enter Tryz.func59, Tryz.ntmps59
              go_wp2_with fail
              refine (NA.out _).mono ?_
              rintro e' wq1 ⟨rfl, rfl⟩
              go_wp2_with fail
              refine (IA.out _).mono ?_
              rintro e' wq2 ⟨rfl, rfl⟩
              go_wp2_with fail
              refine (CW.out _).mono ?_
              rintro e' wd ⟨v2, rfl, hbig, hb⟩
              have G2 := Lib.hid hbig
              have BB := Lib.hid (BB.out.trans (hb.mono BB.out.size))
              clear hb hbig
              go_wp2_with fail
              refine (CB.out _ _ G2.out).mono ?_
              rintro e' wq3 ⟨rfl, rfl⟩
              go_wp2_with fail
              refine (CL.out _ _ G2.out).mono ?_
              rintro e' wq4 ⟨rfl, rfl⟩
              go_wp2_with fail
              refine (SA.out _).mono ?_
              rintro e' wq5 ⟨rfl, rfl⟩
              go_wp2
              go_ret2
              exact ⟨rfl, BB.out⟩
        · have hF2 : decide (W ≤ 2 ^ 63) = F := by rw [← HF.out]; simp
          by_cases h64 : 64 < N
          · have d64 : decide ((64 : Int) < (N : Int)) = true := decide_eq_true (by omega)
            have d64b : decide (64 < N) = true := decide_eq_true h64
            have hbig : 2 ^ 64 ≤ W := by
              refine Decidable.by_contra fun hn => ?_
              have := (Nm.nb_le_iff W 64).2 (by omega)
              have := HN.out
              omega
            obtain rfl : F = false := by rw [← hF2]; exact decide_eq_false (by omega)
            obtain rfl : D = 0 := HNO.out rfl
            clear hF2 hbig
            have BB := Lib.hid (Below.refl w.heap.size w)
            go_enter Tryz.func59, Tryz.ntmps59
            go_wp2_with fail
            refine (NA.out _).mono ?_
            rintro e' wq1 ⟨rfl, rfl⟩
            go_wp2_with fail
            refine (IA.out _).mono ?_
            rintro e' wq2 ⟨rfl, rfl⟩
            go_wp2_with fail
            refine (CW.out _).mono ?_
            rintro e' wd ⟨v2, rfl, hbig, hb⟩
            have G2 := Lib.hid hbig
            have BB := Lib.hid (BB.out.trans (hb.mono BB.out.size))
            clear hb hbig
            go_wp2_with fail
            refine (CB.out _ _ G2.out).mono ?_
            rintro e' wq3 ⟨rfl, rfl⟩
            go_wp2
            go_ret2
            exact ⟨rfl, BB.out⟩
          · have d64 : decide ((64 : Int) < (N : Int)) = false := decide_eq_false (by omega)
            have d64b : decide (64 < N) = false := decide_eq_false h64
            have hlt : W < 2 ^ 64 := (Nm.nb_le_iff W 64).1 (by have := HN.out; omega)
            have hm : W % 2 ^ 64 = W := Nat.mod_eq_of_lt hlt
            rw [hm] at CL
            by_cases hc : 9223372036854775808 < W
            · have dc : decide ((9223372036854775808 : Int) < (W : Int)) = true := decide_eq_true (by omega)
              have dc2 : decide (9223372036854775808 < W) = true := decide_eq_true hc
              obtain rfl : F = false := by rw [← hF2]; exact decide_eq_false (by omega)
              obtain rfl : D = 0 := HNO.out rfl
              clear hF2 hm
              have BB := Lib.hid (Below.refl w.heap.size w)
              go_enter Tryz.func59, Tryz.ntmps59
              go_wp2_with fail
              refine (NA.out _).mono ?_
              rintro e' wq1 ⟨rfl, rfl⟩
              go_wp2_with fail
              refine (IA.out _).mono ?_
              rintro e' wq2 ⟨rfl, rfl⟩
              go_wp2_with fail
              refine (CW.out _).mono ?_
              rintro e' wd ⟨v2, rfl, hbig, hb⟩
              have G2 := Lib.hid hbig
              have BB := Lib.hid (BB.out.trans (hb.mono BB.out.size))
              clear hb hbig
              go_wp2_with fail
              refine (CB.out _ _ G2.out).mono ?_
              rintro e' wq3 ⟨rfl, rfl⟩
              go_wp2_with fail
              refine (CL.out _ _ G2.out).mono ?_
              rintro e' wq4 ⟨rfl, rfl⟩
              go_wp2_with fail
              refine (SA.out _).mono ?_
              rintro e' wq5 ⟨rfl, rfl⟩
              go_wp2
              go_ret2
              exact ⟨rfl, BB.out⟩
            · have dc : decide ((9223372036854775808 : Int) < (W : Int)) = false := decide_eq_false (by omega)
              have dc2 : decide (9223372036854775808 < W) = false := decide_eq_false hc
              obtain rfl : F = true := by rw [← hF2]; exact decide_eq_true (by omega)
              obtain rfl : D = -(W : Int) := by rw [← HD.out, if_pos rfl]; rfl
              have hw1 : IntKind.i64.wrap (IntKind.u64.wrap (-(W : Int))) = -(W : Int) := by rw [IntKind.wrap_u64, IntKind.wrap_i64]; omega
              clear hF2 hm
              have BB := Lib.hid (Below.refl w.heap.size w)
              go_enter Tryz.func59, Tryz.ntmps59
              go_wp2_with fail
              refine (NA.out _).mono ?_
              rintro e' wq1 ⟨rfl, rfl⟩
              go_wp2_with fail
              refine (IA.out _).mono ?_
              rintro e' wq2 ⟨rfl, rfl⟩
              go_wp2_with fail
              refine (CW.out _).mono ?_
              rintro e' wd ⟨v2, rfl, hbig, hb⟩
              have G2 := Lib.hid hbig
              have BB := Lib.hid (BB.out.trans (hb.mono BB.out.size))
              clear hb hbig
              go_wp2_with fail
              refine (CB.out _ _ G2.out).mono ?_
              rintro e' wq3 ⟨rfl, rfl⟩
              go_wp2_with fail
              refine (CL.out _ _ G2.out).mono ?_
              rintro e' wq4 ⟨rfl, rfl⟩
              go_wp2_with fail
              refine (SA.out _).mono ?_
              rintro e' wq5 ⟨rfl, rfl⟩
              go_wp2
              go_ret2
              exact ⟨rfl, BB.out⟩
      · obtain rfl : F = false := by rw [← HF.out]; simp
        obtain rfl : D = 0 := HNO.out rfl
        have BB := Lib.hid (Below.refl w.heap.size w)
        go_enter Tryz.func59, Tryz.ntmps59
        go_wp2_with fail
        refine (NA.out _).mono ?_
        rintro e' wq1 ⟨rfl, rfl⟩
        go_wp2_with fail
        refine (IA.out _).mono ?_
        rintro e' wq2 ⟨rfl, rfl⟩
        go_wp2_with fail
        refine (CW.out _).mono ?_
        rintro e' wd ⟨v2, rfl, hbig, hb⟩
        have G2 := Lib.hid hbig
        have BB := Lib.hid (BB.out.trans (hb.mono BB.out.size))
        clear hb hbig
        go_wp2
        go_ret2
        exact ⟨rfl, BB.out⟩
    · obtain rfl : F = false := by rw [← HF.out]; simp
      obtain rfl : D = 0 := HNO.out rfl
      have BB := Lib.hid (Below.refl w.heap.size w)
      go_enter Tryz.func59, Tryz.ntmps59
      go_wp2_with fail
      refine (NA.out _).mono ?_
      rintro e' wq1 ⟨rfl, rfl⟩
      go_wp2_with fail
      refine (IA.out _).mono ?_
      rintro e' wq2 ⟨rfl, rfl⟩
      go_wp2
      go_ret2
      exact ⟨rfl, BB.out⟩
  · obtain rfl : F = false := by rw [← HF.out]; simp
    obtain rfl : D = 0 := HNO.out rfl
    have BB := Lib.hid (Below.refl w.heap.size w)
    go_enter Tryz.func59, Tryz.ntmps59
    go_wp2_with fail
    refine (NA.out _).mono ?_
    rintro e' wq1 ⟨rfl, rfl⟩
    go_wp2
    go_ret2
    exact ⟨rfl, BB.out⟩
theorem rt_len (n : Nat) {k : Nat} (h : (Nm.wds n).length ≤ k) : (Nm.wds (Nm.rt n)).length ≤ k := by
  refine Nat.le_trans (Nm.wds_mono ?_) h
  have := (Nm.rt_is n).1
  rcases Nat.eq_zero_or_pos (Nm.rt n) with h0 | h0
  · omega
  · exact Nat.le_trans (Nat.le_mul_of_pos_left _ h0) this
set_option maxHeartbeats 2000000 in
theorem rsqrt_any (a : Nat) (ha : a < 2 ^ 64) (w : World) : Calls Tryz.prog 83 #[.int .u64 (a : Int)] w (Gives w (.int .u64 (Nm.dSqrt a : Nat))) := by
  obtain ⟨R, hR⟩ : ∃ R, Nm.dSqrt a = R := ⟨_, rfl⟩
  rw [hR]
  unfold Nm.dSqrt at hR
  obtain ⟨na, hna⟩ : ∃ x, Nm.isNaN a = x := ⟨_, rfl⟩
  obtain ⟨za, hza⟩ : ∃ x, Nm.nought a = x := ⟨_, rfl⟩
  obtain ⟨sa, hsa⟩ : ∃ x, Nm.neg a = x := ⟨_, rfl⟩
  obtain ⟨ia, hia⟩ : ∃ x, Nm.isInf a = x := ⟨_, rfl⟩
  have NA : Hid (∀ w, Calls Tryz.prog 50 #[.int .u64 (a : Nat)] w fun e w' => e = .returned (.bool na) ∧ w' = w) := Lib.hid (by rw [← hna]; exact fun w => rnan_any a ha w)
  have ZA : Hid (∀ w, Calls Tryz.prog 69 #[.int .u64 (a : Nat)] w fun e w' => e = .returned (.bool za) ∧ w' = w) := Lib.hid (by rw [← hza]; exact fun w => rzero_any a ha w)
  have SA : Hid (∀ w, Calls Tryz.prog 71 #[.int .u64 (a : Nat)] w fun e w' => e = .returned (.bool sa) ∧ w' = w) := Lib.hid (by rw [← hsa]; exact fun w => rsign_any a ha w)
  have IA : Hid (∀ w, Calls Tryz.prog 72 #[.int .u64 (a : Nat)] w fun e w' => e = .returned (.bool ia) ∧ w' = w) := Lib.hid (by rw [← hia]; exact fun w => rinf_any a ha w)
  obtain ⟨ma, hma⟩ : ∃ x, Nm.mag a = x := ⟨_, rfl⟩
  obtain ⟨pa, hpa⟩ : ∃ x, Nm.plc a = x := ⟨_, rfl⟩
  have OA : Hid (∀ w, Calls Tryz.prog 73 #[.int .u64 (a : Nat)] w fun e w' => e = .returned (.tuple #[.int .u64 (ma : Nat), .int .i64 pa]) ∧ w' = w) := Lib.hid (by rw [← hma, ← hpa]; exact fun w => open_any a ha w)
  have lma : ma < 2 ^ 64 := by rw [← hma]; exact Nat.lt_trans (Nm.mag_lt a) (by decide)
  have wma : (Nm.wds ma).length ≤ 2 := by rw [← hma]; exact len_mag a
  have pa1 : -1074 ≤ pa := by rw [← hpa]; exact Nm.plc_ge a
  have pa2 : pa ≤ 972 := by rw [← hpa]; exact plc_le a
  rw [hna, hia, hsa, hza] at hR
  simp only [hma, hpa] at hR
  have HR := Lib.hid hR
  clear hR hna hia hsa hza hma hpa ha
  cases na
  · cases za
    · cases sa
      · cases ia
        · have hR := HR.out
          rw [if_neg (by decide)] at hR
          rw [if_neg (by decide)] at hR
          rw [if_neg (by decide)] at hR
          rw [if_neg (by decide)] at hR
          by_cases hev : pa % 2 = 0
          · rw [if_pos hev] at hR
            have hb0 : (Int.tmod pa 2 != 0) = false := by
              have : Int.tmod pa 2 = 0 := by
                have h1 := Int.tmod_add_mul_tdiv pa 2
                rcases Int.tmod_two_eq pa with h | h | h <;> omega
              rw [this]; rfl
            obtain ⟨D, hD⟩ : ∃ D, (pa - ((120 : Nat) : Int)) / 2 = D := ⟨_, rfl⟩
            have hD2 : Int.tdiv (pa - 120) 2 = D := by
              rw [← hD]
              have h1 := Int.tmod_add_mul_tdiv (pa - 120) 2
              rcases Int.tmod_two_eq (pa - 120) with h | h | h <;> omega
            have hD3 : -1300 ≤ D := by omega
            have hD4 : D ≤ 1300 := by omega
            have lu : (Nm.wds (ma * 2 ^ 120)).length ≤ 124 := Nat.le_trans (len_mul wma (wds_pow 120)) (by decide)
            obtain ⟨n, hn⟩ : ∃ n, ma * 2 ^ 120 = n := ⟨_, rfl⟩
            have CU := Lib.hid (fun v w H => up_any v ma 120 w H (by omega) (by omega))
            rw [hn] at CU lu
            rw [hn, hD] at hR
            have lr := rt_len n lu
            have CO := Lib.hid (fun v w H => root_any v n w H (by omega))
            obtain ⟨r, hr⟩ : ∃ r, Nm.rt n = r := ⟨_, rfl⟩
            rw [hr] at CO lr hR
            have CT := Lib.hid (fun v w H => times_any v v r r w H H (by omega) (by omega))
            have CL := Lib.hid (fun v1 v2 w H1 H2 => less_any v1 v2 (r * r) n w H1 H2)
            obtain ⟨cc, hcc⟩ : ∃ cc, Nm.cmpN (r * r) n = cc := ⟨_, rfl⟩
            have hx : (!(cc == 0)) = (r * r != n) := by
              rw [← hcc]
              unfold Nm.cmpN
              rw [Bool.eq_iff_iff]
              simp
              split
              · simp; omega
              · split <;> simp <;> omega
            obtain ⟨mo, hmo⟩ : ∃ x, (r * r != n) = x := ⟨_, rfl⟩
            rw [hmo] at hx hR
            rw [hcc] at CL
            have CR := Lib.hid (fun v w H => round_any false mo v r D w H (by omega) (by omega) (by omega))
            rw [hR] at CR
            clear hn hr hcc hmo hD HR hR
            cases hce : (cc == 0)
            · obtain rfl : mo = true := by rw [← hx, hce]; rfl
              clear hx
              have BB := Lib.hid (Below.refl w.heap.size w)
              go_enter Tryz.func83, Tryz.ntmps83
              go_wp2_with fail
              refine (NA.out _).mono ?_
              rintro e' wq1 ⟨rfl, rfl⟩
              go_wp2_with fail
              refine (ZA.out _).mono ?_
              rintro e' wq2 ⟨rfl, rfl⟩
              go_wp2_with fail
              refine (SA.out _).mono ?_
              rintro e' wq3 ⟨rfl, rfl⟩
              go_wp2_with fail
              refine (IA.out _).mono ?_
              rintro e' wq4 ⟨rfl, rfl⟩
              go_wp2_with fail
              refine (OA.out _).mono ?_
              rintro e' wq5 ⟨rfl, rfl⟩
              go_wp2_with fail
              refine (from_any ma lma _).mono ?_
              rintro e' wb6 ⟨vG1, rfl, hbig, hb⟩
              have BB := Lib.hid (BB.out.trans (hb.mono BB.out.size))
              clear hb
              have G1 := Lib.hid hbig
              clear hbig
              go_wp2_with fail
              refine (CU.out _ _ G1.out).mono ?_
              rintro e' wb7 ⟨vG2, rfl, hbig, hb⟩
              have G1 := Lib.hid (G1.out.below hb)
              have BB := Lib.hid (BB.out.trans (hb.mono BB.out.size))
              clear hb
              have G2 := Lib.hid hbig
              clear hbig
              go_wp2_with fail
              refine (CO.out _ _ G2.out).mono ?_
              rintro e' wb8 ⟨vG3, rfl, hbig, hb⟩
              have G1 := Lib.hid (G1.out.below hb)
              have G2 := Lib.hid (G2.out.below hb)
              have BB := Lib.hid (BB.out.trans (hb.mono BB.out.size))
              clear hb
              have G3 := Lib.hid hbig
              clear hbig
              go_wp2_with fail
              refine (CT.out _ _ G3.out).mono ?_
              rintro e' wb9 ⟨vG4, rfl, hbig, hb⟩
              have G1 := Lib.hid (G1.out.below hb)
              have G2 := Lib.hid (G2.out.below hb)
              have G3 := Lib.hid (G3.out.below hb)
              have BB := Lib.hid (BB.out.trans (hb.mono BB.out.size))
              clear hb
              have G4 := Lib.hid hbig
              clear hbig
              go_wp2_with fail
              refine (CL.out _ _ _ G4.out G2.out).mono ?_
              rintro e' wm10 ⟨rfl, hb⟩
              have G1 := Lib.hid (G1.out.below hb)
              have G2 := Lib.hid (G2.out.below hb)
              have G3 := Lib.hid (G3.out.below hb)
              have G4 := Lib.hid (G4.out.below hb)
              have BB := Lib.hid (BB.out.trans (hb.mono BB.out.size))
              clear hb
              go_wp2_with fail
              refine (CR.out _ _ G3.out).mono ?_
              rintro e' wm11 ⟨rfl, hb⟩
              have G1 := Lib.hid (G1.out.below hb)
              have G2 := Lib.hid (G2.out.below hb)
              have G3 := Lib.hid (G3.out.below hb)
              have G4 := Lib.hid (G4.out.below hb)
              have BB := Lib.hid (BB.out.trans (hb.mono BB.out.size))
              clear hb
              go_wp2
              go_ret
              exact ⟨rfl, BB.out⟩
            · obtain rfl : mo = false := by rw [← hx, hce]; rfl
              clear hx
              have BB := Lib.hid (Below.refl w.heap.size w)
              go_enter Tryz.func83, Tryz.ntmps83
              go_wp2_with fail
              refine (NA.out _).mono ?_
              rintro e' wq1 ⟨rfl, rfl⟩
              go_wp2_with fail
              refine (ZA.out _).mono ?_
              rintro e' wq2 ⟨rfl, rfl⟩
              go_wp2_with fail
              refine (SA.out _).mono ?_
              rintro e' wq3 ⟨rfl, rfl⟩
              go_wp2_with fail
              refine (IA.out _).mono ?_
              rintro e' wq4 ⟨rfl, rfl⟩
              go_wp2_with fail
              refine (OA.out _).mono ?_
              rintro e' wq5 ⟨rfl, rfl⟩
              go_wp2_with fail
              refine (from_any ma lma _).mono ?_
              rintro e' wb6 ⟨vG1, rfl, hbig, hb⟩
              have BB := Lib.hid (BB.out.trans (hb.mono BB.out.size))
              clear hb
              have G1 := Lib.hid hbig
              clear hbig
              go_wp2_with fail
              refine (CU.out _ _ G1.out).mono ?_
              rintro e' wb7 ⟨vG2, rfl, hbig, hb⟩
              have G1 := Lib.hid (G1.out.below hb)
              have BB := Lib.hid (BB.out.trans (hb.mono BB.out.size))
              clear hb
              have G2 := Lib.hid hbig
              clear hbig
              go_wp2_with fail
              refine (CO.out _ _ G2.out).mono ?_
              rintro e' wb8 ⟨vG3, rfl, hbig, hb⟩
              have G1 := Lib.hid (G1.out.below hb)
              have G2 := Lib.hid (G2.out.below hb)
              have BB := Lib.hid (BB.out.trans (hb.mono BB.out.size))
              clear hb
              have G3 := Lib.hid hbig
              clear hbig
              go_wp2_with fail
              refine (CT.out _ _ G3.out).mono ?_
              rintro e' wb9 ⟨vG4, rfl, hbig, hb⟩
              have G1 := Lib.hid (G1.out.below hb)
              have G2 := Lib.hid (G2.out.below hb)
              have G3 := Lib.hid (G3.out.below hb)
              have BB := Lib.hid (BB.out.trans (hb.mono BB.out.size))
              clear hb
              have G4 := Lib.hid hbig
              clear hbig
              go_wp2_with fail
              refine (CL.out _ _ _ G4.out G2.out).mono ?_
              rintro e' wm10 ⟨rfl, hb⟩
              have G1 := Lib.hid (G1.out.below hb)
              have G2 := Lib.hid (G2.out.below hb)
              have G3 := Lib.hid (G3.out.below hb)
              have G4 := Lib.hid (G4.out.below hb)
              have BB := Lib.hid (BB.out.trans (hb.mono BB.out.size))
              clear hb
              go_wp2_with fail
              refine (CR.out _ _ G3.out).mono ?_
              rintro e' wm11 ⟨rfl, hb⟩
              have G1 := Lib.hid (G1.out.below hb)
              have G2 := Lib.hid (G2.out.below hb)
              have G3 := Lib.hid (G3.out.below hb)
              have G4 := Lib.hid (G4.out.below hb)
              have BB := Lib.hid (BB.out.trans (hb.mono BB.out.size))
              clear hb
              go_wp2
              go_ret
              exact ⟨rfl, BB.out⟩
          · rw [if_neg hev] at hR
            have hrem : Int.tmod pa 2 = 1 ∨ Int.tmod pa 2 = -1 := by
              rcases Int.tmod_two_eq pa with h | h | h
              · exact .inr h
              · exact absurd (by have := Int.tmod_add_mul_tdiv pa 2; omega) hev
              · exact .inl h
            have hb0 : (Int.tmod pa 2 != 0) = true := by rcases hrem with h | h <;> rw [h] <;> rfl
            obtain ⟨D, hD⟩ : ∃ D, (pa - ((121 : Nat) : Int)) / 2 = D := ⟨_, rfl⟩
            have hD2 : Int.tdiv (pa - 121) 2 = D := by
              rw [← hD]
              have h1 := Int.tmod_add_mul_tdiv (pa - 121) 2
              rcases Int.tmod_two_eq (pa - 121) with h | h | h <;> omega
            have hD3 : -1300 ≤ D := by omega
            have hD4 : D ≤ 1300 := by omega
            have lu : (Nm.wds (ma * 2 ^ 121)).length ≤ 124 := Nat.le_trans (len_mul wma (wds_pow 121)) (by decide)
            obtain ⟨n, hn⟩ : ∃ n, ma * 2 ^ 121 = n := ⟨_, rfl⟩
            have CU := Lib.hid (fun v w H => up_any v ma 121 w H (by omega) (by omega))
            rw [hn] at CU lu
            rw [hn, hD] at hR
            have lr := rt_len n lu
            have CO := Lib.hid (fun v w H => root_any v n w H (by omega))
            obtain ⟨r, hr⟩ : ∃ r, Nm.rt n = r := ⟨_, rfl⟩
            rw [hr] at CO lr hR
            have CT := Lib.hid (fun v w H => times_any v v r r w H H (by omega) (by omega))
            have CL := Lib.hid (fun v1 v2 w H1 H2 => less_any v1 v2 (r * r) n w H1 H2)
            obtain ⟨cc, hcc⟩ : ∃ cc, Nm.cmpN (r * r) n = cc := ⟨_, rfl⟩
            have hx : (!(cc == 0)) = (r * r != n) := by
              rw [← hcc]
              unfold Nm.cmpN
              rw [Bool.eq_iff_iff]
              simp
              split
              · simp; omega
              · split <;> simp <;> omega
            obtain ⟨mo, hmo⟩ : ∃ x, (r * r != n) = x := ⟨_, rfl⟩
            rw [hmo] at hx hR
            rw [hcc] at CL
            have CR := Lib.hid (fun v w H => round_any false mo v r D w H (by omega) (by omega) (by omega))
            rw [hR] at CR
            clear hn hr hcc hmo hD HR hR
            cases hce : (cc == 0)
            · obtain rfl : mo = true := by rw [← hx, hce]; rfl
              clear hx
              have BB := Lib.hid (Below.refl w.heap.size w)
              go_enter Tryz.func83, Tryz.ntmps83
              go_wp2_with fail
              refine (NA.out _).mono ?_
              rintro e' wq1 ⟨rfl, rfl⟩
              go_wp2_with fail
              refine (ZA.out _).mono ?_
              rintro e' wq2 ⟨rfl, rfl⟩
              go_wp2_with fail
              refine (SA.out _).mono ?_
              rintro e' wq3 ⟨rfl, rfl⟩
              go_wp2_with fail
              refine (IA.out _).mono ?_
              rintro e' wq4 ⟨rfl, rfl⟩
              go_wp2_with fail
              refine (OA.out _).mono ?_
              rintro e' wq5 ⟨rfl, rfl⟩
              go_wp2_with fail
              refine (from_any ma lma _).mono ?_
              rintro e' wb6 ⟨vG1, rfl, hbig, hb⟩
              have BB := Lib.hid (BB.out.trans (hb.mono BB.out.size))
              clear hb
              have G1 := Lib.hid hbig
              clear hbig
              go_wp2_with fail
              refine (CU.out _ _ G1.out).mono ?_
              rintro e' wb7 ⟨vG2, rfl, hbig, hb⟩
              have G1 := Lib.hid (G1.out.below hb)
              have BB := Lib.hid (BB.out.trans (hb.mono BB.out.size))
              clear hb
              have G2 := Lib.hid hbig
              clear hbig
              go_wp2_with fail
              refine (CO.out _ _ G2.out).mono ?_
              rintro e' wb8 ⟨vG3, rfl, hbig, hb⟩
              have G1 := Lib.hid (G1.out.below hb)
              have G2 := Lib.hid (G2.out.below hb)
              have BB := Lib.hid (BB.out.trans (hb.mono BB.out.size))
              clear hb
              have G3 := Lib.hid hbig
              clear hbig
              go_wp2_with fail
              refine (CT.out _ _ G3.out).mono ?_
              rintro e' wb9 ⟨vG4, rfl, hbig, hb⟩
              have G1 := Lib.hid (G1.out.below hb)
              have G2 := Lib.hid (G2.out.below hb)
              have G3 := Lib.hid (G3.out.below hb)
              have BB := Lib.hid (BB.out.trans (hb.mono BB.out.size))
              clear hb
              have G4 := Lib.hid hbig
              clear hbig
              go_wp2_with fail
              refine (CL.out _ _ _ G4.out G2.out).mono ?_
              rintro e' wm10 ⟨rfl, hb⟩
              have G1 := Lib.hid (G1.out.below hb)
              have G2 := Lib.hid (G2.out.below hb)
              have G3 := Lib.hid (G3.out.below hb)
              have G4 := Lib.hid (G4.out.below hb)
              have BB := Lib.hid (BB.out.trans (hb.mono BB.out.size))
              clear hb
              go_wp2_with fail
              refine (CR.out _ _ G3.out).mono ?_
              rintro e' wm11 ⟨rfl, hb⟩
              have G1 := Lib.hid (G1.out.below hb)
              have G2 := Lib.hid (G2.out.below hb)
              have G3 := Lib.hid (G3.out.below hb)
              have G4 := Lib.hid (G4.out.below hb)
              have BB := Lib.hid (BB.out.trans (hb.mono BB.out.size))
              clear hb
              go_wp2
              go_ret
              exact ⟨rfl, BB.out⟩
            · obtain rfl : mo = false := by rw [← hx, hce]; rfl
              clear hx
              have BB := Lib.hid (Below.refl w.heap.size w)
              go_enter Tryz.func83, Tryz.ntmps83
              go_wp2_with fail
              refine (NA.out _).mono ?_
              rintro e' wq1 ⟨rfl, rfl⟩
              go_wp2_with fail
              refine (ZA.out _).mono ?_
              rintro e' wq2 ⟨rfl, rfl⟩
              go_wp2_with fail
              refine (SA.out _).mono ?_
              rintro e' wq3 ⟨rfl, rfl⟩
              go_wp2_with fail
              refine (IA.out _).mono ?_
              rintro e' wq4 ⟨rfl, rfl⟩
              go_wp2_with fail
              refine (OA.out _).mono ?_
              rintro e' wq5 ⟨rfl, rfl⟩
              go_wp2_with fail
              refine (from_any ma lma _).mono ?_
              rintro e' wb6 ⟨vG1, rfl, hbig, hb⟩
              have BB := Lib.hid (BB.out.trans (hb.mono BB.out.size))
              clear hb
              have G1 := Lib.hid hbig
              clear hbig
              go_wp2_with fail
              refine (CU.out _ _ G1.out).mono ?_
              rintro e' wb7 ⟨vG2, rfl, hbig, hb⟩
              have G1 := Lib.hid (G1.out.below hb)
              have BB := Lib.hid (BB.out.trans (hb.mono BB.out.size))
              clear hb
              have G2 := Lib.hid hbig
              clear hbig
              go_wp2_with fail
              refine (CO.out _ _ G2.out).mono ?_
              rintro e' wb8 ⟨vG3, rfl, hbig, hb⟩
              have G1 := Lib.hid (G1.out.below hb)
              have G2 := Lib.hid (G2.out.below hb)
              have BB := Lib.hid (BB.out.trans (hb.mono BB.out.size))
              clear hb
              have G3 := Lib.hid hbig
              clear hbig
              go_wp2_with fail
              refine (CT.out _ _ G3.out).mono ?_
              rintro e' wb9 ⟨vG4, rfl, hbig, hb⟩
              have G1 := Lib.hid (G1.out.below hb)
              have G2 := Lib.hid (G2.out.below hb)
              have G3 := Lib.hid (G3.out.below hb)
              have BB := Lib.hid (BB.out.trans (hb.mono BB.out.size))
              clear hb
              have G4 := Lib.hid hbig
              clear hbig
              go_wp2_with fail
              refine (CL.out _ _ _ G4.out G2.out).mono ?_
              rintro e' wm10 ⟨rfl, hb⟩
              have G1 := Lib.hid (G1.out.below hb)
              have G2 := Lib.hid (G2.out.below hb)
              have G3 := Lib.hid (G3.out.below hb)
              have G4 := Lib.hid (G4.out.below hb)
              have BB := Lib.hid (BB.out.trans (hb.mono BB.out.size))
              clear hb
              go_wp2_with fail
              refine (CR.out _ _ G3.out).mono ?_
              rintro e' wm11 ⟨rfl, hb⟩
              have G1 := Lib.hid (G1.out.below hb)
              have G2 := Lib.hid (G2.out.below hb)
              have G3 := Lib.hid (G3.out.below hb)
              have G4 := Lib.hid (G4.out.below hb)
              have BB := Lib.hid (BB.out.trans (hb.mono BB.out.size))
              clear hb
              go_wp2
              go_ret
              exact ⟨rfl, BB.out⟩
        · have hR := HR.out
          rw [if_neg (by decide)] at hR
          rw [if_neg (by decide)] at hR
          rw [if_neg (by decide)] at hR
          rw [if_pos rfl] at hR
          clear HR
          subst hR
          have BB := Lib.hid (Below.refl w.heap.size w)
          go_enter Tryz.func83, Tryz.ntmps83
          go_wp2_with fail
          refine (NA.out _).mono ?_
          rintro e' wq1 ⟨rfl, rfl⟩
          go_wp2_with fail
          refine (ZA.out _).mono ?_
          rintro e' wq2 ⟨rfl, rfl⟩
          go_wp2_with fail
          refine (SA.out _).mono ?_
          rintro e' wq3 ⟨rfl, rfl⟩
          go_wp2_with fail
          refine (IA.out _).mono ?_
          rintro e' wq4 ⟨rfl, rfl⟩
          go_wp2
          go_ret
          exact ⟨rfl, BB.out⟩
      · have hR := HR.out
        rw [if_neg (by decide)] at hR
        rw [if_neg (by decide)] at hR
        rw [if_pos rfl] at hR
        clear HR
        subst hR
        have BB := Lib.hid (Below.refl w.heap.size w)
        go_enter Tryz.func83, Tryz.ntmps83
        go_wp2_with fail
        refine (NA.out _).mono ?_
        rintro e' wq1 ⟨rfl, rfl⟩
        go_wp2_with fail
        refine (ZA.out _).mono ?_
        rintro e' wq2 ⟨rfl, rfl⟩
        go_wp2_with fail
        refine (SA.out _).mono ?_
        rintro e' wq3 ⟨rfl, rfl⟩
        go_wp2
        go_ret
        exact ⟨rfl, BB.out⟩
    · have hR := HR.out
      rw [if_neg (by decide)] at hR
      rw [if_pos rfl] at hR
      clear HR
      subst hR
      have BB := Lib.hid (Below.refl w.heap.size w)
      go_enter Tryz.func83, Tryz.ntmps83
      go_wp2_with fail
      refine (NA.out _).mono ?_
      rintro e' wq1 ⟨rfl, rfl⟩
      go_wp2_with fail
      refine (ZA.out _).mono ?_
      rintro e' wq2 ⟨rfl, rfl⟩
      go_wp2
      go_ret
      exact ⟨rfl, BB.out⟩
  · have hR := HR.out
    rw [if_pos rfl] at hR
    clear HR
    subst hR
    have BB := Lib.hid (Below.refl w.heap.size w)
    go_enter Tryz.func83, Tryz.ntmps83
    go_wp2_with fail
    refine (NA.out _).mono ?_
    rintro e' wq1 ⟨rfl, rfl⟩
    go_wp2
    go_ret
    exact ⟨rfl, BB.out⟩
end Go.Proofs.YtffohkpohgkglaaGreat
