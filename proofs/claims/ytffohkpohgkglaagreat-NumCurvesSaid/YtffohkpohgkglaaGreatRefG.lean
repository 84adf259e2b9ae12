/-
  WALKS: the document's own rest, comparisons; the least, the greatest, the nearest multiple: the code's and the document's.
-/
import Derived.Test.YtffohkpohgkglaaGreatRefF
import Derived.Test.YtffohkpohgkglaaGreatRefE
import Derived.Test.YtffohkpohgkglaaGreatWalkN
import Derived.Test.YtffohkpohgkglaaGreatNumT
namespace Go.Proofs.YtffohkpohgkglaaGreat
set_option linter.unusedVariables false
set_option linter.unusedSimpArgs false
open Go.RowKit
set_option maxRecDepth 100000 in
set_option maxHeartbeats 4000000 in
theorem rmod_any (a b : Nat) (ha : a < 2 ^ 64) (hb : b < 2 ^ 64) (w : World) : Calls Tryz.prog 128 #[.int .u64 (a : Int), .int .u64 (b : Int)] w (Gives w (.int .u64 (Nm.dMod a b : Nat))) := by
  obtain ⟨R, hR⟩ : ∃ R, Nm.dMod a b = R := ⟨_, rfl⟩
  rw [hR]
  obtain ⟨na, hna⟩ : ∃ x, Nm.isNaN a = x := ⟨_, rfl⟩
  obtain ⟨nb, hnb⟩ : ∃ x, Nm.isNaN b = x := ⟨_, rfl⟩
  obtain ⟨ia, hia⟩ : ∃ x, Nm.isInf a = x := ⟨_, rfl⟩
  obtain ⟨ib, hib⟩ : ∃ x, Nm.isInf b = x := ⟨_, rfl⟩
  obtain ⟨za, hza⟩ : ∃ x, Nm.nought a = x := ⟨_, rfl⟩
  obtain ⟨zb, hzb⟩ : ∃ x, Nm.nought b = x := ⟨_, rfl⟩
  obtain ⟨sa, hsa⟩ : ∃ x, Nm.neg a = x := ⟨_, rfl⟩
  obtain ⟨sb, hsb⟩ : ∃ x, Nm.neg b = x := ⟨_, rfl⟩
  have NA : Hid (∀ w, Calls Tryz.prog 50 #[.int .u64 (a : Nat)] w fun e w' => e = .returned (.bool na) ∧ w' = w) := Lib.hid (by rw [← hna]; exact fun w => rnan_any a ha w)
  have NB : Hid (∀ w, Calls Tryz.prog 50 #[.int .u64 (b : Nat)] w fun e w' => e = .returned (.bool nb) ∧ w' = w) := Lib.hid (by rw [← hnb]; exact fun w => rnan_any b hb w)
  have IA : Hid (∀ w, Calls Tryz.prog 72 #[.int .u64 (a : Nat)] w fun e w' => e = .returned (.bool ia) ∧ w' = w) := Lib.hid (by rw [← hia]; exact fun w => rinf_any a ha w)
  have IB : Hid (∀ w, Calls Tryz.prog 72 #[.int .u64 (b : Nat)] w fun e w' => e = .returned (.bool ib) ∧ w' = w) := Lib.hid (by rw [← hib]; exact fun w => rinf_any b hb w)
  have ZA : Hid (∀ w, Calls Tryz.prog 69 #[.int .u64 (a : Nat)] w fun e w' => e = .returned (.bool za) ∧ w' = w) := Lib.hid (by rw [← hza]; exact fun w => rzero_any a ha w)
  have ZB : Hid (∀ w, Calls Tryz.prog 69 #[.int .u64 (b : Nat)] w fun e w' => e = .returned (.bool zb) ∧ w' = w) := Lib.hid (by rw [← hzb]; exact fun w => rzero_any b hb w)
  have SA : Hid (∀ w, Calls Tryz.prog 71 #[.int .u64 (a : Nat)] w fun e w' => e = .returned (.bool sa) ∧ w' = w) := Lib.hid (by rw [← hsa]; exact fun w => rsign_any a ha w)
  have SB : Hid (∀ w, Calls Tryz.prog 71 #[.int .u64 (b : Nat)] w fun e w' => e = .returned (.bool sb) ∧ w' = w) := Lib.hid (by rw [← hsb]; exact fun w => rsign_any b hb w)
  obtain ⟨ma, hma⟩ : ∃ x, Nm.mag a = x := ⟨_, rfl⟩
  obtain ⟨mb, hmb⟩ : ∃ x, Nm.mag b = x := ⟨_, rfl⟩
  obtain ⟨pa, hpa⟩ : ∃ x, Nm.plc a = x := ⟨_, rfl⟩
  obtain ⟨pb, hpb⟩ : ∃ x, Nm.plc b = x := ⟨_, rfl⟩
  have OA : Hid (∀ w, Calls Tryz.prog 73 #[.int .u64 (a : Nat)] w fun e w' => e = .returned (.tuple #[.int .u64 (ma : Nat), .int .i64 pa]) ∧ w' = w) := Lib.hid (by rw [← hma, ← hpa]; exact fun w => open_any a ha w)
  have OB : Hid (∀ w, Calls Tryz.prog 73 #[.int .u64 (b : Nat)] w fun e w' => e = .returned (.tuple #[.int .u64 (mb : Nat), .int .i64 pb]) ∧ w' = w) := Lib.hid (by rw [← hmb, ← hpb]; exact fun w => open_any b hb w)
  have lma : ma < 2 ^ 64 := by rw [← hma]; exact Nat.lt_trans (Nm.mag_lt a) (by decide)
  have lmb : mb < 2 ^ 64 := by rw [← hmb]; exact Nat.lt_trans (Nm.mag_lt b) (by decide)
  have wma : (Nm.wds ma).length ≤ 2 := by rw [← hma]; exact len_mag a
  have wmb : (Nm.wds mb).length ≤ 2 := by rw [← hmb]; exact len_mag b
  have pa1 : -1074 ≤ pa := by rw [← hpa]; exact Nm.plc_ge a
  have pa2 : pa ≤ 972 := by rw [← hpa]; exact plc_le a
  have pb1 : -1074 ≤ pb := by rw [← hpb]; exact Nm.plc_ge b
  have pb2 : pb ≤ 972 := by rw [← hpb]; exact plc_le b
  have lx : (Nm.wds (Nm.mx a b)).length ≤ 2200 := by unfold Nm.mx; exact len_up a _ (by rw [hpa, hpb]; omega)
  have ly : (Nm.wds (Nm.my a b)).length ≤ 2200 := by unfold Nm.my; exact len_up b _ (by rw [hpa, hpb]; omega)
  have hy0 : zb = false → 0 < Nm.my a b := fun h => by
    rw [← hzb, Nm.nought_mag] at h
    have := of_decide_eq_false h
    unfold Nm.my Nm.up
    exact Nat.mul_pos (Nat.pos_of_ne_zero this) (Nat.two_pow_pos _)
  have HCL : Hid (∀ w, Calls Tryz.prog 93 #[.int .u64 (a : Nat), .int .u64 (b : Nat)] w (LinePost w (Nm.mx a b) (Nm.my a b) (min pa pb))) := Lib.hid (by rw [← hpa, ← hpb]; exact fun w => line_any a b ha hb w)
  obtain ⟨e, he⟩ : ∃ e, min pa pb = e := ⟨_, rfl⟩
  have he2 : -1074 ≤ e := by omega
  have he3 : e ≤ 972 := by omega
  have BAD := Lib.hid (show (na || nb || ia || zb) = true → Nm.nan = R from fun h => by
    rw [← hR]; unfold Nm.dMod; rw [hna, hnb, hia, hzb, if_pos h])
  have OWN := Lib.hid (show (na || nb || ia || zb) = false → (ib || za) = true → a = R from fun h h2 => by
    rw [← hR]; unfold Nm.dMod; rw [hna, hnb, hia, hzb, hib, hza, h, if_neg (by decide), if_pos h2])
  have FIN := Lib.hid (show (na || nb || ia || zb) = false → (ib || za) = false → Nm.round sa (Nm.mx a b % Nm.my a b) e false = R from fun h h2 => by
    rw [← hR]; unfold Nm.dMod; rw [hna, hnb, hia, hzb, hib, hza, hsa, h, h2, if_neg (by decide), if_neg (by decide), hpa, hpb, he])
  rw [he] at HCL
  obtain ⟨x, hx⟩ : ∃ x, Nm.mx a b = x := ⟨_, rfl⟩
  obtain ⟨y, hy⟩ : ∃ x, Nm.my a b = x := ⟨_, rfl⟩
  rw [hx, hy] at HCL FIN
  rw [hx] at lx
  rw [hy] at ly hy0
  have lr : (Nm.wds (x % y)).length ≤ 2200 := Nat.le_trans (Nm.wds_mono (Nat.mod_le _ _)) lx
  have HY0 := Lib.hid hy0
  clear hR hna hnb hia hib hza hzb hsa hsb ha hb hx hy he hma hmb hpa hpb OA OB lma lmb wma wmb SB hy0
  cases na
  · cases nb
    · cases ia
      · cases zb
        · cases ib
          · cases za
            · have hF := FIN.out rfl rfl
              have CP := Lib.hid (fun v1 v2 w H1 H2 => parts_any v1 v2 x y w H1 H2 (by omega) (by omega) (HY0.out rfl))
              have CR := Lib.hid (fun v w H => round_any sa false v (x % y) e w H (by omega) (by omega) (by omega))
              rw [hF] at CR
              clear hF BAD OWN FIN
              have BB := Lib.hid (Below.refl w.heap.size w)
              go_enter Tryz.func128, Tryz.ntmps128
              go_wp2_with fail
              refine (NA.out _).mono ?_
              rintro e' wq1 ⟨rfl, rfl⟩
              go_wp2_with fail
              refine (NB.out _).mono ?_
              rintro e' wq2 ⟨rfl, rfl⟩
              go_wp2_with fail
              refine (IA.out _).mono ?_
              rintro e' wq3 ⟨rfl, rfl⟩
              go_wp2_with fail
              refine (ZB.out _).mono ?_
              rintro e' wq4 ⟨rfl, rfl⟩
              go_wp2_with fail
              refine (IB.out _).mono ?_
              rintro e' wq5 ⟨rfl, rfl⟩
              go_wp2_with fail
              refine (ZA.out _).mono ?_
              rintro e' wq6 ⟨rfl, rfl⟩
              go_wp2_with fail
              refine (HCL.out _).mono ?_
              rintro e' wl ⟨v1, v2, rfl, hbig1, hbig2, hb⟩
              have G1 := Lib.hid hbig1
              have G2 := Lib.hid hbig2
              have BB := Lib.hid (BB.out.trans (hb.mono BB.out.size))
              clear hb hbig1 hbig2
              go_wp2_with fail
              refine (CP.out _ _ _ G1.out G2.out).mono ?_
              rintro e' wb7 ⟨vG3, vG4, rfl, hbig1, hbig2, hb⟩
              have G1 := Lib.hid (G1.out.below hb)
              have G2 := Lib.hid (G2.out.below hb)
              have BB := Lib.hid (BB.out.trans (hb.mono BB.out.size))
              clear hb
              have G3 := Lib.hid hbig1
              have G4 := Lib.hid hbig2
              clear hbig1 hbig2
              go_wp2_with fail
              refine (SA.out _).mono ?_
              rintro e' wq8 ⟨rfl, rfl⟩
              go_wp2_with fail
              refine (CR.out _ _ G4.out).mono ?_
              rintro e' wm9 ⟨rfl, hb⟩
              have G1 := Lib.hid (G1.out.below hb)
              have G2 := Lib.hid (G2.out.below hb)
              have G3 := Lib.hid (G3.out.below hb)
              have G4 := Lib.hid (G4.out.below hb)
              have BB := Lib.hid (BB.out.trans (hb.mono BB.out.size))
              clear hb
              go_wp2
              go_ret
              exact ⟨rfl, BB.out⟩
            · obtain rfl : a = R := OWN.out rfl rfl
              clear BAD OWN FIN
              have BB := Lib.hid (Below.refl w.heap.size w)
              go_enter Tryz.func128, Tryz.ntmps128
              go_wp2_with fail
              refine (NA.out _).mono ?_
              rintro e' wq1 ⟨rfl, rfl⟩
              go_wp2_with fail
              refine (NB.out _).mono ?_
              rintro e' wq2 ⟨rfl, rfl⟩
              go_wp2_with fail
              refine (IA.out _).mono ?_
              rintro e' wq3 ⟨rfl, rfl⟩
              go_wp2_with fail
              refine (ZB.out _).mono ?_
              rintro e' wq4 ⟨rfl, rfl⟩
              go_wp2_with fail
              refine (IB.out _).mono ?_
              rintro e' wq5 ⟨rfl, rfl⟩
              go_wp2_with fail
              refine (ZA.out _).mono ?_
              rintro e' wq6 ⟨rfl, rfl⟩
              go_wp2
              go_ret
              exact ⟨rfl, BB.out⟩
          · obtain rfl : a = R := OWN.out rfl rfl
            clear BAD OWN FIN
            have BB := Lib.hid (Below.refl w.heap.size w)
            go_enter Tryz.func128, Tryz.ntmps128
            go_wp2_with fail
            refine (NA.out _).mono ?_
            rintro e' wq1 ⟨rfl, rfl⟩
            go_wp2_with fail
            refine (NB.out _).mono ?_
            rintro e' wq2 ⟨rfl, rfl⟩
            go_wp2_with fail
            refine (IA.out _).mono ?_
            rintro e' wq3 ⟨rfl, rfl⟩
            go_wp2_with fail
            refine (ZB.out _).mono ?_
            rintro e' wq4 ⟨rfl, rfl⟩
            go_wp2_with fail
            refine (IB.out _).mono ?_
            rintro e' wq5 ⟨rfl, rfl⟩
            go_wp2
            go_ret
            exact ⟨rfl, BB.out⟩
        · obtain rfl : Nm.nan = R := BAD.out rfl
          clear BAD OWN FIN
          have BB := Lib.hid (Below.refl w.heap.size w)
          go_enter Tryz.func128, Tryz.ntmps128
          go_wp2_with fail
          refine (NA.out _).mono ?_
          rintro e' wq1 ⟨rfl, rfl⟩
          go_wp2_with fail
          refine (NB.out _).mono ?_
          rintro e' wq2 ⟨rfl, rfl⟩
          go_wp2_with fail
          refine (IA.out _).mono ?_
          rintro e' wq3 ⟨rfl, rfl⟩
          go_wp2_with fail
          refine (ZB.out _).mono ?_
          rintro e' wq4 ⟨rfl, rfl⟩
          go_wp2
          go_ret
          exact ⟨rfl, BB.out⟩
      · obtain rfl : Nm.nan = R := BAD.out rfl
        clear BAD OWN FIN
        have BB := Lib.hid (Below.refl w.heap.size w)
        go_enter Tryz.func128, Tryz.ntmps128
        go_wp2_with fail
        refine (NA.out _).mono ?_
        rintro e' wq1 ⟨rfl, rfl⟩
        go_wp2_with fail
        refine (NB.out _).mono ?_
        rintro e' wq2 ⟨rfl, rfl⟩
        go_wp2_with fail
        refine (IA.out _).mono ?_
        rintro e' wq3 ⟨rfl, rfl⟩
        go_wp2
        go_ret
        exact ⟨rfl, BB.out⟩
    · obtain rfl : Nm.nan = R := BAD.out rfl
      clear BAD OWN FIN
      have BB := Lib.hid (Below.refl w.heap.size w)
      go_enter Tryz.func128, Tryz.ntmps128
      go_wp2_with fail
      refine (NA.out _).mono ?_
      rintro e' wq1 ⟨rfl, rfl⟩
      go_wp2_with fail
      refine (NB.out _).mono ?_
      rintro e' wq2 ⟨rfl, rfl⟩
      go_wp2
      go_ret
      exact ⟨rfl, BB.out⟩
  · obtain rfl : Nm.nan = R := BAD.out rfl
    clear BAD OWN FIN
    have BB := Lib.hid (Below.refl w.heap.size w)
    go_enter Tryz.func128, Tryz.ntmps128
    go_wp2_with fail
    refine (NA.out _).mono ?_
    rintro e' wq1 ⟨rfl, rfl⟩
    go_wp2
    go_ret
    exact ⟨rfl, BB.out⟩
set_option maxRecDepth 100000 in
set_option maxHeartbeats 4000000 in
theorem rcmp_any (a b : Nat) (ha : a < 2 ^ 64) (hb : b < 2 ^ 64) (w : World) : Calls Tryz.prog 91 #[.int .u64 (a : Int), .int .u64 (b : Int)] w fun e w' => e = .returned (.tuple #[.int .i64 (Nm.dCmp a b), .bool (Nm.dCok a b)]) ∧ Below w.heap.size w w' := by
  obtain ⟨R, hR⟩ : ∃ R, Nm.dCmp a b = R := ⟨_, rfl⟩
  obtain ⟨O, hO⟩ : ∃ O, Nm.dCok a b = O := ⟨_, rfl⟩
  rw [hR, hO]
  obtain ⟨na, hna⟩ : ∃ x, Nm.isNaN a = x := ⟨_, rfl⟩
  obtain ⟨nb, hnb⟩ : ∃ x, Nm.isNaN b = x := ⟨_, rfl⟩
  obtain ⟨ia, hia⟩ : ∃ x, Nm.isInf a = x := ⟨_, rfl⟩
  obtain ⟨ib, hib⟩ : ∃ x, Nm.isInf b = x := ⟨_, rfl⟩
  obtain ⟨za, hza⟩ : ∃ x, Nm.nought a = x := ⟨_, rfl⟩
  obtain ⟨zb, hzb⟩ : ∃ x, Nm.nought b = x := ⟨_, rfl⟩
  obtain ⟨sa, hsa⟩ : ∃ x, Nm.neg a = x := ⟨_, rfl⟩
  obtain ⟨sb, hsb⟩ : ∃ x, Nm.neg b = x := ⟨_, rfl⟩
  have NA : Hid (∀ w, Calls Tryz.prog 50 #[.int .u64 (a : Nat)] w fun e w' => e = .returned (.bool na) ∧ w' = w) := Lib.hid (by rw [← hna]; exact fun w => rnan_any a ha w)
  have NB : Hid (∀ w, Calls Tryz.prog 50 #[.int .u64 (b : Nat)] w fun e w' => e = .returned (.bool nb) ∧ w' = w) := Lib.hid (by rw [← hnb]; exact fun w => rnan_any b hb w)
  have IA : Hid (∀ w, Calls Tryz.prog 72 #[.int .u64 (a : Nat)] w fun e w' => e = .returned (.bool ia) ∧ w' = w) := Lib.hid (by rw [← hia]; exact fun w => rinf_any a ha w)
  have IB : Hid (∀ w, Calls Tryz.prog 72 #[.int .u64 (b : Nat)] w fun e w' => e = .returned (.bool ib) ∧ w' = w) := Lib.hid (by rw [← hib]; exact fun w => rinf_any b hb w)
  have ZA : Hid (∀ w, Calls Tryz.prog 69 #[.int .u64 (a : Nat)] w fun e w' => e = .returned (.bool za) ∧ w' = w) := Lib.hid (by rw [← hza]; exact fun w => rzero_any a ha w)
  have ZB : Hid (∀ w, Calls Tryz.prog 69 #[.int .u64 (b : Nat)] w fun e w' => e = .returned (.bool zb) ∧ w' = w) := Lib.hid (by rw [← hzb]; exact fun w => rzero_any b hb w)
  have SA : Hid (∀ w, Calls Tryz.prog 71 #[.int .u64 (a : Nat)] w fun e w' => e = .returned (.bool sa) ∧ w' = w) := Lib.hid (by rw [← hsa]; exact fun w => rsign_any a ha w)
  have SB : Hid (∀ w, Calls Tryz.prog 71 #[.int .u64 (b : Nat)] w fun e w' => e = .returned (.bool sb) ∧ w' = w) := Lib.hid (by rw [← hsb]; exact fun w => rsign_any b hb w)
  obtain ⟨ma, hma⟩ : ∃ x, Nm.mag a = x := ⟨_, rfl⟩
  obtain ⟨mb, hmb⟩ : ∃ x, Nm.mag b = x := ⟨_, rfl⟩
  obtain ⟨pa, hpa⟩ : ∃ x, Nm.plc a = x := ⟨_, rfl⟩
  obtain ⟨pb, hpb⟩ : ∃ x, Nm.plc b = x := ⟨_, rfl⟩
  have OA : Hid (∀ w, Calls Tryz.prog 73 #[.int .u64 (a : Nat)] w fun e w' => e = .returned (.tuple #[.int .u64 (ma : Nat), .int .i64 pa]) ∧ w' = w) := Lib.hid (by rw [← hma, ← hpa]; exact fun w => open_any a ha w)
  have OB : Hid (∀ w, Calls Tryz.prog 73 #[.int .u64 (b : Nat)] w fun e w' => e = .returned (.tuple #[.int .u64 (mb : Nat), .int .i64 pb]) ∧ w' = w) := Lib.hid (by rw [← hmb, ← hpb]; exact fun w => open_any b hb w)
  have lma : ma < 2 ^ 64 := by rw [← hma]; exact Nat.lt_trans (Nm.mag_lt a) (by decide)
  have lmb : mb < 2 ^ 64 := by rw [← hmb]; exact Nat.lt_trans (Nm.mag_lt b) (by decide)
  have wma : (Nm.wds ma).length ≤ 2 := by rw [← hma]; exact len_mag a
  have wmb : (Nm.wds mb).length ≤ 2 := by rw [← hmb]; exact len_mag b
  have pa1 : -1074 ≤ pa := by rw [← hpa]; exact Nm.plc_ge a
  have pa2 : pa ≤ 972 := by rw [← hpa]; exact plc_le a
  have pb1 : -1074 ≤ pb := by rw [← hpb]; exact Nm.plc_ge b
  have pb2 : pb ≤ 972 := by rw [← hpb]; exact plc_le b
  have HCL : Hid (∀ w, Calls Tryz.prog 93 #[.int .u64 (a : Nat), .int .u64 (b : Nat)] w (LinePost w (Nm.mx a b) (Nm.my a b) (min pa pb))) := Lib.hid (by rw [← hpa, ← hpb]; exact fun w => line_any a b ha hb w)
  have BAD := Lib.hid (show (na || nb) = true → 0 = R ∧ false = O from fun h => by
    rw [← hR, ← hO]; unfold Nm.dCmp Nm.dCok; rw [hna, hnb, h]; exact ⟨rfl, rfl⟩)
  have OKK := Lib.hid (show (na || nb) = false → true = O from fun h => by rw [← hO]; unfold Nm.dCok; rw [hna, hnb, h]; rfl)
  have ZER := Lib.hid (show (za && zb) = true → 0 = R from fun h => by
    rw [Bool.and_eq_true] at h
    rw [← hR]; exact (Nm.dCmp_zeros (hza.trans h.1) (hzb.trans h.2)).symm)
  have OTH := Lib.hid (show na = false → nb = false → (za && zb) = false → sa ≠ sb → (if sa then -1 else 1) = R from fun h1 h2 h3 h4 => by
    rw [← hR, Nm.dCmp_other (hna.trans h1) (hnb.trans h2) (by rw [hza, hzb]; exact h3) (by rw [hsa, hsb]; exact h4), hsa])
  have SAM := Lib.hid (show na = false → nb = false → sa = sb → (if sa then -Nm.cSize a b else Nm.cSize a b) = R from fun h1 h2 h4 => by
    rw [← hR, Nm.dCmp_same (hna.trans h1) (hnb.trans h2) (by rw [hsa, hsb]; exact h4), hsa, Nm.cSize_eq (hna.trans h1) (hnb.trans h2)])
  have SZ := Lib.hid (show Nm.cSize a b = if ia then (if ib then 0 else 1) else if ib then -1 else Nm.cmpN (Nm.mx a b) (Nm.my a b) from by unfold Nm.cSize; rw [hia, hib])
  obtain ⟨sz, hsz⟩ : ∃ x, Nm.cSize a b = x := ⟨_, rfl⟩
  rw [hsz] at SZ SAM
  have he2 : -1074 ≤ min pa pb := by omega
  obtain ⟨e, he⟩ : ∃ e, min pa pb = e := ⟨_, rfl⟩
  rw [he] at HCL
  obtain ⟨x, hx⟩ : ∃ x, Nm.mx a b = x := ⟨_, rfl⟩
  obtain ⟨y, hy⟩ : ∃ x, Nm.my a b = x := ⟨_, rfl⟩
  rw [hx, hy] at HCL SZ
  have CE := Lib.hid (fun v1 v2 w H1 H2 => less_any v1 v2 x y w H1 H2)
  clear hR hO hna hnb hia hib hza hzb hsa hsb ha hb hx hy he he2 hma hmb hpa hpb OA OB lma lmb wma wmb hsz
  cases na
  · cases nb
    · cases za
      · cases sa
        · cases sb
          · cases ia
            · cases ib
              · have ho := OKK.out rfl
                subst ho
                have hs := SAM.out rfl rfl rfl
                have hz := SZ.out
                rw [if_neg (by decide)] at hs
                rw [if_neg (by decide)] at hz
                rw [if_neg (by decide)] at hz
                rw [← hz] at CE
                have hbd : -1 ≤ sz ∧ sz ≤ 1 := by rw [hz]; unfold Nm.cmpN; split; omega; split <;> omega
                have hb1 := hbd.1
                have hb2 := hbd.2
                subst hs
                clear hz hbd
                clear BAD OKK ZER OTH SAM SZ
                have BB := Lib.hid (Below.refl w.heap.size w)
                go_enter Tryz.func91, Tryz.ntmps91
                go_wp2_with fail
                refine (NA.out _).mono ?_
                rintro e' wq1 ⟨rfl, rfl⟩
                go_wp2_with fail
                refine (NB.out _).mono ?_
                rintro e' wq2 ⟨rfl, rfl⟩
                go_wp2_with fail
                refine (ZA.out _).mono ?_
                rintro e' wq3 ⟨rfl, rfl⟩
                go_wp2_with fail
                refine (SA.out _).mono ?_
                rintro e' wq4 ⟨rfl, rfl⟩
                go_wp2_with fail
                refine (SB.out _).mono ?_
                rintro e' wq5 ⟨rfl, rfl⟩
                go_wp2_with fail
                refine (IA.out _).mono ?_
                rintro e' wq6 ⟨rfl, rfl⟩
                go_wp2_with fail
                refine (IA.out _).mono ?_
                rintro e' wq7 ⟨rfl, rfl⟩
                go_wp2_with fail
                refine (IB.out _).mono ?_
                rintro e' wq8 ⟨rfl, rfl⟩
                go_wp2_with fail
                refine (HCL.out _).mono ?_
                rintro e' wl ⟨v1, v2, rfl, hbig1, hbig2, hb⟩
                have G1 := Lib.hid hbig1
                have G2 := Lib.hid hbig2
                have BB := Lib.hid (BB.out.trans (hb.mono BB.out.size))
                clear hb hbig1 hbig2
                go_wp2_with fail
                refine (CE.out _ _ _ G1.out G2.out).mono ?_
                rintro e' wm9 ⟨rfl, hb⟩
                have G1 := Lib.hid (G1.out.below hb)
                have G2 := Lib.hid (G2.out.below hb)
                have BB := Lib.hid (BB.out.trans (hb.mono BB.out.size))
                clear hb
                go_wp2_with fail
                refine (SA.out _).mono ?_
                rintro e' wq10 ⟨rfl, rfl⟩
                go_wp2
                go_ret2
                exact ⟨rfl, BB.out⟩
              · have ho := OKK.out rfl
                subst ho
                have hs := SAM.out rfl rfl rfl
                have hz := SZ.out
                rw [if_neg (by decide)] at hs
                rw [if_neg (by decide)] at hz
                rw [if_pos rfl] at hz
                subst hz
                subst hs
                clear BAD OKK ZER OTH SAM SZ
                have BB := Lib.hid (Below.refl w.heap.size w)
                go_enter Tryz.func91, Tryz.ntmps91
                go_wp2_with fail
                refine (NA.out _).mono ?_
                rintro e' wq1 ⟨rfl, rfl⟩
                go_wp2_with fail
                refine (NB.out _).mono ?_
                rintro e' wq2 ⟨rfl, rfl⟩
                go_wp2_with fail
                refine (ZA.out _).mono ?_
                rintro e' wq3 ⟨rfl, rfl⟩
                go_wp2_with fail
                refine (SA.out _).mono ?_
                rintro e' wq4 ⟨rfl, rfl⟩
                go_wp2_with fail
                refine (SB.out _).mono ?_
                rintro e' wq5 ⟨rfl, rfl⟩
                go_wp2_with fail
                refine (IA.out _).mono ?_
                rintro e' wq6 ⟨rfl, rfl⟩
                go_wp2_with fail
                refine (IA.out _).mono ?_
                rintro e' wq7 ⟨rfl, rfl⟩
                go_wp2_with fail
                refine (IB.out _).mono ?_
                rintro e' wq8 ⟨rfl, rfl⟩
                go_wp2_with fail
                refine (SA.out _).mono ?_
                rintro e' wq9 ⟨rfl, rfl⟩
                go_wp2
                go_ret2
                exact ⟨rfl, BB.out⟩
            · cases ib
              · have ho := OKK.out rfl
                subst ho
                have hs := SAM.out rfl rfl rfl
                have hz := SZ.out
                rw [if_neg (by decide)] at hs
                rw [if_pos rfl] at hz
                rw [if_neg (by decide)] at hz
                subst hz
                subst hs
                clear BAD OKK ZER OTH SAM SZ
                have BB := Lib.hid (Below.refl w.heap.size w)
                go_enter Tryz.func91, Tryz.ntmps91
                go_wp2_with fail
                refine (NA.out _).mono ?_
                rintro e' wq1 ⟨rfl, rfl⟩
                go_wp2_with fail
                refine (NB.out _).mono ?_
                rintro e' wq2 ⟨rfl, rfl⟩
                go_wp2_with fail
                refine (ZA.out _).mono ?_
                rintro e' wq3 ⟨rfl, rfl⟩
                go_wp2_with fail
                refine (SA.out _).mono ?_
                rintro e' wq4 ⟨rfl, rfl⟩
                go_wp2_with fail
                refine (SB.out _).mono ?_
                rintro e' wq5 ⟨rfl, rfl⟩
                go_wp2_with fail
                refine (IA.out _).mono ?_
                rintro e' wq6 ⟨rfl, rfl⟩
                go_wp2_with fail
                refine (IB.out _).mono ?_
                rintro e' wq7 ⟨rfl, rfl⟩
                go_wp2_with fail
                refine (IA.out _).mono ?_
                rintro e' wq8 ⟨rfl, rfl⟩
                go_wp2_with fail
                refine (SA.out _).mono ?_
                rintro e' wq9 ⟨rfl, rfl⟩
                go_wp2
                go_ret2
                exact ⟨rfl, BB.out⟩
              · have ho := OKK.out rfl
                subst ho
                have hs := SAM.out rfl rfl rfl
                have hz := SZ.out
                rw [if_neg (by decide)] at hs
                rw [if_pos rfl] at hz
                rw [if_pos rfl] at hz
                subst hz
                subst hs
                clear BAD OKK ZER OTH SAM SZ
                have BB := Lib.hid (Below.refl w.heap.size w)
                go_enter Tryz.func91, Tryz.ntmps91
                go_wp2_with fail
                refine (NA.out _).mono ?_
                rintro e' wq1 ⟨rfl, rfl⟩
                go_wp2_with fail
                refine (NB.out _).mono ?_
                rintro e' wq2 ⟨rfl, rfl⟩
                go_wp2_with fail
                refine (ZA.out _).mono ?_
                rintro e' wq3 ⟨rfl, rfl⟩
                go_wp2_with fail
                refine (SA.out _).mono ?_
                rintro e' wq4 ⟨rfl, rfl⟩
                go_wp2_with fail
                refine (SB.out _).mono ?_
                rintro e' wq5 ⟨rfl, rfl⟩
                go_wp2_with fail
                refine (IA.out _).mono ?_
                rintro e' wq6 ⟨rfl, rfl⟩
                go_wp2_with fail
                refine (IB.out _).mono ?_
                rintro e' wq7 ⟨rfl, rfl⟩
                go_wp2_with fail
                refine (SA.out _).mono ?_
                rintro e' wq8 ⟨rfl, rfl⟩
                go_wp2
                go_ret2
                exact ⟨rfl, BB.out⟩
          · have hr := OTH.out rfl rfl rfl (by decide)
            rw [if_neg (by decide)] at hr
            subst hr
            have ho := OKK.out rfl
            subst ho
            clear BAD OKK ZER OTH SAM SZ
            have BB := Lib.hid (Below.refl w.heap.size w)
            go_enter Tryz.func91, Tryz.ntmps91
            go_wp2_with fail
            refine (NA.out _).mono ?_
            rintro e' wq1 ⟨rfl, rfl⟩
            go_wp2_with fail
            refine (NB.out _).mono ?_
            rintro e' wq2 ⟨rfl, rfl⟩
            go_wp2_with fail
            refine (ZA.out _).mono ?_
            rintro e' wq3 ⟨rfl, rfl⟩
            go_wp2_with fail
            refine (SA.out _).mono ?_
            rintro e' wq4 ⟨rfl, rfl⟩
            go_wp2_with fail
            refine (SB.out _).mono ?_
            rintro e' wq5 ⟨rfl, rfl⟩
            go_wp2_with fail
            refine (SA.out _).mono ?_
            rintro e' wq6 ⟨rfl, rfl⟩
            go_wp2
            go_ret2
            exact ⟨rfl, BB.out⟩
        · cases sb
          · have hr := OTH.out rfl rfl rfl (by decide)
            rw [if_pos rfl] at hr
            subst hr
            have ho := OKK.out rfl
            subst ho
            clear BAD OKK ZER OTH SAM SZ
            have BB := Lib.hid (Below.refl w.heap.size w)
            go_enter Tryz.func91, Tryz.ntmps91
            go_wp2_with fail
            refine (NA.out _).mono ?_
            rintro e' wq1 ⟨rfl, rfl⟩
            go_wp2_with fail
            refine (NB.out _).mono ?_
            rintro e' wq2 ⟨rfl, rfl⟩
            go_wp2_with fail
            refine (ZA.out _).mono ?_
            rintro e' wq3 ⟨rfl, rfl⟩
            go_wp2_with fail
            refine (SA.out _).mono ?_
            rintro e' wq4 ⟨rfl, rfl⟩
            go_wp2_with fail
            refine (SB.out _).mono ?_
            rintro e' wq5 ⟨rfl, rfl⟩
            go_wp2_with fail
            refine (SA.out _).mono ?_
            rintro e' wq6 ⟨rfl, rfl⟩
            go_wp2
            go_ret2
            exact ⟨rfl, BB.out⟩
          · cases ia
            · cases ib
              · have ho := OKK.out rfl
                subst ho
                have hs := SAM.out rfl rfl rfl
                have hz := SZ.out
                rw [if_pos rfl] at hs
                rw [if_neg (by decide)] at hz
                rw [if_neg (by decide)] at hz
                rw [← hz] at CE
                have hbd : -1 ≤ sz ∧ sz ≤ 1 := by rw [hz]; unfold Nm.cmpN; split; omega; split <;> omega
                have hb1 := hbd.1
                have hb2 := hbd.2
                subst hs
                clear hz hbd
                clear BAD OKK ZER OTH SAM SZ
                have BB := Lib.hid (Below.refl w.heap.size w)
                go_enter Tryz.func91, Tryz.ntmps91
                go_wp2_with fail
                refine (NA.out _).mono ?_
                rintro e' wq1 ⟨rfl, rfl⟩
                go_wp2_with fail
                refine (NB.out _).mono ?_
                rintro e' wq2 ⟨rfl, rfl⟩
                go_wp2_with fail
                refine (ZA.out _).mono ?_
                rintro e' wq3 ⟨rfl, rfl⟩
                go_wp2_with fail
                refine (SA.out _).mono ?_
                rintro e' wq4 ⟨rfl, rfl⟩
                go_wp2_with fail
                refine (SB.out _).mono ?_
                rintro e' wq5 ⟨rfl, rfl⟩
                go_wp2_with fail
                refine (IA.out _).mono ?_
                rintro e' wq6 ⟨rfl, rfl⟩
                go_wp2_with fail
                refine (IA.out _).mono ?_
                rintro e' wq7 ⟨rfl, rfl⟩
                go_wp2_with fail
                refine (IB.out _).mono ?_
                rintro e' wq8 ⟨rfl, rfl⟩
                go_wp2_with fail
                refine (HCL.out _).mono ?_
                rintro e' wl ⟨v1, v2, rfl, hbig1, hbig2, hb⟩
                have G1 := Lib.hid hbig1
                have G2 := Lib.hid hbig2
                have BB := Lib.hid (BB.out.trans (hb.mono BB.out.size))
                clear hb hbig1 hbig2
                go_wp2_with fail
                refine (CE.out _ _ _ G1.out G2.out).mono ?_
                rintro e' wm9 ⟨rfl, hb⟩
                have G1 := Lib.hid (G1.out.below hb)
                have G2 := Lib.hid (G2.out.below hb)
                have BB := Lib.hid (BB.out.trans (hb.mono BB.out.size))
                clear hb
                go_wp2_with fail
                refine (SA.out _).mono ?_
                rintro e' wq10 ⟨rfl, rfl⟩
                go_wp2
                go_ret2
                exact ⟨rfl, BB.out⟩
              · have ho := OKK.out rfl
                subst ho
                have hs := SAM.out rfl rfl rfl
                have hz := SZ.out
                rw [if_pos rfl] at hs
                rw [if_neg (by decide)] at hz
                rw [if_pos rfl] at hz
                subst hz
                subst hs
                clear BAD OKK ZER OTH SAM SZ
                have BB := Lib.hid (Below.refl w.heap.size w)
                go_enter Tryz.func91, Tryz.ntmps91
                go_wp2_with fail
                refine (NA.out _).mono ?_
                rintro e' wq1 ⟨rfl, rfl⟩
                go_wp2_with fail
                refine (NB.out _).mono ?_
                rintro e' wq2 ⟨rfl, rfl⟩
                go_wp2_with fail
                refine (ZA.out _).mono ?_
                rintro e' wq3 ⟨rfl, rfl⟩
                go_wp2_with fail
                refine (SA.out _).mono ?_
                rintro e' wq4 ⟨rfl, rfl⟩
                go_wp2_with fail
                refine (SB.out _).mono ?_
                rintro e' wq5 ⟨rfl, rfl⟩
                go_wp2_with fail
                refine (IA.out _).mono ?_
                rintro e' wq6 ⟨rfl, rfl⟩
                go_wp2_with fail
                refine (IA.out _).mono ?_
                rintro e' wq7 ⟨rfl, rfl⟩
                go_wp2_with fail
                refine (IB.out _).mono ?_
                rintro e' wq8 ⟨rfl, rfl⟩
                go_wp2_with fail
                refine (SA.out _).mono ?_
                rintro e' wq9 ⟨rfl, rfl⟩
                go_wp2
                go_ret2
                exact ⟨rfl, BB.out⟩
            · cases ib
              · have ho := OKK.out rfl
                subst ho
                have hs := SAM.out rfl rfl rfl
                have hz := SZ.out
                rw [if_pos rfl] at hs
                rw [if_pos rfl] at hz
                rw [if_neg (by decide)] at hz
                subst hz
                subst hs
                clear BAD OKK ZER OTH SAM SZ
                have BB := Lib.hid (Below.refl w.heap.size w)
                go_enter Tryz.func91, Tryz.ntmps91
                go_wp2_with fail
                refine (NA.out _).mono ?_
                rintro e' wq1 ⟨rfl, rfl⟩
                go_wp2_with fail
                refine (NB.out _).mono ?_
                rintro e' wq2 ⟨rfl, rfl⟩
                go_wp2_with fail
                refine (ZA.out _).mono ?_
                rintro e' wq3 ⟨rfl, rfl⟩
                go_wp2_with fail
                refine (SA.out _).mono ?_
                rintro e' wq4 ⟨rfl, rfl⟩
                go_wp2_with fail
                refine (SB.out _).mono ?_
                rintro e' wq5 ⟨rfl, rfl⟩
                go_wp2_with fail
                refine (IA.out _).mono ?_
                rintro e' wq6 ⟨rfl, rfl⟩
                go_wp2_with fail
                refine (IB.out _).mono ?_
                rintro e' wq7 ⟨rfl, rfl⟩
                go_wp2_with fail
                refine (IA.out _).mono ?_
                rintro e' wq8 ⟨rfl, rfl⟩
                go_wp2_with fail
                refine (SA.out _).mono ?_
                rintro e' wq9 ⟨rfl, rfl⟩
                go_wp2
                go_ret2
                exact ⟨rfl, BB.out⟩
              · have ho := OKK.out rfl
                subst ho
                have hs := SAM.out rfl rfl rfl
                have hz := SZ.out
                rw [if_pos rfl] at hs
                rw [if_pos rfl] at hz
                rw [if_pos rfl] at hz
                subst hz
                subst hs
                clear BAD OKK ZER OTH SAM SZ
                have BB := Lib.hid (Below.refl w.heap.size w)
                go_enter Tryz.func91, Tryz.ntmps91
                go_wp2_with fail
                refine (NA.out _).mono ?_
                rintro e' wq1 ⟨rfl, rfl⟩
                go_wp2_with fail
                refine (NB.out _).mono ?_
                rintro e' wq2 ⟨rfl, rfl⟩
                go_wp2_with fail
                refine (ZA.out _).mono ?_
                rintro e' wq3 ⟨rfl, rfl⟩
                go_wp2_with fail
                refine (SA.out _).mono ?_
                rintro e' wq4 ⟨rfl, rfl⟩
                go_wp2_with fail
                refine (SB.out _).mono ?_
                rintro e' wq5 ⟨rfl, rfl⟩
                go_wp2_with fail
                refine (IA.out _).mono ?_
                rintro e' wq6 ⟨rfl, rfl⟩
                go_wp2_with fail
                refine (IB.out _).mono ?_
                rintro e' wq7 ⟨rfl, rfl⟩
                go_wp2_with fail
                refine (SA.out _).mono ?_
                rintro e' wq8 ⟨rfl, rfl⟩
                go_wp2
                go_ret2
                exact ⟨rfl, BB.out⟩
      · cases zb
        · cases sa
          · cases sb
            · cases ia
              · cases ib
                · have ho := OKK.out rfl
                  subst ho
                  have hs := SAM.out rfl rfl rfl
                  have hz := SZ.out
                  rw [if_neg (by decide)] at hs
                  rw [if_neg (by decide)] at hz
                  rw [if_neg (by decide)] at hz
                  rw [← hz] at CE
                  have hbd : -1 ≤ sz ∧ sz ≤ 1 := by rw [hz]; unfold Nm.cmpN; split; omega; split <;> omega
                  have hb1 := hbd.1
                  have hb2 := hbd.2
                  subst hs
                  clear hz hbd
                  clear BAD OKK ZER OTH SAM SZ
                  have BB := Lib.hid (Below.refl w.heap.size w)
                  go_enter Tryz.func91, Tryz.ntmps91
                  go_wp2_with fail
                  refine (NA.out _).mono ?_
                  rintro e' wq1 ⟨rfl, rfl⟩
                  go_wp2_with fail
                  refine (NB.out _).mono ?_
                  rintro e' wq2 ⟨rfl, rfl⟩
                  go_wp2_with fail
                  refine (ZA.out _).mono ?_
                  rintro e' wq3 ⟨rfl, rfl⟩
                  go_wp2_with fail
                  refine (ZB.out _).mono ?_
                  rintro e' wq4 ⟨rfl, rfl⟩
                  go_wp2_with fail
                  refine (SA.out _).mono ?_
                  rintro e' wq5 ⟨rfl, rfl⟩
                  go_wp2_with fail
                  refine (SB.out _).mono ?_
                  rintro e' wq6 ⟨rfl, rfl⟩
                  go_wp2_with fail
                  refine (IA.out _).mono ?_
                  rintro e' wq7 ⟨rfl, rfl⟩
                  go_wp2_with fail
                  refine (IA.out _).mono ?_
                  rintro e' wq8 ⟨rfl, rfl⟩
                  go_wp2_with fail
                  refine (IB.out _).mono ?_
                  rintro e' wq9 ⟨rfl, rfl⟩
                  go_wp2_with fail
                  refine (HCL.out _).mono ?_
                  rintro e' wl ⟨v1, v2, rfl, hbig1, hbig2, hb⟩
                  have G1 := Lib.hid hbig1
                  have G2 := Lib.hid hbig2
                  have BB := Lib.hid (BB.out.trans (hb.mono BB.out.size))
                  clear hb hbig1 hbig2
                  go_wp2_with fail
                  refine (CE.out _ _ _ G1.out G2.out).mono ?_
                  rintro e' wm10 ⟨rfl, hb⟩
                  have G1 := Lib.hid (G1.out.below hb)
                  have G2 := Lib.hid (G2.out.below hb)
                  have BB := Lib.hid (BB.out.trans (hb.mono BB.out.size))
                  clear hb
                  go_wp2_with fail
                  refine (SA.out _).mono ?_
                  rintro e' wq11 ⟨rfl, rfl⟩
                  go_wp2
                  go_ret2
                  exact ⟨rfl, BB.out⟩
                · have ho := OKK.out rfl
                  subst ho
                  have hs := SAM.out rfl rfl rfl
                  have hz := SZ.out
                  rw [if_neg (by decide)] at hs
                  rw [if_neg (by decide)] at hz
                  rw [if_pos rfl] at hz
                  subst hz
                  subst hs
                  clear BAD OKK ZER OTH SAM SZ
                  have BB := Lib.hid (Below.refl w.heap.size w)
                  go_enter Tryz.func91, Tryz.ntmps91
                  go_wp2_with fail
                  refine (NA.out _).mono ?_
                  rintro e' wq1 ⟨rfl, rfl⟩
                  go_wp2_with fail
                  refine (NB.out _).mono ?_
                  rintro e' wq2 ⟨rfl, rfl⟩
                  go_wp2_with fail
                  refine (ZA.out _).mono ?_
                  rintro e' wq3 ⟨rfl, rfl⟩
                  go_wp2_with fail
                  refine (ZB.out _).mono ?_
                  rintro e' wq4 ⟨rfl, rfl⟩
                  go_wp2_with fail
                  refine (SA.out _).mono ?_
                  rintro e' wq5 ⟨rfl, rfl⟩
                  go_wp2_with fail
                  refine (SB.out _).mono ?_
                  rintro e' wq6 ⟨rfl, rfl⟩
                  go_wp2_with fail
                  refine (IA.out _).mono ?_
                  rintro e' wq7 ⟨rfl, rfl⟩
                  go_wp2_with fail
                  refine (IA.out _).mono ?_
                  rintro e' wq8 ⟨rfl, rfl⟩
                  go_wp2_with fail
                  refine (IB.out _).mono ?_
                  rintro e' wq9 ⟨rfl, rfl⟩
                  go_wp2_with fail
                  refine (SA.out _).mono ?_
                  rintro e' wq10 ⟨rfl, rfl⟩
                  go_wp2
                  go_ret2
                  exact ⟨rfl, BB.out⟩
              · cases ib
                · have ho := OKK.out rfl
                  subst ho
                  have hs := SAM.out rfl rfl rfl
                  have hz := SZ.out
                  rw [if_neg (by decide)] at hs
                  rw [if_pos rfl] at hz
                  rw [if_neg (by decide)] at hz
                  subst hz
                  subst hs
                  clear BAD OKK ZER OTH SAM SZ
                  have BB := Lib.hid (Below.refl w.heap.size w)
                  go_enter Tryz.func91, Tryz.ntmps91
                  go_wp2_with fail
                  refine (NA.out _).mono ?_
                  rintro e' wq1 ⟨rfl, rfl⟩
                  go_wp2_with fail
                  refine (NB.out _).mono ?_
                  rintro e' wq2 ⟨rfl, rfl⟩
                  go_wp2_with fail
                  refine (ZA.out _).mono ?_
                  rintro e' wq3 ⟨rfl, rfl⟩
                  go_wp2_with fail
                  refine (ZB.out _).mono ?_
                  rintro e' wq4 ⟨rfl, rfl⟩
                  go_wp2_with fail
                  refine (SA.out _).mono ?_
                  rintro e' wq5 ⟨rfl, rfl⟩
                  go_wp2_with fail
                  refine (SB.out _).mono ?_
                  rintro e' wq6 ⟨rfl, rfl⟩
                  go_wp2_with fail
                  refine (IA.out _).mono ?_
                  rintro e' wq7 ⟨rfl, rfl⟩
                  go_wp2_with fail
                  refine (IB.out _).mono ?_
                  rintro e' wq8 ⟨rfl, rfl⟩
                  go_wp2_with fail
                  refine (IA.out _).mono ?_
                  rintro e' wq9 ⟨rfl, rfl⟩
                  go_wp2_with fail
                  refine (SA.out _).mono ?_
                  rintro e' wq10 ⟨rfl, rfl⟩
                  go_wp2
                  go_ret2
                  exact ⟨rfl, BB.out⟩
                · have ho := OKK.out rfl
                  subst ho
                  have hs := SAM.out rfl rfl rfl
                  have hz := SZ.out
                  rw [if_neg (by decide)] at hs
                  rw [if_pos rfl] at hz
                  rw [if_pos rfl] at hz
                  subst hz
                  subst hs
                  clear BAD OKK ZER OTH SAM SZ
                  have BB := Lib.hid (Below.refl w.heap.size w)
                  go_enter Tryz.func91, Tryz.ntmps91
                  go_wp2_with fail
                  refine (NA.out _).mono ?_
                  rintro e' wq1 ⟨rfl, rfl⟩
                  go_wp2_with fail
                  refine (NB.out _).mono ?_
                  rintro e' wq2 ⟨rfl, rfl⟩
                  go_wp2_with fail
                  refine (ZA.out _).mono ?_
                  rintro e' wq3 ⟨rfl, rfl⟩
                  go_wp2_with fail
                  refine (ZB.out _).mono ?_
                  rintro e' wq4 ⟨rfl, rfl⟩
                  go_wp2_with fail
                  refine (SA.out _).mono ?_
                  rintro e' wq5 ⟨rfl, rfl⟩
                  go_wp2_with fail
                  refine (SB.out _).mono ?_
                  rintro e' wq6 ⟨rfl, rfl⟩
                  go_wp2_with fail
                  refine (IA.out _).mono ?_
                  rintro e' wq7 ⟨rfl, rfl⟩
                  go_wp2_with fail
                  refine (IB.out _).mono ?_
                  rintro e' wq8 ⟨rfl, rfl⟩
                  go_wp2_with fail
                  refine (SA.out _).mono ?_
                  rintro e' wq9 ⟨rfl, rfl⟩
                  go_wp2
                  go_ret2
                  exact ⟨rfl, BB.out⟩
            · have hr := OTH.out rfl rfl rfl (by decide)
              rw [if_neg (by decide)] at hr
              subst hr
              have ho := OKK.out rfl
              subst ho
              clear BAD OKK ZER OTH SAM SZ
              have BB := Lib.hid (Below.refl w.heap.size w)
              go_enter Tryz.func91, Tryz.ntmps91
              go_wp2_with fail
              refine (NA.out _).mono ?_
              rintro e' wq1 ⟨rfl, rfl⟩
              go_wp2_with fail
              refine (NB.out _).mono ?_
              rintro e' wq2 ⟨rfl, rfl⟩
              go_wp2_with fail
              refine (ZA.out _).mono ?_
              rintro e' wq3 ⟨rfl, rfl⟩
              go_wp2_with fail
              refine (ZB.out _).mono ?_
              rintro e' wq4 ⟨rfl, rfl⟩
              go_wp2_with fail
              refine (SA.out _).mono ?_
              rintro e' wq5 ⟨rfl, rfl⟩
              go_wp2_with fail
              refine (SB.out _).mono ?_
              rintro e' wq6 ⟨rfl, rfl⟩
              go_wp2_with fail
              refine (SA.out _).mono ?_
              rintro e' wq7 ⟨rfl, rfl⟩
              go_wp2
              go_ret2
              exact ⟨rfl, BB.out⟩
          · cases sb
            · have hr := OTH.out rfl rfl rfl (by decide)
              rw [if_pos rfl] at hr
              subst hr
              have ho := OKK.out rfl
              subst ho
              clear BAD OKK ZER OTH SAM SZ
              have BB := Lib.hid (Below.refl w.heap.size w)
              go_enter Tryz.func91, Tryz.ntmps91
              go_wp2_with fail
              refine (NA.out _).mono ?_
              rintro e' wq1 ⟨rfl, rfl⟩
              go_wp2_with fail
              refine (NB.out _).mono ?_
              rintro e' wq2 ⟨rfl, rfl⟩
              go_wp2_with fail
              refine (ZA.out _).mono ?_
              rintro e' wq3 ⟨rfl, rfl⟩
              go_wp2_with fail
              refine (ZB.out _).mono ?_
              rintro e' wq4 ⟨rfl, rfl⟩
              go_wp2_with fail
              refine (SA.out _).mono ?_
              rintro e' wq5 ⟨rfl, rfl⟩
              go_wp2_with fail
              refine (SB.out _).mono ?_
              rintro e' wq6 ⟨rfl, rfl⟩
              go_wp2_with fail
              refine (SA.out _).mono ?_
              rintro e' wq7 ⟨rfl, rfl⟩
              go_wp2
              go_ret2
              exact ⟨rfl, BB.out⟩
            · cases ia
              · cases ib
                · have ho := OKK.out rfl
                  subst ho
                  have hs := SAM.out rfl rfl rfl
                  have hz := SZ.out
                  rw [if_pos rfl] at hs
                  rw [if_neg (by decide)] at hz
                  rw [if_neg (by decide)] at hz
                  rw [← hz] at CE
                  have hbd : -1 ≤ sz ∧ sz ≤ 1 := by rw [hz]; unfold Nm.cmpN; split; omega; split <;> omega
                  have hb1 := hbd.1
                  have hb2 := hbd.2
                  subst hs
                  clear hz hbd
                  clear BAD OKK ZER OTH SAM SZ
                  have BB := Lib.hid (Below.refl w.heap.size w)
                  go_enter Tryz.func91, Tryz.ntmps91
                  go_wp2_with fail
                  refine (NA.out _).mono ?_
                  rintro e' wq1 ⟨rfl, rfl⟩
                  go_wp2_with fail
                  refine (NB.out _).mono ?_
                  rintro e' wq2 ⟨rfl, rfl⟩
                  go_wp2_with fail
                  refine (ZA.out _).mono ?_
                  rintro e' wq3 ⟨rfl, rfl⟩
                  go_wp2_with fail
                  refine (ZB.out _).mono ?_
                  rintro e' wq4 ⟨rfl, rfl⟩
                  go_wp2_with fail
                  refine (SA.out _).mono ?_
                  rintro e' wq5 ⟨rfl, rfl⟩
                  go_wp2_with fail
                  refine (SB.out _).mono ?_
                  rintro e' wq6 ⟨rfl, rfl⟩
                  go_wp2_with fail
                  refine (IA.out _).mono ?_
                  rintro e' wq7 ⟨rfl, rfl⟩
                  go_wp2_with fail
                  refine (IA.out _).mono ?_
                  rintro e' wq8 ⟨rfl, rfl⟩
                  go_wp2_with fail
                  refine (IB.out _).mono ?_
                  rintro e' wq9 ⟨rfl, rfl⟩
                  go_wp2_with fail
                  refine (HCL.out _).mono ?_
                  rintro e' wl ⟨v1, v2, rfl, hbig1, hbig2, hb⟩
                  have G1 := Lib.hid hbig1
                  have G2 := Lib.hid hbig2
                  have BB := Lib.hid (BB.out.trans (hb.mono BB.out.size))
                  clear hb hbig1 hbig2
                  go_wp2_with fail
                  refine (CE.out _ _ _ G1.out G2.out).mono ?_
                  rintro e' wm10 ⟨rfl, hb⟩
                  have G1 := Lib.hid (G1.out.below hb)
                  have G2 := Lib.hid (G2.out.below hb)
                  have BB := Lib.hid (BB.out.trans (hb.mono BB.out.size))
                  clear hb
                  go_wp2_with fail
                  refine (SA.out _).mono ?_
                  rintro e' wq11 ⟨rfl, rfl⟩
                  go_wp2
                  go_ret2
                  exact ⟨rfl, BB.out⟩
                · have ho := OKK.out rfl
                  subst ho
                  have hs := SAM.out rfl rfl rfl
                  have hz := SZ.out
                  rw [if_pos rfl] at hs
                  rw [if_neg (by decide)] at hz
                  rw [if_pos rfl] at hz
                  subst hz
                  subst hs
                  clear BAD OKK ZER OTH SAM SZ
                  have BB := Lib.hid (Below.refl w.heap.size w)
                  go_enter Tryz.func91, Tryz.ntmps91
                  go_wp2_with fail
                  refine (NA.out _).mono ?_
                  rintro e' wq1 ⟨rfl, rfl⟩
                  go_wp2_with fail
                  refine (NB.out _).mono ?_
                  rintro e' wq2 ⟨rfl, rfl⟩
                  go_wp2_with fail
                  refine (ZA.out _).mono ?_
                  rintro e' wq3 ⟨rfl, rfl⟩
                  go_wp2_with fail
                  refine (ZB.out _).mono ?_
                  rintro e' wq4 ⟨rfl, rfl⟩
                  go_wp2_with fail
                  refine (SA.out _).mono ?_
                  rintro e' wq5 ⟨rfl, rfl⟩
                  go_wp2_with fail
                  refine (SB.out _).mono ?_
                  rintro e' wq6 ⟨rfl, rfl⟩
                  go_wp2_with fail
                  refine (IA.out _).mono ?_
                  rintro e' wq7 ⟨rfl, rfl⟩
                  go_wp2_with fail
                  refine (IA.out _).mono ?_
                  rintro e' wq8 ⟨rfl, rfl⟩
                  go_wp2_with fail
                  refine (IB.out _).mono ?_
                  rintro e' wq9 ⟨rfl, rfl⟩
                  go_wp2_with fail
                  refine (SA.out _).mono ?_
                  rintro e' wq10 ⟨rfl, rfl⟩
                  go_wp2
                  go_ret2
                  exact ⟨rfl, BB.out⟩
              · cases ib
                · have ho := OKK.out rfl
                  subst ho
                  have hs := SAM.out rfl rfl rfl
                  have hz := SZ.out
                  rw [if_pos rfl] at hs
                  rw [if_pos rfl] at hz
                  rw [if_neg (by decide)] at hz
                  subst hz
                  subst hs
                  clear BAD OKK ZER OTH SAM SZ
                  have BB := Lib.hid (Below.refl w.heap.size w)
                  go_enter Tryz.func91, Tryz.ntmps91
                  go_wp2_with fail
                  refine (NA.out _).mono ?_
                  rintro e' wq1 ⟨rfl, rfl⟩
                  go_wp2_with fail
                  refine (NB.out _).mono ?_
                  rintro e' wq2 ⟨rfl, rfl⟩
                  go_wp2_with fail
                  refine (ZA.out _).mono ?_
                  rintro e' wq3 ⟨rfl, rfl⟩
                  go_wp2_with fail
                  refine (ZB.out _).mono ?_
                  rintro e' wq4 ⟨rfl, rfl⟩
                  go_wp2_with fail
                  refine (SA.out _).mono ?_
                  rintro e' wq5 ⟨rfl, rfl⟩
                  go_wp2_with fail
                  refine (SB.out _).mono ?_
                  rintro e' wq6 ⟨rfl, rfl⟩
                  go_wp2_with fail
                  refine (IA.out _).mono ?_
                  rintro e' wq7 ⟨rfl, rfl⟩
                  go_wp2_with fail
                  refine (IB.out _).mono ?_
                  rintro e' wq8 ⟨rfl, rfl⟩
                  go_wp2_with fail
                  refine (IA.out _).mono ?_
                  rintro e' wq9 ⟨rfl, rfl⟩
                  go_wp2_with fail
                  refine (SA.out _).mono ?_
                  rintro e' wq10 ⟨rfl, rfl⟩
                  go_wp2
                  go_ret2
                  exact ⟨rfl, BB.out⟩
                · have ho := OKK.out rfl
                  subst ho
                  have hs := SAM.out rfl rfl rfl
                  have hz := SZ.out
                  rw [if_pos rfl] at hs
                  rw [if_pos rfl] at hz
                  rw [if_pos rfl] at hz
                  subst hz
                  subst hs
                  clear BAD OKK ZER OTH SAM SZ
                  have BB := Lib.hid (Below.refl w.heap.size w)
                  go_enter Tryz.func91, Tryz.ntmps91
                  go_wp2_with fail
                  refine (NA.out _).mono ?_
                  rintro e' wq1 ⟨rfl, rfl⟩
                  go_wp2_with fail
                  refine (NB.out _).mono ?_
                  rintro e' wq2 ⟨rfl, rfl⟩
                  go_wp2_with fail
                  refine (ZA.out _).mono ?_
                  rintro e' wq3 ⟨rfl, rfl⟩
                  go_wp2_with fail
                  refine (ZB.out _).mono ?_
                  rintro e' wq4 ⟨rfl, rfl⟩
                  go_wp2_with fail
                  refine (SA.out _).mono ?_
                  rintro e' wq5 ⟨rfl, rfl⟩
                  go_wp2_with fail
                  refine (SB.out _).mono ?_
                  rintro e' wq6 ⟨rfl, rfl⟩
                  go_wp2_with fail
                  refine (IA.out _).mono ?_
                  rintro e' wq7 ⟨rfl, rfl⟩
                  go_wp2_with fail
                  refine (IB.out _).mono ?_
                  rintro e' wq8 ⟨rfl, rfl⟩
                  go_wp2_with fail
                  refine (SA.out _).mono ?_
                  rintro e' wq9 ⟨rfl, rfl⟩
                  go_wp2
                  go_ret2
                  exact ⟨rfl, BB.out⟩
        · have hr := ZER.out rfl
          subst hr
          have ho := OKK.out rfl
          subst ho
          clear BAD OKK ZER OTH SAM SZ
          have BB := Lib.hid (Below.refl w.heap.size w)
          go_enter Tryz.func91, Tryz.ntmps91
          go_wp2_with fail
          refine (NA.out _).mono ?_
          rintro e' wq1 ⟨rfl, rfl⟩
          go_wp2_with fail
          refine (NB.out _).mono ?_
          rintro e' wq2 ⟨rfl, rfl⟩
          go_wp2_with fail
          refine (ZA.out _).mono ?_
          rintro e' wq3 ⟨rfl, rfl⟩
          go_wp2_with fail
          refine (ZB.out _).mono ?_
          rintro e' wq4 ⟨rfl, rfl⟩
          go_wp2
          go_ret2
          exact ⟨rfl, BB.out⟩
    · obtain ⟨hr, ho⟩ := BAD.out rfl
      subst hr
      subst ho
      clear BAD OKK ZER OTH SAM SZ
      have BB := Lib.hid (Below.refl w.heap.size w)
      go_enter Tryz.func91, Tryz.ntmps91
      go_wp2_with fail
      refine (NA.out _).mono ?_
      rintro e' wq1 ⟨rfl, rfl⟩
      go_wp2_with fail
      refine (NB.out _).mono ?_
      rintro e' wq2 ⟨rfl, rfl⟩
      go_wp2
      go_ret2
      exact ⟨rfl, BB.out⟩
  · obtain ⟨hr, ho⟩ := BAD.out rfl
    subst hr
    subst ho
    clear BAD OKK ZER OTH SAM SZ
    have BB := Lib.hid (Below.refl w.heap.size w)
    go_enter Tryz.func91, Tryz.ntmps91
    go_wp2_with fail
    refine (NA.out _).mono ?_
    rintro e' wq1 ⟨rfl, rfl⟩
    go_wp2
    go_ret2
    exact ⟨rfl, BB.out⟩
end Go.Proofs.YtffohkpohgkglaaGreat
