/-
  WALKS of the document's own: sums.
-/
import Derived.Test.YtffohkpohgkglaaGreatRefA
namespace Go.Proofs.YtffohkpohgkglaaGreat
set_option linter.unusedVariables false
set_option linter.unusedSimpArgs false
open Go.RowKit
theorem minus_any (v1 v2 : Value) (x y : Nat) (w : World) (H1 : Big w v1 x) (H2 : Big w v2 y) (hx : (Nm.wds x).length ≤ 900000) (hyx : y ≤ x) : Calls Tryz.prog 96 #[v1, v2] w (BigPost w (x - y)) :=
  (minus_new v1 v2 x y w H1 H2 hx hyx).mono fun _ _ h => h.post
def LinePost (w : World) (x y : Nat) (e : Int) (en : Ending) (w' : World) : Prop := ∃ v1 v2, en = .returned (.tuple #[v1, v2, .int .i64 e]) ∧ Big w' v1 x ∧ Big w' v2 y ∧ Below w.heap.size w w'
theorem len_up (a : Nat) (k : Int) (h : k ≤ 2100) : (Nm.wds (Nm.up (Nm.mag a) k)).length ≤ 2200 := by
  unfold Nm.up
  exact Nat.le_trans (len_mul (len_mag a) (wds_pow _)) (by omega)
set_option maxHeartbeats 1000000 in
theorem line_any (a b : Nat) (ha : a < 2 ^ 64) (hb : b < 2 ^ 64) (w : World) : Calls Tryz.prog 93 #[.int .u64 (a : Int), .int .u64 (b : Int)] w (LinePost w (Nm.up (Nm.mag a) (Nm.plc a - min (Nm.plc a) (Nm.plc b))) (Nm.up (Nm.mag b) (Nm.plc b - min (Nm.plc a) (Nm.plc b))) (min (Nm.plc a) (Nm.plc b))) := by
  obtain ⟨ma, hma⟩ : ∃ x, Nm.mag a = x := ⟨_, rfl⟩
  obtain ⟨mb, hmb⟩ : ∃ x, Nm.mag b = x := ⟨_, rfl⟩
  obtain ⟨pa, hpa⟩ : ∃ x, Nm.plc a = x := ⟨_, rfl⟩
  obtain ⟨pb, hpb⟩ : ∃ x, Nm.plc b = x := ⟨_, rfl⟩
  have OA : Hid (∀ w, Calls Tryz.prog 73 #[.int .u64 (a : Nat)] w fun e w' => e = .returned (.tuple #[.int .u64 (ma : Nat), .int .i64 pa]) ∧ w' = w) := Lib.hid (by rw [← hma, ← hpa]; exact fun w => open_any a ha w)
  have OB : Hid (∀ w, Calls Tryz.prog 73 #[.int .u64 (b : Nat)] w fun e w' => e = .returned (.tuple #[.int .u64 (mb : Nat), .int .i64 pb]) ∧ w' = w) := Lib.hid (by rw [← hmb, ← hpb]; exact fun w => open_any b hb w)
  have lma : ma < 2 ^ 64 := by rw [← hma]; exact Nat.lt_trans (Nm.mag_lt a) (by decide)
  have lmb : mb < 2 ^ 64 := by rw [← hmb]; exact Nat.lt_trans (Nm.mag_lt b) (by decide)
  have wma : (Nm.wds ma).length ≤ 2 := by rw [← hma]; exact len_mag a
  have wmb : (Nm.wds mb).length ≤ 2 := by rw [← hmb]; exact len_mag b
  have pa1 : -1074 ≤ pa := by rw [← hpa]; exact Nm.plc_ge a
  have pa2 : pa ≤ 972 := by rw [← hpa]; exact plc_le a
  have pb1 : -1074 ≤ pb := by rw [← hpb]; exact Nm.plc_ge b
  have pb2 : pb ≤ 972 := by rw [← hpb]; exact plc_le b
  rw [hma, hmb, hpa, hpb]
  clear hma hmb hpa hpb ha hb
  obtain ⟨e, he⟩ : ∃ e, min pa pb = e := ⟨_, rfl⟩
  have hm1 : (if pa < pb then pa else pb) = e := by rw [← he]; split <;> omega
  have hm2 : (if pb < pa then pb else pa) = e := by rw [← he]; split <;> omega
  obtain ⟨j, hj⟩ : ∃ j : Nat, pa - e = (j : Int) := ⟨(pa - e).toNat, by omega⟩
  obtain ⟨k, hk⟩ : ∃ j : Nat, pb - e = (j : Int) := ⟨(pb - e).toNat, by omega⟩
  have hj2 : j ≤ 2100 := by omega
  have hk2 : k ≤ 2100 := by omega
  have he2 : -1074 ≤ e := by omega
  have he3 : e ≤ 972 := by omega
  unfold Nm.up
  rw [he, hj, hk, Int.toNat_natCast, Int.toNat_natCast]
  clear he
  have BB := Lib.hid (Below.refl w.heap.size w)
  go_enter Tryz.func93, Tryz.ntmps93
  go_wp2_with fail
  refine (OA.out _).mono ?_
  rintro e' wq1 ⟨rfl, rfl⟩
  go_wp2_with fail
  refine (OB.out _).mono ?_
  rintro e' wq2 ⟨rfl, rfl⟩
  go_wp2_with fail
  refine (from_any ma lma _).mono ?_
  rintro e' wb3 ⟨vG1, rfl, hbig, hb⟩
  have BB := Lib.hid (BB.out.trans (hb.mono BB.out.size))
  clear hb
  have G1 := Lib.hid hbig
  clear hbig
  go_wp2_with fail
  refine (up_any _ ma j _ G1.out (by omega) (by omega)).mono ?_
  rintro e' wb4 ⟨vG2, rfl, hbig, hb⟩
  have G1 := Lib.hid (G1.out.below hb)
  have BB := Lib.hid (BB.out.trans (hb.mono BB.out.size))
  clear hb
  have G2 := Lib.hid hbig
  clear hbig
  go_wp2_with fail
  refine (from_any mb lmb _).mono ?_
  rintro e' wb5 ⟨vG3, rfl, hbig, hb⟩
  have G1 := Lib.hid (G1.out.below hb)
  have G2 := Lib.hid (G2.out.below hb)
  have BB := Lib.hid (BB.out.trans (hb.mono BB.out.size))
  clear hb
  have G3 := Lib.hid hbig
  clear hbig
  go_wp2_with fail
  refine (up_any _ mb k _ G3.out (by omega) (by omega)).mono ?_
  rintro e' wb6 ⟨vG4, rfl, hbig, hb⟩
  have G1 := Lib.hid (G1.out.below hb)
  have G2 := Lib.hid (G2.out.below hb)
  have G3 := Lib.hid (G3.out.below hb)
  have BB := Lib.hid (BB.out.trans (hb.mono BB.out.size))
  clear hb
  have G4 := Lib.hid hbig
  clear hbig
  go_wp2
  go_ret3
  exact ⟨_, _, rfl, G2.out, G4.out, BB.out⟩
set_option maxRecDepth 100000 in
set_option maxHeartbeats 4000000 in
theorem radd_any (a b : Nat) (ha : a < 2 ^ 64) (hb : b < 2 ^ 64) (w : World) : Calls Tryz.prog 54 #[.int .u64 (a : Int), .int .u64 (b : Int)] w (Gives w (.int .u64 (Nm.dAdd a b : Nat))) := by
  obtain ⟨R, hR⟩ : ∃ R, Nm.dAdd a b = R := ⟨_, rfl⟩
  rw [hR]
  obtain ⟨na, hna⟩ : ∃ x, Nm.isNaN a = x := ⟨_, rfl⟩
  obtain ⟨nb, hnb⟩ : ∃ x, Nm.isNaN b = x := ⟨_, rfl⟩
  obtain ⟨ia, hia⟩ : ∃ x, Nm.isInf a = x := ⟨_, rfl⟩
  obtain ⟨ib, hib⟩ : ∃ x, Nm.isInf b = x := ⟨_, rfl⟩
  obtain ⟨za, hza⟩ : ∃ x, Nm.nought a = x := ⟨_, rfl⟩
  obtain ⟨zb, hzb⟩ : ∃ x, Nm.nought b = x := ⟨_, rfl⟩
  obtain ⟨sa, hsa⟩ : ∃ x, Nm.neg a = x := ⟨_, rfl⟩
  obtain ⟨sb, hsb⟩ : ∃ x, Nm.neg b = x := ⟨_, rfl⟩
  have NA : Hid (∀ w, Calls Tryz.prog 50 #[.int .u64 (a : Nat)] w fun e w' => e = .returned (.bool na) ∧ w' = w) := Lib.hid (by rw [← hna]; exact fun w => rnan_any a ha w)
  have NB : Hid (∀ w, Calls Tryz.prog 50 #[.int .u64 (b : Nat)] w fun e w' => e = .returned (.bool nb) ∧ w' = w) := Lib.hid (by rw [← hnb]; exact fun w => rnan_any b hb w)
  have IA : Hid (∀ w, Calls Tryz.prog 72 #[.int .u64 (a : Nat)] w fun e w' => e = .returned (.bool ia) ∧ w' = w) := Lib.hid (by rw [← hia]; exact fun w => rinf_any a ha w)
  have IB : Hid (∀ w, Calls Tryz.prog 72 #[.int .u64 (b : Nat)] w fun e w' => e = .returned (.bool ib) ∧ w' = w) := Lib.hid (by rw [← hib]; exact fun w => rinf_any b hb w)
  have ZA : Hid (∀ w, Calls Tryz.prog 69 #[.int .u64 (a : Nat)] w fun e w' => e = .returned (.bool za) ∧ w' = w) := Lib.hid (by rw [← hza]; exact fun w => rzero_any a ha w)
  have ZB : Hid (∀ w, Calls Tryz.prog 69 #[.int .u64 (b : Nat)] w fun e w' => e = .returned (.bool zb) ∧ w' = w) := Lib.hid (by rw [← hzb]; exact fun w => rzero_any b hb w)
  have SA : Hid (∀ w, Calls Tryz.prog 71 #[.int .u64 (a : Nat)] w fun e w' => e = .returned (.bool sa) ∧ w' = w) := Lib.hid (by rw [← hsa]; exact fun w => rsign_any a ha w)
  have SB : Hid (∀ w, Calls Tryz.prog 71 #[.int .u64 (b : Nat)] w fun e w' => e = .returned (.bool sb) ∧ w' = w) := Lib.hid (by rw [← hsb]; exact fun w => rsign_any b hb w)
  obtain ⟨ma, hma⟩ : ∃ x, Nm.mag a = x := ⟨_, rfl⟩
  obtain ⟨mb, hmb⟩ : ∃ x, Nm.mag b = x := ⟨_, rfl⟩
  obtain ⟨pa, hpa⟩ : ∃ x, Nm.plc a = x := ⟨_, rfl⟩
  obtain ⟨pb, hpb⟩ : ∃ x, Nm.plc b = x := ⟨_, rfl⟩
  have OA : Hid (∀ w, Calls Tryz.prog 73 #[.int .u64 (a : Nat)] w fun e w' => e = .returned (.tuple #[.int .u64 (ma : Nat), .int .i64 pa]) ∧ w' = w) := Lib.hid (by rw [← hma, ← hpa]; exact fun w => open_any a ha w)
  have OB : Hid (∀ w, Calls Tryz.prog 73 #[.int .u64 (b : Nat)] w fun e w' => e = .returned (.tuple #[.int .u64 (mb : Nat), .int .i64 pb]) ∧ w' = w) := Lib.hid (by rw [← hmb, ← hpb]; exact fun w => open_any b hb w)
  have lma : ma < 2 ^ 64 := by rw [← hma]; exact Nat.lt_trans (Nm.mag_lt a) (by decide)
  have lmb : mb < 2 ^ 64 := by rw [← hmb]; exact Nat.lt_trans (Nm.mag_lt b) (by decide)
  have wma : (Nm.wds ma).length ≤ 2 := by rw [← hma]; exact len_mag a
  have wmb : (Nm.wds mb).length ≤ 2 := by rw [← hmb]; exact len_mag b
  have pa1 : -1074 ≤ pa := by rw [← hpa]; exact Nm.plc_ge a
  have pa2 : pa ≤ 972 := by rw [← hpa]; exact plc_le a
  have pb1 : -1074 ≤ pb := by rw [← hpb]; exact Nm.plc_ge b
  have pb2 : pb ≤ 972 := by rw [← hpb]; exact plc_le b
  have lx : (Nm.wds (Nm.up ma (pa - min pa pb))).length ≤ 2200 := by rw [← hma]; exact len_up a _ (by omega)
  have ly : (Nm.wds (Nm.up mb (pb - min pa pb))).length ≤ 2200 := by rw [← hmb]; exact len_up b _ (by omega)
  have CL := fun w => line_any a b ha hb w
  rw [hma, hmb, hpa, hpb] at CL
  obtain ⟨ne, hne⟩ : ∃ x, (a != b) = x := ⟨_, rfl⟩
  have e1 : (((a : Nat) : Int) != ((b : Nat) : Int)) = ne := by rw [← hne, Bool.eq_iff_iff]; simp; omega
  obtain ⟨e, he⟩ : ∃ e, min pa pb = e := ⟨_, rfl⟩
  have he2 : -1074 ≤ e := by omega
  have he3 : e ≤ 972 := by omega
  obtain ⟨x, hx⟩ : ∃ x, Nm.up ma (pa - min pa pb) = x := ⟨_, rfl⟩
  obtain ⟨y, hy⟩ : ∃ x, Nm.up mb (pb - min pa pb) = x := ⟨_, rfl⟩
  have BAD := Lib.hid (show (na || nb || ia && ib && ne) = true → Nm.nan = R from fun h => by
    rw [← hR]; unfold Nm.dAdd; rw [hna, hnb, hia, hib, hne, h]; simp only [if_true])
  have INA := Lib.hid (show (na || nb || ia && ib && ne) = false → ia = true → a = R from fun h h2 => by
    rw [← hR]; unfold Nm.dAdd; rw [hna, hnb, hia, hib, hne, h, h2]; simp only [Bool.false_eq_true, if_false, if_true])
  have INB := Lib.hid (show (na || nb || ia && ib && ne) = false → ia = false → ib = true → b = R from fun h h2 h3 => by
    rw [← hR]; unfold Nm.dAdd; rw [hna, hnb, hia, hib, hne, h, h2, h3]; simp only [Bool.false_eq_true, if_false, if_true])
  have FIN := Lib.hid (show (na || nb || ia && ib && ne) = false → ia = false → ib = false → (if sa = sb then Nm.round sa (x + y) e false else if x = y then 0 else if y < x then Nm.round sa (x - y) e false else Nm.round sb (y - x) e false) = R from fun h h2 h3 => by
    rw [← hR]; unfold Nm.dAdd; simp only []; rw [hna, hnb, hia, hib, hne, hsa, hsb, h, h2, h3]; simp only [Bool.false_eq_true, if_false]; rw [hma, hmb, hpa, hpb, hx, hy, he])
  rw [hx, hy, he] at CL
  rw [hx] at lx
  rw [hy] at ly
  have HCL := Lib.hid CL
  have CP := Lib.hid (fun v1 v2 w H1 H2 => plus_any v1 v2 x y w H1 H2 (by omega) (by omega))
  have CE := Lib.hid (fun v1 v2 w H1 H2 => less_any v1 v2 x y w H1 H2)
  have lsum : (Nm.wds (x + y)).length ≤ 2201 := wds_sum lx ly
  clear hR hna hnb hia hib hza hzb hsa hsb ha hb hx hy he hma hmb hpa hpb hne CL ZA ZB OA OB lma lmb wma wmb
  cases na
  · cases nb
    · cases ia
      · cases ib
        · cases sa
          · cases sb
            · have hF := FIN.out rfl rfl rfl
              rw [if_pos rfl] at hF
              have CR := Lib.hid (fun v w H => round_any false false v (x + y) e w H (by omega) (by omega) (by omega))
              rw [hF] at CR
              clear BAD INA INB FIN hF
              have BB := Lib.hid (Below.refl w.heap.size w)
              go_enter Tryz.func54, Tryz.ntmps54
              go_wp2_with fail
              refine (NA.out _).mono ?_
              rintro e' wq1 ⟨rfl, rfl⟩
              go_wp2_with fail
              refine (NB.out _).mono ?_
              rintro e' wq2 ⟨rfl, rfl⟩
              go_wp2_with fail
              refine (IA.out _).mono ?_
              rintro e' wq3 ⟨rfl, rfl⟩
              go_wp2_with fail
              refine (IA.out _).mono ?_
              rintro e' wq4 ⟨rfl, rfl⟩
              go_wp2_with fail
              refine (IB.out _).mono ?_
              rintro e' wq5 ⟨rfl, rfl⟩
              go_wp2_with fail
              refine (HCL.out _).mono ?_
              rintro e' wl ⟨v1, v2, rfl, hbig1, hbig2, hb⟩
              have G1 := Lib.hid hbig1
              have G2 := Lib.hid hbig2
              have BB := Lib.hid (BB.out.trans (hb.mono BB.out.size))
              clear hb hbig1 hbig2
              go_wp2_with fail
              refine (SA.out _).mono ?_
              rintro e' wq6 ⟨rfl, rfl⟩
              go_wp2_with fail
              refine (SB.out _).mono ?_
              rintro e' wq7 ⟨rfl, rfl⟩
              go_wp2_with fail
              refine (SA.out _).mono ?_
              rintro e' wq8 ⟨rfl, rfl⟩
              go_wp2_with fail
              refine (CP.out _ _ _ G1.out G2.out).mono ?_
              rintro e' wb9 ⟨vG3, rfl, hbig, hb⟩
              have G1 := Lib.hid (G1.out.below hb)
              have G2 := Lib.hid (G2.out.below hb)
              have BB := Lib.hid (BB.out.trans (hb.mono BB.out.size))
              clear hb
              have G3 := Lib.hid hbig
              clear hbig
              go_wp2_with fail
              refine (CR.out _ _ G3.out).mono ?_
              rintro e' wm10 ⟨rfl, hb⟩
              have G1 := Lib.hid (G1.out.below hb)
              have G2 := Lib.hid (G2.out.below hb)
              have G3 := Lib.hid (G3.out.below hb)
              have BB := Lib.hid (BB.out.trans (hb.mono BB.out.size))
              clear hb
              go_wp2
              go_ret
              exact ⟨rfl, BB.out⟩
            · have hF := FIN.out rfl rfl rfl
              rw [if_neg (by decide)] at hF
              clear BAD INA INB FIN
              rcases Nat.lt_trichotomy x y with h | h | h
              · rw [if_neg (by omega), if_neg (by omega)] at hF
                have hc : Nm.cmpN x y = -1 := by unfold Nm.cmpN; rw [if_pos h]
                rw [hc] at CE
                have CM := Lib.hid (fun v1 v2 w H1 H2 => minus_any v1 v2 y x w H1 H2 (by omega) (by omega))
                have CR := Lib.hid (fun v w H => round_any true false v (y - x) e w H (Nat.le_trans (Nm.wds_mono (Nat.sub_le _ _)) (by omega)) (by omega) (by omega))
                rw [hF] at CR
                clear hc hF h
                have BB := Lib.hid (Below.refl w.heap.size w)
                go_enter Tryz.func54, Tryz.ntmps54
                go_wp2_with fail
                refine (NA.out _).mono ?_
                rintro e' wq1 ⟨rfl, rfl⟩
                go_wp2_with fail
                refine (NB.out _).mono ?_
                rintro e' wq2 ⟨rfl, rfl⟩
                go_wp2_with fail
                refine (IA.out _).mono ?_
                rintro e' wq3 ⟨rfl, rfl⟩
                go_wp2_with fail
                refine (IA.out _).mono ?_
                rintro e' wq4 ⟨rfl, rfl⟩
                go_wp2_with fail
                refine (IB.out _).mono ?_
                rintro e' wq5 ⟨rfl, rfl⟩
                go_wp2_with fail
                refine (HCL.out _).mono ?_
                rintro e' wl ⟨v1, v2, rfl, hbig1, hbig2, hb⟩
                have G1 := Lib.hid hbig1
                have G2 := Lib.hid hbig2
                have BB := Lib.hid (BB.out.trans (hb.mono BB.out.size))
                clear hb hbig1 hbig2
                go_wp2_with fail
                refine (SA.out _).mono ?_
                rintro e' wq6 ⟨rfl, rfl⟩
                go_wp2_with fail
                refine (SB.out _).mono ?_
                rintro e' wq7 ⟨rfl, rfl⟩
                go_wp2_with fail
                refine (CE.out _ _ _ G1.out G2.out).mono ?_
                rintro e' wm8 ⟨rfl, hb⟩
                have G1 := Lib.hid (G1.out.below hb)
                have G2 := Lib.hid (G2.out.below hb)
                have BB := Lib.hid (BB.out.trans (hb.mono BB.out.size))
                clear hb
                go_wp2_with fail
                refine (SB.out _).mono ?_
                rintro e' wq9 ⟨rfl, rfl⟩
                go_wp2_with fail
                refine (CM.out _ _ _ G2.out G1.out).mono ?_
                rintro e' wb10 ⟨vG3, rfl, hbig, hb⟩
                have G1 := Lib.hid (G1.out.below hb)
                have G2 := Lib.hid (G2.out.below hb)
                have BB := Lib.hid (BB.out.trans (hb.mono BB.out.size))
                clear hb
                have G3 := Lib.hid hbig
                clear hbig
                go_wp2_with fail
                refine (CR.out _ _ G3.out).mono ?_
                rintro e' wm11 ⟨rfl, hb⟩
                have G1 := Lib.hid (G1.out.below hb)
                have G2 := Lib.hid (G2.out.below hb)
                have G3 := Lib.hid (G3.out.below hb)
                have BB := Lib.hid (BB.out.trans (hb.mono BB.out.size))
                clear hb
                go_wp2
                go_ret
                exact ⟨rfl, BB.out⟩
              · rw [if_pos h] at hF
                obtain rfl : 0 = R := hF
                have hc : Nm.cmpN x y = 0 := by unfold Nm.cmpN; rw [if_neg (by omega), if_neg (by omega)]
                rw [hc] at CE
                clear hc h
                have BB := Lib.hid (Below.refl w.heap.size w)
                go_enter Tryz.func54, Tryz.ntmps54
                go_wp2_with fail
                refine (NA.out _).mono ?_
                rintro e' wq1 ⟨rfl, rfl⟩
                go_wp2_with fail
                refine (NB.out _).mono ?_
                rintro e' wq2 ⟨rfl, rfl⟩
                go_wp2_with fail
                refine (IA.out _).mono ?_
                rintro e' wq3 ⟨rfl, rfl⟩
                go_wp2_with fail
                refine (IA.out _).mono ?_
                rintro e' wq4 ⟨rfl, rfl⟩
                go_wp2_with fail
                refine (IB.out _).mono ?_
                rintro e' wq5 ⟨rfl, rfl⟩
                go_wp2_with fail
                refine (HCL.out _).mono ?_
                rintro e' wl ⟨v1, v2, rfl, hbig1, hbig2, hb⟩
                have G1 := Lib.hid hbig1
                have G2 := Lib.hid hbig2
                have BB := Lib.hid (BB.out.trans (hb.mono BB.out.size))
                clear hb hbig1 hbig2
                go_wp2_with fail
                refine (SA.out _).mono ?_
                rintro e' wq6 ⟨rfl, rfl⟩
                go_wp2_with fail
                refine (SB.out _).mono ?_
                rintro e' wq7 ⟨rfl, rfl⟩
                go_wp2_with fail
                refine (CE.out _ _ _ G1.out G2.out).mono ?_
                rintro e' wm8 ⟨rfl, hb⟩
                have G1 := Lib.hid (G1.out.below hb)
                have G2 := Lib.hid (G2.out.below hb)
                have BB := Lib.hid (BB.out.trans (hb.mono BB.out.size))
                clear hb
                go_wp2
                go_ret
                exact ⟨rfl, BB.out⟩
              · rw [if_neg (by omega), if_pos h] at hF
                have hc : Nm.cmpN x y = 1 := by unfold Nm.cmpN; rw [if_neg (by omega), if_pos h]
                rw [hc] at CE
                have CM := Lib.hid (fun v1 v2 w H1 H2 => minus_any v1 v2 x y w H1 H2 (by omega) (by omega))
                have CR := Lib.hid (fun v w H => round_any false false v (x - y) e w H (Nat.le_trans (Nm.wds_mono (Nat.sub_le _ _)) (by omega)) (by omega) (by omega))
                rw [hF] at CR
                clear hc hF h
                have BB := Lib.hid (Below.refl w.heap.size w)
                go_enter Tryz.func54, Tryz.ntmps54
                go_wp2_with fail
                refine (NA.out _).mono ?_
                rintro e' wq1 ⟨rfl, rfl⟩
                go_wp2_with fail
                refine (NB.out _).mono ?_
                rintro e' wq2 ⟨rfl, rfl⟩
                go_wp2_with fail
                refine (IA.out _).mono ?_
                rintro e' wq3 ⟨rfl, rfl⟩
                go_wp2_with fail
                refine (IA.out _).mono ?_
                rintro e' wq4 ⟨rfl, rfl⟩
                go_wp2_with fail
                refine (IB.out _).mono ?_
                rintro e' wq5 ⟨rfl, rfl⟩
                go_wp2_with fail
                refine (HCL.out _).mono ?_
                rintro e' wl ⟨v1, v2, rfl, hbig1, hbig2, hb⟩
                have G1 := Lib.hid hbig1
                have G2 := Lib.hid hbig2
                have BB := Lib.hid (BB.out.trans (hb.mono BB.out.size))
                clear hb hbig1 hbig2
                go_wp2_with fail
                refine (SA.out _).mono ?_
                rintro e' wq6 ⟨rfl, rfl⟩
                go_wp2_with fail
                refine (SB.out _).mono ?_
                rintro e' wq7 ⟨rfl, rfl⟩
                go_wp2_with fail
                refine (CE.out _ _ _ G1.out G2.out).mono ?_
                rintro e' wm8 ⟨rfl, hb⟩
                have G1 := Lib.hid (G1.out.below hb)
                have G2 := Lib.hid (G2.out.below hb)
                have BB := Lib.hid (BB.out.trans (hb.mono BB.out.size))
                clear hb
                go_wp2_with fail
                refine (SA.out _).mono ?_
                rintro e' wq9 ⟨rfl, rfl⟩
                go_wp2_with fail
                refine (CM.out _ _ _ G1.out G2.out).mono ?_
                rintro e' wb10 ⟨vG3, rfl, hbig, hb⟩
                have G1 := Lib.hid (G1.out.below hb)
                have G2 := Lib.hid (G2.out.below hb)
                have BB := Lib.hid (BB.out.trans (hb.mono BB.out.size))
                clear hb
                have G3 := Lib.hid hbig
                clear hbig
                go_wp2_with fail
                refine (CR.out _ _ G3.out).mono ?_
                rintro e' wm11 ⟨rfl, hb⟩
                have G1 := Lib.hid (G1.out.below hb)
                have G2 := Lib.hid (G2.out.below hb)
                have G3 := Lib.hid (G3.out.below hb)
                have BB := Lib.hid (BB.out.trans (hb.mono BB.out.size))
                clear hb
                go_wp2
                go_ret
                exact ⟨rfl, BB.out⟩
          · cases sb
            · have hF := FIN.out rfl rfl rfl
              rw [if_neg (by decide)] at hF
              clear BAD INA INB FIN
              rcases Nat.lt_trichotomy x y with h | h | h
              · rw [if_neg (by omega), if_neg (by omega)] at hF
                have hc : Nm.cmpN x y = -1 := by unfold Nm.cmpN; rw [if_pos h]
                rw [hc] at CE
                have CM := Lib.hid (fun v1 v2 w H1 H2 => minus_any v1 v2 y x w H1 H2 (by omega) (by omega))
                have CR := Lib.hid (fun v w H => round_any false false v (y - x) e w H (Nat.le_trans (Nm.wds_mono (Nat.sub_le _ _)) (by omega)) (by omega) (by omega))
                rw [hF] at CR
                clear hc hF h
                have BB := Lib.hid (Below.refl w.heap.size w)
                go_enter Tryz.func54, Tryz.ntmps54
                go_wp2_with fail
                refine (NA.out _).mono ?_
                rintro e' wq1 ⟨rfl, rfl⟩
                go_wp2_with fail
                refine (NB.out _).mono ?_
                rintro e' wq2 ⟨rfl, rfl⟩
                go_wp2_with fail
                refine (IA.out _).mono ?_
                rintro e' wq3 ⟨rfl, rfl⟩
                go_wp2_with fail
                refine (IA.out _).mono ?_
                rintro e' wq4 ⟨rfl, rfl⟩
                go_wp2_with fail
                refine (IB.out _).mono ?_
                rintro e' wq5 ⟨rfl, rfl⟩
                go_wp2_with fail
                refine (HCL.out _).mono ?_
                rintro e' wl ⟨v1, v2, rfl, hbig1, hbig2, hb⟩
                have G1 := Lib.hid hbig1
                have G2 := Lib.hid hbig2
                have BB := Lib.hid (BB.out.trans (hb.mono BB.out.size))
                clear hb hbig1 hbig2
                go_wp2_with fail
                refine (SA.out _).mono ?_
                rintro e' wq6 ⟨rfl, rfl⟩
                go_wp2_with fail
                refine (SB.out _).mono ?_
                rintro e' wq7 ⟨rfl, rfl⟩
                go_wp2_with fail
                refine (CE.out _ _ _ G1.out G2.out).mono ?_
                rintro e' wm8 ⟨rfl, hb⟩
                have G1 := Lib.hid (G1.out.below hb)
                have G2 := Lib.hid (G2.out.below hb)
                have BB := Lib.hid (BB.out.trans (hb.mono BB.out.size))
                clear hb
                go_wp2_with fail
                refine (SB.out _).mono ?_
                rintro e' wq9 ⟨rfl, rfl⟩
                go_wp2_with fail
                refine (CM.out _ _ _ G2.out G1.out).mono ?_
                rintro e' wb10 ⟨vG3, rfl, hbig, hb⟩
                have G1 := Lib.hid (G1.out.below hb)
                have G2 := Lib.hid (G2.out.below hb)
                have BB := Lib.hid (BB.out.trans (hb.mono BB.out.size))
                clear hb
                have G3 := Lib.hid hbig
                clear hbig
                go_wp2_with fail
                refine (CR.out _ _ G3.out).mono ?_
                rintro e' wm11 ⟨rfl, hb⟩
                have G1 := Lib.hid (G1.out.below hb)
                have G2 := Lib.hid (G2.out.below hb)
                have G3 := Lib.hid (G3.out.below hb)
                have BB := Lib.hid (BB.out.trans (hb.mono BB.out.size))
                clear hb
                go_wp2
                go_ret
                exact ⟨rfl, BB.out⟩
              · rw [if_pos h] at hF
                obtain rfl : 0 = R := hF
                have hc : Nm.cmpN x y = 0 := by unfold Nm.cmpN; rw [if_neg (by omega), if_neg (by omega)]
                rw [hc] at CE
                clear hc h
                have BB := Lib.hid (Below.refl w.heap.size w)
                go_enter Tryz.func54, Tryz.ntmps54
                go_wp2_with fail
                refine (NA.out _).mono ?_
                rintro e' wq1 ⟨rfl, rfl⟩
                go_wp2_with fail
                refine (NB.out _).mono ?_
                rintro e' wq2 ⟨rfl, rfl⟩
                go_wp2_with fail
                refine (IA.out _).mono ?_
                rintro e' wq3 ⟨rfl, rfl⟩
                go_wp2_with fail
                refine (IA.out _).mono ?_
                rintro e' wq4 ⟨rfl, rfl⟩
                go_wp2_with fail
                refine (IB.out _).mono ?_
                rintro e' wq5 ⟨rfl, rfl⟩
                go_wp2_with fail
                refine (HCL.out _).mono ?_
                rintro e' wl ⟨v1, v2, rfl, hbig1, hbig2, hb⟩
                have G1 := Lib.hid hbig1
                have G2 := Lib.hid hbig2
                have BB := Lib.hid (BB.out.trans (hb.mono BB.out.size))
                clear hb hbig1 hbig2
                go_wp2_with fail
                refine (SA.out _).mono ?_
                rintro e' wq6 ⟨rfl, rfl⟩
                go_wp2_with fail
                refine (SB.out _).mono ?_
                rintro e' wq7 ⟨rfl, rfl⟩
                go_wp2_with fail
                refine (CE.out _ _ _ G1.out G2.out).mono ?_
                rintro e' wm8 ⟨rfl, hb⟩
                have G1 := Lib.hid (G1.out.below hb)
                have G2 := Lib.hid (G2.out.below hb)
                have BB := Lib.hid (BB.out.trans (hb.mono BB.out.size))
                clear hb
                go_wp2
                go_ret
                exact ⟨rfl, BB.out⟩
              · rw [if_neg (by omega), if_pos h] at hF
                have hc : Nm.cmpN x y = 1 := by unfold Nm.cmpN; rw [if_neg (by omega), if_pos h]
                rw [hc] at CE
                have CM := Lib.hid (fun v1 v2 w H1 H2 => minus_any v1 v2 x y w H1 H2 (by omega) (by omega))
                have CR := Lib.hid (fun v w H => round_any true false v (x - y) e w H (Nat.le_trans (Nm.wds_mono (Nat.sub_le _ _)) (by omega)) (by omega) (by omega))
                rw [hF] at CR
                clear hc hF h
                have BB := Lib.hid (Below.refl w.heap.size w)
                go_enter Tryz.func54, Tryz.ntmps54
                go_wp2_with fail
                refine (NA.out _).mono ?_
                rintro e' wq1 ⟨rfl, rfl⟩
                go_wp2_with fail
                refine (NB.out _).mono ?_
                rintro e' wq2 ⟨rfl, rfl⟩
                go_wp2_with fail
                refine (IA.out _).mono ?_
                rintro e' wq3 ⟨rfl, rfl⟩
                go_wp2_with fail
                refine (IA.out _).mono ?_
                rintro e' wq4 ⟨rfl, rfl⟩
                go_wp2_with fail
                refine (IB.out _).mono ?_
                rintro e' wq5 ⟨rfl, rfl⟩
                go_wp2_with fail
                refine (HCL.out _).mono ?_
                rintro e' wl ⟨v1, v2, rfl, hbig1, hbig2, hb⟩
                have G1 := Lib.hid hbig1
                have G2 := Lib.hid hbig2
                have BB := Lib.hid (BB.out.trans (hb.mono BB.out.size))
                clear hb hbig1 hbig2
                go_wp2_with fail
                refine (SA.out _).mono ?_
                rintro e' wq6 ⟨rfl, rfl⟩
                go_wp2_with fail
                refine (SB.out _).mono ?_
                rintro e' wq7 ⟨rfl, rfl⟩
                go_wp2_with fail
                refine (CE.out _ _ _ G1.out G2.out).mono ?_
                rintro e' wm8 ⟨rfl, hb⟩
                have G1 := Lib.hid (G1.out.below hb)
                have G2 := Lib.hid (G2.out.below hb)
                have BB := Lib.hid (BB.out.trans (hb.mono BB.out.size))
                clear hb
                go_wp2_with fail
                refine (SA.out _).mono ?_
                rintro e' wq9 ⟨rfl, rfl⟩
                go_wp2_with fail
                refine (CM.out _ _ _ G1.out G2.out).mono ?_
                rintro e' wb10 ⟨vG3, rfl, hbig, hb⟩
                have G1 := Lib.hid (G1.out.below hb)
                have G2 := Lib.hid (G2.out.below hb)
                have BB := Lib.hid (BB.out.trans (hb.mono BB.out.size))
                clear hb
                have G3 := Lib.hid hbig
                clear hbig
                go_wp2_with fail
                refine (CR.out _ _ G3.out).mono ?_
                rintro e' wm11 ⟨rfl, hb⟩
                have G1 := Lib.hid (G1.out.below hb)
                have G2 := Lib.hid (G2.out.below hb)
                have G3 := Lib.hid (G3.out.below hb)
                have BB := Lib.hid (BB.out.trans (hb.mono BB.out.size))
                clear hb
                go_wp2
                go_ret
                exact ⟨rfl, BB.out⟩
            · have hF := FIN.out rfl rfl rfl
              rw [if_pos rfl] at hF
              have CR := Lib.hid (fun v w H => round_any true false v (x + y) e w H (by omega) (by omega) (by omega))
              rw [hF] at CR
              clear BAD INA INB FIN hF
              have BB := Lib.hid (Below.refl w.heap.size w)
              go_enter Tryz.func54, Tryz.ntmps54
              go_wp2_with fail
              refine (NA.out _).mono ?_
              rintro e' wq1 ⟨rfl, rfl⟩
              go_wp2_with fail
              refine (NB.out _).mono ?_
              rintro e' wq2 ⟨rfl, rfl⟩
              go_wp2_with fail
              refine (IA.out _).mono ?_
              rintro e' wq3 ⟨rfl, rfl⟩
              go_wp2_with fail
              refine (IA.out _).mono ?_
              rintro e' wq4 ⟨rfl, rfl⟩
              go_wp2_with fail
              refine (IB.out _).mono ?_
              rintro e' wq5 ⟨rfl, rfl⟩
              go_wp2_with fail
              refine (HCL.out _).mono ?_
              rintro e' wl ⟨v1, v2, rfl, hbig1, hbig2, hb⟩
              have G1 := Lib.hid hbig1
              have G2 := Lib.hid hbig2
              have BB := Lib.hid (BB.out.trans (hb.mono BB.out.size))
              clear hb hbig1 hbig2
              go_wp2_with fail
              refine (SA.out _).mono ?_
              rintro e' wq6 ⟨rfl, rfl⟩
              go_wp2_with fail
              refine (SB.out _).mono ?_
              rintro e' wq7 ⟨rfl, rfl⟩
              go_wp2_with fail
              refine (SA.out _).mono ?_
              rintro e' wq8 ⟨rfl, rfl⟩
              go_wp2_with fail
              refine (CP.out _ _ _ G1.out G2.out).mono ?_
              rintro e' wb9 ⟨vG3, rfl, hbig, hb⟩
              have G1 := Lib.hid (G1.out.below hb)
              have G2 := Lib.hid (G2.out.below hb)
              have BB := Lib.hid (BB.out.trans (hb.mono BB.out.size))
              clear hb
              have G3 := Lib.hid hbig
              clear hbig
              go_wp2_with fail
              refine (CR.out _ _ G3.out).mono ?_
              rintro e' wm10 ⟨rfl, hb⟩
              have G1 := Lib.hid (G1.out.below hb)
              have G2 := Lib.hid (G2.out.below hb)
              have G3 := Lib.hid (G3.out.below hb)
              have BB := Lib.hid (BB.out.trans (hb.mono BB.out.size))
              clear hb
              go_wp2
              go_ret
              exact ⟨rfl, BB.out⟩
        · obtain rfl : b = R := INB.out rfl rfl rfl
          clear BAD INA INB FIN
          have BB := Lib.hid (Below.refl w.heap.size w)
          go_enter Tryz.func54, Tryz.ntmps54
          go_wp2_with fail
          refine (NA.out _).mono ?_
          rintro e' wq1 ⟨rfl, rfl⟩
          go_wp2_with fail
          refine (NB.out _).mono ?_
          rintro e' wq2 ⟨rfl, rfl⟩
          go_wp2_with fail
          refine (IA.out _).mono ?_
          rintro e' wq3 ⟨rfl, rfl⟩
          go_wp2_with fail
          refine (IA.out _).mono ?_
          rintro e' wq4 ⟨rfl, rfl⟩
          go_wp2_with fail
          refine (IB.out _).mono ?_
          rintro e' wq5 ⟨rfl, rfl⟩
          go_wp2
          go_ret
          exact ⟨rfl, BB.out⟩
      · cases ib
        · obtain rfl : a = R := INA.out rfl rfl
          clear BAD INA INB FIN
          have BB := Lib.hid (Below.refl w.heap.size w)
          go_enter Tryz.func54, Tryz.ntmps54
          go_wp2_with fail
          refine (NA.out _).mono ?_
          rintro e' wq1 ⟨rfl, rfl⟩
          go_wp2_with fail
          refine (NB.out _).mono ?_
          rintro e' wq2 ⟨rfl, rfl⟩
          go_wp2_with fail
          refine (IA.out _).mono ?_
          rintro e' wq3 ⟨rfl, rfl⟩
          go_wp2_with fail
          refine (IB.out _).mono ?_
          rintro e' wq4 ⟨rfl, rfl⟩
          go_wp2_with fail
          refine (IA.out _).mono ?_
          rintro e' wq5 ⟨rfl, rfl⟩
          go_wp2
          go_ret
          exact ⟨rfl, BB.out⟩
        · cases ne
          · obtain rfl : a = R := INA.out rfl rfl
            clear BAD INA INB FIN
            have BB := Lib.hid (Below.refl w.heap.size w)
            go_enter Tryz.func54, Tryz.ntmps54
            go_wp2_with fail
            refine (NA.out _).mono ?_
            rintro e' wq1 ⟨rfl, rfl⟩
            go_wp2_with fail
            refine (NB.out _).mono ?_
            rintro e' wq2 ⟨rfl, rfl⟩
            go_wp2_with fail
            refine (IA.out _).mono ?_
            rintro e' wq3 ⟨rfl, rfl⟩
            go_wp2_with fail
            refine (IB.out _).mono ?_
            rintro e' wq4 ⟨rfl, rfl⟩
            go_wp2_with fail
            refine (IA.out _).mono ?_
            rintro e' wq5 ⟨rfl, rfl⟩
            go_wp2
            go_ret
            exact ⟨rfl, BB.out⟩
          · obtain rfl : Nm.nan = R := BAD.out rfl
            clear BAD INA INB FIN
            have BB := Lib.hid (Below.refl w.heap.size w)
            go_enter Tryz.func54, Tryz.ntmps54
            go_wp2_with fail
            refine (NA.out _).mono ?_
            rintro e' wq1 ⟨rfl, rfl⟩
            go_wp2_with fail
            refine (NB.out _).mono ?_
            rintro e' wq2 ⟨rfl, rfl⟩
            go_wp2_with fail
            refine (IA.out _).mono ?_
            rintro e' wq3 ⟨rfl, rfl⟩
            go_wp2_with fail
            refine (IB.out _).mono ?_
            rintro e' wq4 ⟨rfl, rfl⟩
            go_wp2
            go_ret
            exact ⟨rfl, BB.out⟩
    · obtain rfl : Nm.nan = R := BAD.out rfl
      clear BAD INA INB FIN
      have BB := Lib.hid (Below.refl w.heap.size w)
      go_enter Tryz.func54, Tryz.ntmps54
      go_wp2_with fail
      refine (NA.out _).mono ?_
      rintro e' wq1 ⟨rfl, rfl⟩
      go_wp2_with fail
      refine (NB.out _).mono ?_
      rintro e' wq2 ⟨rfl, rfl⟩
      go_wp2
      go_ret
      exact ⟨rfl, BB.out⟩
  · obtain rfl : Nm.nan = R := BAD.out rfl
    clear BAD INA INB FIN
    have BB := Lib.hid (Below.refl w.heap.size w)
    go_enter Tryz.func54, Tryz.ntmps54
    go_wp2_with fail
    refine (NA.out _).mono ?_
    rintro e' wq1 ⟨rfl, rfl⟩
    go_wp2
    go_ret
    exact ⟨rfl, BB.out⟩
theorem rsub_any (a b : Nat) (ha : a < 2 ^ 64) (hb : b < 2 ^ 64) (w : World) : Calls Tryz.prog 56 #[.int .u64 (a : Int), .int .u64 (b : Int)] w (Gives w (.int .u64 (Nm.dSub a b : Nat))) := by
  have HN := Lib.hid (Nm.neg_lt b hb)
  have CN := Lib.hid (fun w => rneg_any b hb w)
  have CA : Hid (∀ w, Calls Tryz.prog 54 #[.int .u64 (a : Int), .int .u64 ((Nm.dNeg b : Nat) : Int)] w (Gives w (.int .u64 (Nm.dSub a b : Nat)))) := Lib.hid (fun w => radd_any a (Nm.dNeg b) ha HN.out w)
  obtain ⟨nb, hnb⟩ : ∃ x, Nm.dNeg b = x := ⟨_, rfl⟩
  obtain ⟨R, hR⟩ : ∃ x, Nm.dSub a b = x := ⟨_, rfl⟩
  rw [hnb] at CN CA
  rw [hR] at CA ⊢
  clear hnb hR HN ha hb
  have BB := Lib.hid (Below.refl w.heap.size w)
  go_enter Tryz.func56, Tryz.ntmps56
  go_wp2_with fail
  refine (CN.out _).mono ?_
  rintro e' wq1 ⟨rfl, rfl⟩
  go_wp2_with fail
  refine (CA.out _).mono ?_
  rintro e' wm2 ⟨rfl, hb⟩
  have BB := Lib.hid (BB.out.trans (hb.mono BB.out.size))
  clear hb
  go_wp2
  go_ret
  exact ⟨rfl, BB.out⟩
end Go.Proofs.YtffohkpohgkglaaGreat
