/-
  THE WALK of the statement BitsPuts.
-/
import Derived.Test.YtimmlnfoabbbjaaLawD
namespace Go.Proofs.Ytimmlnfoabbbjaa
open Go.RowKit
set_option maxRecDepth 100000 in
set_option maxHeartbeats 2000000 in
theorem puts_law (a0 : Option Addr) (os : List Call3) (cap : Nat) (w : World) (H : Ops w a0 os) :
    Calls Try.prog 3 #[.slice a0 os.length cap] w fun e w' => e = .returned (.bool true) ∧ Below w.heap.size w w' := by
  have O0 := Lib.hid H
  clear H
  go_enter Try.func3, Try.ntmps3
  go_wp2_with fail
  refine (new_at _).mono ?_
  rintro e w1 ⟨p, rfl, hw1, hb1, hl1, hs1⟩
  have W1 := Lib.hid hw1
  have B1 := Lib.hid hb1
  clear hw1 hb1
  go_wp2_with fail
  refine (known_any _).mono ?_
  rintro e w2 ⟨rfl, hb2⟩
  have hs2 : p < w2.heap.size := Nat.lt_of_lt_of_le hs1 hb2.size
  have S0 := Lib.hid (inv_start (W1.out.below hb2) (B1.out.trans (hb2.mono (Below.size B1.out))) hl1)
  have F := Lib.hid (show Seats w.heap.size p w2.heap.size (w2.heap.size + 1) from ⟨hl1, hs2, by omega⟩)
  clear hb2 W1 B1
  obtain ⟨q, hq⟩ : ∃ q, w2.heap.size = q := ⟨_, rfl⟩
  obtain ⟨pb, hpb⟩ : ∃ pb, q + 1 = pb := ⟨_, rfl⟩
  rw [hq] at hs2 S0 F
  rw [hpb] at S0 F
  go_wp2
  clear hq hpb
  go_loopw [6] (fun i wr => ∃ k : Nat, k ≤ os.length ∧ k ≤ 2000 ∧ i = .int .i64 (k : Nat) ∧ Hid (St w p q pb (encs (os.take k)) ((k + 15) / 16) wr)) (fun i _ => 2000 - (intOf i).toNat)
  case atStart => exact ⟨0, Nat.zero_le _, Nat.zero_le _, rfl, S0⟩
  case round =>
    clear S0
    obtain ⟨k, hk, hk2, rfl, HS⟩ := hrel
    by_cases hlt : k < os.length
    · by_cases hlt2 : k < 2000
      · obtain ⟨d, h, bh, X, C, I⟩ := HS.out
        have HI := Lib.hid I
        obtain ⟨b, off, rfl, hb, hcs⟩ := O0.out.2 (by intro h; rw [h] at hlt; simp at hlt)
        obtain ⟨k1w, k2w, k3w⟩ := hcs k hlt
        have hft := (O0.out).1 _ (List.getElem_mem hlt)
        have henc := ops_take os k hlt
        obtain ⟨⟨kd, v, n⟩, hoo⟩ : ∃ o, o = os[k] := ⟨_, rfl⟩
        rw [← hoo] at k1w k2w k3w hft henc
        simp only at k1w k2w k3w
        have k1 : wr.cell? ⟨b, off + k * 3, none⟩ = some (.int .u8 (kd : Nat)) := (I.below.cell (p := ⟨b, off + k * 3, none⟩) hb).trans k1w
        have k2 : wr.cell? ⟨b, off + k * 3 + 1, none⟩ = some (.int .u64 (v : Nat)) := (I.below.cell (p := ⟨b, off + k * 3 + 1, none⟩) hb).trans k2w
        have k3 : wr.cell? ⟨b, off + k * 3 + 2, none⟩ = some (.int .i64 n) := (I.below.cell (p := ⟨b, off + k * 3 + 2, none⟩) hb).trans k3w
        have HF := Lib.hid hft
        have HE := Lib.hid henc
        have hBk : (encs (os.take k)).length ≤ 160000 := by
          have := encs_le (os.take k) (fun o h => O0.out.1 o (List.mem_of_mem_take h))
          rw [List.length_take] at this; omega
        have hB2l : (encs (os.take (k + 1))).length ≤ 160000 := by
          have := encs_le (os.take (k + 1)) (fun o h => O0.out.1 o (List.mem_of_mem_take h))
          rw [List.length_take] at this; omega
        clear hcs hoo k1w k2w k3w hft henc I HS
        have hd1 : decide ((k : Int) < (os.length : Int)) = true := by simp; omega
        have hd2 : decide ((k : Int) < 2000) = true := by simp; omega
        have hi1 : (k : Int) < (os.length : Int) := by omega
        go_wp2_with fail
        refine (puts_any p d q h _ (kd, v, n) HF.out _ HI.out.tw (by omega)).mono ?_
        rintro e w3 ⟨rfl, hT⟩
        have HN : Hid (St w p q pb (encs (os.take (k + 1))) ((k + 15) / 16) w3) := Lib.hid (by rw [HE.out]; exact HI.out.puts F.out hT)
        clear hT HI HE HF k1 k2 k3 hBk
        obtain ⟨B2, hB2⟩ : ∃ B2, encs (os.take (k + 1)) = B2 := ⟨_, rfl⟩
        rw [hB2] at HN hB2l
        have HB2 := Lib.hid hB2
        clear hB2
        obtain ⟨d2, h2, bh2, X2, C2, I2⟩ := HN.out
        obtain ⟨ax, cx, c0, _⟩ := rf_slice I2.tw.rf
        have HI2 := Lib.hid I2
        have hI3 : ∀ m, Inv w p q pb B2 ((k + 15) / 16) d2 h2 bh2 X2 C2 (w3.drewN m) := fun m => I2.still (((Only.refl [] w3).drewN m).below (Nat.le_refl _) (by simp))
        have HI3 := Lib.hid hI3
        clear I2 hI3 HN
        have hne : ((B2.length : Int) != (B2.length : Int)) = false := by simp
        go_wp2_with fail
        go_quiet ((go_at_call 10; exact Calls.quiet_of_same ((len_any p d2 B2 _ (HI3.out _).tw.wr).mono fun _ _ h => ⟨h.1, h.2.symm⟩)))
        by_cases hmod : k % 16 = 0
        · have hm : ((k : Int) % 16 == 0) = true := by simp; omega
          go_wp2_with fail
          refine (wbytes_any p d2 B2 _ (HI3.out _).tw.wr (by omega)).mono ?_
          rintro e w5 ⟨bs, j, hj, hP, a, cp, g, rfl, hR, hg, hb5⟩
          have hbl : bs.length ≤ 1000000 := by have := hP.length; omega
          have HK := Lib.hid (((HI3.out _).still hb5).bk.congr (fun j hj => more_low ((k + 15) / 16) (.slice a bs.length cp) X2 j hj))
          have HROW := Lib.hid (fun (w6 : World) (hbp : BookPost w5 pb bh2 ((k + 15) / 16 + 1) (more ((k + 15) / 16) (.slice a bs.length cp) X2) w6) => (HI3.out _).row F.out hR (hg.imp (fun h => by rw [h]; rfl) id) hb5 hbl hbp)
          have HP := Lib.hid hP
          clear hR hg hb5 hP
          go_wp2_with fail
          refine (bookbytes_any pb bh2 ((k + 15) / 16) bs.length cp a (more ((k + 15) / 16) (.slice a bs.length cp) X2) (more_at _ _ _) _ HK.out (by omega)).mono ?_
          rintro e w6 ⟨rfl, hbp⟩
          obtain ⟨⟨d6, h6, bh6, X6, C6, I6⟩, hR6⟩ := HROW.out w6 hbp
          have HI6 := Lib.hid I6
          have HR6 := Lib.hid hR6
          clear hbp I6 hR6 HK HROW
          go_wp2_with fail
          refine (fbytes_any q h6 0 B2 _ HI6.out.tw.rf (by omega)).mono ?_
          rintro e w7 ⟨bs2, j2, hj2, hP2, a2, cp2, g2, rfl, hR7, _, hb7⟩
          obtain rfl := Bt.packs_unique HP.out hP2 hj hj2
          have HY := Lib.hid ((HR6.out.below hb7).bys hP2.1).2
          have HY2 := Lib.hid (hR7.bys hP2.1).2
          have HI7 := Lib.hid (HI6.out.still hb7)
          clear hR7 hb7 hP2 HI6 HR6
          go_wp2_with fail
          refine (same_any a a2 bs cp cp2 _ HY.out HY2.out).mono ?_
          rintro e w8 ⟨rfl, hb8⟩
          have HI8 := Lib.hid (HI7.out.still hb8)
          clear hb8 HI7 HY HY2
          have HN8 : Hid (St w p q pb (encs (os.take (k + 1))) ((k + 1 + 15) / 16) w8) := Lib.hid (by
            rw [HB2.out, show (k + 1 + 15) / 16 = (k + 15) / 16 + 1 by omega]
            exact ⟨_, _, _, _, _, HI8.out⟩)
          clear HI8
          go_wp2
          go_roundw
          case rel => exact ⟨k + 1, by omega, by omega, by go_num, HN8⟩
          case measure => simp [intOf]; omega
        · have hm : ((k : Int) % 16 == 0) = false := by simp; omega
          have hN8 : ∀ m, St w p q pb (encs (os.take (k + 1))) ((k + 1 + 15) / 16) (w3.drewN m) := fun m => by
            rw [HB2.out, show (k + 1 + 15) / 16 = (k + 15) / 16 by omega]
            exact ⟨_, _, _, _, _, HI3.out m⟩
          have HN8 := Lib.hid hN8
          clear hN8
          go_wp2
          go_roundw
          case rel => exact ⟨k + 1, by omega, by omega, by go_num, Lib.hid (HN8.out _)⟩
          case measure => simp [intOf]; omega
      · have hd1 : decide ((k : Int) < (os.length : Int)) = true := by simp; omega
        have hd2 : decide ((k : Int) < 2000) = false := by simp; omega
        have hB2l : (encs (os.take k)).length ≤ 160000 := by
          have := encs_le (os.take k) (fun o h => O0.out.1 o (List.mem_of_mem_take h))
          rw [List.length_take] at this; omega
        obtain ⟨B2, hB2⟩ : ∃ B2, encs (os.take k) = B2 := ⟨_, rfl⟩
        rw [hB2] at HS hB2l
        clear hB2
        obtain ⟨d2, h2, bh2, X2, C2, I2⟩ := HS.out
        have HI2 := Lib.hid I2
        clear I2 HS
        go_wp2_with fail
        refine (wbytes_any p d2 B2 _ HI2.out.tw.wr (by omega)).mono ?_
        rintro e w5 ⟨bs, j, hj, hP, a, cp, g, rfl, hR, hg, hb5⟩
        have hbl : bs.length ≤ 1000000 := by have := hP.length; omega
        have HK := Lib.hid ((HI2.out.still hb5).bk.congr (fun j hj => more_low ((k + 15) / 16) (.slice a bs.length cp) X2 j hj))
        have HROW := Lib.hid (fun (w6 : World) (hbp : BookPost w5 pb bh2 ((k + 15) / 16 + 1) (more ((k + 15) / 16) (.slice a bs.length cp) X2) w6) => HI2.out.row F.out hR (hg.imp (fun h => by rw [h]; rfl) id) hb5 hbl hbp)
        have HP := Lib.hid hP
        clear hR hg hb5 hP
        go_wp2_with fail
        refine (bookbytes_any pb bh2 ((k + 15) / 16) bs.length cp a (more ((k + 15) / 16) (.slice a bs.length cp) X2) (more_at _ _ _) _ HK.out (by omega)).mono ?_
        rintro e w6 ⟨rfl, hbp⟩
        obtain ⟨⟨d6, h6, bh6, X6, C6, I6⟩, hR6⟩ := HROW.out w6 hbp
        have HI6 := Lib.hid I6
        have HR6 := Lib.hid hR6
        clear hbp I6 hR6 HK HROW
        go_wp2_with fail
        refine (fbytes_any q h6 0 B2 _ HI6.out.tw.rf (by omega)).mono ?_
        rintro e w7 ⟨bs2, j2, hj2, hP2, a2, cp2, g2, rfl, hR7, _, hb7⟩
        obtain rfl := Bt.packs_unique HP.out hP2 hj hj2
        have HY := Lib.hid ((HR6.out.below hb7).bys hP2.1).2
        have HY2 := Lib.hid (hR7.bys hP2.1).2
        have HI7 := Lib.hid (HI6.out.still hb7)
        clear hR7 hb7 hP2 HI6 HR6
        go_wp2_with fail
        refine (same_any a a2 bs cp cp2 _ HY.out HY2.out).mono ?_
        rintro e w8 ⟨rfl, hb8⟩
        have HI8 := Lib.hid (HI7.out.still hb8)
        clear hb8 HI7 HY HY2
        go_wp2_with fail
        refine (HI8.out.own (by have := F.out.np; have := F.out.pq; have := F.out.qb; omega) (by omega)).mono ?_
        rintro e w9 ⟨rfl, hb9⟩
        have HB9 := Lib.hid hb9
        clear hb9
        go_wp2
        go_ret
        exact ⟨rfl, HB9.out⟩
    · have hd1 : decide (k < os.length) = false := by simp; omega
      have hB2l : (encs (os.take k)).length ≤ 160000 := by
        have := encs_le (os.take k) (fun o h => O0.out.1 o (List.mem_of_mem_take h))
        rw [List.length_take] at this; omega
      obtain ⟨B2, hB2⟩ : ∃ B2, encs (os.take k) = B2 := ⟨_, rfl⟩
      rw [hB2] at HS hB2l
      clear hB2
      obtain ⟨d2, h2, bh2, X2, C2, I2⟩ := HS.out
      have HI2 := Lib.hid I2
      clear I2 HS
      go_wp2_with fail
      refine (wbytes_any p d2 B2 _ HI2.out.tw.wr (by omega)).mono ?_
      rintro e w5 ⟨bs, j, hj, hP, a, cp, g, rfl, hR, hg, hb5⟩
      have hbl : bs.length ≤ 1000000 := by have := hP.length; omega
      have HK := Lib.hid ((HI2.out.still hb5).bk.congr (fun j hj => more_low ((k + 15) / 16) (.slice a bs.length cp) X2 j hj))
      have HROW := Lib.hid (fun (w6 : World) (hbp : BookPost w5 pb bh2 ((k + 15) / 16 + 1) (more ((k + 15) / 16) (.slice a bs.length cp) X2) w6) => HI2.out.row F.out hR (hg.imp (fun h => by rw [h]; rfl) id) hb5 hbl hbp)
      have HP := Lib.hid hP
      clear hR hg hb5 hP
      go_wp2_with fail
      refine (bookbytes_any pb bh2 ((k + 15) / 16) bs.length cp a (more ((k + 15) / 16) (.slice a bs.length cp) X2) (more_at _ _ _) _ HK.out (by omega)).mono ?_
      rintro e w6 ⟨rfl, hbp⟩
      obtain ⟨⟨d6, h6, bh6, X6, C6, I6⟩, hR6⟩ := HROW.out w6 hbp
      have HI6 := Lib.hid I6
      have HR6 := Lib.hid hR6
      clear hbp I6 hR6 HK HROW
      go_wp2_with fail
      refine (fbytes_any q h6 0 B2 _ HI6.out.tw.rf (by omega)).mono ?_
      rintro e w7 ⟨bs2, j2, hj2, hP2, a2, cp2, g2, rfl, hR7, _, hb7⟩
      obtain rfl := Bt.packs_unique HP.out hP2 hj hj2
      have HY := Lib.hid ((HR6.out.below hb7).bys hP2.1).2
      have HY2 := Lib.hid (hR7.bys hP2.1).2
      have HI7 := Lib.hid (HI6.out.still hb7)
      clear hR7 hb7 hP2 HI6 HR6
      go_wp2_with fail
      refine (same_any a a2 bs cp cp2 _ HY.out HY2.out).mono ?_
      rintro e w8 ⟨rfl, hb8⟩
      have HI8 := Lib.hid (HI7.out.still hb8)
      clear hb8 HI7 HY HY2
      go_wp2_with fail
      refine (HI8.out.own (by have := F.out.np; have := F.out.pq; have := F.out.qb; omega) (by omega)).mono ?_
      rintro e w9 ⟨rfl, hb9⟩
      have HB9 := Lib.hid hb9
      clear hb9
      go_wp2
      go_ret
      exact ⟨rfl, HB9.out⟩
end Go.Proofs.Ytimmlnfoabbbjaa
