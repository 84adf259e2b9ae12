/-
  PACKED: HaD, HaF, HaI, LsC, HaJ, LsD, LsE
-/
import Derived.Test.YtdlifcpdlbmijaaGreatDoorK08
import Derived.Test.YtdlifcpdlbmijaaGreatDoorK07
import Derived.Test.YtdlifcpdlbmijaaGreatDoorK04
import Derived.Deep.DeepAppendRoom
import Derived.Deep.RegionHeldLaw
import Derived.OwnWalk
import Derived.Deep.RegionHeld3
set_option linter.unusedVariables false
set_option linter.unusedSimpArgs false
namespace Go.Proofs.YtdlifcpdlbmijaaGreatDoor
set_option linter.unusedVariables false
set_option linter.unusedSimpArgs false
open Go.RowKit Go.PlainAid Go.Shelf
open B2 (Only Bys Row cellsOf Rf)
open Gm (St Smp Dr)
theorem smp_unique {P : Prop} (h : P) : P := h
theorem own_lit (W : World) (q : Nat) (hq : q ≤ W.heap.size) (x : Smp) : OwnS (W.alloc (.cells #[.int .i64 x.t, .int .u64 ((x.v : Nat) : Int)] 79)) q (.slice (some ⟨W.heap.size, 0, none⟩) 1 1) [x] := by
  refine ⟨rfl, .inr ⟨W.heap.size, 1, _, rfl, hq, heap_alloc_new W _, Nat.le_refl _, by decide, rfl, rfl⟩⟩
theorem dIt_next {B : List Bool} {m : Nat} {l : List Smp} {d : Dr} (h1 : 1 ≤ m) (h : Gm.dIt (m - 1) B = some (l, d)) : Gm.dIt m B = (Gm.dNext m d).map fun s => (l ++ [⟨s.t, s.v⟩], s) := by
  obtain ⟨j, rfl⟩ : ∃ j, m = j + 1 := ⟨m - 1, by omega⟩
  rw [show j + 1 - 1 = j by omega] at h
  rw [Gm.dIt, h]
  rfl
set_option maxHeartbeats 16000000 in
set_option maxRecDepth 100000 in
theorem refall_any (f t N : Int) (a : Option Addr) (bs : List Nat) (cap : Nat) (hbd : bs.length ≤ 1000000) (k0 p0 p1 p2 c c0 c1 c2 o9 oa oc od : Nat) (w : World) (H : Bys w a bs) (HT : TabB w k0 p0 p1 p2 c c0 c1 c2 o9 oa oc od) :
    Calls Tryz.prog 37 #[.agg (chR f t N (.slice a bs.length cap))] w (AlPost w f t N bs) := by
  obtain ⟨n, hn⟩ : ∃ n, w.heap.size = n := ⟨_, rfl⟩
  have A1 := (Below.refl w.heap.size w).alloc (Nat.le_refl _) (.cells (chR f t N (.slice a bs.length cap)) 26)
  have r1 := heap_alloc_new w (.cells (chR f t N (.slice a bs.length cap)) 26)
  have hs1 : (w.alloc (.cells (chR f t N (.slice a bs.length cap)) 26)).heap.size = n + 1 := by simp [hn]
  have hB1 := H.below A1
  have hT1 := HT.below A1
  have hlt0 : 0 < n ∧ k0 < n ∧ p0 < n ∧ p1 < n ∧ p2 < n := by
    rw [← hn]
    exact ⟨World.block_lt_of_cell? _ _ HT.g, World.block_lt_of_cell? _ _ HT.r.1, World.block_lt_of_cell? _ _ HT.t0.1, World.block_lt_of_cell? _ _ HT.t1.1, World.block_lt_of_cell? _ _ HT.t2.1⟩
  rw [hn] at r1 A1
  obtain ⟨y0, y1, y2, y3⟩ := four73 r1
  have HA := Lib.hid (And.intro A1 (And.intro r1 (And.intro hs1 (And.intro hB1 (And.intro hT1 hlt0)))))
  have HTW := Lib.hid HT
  have HBY := Lib.hid H
  clear A1 r1 hs1 hB1 hT1 hlt0 H HT
  by_cases hlo : N < 1
  · have d1 : decide (N < 1) = true := decide_eq_true hlo
    have HP := Lib.hid (show AlPost w f t N bs (.returned (.tuple #[.slice none 0 0, .bool false])) (w.alloc (.cells (chR f t N (.slice a bs.length cap)) 26)) from ⟨by rw [hn]; exact HA.out.1, .inr ⟨_, _, _, rfl, fun ⟨g, G, h2, _⟩ => by have := G.some; omega⟩⟩)
    unfold chR at *
    go_enter Tryz.func37, Tryz.ntmps37
    go_wp2_with fail
    go_ret2
    exact HP.out
  by_cases hhi : 120 < N
  · have d1 : decide (N < 1) = false := decide_eq_false hlo
    have d2 : decide (N > 120) = true := decide_eq_true hhi
    have HP := Lib.hid (show AlPost w f t N bs (.returned (.tuple #[.slice none 0 0, .bool false])) (w.alloc (.cells (chR f t N (.slice a bs.length cap)) 26)) from ⟨by rw [hn]; exact HA.out.1, .inr ⟨_, _, _, rfl, fun ⟨g, G, h2, _⟩ => by have := G.len; omega⟩⟩)
    unfold chR at *
    go_enter Tryz.func37, Tryz.ntmps37
    go_wp2_with fail
    go_ret2
    exact HP.out
  obtain ⟨M, rfl⟩ := Int.eq_ofNat_of_zero_le (show 0 ≤ N by omega)
  have hM1 : 1 ≤ M := by omega
  have hM2 : M ≤ 120 := by omega
  have d1 : decide ((M : Int) < 1) = false := decide_eq_false hlo
  have d2 : decide ((M : Int) > 120) = false := decide_eq_false hhi
  have HMM := Lib.hid (And.intro hM1 hM2)
  have CR := Lib.hid (B2.fread_any a bs cap _ HA.out.2.2.2.1 hbd)
  obtain ⟨BB, hBB⟩ : ∃ BB, B2.Bt.unpack bs = BB := ⟨_, rfl⟩
  have HBL := Lib.hid (show BB.length ≤ 1000000000 by rw [← hBB, B2.Bt.unpack_length]; omega)
  have HBB := Lib.hid hBB
  unfold B2.FreadPost at CR
  rw [hBB] at CR
  -- the way out
  have HX0 := Lib.hid (show ∀ j W, j + 1 ≤ M → Gm.dIt j BB = none → Below n w W → AlPost w f t ((M : Nat) : Int) bs (.returned (.tuple #[.slice none 0 0, .bool false])) W from fun j W hj h hb => ⟨by rw [hn]; exact hb, .inr ⟨_, _, _, rfl, no_isC hM2 hj (by rw [hBB]; exact h)⟩⟩)
  have HNN := Lib.hid hn
  clear hlo hhi hBB hbd
  unfold chR at CR ⊢
  go_enter Tryz.func37, Tryz.ntmps37
  go_wp2_with fail
  refine CR.out.mono ?_
  rintro e w1 ⟨p, g, rfl, hp, hg, hR, hb1⟩
  have hs1 := HA.out.2.2.1
  unfold chR at hs1
  have hb1' := hb1
  rw [hs1] at hp hg hb1
  have hq := hb1.size
  have hlp := hR.lt
  have HW1 := Lib.hid (show w1.heap[n]? = some (.cells (chR f t ((M : Nat) : Int) (.slice a bs.length cap)) 26 (0, 0)) ∧ Below n w w1 ∧ (n < p ∧ n < g) ∧ (p < w1.heap.size ∧ g < w1.heap.size) ∧ Rf w1 p g BB 0 from ⟨(hb1.block n (by omega)).trans HA.out.2.1, HA.out.1.trans (hb1.mono (by omega)), ⟨by omega, by omega⟩, hlp, hR⟩)
  have CS := Lib.hid (sgn_at p g BB 0 w1 hR (Nat.zero_le _) HBL.out)
  have C64 := Lib.hid (fun W at_ (h : Rf W p g BB at_) (h2 : at_ ≤ BB.length) => next_at p g BB at_ 64 (by decide) W h h2 HBL.out)
  have C1 := Lib.hid (fun W at_ (h : Rf W p g BB at_) (h2 : at_ ≤ BB.length) => next_at p g BB at_ 1 (by decide) W h h2 HBL.out)
  have C5 := Lib.hid (fun W at_ (h : Rf W p g BB at_) (h2 : at_ ≤ BB.length) => next_at p g BB at_ 5 (by decide) W h h2 HBL.out)
  have C6 := Lib.hid (fun W at_ (h : Rf W p g BB at_) (h2 : at_ ≤ BB.length) => next_at p g BB at_ 6 (by decide) W h h2 HBL.out)
  have CX := Lib.hid (fun z (hz : z ≤ 64) W at_ (h : Rf W p g BB at_) (h2 : at_ ≤ BB.length) => next_at p g BB at_ z hz W h h2 HBL.out)
  have CV := Lib.hid (fun W at_ (h : Rf W p g BB at_) (h2 : at_ ≤ BB.length) => var_at p g BB at_ W h h2 HBL.out)
  rw [show ((64 : Nat) : Int) = 64 from rfl] at C64
  rw [show ((1 : Nat) : Int) = 1 from rfl] at C1
  rw [show ((5 : Nat) : Int) = 5 from rfl] at C5
  rw [show ((6 : Nat) : Int) = 6 from rfl] at C6
  unfold pt at CS C64 C1 C5 C6 CX CV
  clear hp hg hb1 hb1' hq hlp hR hs1
  go_wp2_with fail
  refine CS.out.mono ?_
  rintro e w2 (⟨h1, ⟨x, rfl, hx⟩, h2, h3⟩ | ⟨v0, at1, h1, hv0, hat1, rfl, h2, h3⟩)
  · have hx1 : ((x : Int) != 0) = true := by simp; omega
    have hx2 : ¬ (x : Int) = 0 := by omega
    have HZ := Lib.hid (show Gm.dIt 0 BB = none ∧ Rf w2 p g BB 0 ∧ Below n w w2 from ⟨by unfold Gm.dIt Gm.dFst; rw [show Gm.vO BB = none from h1]; rfl, h2, HW1.out.2.1.trans (h3.below (by have := HW1.out.2.2.2.1; have := HW1.out.2.2.1; omega) (by intro x hx; simp at hx; have := HW1.out.2.2.1; omega))⟩)
    clear h1 h2 h3
    go_wp2_with fail
    refine (C64.out w2 0 HZ.out.2.1 (Nat.zero_le _)).mono ?_
    rintro e w3 (⟨k1, rfl, k2, k3⟩ | ⟨u0, k1, hu0, kat, rfl, k2, k3⟩)
    · have HP := Lib.hid (HX0.out 0 w3 HMM.out.1 HZ.out.1 (HZ.out.2.2.trans (k3.below (by have := HZ.out.2.2.size; have := HNN.out; omega) (by intro x hx; simp at hx; have := HW1.out.2.2.1; omega))))
      clear k1 k2 k3
      go_wp2_with fail
      go_ret2
      exact HP.out
    · have HP := Lib.hid (HX0.out 0 w3 HMM.out.1 HZ.out.1 (HZ.out.2.2.trans (k3.below (by have := HZ.out.2.2.size; have := HNN.out; omega) (by intro x hx; simp at hx; have := HW1.out.2.2.1; omega))))
      clear k1 k2 k3
      go_wp2_with fail
      go_ret2
      exact HP.out
  have HZ := Lib.hid (show Gm.vO BB = some (v0, BB.drop at1) ∧ Rf w2 p g BB at1 ∧ Below n w w2 ∧ w1.heap.size ≤ w2.heap.size ∧ w2.heap[n]? = some (.cells (chR f t ((M : Nat) : Int) (.slice a bs.length cap)) 26 (0, 0)) from ⟨h1, h2, HW1.out.2.1.trans (h3.below (by have := HW1.out.2.2.2.1; have := HW1.out.2.2.1; omega) (by intro x hx; simp at hx; have := HW1.out.2.2.1; omega)), h3.size, (h3.block n (by have := HW1.out.2.2.2.1; have := HW1.out.2.2.1; omega) (by have := HW1.out.2.2.1; simp; omega)).trans HW1.out.1⟩)
  clear h1 h2 h3 CS
  go_wp2_with fail
  refine (C64.out w2 at1 HZ.out.2.1 hat1).mono ?_
  rintro e w3 (⟨k1, rfl, k2, k3⟩ | ⟨u0, k1, hu0, kat, rfl, k2, k3⟩)
  · have HP := Lib.hid (HX0.out 0 w3 HMM.out.1 (by unfold Gm.dIt Gm.dFst; rw [HZ.out.1]; show Option.map _ (Option.map _ (Gm.rO 64 _)) = none; rw [k1]; rfl) (HZ.out.2.2.1.trans (k3.below (by have := HZ.out.2.2.1.size; have := HNN.out; omega) (by intro x hx; simp at hx; have := HW1.out.2.2.1; omega))))
    clear k1 k2 k3
    go_wp2_with fail
    go_ret2
    exact HP.out
  have hp3 : p < w3.heap.size ∧ n < w3.heap.size ∧ g < w3.heap.size := ⟨by have := HW1.out.2.2.2.1; have := HZ.out.2.2.2.1; have := k3.size; omega, by have := HW1.out.2.2.2.1; have := HW1.out.2.2.1; have := HZ.out.2.2.2.1; have := k3.size; omega, by have := HW1.out.2.2.2.1; have := HZ.out.2.2.2.1; have := k3.size; omega⟩
  have hbn3 : Below n w w3 := HZ.out.2.2.1.trans (k3.below (by have := HZ.out.2.2.1.size; have := HNN.out; omega) (by intro x hx; simp at hx; have := HW1.out.2.2.1; omega))
  have hbx3 : w3.heap[n]? = some (.cells (chR f t ((M : Nat) : Int) (.slice a bs.length cap)) 26 (0, 0)) := (k3.block n (by have := HW1.out.2.2.2.1; have := HW1.out.2.2.1; have := HZ.out.2.2.2.1; omega) (by have := HW1.out.2.2.1; simp; omega)).trans HZ.out.2.2.2.2
  obtain ⟨q, hq⟩ : ∃ q, w3.heap.size = q := ⟨_, rfl⟩
  have AA := (Below.refl w3.heap.size w3).alloc (Nat.le_refl _) (.cells #[.int .i64 (B2.Bt.uz v0), .int .u64 ((u0 : Nat) : Int)] 79)
  have HM0 := Lib.hid (show AlM n p g q (chR f t ((M : Nat) : Int) (.slice a bs.length cap)) BB w (at1 + 64) (.slice (some ⟨q, 0, none⟩) 1 1) [⟨B2.Bt.uz v0, u0⟩] (w3.alloc (.cells #[.int .i64 (B2.Bt.uz v0), .int .u64 ((u0 : Nat) : Int)] 79)) from
    ⟨k2.below AA, by rw [← hq]; exact own_lit w3 w3.heap.size (Nat.le_refl _) ⟨B2.Bt.uz v0, u0⟩, (AA.block n hp3.2.1).trans hbx3, hbn3.trans (AA.mono (by omega)), by simp; omega, ⟨HW1.out.2.2.1.1, by omega, by omega, by omega⟩⟩)
  have HD0 := Lib.hid (show Gm.dIt 0 BB = some ([⟨B2.Bt.uz v0, u0⟩], ⟨B2.Bt.uz v0, u0, 0, 0, 0, BB.drop (at1 + 64)⟩) from by unfold Gm.dIt Gm.dFst; rw [HZ.out.1]; show Option.map _ (Option.map _ (Gm.rO 64 _)) = _; rw [k1]; rfl)
  have HKA := Lib.hid kat
  clear k1 k2 k3 hp3 hbn3 hbx3 AA
  obtain ⟨y0, y1, y2, y3⟩ := four73 HM0.out.box
  obtain ⟨i0, hi, hz0, hz1, hz2⟩ := info_parts info70'
  have HI0 := Lib.hid (And.intro hi (And.intro hz0 (And.intro hz1 hz2)))
  clear hi hz0 hz1 hz2

  go_wp2_with fail
  go_loopw [5, 7, 9, 10, 11, 12] (fun tt vv out step left right wr => ∃ (m : Nat) (l : List Smp) (d : Dr) (at_ : Nat), 1 ≤ m ∧ m ≤ M ∧ tt = .int .i64 d.t ∧ vv = .int .u64 ((d.v : Nat) : Int) ∧ step = .int .u64 ((d.step : Nat) : Int) ∧ left = .int .i64 ((d.lf : Nat) : Int) ∧ right = .int .i64 ((d.rt : Nat) : Int) ∧ (∃ av cv, out = .slice av m cv) ∧ Hid (Gm.dIt (m - 1) BB = some (l, d) ∧ d.S = BB.drop at_ ∧ at_ ≤ BB.length ∧ AlM n p g q (chR f t ((M : Nat) : Int) (.slice a bs.length cap)) BB w at_ out l wr)) (fun _ _ out _ _ _ _ => M - lenV out)
  case atStart => exact ⟨1, _, _, at1 + 64, Nat.le_refl _, HMM.out.1, rfl, rfl, rfl, rfl, rfl, ⟨_, _, rfl⟩, Lib.hid ⟨HD0.out, rfl, HKA.out, HM0.out⟩⟩
  case round =>
    obtain ⟨m, l, ⟨T, V, st, L, R, S⟩, at_, hm1, hm2, rfl, rfl, rfl, rfl, rfl, ⟨av, cv, rfl⟩, HI⟩ := hrel
    clear y0 y1 y2 y3
    have hS := HI.out.2.1
    simp only at hS
    subst hS
    have HIN := Lib.hid (dIt_I _ _ _ _ HI.out.1)
    have HLN := Lib.hid (show l.length = m from by rw [Gm.dIt_len _ _ _ _ HI.out.1]; omega)
    have HM := Lib.hid HI.out.2.2.2
    have hat := HI.out.2.2.1
    obtain ⟨y0, y1, y2, y3⟩ := four73 HM.out.box
    by_cases hlt : m < M
    · have da : decide ((m : Int) < (M : Int)) = true := decide_eq_true (by omega)
      have da2 : decide (m < M) = true := decide_eq_true hlt
      have HNX := Lib.hid (dIt_next (B := BB) hm1 HI.out.1)
      have HX := Lib.hid (show ∀ W, Gm.dNext m ⟨T, V, st, L, R, BB.drop at_⟩ = none → Below n w W → AlPost w f t ((M : Nat) : Int) bs (.returned (.tuple #[.slice none 0 0, .bool false])) W from fun W h hb => HX0.out m W (by omega) (by rw [HNX.out, h]; rfl) hb)
      have HTB := Lib.hid (show Calls Tryz.prog 97 #[pt p] wr (ChgPost wr p g BB at_) from change_any p g BB at_ k0 p0 p1 p2 c c0 c1 c2 o9 oa oc od wr HM.out.rf (HTW.out.below (by rw [HNN.out]; exact HM.out.bel)) (by have h1 := HA.out.2.2.2.2.2; have h2 := HM.out.ne; omega) hat HBL.out)
      have hLR := HIN.out.1.win
      have hVl := HIN.out.1.v
      have hsl := HIN.out.1.step
      simp only at hLR hVl hsl
      unfold pt at HTB
      obtain ⟨z, hz⟩ : ∃ z, 64 - L - R = z := ⟨_, rfl⟩
      have hzl : z ≤ 64 := by omega
      have hz1 : IntKind.i64.wrap ((64 : Int) - (L : Int)) = (64 : Int) - (L : Int) := by rw [i64_is]; unfold RowKit.wrap64; omega
      have hz3 : (64 : Int) - (L : Int) - (R : Int) = (z : Int) := by omega
      have hz2 : IntKind.i64.wrap ((64 : Int) - (L : Int) - (R : Int)) = (z : Int) := by rw [i64_is, hz3]; unfold RowKit.wrap64; omega
      have hz4 : IntKind.i64.wrap (z : Int) = (z : Int) := by rw [i64_is]; unfold RowKit.wrap64; omega
      have HZZ := Lib.hid hz
      clear hz
      by_cases hm3 : m = 1
      · subst hm3
        rw [show ((1 : Nat) : Int) = 1 from rfl] at da
        rw [show ((M : Nat) : Int) = (M : Int) from rfl]
        go_wp2_with fail
        refine (CV.out wr at_ HM.out.rf hat).mono ?_
        rintro e w4 (⟨h1, ⟨x, rfl, hx⟩, h2, h3⟩ | ⟨s2, at2, h1, hs2, hat2, rfl, h2, h3⟩)
        · have hx1 : ((x : Int) != 0) = true := by simp; omega
          have hx2 : ¬ (x : Int) = 0 := by omega
          have HP := Lib.hid (HX.out w4 (by unfold Gm.dNext Gm.tO; rw [if_pos rfl]; rw [show Gm.vO (Dr.S ⟨T, V, st, L, R, BB.drop at_⟩) = none from h1]; rfl) (HM.out.rd h2 h3).bel)
          clear h1 h2 h3
          go_wp2_with fail
          go_ret2
          exact HP.out
        · have HM1 := Lib.hid (HM.out.rd h2 h3)
          have HTO := Lib.hid (show Gm.tO 1 st (BB.drop at_) = some (s2, BB.drop at2) from by unfold Gm.tO; rw [if_pos rfl]; exact h1)
          clear h1 h2 h3 HM hat HTB
          have HYN := Lib.hid (show Gm.dNext 1 ⟨T, V, st, L, R, BB.drop at_⟩ = Gm.nO ⟨Gm.wI (T + Gm.i64 s2), V, s2, L, R, BB.drop at2⟩ from by unfold Gm.dNext; rw [show Gm.tO 1 (Dr.step ⟨T, V, st, L, R, BB.drop at_⟩) (Dr.S ⟨T, V, st, L, R, BB.drop at_⟩) = _ from HTO.out]; rfl)
          rw [HYN.out] at HX HNX
          have htw := time_word T s2 hs2
          obtain ⟨T2, hT2⟩ : ∃ T2, Gm.wI (T + Gm.i64 s2) = T2 := ⟨_, rfl⟩
          rw [hT2] at htw HX HNX
          clear hT2 HTO HYN
          go_wp2_with fail
          refine (C1.out _ _ HM1.out.rf hat2).mono ?_
          rintro e w5 (⟨h1, rfl, h2, h3⟩ | ⟨b, h1, hb, hle, rfl, h2, h3⟩)
          · have HP := Lib.hid (HX.out w5 (nO_e h1) (HM1.out.rd h2 h3).bel)
            clear h1 h2 h3
            go_wp2_with fail
            go_ret2
            exact HP.out
          · have HM2 := Lib.hid (HM1.out.rd h2 h3)
            have HB1 := Lib.hid h1
            clear h1 h2 h3 HM1
            have hb2 : b = 0 ∨ b = 1 := by omega
            rcases hb2 with rfl | rfl
            · have HN := Lib.hid (show Gm.dIt 1 BB = some (l ++ [⟨T2, V⟩], ⟨T2, V, s2, L, R, BB.drop (at2 + 1)⟩) from by rw [HNX.out, nO_same HB1.out]; rfl)
              rw [show ((0 : Nat) : Int) = 0 from rfl]
              have HSRC := Lib.hid (two_cellsN w5 ⟨T2, V⟩)
              have HONE := Lib.hid (show ∀ u ∈ ([.int .i64 T2, .int .u64 ((V : Nat) : Int)] : List Value), u.oneCell' = true by simp [Value.oneCell'])
              have HOW := Lib.hid (own_row HM2.out.own HLN.out)
              go_wp2_with (at_builtin; refine wpList_append_own_at _ rfl (.tmp 150) (.tmp 154) 22 rfl q 79 i0 (.agg #[.int .i64 0, .int .u64 0]) 2 16 Tryz.underlying22 HI0.out.1 HI0.out.2.1 HI0.out.2.2.1 HI0.out.2.2.2 rfl (by decide) (.slice av 1 cv) 1 (smC l) rfl (HOW.out.alloc _) ⟨w5.heap.size, 0, none⟩ 1 1 [.int .i64 T2, .int .u64 ((V : Nat) : Int)] rfl rfl HSRC.out HONE.out (by have := HMM.out; unfold maxLen; omega) (by have := HMM.out; omega) (by have := HM2.out.sz; simp; omega) ?_; intro v9 w9 hown9 hgr9 _ _; have HM9 := Lib.hid (HM2.out.add (l' := l ++ [⟨T2, V⟩]) (by unfold OwnS; rw [smC_snoc, List.length_append, HLN.out]; exact hown9) hgr9); clear hown9 hgr9)
              obtain ⟨av9, cv9, rfl, _⟩ := HM9.out.own.shape
              have hl9 : (l ++ [(⟨T2, V⟩ : Smp)]).length = 1 + 1 := by rw [List.length_append, HLN.out]; rfl
              rw [hl9] at HM9 ⊢
              clear hl9 HSRC HONE HOW
              go_wp2_with fail
              go_roundw
              case rel => exact ⟨1 + 1, l ++ [⟨T2, V⟩], ⟨T2, V, s2, L, R, BB.drop (at2 + 1)⟩, at2 + 1, by omega, by omega, rfl, rfl, rfl, rfl, rfl, ⟨_, _, rfl⟩, Lib.hid ⟨by rw [Nat.add_sub_cancel]; exact HN.out, rfl, hle, HM9.out⟩⟩
              case measure => simp [lenV]; omega
            · rw [show ((1 : Nat) : Int) = 1 from rfl]
              go_wp2_with fail
              refine (C1.out _ _ HM2.out.rf hle).mono ?_
              rintro e w6 (⟨h1, rfl, h2, h3⟩ | ⟨u, h1, hu, hle2, rfl, h2, h3⟩)
              · have HM3 := Lib.hid (HM2.out.rd h2 h3)
                have HE := Lib.hid (show Gm.nO ⟨T2, V, s2, L, R, BB.drop at2⟩ = none from nO_e2 HB1.out h1)
                clear h1 h2 h3 HM2
                go_wp2_with fail
                refine (CX.out z hzl _ _ HM3.out.rf hle).mono ?_
                rintro e w7 (⟨h1, rfl, h2, h3⟩ | ⟨X, h1, hX, hle3, rfl, h2, h3⟩)
                · have HP := Lib.hid (HX.out w7 HE.out (HM3.out.rd h2 h3).bel)
                  clear h1 h2 h3
                  go_wp2_with fail
                  go_ret2
                  exact HP.out
                · have HP := Lib.hid (HX.out w7 HE.out (HM3.out.rd h2 h3).bel)
                  clear h1 h2 h3
                  go_wp2_with fail
                  go_ret2
                  exact HP.out
              · have HM3 := Lib.hid (HM2.out.rd h2 h3)
                have HB2 := Lib.hid h1
                clear h1 h2 h3 HM2
                have hu2 : u = 0 ∨ u = 1 := by omega
                rcases hu2 with rfl | rfl
                · have EQ := Lib.hid (show Gm.nO ⟨T2, V, s2, L, R, BB.drop at2⟩ = Gm.xO ⟨T2, V, s2, L, R, BB.drop at2⟩ (L, R, BB.drop (at2 + 1 + 1)) from nO_old HB1.out HB2.out)
                  rw [show ((0 : Nat) : Int) = 0 from rfl]
                  go_wp2_with fail
                  refine (CX.out z hzl _ _ HM3.out.rf hle2).mono ?_
                  rintro e w8 (⟨h1, rfl, h2, h3⟩ | ⟨X, h1, hX, hle9, rfl, h2, h3⟩)
                  · rw [← HZZ.out] at h1
                    have HP := Lib.hid (HX.out w8 (by rw [EQ.out]; exact xO_e h1) (HM3.out.rd h2 h3).bel)
                    clear h1 h2 h3
                    go_wp2_with fail
                    go_ret2
                    exact HP.out
                  · have HM8 := Lib.hid (HM3.out.rd h2 h3)
                    have h1' := h1
                    rw [← HZZ.out] at h1'
                    have HN8 := Lib.hid (show Gm.dIt 1 BB = some (l ++ [⟨T2, V ^^^ ((X <<< R) % 18446744073709551616)⟩], ⟨T2, V ^^^ ((X <<< R) % 18446744073709551616), s2, L, R, BB.drop (at2 + 1 + 1 + z)⟩) from by rw [HNX.out, EQ.out, xO_ok h1', HZZ.out]; rfl)
                    have hsh := shl_word X R (by omega)
                    have hxo := u64_xor_nat V ((X <<< R) % 18446744073709551616) hVl (Nat.mod_lt _ (by decide))
                    have hRw : IntKind.u64.wrap ((R : Nat) : Int) = ((R : Nat) : Int) := by rw [IntKind.wrap_u64]; omega
                    obtain ⟨Y, hY⟩ : ∃ Y, (X <<< R) % 18446744073709551616 = Y := ⟨_, rfl⟩
                    rw [hY] at hsh hxo HN8
                    obtain ⟨V2, hV2⟩ : ∃ V2, V ^^^ Y = V2 := ⟨_, rfl⟩
                    rw [hV2] at hxo HN8
                    clear h1 h1' h2 h3 hY hV2 HM3
                    have HSRC := Lib.hid (two_cellsN w8 ⟨T2, V2⟩)
                    have HONE := Lib.hid (show ∀ u ∈ ([.int .i64 T2, .int .u64 ((V2 : Nat) : Int)] : List Value), u.oneCell' = true by simp [Value.oneCell'])
                    have HOW := Lib.hid (own_row HM8.out.own HLN.out)
                    go_wp2_with (at_builtin; refine wpList_append_own_at _ rfl (.tmp 150) (.tmp 154) 22 rfl q 79 i0 (.agg #[.int .i64 0, .int .u64 0]) 2 16 Tryz.underlying22 HI0.out.1 HI0.out.2.1 HI0.out.2.2.1 HI0.out.2.2.2 rfl (by decide) (.slice av 1 cv) 1 (smC l) rfl (HOW.out.alloc _) ⟨w8.heap.size, 0, none⟩ 1 1 [.int .i64 T2, .int .u64 ((V2 : Nat) : Int)] rfl rfl HSRC.out HONE.out (by have := HMM.out; unfold maxLen; omega) (by have := HMM.out; omega) (by have := HM8.out.sz; simp; omega) ?_; intro v9 w9 hown9 hgr9 _ _; have HM9 := Lib.hid (HM8.out.add (l' := l ++ [⟨T2, V2⟩]) (by unfold OwnS; rw [smC_snoc, List.length_append, HLN.out]; exact hown9) hgr9); clear hown9 hgr9)
                    obtain ⟨av9, cv9, rfl, _⟩ := HM9.out.own.shape
                    have hl9 : (l ++ [(⟨T2, V2⟩ : Smp)]).length = 1 + 1 := by rw [List.length_append, HLN.out]; rfl
                    rw [hl9] at HM9 ⊢
                    clear hl9 HSRC HONE HOW
                    go_wp2_with fail
                    go_roundw
                    case rel => exact ⟨1 + 1, l ++ [⟨T2, V2⟩], ⟨T2, V2, s2, L, R, BB.drop (at2 + 1 + 1 + z)⟩, at2 + 1 + 1 + z, by omega, by omega, rfl, rfl, rfl, rfl, rfl, ⟨_, _, rfl⟩, Lib.hid ⟨by rw [Nat.add_sub_cancel]; exact HN8.out, rfl, hle9, HM9.out⟩⟩
                    case measure => simp [lenV]; omega
                · have EQ0 := Lib.hid (nO_new (d := ⟨T2, V, s2, L, R, BB.drop at2⟩) HB1.out HB2.out)
                  rw [show ((1 : Nat) : Int) = 1 from rfl]
                  clear hz1 hz2 hz3 hz4
                  go_wp2_with fail
                  refine (C5.out _ _ HM3.out.rf hle2).mono ?_
                  rintro e w7 (⟨h1, rfl, h2, h3⟩ | ⟨x5, h1, hx5, hle5, rfl, h2, h3⟩)
                  · have HM4 := Lib.hid (HM3.out.rd h2 h3)
                    have HE := Lib.hid (show Gm.nO ⟨T2, V, s2, L, R, BB.drop at2⟩ = none from by rw [EQ0.out, wO_e h1]; rfl)
                    clear h1 h2 h3 HM3
                    go_wp2_with fail
                    refine (C6.out _ _ HM4.out.rf hle2).mono ?_
                    rintro e w8 (⟨h1, rfl, h2, h3⟩ | ⟨x6, h1, hx6, hle6, rfl, h2, h3⟩)
                    · have HP := Lib.hid (HX.out w8 HE.out (HM4.out.rd h2 h3).bel)
                      clear h1 h2 h3
                      go_wp2_with fail
                      go_ret2
                      exact HP.out
                    · have HP := Lib.hid (HX.out w8 HE.out (HM4.out.rd h2 h3).bel)
                      have hcw : IntKind.i64.wrap (x6 : Int) = (x6 : Int) := by rw [i64_is]; unfold RowKit.wrap64; omega
                      clear h1 h2 h3
                      go_wp2_with fail
                      go_ret2
                      exact HP.out
                  · have HM4 := Lib.hid (HM3.out.rd h2 h3)
                    have HB5 := Lib.hid h1
                    have hcw : IntKind.i64.wrap (x5 : Int) = (x5 : Int) := by rw [i64_is]; unfold RowKit.wrap64; omega
                    clear h1 h2 h3 HM3
                    go_wp2_with fail
                    refine (C6.out _ _ HM4.out.rf hle5).mono ?_
                    rintro e w8 (⟨h1, rfl, h2, h3⟩ | ⟨x6, h1, hx6, hle6, rfl, h2, h3⟩)
                    · have HP := Lib.hid (HX.out w8 (by rw [EQ0.out, wO_e2 HB5.out h1]; rfl) (HM4.out.rd h2 h3).bel)
                      clear h1 h2 h3
                      go_wp2_with fail
                      go_ret2
                      exact HP.out
                    · have HM5 := Lib.hid (HM4.out.rd h2 h3)
                      have HB6 := Lib.hid h1
                      have hcw6 : IntKind.i64.wrap (x6 : Int) = (x6 : Int) := by rw [i64_is]; unfold RowKit.wrap64; omega
                      have hm1' : IntKind.i64.wrap ((63 : Int) - (x5 : Int)) = (63 : Int) - (x5 : Int) := by rw [i64_is]; unfold RowKit.wrap64; omega
                      clear h1 h2 h3 HM4
                      by_cases hfar : 63 < x5 + x6
                      · have hm2' : IntKind.i64.wrap ((63 : Int) - (x5 : Int) - (x6 : Int)) = (63 : Int) - (x5 : Int) - (x6 : Int) := by rw [i64_is]; unfold RowKit.wrap64; omega
                        have hneg : decide ((63 : Int) - (x5 : Int) - (x6 : Int) < 0) = true := decide_eq_true (by omega)
                        have HP := Lib.hid (HX.out w8 (by rw [EQ0.out, wO_far HB5.out HB6.out hfar]; rfl) HM5.out.bel)
                        go_wp2_with fail
                        go_ret2
                        exact HP.out
                      · obtain ⟨R2, hR2⟩ : ∃ R2, 63 - x5 - x6 = R2 := ⟨_, rfl⟩
                        have hm4' : (63 : Int) - (x5 : Int) - (x6 : Int) = (R2 : Int) := by omega
                        have hm2' : IntKind.i64.wrap ((63 : Int) - (x5 : Int) - (x6 : Int)) = (R2 : Int) := by rw [i64_is, hm4']; unfold RowKit.wrap64; omega
                        have hm3' : IntKind.i64.wrap (R2 : Int) = (R2 : Int) := by rw [i64_is]; unfold RowKit.wrap64; omega
                        have hneg : decide ((R2 : Int) < 0) = false := decide_eq_false (by omega)
                        have EQ := Lib.hid (show Gm.nO ⟨T2, V, s2, L, R, BB.drop at2⟩ = Gm.xO ⟨T2, V, s2, L, R, BB.drop at2⟩ (x5, R2, BB.drop (at2 + 1 + 1 + 5 + 6)) from by rw [EQ0.out, wO_ok HB5.out HB6.out hfar, hR2]; rfl)
                        obtain ⟨z2, hz2e⟩ : ∃ z2, 64 - x5 - R2 = z2 := ⟨_, rfl⟩
                        have HZ2 := Lib.hid hz2e
                        have hzl2 : z2 ≤ 64 := by omega
                        have hz1 : IntKind.i64.wrap ((64 : Int) - (x5 : Int)) = (64 : Int) - (x5 : Int) := by rw [i64_is]; unfold RowKit.wrap64; omega
                        have hz3 : (64 : Int) - (x5 : Int) - (R2 : Int) = (z2 : Int) := by omega
                        have hz2 : IntKind.i64.wrap ((64 : Int) - (x5 : Int) - (R2 : Int)) = (z2 : Int) := by rw [i64_is, hz3]; unfold RowKit.wrap64; omega
                        have hz4 : IntKind.i64.wrap (z2 : Int) = (z2 : Int) := by rw [i64_is]; unfold RowKit.wrap64; omega
                        have hR63 : R2 ≤ 63 := by omega
                        clear hR2 hz2e
                        go_wp2_with fail
                        refine (CX.out z2 hzl2 _ _ HM5.out.rf hle6).mono ?_
                        rintro e w8 (⟨h1, rfl, h2, h3⟩ | ⟨X, h1, hX, hle9, rfl, h2, h3⟩)
                        · rw [← HZ2.out] at h1
                          have HP := Lib.hid (HX.out w8 (by rw [EQ.out]; exact xO_e h1) (HM5.out.rd h2 h3).bel)
                          clear h1 h2 h3
                          go_wp2_with fail
                          go_ret2
                          exact HP.out
                        · have HM8 := Lib.hid (HM5.out.rd h2 h3)
                          have h1' := h1
                          rw [← HZ2.out] at h1'
                          have HN8 := Lib.hid (show Gm.dIt 1 BB = some (l ++ [⟨T2, V ^^^ ((X <<< R2) % 18446744073709551616)⟩], ⟨T2, V ^^^ ((X <<< R2) % 18446744073709551616), s2, x5, R2, BB.drop (at2 + 1 + 1 + 5 + 6 + z2)⟩) from by rw [HNX.out, EQ.out, xO_ok h1', HZ2.out]; rfl)
                          have hsh := shl_word X R2 (by omega)
                          have hxo := u64_xor_nat V ((X <<< R2) % 18446744073709551616) hVl (Nat.mod_lt _ (by decide))
                          have hRw : IntKind.u64.wrap ((R2 : Nat) : Int) = ((R2 : Nat) : Int) := by rw [IntKind.wrap_u64]; omega
                          obtain ⟨Y, hY⟩ : ∃ Y, (X <<< R2) % 18446744073709551616 = Y := ⟨_, rfl⟩
                          rw [hY] at hsh hxo HN8
                          obtain ⟨V2, hV2⟩ : ∃ V2, V ^^^ Y = V2 := ⟨_, rfl⟩
                          rw [hV2] at hxo HN8
                          clear h1 h1' h2 h3 hY hV2 HM5
                          have HSRC := Lib.hid (two_cellsN w8 ⟨T2, V2⟩)
                          have HONE := Lib.hid (show ∀ u ∈ ([.int .i64 T2, .int .u64 ((V2 : Nat) : Int)] : List Value), u.oneCell' = true by simp [Value.oneCell'])
                          have HOW := Lib.hid (own_row HM8.out.own HLN.out)
                          go_wp2_with (at_builtin; refine wpList_append_own_at _ rfl (.tmp 150) (.tmp 154) 22 rfl q 79 i0 (.agg #[.int .i64 0, .int .u64 0]) 2 16 Tryz.underlying22 HI0.out.1 HI0.out.2.1 HI0.out.2.2.1 HI0.out.2.2.2 rfl (by decide) (.slice av 1 cv) 1 (smC l) rfl (HOW.out.alloc _) ⟨w8.heap.size, 0, none⟩ 1 1 [.int .i64 T2, .int .u64 ((V2 : Nat) : Int)] rfl rfl HSRC.out HONE.out (by have := HMM.out; unfold maxLen; omega) (by have := HMM.out; omega) (by have := HM8.out.sz; simp; omega) ?_; intro v9 w9 hown9 hgr9 _ _; have HM9 := Lib.hid (HM8.out.add (l' := l ++ [⟨T2, V2⟩]) (by unfold OwnS; rw [smC_snoc, List.length_append, HLN.out]; exact hown9) hgr9); clear hown9 hgr9)
                          obtain ⟨av9, cv9, rfl, _⟩ := HM9.out.own.shape
                          have hl9 : (l ++ [(⟨T2, V2⟩ : Smp)]).length = 1 + 1 := by rw [List.length_append, HLN.out]; rfl
                          rw [hl9] at HM9 ⊢
                          clear hl9 HSRC HONE HOW
                          go_wp2_with fail
                          go_roundw
                          case rel => exact ⟨1 + 1, l ++ [⟨T2, V2⟩], ⟨T2, V2, s2, x5, R2, BB.drop (at2 + 1 + 1 + 5 + 6 + z2)⟩, at2 + 1 + 1 + 5 + 6 + z2, by omega, by omega, rfl, rfl, rfl, rfl, rfl, ⟨_, _, rfl⟩, Lib.hid ⟨by rw [Nat.add_sub_cancel]; exact HN8.out, rfl, hle9, HM9.out⟩⟩
                          case measure => simp [lenV]; omega
      · have e1 : ((m : Int) == 1) = false := by simp; omega
        have e2 : ¬ (m : Int) = 1 := by omega
        go_wp2_with fail
        refine HTB.out.mono ?_
        rintro e w4 ⟨v4, x, at2, rfl, hat2, h2, h3, hv4, h4⟩
        rcases h4 with ⟨rfl, h1⟩ | ⟨hx, h1⟩
        · have HM1 := Lib.hid (HM.out.rd h2 h3)
          obtain ⟨s2, hs2e⟩ : ∃ s2, (st + v4) % 18446744073709551616 = s2 := ⟨_, rfl⟩
          have hs2 : s2 < 18446744073709551616 := by omega
          have hadd : IntKind.u64.wrap ((st : Int) + (v4 : Int)) = (s2 : Int) := by rw [add_word, hs2e]
          have HTO := Lib.hid (show Gm.tO m st (BB.drop at_) = some (s2, BB.drop at2) from by unfold Gm.tO; rw [if_neg hm3, h1]; simp only [Option.map_some, hs2e])
          clear h1 h2 h3 HM hat HTB hs2e
          rw [show ((0 : Nat) : Int) = 0 from rfl]
          have HYN := Lib.hid (show Gm.dNext m ⟨T, V, st, L, R, BB.drop at_⟩ = Gm.nO ⟨Gm.wI (T + Gm.i64 s2), V, s2, L, R, BB.drop at2⟩ from by unfold Gm.dNext; rw [show Gm.tO m (Dr.step ⟨T, V, st, L, R, BB.drop at_⟩) (Dr.S ⟨T, V, st, L, R, BB.drop at_⟩) = _ from HTO.out]; rfl)
          rw [HYN.out] at HX HNX
          have htw := time_word T s2 hs2
          obtain ⟨T2, hT2⟩ : ∃ T2, Gm.wI (T + Gm.i64 s2) = T2 := ⟨_, rfl⟩
          rw [hT2] at htw HX HNX
          clear hT2 HTO HYN
          go_wp2_with fail
          refine (C1.out _ _ HM1.out.rf hat2).mono ?_
          rintro e w5 (⟨h1, rfl, h2, h3⟩ | ⟨b, h1, hb, hle, rfl, h2, h3⟩)
          · have HP := Lib.hid (HX.out w5 (nO_e h1) (HM1.out.rd h2 h3).bel)
            clear h1 h2 h3
            go_wp2_with fail
            go_ret2
            exact HP.out
          · have HM2 := Lib.hid (HM1.out.rd h2 h3)
            have HB1 := Lib.hid h1
            clear h1 h2 h3 HM1
            have hb2 : b = 0 ∨ b = 1 := by omega
            rcases hb2 with rfl | rfl
            · have HN := Lib.hid (show Gm.dIt m BB = some (l ++ [⟨T2, V⟩], ⟨T2, V, s2, L, R, BB.drop (at2 + 1)⟩) from by rw [HNX.out, nO_same HB1.out]; rfl)
              rw [show ((0 : Nat) : Int) = 0 from rfl]
              have HSRC := Lib.hid (two_cellsN w5 ⟨T2, V⟩)
              have HONE := Lib.hid (show ∀ u ∈ ([.int .i64 T2, .int .u64 ((V : Nat) : Int)] : List Value), u.oneCell' = true by simp [Value.oneCell'])
              have HOW := Lib.hid (own_row HM2.out.own HLN.out)
              go_wp2_with (at_builtin; refine wpList_append_own_at _ rfl (.tmp 150) (.tmp 154) 22 rfl q 79 i0 (.agg #[.int .i64 0, .int .u64 0]) 2 16 Tryz.underlying22 HI0.out.1 HI0.out.2.1 HI0.out.2.2.1 HI0.out.2.2.2 rfl (by decide) (.slice av m cv) m (smC l) rfl (HOW.out.alloc _) ⟨w5.heap.size, 0, none⟩ 1 1 [.int .i64 T2, .int .u64 ((V : Nat) : Int)] rfl rfl HSRC.out HONE.out (by have := HMM.out; unfold maxLen; omega) (by have := HMM.out; omega) (by have := HM2.out.sz; simp; omega) ?_; intro v9 w9 hown9 hgr9 _ _; have HM9 := Lib.hid (HM2.out.add (l' := l ++ [⟨T2, V⟩]) (by unfold OwnS; rw [smC_snoc, List.length_append, HLN.out]; exact hown9) hgr9); clear hown9 hgr9)
              obtain ⟨av9, cv9, rfl, _⟩ := HM9.out.own.shape
              have hl9 : (l ++ [(⟨T2, V⟩ : Smp)]).length = m + 1 := by rw [List.length_append, HLN.out]; rfl
              rw [hl9] at HM9 ⊢
              clear hl9 HSRC HONE HOW
              go_wp2_with fail
              go_roundw
              case rel => exact ⟨m + 1, l ++ [⟨T2, V⟩], ⟨T2, V, s2, L, R, BB.drop (at2 + 1)⟩, at2 + 1, by omega, by omega, rfl, rfl, rfl, rfl, rfl, ⟨_, _, rfl⟩, Lib.hid ⟨by rw [Nat.add_sub_cancel]; exact HN.out, rfl, hle, HM9.out⟩⟩
              case measure => simp [lenV]; omega
            · rw [show ((1 : Nat) : Int) = 1 from rfl]
              go_wp2_with fail
              refine (C1.out _ _ HM2.out.rf hle).mono ?_
              rintro e w6 (⟨h1, rfl, h2, h3⟩ | ⟨u, h1, hu, hle2, rfl, h2, h3⟩)
              · have HM3 := Lib.hid (HM2.out.rd h2 h3)
                have HE := Lib.hid (show Gm.nO ⟨T2, V, s2, L, R, BB.drop at2⟩ = none from nO_e2 HB1.out h1)
                clear h1 h2 h3 HM2
                go_wp2_with fail
                refine (CX.out z hzl _ _ HM3.out.rf hle).mono ?_
                rintro e w7 (⟨h1, rfl, h2, h3⟩ | ⟨X, h1, hX, hle3, rfl, h2, h3⟩)
                · have HP := Lib.hid (HX.out w7 HE.out (HM3.out.rd h2 h3).bel)
                  clear h1 h2 h3
                  go_wp2_with fail
                  go_ret2
                  exact HP.out
                · have HP := Lib.hid (HX.out w7 HE.out (HM3.out.rd h2 h3).bel)
                  clear h1 h2 h3
                  go_wp2_with fail
                  go_ret2
                  exact HP.out
              · have HM3 := Lib.hid (HM2.out.rd h2 h3)
                have HB2 := Lib.hid h1
                clear h1 h2 h3 HM2
                have hu2 : u = 0 ∨ u = 1 := by omega
                rcases hu2 with rfl | rfl
                · have EQ := Lib.hid (show Gm.nO ⟨T2, V, s2, L, R, BB.drop at2⟩ = Gm.xO ⟨T2, V, s2, L, R, BB.drop at2⟩ (L, R, BB.drop (at2 + 1 + 1)) from nO_old HB1.out HB2.out)
                  rw [show ((0 : Nat) : Int) = 0 from rfl]
                  go_wp2_with fail
                  refine (CX.out z hzl _ _ HM3.out.rf hle2).mono ?_
                  rintro e w8 (⟨h1, rfl, h2, h3⟩ | ⟨X, h1, hX, hle9, rfl, h2, h3⟩)
                  · rw [← HZZ.out] at h1
                    have HP := Lib.hid (HX.out w8 (by rw [EQ.out]; exact xO_e h1) (HM3.out.rd h2 h3).bel)
                    clear h1 h2 h3
                    go_wp2_with fail
                    go_ret2
                    exact HP.out
                  · have HM8 := Lib.hid (HM3.out.rd h2 h3)
                    have h1' := h1
                    rw [← HZZ.out] at h1'
                    have HN8 := Lib.hid (show Gm.dIt m BB = some (l ++ [⟨T2, V ^^^ ((X <<< R) % 18446744073709551616)⟩], ⟨T2, V ^^^ ((X <<< R) % 18446744073709551616), s2, L, R, BB.drop (at2 + 1 + 1 + z)⟩) from by rw [HNX.out, EQ.out, xO_ok h1', HZZ.out]; rfl)
                    have hsh := shl_word X R (by omega)
                    have hxo := u64_xor_nat V ((X <<< R) % 18446744073709551616) hVl (Nat.mod_lt _ (by decide))
                    have hRw : IntKind.u64.wrap ((R : Nat) : Int) = ((R : Nat) : Int) := by rw [IntKind.wrap_u64]; omega
                    obtain ⟨Y, hY⟩ : ∃ Y, (X <<< R) % 18446744073709551616 = Y := ⟨_, rfl⟩
                    rw [hY] at hsh hxo HN8
                    obtain ⟨V2, hV2⟩ : ∃ V2, V ^^^ Y = V2 := ⟨_, rfl⟩
                    rw [hV2] at hxo HN8
                    clear h1 h1' h2 h3 hY hV2 HM3
                    have HSRC := Lib.hid (two_cellsN w8 ⟨T2, V2⟩)
                    have HONE := Lib.hid (show ∀ u ∈ ([.int .i64 T2, .int .u64 ((V2 : Nat) : Int)] : List Value), u.oneCell' = true by simp [Value.oneCell'])
                    have HOW := Lib.hid (own_row HM8.out.own HLN.out)
                    go_wp2_with (at_builtin; refine wpList_append_own_at _ rfl (.tmp 150) (.tmp 154) 22 rfl q 79 i0 (.agg #[.int .i64 0, .int .u64 0]) 2 16 Tryz.underlying22 HI0.out.1 HI0.out.2.1 HI0.out.2.2.1 HI0.out.2.2.2 rfl (by decide) (.slice av m cv) m (smC l) rfl (HOW.out.alloc _) ⟨w8.heap.size, 0, none⟩ 1 1 [.int .i64 T2, .int .u64 ((V2 : Nat) : Int)] rfl rfl HSRC.out HONE.out (by have := HMM.out; unfold maxLen; omega) (by have := HMM.out; omega) (by have := HM8.out.sz; simp; omega) ?_; intro v9 w9 hown9 hgr9 _ _; have HM9 := Lib.hid (HM8.out.add (l' := l ++ [⟨T2, V2⟩]) (by unfold OwnS; rw [smC_snoc, List.length_append, HLN.out]; exact hown9) hgr9); clear hown9 hgr9)
                    obtain ⟨av9, cv9, rfl, _⟩ := HM9.out.own.shape
                    have hl9 : (l ++ [(⟨T2, V2⟩ : Smp)]).length = m + 1 := by rw [List.length_append, HLN.out]; rfl
                    rw [hl9] at HM9 ⊢
                    clear hl9 HSRC HONE HOW
                    go_wp2_with fail
                    go_roundw
                    case rel => exact ⟨m + 1, l ++ [⟨T2, V2⟩], ⟨T2, V2, s2, L, R, BB.drop (at2 + 1 + 1 + z)⟩, at2 + 1 + 1 + z, by omega, by omega, rfl, rfl, rfl, rfl, rfl, ⟨_, _, rfl⟩, Lib.hid ⟨by rw [Nat.add_sub_cancel]; exact HN8.out, rfl, hle9, HM9.out⟩⟩
                    case measure => simp [lenV]; omega
                · have EQ0 := Lib.hid (nO_new (d := ⟨T2, V, s2, L, R, BB.drop at2⟩) HB1.out HB2.out)
                  rw [show ((1 : Nat) : Int) = 1 from rfl]
                  clear hz1 hz2 hz3 hz4
                  go_wp2_with fail
                  refine (C5.out _ _ HM3.out.rf hle2).mono ?_
                  rintro e w7 (⟨h1, rfl, h2, h3⟩ | ⟨x5, h1, hx5, hle5, rfl, h2, h3⟩)
                  · have HM4 := Lib.hid (HM3.out.rd h2 h3)
                    have HE := Lib.hid (show Gm.nO ⟨T2, V, s2, L, R, BB.drop at2⟩ = none from by rw [EQ0.out, wO_e h1]; rfl)
                    clear h1 h2 h3 HM3
                    go_wp2_with fail
                    refine (C6.out _ _ HM4.out.rf hle2).mono ?_
                    rintro e w8 (⟨h1, rfl, h2, h3⟩ | ⟨x6, h1, hx6, hle6, rfl, h2, h3⟩)
                    · have HP := Lib.hid (HX.out w8 HE.out (HM4.out.rd h2 h3).bel)
                      clear h1 h2 h3
                      go_wp2_with fail
                      go_ret2
                      exact HP.out
                    · have HP := Lib.hid (HX.out w8 HE.out (HM4.out.rd h2 h3).bel)
                      have hcw : IntKind.i64.wrap (x6 : Int) = (x6 : Int) := by rw [i64_is]; unfold RowKit.wrap64; omega
                      clear h1 h2 h3
                      go_wp2_with fail
                      go_ret2
                      exact HP.out
                  · have HM4 := Lib.hid (HM3.out.rd h2 h3)
                    have HB5 := Lib.hid h1
                    have hcw : IntKind.i64.wrap (x5 : Int) = (x5 : Int) := by rw [i64_is]; unfold RowKit.wrap64; omega
                    clear h1 h2 h3 HM3
                    go_wp2_with fail
                    refine (C6.out _ _ HM4.out.rf hle5).mono ?_
                    rintro e w8 (⟨h1, rfl, h2, h3⟩ | ⟨x6, h1, hx6, hle6, rfl, h2, h3⟩)
                    · have HP := Lib.hid (HX.out w8 (by rw [EQ0.out, wO_e2 HB5.out h1]; rfl) (HM4.out.rd h2 h3).bel)
                      clear h1 h2 h3
                      go_wp2_with fail
                      go_ret2
                      exact HP.out
                    · have HM5 := Lib.hid (HM4.out.rd h2 h3)
                      have HB6 := Lib.hid h1
                      have hcw6 : IntKind.i64.wrap (x6 : Int) = (x6 : Int) := by rw [i64_is]; unfold RowKit.wrap64; omega
                      have hm1' : IntKind.i64.wrap ((63 : Int) - (x5 : Int)) = (63 : Int) - (x5 : Int) := by rw [i64_is]; unfold RowKit.wrap64; omega
                      clear h1 h2 h3 HM4
                      by_cases hfar : 63 < x5 + x6
                      · have hm2' : IntKind.i64.wrap ((63 : Int) - (x5 : Int) - (x6 : Int)) = (63 : Int) - (x5 : Int) - (x6 : Int) := by rw [i64_is]; unfold RowKit.wrap64; omega
                        have hneg : decide ((63 : Int) - (x5 : Int) - (x6 : Int) < 0) = true := decide_eq_true (by omega)
                        have HP := Lib.hid (HX.out w8 (by rw [EQ0.out, wO_far HB5.out HB6.out hfar]; rfl) HM5.out.bel)
                        go_wp2_with fail
                        go_ret2
                        exact HP.out
                      · obtain ⟨R2, hR2⟩ : ∃ R2, 63 - x5 - x6 = R2 := ⟨_, rfl⟩
                        have hm4' : (63 : Int) - (x5 : Int) - (x6 : Int) = (R2 : Int) := by omega
                        have hm2' : IntKind.i64.wrap ((63 : Int) - (x5 : Int) - (x6 : Int)) = (R2 : Int) := by rw [i64_is, hm4']; unfold RowKit.wrap64; omega
                        have hm3' : IntKind.i64.wrap (R2 : Int) = (R2 : Int) := by rw [i64_is]; unfold RowKit.wrap64; omega
                        have hneg : decide ((R2 : Int) < 0) = false := decide_eq_false (by omega)
                        have EQ := Lib.hid (show Gm.nO ⟨T2, V, s2, L, R, BB.drop at2⟩ = Gm.xO ⟨T2, V, s2, L, R, BB.drop at2⟩ (x5, R2, BB.drop (at2 + 1 + 1 + 5 + 6)) from by rw [EQ0.out, wO_ok HB5.out HB6.out hfar, hR2]; rfl)
                        obtain ⟨z2, hz2e⟩ : ∃ z2, 64 - x5 - R2 = z2 := ⟨_, rfl⟩
                        have HZ2 := Lib.hid hz2e
                        have hzl2 : z2 ≤ 64 := by omega
                        have hz1 : IntKind.i64.wrap ((64 : Int) - (x5 : Int)) = (64 : Int) - (x5 : Int) := by rw [i64_is]; unfold RowKit.wrap64; omega
                        have hz3 : (64 : Int) - (x5 : Int) - (R2 : Int) = (z2 : Int) := by omega
                        have hz2 : IntKind.i64.wrap ((64 : Int) - (x5 : Int) - (R2 : Int)) = (z2 : Int) := by rw [i64_is, hz3]; unfold RowKit.wrap64; omega
                        have hz4 : IntKind.i64.wrap (z2 : Int) = (z2 : Int) := by rw [i64_is]; unfold RowKit.wrap64; omega
                        have hR63 : R2 ≤ 63 := by omega
                        clear hR2 hz2e
                        go_wp2_with fail
                        refine (CX.out z2 hzl2 _ _ HM5.out.rf hle6).mono ?_
                        rintro e w8 (⟨h1, rfl, h2, h3⟩ | ⟨X, h1, hX, hle9, rfl, h2, h3⟩)
                        · rw [← HZ2.out] at h1
                          have HP := Lib.hid (HX.out w8 (by rw [EQ.out]; exact xO_e h1) (HM5.out.rd h2 h3).bel)
                          clear h1 h2 h3
                          go_wp2_with fail
                          go_ret2
                          exact HP.out
                        · have HM8 := Lib.hid (HM5.out.rd h2 h3)
                          have h1' := h1
                          rw [← HZ2.out] at h1'
                          have HN8 := Lib.hid (show Gm.dIt m BB = some (l ++ [⟨T2, V ^^^ ((X <<< R2) % 18446744073709551616)⟩], ⟨T2, V ^^^ ((X <<< R2) % 18446744073709551616), s2, x5, R2, BB.drop (at2 + 1 + 1 + 5 + 6 + z2)⟩) from by rw [HNX.out, EQ.out, xO_ok h1', HZ2.out]; rfl)
                          have hsh := shl_word X R2 (by omega)
                          have hxo := u64_xor_nat V ((X <<< R2) % 18446744073709551616) hVl (Nat.mod_lt _ (by decide))
                          have hRw : IntKind.u64.wrap ((R2 : Nat) : Int) = ((R2 : Nat) : Int) := by rw [IntKind.wrap_u64]; omega
                          obtain ⟨Y, hY⟩ : ∃ Y, (X <<< R2) % 18446744073709551616 = Y := ⟨_, rfl⟩
                          rw [hY] at hsh hxo HN8
                          obtain ⟨V2, hV2⟩ : ∃ V2, V ^^^ Y = V2 := ⟨_, rfl⟩
                          rw [hV2] at hxo HN8
                          clear h1 h1' h2 h3 hY hV2 HM5
                          have HSRC := Lib.hid (two_cellsN w8 ⟨T2, V2⟩)
                          have HONE := Lib.hid (show ∀ u ∈ ([.int .i64 T2, .int .u64 ((V2 : Nat) : Int)] : List Value), u.oneCell' = true by simp [Value.oneCell'])
                          have HOW := Lib.hid (own_row HM8.out.own HLN.out)
                          go_wp2_with (at_builtin; refine wpList_append_own_at _ rfl (.tmp 150) (.tmp 154) 22 rfl q 79 i0 (.agg #[.int .i64 0, .int .u64 0]) 2 16 Tryz.underlying22 HI0.out.1 HI0.out.2.1 HI0.out.2.2.1 HI0.out.2.2.2 rfl (by decide) (.slice av m cv) m (smC l) rfl (HOW.out.alloc _) ⟨w8.heap.size, 0, none⟩ 1 1 [.int .i64 T2, .int .u64 ((V2 : Nat) : Int)] rfl rfl HSRC.out HONE.out (by have := HMM.out; unfold maxLen; omega) (by have := HMM.out; omega) (by have := HM8.out.sz; simp; omega) ?_; intro v9 w9 hown9 hgr9 _ _; have HM9 := Lib.hid (HM8.out.add (l' := l ++ [⟨T2, V2⟩]) (by unfold OwnS; rw [smC_snoc, List.length_append, HLN.out]; exact hown9) hgr9); clear hown9 hgr9)
                          obtain ⟨av9, cv9, rfl, _⟩ := HM9.out.own.shape
                          have hl9 : (l ++ [(⟨T2, V2⟩ : Smp)]).length = m + 1 := by rw [List.length_append, HLN.out]; rfl
                          rw [hl9] at HM9 ⊢
                          clear hl9 HSRC HONE HOW
                          go_wp2_with fail
                          go_roundw
                          case rel => exact ⟨m + 1, l ++ [⟨T2, V2⟩], ⟨T2, V2, s2, x5, R2, BB.drop (at2 + 1 + 1 + 5 + 6 + z2)⟩, at2 + 1 + 1 + 5 + 6 + z2, by omega, by omega, rfl, rfl, rfl, rfl, rfl, ⟨_, _, rfl⟩, Lib.hid ⟨by rw [Nat.add_sub_cancel]; exact HN8.out, rfl, hle9, HM9.out⟩⟩
                          case measure => simp [lenV]; omega
        · have hx1 : ((x : Int) != 0) = true := by simp; omega
          have hx2 : ¬ (x : Int) = 0 := by omega
          have HP := Lib.hid (HX.out w4 (by unfold Gm.dNext Gm.tO; rw [if_neg hm3]; rw [show Gm.chO 4 (Dr.S ⟨T, V, st, L, R, BB.drop at_⟩) = none from h1]; rfl) (HM.out.rd h2 h3).bel)
          clear h1 h2 h3
          go_wp2_with fail
          go_ret2
          exact HP.out
    · obtain rfl : m = M := by omega
      have da : decide ((m : Int) < (m : Int)) = false := decide_eq_false (by omega)
      have da2 : decide (m < m) = false := decide_eq_false (by omega)
      have hSm : Sms wr av l := by
        obtain ⟨a5, c5, e5, hS5⟩ := HM.out.own.shape
        injection e5 with e5a _ _
        rw [e5a]
        exact hS5
      have CF := Lib.hid (fits_any av m cv l HLN.out (by omega) wr hSm)
      obtain ⟨fe, hfe⟩ : ∃ fe, fitE l = fe := ⟨_, rfl⟩
      rw [hfe] at CF
      have HFE := Lib.hid hfe
      have HSM := Lib.hid hSm
      have HIT := Lib.hid HI.out.1
      clear hfe hSm HI
      go_wp2_with fail
      refine CF.out.mono ?_
      rintro e w4 ⟨rfl, hb4⟩
      have HB4 := Lib.hid hb4
      have HBN := Lib.hid (HM.out.bel.trans (hb4.mono (by have := HM.out.bel.size; have := HNN.out; omega)))
      -- who is a chunk is this one
      have HNO := Lib.hid (show ∀ g, IsC g f t ((m : Nat) : Int) bs → g = l ∧ Gm.IsChk l ⟨f, t, m, bs⟩ ∧ OneC l from by
        rintro g ⟨G, hn9, C⟩
        have hl9 : m = g.length := by omega
        obtain ⟨d9, h9, _⟩ := (dc_iff f t g.length bs (by omega) (by omega) g).2 ⟨G, C⟩
        rw [HBB.out, ← hl9, HIT.out] at h9
        injection h9 with h9
        injection h9 with h9 _
        subst h9
        exact ⟨rfl, by rw [hl9]; exact C, G⟩)
      by_cases hz : fe = 0
      · subst hz
        rw [show ((0 : Nat) : Int) = 0 from rfl]
        have hOK : ∀ x ∈ l, Gm.OkS x := HIN.out.2
        have hll := HLN.out
        obtain ⟨b5, o5, hav, _, hc5⟩ := HSM.out (by intro e; rw [e] at hll; simp at hll; omega)
        have ho5 : o5 = 0 := by
          rcases HM.out.own.2 with ⟨hv, h0⟩ | ⟨gq, cq, cur, hv, _⟩
          · injection hv with e1 _ _; rw [hav] at e1; cases e1
          · injection hv with e1 _ _; rw [hav] at e1; injection e1 with e1; injection e1 with _ e1 _
        subst ho5
        subst hav
        have hSam : Sam w4 b5 0 l := fun i hi => ⟨cell_below (hc5 i hi).1 hb4, cell_below (hc5 i hi).2 hb4⟩
        have CC := Lib.hid (rchunk_any b5 0 m cv l hll (by omega) (by omega) hOK k0 p0 p1 p2 c c0 c1 c2 o9 oa oc od w4 hSam (HTW.out.below (by rw [HNN.out]; exact HBN.out)))
        obtain ⟨F0, hF0⟩ : ∃ F0, (l.getD 0 ⟨0, 0⟩).t = F0 := ⟨_, rfl⟩
        obtain ⟨T0, hT0⟩ : ∃ T0, (l.getD (m - 1) ⟨0, 0⟩).t = T0 := ⟨_, rfl⟩
        rw [hF0, hT0] at CC
        have HFT := Lib.hid (show (Gm.run l).frm = F0 ∧ (Gm.run l).last.t = T0 from ⟨by rw [run_frm1 l (by omega), ← hF0, getD_is l 0 (by omega)], by rw [run_last' l (m - 1) (by omega), ← hT0, getD_is l (m - 1) (by omega)]⟩)
        clear hOK hll hc5 hSam hF0 hT0 hb4 CF
        go_wp2_with fail
        refine CC.out.mono ?_
        rintro e w5 ⟨bs2, k2, a2, cap2, g2, hk2, hP2, rfl, hR2, hg2, hb5⟩
        unfold chV
        have hBy2 := (hR2.bys hP2.1).2
        have A5 := (Below.refl w5.heap.size w5).alloc (Nat.le_refl _) (.cells #[.int .i64 F0, .int .i64 T0, .int .i64 ((m : Nat) : Int), .slice a2 bs2.length cap2] 26)
        have r5 := heap_alloc_new w5 (.cells #[.int .i64 F0, .int .i64 T0, .int .i64 ((m : Nat) : Int), .slice a2 bs2.length cap2] 26)
        have HBW := Lib.hid (show Below n w (w5.alloc (.cells #[.int .i64 F0, .int .i64 T0, .int .i64 ((m : Nat) : Int), .slice a2 bs2.length cap2] 26)) from (HBN.out.trans (hb5.mono (by have := HBN.out.size; have := HNN.out; omega))).trans (A5.mono (by have := HBN.out.size; have := HNN.out; have := hb5.size; omega)))
        have hBX := HBW.out
        have hBysX : Bys (w5.alloc (.cells #[.int .i64 F0, .int .i64 T0, .int .i64 ((m : Nat) : Int), .slice a2 bs2.length cap2] 26)) a bs := HBY.out.below (by rw [HNN.out]; exact hBX)
        have HOUT := Lib.hid (show OwnS (w5.alloc (.cells #[.int .i64 F0, .int .i64 T0, .int .i64 ((m : Nat) : Int), .slice a2 bs2.length cap2] 26)) w.heap.size (.slice (some ⟨b5, 0, none⟩) m cv) l from by
          have h1 := ((HM.out.own.below HB4.out).below hb5).below A5
          refine ⟨h1.1, ?_⟩
          rcases h1.2 with h | ⟨gq, cq, cur, h2, h3, h4⟩
          · exact .inl h
          · exact .inr ⟨gq, cq, cur, h2, by have := HM.out.ne; have := HNN.out; omega, h4⟩)
        have HEQ := Lib.hid (show IsC l f t ((m : Nat) : Int) bs ↔ (F0 = f ∧ T0 = t ∧ bs2 = bs) from by
          constructor
          · intro h
            obtain ⟨_, ⟨c1', c2', c3', kk, hkk, hPP⟩, _⟩ := HNO.out l h
            simp only at c1' c2' hPP
            exact ⟨by rw [c1', HFT.out.1], by rw [c2', HFT.out.2], B2.Bt.packs_unique hP2 hPP hk2 hkk⟩
          · rintro ⟨rfl, rfl, rfl⟩
            obtain ⟨G, C⟩ := (dc_iff F0 T0 m bs2 HMM.out.1 HMM.out.2 l).1 ⟨_, by rw [HBB.out]; exact HIT.out, HFE.out, HFT.out.1, HFT.out.2, k2, hk2, hP2⟩
            have hll := HLN.out
            exact ⟨G, by rw [hll], by rw [hll]; exact C⟩)
        have cv1 := fun nn => conv_bys ((w5.alloc (.cells #[.int .i64 F0, .int .i64 T0, .int .i64 ((m : Nat) : Int), .slice a2 bs2.length cap2] 26)).drewN nn) a2 bs2 bs2.length cap2 rfl ((hBy2.below A5).below (drewn_below _ nn))
        have cv2 := fun nn => conv_bys ((w5.alloc (.cells #[.int .i64 F0, .int .i64 T0, .int .i64 ((m : Nat) : Int), .slice a2 bs2.length cap2] 26)).drewN nn) a bs bs.length cap rfl (hBysX.below (drewn_below _ nn))
        have he : ((strB bs2).toList == (strB bs).toList) = decide (bs2 = bs) := by
          rw [toList_eqb]
          exact decide_eq_decide.2 ⟨fun h => strB_inj bs2 bs hP2.1 HBY.out.2.1 h, fun h => by rw [h]⟩
        have HNOT := Lib.hid (show ∀ W, Below (w5.alloc (.cells #[.int .i64 F0, .int .i64 T0, .int .i64 ((m : Nat) : Int), .slice a2 bs2.length cap2] 26)).heap.size (w5.alloc (.cells #[.int .i64 F0, .int .i64 T0, .int .i64 ((m : Nat) : Int), .slice a2 bs2.length cap2] 26)) W → ¬ (F0 = f ∧ T0 = t ∧ bs2 = bs) → AlPost w f t ((m : Nat) : Int) bs (.returned (.tuple #[.slice (some ⟨b5, 0, none⟩) m cv, .bool false])) W from fun W hb hn9 => ⟨by rw [HNN.out]; exact HBW.out.trans (hb.mono (by have := HBW.out.size; have := HNN.out; omega)), .inr ⟨_, _, _, rfl, fun ⟨g, hg⟩ => hn9 (HEQ.out.1 (by have h := (HNO.out g hg).1; rw [h] at hg; exact hg))⟩⟩)
        have HYES := Lib.hid (show ∀ W, Below (w5.alloc (.cells #[.int .i64 F0, .int .i64 T0, .int .i64 ((m : Nat) : Int), .slice a2 bs2.length cap2] 26)).heap.size (w5.alloc (.cells #[.int .i64 F0, .int .i64 T0, .int .i64 ((m : Nat) : Int), .slice a2 bs2.length cap2] 26)) W → (F0 = f ∧ T0 = t ∧ bs2 = bs) → AlPost w f t ((m : Nat) : Int) bs (.returned (.tuple #[.slice (some ⟨b5, 0, none⟩) m cv, .bool true])) W from fun W hb h9 => ⟨by rw [HNN.out]; exact HBW.out.trans (hb.mono (by have := HBW.out.size; have := HNN.out; omega)), .inl ⟨l, _, rfl, HOUT.out.below hb, HEQ.out.2 h9⟩⟩)
        have hbox := (A5.block n (by have := HM.out.sz; have := HM.out.ne; have := HB4.out.size; have := hb5.size; omega)).trans ((hb5.block n (by have := HM.out.sz; have := HM.out.ne; have := HB4.out.size; omega)).trans ((HB4.out.block n (by have := HM.out.sz; have := HM.out.ne; omega)).trans HM.out.box))
        have hbox5 := ((hb5.block n (by have := HM.out.sz; have := HM.out.ne; have := HB4.out.size; omega)).trans ((HB4.out.block n (by have := HM.out.sz; have := HM.out.ne; omega)).trans HM.out.box))
        obtain ⟨y0, y1, y2, y3⟩ := four73 hbox
        obtain ⟨v0', v1', v2', v3'⟩ := four73 hbox5
        have hnl : n < w5.heap.size := (Array.getElem?_eq_some_iff.1 hbox5).1
        have hnn : n ≠ w5.heap.size := by omega
        have hnn2 : w5.heap.size ≠ n := by omega
        obtain ⟨x0, x1, x2, x3⟩ := four73 r5
        clear A5 r5 hBX hBysX hBy2 hbox hbox5 hP2 hk2 hR2 hg2 hb5 da da2 CC
        by_cases hf : F0 = f
        · have q1 : (F0 == f) = true := by simp [hf]
          by_cases ht : T0 = t
          · have q2 : (T0 == t) = true := by simp [ht]
            by_cases hb : bs2 = bs
            · have q3 : ((strB bs2).toList == (strB bs).toList) = true := by rw [he]; exact decide_eq_true hb
              have HP := Lib.hid (fun W h => HYES.out W h ⟨hf, ht, hb⟩)
              clear HYES HNOT he
              obtain ⟨s1, hs1⟩ : ∃ s1, strB bs2 = s1 := ⟨_, rfl⟩
              obtain ⟨s2, hs2⟩ : ∃ s2, strB bs = s2 := ⟨_, rfl⟩
              rw [hs1] at cv1 q3
              rw [hs2] at cv2 q3
              clear hs1 hs2 hf ht hb
              go_wp2_with fail
              go_quiet (fail)
              go_wp2_with fail
              go_ret2
              first | exact HP.out _ (Below.refl _ _) | exact HP.out _ (drewn_below _ _)
            · have q3 : ((strB bs2).toList == (strB bs).toList) = false := by rw [he]; exact decide_eq_false hb
              have HP := Lib.hid (fun W h => HNOT.out W h (fun h9 => hb h9.2.2))
              clear HYES HNOT he
              obtain ⟨s1, hs1⟩ : ∃ s1, strB bs2 = s1 := ⟨_, rfl⟩
              obtain ⟨s2, hs2⟩ : ∃ s2, strB bs = s2 := ⟨_, rfl⟩
              rw [hs1] at cv1 q3
              rw [hs2] at cv2 q3
              clear hs1 hs2 hf ht hb
              go_wp2_with fail
              go_quiet (fail)
              go_wp2_with fail
              go_ret2
              first | exact HP.out _ (Below.refl _ _) | exact HP.out _ (drewn_below _ _)
          · have q2 : (T0 == t) = false := by simp [ht]
            have HP := Lib.hid (fun W h => HNOT.out W h (fun h9 => ht h9.2.1))
            clear HYES HNOT he hf ht
            go_wp2_with fail
            go_quiet (fail)
            go_wp2_with fail
            go_ret2
            first | exact HP.out _ (Below.refl _ _) | exact HP.out _ (drewn_below _ _)
        · have q1 : (F0 == f) = false := by simp [hf]
          have HP := Lib.hid (fun W h => HNOT.out W h (fun h9 => hf h9.1))
          clear HYES HNOT he hf
          go_wp2_with fail
          go_quiet (fail)
          go_wp2_with fail
          go_ret2
          first | exact HP.out _ (Below.refl _ _) | exact HP.out _ (drewn_below _ _)
      · have hx1 : ((fe : Int) != 0) = true := by simp; omega
        have hx2 : ¬ (fe : Int) = 0 := by omega
        have HP := Lib.hid (show AlPost w f t ((m : Nat) : Int) bs (.returned (.tuple #[.slice none 0 0, .bool false])) w4 from ⟨by rw [HNN.out]; exact HBN.out, .inr ⟨_, _, _, rfl, fun ⟨g, hg⟩ => by
          obtain ⟨_, C, G⟩ := HNO.out g hg
          obtain ⟨d9, _, h2, _⟩ := (dc_iff f t m bs HMM.out.1 HMM.out.2 l).2 ⟨G, C⟩
          rw [HFE.out] at h2
          exact hz h2⟩⟩)
        clear hb4 CF
        go_wp2_with fail
        go_ret2
        exact HP.out
end Go.Proofs.YtdlifcpdlbmijaaGreatDoor
namespace Go.Proofs.YtdlifcpdlbmijaaGreatDoor
set_option linter.unusedVariables false
set_option linter.unusedSimpArgs false
open Go.RowKit Go.PlainAid Go.Shelf
open B2 (Only Bys Row cellsOf)
open Gm (St Smp Chk)
set_option maxHeartbeats 8000000 in
set_option maxRecDepth 100000 in
theorem check_few (f t N : Int) (hN : N < 1) (d : Value) (w : World) :
    Calls Tryz.prog 30 #[.agg (chR f t N d)] w fun e w' => e = .returned (.int .u16 101) ∧ Below w.heap.size w w' := by
  have d1 : decide (N < 1) = true := decide_eq_true hN
  obtain ⟨n, hn⟩ : ∃ n, w.heap.size = n := ⟨_, rfl⟩
  have A1 := (Below.refl w.heap.size w).alloc (Nat.le_refl _) (.cells (chR f t N d) 26)
  have r1 := heap_alloc_new w (.cells (chR f t N d) 26)
  have A2 := A1.alloc (by simp) (.cells #[.int .u16 0] 30)
  have r2 := heap_alloc_new (w.alloc (.cells (chR f t N d) 26)) (.cells #[.int .u16 0] 30)
  have s1 : (w.alloc (.cells (chR f t N d) 26)).heap.size = n + 1 := by simp [hn]
  rw [hn] at r1 A2
  rw [s1] at r2
  have r1 := (Below.heap_alloc (w.alloc (.cells (chR f t N d) 26)) (.cells #[.int .u16 0] 30) n (by rw [s1]; omega)).trans r1
  have x2 : ((w.alloc (.cells (chR f t N d) 26)).alloc (.cells #[.int .u16 0] 30)).cell? ⟨n, 2, none⟩ = some (.int .i64 N) := (cell_of_row _ _ 2 _ _ _ r1).trans rfl
  have y2 : ((w.alloc (.cells (chR f t N d) 26)).alloc (.cells #[.int .u16 0] 30)).cell? ⟨n + 1, 0, none⟩ = some (.int .u16 0) := (cell_of_row _ _ 0 _ _ _ r2).trans rfl
  have f2 := frozen_of_row _ (n + 1) 0 _ _ r2
  have HB := Lib.hid A2
  have HN := Lib.hid hn
  clear A1 A2
  unfold chR at *
  refine (callsIn_wide (n := 8)).1 ?_
  refine callsIn_of_wp_marks Tryz.func30 rfl trivial ?_ rfl
  simp only [Tryz.ntmps30, List.size_toArray, List.length_cons, List.length_nil, Nat.reduceAdd, Nat.reduceSub, Array.replicate_succ, Array.replicate_zero, List.push_toArray, List.append_toArray, List.nil_append, List.cons_append]
  gi_wp2
  have r3 := heap_alloc_new (w.alloc (.cells #[.int .i64 f, .int .i64 t, .int .i64 N, d] 26)) (.cells #[.int .u16 101] 30)
  rw [s1] at r3
  refine ⟨_, res17 rfl (u16_cell r3), rfl, ?_⟩
  rw [HN.out]
  exact (((Below.refl n w).alloc (by omega) _).alloc (by rw [s1]; omega) _)
theorem isC_iff (f t : Int) (N : Nat) (bs : List Nat) : (∃ g, OneC g ∧ Gm.IsChk g ⟨f, t, N, bs⟩) ↔ ∃ g, IsC g f t ((N : Nat) : Int) bs := by
  constructor
  · rintro ⟨g, G, C⟩
    have hn : N = g.length := by rw [← Gm.run_n]; exact C.2.2.1
    exact ⟨g, G, by rw [hn], by rw [← hn]; exact C⟩
  · rintro ⟨g, G, hn, C⟩
    have hn : N = g.length := by omega
    exact ⟨g, G, by rw [hn]; exact C⟩
/-- CHECK of whatever chunk: OK just of the chunks -/
theorem check_all (f t N : Int) (hN : N ≤ 9223372036854775807) (a : Option Addr) (bs : List Nat) (cap : Nat) (hc0 : a = none → cap = 0) (hbd : bs.length ≤ 1000000) (w : World) (H : Bys w a bs) (hT : TabAt w) :
    Calls Tryz.prog 30 #[.agg (chR f t N (.slice a bs.length cap))] w fun e w' => ((e = .returned (.int .u16 0) ∧ ∃ g, IsC g f t N bs) ∨ (e = .returned (.int .u16 101) ∧ ¬ ∃ g, IsC g f t N bs)) ∧ Below w.heap.size w w' := by
  by_cases h1 : N < 1
  · refine (check_few f t N h1 _ w).mono ?_
    rintro e w' ⟨rfl, hb⟩
    exact ⟨.inr ⟨rfl, fun ⟨g, G, hn, _⟩ => by have := G.some; omega⟩, hb⟩
  · obtain ⟨M, rfl⟩ := Int.eq_ofNat_of_zero_le (show 0 ≤ N by omega)
    refine (check_any f t M a bs cap hc0 hbd ⟨by omega, by omega⟩ w H hT _ rfl).mono ?_
    rintro e w' ⟨h, hb⟩
    refine ⟨?_, hb⟩
    rcases h with ⟨rfl, h⟩ | ⟨rfl, h⟩
    · exact .inl ⟨rfl, (isC_iff f t M bs).1 ((ck_iff f t M bs (by omega)).1 h)⟩
    · exact .inr ⟨rfl, fun h2 => h ((ck_iff f t M bs (by omega)).2 ((isC_iff f t M bs).2 h2))⟩
end Go.Proofs.YtdlifcpdlbmijaaGreatDoor
namespace Go.Proofs.YtdlifcpdlbmijaaGreatDoor
set_option linter.unusedVariables false
set_option linter.unusedSimpArgs false
open Go.RowKit Go.PlainAid Go.Shelf
open B2 (Only Bys Row cellsOf owns_only Lent)
open Gm (St Smp Chk)
/-- append into one's own row where there is room, at a step of a region that draws its order -/
theorem step_append_spare {P : Program} {w : World} {K : Act → World → Prop} {E : Prop} {ops : Array Oper} {o : Oper} {a : Act} {Q : Exit → Act → World → Prop} (hgd : o.guard = none) (s x : Operand) (t : TypeId)
    (ho : o.op = .call { callee := .builtin .append, args := #[s, x], argTypes := #[t, t] })
    (base : Nat) (e : TypeId) (i : TypeInfo) (size : Nat) (ht : P.underlying t = some (.slice e)) (hi : P.info? e = some i) (hsize : i.size = size)
    (g n cap : Nat) (xs : List Value) (hs : a.eval s = .slice (some ⟨g, 0, none⟩) n cap) (hown : w.ownsRow base e size (.slice (some ⟨g, 0, none⟩) n cap) n xs)
    (ad : Addr) (m c : Nat) (news : List Value) (hx : a.eval x = .slice (some ad) m c) (hl : news.length = m * size) (hnews : ∀ j u, news[j]? = some u → w.cell? (ad.add j) = some u) (h1 : ∀ u ∈ news, u.oneCell' = true)
    (hroom : n + m ≤ cap)
    (h : ∀ w', w'.ownsRow base e size (.slice (some ⟨g, 0, none⟩) (n + m) cap) (n + m) (xs ++ news) → w.grownBy w' (some g) → K (a.put o.dst (.slice (some ⟨g, 0, none⟩) (n + m) cap)) w') :
    if Region.wanted o (yielded ops a.tmps) = true then Oper.wp P o a w K Q else E := by
  have hw : Region.wanted o (yielded ops a.tmps) = true := by simp [Region.wanted, hgd]
  rw [if_pos hw]
  exact wp_append_own_spare w s x t ho base e i size ht hi hsize g n cap xs hs hown ad m c news hx hl hnews h1 hroom h
theorem info73c : (Tryz.prog.info? 26).map (fun i => (i.zero, i.size, i.bytes)) = some (some (.agg #[.int .i64 0, .int .i64 0, .int .i64 0, .slice none 0 0]), 4, 48) := by kernel_rfl
theorem lent_n (a : Option Addr) (bs : List Nat) (n cap : Nat) (w : World) (hn : bs.length = n) (H : Bys w a bs) (hc0 : a = none → cap = 0) (hsm : n ≤ 100000) :
    Calls Tryz.prog 20 #[.slice a n cap] w fun e w' => ∃ g, w.heap.size ≤ g ∧ e = .returned (.slice (some ⟨g, 0, none⟩) n (n + 2)) ∧ Lent w' g bs ∧ Below w.heap.size w w' := by
  subst hn; exact B2.lent_any a bs cap w H hc0 hsm
theorem four_cellsN (w : World) (C : Array Value) : ∀ j u, C.toList[j]? = some u → (w.alloc (.cells C 26)).cell? ((⟨w.heap.size, 0, none⟩ : Addr).add j) = some u := World.news_of_block (heap_alloc_new w _)
theorem row73_of_owns {w : World} {base g n : Nat} {xs : List Value} (h : w.ownsRow base 26 4 (.slice (some ⟨g, 0, none⟩) n n) n xs) : w.heap[g]? = some (.cells xs.toArray 26 (0, 0)) := by
  obtain ⟨hl, h2⟩ := h
  rcases h2 with ⟨h0, _⟩ | ⟨g', cap, cur, hv, _, hg, _, _, hcs, ht⟩
  · cases h0
  · cases hv
    rw [hg]
    have : cur.toList = xs := by rw [← ht, List.take_of_length_le (by simp; omega)]
    rw [← this]
/-- a chunk lent: the row's block, the bytes' block -/
structure LentC (w : World) (g g2 : Nat) (f t N : Int) (bs : List Nat) : Prop where
  row : w.heap[g]? = some (.cells #[.int .i64 f, .int .i64 t, .int .i64 N, .slice (some ⟨g2, 0, none⟩) bs.length (bs.length + 2), .int .i64 0, .int .i64 0, .int .i64 (-77), .slice none 0 0] 26 (0, 0))
  lent : Lent w g2 bs
theorem LentC.below {w w' : World} {g g2 : Nat} {f t N : Int} {bs : List Nat} (h : LentC w g g2 f t N bs) (hb : Below w.heap.size w w') : LentC w' g g2 f t N bs :=
  ⟨(hb.block g (Array.getElem?_eq_some_iff.1 h.row).1).trans h.row, h.lent.below hb⟩
set_option maxHeartbeats 8000000 in
set_option maxRecDepth 100000 in
theorem lentone_any (h cp : Nat) (f t N : Int) (a : Option Addr) (bs : List Nat) (cap : Nat) (hc0 : a = none → cap = 0) (hbd : bs.length ≤ 100000) (w : World) (hrow : w.heap[h]? = some (.cells (chR f t N (.slice a bs.length cap)) 26 (0, 0))) (H : Bys w a bs) :
    Calls Tryz.prog 5 #[.slice (some ⟨h, 0, none⟩) 1 cp] w fun e w' => ∃ g g2, e = .returned (.slice (some ⟨g, 0, none⟩) 1 2) ∧ LentC w' g g2 f t N bs ∧ w.heap.size ≤ g ∧ w.heap.size ≤ g2 ∧ Below w.heap.size w w' := by
  obtain ⟨i3, hi, hz0, hz1, hz2⟩ := info_parts info73c
  have HI := Lib.hid (And.intro hi (And.intro hz0 (And.intro hz1 hz2)))
  have HH := Lib.hid (And.intro hrow (And.intro H (And.intro hc0 hbd)))
  obtain ⟨y0, y1, y2, y3⟩ := four73 hrow
  obtain ⟨L, hL⟩ : ∃ L, bs.length = L := ⟨_, rfl⟩
  rw [hL] at y3
  have HL := Lib.hid hL
  have HLT := Lib.hid ((Array.getElem?_eq_some_iff.1 hrow).1)
  clear hrow H hc0 hbd hi hz0 hz1 hL
  go_enter Tryz.func5, Tryz.ntmps5
  go_wp2_with (at_make; refine wpList_make_own _ rfl _ _ 23 rfl w.heap.size 26 i3 (.agg #[.int .i64 0, .int .i64 0, .int .i64 0, .slice none 0 0]) 4 Tryz.underlying23 HI.out.1 HI.out.2.1 HI.out.2.2.1 .i64 .i64 _ 2 rfl rfl (by rfl) (by rw [hz2]; omega) (by unfold maxLen; omega) (Nat.le_refl _) ?_; intro w1 hown1 hgr1)
  have hb1 : Below w.heap.size w w1 := (Below.refl _ _).grown hgr1 (Nat.le_refl _) (fun k hk => by cases hk)
  have HR1 := Lib.hid (And.intro hown1 hb1)
  clear hown1 hgr1 hz2
  refine wp_loop_rounds 3 ?_
  rw [rounds_succ]
  have x0 := cell_below y0 hb1
  have x1 := cell_below y1 hb1
  have x2 := cell_below y2 hb1
  have x3 := cell_below y3 hb1
  have CL := Lib.hid (fun W (hW : Below w.heap.size w W) => lent_n a bs L cap W HL.out (HH.out.2.1.below hW) HH.out.2.2.1 (by rw [← HL.out]; exact HH.out.2.2.2))
  have HO := Lib.hid (fun W (hW : Below w1.heap.size w1 W) => (owns_only HR1.out.1 (Only.of_below hW []) (fun _ _ => by simp)))
  have HK := Lib.hid (fun W (hW : Below w.heap.size w W) => show (W.cell? ⟨h, 0, none⟩ = some (.int .i64 f) ∧ W.cell? ⟨h, 1, none⟩ = some (.int .i64 t) ∧ W.cell? ⟨h, 2, none⟩ = some (.int .i64 N) ∧ W.cell? ⟨h, 3, none⟩ = some (.slice a L cap)) from ⟨cell_below y0 hW, cell_below y1 hW, cell_below y2 hW, cell_below y3 hW⟩)
  have q : (w1.drew.cell? ⟨h, 0, none⟩ = some (.int .i64 f) ∧ w1.drew.cell? ⟨h, 1, none⟩ = some (.int .i64 t) ∧ w1.drew.cell? ⟨h, 2, none⟩ = some (.int .i64 N) ∧ w1.drew.cell? ⟨h, 3, none⟩ = some (.slice a L cap)) ∧ Below w.heap.size w w1.drew := by
    have hbd : Below w.heap.size w w1.drew := hb1.trans ((drew_below w1).mono hb1.size)
    exact ⟨HK.out _ hbd, hbd⟩
  have HD := Lib.hid (drew_below w1)
  clear y0 y1 y2 y3 hb1
  go_wp2_with fail
  go_region_held_law (fun w' => (w'.cell? ⟨h, 0, none⟩ = some (.int .i64 f) ∧ w'.cell? ⟨h, 1, none⟩ = some (.int .i64 t) ∧ w'.cell? ⟨h, 2, none⟩ = some (.int .i64 N) ∧ w'.cell? ⟨h, 3, none⟩ = some (.slice a L cap)) ∧ Below w.heap.size w w') ((first | exact q | exact HKA.out _ | assumption))
    ((first
      | (refine step_append_spare (by rfl) (.tmp 16) (.tmp 39) 23 (by rfl) w.heap.size 26 i3 4 Tryz.underlying23 HI.out.1 HI.out.2.2.1 w.heap.size 0 2 [] (by simp [Act.eval, Act.put]) ((HO.out _ HB9.out).alloc _) ⟨w9.heap.size, 0, none⟩ 1 1 [.int .i64 f, .int .i64 t, .int .i64 N, .slice (some ⟨g2, 0, none⟩) L (L + 2)] (by simp [Act.eval, Act.put]) (by rfl) HSRC.out HONE.out (by decide) ?_; intro w10 hown10 hgr10; have hb10 := (HL2.out.2.2.alloc HL2.out.2.2.size _).grown hgr10 (by have := HL2.out.2.2.size; simp; omega) (fun k hk => by injection hk with hk; omega); have q10 := And.intro (HK.out w10 hb10) hb10; have HR10 := Lib.hid (And.intro hown10 (And.intro hgr10 hb10)); clear hown10 hgr10 hb10)
      | (go_at_call 20; refine (CL.out _ q.2).mono ?_; rintro e w9 ⟨g2, hg2, rfl, hl2, hb9⟩; have HB9 := Lib.hid (HD.out.trans (hb9.mono HD.out.size)); have hbw := q.2.trans (hb9.mono q.2.size); have q9 := And.intro (HK.out w9 hbw) hbw; have HKA := Lib.hid (fun o => show ((w9.alloc o).cell? ⟨h, 0, none⟩ = some (.int .i64 f) ∧ (w9.alloc o).cell? ⟨h, 1, none⟩ = some (.int .i64 t) ∧ (w9.alloc o).cell? ⟨h, 2, none⟩ = some (.int .i64 N) ∧ (w9.alloc o).cell? ⟨h, 3, none⟩ = some (.slice a L cap)) ∧ Below w.heap.size w (w9.alloc o) from ⟨HK.out _ (hbw.alloc hbw.size o), hbw.alloc hbw.size o⟩); have HL2 := Lib.hid (And.intro hg2 (And.intro hl2 hbw)); have HSRC := Lib.hid (four_cellsN w9 #[.int .i64 f, .int .i64 t, .int .i64 N, .slice (some ⟨g2, 0, none⟩) L (L + 2)]); have HONE := Lib.hid (show ∀ u ∈ ([.int .i64 f, .int .i64 t, .int .i64 N, .slice (some ⟨g2, 0, none⟩) L (L + 2)] : List Value), u.oneCell' = true by simp [Value.oneCell']); clear hg2 hl2 hb9 hbw)))
  have HOW := Lib.hid (show w10.ownsRow w.heap.size 26 4 (.slice (some ⟨w.heap.size, 0, none⟩) 1 2) 1 [.int .i64 f, .int .i64 t, .int .i64 N, .slice (some ⟨g2, 0, none⟩) L (L + 2)] from HR10.out.1)
  have HLT10 := Lib.hid (show Lent w10 g2 bs ∧ w.heap.size < g2 from by
    have h1 := HL2.out
    have hw1 : w.heap.size < w1.heap.size := (HR1.out.1.lt _ rfl).2
    have hlt := (Array.getElem?_eq_some_iff.1 h1.2.1).1
    have hA := h1.2.1.below ((Below.refl w9.heap.size w9).alloc (Nat.le_refl _) (.cells #[.int .i64 f, .int .i64 t, .int .i64 N, .slice (some ⟨g2, 0, none⟩) L (L + 2)] 26))
    have hne : g2 ≠ w.heap.size := by have h3 : w1.heap.size ≤ g2 := h1.1; omega
    exact ⟨(HR10.out.2.1.block g2 (Array.getElem?_eq_some_iff.1 hA).1 (fun hk => by injection hk with hk; omega)).trans hA, by have h3 : w1.heap.size ≤ g2 := h1.1; omega⟩)
  have HSRC2 := Lib.hid (four_cellsN w10 #[.int .i64 0, .int .i64 0, .int .i64 (-77), .slice none 0 0])
  have HONE2 := Lib.hid (show ∀ u ∈ ([.int .i64 0, .int .i64 0, .int .i64 (-77), .slice none 0 0] : List Value), u.oneCell' = true by simp [Value.oneCell'])
  go_wp2_with fail
  rw [rounds_succ]
  go_wp2_with (at_builtin; refine wpList_append_own_spare _ rfl (.tmp 41) (.tmp 43) 23 rfl w.heap.size 26 i3 4 Tryz.underlying23 HI.out.1 HI.out.2.2.1 w.heap.size 1 2 [.int .i64 f, .int .i64 t, .int .i64 N, .slice (some ⟨g2, 0, none⟩) L (L + 2)] rfl (HOW.out.alloc _) ⟨w10.heap.size, 0, none⟩ 1 1 [.int .i64 0, .int .i64 0, .int .i64 (-77), .slice none 0 0] rfl rfl HSRC2.out HONE2.out (by decide) ?_; intro w11 hown11 hgr11; have HR11 := Lib.hid (And.intro hown11 hgr11); clear hown11 hgr11)
  go_ret
  have hA := (Below.refl w10.heap.size w10).alloc (Nat.le_refl _) (.cells #[.int .i64 0, .int .i64 0, .int .i64 (-77), .slice none 0 0] 26)
  have hl := HLT10.out.1.below hA
  refine ⟨w.heap.size, g2, rfl, ⟨?_, (HR11.out.2.block g2 (Array.getElem?_eq_some_iff.1 hl).1 (fun hk => by injection hk with hk; have := HLT10.out.2; omega)).trans hl⟩, Nat.le_refl _, by have := HLT10.out.2; omega, ((HR10.out.2.2.trans (hA.mono HR10.out.2.2.size)).grown HR11.out.2 (by have := HR10.out.2.2.size; simp; omega) (fun k hk => by injection hk with hk; omega))⟩
  rw [HL.out]
  exact row73_of_owns HR11.out.1
end Go.Proofs.YtdlifcpdlbmijaaGreatDoor
namespace Go.Proofs.YtdlifcpdlbmijaaGreatDoor
set_option linter.unusedVariables false
set_option linter.unusedSimpArgs false
open Go.RowKit Go.PlainAid Go.Shelf
open B2 (Only Bys Row cellsOf owns_only Lent)
open Gm (St Smp Chk)
/-- a chunk that came in, whatever it says -/
structure Cin where
  f : Int
  t : Int
  N : Int
  bs : List Nat
def cin0 : Cin := ⟨0, 0, 0, []⟩
/-- chunks that came in, in memory -/
def CinAt (w : World) (a : Option Addr) (Ls : List Cin) : Prop :=
  Ls ≠ [] → ∃ b off, a = some ⟨b, off, none⟩ ∧ b < w.heap.size ∧ ∀ i (hi : i < Ls.length), ∃ d cap, w.cell? ⟨b, off + i * 4, none⟩ = some (.int .i64 Ls[i].f) ∧ w.cell? ⟨b, off + i * 4 + 1, none⟩ = some (.int .i64 Ls[i].t) ∧ w.cell? ⟨b, off + i * 4 + 2, none⟩ = some (.int .i64 Ls[i].N) ∧
    w.cell? ⟨b, off + i * 4 + 3, none⟩ = some (.slice d Ls[i].bs.length cap) ∧ (d = none → cap = 0) ∧ Bys w d Ls[i].bs
theorem CinAt.below {w w' : World} {a : Option Addr} {Ls : List Cin} (h : CinAt w a Ls) (hb : Below w.heap.size w w') : CinAt w' a Ls := fun hn => by
  obtain ⟨b, off, h1, h2, h3⟩ := h hn
  refine ⟨b, off, h1, Nat.lt_of_lt_of_le h2 hb.size, fun i hi => ?_⟩
  obtain ⟨d, cap, c0, c1, c2, c3, h0, hB⟩ := h3 i hi
  exact ⟨d, cap, cell_below c0 hb, cell_below c1 hb, cell_below c2 hb, cell_below c3 hb, h0, hB.below hb⟩
/-- a lent chunk's cells -/
def rowCi (G : Nat → Nat) (Ls : List Cin) (i : Nat) : List Value := [.int .i64 (Ls.getD i cin0).f, .int .i64 (Ls.getD i cin0).t, .int .i64 (Ls.getD i cin0).N, .slice (some ⟨G i, 0, none⟩) (Ls.getD i cin0).bs.length ((Ls.getD i cin0).bs.length + 2)]
structure LentAtC (w wr : World) (g n j : Nat) (G : Nat → Nat) (Ls : List Cin) : Prop where
  row : wr.ownsRow w.heap.size 26 4 (.slice (some ⟨g, 0, none⟩) j (n + 1)) j ((List.range j).flatMap (rowCi G Ls))
  each : ∀ i, i < j → Lent wr (G i) (Ls.getD i cin0).bs ∧ g < G i
  apart : ∀ i k, i < j → k < j → i ≠ k → G i ≠ G k
  low : w.heap.size ≤ g
  below : Below w.heap.size w wr
theorem LentAtC.next {w wr w2 w3 : World} {g n j g' L : Nat} {G : Nat → Nat} {Ls : List Cin} {r : Cin} (H : LentAtC w wr g n j G Ls) (hr : Ls.getD j cin0 = r) (hL : r.bs.length = L) (hg' : wr.heap.size ≤ g') (hl : Lent w2 g' r.bs) (hb : Below wr.heap.size wr w2)
    (hown : w3.ownsRow w.heap.size 26 4 (.slice (some ⟨g, 0, none⟩) (j + 1) (n + 1)) (j + 1) ((List.range j).flatMap (rowCi G Ls) ++ [.int .i64 r.f, .int .i64 r.t, .int .i64 r.N, .slice (some ⟨g', 0, none⟩) L (L + 2)]))
    (hg : (w2.alloc (.cells #[.int .i64 r.f, .int .i64 r.t, .int .i64 r.N, .slice (some ⟨g', 0, none⟩) L (L + 2)] 26)).grownBy w3 (some g)) : LentAtC w w3 g n (j + 1) (fun i => if i = j then g' else G i) Ls := by
  subst hL
  have hA := (Below.refl w2.heap.size w2).alloc (Nat.le_refl _) (.cells #[.int .i64 r.f, .int .i64 r.t, .int .i64 r.N, .slice (some ⟨g', 0, none⟩) r.bs.length (r.bs.length + 2)] 26)
  have hbA : Below wr.heap.size wr (w2.alloc (.cells #[.int .i64 r.f, .int .i64 r.t, .int .i64 r.N, .slice (some ⟨g', 0, none⟩) r.bs.length (r.bs.length + 2)] 26)) := hb.trans (hA.mono hb.size)
  have hlA := hl.below hA
  generalize w2.alloc (.cells #[.int .i64 r.f, .int .i64 r.t, .int .i64 r.N, .slice (some ⟨g', 0, none⟩) r.bs.length (r.bs.length + 2)] 26) = W at *
  have ho : Only [g] W w3 := (Only.refl _ W).grown hg (fun k hk => .inl (by injection hk with hk; simp [hk]))
  have hglt : g < wr.heap.size := (H.row.lt g rfl).2
  have key : ∀ i bs, i ≠ g → Lent W i bs → Lent w3 i bs := fun i bs hi h => (ho.block i (Array.getElem?_eq_some_iff.1 h).1 (by simpa using hi)).trans h
  refine ⟨?_, fun i hi => ?_, fun i k hi hk hik => ?_, H.low, (H.below.trans (hbA.mono H.below.size)).grown hg (by have := hbA.size; have := H.below.size; omega) (fun k hk => by injection hk with hk; subst hk; exact H.low)⟩
  · have e : (List.range (j + 1)).flatMap (rowCi (fun i => if i = j then g' else G i) Ls) = (List.range j).flatMap (rowCi G Ls) ++ [.int .i64 r.f, .int .i64 r.t, .int .i64 r.N, .slice (some ⟨g', 0, none⟩) r.bs.length (r.bs.length + 2)] := by
      rw [List.range_succ, List.flatMap_append]
      congr 1
      · rw [List.flatMap_def, List.flatMap_def]
        congr 1
        refine List.map_congr_left fun i hi => ?_
        have := List.mem_range.1 hi
        simp [rowCi, show i ≠ j by omega]
      · simp only [List.flatMap_cons, List.flatMap_nil, List.append_nil, rowCi, if_true, hr]
    rw [e]; exact hown
  · by_cases e : i = j
    · subst e
      simp only [if_true]
      rw [hr]
      exact ⟨key g' r.bs (by omega) hlA, by omega⟩
    · simp only [if_neg e]
      have h1 := H.each i (by omega)
      exact ⟨key _ _ (by omega) (h1.1.below hbA), h1.2⟩
  · have hlt : ∀ i, i < j → G i < wr.heap.size := fun i hi => (Array.getElem?_eq_some_iff.1 (H.each i hi).1).1
    by_cases e : i = j
    · have e2 : k ≠ j := fun h => hik (by omega)
      simp only [if_pos e, if_neg e2]
      have := hlt k (by omega)
      omega
    · by_cases e2 : k = j
      · simp only [if_neg e, if_pos e2]
        have := hlt i (by omega)
        omega
      · simp only [if_neg e, if_neg e2]
        exact H.apart i k (by omega) (by omega) hik
def mkC : List Value := [.int .i64 0, .int .i64 0, .int .i64 (-77), .slice none 0 0]
/-- the chunks lent, a mark behind them -/
structure LentL (w0 w : World) (g : Nat) (G : Nat → Nat) (Ls : List Cin) : Prop where
  row : w.heap[g]? = some (.cells ((List.range Ls.length).flatMap (rowCi G Ls) ++ mkC).toArray 26 (0, 0))
  each : ∀ i, i < Ls.length → Lent w (G i) (Ls.getD i cin0).bs ∧ g < G i
  apart : ∀ i k, i < Ls.length → k < Ls.length → i ≠ k → G i ≠ G k
  low : w0.heap.size ≤ g
theorem LentL.below {w0 w w' : World} {g : Nat} {G : Nat → Nat} {Ls : List Cin} (H : LentL w0 w g G Ls) (hb : Below w.heap.size w w') : LentL w0 w' g G Ls :=
  ⟨(hb.block g (Array.getElem?_eq_some_iff.1 H.row).1).trans H.row, fun i hi => ⟨(H.each i hi).1.below hb, (H.each i hi).2⟩, H.apart, H.low⟩
theorem LentAtC.done {w wr w3 : World} {g n : Nat} {G : Nat → Nat} {Ls : List Cin} (H : LentAtC w wr g n n G Ls) (hn : Ls.length = n)
    (hown : w3.ownsRow w.heap.size 26 4 (.slice (some ⟨g, 0, none⟩) (n + 1) (n + 1)) (n + 1) ((List.range n).flatMap (rowCi G Ls) ++ mkC))
    (hg : (wr.alloc (.cells #[.int .i64 0, .int .i64 0, .int .i64 (-77), .slice none 0 0] 26)).grownBy w3 (some g)) : LentL w w3 g G Ls ∧ Below w.heap.size w w3 := by
  subst hn
  have hA := (Below.refl wr.heap.size wr).alloc (Nat.le_refl _) (.cells #[.int .i64 0, .int .i64 0, .int .i64 (-77), .slice none 0 0] 26)
  have he : ∀ i, i < Ls.length → Lent (wr.alloc (.cells #[.int .i64 0, .int .i64 0, .int .i64 (-77), .slice none 0 0] 26)) (G i) (Ls.getD i cin0).bs := fun i hi => (H.each i hi).1.below hA
  have hbA := H.below.trans (hA.mono H.below.size)
  generalize wr.alloc (.cells #[.int .i64 0, .int .i64 0, .int .i64 (-77), .slice none 0 0] 26) = W at *
  have ho : Only [g] W w3 := (Only.refl _ W).grown hg (fun k hk => .inl (by injection hk with hk; simp [hk]))
  refine ⟨⟨row73_of_owns hown, fun i hi => ⟨?_, (H.each i hi).2⟩, H.apart, H.low⟩, hbA.grown hg hbA.size (fun k hk => by injection hk with hk; subst hk; exact H.low)⟩
  have h := he i hi
  exact (ho.block _ (Array.getElem?_eq_some_iff.1 h).1 (by have := (H.each i hi).2; simp; omega)).trans h
set_option maxHeartbeats 8000000 in
set_option maxRecDepth 100000 in
theorem lentchunks_any (a : Option Addr) (Ls : List Cin) (n cap : Nat) (hn : Ls.length = n) (hn9 : n ≤ 100000) (hl9 : ∀ r ∈ Ls, r.bs.length ≤ 100000) (w : World) (H : CinAt w a Ls) :
    Calls Tryz.prog 5 #[.slice a n cap] w fun e w' => ∃ g G, e = .returned (.slice (some ⟨g, 0, none⟩) n (n + 1)) ∧ LentL w w' g G Ls ∧ Below w.heap.size w w' := by
  obtain ⟨i3, hi1, hy0, hy1, hy2⟩ := info_parts info73c
  have HI := Lib.hid (And.intro hi1 (And.intro hy0 (And.intro hy1 hy2)))
  have HR := Lib.hid H
  have HN := Lib.hid (And.intro hn hl9)
  have hn1 : (n : Int) + 1 = ((n + 1 : Nat) : Int) := by omega
  obtain ⟨n1, hn2⟩ : ∃ n1, n + 1 = n1 := ⟨_, rfl⟩
  rw [hn2] at hn1
  clear hn H hl9 hi1 hy0 hy1
  go_enter Tryz.func5, Tryz.ntmps5
  go_wp2_with (at_make; refine wpList_make_own _ rfl _ _ 23 rfl w.heap.size 26 i3 (.agg #[.int .i64 0, .int .i64 0, .int .i64 0, .slice none 0 0]) 4 Tryz.underlying23 HI.out.1 HI.out.2.1 HI.out.2.2.1 .i64 .i64 _ n1 rfl rfl (by rfl) (by rw [hy2]; omega) (by unfold maxLen; omega) (Nat.le_refl _) ?_; intro w1 hown1 hgr1)
  have HST := Lib.hid (show LentAtC w w1 w.heap.size n 0 (fun _ => 0) Ls from ⟨by rw [hn2]; exact hown1, fun i hi => by omega, fun i k hi => by omega, Nat.le_refl _, B2.grown_below0 (Below.refl _ _) hgr1 (Nat.le_refl _)⟩)
  clear hown1 hgr1 hy2
  go_loopw [3, 4] (fun v i wr => ∃ (j : Nat) (G : Nat → Nat), j ≤ n ∧ i = .int .i64 j ∧ v = .slice (some ⟨w.heap.size, 0, none⟩) j n1 ∧ Hid (LentAtC w wr w.heap.size n j G Ls)) (fun _ i _ => n - (intOf i).toNat)
  case atStart => exact ⟨0, fun _ => 0, Nat.zero_le _, rfl, rfl, HST⟩
  case round =>
    clear HST
    obtain ⟨j, G, hj, rfl, rfl, HS⟩ := hrel
    by_cases hlt : j < n
    · have hd : decide ((j : Int) < (n : Int)) = true := by simp; omega
      have hd2 : decide (j < n) = true := by simp; omega
      have hjl : j < Ls.length := by have := HN.out.1; omega
      obtain ⟨hb, ho, rfl, hhb, hcc⟩ := HR.out (by intro h; rw [h] at hjl; simp at hjl)
      obtain ⟨x1, y1, k0, k1, k2, k3, k4, b1⟩ := hcc j hjl
      have hl := HN.out.2 _ (List.getElem_mem hjl)
      have hgd : Ls.getD j cin0 = Ls[j] := by simp [List.getD, List.getElem?_eq_getElem hjl]
      obtain ⟨r, hr⟩ : ∃ r, Ls[j] = r := ⟨_, rfl⟩
      rw [hr] at k0 k1 k2 k3 b1 hl hgd
      obtain ⟨f, hf⟩ : ∃ f, r.f = f := ⟨_, rfl⟩
      obtain ⟨t, ht⟩ : ∃ t, r.t = t := ⟨_, rfl⟩
      obtain ⟨N, hN⟩ : ∃ N, r.N = N := ⟨_, rfl⟩
      obtain ⟨L, hL⟩ : ∃ L, r.bs.length = L := ⟨_, rfl⟩
      rw [hf] at k0
      rw [ht] at k1
      rw [hN] at k2
      rw [hL] at k3 hl
      have HK := Lib.hid (fun W (hW : Below w.heap.size w W) => show (W.cell? ⟨hb, ho + j * 4, none⟩ = some (.int .i64 f) ∧ W.cell? ⟨hb, ho + j * 4 + 1, none⟩ = some (.int .i64 t) ∧ W.cell? ⟨hb, ho + j * 4 + 2, none⟩ = some (.int .i64 N) ∧ W.cell? ⟨hb, ho + j * 4 + 3, none⟩ = some (.slice x1 L y1)) from ⟨cell_below k0 hW, cell_below k1 hW, cell_below k2 hW, cell_below k3 hW⟩)
      have CL := Lib.hid (fun W (hW : Below w.heap.size w W) => lent_n x1 r.bs L y1 W hL (b1.below hW) k4 hl)
      have HB1 := Lib.hid (And.intro hgd (And.intro hL (And.intro hf (And.intro ht hN))))
      have hbw := HS.out.below
      have q : (wr.drew.cell? ⟨hb, ho + j * 4, none⟩ = some (.int .i64 f) ∧ wr.drew.cell? ⟨hb, ho + j * 4 + 1, none⟩ = some (.int .i64 t) ∧ wr.drew.cell? ⟨hb, ho + j * 4 + 2, none⟩ = some (.int .i64 N) ∧ wr.drew.cell? ⟨hb, ho + j * 4 + 3, none⟩ = some (.slice x1 L y1)) ∧ Below w.heap.size w wr.drew := by
        have hbd : Below w.heap.size w wr.drew := hbw.trans ((drew_below wr).mono hbw.size)
        exact ⟨HK.out _ hbd, hbd⟩
      have HO := Lib.hid (fun W (hW : Below wr.heap.size wr W) => show W.ownsRow w.heap.size 26 4 (.slice (some ⟨w.heap.size, 0, none⟩) j n1) j ((List.range j).flatMap (rowCi G Ls)) from by
        have h := HS.out.row
        rw [hn2] at h
        exact owns_only h (Only.of_below hW []) (fun _ _ => by simp))
      have HD := Lib.hid (drew_below wr)
      clear hcc k0 k1 k2 k3 k4 b1 hr hjl hhb hgd hl hL hf ht hN hbw
      go_wp2_with fail
      go_region_held_law (fun w' => (w'.cell? ⟨hb, ho + j * 4, none⟩ = some (.int .i64 f) ∧ w'.cell? ⟨hb, ho + j * 4 + 1, none⟩ = some (.int .i64 t) ∧ w'.cell? ⟨hb, ho + j * 4 + 2, none⟩ = some (.int .i64 N) ∧ w'.cell? ⟨hb, ho + j * 4 + 3, none⟩ = some (.slice x1 L y1)) ∧ Below w.heap.size w w') ((first | exact q | exact HKA.out _ | assumption))
        ((first
          | (refine step_append_spare (by rfl) (.tmp 16) (.tmp 39) 23 (by rfl) w.heap.size 26 i3 4 Tryz.underlying23 HI.out.1 HI.out.2.2.1 w.heap.size j n1 ((List.range j).flatMap (rowCi G Ls)) (by simp [Act.eval, Act.put]) ((HO.out _ HB9.out).alloc _) ⟨w9.heap.size, 0, none⟩ 1 1 [.int .i64 f, .int .i64 t, .int .i64 N, .slice (some ⟨g2, 0, none⟩) L (L + 2)] (by simp [Act.eval, Act.put]) (by rfl) HSRC.out HONE.out (by omega) ?_; intro w10 hown10 hgr10; have hb10 := (HL2.out.2.2.alloc HL2.out.2.2.size _).grown hgr10 (by have := HL2.out.2.2.size; simp; omega) (fun k hk => by injection hk with hk; omega); have q10 := And.intro (HK.out w10 hb10) hb10; have HR10 := Lib.hid (And.intro hown10 hgr10); clear hown10 hgr10 hb10)
          | (go_at_call 20; refine (CL.out _ q.2).mono ?_; rintro e w9 ⟨g2, hg2, rfl, hl2, hb9⟩; have HB9 := Lib.hid (HD.out.trans (hb9.mono HD.out.size)); have hbw := q.2.trans (hb9.mono q.2.size); have q9 := And.intro (HK.out w9 hbw) hbw; have HKA := Lib.hid (fun o => show ((w9.alloc o).cell? ⟨hb, ho + j * 4, none⟩ = some (.int .i64 f) ∧ (w9.alloc o).cell? ⟨hb, ho + j * 4 + 1, none⟩ = some (.int .i64 t) ∧ (w9.alloc o).cell? ⟨hb, ho + j * 4 + 2, none⟩ = some (.int .i64 N) ∧ (w9.alloc o).cell? ⟨hb, ho + j * 4 + 3, none⟩ = some (.slice x1 L y1)) ∧ Below w.heap.size w (w9.alloc o) from ⟨HK.out _ (hbw.alloc hbw.size o), hbw.alloc hbw.size o⟩); have HL2 := Lib.hid (And.intro hg2 (And.intro hl2 hbw)); have HSRC := Lib.hid (four_cellsN w9 #[.int .i64 f, .int .i64 t, .int .i64 N, .slice (some ⟨g2, 0, none⟩) L (L + 2)]); have HONE := Lib.hid (show ∀ u ∈ ([.int .i64 f, .int .i64 t, .int .i64 N, .slice (some ⟨g2, 0, none⟩) L (L + 2)] : List Value), u.oneCell' = true by simp [Value.oneCell']); clear hg2 hl2 hb9 hbw)))
      have HS3 := Lib.hid (show LentAtC w w10 w.heap.size n (j + 1) (fun i => if i = j then g2 else G i) Ls from by
        obtain ⟨h1, h2, h3, h4, h5⟩ := HB1.out
        exact HS.out.next h1 h2 HL2.out.1 HL2.out.2.1 HB9.out (by rw [hn2, h3, h4, h5]; exact HR10.out.1) (by rw [h3, h4, h5]; exact HR10.out.2))
      clear q q9 q10
      go_wp2_with fail
      go_roundw
      case rel => exact ⟨j + 1, _, by omega, by go_num, rfl, HS3⟩
      case measure => simp [intOf]; omega
    · obtain rfl : j = n := by omega
      have hd : decide ((j : Int) < (j : Int)) = false := by simp
      have hjn : (j : Int) ≤ (n1 : Int) := by omega
      have hj0 : (0 : Int) ≤ (j : Int) := by omega
      have HOW := Lib.hid (show (wr.alloc (.cells #[.int .i64 0, .int .i64 0, .int .i64 (-77), .slice none 0 0] 26)).ownsRow w.heap.size 26 4 (.slice (some ⟨w.heap.size, 0, none⟩) j n1) j ((List.range j).flatMap (rowCi G Ls)) from by
        have h := HS.out.row
        rw [hn2] at h
        exact h.alloc _)
      have HSRC := Lib.hid (four_cellsN wr #[.int .i64 0, .int .i64 0, .int .i64 (-77), .slice none 0 0])
      have HONE := Lib.hid (show ∀ u ∈ mkC, u.oneCell' = true by intro u hu; simp [mkC] at hu; rcases hu with rfl | rfl | rfl <;> rfl)
      go_wp2_with (at_builtin; refine wpList_append_own_spare _ rfl (.tmp 41) (.tmp 43) 23 rfl w.heap.size 26 i3 4 Tryz.underlying23 HI.out.1 HI.out.2.2.1 w.heap.size j n1 ((List.range j).flatMap (rowCi G Ls)) rfl HOW.out ⟨wr.heap.size, 0, none⟩ 1 1 mkC rfl rfl HSRC.out HONE.out (by omega) ?_; intro w3 hown3 hgr3; have HD := Lib.hid (HS.out.done HN.out.1 (by rw [hn2] at hown3 ⊢; exact hown3) hgr3); clear hown3 hgr3)
      go_ret
      exact ⟨w.heap.size, rfl, ⟨G, HD.out.1⟩, HD.out.2⟩
end Go.Proofs.YtdlifcpdlbmijaaGreatDoor
namespace Go.Proofs.YtdlifcpdlbmijaaGreatDoor
set_option linter.unusedVariables false
set_option linter.unusedSimpArgs false
open Go.RowKit Go.PlainAid Go.Shelf
open B2 (Only Bys Row cellsOf owns_only Lent)
open Gm (St Smp Chk)
theorem whole_n (g : Nat) (a : Option Addr) (bs : List Nat) (n cap : Nat) (w : World) (hn : bs.length = n) (L : Lent w g bs) (H : Bys w a bs) (hsm : n ≤ 100000) :
    Calls Tryz.prog 33 #[.slice (some ⟨g, 0, none⟩) n (n + 2), .slice a n cap] w fun e w' => e = .returned (.bool true) ∧ Below w.heap.size w w' := by
  subst hn; exact B2.whole_any g a bs cap w L H hsm
theorem LentC.cells {w : World} {g g2 : Nat} {f t N : Int} {bs : List Nat} (h : LentC w g g2 f t N bs) : w.cell? ⟨g, 0, none⟩ = some (.int .i64 f) ∧ w.cell? ⟨g, 1, none⟩ = some (.int .i64 t) ∧ w.cell? ⟨g, 2, none⟩ = some (.int .i64 N) ∧ w.cell? ⟨g, 3, none⟩ = some (.slice (some ⟨g2, 0, none⟩) bs.length (bs.length + 2)) ∧ w.cell? ⟨g, 6, none⟩ = some (.int .i64 (-77)) :=
  ⟨(cell_of_row _ _ 0 _ _ _ h.row).trans rfl, (cell_of_row _ _ 1 _ _ _ h.row).trans rfl, (cell_of_row _ _ 2 _ _ _ h.row).trans rfl, (cell_of_row _ _ 3 _ _ _ h.row).trans rfl, (cell_of_row _ _ 6 _ _ _ h.row).trans rfl⟩
set_option maxHeartbeats 8000000 in
set_option maxRecDepth 100000 in
theorem wholeone_any (g g2 h cp : Nat) (f t N : Int) (a : Option Addr) (bs : List Nat) (cap : Nat) (hbd : bs.length ≤ 100000) (w : World) (HC : LentC w g g2 f t N bs) (hrow : w.heap[h]? = some (.cells (chR f t N (.slice a bs.length cap)) 26 (0, 0))) (H : Bys w a bs) :
    Calls Tryz.prog 9 #[.slice (some ⟨g, 0, none⟩) 1 2, .slice (some ⟨h, 0, none⟩) 1 cp] w fun e w' => e = .returned (.bool true) ∧ Below w.heap.size w w' := by
  obtain ⟨y0, y1, y2, y3⟩ := four73 hrow
  obtain ⟨z0, z1, z2, z3, z6⟩ := HC.cells
  have HH := Lib.hid (And.intro HC (And.intro H hbd))
  obtain ⟨L, hL⟩ : ∃ L, bs.length = L := ⟨_, rfl⟩
  rw [hL] at y3 z3
  have HL := Lib.hid hL
  have hff : (f != f) = false := by simp
  have htt : (t != t) = false := by simp
  have hNN : (N != N) = false := by simp
  clear hrow HC H hbd hL
  have HK := Lib.hid (fun W (hW : Below w.heap.size w W) => show ((W.cell? ⟨h, 0, none⟩ = some (.int .i64 f) ∧ W.cell? ⟨h, 1, none⟩ = some (.int .i64 t) ∧ W.cell? ⟨h, 2, none⟩ = some (.int .i64 N) ∧ W.cell? ⟨h, 3, none⟩ = some (.slice a L cap)) ∧ (W.cell? ⟨g, 0, none⟩ = some (.int .i64 f) ∧ W.cell? ⟨g, 1, none⟩ = some (.int .i64 t) ∧ W.cell? ⟨g, 2, none⟩ = some (.int .i64 N) ∧ W.cell? ⟨g, 3, none⟩ = some (.slice (some ⟨g2, 0, none⟩) L (L + 2)))) ∧ Below w.heap.size w W from ⟨⟨⟨cell_below y0 hW, cell_below y1 hW, cell_below y2 hW, cell_below y3 hW⟩, ⟨cell_below z0 hW, cell_below z1 hW, cell_below z2 hW, cell_below z3 hW⟩⟩, hW⟩)
  have CW := Lib.hid (fun W (hW : Below w.heap.size w W) => whole_n g2 a bs L cap W HL.out (HH.out.1.lent.below hW) (HH.out.2.1.below hW) (by rw [← HL.out]; exact HH.out.2.2))
  go_enter Tryz.func9, Tryz.ntmps9
  go_wp2_with fail
  refine wp_loop_rounds 3 ?_
  rw [rounds_succ]
  have q := HK.out w.drew (drew_below w)
  clear z6
  go_wp2_with fail
  go_region_held3 (fun W => ((W.cell? ⟨h, 0, none⟩ = some (.int .i64 f) ∧ W.cell? ⟨h, 1, none⟩ = some (.int .i64 t) ∧ W.cell? ⟨h, 2, none⟩ = some (.int .i64 N) ∧ W.cell? ⟨h, 3, none⟩ = some (.slice a L cap)) ∧ (W.cell? ⟨g, 0, none⟩ = some (.int .i64 f) ∧ W.cell? ⟨g, 1, none⟩ = some (.int .i64 t) ∧ W.cell? ⟨g, 2, none⟩ = some (.int .i64 N) ∧ W.cell? ⟨g, 3, none⟩ = some (.slice (some ⟨g2, 0, none⟩) L (L + 2)))) ∧ Below w.heap.size w W) ((first | exact q | assumption))
    ((go_at_call 33; refine (CW.out _ q.2).mono ?_; rintro e w9 ⟨rfl, hb9⟩; have HB9 := Lib.hid (q.2.trans (hb9.mono q.2.size)); have q9 := HK.out w9 HB9.out; clear hb9))
  clear q q9
  go_wp2_with fail
  rw [rounds_succ]
  go_wp2_with fail
  go_ret
  exact ⟨rfl, HB9.out⟩
end Go.Proofs.YtdlifcpdlbmijaaGreatDoor
namespace Go.Proofs.YtdlifcpdlbmijaaGreatDoor
set_option linter.unusedVariables false
set_option linter.unusedSimpArgs false
open Go.RowKit Go.PlainAid Go.Shelf
open B2 (Only Bys Row cellsOf owns_only Lent)
open Gm (St Smp Chk)
theorem flat4 (F : Nat → List Value) (hF : ∀ i, (F i).length = 4) (n : Nat) : ((List.range n).flatMap F).length = n * 4 ∧ ∀ i, i < n → ∀ k, k < 4 → ((List.range n).flatMap F)[i * 4 + k]? = (F i)[k]? := by
  induction n with
  | zero => exact ⟨rfl, fun i hi => by omega⟩
  | succ n ih =>
    obtain ⟨h1, h2⟩ := ih
    rw [List.range_succ, List.flatMap_append]
    have e : List.flatMap F [n] = F n := by simp [List.flatMap_cons]
    rw [e]
    refine ⟨by rw [List.length_append, h1, hF]; omega, fun i hi k hk => ?_⟩
    by_cases he : i = n
    · subst he
      rw [List.getElem?_append_right (by omega), h1]
      congr 1
      omega
    · rw [List.getElem?_append_left (by omega)]
      exact h2 i (by omega) k hk
theorem LentL.at {w0 w : World} {g : Nat} {G : Nat → Nat} {Ls : List Cin} (H : LentL w0 w g G Ls) (j : Nat) : w.cell? ⟨g, j, none⟩ = ((List.range Ls.length).flatMap (rowCi G Ls) ++ mkC)[j]? := by
  rw [cell_of_row _ _ _ _ _ _ H.row, List.getElem?_toArray]
theorem LentL.cells {w0 w : World} {g : Nat} {G : Nat → Nat} {Ls : List Cin} (H : LentL w0 w g G Ls) (i : Nat) (hi : i < Ls.length) :
    w.cell? ⟨g, i * 4, none⟩ = some (.int .i64 Ls[i].f) ∧ w.cell? ⟨g, i * 4 + 1, none⟩ = some (.int .i64 Ls[i].t) ∧ w.cell? ⟨g, i * 4 + 2, none⟩ = some (.int .i64 Ls[i].N) ∧ w.cell? ⟨g, i * 4 + 3, none⟩ = some (.slice (some ⟨G i, 0, none⟩) Ls[i].bs.length (Ls[i].bs.length + 2)) := by
  obtain ⟨hl, hc⟩ := flat4 (rowCi G Ls) (fun i => rfl) Ls.length
  have e : Ls.getD i cin0 = Ls[i] := by simp [List.getD, List.getElem?_eq_getElem hi]
  have key : ∀ k, k < 4 → w.cell? ⟨g, i * 4 + k, none⟩ = (rowCi G Ls i)[k]? := fun k hk => by
    rw [H.at, List.getElem?_append_left (by omega), hc i hi k hk]
  refine ⟨(key 0 (by decide)).trans ?_, (key 1 (by decide)).trans ?_, (key 2 (by decide)).trans ?_, (key 3 (by decide)).trans ?_⟩ <;> (unfold rowCi; rw [e]; rfl)
theorem LentL.mark {w0 w : World} {g n : Nat} {G : Nat → Nat} {Ls : List Cin} (H : LentL w0 w g G Ls) (hn : Ls.length = n) : w.cell? ⟨g, n * 4 + 2, none⟩ = some (.int .i64 (-77)) := by
  obtain ⟨hl, hc⟩ := flat4 (rowCi G Ls) (fun i => rfl) Ls.length
  rw [H.at, List.getElem?_append_right (by omega), hl, hn, show n * 4 + 2 - n * 4 = 2 by omega]
  rfl
set_option maxHeartbeats 8000000 in
set_option maxRecDepth 100000 in
theorem wholechunks_any (g : Nat) (G : Nat → Nat) (a : Option Addr) (Ls : List Cin) (n cap : Nat) (hn : Ls.length = n) (hn9 : n ≤ 100000) (hl9 : ∀ r ∈ Ls, r.bs.length ≤ 100000) (w0 w : World) (H : LentL w0 w g G Ls) (H2 : CinAt w a Ls) :
    Calls Tryz.prog 9 #[.slice (some ⟨g, 0, none⟩) n (n + 1), .slice a n cap] w fun e w' => e = .returned (.bool true) ∧ Below w.heap.size w w' := by
  have HH := Lib.hid (And.intro H (And.intro H2 (And.intro hn hl9)))
  have hd0 : ((n : Int) != (n : Int)) = false := by simp
  obtain ⟨n1, hn2⟩ : ∃ n1, n + 1 = n1 := ⟨_, rfl⟩
  have hn1 : (n : Int) + 1 = (n1 : Int) := by omega
  have hd1 : decide ((n1 : Int) < (n1 : Int)) = false := by simp
  have hw1 : IntKind.i64.wrap ((n : Int) + 1) = (n1 : Int) := by rw [IntKind.wrap_i64]; omega
  have hb1 : (n : Int) < (n1 : Int) := by omega
  have hb2 : (0 : Int) ≤ (n1 : Int) := by omega
  have q := H.mark hn
  rw [hn2]
  clear H H2 hn hl9
  go_enter Tryz.func9, Tryz.ntmps9
  go_wp2_with fail
  clear q
  go_loopw [6] (fun i wr => ∃ j : Nat, j ≤ n ∧ i = .int .i64 j ∧ Hid (Below w.heap.size w wr)) (fun i _ => n - (intOf i).toNat)
  case atStart => exact ⟨0, Nat.zero_le _, rfl, Lib.hid (Below.refl _ _)⟩
  case round =>
    obtain ⟨j, hj, rfl, HB⟩ := hrel
    by_cases hlt : j < n
    · have hd : decide ((j : Int) < (n : Int)) = true := by simp; omega
      have hd2 : decide (j < n) = true := by simp; omega
      have hjl : j < Ls.length := by have := HH.out.2.2.1; omega
      have hne : Ls ≠ [] := by intro h; rw [h] at hjl; simp at hjl
      obtain ⟨h2, o2, rfl, hh2, hc2⟩ := HH.out.2.1 hne
      obtain ⟨x2, y2, k0, k1, k2, k3, -, b2⟩ := hc2 j hjl
      obtain ⟨z0, z1, z2, z3⟩ := HH.out.1.cells j hjl
      have l1 := (HH.out.1.each j hjl).1
      have e : Ls.getD j cin0 = Ls[j] := by simp [List.getD, List.getElem?_eq_getElem hjl]
      rw [e] at l1
      have hl := HH.out.2.2.2 _ (List.getElem_mem hjl)
      obtain ⟨r, hr⟩ : ∃ r, Ls[j] = r := ⟨_, rfl⟩
      rw [hr] at k0 k1 k2 k3 z0 z1 z2 z3 b2 l1 hl
      obtain ⟨f, hf⟩ : ∃ f, r.f = f := ⟨_, rfl⟩
      obtain ⟨t, ht⟩ : ∃ t, r.t = t := ⟨_, rfl⟩
      obtain ⟨N, hN⟩ : ∃ N, r.N = N := ⟨_, rfl⟩
      obtain ⟨L, hL⟩ : ∃ L, r.bs.length = L := ⟨_, rfl⟩
      rw [hf] at k0 z0
      rw [ht] at k1 z1
      rw [hN] at k2 z2
      rw [hL] at k3 z3 hl
      have hff : (f != f) = false := by simp
      have htt : (t != t) = false := by simp
      have hNN : (N != N) = false := by simp
      have HK := Lib.hid (fun W (hW : Below w.heap.size w W) => show ((W.cell? ⟨h2, o2 + j * 4, none⟩ = some (.int .i64 f) ∧ W.cell? ⟨h2, o2 + j * 4 + 1, none⟩ = some (.int .i64 t) ∧ W.cell? ⟨h2, o2 + j * 4 + 2, none⟩ = some (.int .i64 N) ∧ W.cell? ⟨h2, o2 + j * 4 + 3, none⟩ = some (.slice x2 L y2)) ∧ (W.cell? ⟨g, j * 4, none⟩ = some (.int .i64 f) ∧ W.cell? ⟨g, j * 4 + 1, none⟩ = some (.int .i64 t) ∧ W.cell? ⟨g, j * 4 + 2, none⟩ = some (.int .i64 N) ∧ W.cell? ⟨g, j * 4 + 3, none⟩ = some (.slice (some ⟨G j, 0, none⟩) L (L + 2)))) ∧ Below w.heap.size w W from ⟨⟨⟨cell_below k0 hW, cell_below k1 hW, cell_below k2 hW, cell_below k3 hW⟩, ⟨cell_below z0 hW, cell_below z1 hW, cell_below z2 hW, cell_below z3 hW⟩⟩, hW⟩)
      have CW := Lib.hid (fun W (hW : Below w.heap.size w W) => whole_n (G j) x2 r.bs L y2 W hL (l1.below hW) (b2.below hW) hl)
      have hbd : Below w.heap.size w wr.drew := HB.out.trans ((drew_below wr).mono HB.out.size)
      have q := HK.out wr.drew hbd
      clear hc2 k0 k1 k2 k3 z0 z1 z2 z3 l1 b2 hr hL hf ht hN hbd hne hjl hh2 e hl
      go_wp2_with fail
      go_region_held3 (fun W => ((W.cell? ⟨h2, o2 + j * 4, none⟩ = some (.int .i64 f) ∧ W.cell? ⟨h2, o2 + j * 4 + 1, none⟩ = some (.int .i64 t) ∧ W.cell? ⟨h2, o2 + j * 4 + 2, none⟩ = some (.int .i64 N) ∧ W.cell? ⟨h2, o2 + j * 4 + 3, none⟩ = some (.slice x2 L y2)) ∧ (W.cell? ⟨g, j * 4, none⟩ = some (.int .i64 f) ∧ W.cell? ⟨g, j * 4 + 1, none⟩ = some (.int .i64 t) ∧ W.cell? ⟨g, j * 4 + 2, none⟩ = some (.int .i64 N) ∧ W.cell? ⟨g, j * 4 + 3, none⟩ = some (.slice (some ⟨G j, 0, none⟩) L (L + 2)))) ∧ Below w.heap.size w W) ((first | exact q | assumption))
        ((go_at_call 33; refine (CW.out _ q.2).mono ?_; rintro e w9 ⟨rfl, hb9⟩; have HB9 := Lib.hid (q.2.trans (hb9.mono q.2.size)); have q9 := HK.out w9 HB9.out; clear hb9))
      clear q q9
      go_wp2_with fail
      go_roundw
      case rel => exact ⟨j + 1, by omega, by go_num, HB9⟩
      case measure => simp [intOf]; omega
    · obtain rfl : j = n := by omega
      have hd : decide ((j : Int) < (j : Int)) = false := by simp
      go_wp2_with fail
      go_ret
      exact ⟨rfl, HB.out⟩
end Go.Proofs.YtdlifcpdlbmijaaGreatDoor
namespace Go.Proofs.YtdlifcpdlbmijaaGreatDoor
set_option linter.unusedVariables false
set_option linter.unusedSimpArgs false
open Go.RowKit Go.PlainAid Go.Shelf
open B2 (Only Bys Row cellsOf owns_only Lent)
open Gm (St Smp Chk)
set_option maxHeartbeats 4000000 in
theorem spoil_any (g n L : Nat) (w : World) (hnL : n ≤ L) (hL : L ≤ 1000000) (cur : Array Value) (h1 : w.heap[g]? = some (.cells cur 5 (0, 0))) (h2 : cur.size = L) :
    Calls Tryz.prog 34 #[.slice (some ⟨g, 0, none⟩) n L] w fun e w' => e = .returned (.tuple #[]) ∧ Only [g] w w' := by
  have H0 := Lib.hid (show B2.Spoilt w g L w from ⟨⟨cur, h1, h2⟩, Only.refl _ _⟩)
  clear h1 h2
  go_enter Tryz.func34, Tryz.ntmps34
  go_wp2
  go_loopw [3] (fun i wr => ∃ k : Nat, k ≤ L ∧ i = .int .i64 (k : Nat) ∧ Hid (B2.Spoilt w g L wr)) (fun i _ => L - (intOf i).toNat)
  case atStart => exact ⟨0, Nat.zero_le _, rfl, H0⟩
  case round =>
    obtain ⟨k, hk, rfl, HS⟩ := hrel
    by_cases hlt : k < L
    · obtain ⟨⟨u, hc⟩, hf, hset⟩ := HS.out.cell hlt
      have HN := Lib.hid (hset (.int .u8 238))
      have hi : (k : Int) < (L : Int) := by omega
      have hd : decide ((k : Int) < (L : Int)) = true := by simp; omega
      clear hset
      go_wp2
      go_roundw
      case rel => exact ⟨k + 1, by omega, by go_num, HN⟩
      case measure => simp [intOf]; omega
    · obtain rfl : k = L := by omega
      go_wp2
      exact bodyPost_end (results_none rfl _ _ _) rfl ⟨rfl, HS.out.2⟩
theorem spoil_n (g n L : Nat) (bs : List Nat) (w : World) (hn : bs.length = n) (hL : n + 2 = L) (hs : n ≤ 100000) (H : Lent w g bs) :
    Calls Tryz.prog 34 #[.slice (some ⟨g, 0, none⟩) n L] w fun e w' => e = .returned (.tuple #[]) ∧ Only [g] w w' :=
  spoil_any g n L w (by omega) (by omega) _ H (by simp [B2.cellsOf_length, hn]; omega)
/-- while the rows are written over with nil -/
def SpoiltC (w : World) (g L : Nat) (S : List Nat) (wr : World) : Prop := (∃ cur, wr.heap[g]? = some (.cells cur 26 (0, 0)) ∧ cur.size = L) ∧ Only (g :: S) w wr
theorem SpoiltC.cell {w wr : World} {g L k : Nat} {S : List Nat} (h : SpoiltC w g L S wr) (hk : k < L) : (∃ u, wr.cell? ⟨g, k, none⟩ = some u) ∧ wr.frozen? ⟨g, k, none⟩ = false ∧ ∀ u, SpoiltC w g L S (wr.setCell ⟨g, k, none⟩ u) := by
  obtain ⟨⟨cur, h1, h2⟩, h3⟩ := h
  refine ⟨⟨cur[k]'(by omega), ?_⟩, frozen_of_row _ _ _ _ _ h1, fun u => ⟨⟨_, heap_setCell_same _ _ _ _ _ _ h1, by simpa using h2⟩, h3.setCell (p := ⟨g, k, none⟩) (.inl (by simp)) u⟩⟩
  rw [cell_of_row _ _ _ _ _ _ h1, Array.getElem?_eq_getElem (by omega)]
set_option maxHeartbeats 4000000 in
set_option maxRecDepth 100000 in
theorem spoilchunks_any (g : Nat) (G : Nat → Nat) (Ls : List Cin) (n : Nat) (hn : Ls.length = n) (hn9 : n ≤ 100000) (hl9 : ∀ r ∈ Ls, r.bs.length ≤ 100000) (w0 w : World) (H : LentL w0 w g G Ls) :
    Calls Tryz.prog 11 #[.slice (some ⟨g, 0, none⟩) n (n + 1)] w fun e w' => e = .returned (.tuple #[]) ∧ Only (g :: (List.range n).map G) w w' := by
  have HH := Lib.hid (And.intro H (And.intro hn hl9))
  obtain ⟨n1, hn2⟩ : ∃ n1, n + 1 = n1 := ⟨_, rfl⟩
  have hnn : (n : Int) ≤ (n1 : Int) := by omega
  have hb2 : (0 : Int) ≤ (n1 : Int) := by omega
  rw [hn2]
  clear H hn hl9
  go_enter Tryz.func11, Tryz.ntmps11
  go_wp2_with fail
  go_loopw [2] (fun i wr => ∃ j : Nat, j ≤ n ∧ i = .int .i64 j ∧ Hid (Only ((List.range j).map G) w wr)) (fun i _ => n - (intOf i).toNat)
  case atStart => exact ⟨0, Nat.zero_le _, rfl, Lib.hid (Only.refl _ _)⟩
  case round =>
    obtain ⟨j, hj, rfl, HB⟩ := hrel
    by_cases hlt : j < n
    · have hd : decide ((j : Int) < (n : Int)) = true := by simp; omega
      have hd2 : decide (j < n) = true := by simp; omega
      have hjl : j < Ls.length := by have := HH.out.2.1; omega
      have k1 := (HH.out.1.cells j hjl).2.2.2
      have l1 := (HH.out.1.each j hjl).1
      have e : Ls.getD j cin0 = Ls[j] := by simp [List.getD, List.getElem?_eq_getElem hjl]
      rw [e] at l1
      have hl := HH.out.2.2 _ (List.getElem_mem hjl)
      have hgn : g ∉ (List.range j).map G := by
        intro h
        obtain ⟨i, hi, he⟩ := List.mem_map.1 h
        have := List.mem_range.1 hi
        have := (HH.out.1.each i (by omega)).2
        omega
      have hGn : G j ∉ (List.range j).map G := by
        intro h
        obtain ⟨i, hi, he⟩ := List.mem_map.1 h
        have := List.mem_range.1 hi
        exact HH.out.1.apart i j (by omega) hjl (by omega) he
      obtain ⟨r, hr⟩ : ∃ r, Ls[j] = r := ⟨_, rfl⟩
      rw [hr] at k1 l1 hl
      obtain ⟨L, hL⟩ : ∃ L, r.bs.length = L := ⟨_, rfl⟩
      rw [hL] at k1 hl
      have q := Only_cell HB.out k1 hgn
      have l2 : Lent wr (G j) r.bs := (HB.out.block _ (Array.getElem?_eq_some_iff.1 l1).1 hGn).trans l1
      have CS := Lib.hid (spoil_n (G j) L (L + 2) r.bs wr hL rfl hl l2)
      clear k1 l1 e hgn hGn hr hL l2 hjl hl
      go_wp2_with fail
      go_at_call 34
      refine CS.out.mono ?_
      rintro e w2 ⟨rfl, ho⟩
      have HB2 := Lib.hid (show Only ((List.range (j + 1)).map G) w w2 from (HB.out.mono (fun x hx => by rw [List.range_succ, List.map_append]; exact List.mem_append_left _ hx)).trans ho (fun x hx => .inl (by rw [List.range_succ, List.map_append]; exact List.mem_append_right _ (by simpa using hx))))
      clear ho CS
      go_wp2_with fail
      go_roundw
      case rel => exact ⟨j + 1, by omega, by go_num, HB2⟩
      case measure => simp [intOf]; omega
    · obtain rfl : j = n := by omega
      have hd : decide ((j : Int) < (j : Int)) = false := by simp
      have hgn : g ∉ (List.range j).map G := by
        intro h
        obtain ⟨i, hi, he⟩ := List.mem_map.1 h
        have := List.mem_range.1 hi
        have := (HH.out.1.each i (by have := HH.out.2.1; omega)).2
        omega
      have hsz : ((List.range Ls.length).flatMap (rowCi G Ls) ++ mkC).toArray.size = n1 * 4 := by
        rw [List.size_toArray, List.length_append, (flat4 (rowCi G Ls) (fun i => rfl) Ls.length).1, HH.out.2.1]
        show j * 4 + 4 = _
        omega
      have HST := Lib.hid (show SpoiltC w g (n1 * 4) ((List.range j).map G) wr from ⟨⟨_, (HB.out.block g (Array.getElem?_eq_some_iff.1 HH.out.1.row).1 hgn).trans HH.out.1.row, hsz⟩, HB.out.mono (fun x hx => List.mem_cons_of_mem _ hx)⟩)
      clear hgn hsz
      go_wp2_with fail
      go_loopw [4] (fun i wx => ∃ k : Nat, k ≤ n1 ∧ i = .int .i64 k ∧ Hid (SpoiltC w g (n1 * 4) ((List.range j).map G) wx)) (fun i _ => n1 - (intOf i).toNat)
      case atStart => exact ⟨0, Nat.zero_le _, rfl, HST⟩
      case round =>
        clear HST
        obtain ⟨k, hk, rfl, HS⟩ := hrel
        by_cases hlt : k < n1
        · obtain ⟨⟨u0, c0⟩, f0, h1⟩ := HS.out.cell (k := k * 4) (by omega)
          have HS1 := Lib.hid (h1 (.int .i64 0))
          obtain ⟨⟨u1, c1⟩, f1, h2⟩ := HS1.out.cell (k := k * 4 + 1) (by omega)
          have HS2 := Lib.hid (h2 (.int .i64 0))
          obtain ⟨⟨u2, c2⟩, f2, h3⟩ := HS2.out.cell (k := k * 4 + 2) (by omega)
          have HS3 := Lib.hid (h3 (.int .i64 0))
          obtain ⟨⟨u3, c3⟩, f3, h4⟩ := HS3.out.cell (k := k * 4 + 3) (by omega)
          have HS4 := Lib.hid (h4 (.slice none 0 0))
          have hi : (k : Int) < (n1 : Int) := by omega
          have hd : decide ((k : Int) < (n1 : Int)) = true := by simp; omega
          clear h1 h2 h3 h4
          go_wp2_with fail
          go_roundw
          case rel => exact ⟨k + 1, by omega, by go_num, HS4⟩
          case measure => simp [intOf]; omega
        · obtain rfl : k = n1 := by omega
          have hd : decide ((k : Int) < (k : Int)) = false := by simp
          go_wp2_with fail
          exact bodyPost_end (results_none rfl _ _ _) rfl ⟨rfl, HS.out.2⟩
end Go.Proofs.YtdlifcpdlbmijaaGreatDoor
