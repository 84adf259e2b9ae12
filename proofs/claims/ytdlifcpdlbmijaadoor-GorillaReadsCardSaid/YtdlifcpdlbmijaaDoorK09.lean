/-
  PACKED: HaD, HaF, HaG, HaH, HaI, HaJ, Door, Start, Laid
-/
import Derived.Test.YtdlifcpdlbmijaaDoorK08
import Derived.Test.YtdlifcpdlbmijaaDoorK06
import Derived.Test.YtdlifcpdlbmijaaDoorK07
import Derived.Test.YtdlifcpdlbmijaaDoorK04
import Derived.Test.YtdlifcpdlbmijaaDoorRows
import Derived.Test.YtdlifcpdlbmijaaDoorK05
import Derived.Deep.DeepAppendRoom
import Derived.Deep.RegionHeldLaw
import Derived.OwnWalk
import Derived.Deep.RegionHeld3
import Derived.WalkKit
import Derived.ProofKit
import Derived.LaidMore
import Derived.LaidHandle
import Derived.Lay
import Derived.Lib.LaidIn
import Derived.Stop.Joined
import Derived.LaidLaws
import Derived.LaidSub
import Derived.MakeChecks
import Derived.Lib.LaidTab
import Derived.OpenShut
import Derived.Shelf.Vars
set_option linter.unusedVariables false
set_option linter.unusedSimpArgs false
namespace Go.Proofs.YtdlifcpdlbmijaaDoor
set_option linter.unusedVariables false
set_option linter.unusedSimpArgs false
open Go.RowKit Go.PlainAid Go.Shelf
open B2 (Only Bys Row cellsOf Rf)
open Gm (St Smp Dr)
theorem smp_unique {P : Prop} (h : P) : P := h
theorem own_lit (W : World) (q : Nat) (hq : q ≤ W.heap.size) (x : Smp) : OwnS (W.alloc (.cells #[.int .i64 x.t, .int .u64 ((x.v : Nat) : Int)] 70)) q (.slice (some ⟨W.heap.size, 0, none⟩) 1 1) [x] := by
  refine ⟨rfl, .inr ⟨W.heap.size, 1, _, rfl, hq, heap_alloc_new W _, Nat.le_refl _, by decide, rfl, rfl⟩⟩
theorem dIt_next {B : List Bool} {m : Nat} {l : List Smp} {d : Dr} (h1 : 1 ≤ m) (h : Gm.dIt (m - 1) B = some (l, d)) : Gm.dIt m B = (Gm.dNext m d).map fun s => (l ++ [⟨s.t, s.v⟩], s) := by
  obtain ⟨j, rfl⟩ : ∃ j, m = j + 1 := ⟨m - 1, by omega⟩
  rw [show j + 1 - 1 = j by omega] at h
  rw [Gm.dIt, h]
  rfl
set_option maxHeartbeats 16000000 in
set_option maxRecDepth 100000 in
theorem refall_any (f t N : Int) (a : Option Addr) (bs : List Nat) (cap : Nat) (hbd : bs.length ≤ 1000000) (k0 p0 p1 p2 c c0 c1 c2 o9 oa oc od : Nat) (w : World) (H : Bys w a bs) (HT : TabB w k0 p0 p1 p2 c c0 c1 c2 o9 oa oc od) :
    Calls Tryd.prog 20 #[.agg (chR f t N (.slice a bs.length cap))] w (AlPost w f t N bs) := by
  obtain ⟨n, hn⟩ : ∃ n, w.heap.size = n := ⟨_, rfl⟩
  have A1 := (Below.refl w.heap.size w).alloc (Nat.le_refl _) (.cells (chR f t N (.slice a bs.length cap)) 73)
  have r1 := heap_alloc_new w (.cells (chR f t N (.slice a bs.length cap)) 73)
  have hs1 : (w.alloc (.cells (chR f t N (.slice a bs.length cap)) 73)).heap.size = n + 1 := by simp [hn]
  have hB1 := H.below A1
  have hT1 := HT.below A1
  have hlt0 : 0 < n ∧ k0 < n ∧ p0 < n ∧ p1 < n ∧ p2 < n := by
    rw [← hn]
    exact ⟨World.block_lt_of_cell? _ _ HT.g, World.block_lt_of_cell? _ _ HT.r.1, World.block_lt_of_cell? _ _ HT.t0.1, World.block_lt_of_cell? _ _ HT.t1.1, World.block_lt_of_cell? _ _ HT.t2.1⟩
  rw [hn] at r1 A1
  obtain ⟨y0, y1, y2, y3⟩ := four73 r1
  have HA := Lib.hid (And.intro A1 (And.intro r1 (And.intro hs1 (And.intro hB1 (And.intro hT1 hlt0)))))
  have HTW := Lib.hid HT
  have HBY := Lib.hid H
  clear A1 r1 hs1 hB1 hT1 hlt0 H HT
  by_cases hlo : N < 1
  · have d1 : decide (N < 1) = true := decide_eq_true hlo
    have HP := Lib.hid (show AlPost w f t N bs (.returned (.tuple #[.slice none 0 0, .bool false])) (w.alloc (.cells (chR f t N (.slice a bs.length cap)) 73)) from ⟨by rw [hn]; exact HA.out.1, .inr ⟨_, _, _, rfl, fun ⟨g, G, h2, _⟩ => by have := G.some; omega⟩⟩)
    unfold chR at *
    go_enter Tryd.func20, Tryd.ntmps20
    go_wp2_with fail
    go_ret2
    exact HP.out
  by_cases hhi : 120 < N
  · have d1 : decide (N < 1) = false := decide_eq_false hlo
    have d2 : decide (N > 120) = true := decide_eq_true hhi
    have HP := Lib.hid (show AlPost w f t N bs (.returned (.tuple #[.slice none 0 0, .bool false])) (w.alloc (.cells (chR f t N (.slice a bs.length cap)) 73)) from ⟨by rw [hn]; exact HA.out.1, .inr ⟨_, _, _, rfl, fun ⟨g, G, h2, _⟩ => by have := G.len; omega⟩⟩)
    unfold chR at *
    go_enter Tryd.func20, Tryd.ntmps20
    go_wp2_with fail
    go_ret2
    exact HP.out
  obtain ⟨M, rfl⟩ := Int.eq_ofNat_of_zero_le (show 0 ≤ N by omega)
  have hM1 : 1 ≤ M := by omega
  have hM2 : M ≤ 120 := by omega
  have d1 : decide ((M : Int) < 1) = false := decide_eq_false hlo
  have d2 : decide ((M : Int) > 120) = false := decide_eq_false hhi
  have HMM := Lib.hid (And.intro hM1 hM2)
  have CR := Lib.hid (B2.fread_any a bs cap _ HA.out.2.2.2.1 hbd)
  obtain ⟨BB, hBB⟩ : ∃ BB, B2.Bt.unpack bs = BB := ⟨_, rfl⟩
  have HBL := Lib.hid (show BB.length ≤ 1000000000 by rw [← hBB, B2.Bt.unpack_length]; omega)
  have HBB := Lib.hid hBB
  unfold B2.FreadPost at CR
  rw [hBB] at CR
  -- the way out
  have HX0 := Lib.hid (show ∀ j W, j + 1 ≤ M → Gm.dIt j BB = none → Below n w W → AlPost w f t ((M : Nat) : Int) bs (.returned (.tuple #[.slice none 0 0, .bool false])) W from fun j W hj h hb => ⟨by rw [hn]; exact hb, .inr ⟨_, _, _, rfl, no_isC hM2 hj (by rw [hBB]; exact h)⟩⟩)
  have HNN := Lib.hid hn
  clear hlo hhi hBB hbd
  unfold chR at CR ⊢
  go_enter Tryd.func20, Tryd.ntmps20
  go_wp2_with fail
  refine CR.out.mono ?_
  rintro e w1 ⟨p, g, rfl, hp, hg, hR, hb1⟩
  have hs1 := HA.out.2.2.1
  unfold chR at hs1
  have hb1' := hb1
  rw [hs1] at hp hg hb1
  have hq := hb1.size
  have hlp := hR.lt
  have HW1 := Lib.hid (show w1.heap[n]? = some (.cells (chR f t ((M : Nat) : Int) (.slice a bs.length cap)) 73 (0, 0)) ∧ Below n w w1 ∧ (n < p ∧ n < g) ∧ (p < w1.heap.size ∧ g < w1.heap.size) ∧ Rf w1 p g BB 0 from ⟨(hb1.block n (by omega)).trans HA.out.2.1, HA.out.1.trans (hb1.mono (by omega)), ⟨by omega, by omega⟩, hlp, hR⟩)
  have CS := Lib.hid (sgn_at p g BB 0 w1 hR (Nat.zero_le _) HBL.out)
  have C64 := Lib.hid (fun W at_ (h : Rf W p g BB at_) (h2 : at_ ≤ BB.length) => next_at p g BB at_ 64 (by decide) W h h2 HBL.out)
  have C1 := Lib.hid (fun W at_ (h : Rf W p g BB at_) (h2 : at_ ≤ BB.length) => next_at p g BB at_ 1 (by decide) W h h2 HBL.out)
  have C5 := Lib.hid (fun W at_ (h : Rf W p g BB at_) (h2 : at_ ≤ BB.length) => next_at p g BB at_ 5 (by decide) W h h2 HBL.out)
  have C6 := Lib.hid (fun W at_ (h : Rf W p g BB at_) (h2 : at_ ≤ BB.length) => next_at p g BB at_ 6 (by decide) W h h2 HBL.out)
  have CX := Lib.hid (fun z (hz : z ≤ 64) W at_ (h : Rf W p g BB at_) (h2 : at_ ≤ BB.length) => next_at p g BB at_ z hz W h h2 HBL.out)
  have CV := Lib.hid (fun W at_ (h : Rf W p g BB at_) (h2 : at_ ≤ BB.length) => var_at p g BB at_ W h h2 HBL.out)
  rw [show ((64 : Nat) : Int) = 64 from rfl] at C64
  rw [show ((1 : Nat) : Int) = 1 from rfl] at C1
  rw [show ((5 : Nat) : Int) = 5 from rfl] at C5
  rw [show ((6 : Nat) : Int) = 6 from rfl] at C6
  unfold pt at CS C64 C1 C5 C6 CX CV
  clear hp hg hb1 hb1' hq hlp hR hs1
  go_wp2_with fail
  refine CS.out.mono ?_
  rintro e w2 (⟨h1, ⟨x, rfl, hx⟩, h2, h3⟩ | ⟨v0, at1, h1, hv0, hat1, rfl, h2, h3⟩)
  · have hx1 : ((x : Int) != 0) = true := by simp; omega
    have hx2 : ¬ (x : Int) = 0 := by omega
    have HZ := Lib.hid (show Gm.dIt 0 BB = none ∧ Rf w2 p g BB 0 ∧ Below n w w2 from ⟨by unfold Gm.dIt Gm.dFst; rw [show Gm.vO BB = none from h1]; rfl, h2, HW1.out.2.1.trans (h3.below (by have := HW1.out.2.2.2.1; have := HW1.out.2.2.1; omega) (by intro x hx; simp at hx; have := HW1.out.2.2.1; omega))⟩)
    clear h1 h2 h3
    go_wp2_with fail
    refine (C64.out w2 0 HZ.out.2.1 (Nat.zero_le _)).mono ?_
    rintro e w3 (⟨k1, rfl, k2, k3⟩ | ⟨u0, k1, hu0, kat, rfl, k2, k3⟩)
    · have HP := Lib.hid (HX0.out 0 w3 HMM.out.1 HZ.out.1 (HZ.out.2.2.trans (k3.below (by have := HZ.out.2.2.size; have := HNN.out; omega) (by intro x hx; simp at hx; have := HW1.out.2.2.1; omega))))
      clear k1 k2 k3
      go_wp2_with fail
      go_ret2
      exact HP.out
    · have HP := Lib.hid (HX0.out 0 w3 HMM.out.1 HZ.out.1 (HZ.out.2.2.trans (k3.below (by have := HZ.out.2.2.size; have := HNN.out; omega) (by intro x hx; simp at hx; have := HW1.out.2.2.1; omega))))
      clear k1 k2 k3
      go_wp2_with fail
      go_ret2
      exact HP.out
  have HZ := Lib.hid (show Gm.vO BB = some (v0, BB.drop at1) ∧ Rf w2 p g BB at1 ∧ Below n w w2 ∧ w1.heap.size ≤ w2.heap.size ∧ w2.heap[n]? = some (.cells (chR f t ((M : Nat) : Int) (.slice a bs.length cap)) 73 (0, 0)) from ⟨h1, h2, HW1.out.2.1.trans (h3.below (by have := HW1.out.2.2.2.1; have := HW1.out.2.2.1; omega) (by intro x hx; simp at hx; have := HW1.out.2.2.1; omega)), h3.size, (h3.block n (by have := HW1.out.2.2.2.1; have := HW1.out.2.2.1; omega) (by have := HW1.out.2.2.1; simp; omega)).trans HW1.out.1⟩)
  clear h1 h2 h3 CS
  go_wp2_with fail
  refine (C64.out w2 at1 HZ.out.2.1 hat1).mono ?_
  rintro e w3 (⟨k1, rfl, k2, k3⟩ | ⟨u0, k1, hu0, kat, rfl, k2, k3⟩)
  · have HP := Lib.hid (HX0.out 0 w3 HMM.out.1 (by unfold Gm.dIt Gm.dFst; rw [HZ.out.1]; show Option.map _ (Option.map _ (Gm.rO 64 _)) = none; rw [k1]; rfl) (HZ.out.2.2.1.trans (k3.below (by have := HZ.out.2.2.1.size; have := HNN.out; omega) (by intro x hx; simp at hx; have := HW1.out.2.2.1; omega))))
    clear k1 k2 k3
    go_wp2_with fail
    go_ret2
    exact HP.out
  have hp3 : p < w3.heap.size ∧ n < w3.heap.size ∧ g < w3.heap.size := ⟨by have := HW1.out.2.2.2.1; have := HZ.out.2.2.2.1; have := k3.size; omega, by have := HW1.out.2.2.2.1; have := HW1.out.2.2.1; have := HZ.out.2.2.2.1; have := k3.size; omega, by have := HW1.out.2.2.2.1; have := HZ.out.2.2.2.1; have := k3.size; omega⟩
  have hbn3 : Below n w w3 := HZ.out.2.2.1.trans (k3.below (by have := HZ.out.2.2.1.size; have := HNN.out; omega) (by intro x hx; simp at hx; have := HW1.out.2.2.1; omega))
  have hbx3 : w3.heap[n]? = some (.cells (chR f t ((M : Nat) : Int) (.slice a bs.length cap)) 73 (0, 0)) := (k3.block n (by have := HW1.out.2.2.2.1; have := HW1.out.2.2.1; have := HZ.out.2.2.2.1; omega) (by have := HW1.out.2.2.1; simp; omega)).trans HZ.out.2.2.2.2
  obtain ⟨q, hq⟩ : ∃ q, w3.heap.size = q := ⟨_, rfl⟩
  have AA := (Below.refl w3.heap.size w3).alloc (Nat.le_refl _) (.cells #[.int .i64 (B2.Bt.uz v0), .int .u64 ((u0 : Nat) : Int)] 70)
  have HM0 := Lib.hid (show AlM n p g q (chR f t ((M : Nat) : Int) (.slice a bs.length cap)) BB w (at1 + 64) (.slice (some ⟨q, 0, none⟩) 1 1) [⟨B2.Bt.uz v0, u0⟩] (w3.alloc (.cells #[.int .i64 (B2.Bt.uz v0), .int .u64 ((u0 : Nat) : Int)] 70)) from
    ⟨k2.below AA, by rw [← hq]; exact own_lit w3 w3.heap.size (Nat.le_refl _) ⟨B2.Bt.uz v0, u0⟩, (AA.block n hp3.2.1).trans hbx3, hbn3.trans (AA.mono (by omega)), by simp; omega, ⟨HW1.out.2.2.1.1, by omega, by omega, by omega⟩⟩)
  have HD0 := Lib.hid (show Gm.dIt 0 BB = some ([⟨B2.Bt.uz v0, u0⟩], ⟨B2.Bt.uz v0, u0, 0, 0, 0, BB.drop (at1 + 64)⟩) from by unfold Gm.dIt Gm.dFst; rw [HZ.out.1]; show Option.map _ (Option.map _ (Gm.rO 64 _)) = _; rw [k1]; rfl)
  have HKA := Lib.hid kat
  clear k1 k2 k3 hp3 hbn3 hbx3 AA
  obtain ⟨y0, y1, y2, y3⟩ := four73 HM0.out.box
  obtain ⟨i0, hi, hz0, hz1, hz2⟩ := info_parts info70'
  have HI0 := Lib.hid (And.intro hi (And.intro hz0 (And.intro hz1 hz2)))
  clear hi hz0 hz1 hz2

  go_wp2_with fail
  go_loopw [5, 7, 9, 10, 11, 12] (fun tt vv out step left right wr => ∃ (m : Nat) (l : List Smp) (d : Dr) (at_ : Nat), 1 ≤ m ∧ m ≤ M ∧ tt = .int .i64 d.t ∧ vv = .int .u64 ((d.v : Nat) : Int) ∧ step = .int .u64 ((d.step : Nat) : Int) ∧ left = .int .i64 ((d.lf : Nat) : Int) ∧ right = .int .i64 ((d.rt : Nat) : Int) ∧ (∃ av cv, out = .slice av m cv) ∧ Hid (Gm.dIt (m - 1) BB = some (l, d) ∧ d.S = BB.drop at_ ∧ at_ ≤ BB.length ∧ AlM n p g q (chR f t ((M : Nat) : Int) (.slice a bs.length cap)) BB w at_ out l wr)) (fun _ _ out _ _ _ _ => M - lenV out)
  case atStart => exact ⟨1, _, _, at1 + 64, Nat.le_refl _, HMM.out.1, rfl, rfl, rfl, rfl, rfl, ⟨_, _, rfl⟩, Lib.hid ⟨HD0.out, rfl, HKA.out, HM0.out⟩⟩
  case round =>
    obtain ⟨m, l, ⟨T, V, st, L, R, S⟩, at_, hm1, hm2, rfl, rfl, rfl, rfl, rfl, ⟨av, cv, rfl⟩, HI⟩ := hrel
    clear y0 y1 y2 y3
    have hS := HI.out.2.1
    simp only at hS
    subst hS
    have HIN := Lib.hid (dIt_I _ _ _ _ HI.out.1)
    have HLN := Lib.hid (show l.length = m from by rw [Gm.dIt_len _ _ _ _ HI.out.1]; omega)
    have HM := Lib.hid HI.out.2.2.2
    have hat := HI.out.2.2.1
    obtain ⟨y0, y1, y2, y3⟩ := four73 HM.out.box
    by_cases hlt : m < M
    · have da : decide ((m : Int) < (M : Int)) = true := decide_eq_true (by omega)
      have da2 : decide (m < M) = true := decide_eq_true hlt
      have HNX := Lib.hid (dIt_next (B := BB) hm1 HI.out.1)
      have HX := Lib.hid (show ∀ W, Gm.dNext m ⟨T, V, st, L, R, BB.drop at_⟩ = none → Below n w W → AlPost w f t ((M : Nat) : Int) bs (.returned (.tuple #[.slice none 0 0, .bool false])) W from fun W h hb => HX0.out m W (by omega) (by rw [HNX.out, h]; rfl) hb)
      have HTB := Lib.hid (show Calls Tryd.prog 72 #[pt p] wr (ChgPost wr p g BB at_) from change_any p g BB at_ k0 p0 p1 p2 c c0 c1 c2 o9 oa oc od wr HM.out.rf (HTW.out.below (by rw [HNN.out]; exact HM.out.bel)) (by have h1 := HA.out.2.2.2.2.2; have h2 := HM.out.ne; omega) hat HBL.out)
      have hLR := HIN.out.1.win
      have hVl := HIN.out.1.v
      have hsl := HIN.out.1.step
      simp only at hLR hVl hsl
      unfold pt at HTB
      obtain ⟨z, hz⟩ : ∃ z, 64 - L - R = z := ⟨_, rfl⟩
      have hzl : z ≤ 64 := by omega
      have hz1 : IntKind.i64.wrap ((64 : Int) - (L : Int)) = (64 : Int) - (L : Int) := by rw [i64_is]; unfold RowKit.wrap64; omega
      have hz3 : (64 : Int) - (L : Int) - (R : Int) = (z : Int) := by omega
      have hz2 : IntKind.i64.wrap ((64 : Int) - (L : Int) - (R : Int)) = (z : Int) := by rw [i64_is, hz3]; unfold RowKit.wrap64; omega
      have hz4 : IntKind.i64.wrap (z : Int) = (z : Int) := by rw [i64_is]; unfold RowKit.wrap64; omega
      have HZZ := Lib.hid hz
      clear hz
      by_cases hm3 : m = 1
      · subst hm3
        rw [show ((1 : Nat) : Int) = 1 from rfl] at da
        rw [show ((M : Nat) : Int) = (M : Int) from rfl]
        go_wp2_with fail
        refine (CV.out wr at_ HM.out.rf hat).mono ?_
        rintro e w4 (⟨h1, ⟨x, rfl, hx⟩, h2, h3⟩ | ⟨s2, at2, h1, hs2, hat2, rfl, h2, h3⟩)
        · have hx1 : ((x : Int) != 0) = true := by simp; omega
          have hx2 : ¬ (x : Int) = 0 := by omega
          have HP := Lib.hid (HX.out w4 (by unfold Gm.dNext Gm.tO; rw [if_pos rfl]; rw [show Gm.vO (Dr.S ⟨T, V, st, L, R, BB.drop at_⟩) = none from h1]; rfl) (HM.out.rd h2 h3).bel)
          clear h1 h2 h3
          go_wp2_with fail
          go_ret2
          exact HP.out
        · have HM1 := Lib.hid (HM.out.rd h2 h3)
          have HTO := Lib.hid (show Gm.tO 1 st (BB.drop at_) = some (s2, BB.drop at2) from by unfold Gm.tO; rw [if_pos rfl]; exact h1)
          clear h1 h2 h3 HM hat HTB
          have HYN := Lib.hid (show Gm.dNext 1 ⟨T, V, st, L, R, BB.drop at_⟩ = Gm.nO ⟨Gm.wI (T + Gm.i64 s2), V, s2, L, R, BB.drop at2⟩ from by unfold Gm.dNext; rw [show Gm.tO 1 (Dr.step ⟨T, V, st, L, R, BB.drop at_⟩) (Dr.S ⟨T, V, st, L, R, BB.drop at_⟩) = _ from HTO.out]; rfl)
          rw [HYN.out] at HX HNX
          have htw := time_word T s2 hs2
          obtain ⟨T2, hT2⟩ : ∃ T2, Gm.wI (T + Gm.i64 s2) = T2 := ⟨_, rfl⟩
          rw [hT2] at htw HX HNX
          clear hT2 HTO HYN
          go_wp2_with fail
          refine (C1.out _ _ HM1.out.rf hat2).mono ?_
          rintro e w5 (⟨h1, rfl, h2, h3⟩ | ⟨b, h1, hb, hle, rfl, h2, h3⟩)
          · have HP := Lib.hid (HX.out w5 (nO_e h1) (HM1.out.rd h2 h3).bel)
            clear h1 h2 h3
            go_wp2_with fail
            go_ret2
            exact HP.out
          · have HM2 := Lib.hid (HM1.out.rd h2 h3)
            have HB1 := Lib.hid h1
            clear h1 h2 h3 HM1
            have hb2 : b = 0 ∨ b = 1 := by omega
            rcases hb2 with rfl | rfl
            · have HN := Lib.hid (show Gm.dIt 1 BB = some (l ++ [⟨T2, V⟩], ⟨T2, V, s2, L, R, BB.drop (at2 + 1)⟩) from by rw [HNX.out, nO_same HB1.out]; rfl)
              rw [show ((0 : Nat) : Int) = 0 from rfl]
              have HSRC := Lib.hid (two_cellsN w5 ⟨T2, V⟩)
              have HONE := Lib.hid (show ∀ u ∈ ([.int .i64 T2, .int .u64 ((V : Nat) : Int)] : List Value), u.oneCell' = true by simp [Value.oneCell'])
              have HOW := Lib.hid (own_row HM2.out.own HLN.out)
              go_wp2_with (at_builtin; refine wpList_append_own_at _ rfl (.tmp 150) (.tmp 154) 22 rfl q 70 i0 (.agg #[.int .i64 0, .int .u64 0]) 2 16 Tryd.underlying22 HI0.out.1 HI0.out.2.1 HI0.out.2.2.1 HI0.out.2.2.2 rfl (by decide) (.slice av 1 cv) 1 (smC l) rfl (HOW.out.alloc _) ⟨w5.heap.size, 0, none⟩ 1 1 [.int .i64 T2, .int .u64 ((V : Nat) : Int)] rfl rfl HSRC.out HONE.out (by have := HMM.out; unfold maxLen; omega) (by have := HMM.out; omega) (by have := HM2.out.sz; simp; omega) ?_; intro v9 w9 hown9 hgr9 _ _; have HM9 := Lib.hid (HM2.out.add (l' := l ++ [⟨T2, V⟩]) (by unfold OwnS; rw [smC_snoc, List.length_append, HLN.out]; exact hown9) hgr9); clear hown9 hgr9)
              obtain ⟨av9, cv9, rfl, _⟩ := HM9.out.own.shape
              have hl9 : (l ++ [(⟨T2, V⟩ : Smp)]).length = 1 + 1 := by rw [List.length_append, HLN.out]; rfl
              rw [hl9] at HM9 ⊢
              clear hl9 HSRC HONE HOW
              go_wp2_with fail
              go_roundw
              case rel => exact ⟨1 + 1, l ++ [⟨T2, V⟩], ⟨T2, V, s2, L, R, BB.drop (at2 + 1)⟩, at2 + 1, by omega, by omega, rfl, rfl, rfl, rfl, rfl, ⟨_, _, rfl⟩, Lib.hid ⟨by rw [Nat.add_sub_cancel]; exact HN.out, rfl, hle, HM9.out⟩⟩
              case measure => simp [lenV]; omega
            · rw [show ((1 : Nat) : Int) = 1 from rfl]
              go_wp2_with fail
              refine (C1.out _ _ HM2.out.rf hle).mono ?_
              rintro e w6 (⟨h1, rfl, h2, h3⟩ | ⟨u, h1, hu, hle2, rfl, h2, h3⟩)
              · have HM3 := Lib.hid (HM2.out.rd h2 h3)
                have HE := Lib.hid (show Gm.nO ⟨T2, V, s2, L, R, BB.drop at2⟩ = none from nO_e2 HB1.out h1)
                clear h1 h2 h3 HM2
                go_wp2_with fail
                refine (CX.out z hzl _ _ HM3.out.rf hle).mono ?_
                rintro e w7 (⟨h1, rfl, h2, h3⟩ | ⟨X, h1, hX, hle3, rfl, h2, h3⟩)
                · have HP := Lib.hid (HX.out w7 HE.out (HM3.out.rd h2 h3).bel)
                  clear h1 h2 h3
                  go_wp2_with fail
                  go_ret2
                  exact HP.out
                · have HP := Lib.hid (HX.out w7 HE.out (HM3.out.rd h2 h3).bel)
                  clear h1 h2 h3
                  go_wp2_with fail
                  go_ret2
                  exact HP.out
              · have HM3 := Lib.hid (HM2.out.rd h2 h3)
                have HB2 := Lib.hid h1
                clear h1 h2 h3 HM2
                have hu2 : u = 0 ∨ u = 1 := by omega
                rcases hu2 with rfl | rfl
                · have EQ := Lib.hid (show Gm.nO ⟨T2, V, s2, L, R, BB.drop at2⟩ = Gm.xO ⟨T2, V, s2, L, R, BB.drop at2⟩ (L, R, BB.drop (at2 + 1 + 1)) from nO_old HB1.out HB2.out)
                  rw [show ((0 : Nat) : Int) = 0 from rfl]
                  go_wp2_with fail
                  refine (CX.out z hzl _ _ HM3.out.rf hle2).mono ?_
                  rintro e w8 (⟨h1, rfl, h2, h3⟩ | ⟨X, h1, hX, hle9, rfl, h2, h3⟩)
                  · rw [← HZZ.out] at h1
                    have HP := Lib.hid (HX.out w8 (by rw [EQ.out]; exact xO_e h1) (HM3.out.rd h2 h3).bel)
                    clear h1 h2 h3
                    go_wp2_with fail
                    go_ret2
                    exact HP.out
                  · have HM8 := Lib.hid (HM3.out.rd h2 h3)
                    have h1' := h1
                    rw [← HZZ.out] at h1'
                    have HN8 := Lib.hid (show Gm.dIt 1 BB = some (l ++ [⟨T2, V ^^^ ((X <<< R) % 18446744073709551616)⟩], ⟨T2, V ^^^ ((X <<< R) % 18446744073709551616), s2, L, R, BB.drop (at2 + 1 + 1 + z)⟩) from by rw [HNX.out, EQ.out, xO_ok h1', HZZ.out]; rfl)
                    have hsh := shl_word X R (by omega)
                    have hxo := u64_xor_nat V ((X <<< R) % 18446744073709551616) hVl (Nat.mod_lt _ (by decide))
                    have hRw : IntKind.u64.wrap ((R : Nat) : Int) = ((R : Nat) : Int) := by rw [IntKind.wrap_u64]; omega
                    obtain ⟨Y, hY⟩ : ∃ Y, (X <<< R) % 18446744073709551616 = Y := ⟨_, rfl⟩
                    rw [hY] at hsh hxo HN8
                    obtain ⟨V2, hV2⟩ : ∃ V2, V ^^^ Y = V2 := ⟨_, rfl⟩
                    rw [hV2] at hxo HN8
                    clear h1 h1' h2 h3 hY hV2 HM3
                    have HSRC := Lib.hid (two_cellsN w8 ⟨T2, V2⟩)
                    have HONE := Lib.hid (show ∀ u ∈ ([.int .i64 T2, .int .u64 ((V2 : Nat) : Int)] : List Value), u.oneCell' = true by simp [Value.oneCell'])
                    have HOW := Lib.hid (own_row HM8.out.own HLN.out)
                    go_wp2_with (at_builtin; refine wpList_append_own_at _ rfl (.tmp 150) (.tmp 154) 22 rfl q 70 i0 (.agg #[.int .i64 0, .int .u64 0]) 2 16 Tryd.underlying22 HI0.out.1 HI0.out.2.1 HI0.out.2.2.1 HI0.out.2.2.2 rfl (by decide) (.slice av 1 cv) 1 (smC l) rfl (HOW.out.alloc _) ⟨w8.heap.size, 0, none⟩ 1 1 [.int .i64 T2, .int .u64 ((V2 : Nat) : Int)] rfl rfl HSRC.out HONE.out (by have := HMM.out; unfold maxLen; omega) (by have := HMM.out; omega) (by have := HM8.out.sz; simp; omega) ?_; intro v9 w9 hown9 hgr9 _ _; have HM9 := Lib.hid (HM8.out.add (l' := l ++ [⟨T2, V2⟩]) (by unfold OwnS; rw [smC_snoc, List.length_append, HLN.out]; exact hown9) hgr9); clear hown9 hgr9)
                    obtain ⟨av9, cv9, rfl, _⟩ := HM9.out.own.shape
                    have hl9 : (l ++ [(⟨T2, V2⟩ : Smp)]).length = 1 + 1 := by rw [List.length_append, HLN.out]; rfl
                    rw [hl9] at HM9 ⊢
                    clear hl9 HSRC HONE HOW
                    go_wp2_with fail
                    go_roundw
                    case rel => exact ⟨1 + 1, l ++ [⟨T2, V2⟩], ⟨T2, V2, s2, L, R, BB.drop (at2 + 1 + 1 + z)⟩, at2 + 1 + 1 + z, by omega, by omega, rfl, rfl, rfl, rfl, rfl, ⟨_, _, rfl⟩, Lib.hid ⟨by rw [Nat.add_sub_cancel]; exact HN8.out, rfl, hle9, HM9.out⟩⟩
                    case measure => simp [lenV]; omega
                · have EQ0 := Lib.hid (nO_new (d := ⟨T2, V, s2, L, R, BB.drop at2⟩) HB1.out HB2.out)
                  rw [show ((1 : Nat) : Int) = 1 from rfl]
                  clear hz1 hz2 hz3 hz4
                  go_wp2_with fail
                  refine (C5.out _ _ HM3.out.rf hle2).mono ?_
                  rintro e w7 (⟨h1, rfl, h2, h3⟩ | ⟨x5, h1, hx5, hle5, rfl, h2, h3⟩)
                  · have HM4 := Lib.hid (HM3.out.rd h2 h3)
                    have HE := Lib.hid (show Gm.nO ⟨T2, V, s2, L, R, BB.drop at2⟩ = none from by rw [EQ0.out, wO_e h1]; rfl)
                    clear h1 h2 h3 HM3
                    go_wp2_with fail
                    refine (C6.out _ _ HM4.out.rf hle2).mono ?_
                    rintro e w8 (⟨h1, rfl, h2, h3⟩ | ⟨x6, h1, hx6, hle6, rfl, h2, h3⟩)
                    · have HP := Lib.hid (HX.out w8 HE.out (HM4.out.rd h2 h3).bel)
                      clear h1 h2 h3
                      go_wp2_with fail
                      go_ret2
                      exact HP.out
                    · have HP := Lib.hid (HX.out w8 HE.out (HM4.out.rd h2 h3).bel)
                      have hcw : IntKind.i64.wrap (x6 : Int) = (x6 : Int) := by rw [i64_is]; unfold RowKit.wrap64; omega
                      clear h1 h2 h3
                      go_wp2_with fail
                      go_ret2
                      exact HP.out
                  · have HM4 := Lib.hid (HM3.out.rd h2 h3)
                    have HB5 := Lib.hid h1
                    have hcw : IntKind.i64.wrap (x5 : Int) = (x5 : Int) := by rw [i64_is]; unfold RowKit.wrap64; omega
                    clear h1 h2 h3 HM3
                    go_wp2_with fail
                    refine (C6.out _ _ HM4.out.rf hle5).mono ?_
                    rintro e w8 (⟨h1, rfl, h2, h3⟩ | ⟨x6, h1, hx6, hle6, rfl, h2, h3⟩)
                    · have HP := Lib.hid (HX.out w8 (by rw [EQ0.out, wO_e2 HB5.out h1]; rfl) (HM4.out.rd h2 h3).bel)
                      clear h1 h2 h3
                      go_wp2_with fail
                      go_ret2
                      exact HP.out
                    · have HM5 := Lib.hid (HM4.out.rd h2 h3)
                      have HB6 := Lib.hid h1
                      have hcw6 : IntKind.i64.wrap (x6 : Int) = (x6 : Int) := by rw [i64_is]; unfold RowKit.wrap64; omega
                      have hm1' : IntKind.i64.wrap ((63 : Int) - (x5 : Int)) = (63 : Int) - (x5 : Int) := by rw [i64_is]; unfold RowKit.wrap64; omega
                      clear h1 h2 h3 HM4
                      by_cases hfar : 63 < x5 + x6
                      · have hm2' : IntKind.i64.wrap ((63 : Int) - (x5 : Int) - (x6 : Int)) = (63 : Int) - (x5 : Int) - (x6 : Int) := by rw [i64_is]; unfold RowKit.wrap64; omega
                        have hneg : decide ((63 : Int) - (x5 : Int) - (x6 : Int) < 0) = true := decide_eq_true (by omega)
                        have HP := Lib.hid (HX.out w8 (by rw [EQ0.out, wO_far HB5.out HB6.out hfar]; rfl) HM5.out.bel)
                        go_wp2_with fail
                        go_ret2
                        exact HP.out
                      · obtain ⟨R2, hR2⟩ : ∃ R2, 63 - x5 - x6 = R2 := ⟨_, rfl⟩
                        have hm4' : (63 : Int) - (x5 : Int) - (x6 : Int) = (R2 : Int) := by omega
                        have hm2' : IntKind.i64.wrap ((63 : Int) - (x5 : Int) - (x6 : Int)) = (R2 : Int) := by rw [i64_is, hm4']; unfold RowKit.wrap64; omega
                        have hm3' : IntKind.i64.wrap (R2 : Int) = (R2 : Int) := by rw [i64_is]; unfold RowKit.wrap64; omega
                        have hneg : decide ((R2 : Int) < 0) = false := decide_eq_false (by omega)
                        have EQ := Lib.hid (show Gm.nO ⟨T2, V, s2, L, R, BB.drop at2⟩ = Gm.xO ⟨T2, V, s2, L, R, BB.drop at2⟩ (x5, R2, BB.drop (at2 + 1 + 1 + 5 + 6)) from by rw [EQ0.out, wO_ok HB5.out HB6.out hfar, hR2]; rfl)
                        obtain ⟨z2, hz2e⟩ : ∃ z2, 64 - x5 - R2 = z2 := ⟨_, rfl⟩
                        have HZ2 := Lib.hid hz2e
                        have hzl2 : z2 ≤ 64 := by omega
                        have hz1 : IntKind.i64.wrap ((64 : Int) - (x5 : Int)) = (64 : Int) - (x5 : Int) := by rw [i64_is]; unfold RowKit.wrap64; omega
                        have hz3 : (64 : Int) - (x5 : Int) - (R2 : Int) = (z2 : Int) := by omega
                        have hz2 : IntKind.i64.wrap ((64 : Int) - (x5 : Int) - (R2 : Int)) = (z2 : Int) := by rw [i64_is, hz3]; unfold RowKit.wrap64; omega
                        have hz4 : IntKind.i64.wrap (z2 : Int) = (z2 : Int) := by rw [i64_is]; unfold RowKit.wrap64; omega
                        have hR63 : R2 ≤ 63 := by omega
                        clear hR2 hz2e
                        go_wp2_with fail
                        refine (CX.out z2 hzl2 _ _ HM5.out.rf hle6).mono ?_
                        rintro e w8 (⟨h1, rfl, h2, h3⟩ | ⟨X, h1, hX, hle9, rfl, h2, h3⟩)
                        · rw [← HZ2.out] at h1
                          have HP := Lib.hid (HX.out w8 (by rw [EQ.out]; exact xO_e h1) (HM5.out.rd h2 h3).bel)
                          clear h1 h2 h3
                          go_wp2_with fail
                          go_ret2
                          exact HP.out
                        · have HM8 := Lib.hid (HM5.out.rd h2 h3)
                          have h1' := h1
                          rw [← HZ2.out] at h1'
                          have HN8 := Lib.hid (show Gm.dIt 1 BB = some (l ++ [⟨T2, V ^^^ ((X <<< R2) % 18446744073709551616)⟩], ⟨T2, V ^^^ ((X <<< R2) % 18446744073709551616), s2, x5, R2, BB.drop (at2 + 1 + 1 + 5 + 6 + z2)⟩) from by rw [HNX.out, EQ.out, xO_ok h1', HZ2.out]; rfl)
                          have hsh := shl_word X R2 (by omega)
                          have hxo := u64_xor_nat V ((X <<< R2) % 18446744073709551616) hVl (Nat.mod_lt _ (by decide))
                          have hRw : IntKind.u64.wrap ((R2 : Nat) : Int) = ((R2 : Nat) : Int) := by rw [IntKind.wrap_u64]; omega
                          obtain ⟨Y, hY⟩ : ∃ Y, (X <<< R2) % 18446744073709551616 = Y := ⟨_, rfl⟩
                          rw [hY] at hsh hxo HN8
                          obtain ⟨V2, hV2⟩ : ∃ V2, V ^^^ Y = V2 := ⟨_, rfl⟩
                          rw [hV2] at hxo HN8
                          clear h1 h1' h2 h3 hY hV2 HM5
                          have HSRC := Lib.hid (two_cellsN w8 ⟨T2, V2⟩)
                          have HONE := Lib.hid (show ∀ u ∈ ([.int .i64 T2, .int .u64 ((V2 : Nat) : Int)] : List Value), u.oneCell' = true by simp [Value.oneCell'])
                          have HOW := Lib.hid (own_row HM8.out.own HLN.out)
                          go_wp2_with (at_builtin; refine wpList_append_own_at _ rfl (.tmp 150) (.tmp 154) 22 rfl q 70 i0 (.agg #[.int .i64 0, .int .u64 0]) 2 16 Tryd.underlying22 HI0.out.1 HI0.out.2.1 HI0.out.2.2.1 HI0.out.2.2.2 rfl (by decide) (.slice av 1 cv) 1 (smC l) rfl (HOW.out.alloc _) ⟨w8.heap.size, 0, none⟩ 1 1 [.int .i64 T2, .int .u64 ((V2 : Nat) : Int)] rfl rfl HSRC.out HONE.out (by have := HMM.out; unfold maxLen; omega) (by have := HMM.out; omega) (by have := HM8.out.sz; simp; omega) ?_; intro v9 w9 hown9 hgr9 _ _; have HM9 := Lib.hid (HM8.out.add (l' := l ++ [⟨T2, V2⟩]) (by unfold OwnS; rw [smC_snoc, List.length_append, HLN.out]; exact hown9) hgr9); clear hown9 hgr9)
                          obtain ⟨av9, cv9, rfl, _⟩ := HM9.out.own.shape
                          have hl9 : (l ++ [(⟨T2, V2⟩ : Smp)]).length = 1 + 1 := by rw [List.length_append, HLN.out]; rfl
                          rw [hl9] at HM9 ⊢
                          clear hl9 HSRC HONE HOW
                          go_wp2_with fail
                          go_roundw
                          case rel => exact ⟨1 + 1, l ++ [⟨T2, V2⟩], ⟨T2, V2, s2, x5, R2, BB.drop (at2 + 1 + 1 + 5 + 6 + z2)⟩, at2 + 1 + 1 + 5 + 6 + z2, by omega, by omega, rfl, rfl, rfl, rfl, rfl, ⟨_, _, rfl⟩, Lib.hid ⟨by rw [Nat.add_sub_cancel]; exact HN8.out, rfl, hle9, HM9.out⟩⟩
                          case measure => simp [lenV]; omega
      · have e1 : ((m : Int) == 1) = false := by simp; omega
        have e2 : ¬ (m : Int) = 1 := by omega
        go_wp2_with fail
        refine HTB.out.mono ?_
        rintro e w4 ⟨v4, x, at2, rfl, hat2, h2, h3, hv4, h4⟩
        rcases h4 with ⟨rfl, h1⟩ | ⟨hx, h1⟩
        · have HM1 := Lib.hid (HM.out.rd h2 h3)
          obtain ⟨s2, hs2e⟩ : ∃ s2, (st + v4) % 18446744073709551616 = s2 := ⟨_, rfl⟩
          have hs2 : s2 < 18446744073709551616 := by omega
          have hadd : IntKind.u64.wrap ((st : Int) + (v4 : Int)) = (s2 : Int) := by rw [add_word, hs2e]
          have HTO := Lib.hid (show Gm.tO m st (BB.drop at_) = some (s2, BB.drop at2) from by unfold Gm.tO; rw [if_neg hm3, h1]; simp only [Option.map_some, hs2e])
          clear h1 h2 h3 HM hat HTB hs2e
          rw [show ((0 : Nat) : Int) = 0 from rfl]
          have HYN := Lib.hid (show Gm.dNext m ⟨T, V, st, L, R, BB.drop at_⟩ = Gm.nO ⟨Gm.wI (T + Gm.i64 s2), V, s2, L, R, BB.drop at2⟩ from by unfold Gm.dNext; rw [show Gm.tO m (Dr.step ⟨T, V, st, L, R, BB.drop at_⟩) (Dr.S ⟨T, V, st, L, R, BB.drop at_⟩) = _ from HTO.out]; rfl)
          rw [HYN.out] at HX HNX
          have htw := time_word T s2 hs2
          obtain ⟨T2, hT2⟩ : ∃ T2, Gm.wI (T + Gm.i64 s2) = T2 := ⟨_, rfl⟩
          rw [hT2] at htw HX HNX
          clear hT2 HTO HYN
          go_wp2_with fail
          refine (C1.out _ _ HM1.out.rf hat2).mono ?_
          rintro e w5 (⟨h1, rfl, h2, h3⟩ | ⟨b, h1, hb, hle, rfl, h2, h3⟩)
          · have HP := Lib.hid (HX.out w5 (nO_e h1) (HM1.out.rd h2 h3).bel)
            clear h1 h2 h3
            go_wp2_with fail
            go_ret2
            exact HP.out
          · have HM2 := Lib.hid (HM1.out.rd h2 h3)
            have HB1 := Lib.hid h1
            clear h1 h2 h3 HM1
            have hb2 : b = 0 ∨ b = 1 := by omega
            rcases hb2 with rfl | rfl
            · have HN := Lib.hid (show Gm.dIt m BB = some (l ++ [⟨T2, V⟩], ⟨T2, V, s2, L, R, BB.drop (at2 + 1)⟩) from by rw [HNX.out, nO_same HB1.out]; rfl)
              rw [show ((0 : Nat) : Int) = 0 from rfl]
              have HSRC := Lib.hid (two_cellsN w5 ⟨T2, V⟩)
              have HONE := Lib.hid (show ∀ u ∈ ([.int .i64 T2, .int .u64 ((V : Nat) : Int)] : List Value), u.oneCell' = true by simp [Value.oneCell'])
              have HOW := Lib.hid (own_row HM2.out.own HLN.out)
              go_wp2_with (at_builtin; refine wpList_append_own_at _ rfl (.tmp 150) (.tmp 154) 22 rfl q 70 i0 (.agg #[.int .i64 0, .int .u64 0]) 2 16 Tryd.underlying22 HI0.out.1 HI0.out.2.1 HI0.out.2.2.1 HI0.out.2.2.2 rfl (by decide) (.slice av m cv) m (smC l) rfl (HOW.out.alloc _) ⟨w5.heap.size, 0, none⟩ 1 1 [.int .i64 T2, .int .u64 ((V : Nat) : Int)] rfl rfl HSRC.out HONE.out (by have := HMM.out; unfold maxLen; omega) (by have := HMM.out; omega) (by have := HM2.out.sz; simp; omega) ?_; intro v9 w9 hown9 hgr9 _ _; have HM9 := Lib.hid (HM2.out.add (l' := l ++ [⟨T2, V⟩]) (by unfold OwnS; rw [smC_snoc, List.length_append, HLN.out]; exact hown9) hgr9); clear hown9 hgr9)
              obtain ⟨av9, cv9, rfl, _⟩ := HM9.out.own.shape
              have hl9 : (l ++ [(⟨T2, V⟩ : Smp)]).length = m + 1 := by rw [List.length_append, HLN.out]; rfl
              rw [hl9] at HM9 ⊢
              clear hl9 HSRC HONE HOW
              go_wp2_with fail
              go_roundw
              case rel => exact ⟨m + 1, l ++ [⟨T2, V⟩], ⟨T2, V, s2, L, R, BB.drop (at2 + 1)⟩, at2 + 1, by omega, by omega, rfl, rfl, rfl, rfl, rfl, ⟨_, _, rfl⟩, Lib.hid ⟨by rw [Nat.add_sub_cancel]; exact HN.out, rfl, hle, HM9.out⟩⟩
              case measure => simp [lenV]; omega
            · rw [show ((1 : Nat) : Int) = 1 from rfl]
              go_wp2_with fail
              refine (C1.out _ _ HM2.out.rf hle).mono ?_
              rintro e w6 (⟨h1, rfl, h2, h3⟩ | ⟨u, h1, hu, hle2, rfl, h2, h3⟩)
              · have HM3 := Lib.hid (HM2.out.rd h2 h3)
                have HE := Lib.hid (show Gm.nO ⟨T2, V, s2, L, R, BB.drop at2⟩ = none from nO_e2 HB1.out h1)
                clear h1 h2 h3 HM2
                go_wp2_with fail
                refine (CX.out z hzl _ _ HM3.out.rf hle).mono ?_
                rintro e w7 (⟨h1, rfl, h2, h3⟩ | ⟨X, h1, hX, hle3, rfl, h2, h3⟩)
                · have HP := Lib.hid (HX.out w7 HE.out (HM3.out.rd h2 h3).bel)
                  clear h1 h2 h3
                  go_wp2_with fail
                  go_ret2
                  exact HP.out
                · have HP := Lib.hid (HX.out w7 HE.out (HM3.out.rd h2 h3).bel)
                  clear h1 h2 h3
                  go_wp2_with fail
                  go_ret2
                  exact HP.out
              · have HM3 := Lib.hid (HM2.out.rd h2 h3)
                have HB2 := Lib.hid h1
                clear h1 h2 h3 HM2
                have hu2 : u = 0 ∨ u = 1 := by omega
                rcases hu2 with rfl | rfl
                · have EQ := Lib.hid (show Gm.nO ⟨T2, V, s2, L, R, BB.drop at2⟩ = Gm.xO ⟨T2, V, s2, L, R, BB.drop at2⟩ (L, R, BB.drop (at2 + 1 + 1)) from nO_old HB1.out HB2.out)
                  rw [show ((0 : Nat) : Int) = 0 from rfl]
                  go_wp2_with fail
                  refine (CX.out z hzl _ _ HM3.out.rf hle2).mono ?_
                  rintro e w8 (⟨h1, rfl, h2, h3⟩ | ⟨X, h1, hX, hle9, rfl, h2, h3⟩)
                  · rw [← HZZ.out] at h1
                    have HP := Lib.hid (HX.out w8 (by rw [EQ.out]; exact xO_e h1) (HM3.out.rd h2 h3).bel)
                    clear h1 h2 h3
                    go_wp2_with fail
                    go_ret2
                    exact HP.out
                  · have HM8 := Lib.hid (HM3.out.rd h2 h3)
                    have h1' := h1
                    rw [← HZZ.out] at h1'
                    have HN8 := Lib.hid (show Gm.dIt m BB = some (l ++ [⟨T2, V ^^^ ((X <<< R) % 18446744073709551616)⟩], ⟨T2, V ^^^ ((X <<< R) % 18446744073709551616), s2, L, R, BB.drop (at2 + 1 + 1 + z)⟩) from by rw [HNX.out, EQ.out, xO_ok h1', HZZ.out]; rfl)
                    have hsh := shl_word X R (by omega)
                    have hxo := u64_xor_nat V ((X <<< R) % 18446744073709551616) hVl (Nat.mod_lt _ (by decide))
                    have hRw : IntKind.u64.wrap ((R : Nat) : Int) = ((R : Nat) : Int) := by rw [IntKind.wrap_u64]; omega
                    obtain ⟨Y, hY⟩ : ∃ Y, (X <<< R) % 18446744073709551616 = Y := ⟨_, rfl⟩
                    rw [hY] at hsh hxo HN8
                    obtain ⟨V2, hV2⟩ : ∃ V2, V ^^^ Y = V2 := ⟨_, rfl⟩
                    rw [hV2] at hxo HN8
                    clear h1 h1' h2 h3 hY hV2 HM3
                    have HSRC := Lib.hid (two_cellsN w8 ⟨T2, V2⟩)
                    have HONE := Lib.hid (show ∀ u ∈ ([.int .i64 T2, .int .u64 ((V2 : Nat) : Int)] : List Value), u.oneCell' = true by simp [Value.oneCell'])
                    have HOW := Lib.hid (own_row HM8.out.own HLN.out)
                    go_wp2_with (at_builtin; refine wpList_append_own_at _ rfl (.tmp 150) (.tmp 154) 22 rfl q 70 i0 (.agg #[.int .i64 0, .int .u64 0]) 2 16 Tryd.underlying22 HI0.out.1 HI0.out.2.1 HI0.out.2.2.1 HI0.out.2.2.2 rfl (by decide) (.slice av m cv) m (smC l) rfl (HOW.out.alloc _) ⟨w8.heap.size, 0, none⟩ 1 1 [.int .i64 T2, .int .u64 ((V2 : Nat) : Int)] rfl rfl HSRC.out HONE.out (by have := HMM.out; unfold maxLen; omega) (by have := HMM.out; omega) (by have := HM8.out.sz; simp; omega) ?_; intro v9 w9 hown9 hgr9 _ _; have HM9 := Lib.hid (HM8.out.add (l' := l ++ [⟨T2, V2⟩]) (by unfold OwnS; rw [smC_snoc, List.length_append, HLN.out]; exact hown9) hgr9); clear hown9 hgr9)
                    obtain ⟨av9, cv9, rfl, _⟩ := HM9.out.own.shape
                    have hl9 : (l ++ [(⟨T2, V2⟩ : Smp)]).length = m + 1 := by rw [List.length_append, HLN.out]; rfl
                    rw [hl9] at HM9 ⊢
                    clear hl9 HSRC HONE HOW
                    go_wp2_with fail
                    go_roundw
                    case rel => exact ⟨m + 1, l ++ [⟨T2, V2⟩], ⟨T2, V2, s2, L, R, BB.drop (at2 + 1 + 1 + z)⟩, at2 + 1 + 1 + z, by omega, by omega, rfl, rfl, rfl, rfl, rfl, ⟨_, _, rfl⟩, Lib.hid ⟨by rw [Nat.add_sub_cancel]; exact HN8.out, rfl, hle9, HM9.out⟩⟩
                    case measure => simp [lenV]; omega
                · have EQ0 := Lib.hid (nO_new (d := ⟨T2, V, s2, L, R, BB.drop at2⟩) HB1.out HB2.out)
                  rw [show ((1 : Nat) : Int) = 1 from rfl]
                  clear hz1 hz2 hz3 hz4
                  go_wp2_with fail
                  refine (C5.out _ _ HM3.out.rf hle2).mono ?_
                  rintro e w7 (⟨h1, rfl, h2, h3⟩ | ⟨x5, h1, hx5, hle5, rfl, h2, h3⟩)
                  · have HM4 := Lib.hid (HM3.out.rd h2 h3)
                    have HE := Lib.hid (show Gm.nO ⟨T2, V, s2, L, R, BB.drop at2⟩ = none from by rw [EQ0.out, wO_e h1]; rfl)
                    clear h1 h2 h3 HM3
                    go_wp2_with fail
                    refine (C6.out _ _ HM4.out.rf hle2).mono ?_
                    rintro e w8 (⟨h1, rfl, h2, h3⟩ | ⟨x6, h1, hx6, hle6, rfl, h2, h3⟩)
                    · have HP := Lib.hid (HX.out w8 HE.out (HM4.out.rd h2 h3).bel)
                      clear h1 h2 h3
                      go_wp2_with fail
                      go_ret2
                      exact HP.out
                    · have HP := Lib.hid (HX.out w8 HE.out (HM4.out.rd h2 h3).bel)
                      have hcw : IntKind.i64.wrap (x6 : Int) = (x6 : Int) := by rw [i64_is]; unfold RowKit.wrap64; omega
                      clear h1 h2 h3
                      go_wp2_with fail
                      go_ret2
                      exact HP.out
                  · have HM4 := Lib.hid (HM3.out.rd h2 h3)
                    have HB5 := Lib.hid h1
                    have hcw : IntKind.i64.wrap (x5 : Int) = (x5 : Int) := by rw [i64_is]; unfold RowKit.wrap64; omega
                    clear h1 h2 h3 HM3
                    go_wp2_with fail
                    refine (C6.out _ _ HM4.out.rf hle5).mono ?_
                    rintro e w8 (⟨h1, rfl, h2, h3⟩ | ⟨x6, h1, hx6, hle6, rfl, h2, h3⟩)
                    · have HP := Lib.hid (HX.out w8 (by rw [EQ0.out, wO_e2 HB5.out h1]; rfl) (HM4.out.rd h2 h3).bel)
                      clear h1 h2 h3
                      go_wp2_with fail
                      go_ret2
                      exact HP.out
                    · have HM5 := Lib.hid (HM4.out.rd h2 h3)
                      have HB6 := Lib.hid h1
                      have hcw6 : IntKind.i64.wrap (x6 : Int) = (x6 : Int) := by rw [i64_is]; unfold RowKit.wrap64; omega
                      have hm1' : IntKind.i64.wrap ((63 : Int) - (x5 : Int)) = (63 : Int) - (x5 : Int) := by rw [i64_is]; unfold RowKit.wrap64; omega
                      clear h1 h2 h3 HM4
                      by_cases hfar : 63 < x5 + x6
                      · have hm2' : IntKind.i64.wrap ((63 : Int) - (x5 : Int) - (x6 : Int)) = (63 : Int) - (x5 : Int) - (x6 : Int) := by rw [i64_is]; unfold RowKit.wrap64; omega
                        have hneg : decide ((63 : Int) - (x5 : Int) - (x6 : Int) < 0) = true := decide_eq_true (by omega)
                        have HP := Lib.hid (HX.out w8 (by rw [EQ0.out, wO_far HB5.out HB6.out hfar]; rfl) HM5.out.bel)
                        go_wp2_with fail
                        go_ret2
                        exact HP.out
                      · obtain ⟨R2, hR2⟩ : ∃ R2, 63 - x5 - x6 = R2 := ⟨_, rfl⟩
                        have hm4' : (63 : Int) - (x5 : Int) - (x6 : Int) = (R2 : Int) := by omega
                        have hm2' : IntKind.i64.wrap ((63 : Int) - (x5 : Int) - (x6 : Int)) = (R2 : Int) := by rw [i64_is, hm4']; unfold RowKit.wrap64; omega
                        have hm3' : IntKind.i64.wrap (R2 : Int) = (R2 : Int) := by rw [i64_is]; unfold RowKit.wrap64; omega
                        have hneg : decide ((R2 : Int) < 0) = false := decide_eq_false (by omega)
                        have EQ := Lib.hid (show Gm.nO ⟨T2, V, s2, L, R, BB.drop at2⟩ = Gm.xO ⟨T2, V, s2, L, R, BB.drop at2⟩ (x5, R2, BB.drop (at2 + 1 + 1 + 5 + 6)) from by rw [EQ0.out, wO_ok HB5.out HB6.out hfar, hR2]; rfl)
                        obtain ⟨z2, hz2e⟩ : ∃ z2, 64 - x5 - R2 = z2 := ⟨_, rfl⟩
                        have HZ2 := Lib.hid hz2e
                        have hzl2 : z2 ≤ 64 := by omega
                        have hz1 : IntKind.i64.wrap ((64 : Int) - (x5 : Int)) = (64 : Int) - (x5 : Int) := by rw [i64_is]; unfold RowKit.wrap64; omega
                        have hz3 : (64 : Int) - (x5 : Int) - (R2 : Int) = (z2 : Int) := by omega
                        have hz2 : IntKind.i64.wrap ((64 : Int) - (x5 : Int) - (R2 : Int)) = (z2 : Int) := by rw [i64_is, hz3]; unfold RowKit.wrap64; omega
                        have hz4 : IntKind.i64.wrap (z2 : Int) = (z2 : Int) := by rw [i64_is]; unfold RowKit.wrap64; omega
                        have hR63 : R2 ≤ 63 := by omega
                        clear hR2 hz2e
                        go_wp2_with fail
                        refine (CX.out z2 hzl2 _ _ HM5.out.rf hle6).mono ?_
                        rintro e w8 (⟨h1, rfl, h2, h3⟩ | ⟨X, h1, hX, hle9, rfl, h2, h3⟩)
                        · rw [← HZ2.out] at h1
                          have HP := Lib.hid (HX.out w8 (by rw [EQ.out]; exact xO_e h1) (HM5.out.rd h2 h3).bel)
                          clear h1 h2 h3
                          go_wp2_with fail
                          go_ret2
                          exact HP.out
                        · have HM8 := Lib.hid (HM5.out.rd h2 h3)
                          have h1' := h1
                          rw [← HZ2.out] at h1'
                          have HN8 := Lib.hid (show Gm.dIt m BB = some (l ++ [⟨T2, V ^^^ ((X <<< R2) % 18446744073709551616)⟩], ⟨T2, V ^^^ ((X <<< R2) % 18446744073709551616), s2, x5, R2, BB.drop (at2 + 1 + 1 + 5 + 6 + z2)⟩) from by rw [HNX.out, EQ.out, xO_ok h1', HZ2.out]; rfl)
                          have hsh := shl_word X R2 (by omega)
                          have hxo := u64_xor_nat V ((X <<< R2) % 18446744073709551616) hVl (Nat.mod_lt _ (by decide))
                          have hRw : IntKind.u64.wrap ((R2 : Nat) : Int) = ((R2 : Nat) : Int) := by rw [IntKind.wrap_u64]; omega
                          obtain ⟨Y, hY⟩ : ∃ Y, (X <<< R2) % 18446744073709551616 = Y := ⟨_, rfl⟩
                          rw [hY] at hsh hxo HN8
                          obtain ⟨V2, hV2⟩ : ∃ V2, V ^^^ Y = V2 := ⟨_, rfl⟩
                          rw [hV2] at hxo HN8
                          clear h1 h1' h2 h3 hY hV2 HM5
                          have HSRC := Lib.hid (two_cellsN w8 ⟨T2, V2⟩)
                          have HONE := Lib.hid (show ∀ u ∈ ([.int .i64 T2, .int .u64 ((V2 : Nat) : Int)] : List Value), u.oneCell' = true by simp [Value.oneCell'])
                          have HOW := Lib.hid (own_row HM8.out.own HLN.out)
                          go_wp2_with (at_builtin; refine wpList_append_own_at _ rfl (.tmp 150) (.tmp 154) 22 rfl q 70 i0 (.agg #[.int .i64 0, .int .u64 0]) 2 16 Tryd.underlying22 HI0.out.1 HI0.out.2.1 HI0.out.2.2.1 HI0.out.2.2.2 rfl (by decide) (.slice av m cv) m (smC l) rfl (HOW.out.alloc _) ⟨w8.heap.size, 0, none⟩ 1 1 [.int .i64 T2, .int .u64 ((V2 : Nat) : Int)] rfl rfl HSRC.out HONE.out (by have := HMM.out; unfold maxLen; omega) (by have := HMM.out; omega) (by have := HM8.out.sz; simp; omega) ?_; intro v9 w9 hown9 hgr9 _ _; have HM9 := Lib.hid (HM8.out.add (l' := l ++ [⟨T2, V2⟩]) (by unfold OwnS; rw [smC_snoc, List.length_append, HLN.out]; exact hown9) hgr9); clear hown9 hgr9)
                          obtain ⟨av9, cv9, rfl, _⟩ := HM9.out.own.shape
                          have hl9 : (l ++ [(⟨T2, V2⟩ : Smp)]).length = m + 1 := by rw [List.length_append, HLN.out]; rfl
                          rw [hl9] at HM9 ⊢
                          clear hl9 HSRC HONE HOW
                          go_wp2_with fail
                          go_roundw
                          case rel => exact ⟨m + 1, l ++ [⟨T2, V2⟩], ⟨T2, V2, s2, x5, R2, BB.drop (at2 + 1 + 1 + 5 + 6 + z2)⟩, at2 + 1 + 1 + 5 + 6 + z2, by omega, by omega, rfl, rfl, rfl, rfl, rfl, ⟨_, _, rfl⟩, Lib.hid ⟨by rw [Nat.add_sub_cancel]; exact HN8.out, rfl, hle9, HM9.out⟩⟩
                          case measure => simp [lenV]; omega
        · have hx1 : ((x : Int) != 0) = true := by simp; omega
          have hx2 : ¬ (x : Int) = 0 := by omega
          have HP := Lib.hid (HX.out w4 (by unfold Gm.dNext Gm.tO; rw [if_neg hm3]; rw [show Gm.chO 4 (Dr.S ⟨T, V, st, L, R, BB.drop at_⟩) = none from h1]; rfl) (HM.out.rd h2 h3).bel)
          clear h1 h2 h3
          go_wp2_with fail
          go_ret2
          exact HP.out
    · obtain rfl : m = M := by omega
      have da : decide ((m : Int) < (m : Int)) = false := decide_eq_false (by omega)
      have da2 : decide (m < m) = false := decide_eq_false (by omega)
      have hSm : Sms wr av l := by
        obtain ⟨a5, c5, e5, hS5⟩ := HM.out.own.shape
        injection e5 with e5a _ _
        rw [e5a]
        exact hS5
      have CF := Lib.hid (fits_any av m cv l HLN.out (by omega) wr hSm)
      obtain ⟨fe, hfe⟩ : ∃ fe, fitE l = fe := ⟨_, rfl⟩
      rw [hfe] at CF
      have HFE := Lib.hid hfe
      have HSM := Lib.hid hSm
      have HIT := Lib.hid HI.out.1
      clear hfe hSm HI
      go_wp2_with fail
      refine CF.out.mono ?_
      rintro e w4 ⟨rfl, hb4⟩
      have HB4 := Lib.hid hb4
      have HBN := Lib.hid (HM.out.bel.trans (hb4.mono (by have := HM.out.bel.size; have := HNN.out; omega)))
      -- who is a chunk is this one
      have HNO := Lib.hid (show ∀ g, IsC g f t ((m : Nat) : Int) bs → g = l ∧ Gm.IsChk l ⟨f, t, m, bs⟩ ∧ OneC l from by
        rintro g ⟨G, hn9, C⟩
        have hl9 : m = g.length := by omega
        obtain ⟨d9, h9, _⟩ := (dc_iff f t g.length bs (by omega) (by omega) g).2 ⟨G, C⟩
        rw [HBB.out, ← hl9, HIT.out] at h9
        injection h9 with h9
        injection h9 with h9 _
        subst h9
        exact ⟨rfl, by rw [hl9]; exact C, G⟩)
      by_cases hz : fe = 0
      · subst hz
        rw [show ((0 : Nat) : Int) = 0 from rfl]
        have hOK : ∀ x ∈ l, Gm.OkS x := HIN.out.2
        have hll := HLN.out
        obtain ⟨b5, o5, hav, _, hc5⟩ := HSM.out (by intro e; rw [e] at hll; simp at hll; omega)
        have ho5 : o5 = 0 := by
          rcases HM.out.own.2 with ⟨hv, h0⟩ | ⟨gq, cq, cur, hv, _⟩
          · injection hv with e1 _ _; rw [hav] at e1; cases e1
          · injection hv with e1 _ _; rw [hav] at e1; injection e1 with e1; injection e1 with _ e1 _
        subst ho5
        subst hav
        have hSam : Sam w4 b5 l := fun i hi => ⟨cell_below (by have h := (hc5 i hi).1; rwa [Nat.zero_add] at h) hb4, cell_below (by have h := (hc5 i hi).2; rwa [Nat.zero_add] at h) hb4⟩
        have CC := Lib.hid (rchunk_any b5 m cv l hll (by omega) (by omega) hOK k0 p0 p1 p2 c c0 c1 c2 o9 oa oc od w4 hSam (HTW.out.below (by rw [HNN.out]; exact HBN.out)))
        obtain ⟨F0, hF0⟩ : ∃ F0, (l.getD 0 ⟨0, 0⟩).t = F0 := ⟨_, rfl⟩
        obtain ⟨T0, hT0⟩ : ∃ T0, (l.getD (m - 1) ⟨0, 0⟩).t = T0 := ⟨_, rfl⟩
        rw [hF0, hT0] at CC
        have HFT := Lib.hid (show (Gm.run l).frm = F0 ∧ (Gm.run l).last.t = T0 from ⟨by rw [run_frm1 l (by omega), ← hF0, getD_is l 0 (by omega)], by rw [run_last' l (m - 1) (by omega), ← hT0, getD_is l (m - 1) (by omega)]⟩)
        clear hOK hll hc5 hSam hF0 hT0 hb4 CF
        go_wp2_with fail
        refine CC.out.mono ?_
        rintro e w5 ⟨bs2, k2, a2, cap2, g2, hk2, hP2, rfl, hR2, hg2, hb5⟩
        unfold chV
        have hBy2 := (hR2.bys hP2.1).2
        have A5 := (Below.refl w5.heap.size w5).alloc (Nat.le_refl _) (.cells #[.int .i64 F0, .int .i64 T0, .int .i64 ((m : Nat) : Int), .slice a2 bs2.length cap2] 73)
        have r5 := heap_alloc_new w5 (.cells #[.int .i64 F0, .int .i64 T0, .int .i64 ((m : Nat) : Int), .slice a2 bs2.length cap2] 73)
        have HBW := Lib.hid (show Below n w (w5.alloc (.cells #[.int .i64 F0, .int .i64 T0, .int .i64 ((m : Nat) : Int), .slice a2 bs2.length cap2] 73)) from (HBN.out.trans (hb5.mono (by have := HBN.out.size; have := HNN.out; omega))).trans (A5.mono (by have := HBN.out.size; have := HNN.out; have := hb5.size; omega)))
        have hBX := HBW.out
        have hBysX : Bys (w5.alloc (.cells #[.int .i64 F0, .int .i64 T0, .int .i64 ((m : Nat) : Int), .slice a2 bs2.length cap2] 73)) a bs := HBY.out.below (by rw [HNN.out]; exact hBX)
        have HOUT := Lib.hid (show OwnS (w5.alloc (.cells #[.int .i64 F0, .int .i64 T0, .int .i64 ((m : Nat) : Int), .slice a2 bs2.length cap2] 73)) w.heap.size (.slice (some ⟨b5, 0, none⟩) m cv) l from by
          have h1 := ((HM.out.own.below HB4.out).below hb5).below A5
          refine ⟨h1.1, ?_⟩
          rcases h1.2 with h | ⟨gq, cq, cur, h2, h3, h4⟩
          · exact .inl h
          · exact .inr ⟨gq, cq, cur, h2, by have := HM.out.ne; have := HNN.out; omega, h4⟩)
        have HEQ := Lib.hid (show IsC l f t ((m : Nat) : Int) bs ↔ (F0 = f ∧ T0 = t ∧ bs2 = bs) from by
          constructor
          · intro h
            obtain ⟨_, ⟨c1', c2', c3', kk, hkk, hPP⟩, _⟩ := HNO.out l h
            simp only at c1' c2' hPP
            exact ⟨by rw [c1', HFT.out.1], by rw [c2', HFT.out.2], B2.Bt.packs_unique hP2 hPP hk2 hkk⟩
          · rintro ⟨rfl, rfl, rfl⟩
            obtain ⟨G, C⟩ := (dc_iff F0 T0 m bs2 HMM.out.1 HMM.out.2 l).1 ⟨_, by rw [HBB.out]; exact HIT.out, HFE.out, HFT.out.1, HFT.out.2, k2, hk2, hP2⟩
            have hll := HLN.out
            exact ⟨G, by rw [hll], by rw [hll]; exact C⟩)
        have cv1 := fun nn => conv_bys ((w5.alloc (.cells #[.int .i64 F0, .int .i64 T0, .int .i64 ((m : Nat) : Int), .slice a2 bs2.length cap2] 73)).drewN nn) a2 bs2 bs2.length cap2 rfl ((hBy2.below A5).below (drewn_below _ nn))
        have cv2 := fun nn => conv_bys ((w5.alloc (.cells #[.int .i64 F0, .int .i64 T0, .int .i64 ((m : Nat) : Int), .slice a2 bs2.length cap2] 73)).drewN nn) a bs bs.length cap rfl (hBysX.below (drewn_below _ nn))
        have he : ((strB bs2).toList == (strB bs).toList) = decide (bs2 = bs) := by
          rw [toList_eqb]
          exact decide_eq_decide.2 ⟨fun h => strB_inj bs2 bs hP2.1 HBY.out.2.1 h, fun h => by rw [h]⟩
        have HNOT := Lib.hid (show ∀ W, Below (w5.alloc (.cells #[.int .i64 F0, .int .i64 T0, .int .i64 ((m : Nat) : Int), .slice a2 bs2.length cap2] 73)).heap.size (w5.alloc (.cells #[.int .i64 F0, .int .i64 T0, .int .i64 ((m : Nat) : Int), .slice a2 bs2.length cap2] 73)) W → ¬ (F0 = f ∧ T0 = t ∧ bs2 = bs) → AlPost w f t ((m : Nat) : Int) bs (.returned (.tuple #[.slice (some ⟨b5, 0, none⟩) m cv, .bool false])) W from fun W hb hn9 => ⟨by rw [HNN.out]; exact HBW.out.trans (hb.mono (by have := HBW.out.size; have := HNN.out; omega)), .inr ⟨_, _, _, rfl, fun ⟨g, hg⟩ => hn9 (HEQ.out.1 (by have h := (HNO.out g hg).1; rw [h] at hg; exact hg))⟩⟩)
        have HYES := Lib.hid (show ∀ W, Below (w5.alloc (.cells #[.int .i64 F0, .int .i64 T0, .int .i64 ((m : Nat) : Int), .slice a2 bs2.length cap2] 73)).heap.size (w5.alloc (.cells #[.int .i64 F0, .int .i64 T0, .int .i64 ((m : Nat) : Int), .slice a2 bs2.length cap2] 73)) W → (F0 = f ∧ T0 = t ∧ bs2 = bs) → AlPost w f t ((m : Nat) : Int) bs (.returned (.tuple #[.slice (some ⟨b5, 0, none⟩) m cv, .bool true])) W from fun W hb h9 => ⟨by rw [HNN.out]; exact HBW.out.trans (hb.mono (by have := HBW.out.size; have := HNN.out; omega)), .inl ⟨l, _, rfl, HOUT.out.below hb, HEQ.out.2 h9⟩⟩)
        have hbox := (A5.block n (by have := HM.out.sz; have := HM.out.ne; have := HB4.out.size; have := hb5.size; omega)).trans ((hb5.block n (by have := HM.out.sz; have := HM.out.ne; have := HB4.out.size; omega)).trans ((HB4.out.block n (by have := HM.out.sz; have := HM.out.ne; omega)).trans HM.out.box))
        have hbox5 := ((hb5.block n (by have := HM.out.sz; have := HM.out.ne; have := HB4.out.size; omega)).trans ((HB4.out.block n (by have := HM.out.sz; have := HM.out.ne; omega)).trans HM.out.box))
        obtain ⟨y0, y1, y2, y3⟩ := four73 hbox
        obtain ⟨v0', v1', v2', v3'⟩ := four73 hbox5
        have hnl : n < w5.heap.size := (Array.getElem?_eq_some_iff.1 hbox5).1
        have hnn : n ≠ w5.heap.size := by omega
        have hnn2 : w5.heap.size ≠ n := by omega
        obtain ⟨x0, x1, x2, x3⟩ := four73 r5
        clear A5 r5 hBX hBysX hBy2 hbox hbox5 hP2 hk2 hR2 hg2 hb5 da da2 CC
        by_cases hf : F0 = f
        · have q1 : (F0 == f) = true := by simp [hf]
          by_cases ht : T0 = t
          · have q2 : (T0 == t) = true := by simp [ht]
            by_cases hb : bs2 = bs
            · have q3 : ((strB bs2).toList == (strB bs).toList) = true := by rw [he]; exact decide_eq_true hb
              have HP := Lib.hid (fun W h => HYES.out W h ⟨hf, ht, hb⟩)
              clear HYES HNOT he
              obtain ⟨s1, hs1⟩ : ∃ s1, strB bs2 = s1 := ⟨_, rfl⟩
              obtain ⟨s2, hs2⟩ : ∃ s2, strB bs = s2 := ⟨_, rfl⟩
              rw [hs1] at cv1 q3
              rw [hs2] at cv2 q3
              clear hs1 hs2 hf ht hb
              go_wp2_with fail
              go_quiet (fail)
              go_wp2_with fail
              go_ret2
              first | exact HP.out _ (Below.refl _ _) | exact HP.out _ (drewn_below _ _)
            · have q3 : ((strB bs2).toList == (strB bs).toList) = false := by rw [he]; exact decide_eq_false hb
              have HP := Lib.hid (fun W h => HNOT.out W h (fun h9 => hb h9.2.2))
              clear HYES HNOT he
              obtain ⟨s1, hs1⟩ : ∃ s1, strB bs2 = s1 := ⟨_, rfl⟩
              obtain ⟨s2, hs2⟩ : ∃ s2, strB bs = s2 := ⟨_, rfl⟩
              rw [hs1] at cv1 q3
              rw [hs2] at cv2 q3
              clear hs1 hs2 hf ht hb
              go_wp2_with fail
              go_quiet (fail)
              go_wp2_with fail
              go_ret2
              first | exact HP.out _ (Below.refl _ _) | exact HP.out _ (drewn_below _ _)
          · have q2 : (T0 == t) = false := by simp [ht]
            have HP := Lib.hid (fun W h => HNOT.out W h (fun h9 => ht h9.2.1))
            clear HYES HNOT he hf ht
            go_wp2_with fail
            go_quiet (fail)
            go_wp2_with fail
            go_ret2
            first | exact HP.out _ (Below.refl _ _) | exact HP.out _ (drewn_below _ _)
        · have q1 : (F0 == f) = false := by simp [hf]
          have HP := Lib.hid (fun W h => HNOT.out W h (fun h9 => hf h9.1))
          clear HYES HNOT he hf
          go_wp2_with fail
          go_quiet (fail)
          go_wp2_with fail
          go_ret2
          first | exact HP.out _ (Below.refl _ _) | exact HP.out _ (drewn_below _ _)
      · have hx1 : ((fe : Int) != 0) = true := by simp; omega
        have hx2 : ¬ (fe : Int) = 0 := by omega
        have HP := Lib.hid (show AlPost w f t ((m : Nat) : Int) bs (.returned (.tuple #[.slice none 0 0, .bool false])) w4 from ⟨by rw [HNN.out]; exact HBN.out, .inr ⟨_, _, _, rfl, fun ⟨g, hg⟩ => by
          obtain ⟨_, C, G⟩ := HNO.out g hg
          obtain ⟨d9, _, h2, _⟩ := (dc_iff f t m bs HMM.out.1 HMM.out.2 l).2 ⟨G, C⟩
          rw [HFE.out] at h2
          exact hz h2⟩⟩)
        clear hb4 CF
        go_wp2_with fail
        go_ret2
        exact HP.out
end Go.Proofs.YtdlifcpdlbmijaaDoor
namespace Go.Proofs.YtdlifcpdlbmijaaDoor
set_option linter.unusedVariables false
set_option linter.unusedSimpArgs false
open Go.RowKit Go.PlainAid Go.Shelf
open B2 (Only Bys Row cellsOf)
open Gm (St Smp Chk)
set_option maxHeartbeats 8000000 in
set_option maxRecDepth 100000 in
theorem check_few (f t N : Int) (hN : N < 1) (d : Value) (w : World) :
    Calls Tryd.prog 17 #[.agg (chR f t N d)] w fun e w' => e = .returned (.int .u16 101) ∧ Below w.heap.size w w' := by
  have d1 : decide (N < 1) = true := decide_eq_true hN
  obtain ⟨n, hn⟩ : ∃ n, w.heap.size = n := ⟨_, rfl⟩
  have A1 := (Below.refl w.heap.size w).alloc (Nat.le_refl _) (.cells (chR f t N d) 73)
  have r1 := heap_alloc_new w (.cells (chR f t N d) 73)
  have A2 := A1.alloc (by simp) (.cells #[.int .u16 0] 65)
  have r2 := heap_alloc_new (w.alloc (.cells (chR f t N d) 73)) (.cells #[.int .u16 0] 65)
  have s1 : (w.alloc (.cells (chR f t N d) 73)).heap.size = n + 1 := by simp [hn]
  rw [hn] at r1 A2
  rw [s1] at r2
  have r1 := (Below.heap_alloc (w.alloc (.cells (chR f t N d) 73)) (.cells #[.int .u16 0] 65) n (by rw [s1]; omega)).trans r1
  have x2 : ((w.alloc (.cells (chR f t N d) 73)).alloc (.cells #[.int .u16 0] 65)).cell? ⟨n, 2, none⟩ = some (.int .i64 N) := (cell_of_row _ _ 2 _ _ _ r1).trans rfl
  have y2 : ((w.alloc (.cells (chR f t N d) 73)).alloc (.cells #[.int .u16 0] 65)).cell? ⟨n + 1, 0, none⟩ = some (.int .u16 0) := (cell_of_row _ _ 0 _ _ _ r2).trans rfl
  have f2 := frozen_of_row _ (n + 1) 0 _ _ r2
  have HB := Lib.hid A2
  have HN := Lib.hid hn
  clear A1 A2
  unfold chR at *
  refine (callsIn_wide (n := 8)).1 ?_
  refine callsIn_of_wp_marks Tryd.func17 rfl trivial ?_ rfl
  simp only [Tryd.ntmps17, List.size_toArray, List.length_cons, List.length_nil, Nat.reduceAdd, Nat.reduceSub, Array.replicate_succ, Array.replicate_zero, List.push_toArray, List.append_toArray, List.nil_append, List.cons_append]
  gi_wp2
  have r3 := heap_alloc_new (w.alloc (.cells #[.int .i64 f, .int .i64 t, .int .i64 N, d] 73)) (.cells #[.int .u16 101] 65)
  rw [s1] at r3
  refine ⟨_, res17 rfl (u16_cell r3), rfl, ?_⟩
  rw [HN.out]
  exact (((Below.refl n w).alloc (by omega) _).alloc (by rw [s1]; omega) _)
theorem isC_iff (f t : Int) (N : Nat) (bs : List Nat) : (∃ g, OneC g ∧ Gm.IsChk g ⟨f, t, N, bs⟩) ↔ ∃ g, IsC g f t ((N : Nat) : Int) bs := by
  constructor
  · rintro ⟨g, G, C⟩
    have hn : N = g.length := by rw [← Gm.run_n]; exact C.2.2.1
    exact ⟨g, G, by rw [hn], by rw [← hn]; exact C⟩
  · rintro ⟨g, G, hn, C⟩
    have hn : N = g.length := by omega
    exact ⟨g, G, by rw [hn]; exact C⟩
/-- CHECK of whatever chunk: OK just of the chunks -/
theorem check_all (f t N : Int) (hN : N ≤ 9223372036854775807) (a : Option Addr) (bs : List Nat) (cap : Nat) (hc0 : a = none → cap = 0) (hbd : bs.length ≤ 1000000) (w : World) (H : Bys w a bs) (hT : TabAt w) :
    Calls Tryd.prog 17 #[.agg (chR f t N (.slice a bs.length cap))] w fun e w' => ((e = .returned (.int .u16 0) ∧ ∃ g, IsC g f t N bs) ∨ (e = .returned (.int .u16 101) ∧ ¬ ∃ g, IsC g f t N bs)) ∧ Below w.heap.size w w' := by
  by_cases h1 : N < 1
  · refine (check_few f t N h1 _ w).mono ?_
    rintro e w' ⟨rfl, hb⟩
    exact ⟨.inr ⟨rfl, fun ⟨g, G, hn, _⟩ => by have := G.some; omega⟩, hb⟩
  · obtain ⟨M, rfl⟩ := Int.eq_ofNat_of_zero_le (show 0 ≤ N by omega)
    refine (check_any f t M a bs cap hc0 hbd ⟨by omega, by omega⟩ w H hT _ rfl).mono ?_
    rintro e w' ⟨h, hb⟩
    refine ⟨?_, hb⟩
    rcases h with ⟨rfl, h⟩ | ⟨rfl, h⟩
    · exact .inl ⟨rfl, (isC_iff f t M bs).1 ((ck_iff f t M bs (by omega)).1 h)⟩
    · exact .inr ⟨rfl, fun h2 => h ((ck_iff f t M bs (by omega)).2 ((isC_iff f t M bs).2 h2))⟩
set_option maxRecDepth 100000 in
set_option maxHeartbeats 8000000 in
/-- All of what is no chunk: its iterator has nothing -/
theorem allof_none (f t N : Int) (hN : N ≤ 9223372036854775807) (a : Option Addr) (bs : List Nat) (cap : Nat) (hc0 : a = none → cap = 0) (hbd : bs.length ≤ 1000000) (hno : ¬ ∃ g, IsC g f t N bs) (w : World) (H : Bys w a bs) (hT : TabAt w) :
    Calls Tryd.prog 66 #[.agg (chR f t N (.slice a bs.length cap))] w fun e w' => ∃ b, e = .returned (.func (.func 93) #[] #[pt b]) ∧ w'.heap[b]? = some (.cells (chR 0 0 ((0 : Nat) : Int) (.slice none 0 0)) 73 (0, 0)) ∧ Below w.heap.size w w' := by
  have A1 := (Below.refl w.heap.size w).alloc (Nat.le_refl _) (.cells (chR f t N (.slice a bs.length cap)) 73)
  have CC := Lib.hid (check_all f t N hN a bs cap hc0 hbd _ (H.below A1) (hT.below A1 hT.lt))
  obtain ⟨y0, y1, y2, y3⟩ := four73 (heap_alloc_new w (.cells (chR f t N (.slice a bs.length cap)) 73))
  have HA := Lib.hid (And.intro A1 hno)
  clear A1 H hT hno
  have C6 := Lib.hid (fun W => (callsIn_wide (n := 8)).1 (readseq_in Fence.wide 8 trivial rfl 0 0 0 (.slice none 0 0) W))
  unfold chR pt at *
  go_enter Tryd.func66, Tryd.ntmps66
  go_wp2_with fail
  refine CC.out.mono ?_
  rintro e w1 ⟨h, hb1⟩
  rcases h with ⟨rfl, h⟩ | ⟨rfl, _⟩
  · exact absurd h HA.out.2
  have HB := Lib.hid hb1
  clear hb1
  go_wp2_with fail
  refine (C6.out w1).mono ?_
  rintro e w2 ⟨rfl, rfl⟩
  have hA5 := (Below.refl w1.heap.size w1).alloc (Nat.le_refl _) (.cells #[.int .i64 0, .int .i64 0, .int .i64 0, .slice none 0 0] 73)
  have hr5 := heap_alloc_new w1 (.cells #[.int .i64 0, .int .i64 0, .int .i64 0, .slice none 0 0] 73)
  have HP := Lib.hid (And.intro hr5 ((HA.out.1.trans (HB.out.mono HA.out.1.size)).trans (hA5.mono (Nat.le_trans HA.out.1.size HB.out.size))))
  clear hA5 hr5
  go_wp2_with fail
  go_ret
  exact ⟨_, rfl, HP.out.1, HP.out.2⟩
end Go.Proofs.YtdlifcpdlbmijaaDoor
namespace Go.Proofs.YtdlifcpdlbmijaaDoor
set_option linter.unusedVariables false
set_option linter.unusedSimpArgs false
open Go.RowKit Go.PlainAid Go.Shelf
open B2 (Only Bys Row cellsOf owns_only)
open Gm (St Smp Chk)
attribute [local go_sem] Oper.semAt_some
set_option maxRecDepth 100000 in
set_option maxHeartbeats 8000000 in
theorem all_upto (nn : Nat) (gg : List Smp) (c : Chk) (G : OneC gg) (C : Gm.IsChk gg c) (a : Option Addr) (cap : Nat) (w : World) (H : Bys w a c.bs) (hT : TabAt w) :
    Calls Tryd.prog 18 #[.agg (chR c.frm c.to c.n (.slice a c.bs.length cap)), .int .i64 ((nn : Nat) : Int)] w fun e w' => ∃ v', e = .returned v' ∧ OwnS w' w.heap.size v' (gg.take nn) ∧ Below w.heap.size w w' := by
  obtain ⟨m, hm⟩ : ∃ m, w.heap.size = m := ⟨_, rfl⟩
  obtain ⟨hs1, hs2, hs3⟩ := one_says G C
  have A1 := (Below.refl w.heap.size w).alloc (Nat.le_refl _) (.cells (chR c.frm c.to c.n (.slice a c.bs.length cap)) 73)
  have r1 := heap_alloc_new w (.cells (chR c.frm c.to c.n (.slice a c.bs.length cap)) 73)
  have z1 : (w.alloc (.cells (chR c.frm c.to c.n (.slice a c.bs.length cap)) 73)).heap.size = m + 1 := by simp [hm]
  have A2 := A1.alloc (by rw [z1, hm]; omega) (.cells #[.int .i64 ((nn : Nat) : Int)] 3)
  have r2 := heap_alloc_new (w.alloc (.cells (chR c.frm c.to c.n (.slice a c.bs.length cap)) 73)) (.cells #[.int .i64 ((nn : Nat) : Int)] 3)
  have z2 : ((w.alloc (.cells (chR c.frm c.to c.n (.slice a c.bs.length cap)) 73)).alloc (.cells #[.int .i64 ((nn : Nat) : Int)] 3)).heap.size = m + 2 := by simp [hm]
  have A3 := A2.alloc (by rw [z2, hm]; omega) (.cells #[.slice none 0 0] 22)
  have r3 := heap_alloc_new ((w.alloc (.cells (chR c.frm c.to c.n (.slice a c.bs.length cap)) 73)).alloc (.cells #[.int .i64 ((nn : Nat) : Int)] 3)) (.cells #[.slice none 0 0] 22)
  have z3 : (((w.alloc (.cells (chR c.frm c.to c.n (.slice a c.bs.length cap)) 73)).alloc (.cells #[.int .i64 ((nn : Nat) : Int)] 3)).alloc (.cells #[.slice none 0 0] 22)).heap.size = m + 3 := by simp [hm]
  rw [hm] at r1
  rw [z1] at r2
  rw [z2] at r3
  have r1 := (Below.heap_alloc _ (.cells #[.slice none 0 0] 22) m (by rw [z2]; omega)).trans ((Below.heap_alloc _ (.cells #[.int .i64 ((nn : Nat) : Int)] 3) m (by rw [z1]; omega)).trans r1)
  have r2 := (Below.heap_alloc _ (.cells #[.slice none 0 0] 22) (m + 1) (by rw [z2]; omega)).trans r2
  obtain ⟨y0, y1, y2, y3⟩ := four73 r1
  have CA := Lib.hid (allof_any gg c G C a cap _ (H.below A3) (hT.below A3 hT.lt))
  have HA := Lib.hid (And.intro A3 (And.intro r2 (And.intro r3 z3)))
  have HS := Lib.hid (And.intro hs1 (And.intro hs2 (And.intro G C)))
  clear A1 A2 A3 r1 r2 r3 z1 z2 z3 H hT hs1 hs2 hs3 G C
  unfold chR at *
  refine (callsIn_wide (n := 8)).1 ?_
  refine callsIn_of_wp_marks Tryd.func18 rfl trivial ?_ rfl
  simp only [Tryd.ntmps18, List.size_toArray, List.length_cons, List.length_nil, Nat.reduceAdd, Nat.reduceSub, Array.replicate_succ, Array.replicate_zero, List.push_toArray, List.append_toArray, List.nil_append, List.cons_append]
  gi_wp2_with (refine ⟨trivial, ?_⟩; gi_at_call 66; refine (callsIn_wide.2 CA.out).mono ?_; rintro e W2 ⟨b, a2, cap2, rfl, hb, hB, hbl⟩)
  have hbl' := hbl
  rw [HA.out.2.2.2] at hbl
  have hq := hbl.size
  have hr1 := (hbl.block (m + 1) (by omega)).trans HA.out.2.1
  have hr2 := (hbl.block (m + 2) (by omega)).trans HA.out.2.2.1
  have hw2 : Below m w W2 := (hm ▸ HA.out.1).trans (hbl.mono (by omega))
  have hne := one_ne HS.out.2.2.1 HS.out.2.2.2
  have ha2 : a2 ≠ none := by
    obtain ⟨b4, off, e, _⟩ := hB.2.2 hne
    rw [e]
    simp
  have hlen := HS.out.2.2.1.len
  have HSQ := Lib.hid (read_stops 7 (by omega) b cap2 c.n a2 c.frm c.to c.bs (fun h => absurd h ha2) (by have := one_bs HS.out.2.2.1 HS.out.2.2.2; omega) (by rw [HS.out.1]; omega) W2 hb hB)
  rw [HS.out.2.1] at HSQ
  obtain ⟨B, hBB⟩ : ∃ B, W2.heap.size = B := ⟨_, rfl⟩
  have hz2 : W2.heap.size = m + 3 → False ∨ True := fun _ => .inr trivial
  have HQ := Lib.hid (And.intro hr1 (And.intro hr2 (And.intro hw2 (And.intro hBB (show m + 3 ≤ B by rw [← hBB, ← HA.out.2.2.2]; have := hbl'.size; exact this)))))
  clear hbl hbl' hq hr1 hr2 hw2 hne ha2 hlen hb hB hBB hz2 CA y0 y1 y2 y3
  unfold pt at *
  refine wpIn_rangeFunc_ownT rfl (by omega) (gf := 93) (lb := #[.pointer (some ⟨b, 0, none⟩)]) rfl trivial (enters_of Tryd.func93 (by kernel_rfl) rfl) HSQ.out (Below.refl _ _) (fun _ => rfl)
    (fun T pre W => (ApI w m (m + 2) B [] T pre W ∧ W.heap[m + 1]? = some (.cells #[.int .i64 ((nn : Nat) : Int)] 3 (0, 0))) ∧ pre.length ≤ nn) (fun c T pre W => c = .exit 0 ∧ ∃ pre0 x, pre = pre0 ++ [x] ∧ pre0.length = nn ∧ ApI w m (m + 2) B [] T pre0 W)
    (fun T pre A B' h ho => ⟨⟨h.1.1.only ho, (ho.block (m + 1) (Array.getElem?_eq_some_iff.1 h.1.2).1 (fun hk => by have := h.1.1.t _ hk; have := h.1.1.lt; omega)).trans h.1.2⟩, h.2⟩) (fun c T pre A B h ho => by obtain ⟨h1, pre0, x, h2, h3, h4⟩ := h; exact ⟨h1, pre0, x, h2, h3, h4.only ho⟩) ?start ?round ?done ?stop
  case start =>
    intro T W hb hT
    have hb' := hb
    rw [HQ.out.2.2.2.1] at hT hb
    have hs2 := hb.size
    have hs3 := HQ.out.2.2.2.1
    have hs4 := HQ.out.2.2.2.2
    exact ⟨⟨⟨fun k hk => hT k hk, ⟨.slice none 0 0, (hb.block (m + 2) (by omega)).trans HQ.out.2.1, by simpa [OwnS, smC] using World.ownsRow_nil W m 70 2, fun g hg => by cases hg⟩, ⟨by omega, by omega, by have := hb'.size; omega, by omega⟩, HQ.out.2.2.1.trans (hb'.mono (by omega))⟩, (hb.block (m + 1) (by omega)).trans HQ.out.1⟩, by simp⟩
  case round =>
    intro l T pre x W hI hSp
    have hs0 : 1 ≤ 8 - 1 - 1 := by decide
    have hpl : pre.length ≤ 100000 := by have := hSp.length_le; simp at this; have := HS.out.2.2.1.len; omega
    have HPN := Lib.hid hI.2
    have hI := hI.1
    have HX := Lib.hid (And.intro hI hpl)
    clear hI hpl hSp
    unfold smV
    gi_wp2
    refine ⟨kept_below (fun k hk => (HX.out.1.1.t k hk).2) ((Below.refl W.heap.size W).alloc (Nat.le_refl _) _), fun W6 ho => ?_⟩
    have hAl := (Below.refl W.heap.size W).alloc (Nat.le_refl _) (.cells #[.int .i64 x.t, .int .u64 ((x.v : Nat) : Int)] 70)
    have hbx := heap_alloc_new W (.cells #[.int .i64 x.t, .int .u64 ((x.v : Nat) : Int)] 70)
    have hI6 := (HX.out.1.1.below hAl).only ho
    have hm6 : W6.heap[m + 1]? = some (.cells #[.int .i64 ((nn : Nat) : Int)] 3 (0, 0)) := (ho.block (m + 1) (by have h := (Array.getElem?_eq_some_iff.1 HX.out.1.2).1; simp; omega) (fun hk => by have := HX.out.1.1.t _ hk; have := HX.out.1.1.lt; omega)).trans ((hAl.block _ (Array.getElem?_eq_some_iff.1 HX.out.1.2).1).trans HX.out.1.2)
    have km : W6.cell? ⟨m + 1, 0, none⟩ = some (.int .i64 ((nn : Nat) : Int)) := (cell_of_row _ _ 0 _ _ _ hm6).trans rfl
    have HM6 := Lib.hid hm6
    have hbx6 := (ho.block W.heap.size (by simp) (fun hm => by have := (HX.out.1.1.t _ hm).2; omega)).trans hbx
    have k0 : W6.cell? ⟨W.heap.size, 0, none⟩ = some (.int .i64 x.t) := (cell_of_row _ _ 0 _ _ _ hbx6).trans rfl
    have k1 : W6.cell? ⟨W.heap.size, 1, none⟩ = some (.int .u64 ((x.v : Nat) : Int)) := (cell_of_row _ _ 1 _ _ _ hbx6).trans rfl
    have HI6 := Lib.hid hI6
    obtain ⟨v6, hv6, ho6, hT6⟩ := hI6.v
    obtain ⟨a6, c6, rfl, _⟩ := ho6.shape
    obtain ⟨m6, hm6'⟩ : ∃ m6, ([] ++ pre : List Smp).length = m6 := ⟨_, rfl⟩
    have hm6l : m6 ≤ 1100000 := by rw [← hm6']; have := HX.out.2; simp; omega
    have kb : W6.cell? ⟨m + 2, 0, none⟩ = some (.slice a6 m6 c6) := by rw [← hm6']; exact hv6.cell
    have HV6 := Lib.hid (And.intro hv6 (And.intro ho6 (And.intro hT6 hm6')))
    clear hAl hbx hI6 hbx6 ho hv6 ho6 hT6 hm6 hm6'
    obtain ⟨i0, hi0, hi1, hi2, hi3⟩ := info_parts info70'
    have HII := Lib.hid (And.intro hi0 (And.intro hi1 (And.intro hi2 hi3)))
    have HOW := Lib.hid (show W6.ownsRow m 70 2 (.slice a6 m6 c6) m6 (smC ([] ++ pre)) from by
      have h := HV6.out.2.1
      unfold OwnS at h
      rw [HV6.out.2.2.2] at h
      exact h)
    clear hi0 hi1 hi2 hi3
    have hn0 : decide (((nn : Nat) : Int) ≥ 0) = true := decide_eq_true (by omega)
    have hn0' : (0 : Int) ≤ ((nn : Nat) : Int) := by omega
    have hml : m6 ≤ nn := by rw [← HV6.out.2.2.2]; simpa using HPN.out
    have HLN := Lib.hid (show m6 = pre.length from by rw [← HV6.out.2.2.2]; simp)
    by_cases hge : nn ≤ m6
    · have hd : decide (((m6 : Nat) : Int) ≥ ((nn : Nat) : Int)) = true := decide_eq_true (by omega)
      have hd' : ((nn : Nat) : Int) ≤ ((m6 : Nat) : Int) := by omega
      gi_wp2
      exact ⟨fun k hk => rfl, rfl, pre, x, rfl, by have := HLN.out; omega, HI6.out⟩
    · have hd : decide (((m6 : Nat) : Int) ≥ ((nn : Nat) : Int)) = false := decide_eq_false (by omega)
      have hd' : ¬ ((nn : Nat) : Int) ≤ ((m6 : Nat) : Int) := by omega
      gi_wp2_with (refine wpListIn_append_at _ rfl (.tmp 18) (.tmp 20) 22 rfl m 70 i0 (.agg #[.int .i64 0, .int .u64 0]) 2 16 Tryd.underlying22 HII.out.1 HII.out.2.1 HII.out.2.2.1 HII.out.2.2.2 rfl (by decide) (.slice a6 m6 c6) m6 (smC ([] ++ pre)) rfl (HOW.out.alloc _) ⟨W6.heap.size, 0, none⟩ 1 1 [.int .i64 x.t, .int .u64 ((x.v : Nat) : Int)] rfl rfl (two_cellsN W6 x) (by intro u hu; simp at hu; rcases hu with rfl | rfl <;> rfl) (by unfold maxLen; omega) (by omega) (by have := HI6.out.lt; simp; omega) ?_; intro v7 w7 hown7 hgr7 hpl7; obtain ⟨g7, c7, rfl⟩ := ownsRow_succ hown7; have hS7 := HI6.out.step (tmp := .cells #[.int .i64 x.t, .int .u64 ((x.v : Nat) : Int)] 70) HV6.out.1 HV6.out.2.1 HV6.out.2.2.1 (by rw [HV6.out.2.2.2]; exact hown7) (by rw [HV6.out.2.2.2]; exact hgr7) (by rw [HV6.out.2.2.2]; exact hpl7); have hbx7 := (Boxed.appended (tmp := .cells #[.int .i64 x.t, .int .u64 ((x.v : Nat) : Int)] 70) HV6.out.1 (by decide : (22 : TypeId) ≠ 70) HV6.out.2.1 (by have := HI6.out.lt; omega) (by have := HI6.out.lt; omega) hown7 (by rw [HV6.out.2.2.2]; exact hgr7)).1; have hm7 := (Boxed.alloc (show Boxed W6 (m + 1) 3 (.int .i64 ((nn : Nat) : Int)) from HM6.out) (.cells #[.int .i64 x.t, .int .u64 ((x.v : Nat) : Int)] 70)).kept hgr7 (Boxed.not_row (Boxed.alloc (show Boxed W6 (m + 1) 3 (.int .i64 ((nn : Nat) : Int)) from HM6.out) (.cells #[.int .i64 x.t, .int .u64 ((x.v : Nat) : Int)] 70)) (by decide) (HOW.out.alloc _)); have HM7 := Lib.hid hm7; clear hm7; have cc7 := hbx7.cell; have ff7 := hbx7.frozen; have HS7 := Lib.hid hS7; clear hown7 hgr7 hpl7 hS7 hbx7)
      exact ⟨HS7.out.2, ⟨HS7.out.1, (Below.heap_setCell _ _ _ (m + 1) (by show m + 1 ≠ m + 1 + 1; omega)).trans HM7.out⟩, by rw [List.length_append, ← HLN.out]; show m6 + 1 ≤ nn; omega⟩
  case done =>
    rintro D T xs W hD hDT rfl ⟨⟨hI, _⟩, hln⟩ hK
    have htk := List.take_of_length_le hln
    obtain ⟨v6, hv6, ho6, hT6⟩ := hI.v
    obtain ⟨a6, c6, rfl, _⟩ := ho6.shape
    have hc6 := hv6.cell
    gi_wp2
    refine ⟨by simp, .inl ⟨_, _, rfl, run_takeDeferred hK, ?_⟩⟩
    have hDb : Only [D] W (W.putObj D (.deferred none)) := Only.put W D _
    have hl := hI.lt
    have ho7 : OwnS W m (.slice a6 xs.length c6) xs := ho6
    have hT7 : ∀ g, (Value.slice a6 xs.length c6).ownBlock = some g → g ∉ T := hT6
    rw [hm]
    refine ⟨_, results_tmp rfl _ _ _, .slice a6 xs.length c6, rfl, (by rw [htk]; exact owns_only ho7 hDb (fun g hg hmm => by simp only [List.mem_cons, List.not_mem_nil, or_false] at hmm; exact hT7 g hg (hmm ▸ hDT))), hI.b.trans (hDb.below (by omega) (fun x hx => by have := HQ.out.2.2.2; simp at hx; omega))⟩
  case stop =>
    rintro D c T pre W hD hDT hSp ⟨rfl, pre0, x, rfl, hl0, hI⟩ hK
    obtain ⟨v6, hv6, ho6, hT6⟩ := hI.v
    obtain ⟨a6, c6, rfl, _⟩ := ho6.shape
    have hc6 := hv6.cell
    have htk : gg.take nn = pre0 := by
      have h1 : pre0 <+: gg := (List.prefix_append pre0 [x]).trans hSp
      rw [← hl0, ← List.prefix_iff_eq_take.1 h1]
    gi_wp2
    refine ⟨by simp, .inl ⟨_, _, rfl, run_takeDeferred hK, ?_⟩⟩
    have hDb : Only [D] W (W.putObj D (.deferred none)) := Only.put W D _
    have hl := hI.lt
    have ho7 : OwnS W m (.slice a6 nn c6) pre0 := by rw [← hl0]; exact ho6
    have hT7 : ∀ g, (Value.slice a6 nn c6).ownBlock = some g → g ∉ T := by rw [← hl0]; exact hT6
    rw [hm]
    refine ⟨_, results_tmp rfl _ _ _, .slice a6 nn c6, rfl, (by rw [htk]; exact owns_only ho7 hDb (fun g hg hmm => by simp only [List.mem_cons, List.not_mem_nil, or_false] at hmm; exact hT7 g hg (hmm ▸ hDT))), hI.b.trans (hDb.below (by omega) (fun x hx => by have := HQ.out.2.2.2; simp at hx; omega))⟩
end Go.Proofs.YtdlifcpdlbmijaaDoor
namespace Go.Proofs.YtdlifcpdlbmijaaDoor
set_option linter.unusedVariables false
set_option linter.unusedSimpArgs false
open Go.RowKit Go.PlainAid Go.Shelf
open B2 (Only Bys Row cellsOf owns_only)
open Gm (St Smp Chk)
attribute [local go_sem] Oper.semAt_some
set_option maxRecDepth 100000 in
set_option maxHeartbeats 8000000 in
theorem all_none (f t N nn : Int) (hN : N ≤ 9223372036854775807) (a : Option Addr) (bs : List Nat) (cap : Nat) (hc0 : a = none → cap = 0) (hbd : bs.length ≤ 1000000) (hno : ¬ ∃ g, IsC g f t N bs) (w : World) (H : Bys w a bs) (hT : TabAt w) :
    Calls Tryd.prog 18 #[.agg (chR f t N (.slice a bs.length cap)), .int .i64 nn] w fun e w' => ∃ v', e = .returned v' ∧ OwnS w' w.heap.size v' [] ∧ Below w.heap.size w w' := by
  obtain ⟨m, hm⟩ : ∃ m, w.heap.size = m := ⟨_, rfl⟩
  have A1 := (Below.refl w.heap.size w).alloc (Nat.le_refl _) (.cells (chR f t N (.slice a bs.length cap)) 73)
  have r1 := heap_alloc_new w (.cells (chR f t N (.slice a bs.length cap)) 73)
  have z1 : (w.alloc (.cells (chR f t N (.slice a bs.length cap)) 73)).heap.size = m + 1 := by simp [hm]
  have A2 := A1.alloc (by rw [z1, hm]; omega) (.cells #[.int .i64 nn] 3)
  have r2 := heap_alloc_new (w.alloc (.cells (chR f t N (.slice a bs.length cap)) 73)) (.cells #[.int .i64 nn] 3)
  have z2 : ((w.alloc (.cells (chR f t N (.slice a bs.length cap)) 73)).alloc (.cells #[.int .i64 nn] 3)).heap.size = m + 2 := by simp [hm]
  have A3 := A2.alloc (by rw [z2, hm]; omega) (.cells #[.slice none 0 0] 22)
  have r3 := heap_alloc_new ((w.alloc (.cells (chR f t N (.slice a bs.length cap)) 73)).alloc (.cells #[.int .i64 nn] 3)) (.cells #[.slice none 0 0] 22)
  have z3 : (((w.alloc (.cells (chR f t N (.slice a bs.length cap)) 73)).alloc (.cells #[.int .i64 nn] 3)).alloc (.cells #[.slice none 0 0] 22)).heap.size = m + 3 := by simp [hm]
  rw [hm] at r1
  rw [z1] at r2
  rw [z2] at r3
  have r1 := (Below.heap_alloc _ (.cells #[.slice none 0 0] 22) m (by rw [z2]; omega)).trans ((Below.heap_alloc _ (.cells #[.int .i64 nn] 3) m (by rw [z1]; omega)).trans r1)
  have r2 := (Below.heap_alloc _ (.cells #[.slice none 0 0] 22) (m + 1) (by rw [z2]; omega)).trans r2
  obtain ⟨y0, y1, y2, y3⟩ := four73 r1
  have CA := Lib.hid (allof_none f t N hN a bs cap hc0 hbd hno _ (H.below A3) (hT.below A3 hT.lt))
  have HA := Lib.hid (And.intro A3 (And.intro r2 (And.intro r3 z3)))
  clear A1 A2 A3 r1 r2 r3 z1 z2 z3 H hT
  unfold chR at *
  refine (callsIn_wide (n := 8)).1 ?_
  refine callsIn_of_wp_marks Tryd.func18 rfl trivial ?_ rfl
  simp only [Tryd.ntmps18, List.size_toArray, List.length_cons, List.length_nil, Nat.reduceAdd, Nat.reduceSub, Array.replicate_succ, Array.replicate_zero, List.push_toArray, List.append_toArray, List.nil_append, List.cons_append]
  gi_wp2_with (refine ⟨trivial, ?_⟩; gi_at_call 66; refine (callsIn_wide.2 CA.out).mono ?_; rintro e W2 ⟨b, rfl, hb, hbl⟩)
  have hbl' := hbl
  rw [HA.out.2.2.2] at hbl
  have hq := hbl.size
  have hr1 := (hbl.block (m + 1) (by omega)).trans HA.out.2.1
  have hr2 := (hbl.block (m + 2) (by omega)).trans HA.out.2.2.1
  have hw2 : Below m w W2 := (hm ▸ HA.out.1).trans (hbl.mono (by omega))
  have HSQ := Lib.hid (read_stops 7 (by omega) b 0 0 none 0 0 [] (fun _ => rfl) (by decide) (by decide) W2 hb ⟨by decide, fun c hc => by simp at hc, fun h => absurd rfl h⟩)
  rw [show Gm.rdAll 0 (Gm.rd0 (B2.Bt.unpack [])) = [] from rfl] at HSQ
  obtain ⟨B, hBB⟩ : ∃ B, W2.heap.size = B := ⟨_, rfl⟩
  have hz2 : W2.heap.size = m + 3 → False ∨ True := fun _ => .inr trivial
  have HQ := Lib.hid (And.intro hr1 (And.intro hr2 (And.intro hw2 (And.intro hBB (show m + 3 ≤ B by rw [← hBB, ← HA.out.2.2.2]; have := hbl'.size; exact this)))))
  clear hbl hbl' hq hr1 hr2 hw2 hb hBB hz2 CA y0 y1 y2 y3
  unfold pt at *
  refine wpIn_rangeFunc_ownT rfl (by omega) (gf := 93) (lb := #[.pointer (some ⟨b, 0, none⟩)]) rfl trivial (enters_of Tryd.func93 (by kernel_rfl) rfl) HSQ.out (Below.refl _ _) (fun _ => rfl)
    (fun T pre W => ApI w m (m + 2) B [] T pre W ∧ W.heap[m + 1]? = some (.cells #[.int .i64 nn] 3 (0, 0))) (fun _ _ _ _ => False)
    (fun T pre A B' h ho => ⟨h.1.only ho, (ho.block (m + 1) (Array.getElem?_eq_some_iff.1 h.2).1 (fun hk => by have := h.1.t _ hk; have := h.1.lt; omega)).trans h.2⟩) (fun c T pre A B h ho => h) ?start ?round ?done ?stop
  case start =>
    intro T W hb hT
    have hb' := hb
    rw [HQ.out.2.2.2.1] at hT hb
    have hs2 := hb.size
    have hs3 := HQ.out.2.2.2.1
    have hs4 := HQ.out.2.2.2.2
    exact ⟨⟨fun k hk => hT k hk, ⟨.slice none 0 0, (hb.block (m + 2) (by omega)).trans HQ.out.2.1, by simpa [OwnS, smC] using World.ownsRow_nil W m 70 2, fun g hg => by cases hg⟩, ⟨by omega, by omega, by have := hb'.size; omega, by omega⟩, HQ.out.2.2.1.trans (hb'.mono (by omega))⟩, (hb.block (m + 1) (by omega)).trans HQ.out.1⟩
  case round =>
    intro l T pre x W hI hSp
    have h := hSp.length_le
    rw [List.length_append] at h
    simp at h
  case done =>
    rintro D T xs W hD hDT rfl ⟨hI, _⟩ hK
    obtain ⟨v6, hv6, ho6, hT6⟩ := hI.v
    obtain ⟨a6, c6, rfl, _⟩ := ho6.shape
    have hc6 := hv6.cell
    gi_wp2
    refine ⟨by simp, .inl ⟨_, _, rfl, run_takeDeferred hK, ?_⟩⟩
    have hDb : Only [D] W (W.putObj D (.deferred none)) := Only.put W D _
    have hl := hI.lt
    have ho7 : OwnS W m (.slice a6 ([] : List Smp).length c6) [] := ho6
    have hT7 : ∀ g, (Value.slice a6 ([] : List Smp).length c6).ownBlock = some g → g ∉ T := hT6
    rw [hm]
    refine ⟨_, results_tmp rfl _ _ _, .slice a6 ([] : List Smp).length c6, rfl, owns_only ho7 hDb (fun g hg => ?_), hI.b.trans (hDb.below (by omega) (fun x hx => by have := HQ.out.2.2.2; simp at hx; omega))⟩
    intro hmm
    simp only [List.mem_cons, List.not_mem_nil, or_false] at hmm
    exact hT7 g hg (hmm ▸ hDT)
  case stop =>
    rintro D c T pre W hD hDT hSp h hK
    exact h.elim
end Go.Proofs.YtdlifcpdlbmijaaDoor
namespace Go.Proofs.YtdlifcpdlbmijaaDoor
set_option linter.unusedVariables false
set_option linter.unusedSimpArgs false
open Go.RowKit Go.PlainAid Go.Shelf
open B2 (Only Bys Row cellsOf owns_only Lent)
open Gm (St Smp Chk)
/-- append into one's own row where there is room, at a step of a region that draws its order -/
theorem step_append_spare {P : Program} {w : World} {K : Act → World → Prop} {E : Prop} {ops : Array Oper} {o : Oper} {a : Act} {Q : Exit → Act → World → Prop} (hgd : o.guard = none) (s x : Operand) (t : TypeId)
    (ho : o.op = .call { callee := .builtin .append, args := #[s, x], argTypes := #[t, t] })
    (base : Nat) (e : TypeId) (i : TypeInfo) (size : Nat) (ht : P.underlying t = some (.slice e)) (hi : P.info? e = some i) (hsize : i.size = size)
    (g n cap : Nat) (xs : List Value) (hs : a.eval s = .slice (some ⟨g, 0, none⟩) n cap) (hown : w.ownsRow base e size (.slice (some ⟨g, 0, none⟩) n cap) n xs)
    (ad : Addr) (m c : Nat) (news : List Value) (hx : a.eval x = .slice (some ad) m c) (hl : news.length = m * size) (hnews : ∀ j u, news[j]? = some u → w.cell? (ad.add j) = some u) (h1 : ∀ u ∈ news, u.oneCell' = true)
    (hroom : n + m ≤ cap)
    (h : ∀ w', w'.ownsRow base e size (.slice (some ⟨g, 0, none⟩) (n + m) cap) (n + m) (xs ++ news) → w.grownBy w' (some g) → K (a.put o.dst (.slice (some ⟨g, 0, none⟩) (n + m) cap)) w') :
    if Region.wanted o (yielded ops a.tmps) = true then Oper.wp P o a w K Q else E := by
  have hw : Region.wanted o (yielded ops a.tmps) = true := by simp [Region.wanted, hgd]
  rw [if_pos hw]
  exact wp_append_own_spare w s x t ho base e i size ht hi hsize g n cap xs hs hown ad m c news hx hl hnews h1 hroom h
theorem info73c : (Tryd.prog.info? 73).map (fun i => (i.zero, i.size, i.bytes)) = some (some (.agg #[.int .i64 0, .int .i64 0, .int .i64 0, .slice none 0 0]), 4, 48) := by kernel_rfl
theorem lent_n (a : Option Addr) (bs : List Nat) (n cap : Nat) (w : World) (hn : bs.length = n) (H : Bys w a bs) (hc0 : a = none → cap = 0) (hsm : n ≤ 100000) :
    Calls Tryd.prog 63 #[.slice a n cap] w fun e w' => ∃ g, w.heap.size ≤ g ∧ e = .returned (.slice (some ⟨g, 0, none⟩) n (n + 2)) ∧ Lent w' g bs ∧ Below w.heap.size w w' := by
  subst hn; exact B2.lent_any a bs cap w H hc0 hsm
theorem four_cellsN (w : World) (C : Array Value) : ∀ j u, C.toList[j]? = some u → (w.alloc (.cells C 73)).cell? ((⟨w.heap.size, 0, none⟩ : Addr).add j) = some u := World.news_of_block (heap_alloc_new w _)
theorem row73_of_owns {w : World} {base g n : Nat} {xs : List Value} (h : w.ownsRow base 73 4 (.slice (some ⟨g, 0, none⟩) n n) n xs) : w.heap[g]? = some (.cells xs.toArray 73 (0, 0)) := by
  obtain ⟨hl, h2⟩ := h
  rcases h2 with ⟨h0, _⟩ | ⟨g', cap, cur, hv, _, hg, _, _, hcs, ht⟩
  · cases h0
  · cases hv
    rw [hg]
    have : cur.toList = xs := by rw [← ht, List.take_of_length_le (by simp; omega)]
    rw [← this]
/-- a chunk lent: the row's block, the bytes' block -/
structure LentC (w : World) (g g2 : Nat) (f t N : Int) (bs : List Nat) : Prop where
  row : w.heap[g]? = some (.cells #[.int .i64 f, .int .i64 t, .int .i64 N, .slice (some ⟨g2, 0, none⟩) bs.length (bs.length + 2), .int .i64 0, .int .i64 0, .int .i64 (-77), .slice none 0 0] 73 (0, 0))
  lent : Lent w g2 bs
theorem LentC.below {w w' : World} {g g2 : Nat} {f t N : Int} {bs : List Nat} (h : LentC w g g2 f t N bs) (hb : Below w.heap.size w w') : LentC w' g g2 f t N bs :=
  ⟨(hb.block g (Array.getElem?_eq_some_iff.1 h.row).1).trans h.row, h.lent.below hb⟩
set_option maxHeartbeats 8000000 in
set_option maxRecDepth 100000 in
theorem lentone_any (h cp : Nat) (f t N : Int) (a : Option Addr) (bs : List Nat) (cap : Nat) (hc0 : a = none → cap = 0) (hbd : bs.length ≤ 100000) (w : World) (hrow : w.heap[h]? = some (.cells (chR f t N (.slice a bs.length cap)) 73 (0, 0))) (H : Bys w a bs) :
    Calls Tryd.prog 16 #[.slice (some ⟨h, 0, none⟩) 1 cp] w fun e w' => ∃ g g2, e = .returned (.slice (some ⟨g, 0, none⟩) 1 2) ∧ LentC w' g g2 f t N bs ∧ w.heap.size ≤ g ∧ w.heap.size ≤ g2 ∧ Below w.heap.size w w' := by
  obtain ⟨i3, hi, hz0, hz1, hz2⟩ := info_parts info73c
  have HI := Lib.hid (And.intro hi (And.intro hz0 (And.intro hz1 hz2)))
  have HH := Lib.hid (And.intro hrow (And.intro H (And.intro hc0 hbd)))
  obtain ⟨y0, y1, y2, y3⟩ := four73 hrow
  obtain ⟨L, hL⟩ : ∃ L, bs.length = L := ⟨_, rfl⟩
  rw [hL] at y3
  have HL := Lib.hid hL
  have HLT := Lib.hid ((Array.getElem?_eq_some_iff.1 hrow).1)
  clear hrow H hc0 hbd hi hz0 hz1 hL
  go_enter Tryd.func16, Tryd.ntmps16
  go_wp2_with (at_make; refine wpList_make_own _ rfl _ _ 77 rfl w.heap.size 73 i3 (.agg #[.int .i64 0, .int .i64 0, .int .i64 0, .slice none 0 0]) 4 Tryd.underlying77 HI.out.1 HI.out.2.1 HI.out.2.2.1 .i64 .i64 _ 2 rfl rfl (by rfl) (by rw [hz2]; omega) (by unfold maxLen; omega) (Nat.le_refl _) ?_; intro w1 hown1 hgr1)
  have hb1 : Below w.heap.size w w1 := (Below.refl _ _).grown hgr1 (Nat.le_refl _) (fun k hk => by cases hk)
  have HR1 := Lib.hid (And.intro hown1 hb1)
  clear hown1 hgr1 hz2
  refine wp_loop_rounds 3 ?_
  rw [rounds_succ]
  have x0 := cell_below y0 hb1
  have x1 := cell_below y1 hb1
  have x2 := cell_below y2 hb1
  have x3 := cell_below y3 hb1
  have CL := Lib.hid (fun W (hW : Below w.heap.size w W) => lent_n a bs L cap W HL.out (HH.out.2.1.below hW) HH.out.2.2.1 (by rw [← HL.out]; exact HH.out.2.2.2))
  have HO := Lib.hid (fun W (hW : Below w1.heap.size w1 W) => (owns_only HR1.out.1 (Only.of_below hW []) (fun _ _ => by simp)))
  have HK := Lib.hid (fun W (hW : Below w.heap.size w W) => show (W.cell? ⟨h, 0, none⟩ = some (.int .i64 f) ∧ W.cell? ⟨h, 1, none⟩ = some (.int .i64 t) ∧ W.cell? ⟨h, 2, none⟩ = some (.int .i64 N) ∧ W.cell? ⟨h, 3, none⟩ = some (.slice a L cap)) from ⟨cell_below y0 hW, cell_below y1 hW, cell_below y2 hW, cell_below y3 hW⟩)
  have q : (w1.drew.cell? ⟨h, 0, none⟩ = some (.int .i64 f) ∧ w1.drew.cell? ⟨h, 1, none⟩ = some (.int .i64 t) ∧ w1.drew.cell? ⟨h, 2, none⟩ = some (.int .i64 N) ∧ w1.drew.cell? ⟨h, 3, none⟩ = some (.slice a L cap)) ∧ Below w.heap.size w w1.drew := by
    have hbd : Below w.heap.size w w1.drew := hb1.trans ((drew_below w1).mono hb1.size)
    exact ⟨HK.out _ hbd, hbd⟩
  have HD := Lib.hid (drew_below w1)
  clear y0 y1 y2 y3 hb1
  go_wp2_with fail
  go_region_held_law (fun w' => (w'.cell? ⟨h, 0, none⟩ = some (.int .i64 f) ∧ w'.cell? ⟨h, 1, none⟩ = some (.int .i64 t) ∧ w'.cell? ⟨h, 2, none⟩ = some (.int .i64 N) ∧ w'.cell? ⟨h, 3, none⟩ = some (.slice a L cap)) ∧ Below w.heap.size w w') ((first | exact q | exact HKA.out _ | assumption))
    ((first
      | (refine step_append_spare (by rfl) (.tmp 16) (.tmp 39) 77 (by rfl) w.heap.size 73 i3 4 Tryd.underlying77 HI.out.1 HI.out.2.2.1 w.heap.size 0 2 [] (by simp [Act.eval, Act.put]) ((HO.out _ HB9.out).alloc _) ⟨w9.heap.size, 0, none⟩ 1 1 [.int .i64 f, .int .i64 t, .int .i64 N, .slice (some ⟨g2, 0, none⟩) L (L + 2)] (by simp [Act.eval, Act.put]) (by rfl) HSRC.out HONE.out (by decide) ?_; intro w10 hown10 hgr10; have hb10 := (HL2.out.2.2.alloc HL2.out.2.2.size _).grown hgr10 (by have := HL2.out.2.2.size; simp; omega) (fun k hk => by injection hk with hk; omega); have q10 := And.intro (HK.out w10 hb10) hb10; have HR10 := Lib.hid (And.intro hown10 (And.intro hgr10 hb10)); clear hown10 hgr10 hb10)
      | (go_at_call 63; refine (CL.out _ q.2).mono ?_; rintro e w9 ⟨g2, hg2, rfl, hl2, hb9⟩; have HB9 := Lib.hid (HD.out.trans (hb9.mono HD.out.size)); have hbw := q.2.trans (hb9.mono q.2.size); have q9 := And.intro (HK.out w9 hbw) hbw; have HKA := Lib.hid (fun o => show ((w9.alloc o).cell? ⟨h, 0, none⟩ = some (.int .i64 f) ∧ (w9.alloc o).cell? ⟨h, 1, none⟩ = some (.int .i64 t) ∧ (w9.alloc o).cell? ⟨h, 2, none⟩ = some (.int .i64 N) ∧ (w9.alloc o).cell? ⟨h, 3, none⟩ = some (.slice a L cap)) ∧ Below w.heap.size w (w9.alloc o) from ⟨HK.out _ (hbw.alloc hbw.size o), hbw.alloc hbw.size o⟩); have HL2 := Lib.hid (And.intro hg2 (And.intro hl2 hbw)); have HSRC := Lib.hid (four_cellsN w9 #[.int .i64 f, .int .i64 t, .int .i64 N, .slice (some ⟨g2, 0, none⟩) L (L + 2)]); have HONE := Lib.hid (show ∀ u ∈ ([.int .i64 f, .int .i64 t, .int .i64 N, .slice (some ⟨g2, 0, none⟩) L (L + 2)] : List Value), u.oneCell' = true by simp [Value.oneCell']); clear hg2 hl2 hb9 hbw)))
  have HOW := Lib.hid (show w10.ownsRow w.heap.size 73 4 (.slice (some ⟨w.heap.size, 0, none⟩) 1 2) 1 [.int .i64 f, .int .i64 t, .int .i64 N, .slice (some ⟨g2, 0, none⟩) L (L + 2)] from HR10.out.1)
  have HLT10 := Lib.hid (show Lent w10 g2 bs ∧ w.heap.size < g2 from by
    have h1 := HL2.out
    have hw1 : w.heap.size < w1.heap.size := (HR1.out.1.lt _ rfl).2
    have hlt := (Array.getElem?_eq_some_iff.1 h1.2.1).1
    have hA := h1.2.1.below ((Below.refl w9.heap.size w9).alloc (Nat.le_refl _) (.cells #[.int .i64 f, .int .i64 t, .int .i64 N, .slice (some ⟨g2, 0, none⟩) L (L + 2)] 73))
    have hne : g2 ≠ w.heap.size := by have h3 : w1.heap.size ≤ g2 := h1.1; omega
    exact ⟨(HR10.out.2.1.block g2 (Array.getElem?_eq_some_iff.1 hA).1 (fun hk => by injection hk with hk; omega)).trans hA, by have h3 : w1.heap.size ≤ g2 := h1.1; omega⟩)
  have HSRC2 := Lib.hid (four_cellsN w10 #[.int .i64 0, .int .i64 0, .int .i64 (-77), .slice none 0 0])
  have HONE2 := Lib.hid (show ∀ u ∈ ([.int .i64 0, .int .i64 0, .int .i64 (-77), .slice none 0 0] : List Value), u.oneCell' = true by simp [Value.oneCell'])
  go_wp2_with fail
  rw [rounds_succ]
  go_wp2_with (at_builtin; refine wpList_append_own_spare _ rfl (.tmp 41) (.tmp 43) 77 rfl w.heap.size 73 i3 4 Tryd.underlying77 HI.out.1 HI.out.2.2.1 w.heap.size 1 2 [.int .i64 f, .int .i64 t, .int .i64 N, .slice (some ⟨g2, 0, none⟩) L (L + 2)] rfl (HOW.out.alloc _) ⟨w10.heap.size, 0, none⟩ 1 1 [.int .i64 0, .int .i64 0, .int .i64 (-77), .slice none 0 0] rfl rfl HSRC2.out HONE2.out (by decide) ?_; intro w11 hown11 hgr11; have HR11 := Lib.hid (And.intro hown11 hgr11); clear hown11 hgr11)
  go_ret
  have hA := (Below.refl w10.heap.size w10).alloc (Nat.le_refl _) (.cells #[.int .i64 0, .int .i64 0, .int .i64 (-77), .slice none 0 0] 73)
  have hl := HLT10.out.1.below hA
  refine ⟨w.heap.size, g2, rfl, ⟨?_, (HR11.out.2.block g2 (Array.getElem?_eq_some_iff.1 hl).1 (fun hk => by injection hk with hk; have := HLT10.out.2; omega)).trans hl⟩, Nat.le_refl _, by have := HLT10.out.2; omega, ((HR10.out.2.2.trans (hA.mono HR10.out.2.2.size)).grown HR11.out.2 (by have := HR10.out.2.2.size; simp; omega) (fun k hk => by injection hk with hk; omega))⟩
  rw [HL.out]
  exact row73_of_owns HR11.out.1
end Go.Proofs.YtdlifcpdlbmijaaDoor
namespace Go.Proofs.YtdlifcpdlbmijaaDoor
set_option linter.unusedVariables false
set_option linter.unusedSimpArgs false
open Go.RowKit Go.PlainAid Go.Shelf
open B2 (Only Bys Row cellsOf owns_only Lent)
open Gm (St Smp Chk)
theorem whole_n (g : Nat) (a : Option Addr) (bs : List Nat) (n cap : Nat) (w : World) (hn : bs.length = n) (L : Lent w g bs) (H : Bys w a bs) (hsm : n ≤ 100000) :
    Calls Tryd.prog 67 #[.slice (some ⟨g, 0, none⟩) n (n + 2), .slice a n cap] w fun e w' => e = .returned (.bool true) ∧ Below w.heap.size w w' := by
  subst hn; exact B2.whole_any g a bs cap w L H hsm
theorem LentC.cells {w : World} {g g2 : Nat} {f t N : Int} {bs : List Nat} (h : LentC w g g2 f t N bs) : w.cell? ⟨g, 0, none⟩ = some (.int .i64 f) ∧ w.cell? ⟨g, 1, none⟩ = some (.int .i64 t) ∧ w.cell? ⟨g, 2, none⟩ = some (.int .i64 N) ∧ w.cell? ⟨g, 3, none⟩ = some (.slice (some ⟨g2, 0, none⟩) bs.length (bs.length + 2)) ∧ w.cell? ⟨g, 6, none⟩ = some (.int .i64 (-77)) :=
  ⟨(cell_of_row _ _ 0 _ _ _ h.row).trans rfl, (cell_of_row _ _ 1 _ _ _ h.row).trans rfl, (cell_of_row _ _ 2 _ _ _ h.row).trans rfl, (cell_of_row _ _ 3 _ _ _ h.row).trans rfl, (cell_of_row _ _ 6 _ _ _ h.row).trans rfl⟩
set_option maxHeartbeats 8000000 in
set_option maxRecDepth 100000 in
theorem wholeone_any (g g2 h cp : Nat) (f t N : Int) (a : Option Addr) (bs : List Nat) (cap : Nat) (hbd : bs.length ≤ 100000) (w : World) (HC : LentC w g g2 f t N bs) (hrow : w.heap[h]? = some (.cells (chR f t N (.slice a bs.length cap)) 73 (0, 0))) (H : Bys w a bs) :
    Calls Tryd.prog 19 #[.slice (some ⟨g, 0, none⟩) 1 2, .slice (some ⟨h, 0, none⟩) 1 cp] w fun e w' => e = .returned (.bool true) ∧ Below w.heap.size w w' := by
  obtain ⟨y0, y1, y2, y3⟩ := four73 hrow
  obtain ⟨z0, z1, z2, z3, z6⟩ := HC.cells
  have HH := Lib.hid (And.intro HC (And.intro H hbd))
  obtain ⟨L, hL⟩ : ∃ L, bs.length = L := ⟨_, rfl⟩
  rw [hL] at y3 z3
  have HL := Lib.hid hL
  have hff : (f != f) = false := by simp
  have htt : (t != t) = false := by simp
  have hNN : (N != N) = false := by simp
  clear hrow HC H hbd hL
  have HK := Lib.hid (fun W (hW : Below w.heap.size w W) => show ((W.cell? ⟨h, 0, none⟩ = some (.int .i64 f) ∧ W.cell? ⟨h, 1, none⟩ = some (.int .i64 t) ∧ W.cell? ⟨h, 2, none⟩ = some (.int .i64 N) ∧ W.cell? ⟨h, 3, none⟩ = some (.slice a L cap)) ∧ (W.cell? ⟨g, 0, none⟩ = some (.int .i64 f) ∧ W.cell? ⟨g, 1, none⟩ = some (.int .i64 t) ∧ W.cell? ⟨g, 2, none⟩ = some (.int .i64 N) ∧ W.cell? ⟨g, 3, none⟩ = some (.slice (some ⟨g2, 0, none⟩) L (L + 2)))) ∧ Below w.heap.size w W from ⟨⟨⟨cell_below y0 hW, cell_below y1 hW, cell_below y2 hW, cell_below y3 hW⟩, ⟨cell_below z0 hW, cell_below z1 hW, cell_below z2 hW, cell_below z3 hW⟩⟩, hW⟩)
  have CW := Lib.hid (fun W (hW : Below w.heap.size w W) => whole_n g2 a bs L cap W HL.out (HH.out.1.lent.below hW) (HH.out.2.1.below hW) (by rw [← HL.out]; exact HH.out.2.2))
  go_enter Tryd.func19, Tryd.ntmps19
  go_wp2_with fail
  refine wp_loop_rounds 3 ?_
  rw [rounds_succ]
  have q := HK.out w.drew (drew_below w)
  clear z6
  go_wp2_with fail
  go_region_held3 (fun W => ((W.cell? ⟨h, 0, none⟩ = some (.int .i64 f) ∧ W.cell? ⟨h, 1, none⟩ = some (.int .i64 t) ∧ W.cell? ⟨h, 2, none⟩ = some (.int .i64 N) ∧ W.cell? ⟨h, 3, none⟩ = some (.slice a L cap)) ∧ (W.cell? ⟨g, 0, none⟩ = some (.int .i64 f) ∧ W.cell? ⟨g, 1, none⟩ = some (.int .i64 t) ∧ W.cell? ⟨g, 2, none⟩ = some (.int .i64 N) ∧ W.cell? ⟨g, 3, none⟩ = some (.slice (some ⟨g2, 0, none⟩) L (L + 2)))) ∧ Below w.heap.size w W) ((first | exact q | assumption))
    ((go_at_call 67; refine (CW.out _ q.2).mono ?_; rintro e w9 ⟨rfl, hb9⟩; have HB9 := Lib.hid (q.2.trans (hb9.mono q.2.size)); have q9 := HK.out w9 HB9.out; clear hb9))
  clear q q9
  go_wp2_with fail
  rw [rounds_succ]
  go_wp2_with fail
  go_ret
  exact ⟨rfl, HB9.out⟩
end Go.Proofs.YtdlifcpdlbmijaaDoor
namespace Go.Proofs.YtdlifcpdlbmijaaDoor
open Go.RowKit
abbrev laid1 : List (String × DataW Unit) := Rows.gorillaMakesRow.laid
def great1 : List String := []
noncomputable def startWorld (os : Os) : World := (World.doorLaid Tryd.prog 26 os).layVars Tryd.prog ((laid1.filter fun x => x.2.handleName?.isNone).filter fun x => great1.contains x.1)
theorem startWorld_os (os : Os) : (startWorld os).os = os := World.layVars_os _ _ _
set_option maxRecDepth 100000
noncomputable def apartBlocks (os : Os) : List Nat := (List.range (World.doorLaid Tryd.prog 26 os).heap.size).filter fun b => !(([] : List Nat).contains b)
theorem start_fits (os : Os) : (World.doorLaid Tryd.prog 26 os).layFits Tryd.prog ((laid1.filter fun x => x.2.handleName?.isNone).filter fun x => great1.contains x.1) (apartBlocks os) = true := by kernel_rfl
theorem start_ifaces (os : Os) : (World.doorLaid Tryd.prog 26 os).layIfaces Tryd.prog ((laid1.filter fun x => x.2.handleName?.isNone).filter fun x => great1.contains x.1) (startWorld os) = true := by kernel_rfl
theorem start_others (os : Os) : LaidIn Tryd.prog (startWorld os) ((laid1.filter fun x => x.2.handleName?.isNone).filter fun x => !great1.contains x.1) (apartBlocks os) :=
  LaidIn.of_run (apartBlocks os) 8 (by kernel_rfl) (by kernel_rfl) (by kernel_rfl) (by kernel_rfl)
theorem start_met (os : Os) : laidMetH Tryd.prog laid1 (startWorld os) :=
  laidMetH_of_parts3 (fuel := 8) (laidMet_layVars (w0 := World.doorLaid Tryd.prog 26 os) great1 (apartBlocks os) rfl (start_fits os) (start_ifaces os) (start_others os)) (by kernel_rfl) (by kernel_rfl)
theorem door_met (os : Os) (args : Array Value) : laidMetH Tryd.prog laid1 ((startWorld os).forCall (fun _ _ => 0) ⟨#[], args, []⟩).memory :=
  laidMetH.of_heap (by simp [World.memory, World.forCall, Input.heap]) (start_met os)
#print axioms door_met
end Go.Proofs.YtdlifcpdlbmijaaDoor
namespace Go.Proofs.YtdlifcpdlbmijaaDoor
open Go.RowKit
set_option maxRecDepth 100000
theorem start_shaped (os : Os) (args : Array Value) : ((startWorld os).forCall (fun _ _ => 0) ⟨#[], args, []⟩).Shaped Tryd.prog := World.shaped_of_ZipB (by kernel_rfl) (by kernel_rfl)
end Go.Proofs.YtdlifcpdlbmijaaDoor
namespace Go.Proofs.YtdlifcpdlbmijaaDoor
set_option linter.unusedVariables false
set_option linter.unusedSimpArgs false
open Go.RowKit Go.ChangeShapes Go.WideShapes Go.ChangeAt Go.WideMaps Go.WideElems
theorem one_laid {W : World} (h : laidMetH Tryd.prog laid1 W) (n : String) (d : DataW Unit) (he : laid1.filter (fun x => x.1 == n) = [(n, d)]) (hp : ([(n, d)].all fun x => x.2.handleName?.isNone) = true) : laidMet Tryd.prog [(n, d)] W := by
  have h1 := h.filter (fun x => x.1 == n)
  rw [he, MakeChecks.laidMetH_plain _ _ _ hp] at h1
  exact h1
set_option maxRecDepth 100000 in
theorem laid_tab {W : World} (h : laidMetH Tryd.prog laid1 W) : TabAt W := by
  obtain ⟨ps, ⟨g', t', cs, fuel, p, q, hg', ht', hv, hd, _, _⟩, _⟩ := one_laid h "math/bits.deBruijn64tab" Rows.laid_math_bits_deBruijn64tab (by kernel_rfl) (by kernel_rfl)
  have hg : Tryd.prog.globalNamed "math/bits.deBruijn64tab" = some 1 := by kernel_rfl
  obtain rfl := Option.some.inj (hg.symm.trans hg')
  obtain rfl := Option.some.inj ((show (Tryd.prog.globals[1]?).map (·.type) = some 264 by kernel_rfl).symm.trans ht')
  have e := Lib.cells_of_tab (t := 264) (e := 5) (n := 64) (k := .u8) (zs := Lib.deBruijn64tab.map fun (x : Nat) => (x : Int)) (by kernel_rfl) (by kernel_rfl) (by kernel_rfl) (by kernel_rfl) (show DataW.trod (fun _ => ()) Tryd.prog W 0 (fun _ => true) false fuel 264 cs.toList = some (Lib.tabData .u8 (Lib.deBruijn64tab.map fun (x : Nat) => (x : Int)), p) from hd)
  intro j hj
  rw [World.var?_cell hg hv j, ← Array.getElem?_toList, e]
  simp [List.getElem?_map, List.getD, List.getElem?_eq_getElem hj]
def rowD (zs : List Int) : DataW Unit := .slice (zs.map fun z => .lit (.int .i64 z)) []
theorem one3 : Tryd.prog.cellsOf 2 = 1 := by kernel_rfl
theorem one173 : Tryd.prog.cellsOf 173 = 1 := by kernel_rfl
theorem add_nought (a : Addr) : a.add 0 = a := by
  obtain ⟨b, o, s⟩ := a
  cases s <;> simp [Addr.add]
theorem addr_spot {w : World} {a : Addr} {v : Value} (h : w.cell? a = some v) : ∃ b o, a = ⟨b, o, none⟩ := by
  obtain ⟨b, o, s⟩ := a
  have : s = none := by simpa using World.cell?_spot h
  exact ⟨b, o, by rw [this]⟩
theorem add_plain (b o j : Nat) : (⟨b, o, none⟩ : Addr).add j = ⟨b, o + j, none⟩ := by unfold Addr.add; split <;> simp_all
/-- a row of five numbers -/
theorem row_of {W : World} {spare : Nat → Bool} {fuel : Nat} {cs : List Value} {zs : List Int} {p : List MemPlace} (hz : zs.length = 5) (h : DataW.trod (fun _ => ()) Tryd.prog W 0 spare false fuel 173 cs = some (rowD zs, p)) :
    ∃ b o c, cs = [.slice (some ⟨b, o, none⟩) 5 c] ∧ ∀ j (hj : j < zs.length), W.cell? ⟨b, o + j, none⟩ = some (.int .i64 zs[j]) := by
  rcases DataW.trod_slice Tryd.underlying173 h with ⟨_, hx⟩ | ⟨a, len, cap, elems, rest, n, _, hcs, hx, _, _, _, hel, hat, _, _⟩
  · simp [rowD] at hx
  · have hx1 := congrArg Prod.fst hx
    simp only [rowD, DataW.slice.injEq] at hx1
    have hlen : len = 5 := by
      have := congrArg List.length hx1.1
      simp at this
      omega
    subst hlen
    have key : ∀ j (hj : j < zs.length), W.cell? (a.add j) = some (.int .i64 zs[j]) := by
      intro j hj
      have h1 := hat j (by omega)
      rw [one3, Nat.mul_one] at h1
      have hje : j < elems.length := by omega
      rw [List.getElem?_eq_getElem hje] at h1
      obtain ⟨cs', hc, ht⟩ := Option.bind_eq_some_iff.1 h1
      obtain ⟨z, rfl, hz2, _⟩ := DataW.trod_int Tryd.underlying2 ht
      obtain ⟨_, _, hcell⟩ := World.cells?_some hc
      have h2 := hcell 0 (by decide)
      rw [add_nought] at h2
      have h3 : (elems.map (·.1))[j]? = some (.lit (.int .i64 z)) := by rw [List.getElem?_map, List.getElem?_eq_getElem hje, hz2]; rfl
      rw [← hx1.1, List.getElem?_map, List.getElem?_eq_getElem hj] at h3
      simp only [Option.map_some, Option.some.injEq, DataW.lit.injEq, Lit.int.injEq, true_and] at h3
      rw [h2, h3]
      rfl
    obtain ⟨b, o, rfl⟩ : ∃ b o, a = ⟨b, o, none⟩ := by
      have h0 := key 0 (by omega)
      rw [add_nought] at h0
      exact addr_spot h0
    exact ⟨b, o, cap, hcs, fun j hj => by have := key j hj; rwa [add_plain] at this⟩
set_option maxRecDepth 100000 in
theorem laid_rows {W : World} (h : laidMetH Tryd.prog laid1 W) : ∃ q p0 p1 p2 c c0 c1 c2 o9 oa oc od, TabB W q p0 p1 p2 c c0 c1 c2 o9 oa oc od := by
  obtain ⟨ps, ⟨g', t', cs, fuel, p, q, hg', ht', hv, hd, _, _⟩, _⟩ := one_laid h "barograph/barographref10.buckets" Rows.laid_barograph_barographref10_buckets (by kernel_rfl) (by kernel_rfl)
  have hg : Tryd.prog.globalNamed "barograph/barographref10.buckets" = some 0 := by kernel_rfl
  obtain rfl := Option.some.inj (hg.symm.trans hg')
  obtain rfl := Option.some.inj ((show (Tryd.prog.globals[0]?).map (·.type) = some 33 by kernel_rfl).symm.trans ht')
  have hd' : DataW.trod (fun _ => ()) Tryd.prog W 0 (fun _ => true) false fuel 33 cs.toList = some (.slice [rowD [2, 2, -63, 64, 7], rowD [6, 3, -255, 256, 9], rowD [14, 4, -2047, 2048, 12]] [], p) := hd
  rcases DataW.trod_slice Tryd.underlying33 hd' with ⟨_, hx⟩ | ⟨a, len, cap, elems, rest, n, _, hcs, hx, _, _, _, hel, hat, _, _⟩
  · simp at hx
  · have hx1 := congrArg Prod.fst hx
    simp only [DataW.slice.injEq] at hx1
    have hlen : len = 3 := by
      have := congrArg List.length hx1.1
      simp at this
      omega
    subst hlen
    have hrow : ∀ j (hj : j < 3) (zs : List Int), ([rowD [2, 2, -63, 64, 7], rowD [6, 3, -255, 256, 9], rowD [14, 4, -2047, 2048, 12]] : List (DataW Unit))[j]? = some (rowD zs) → zs.length = 5 → ∃ b o c, W.cell? (a.add j) = some (.slice (some ⟨b, o, none⟩) 5 c) ∧ ∀ i (hi : i < zs.length), W.cell? ⟨b, o + i, none⟩ = some (.int .i64 zs[i]) := by
      intro j hj zs hz hl
      have h1 := hat j hj
      rw [one173, Nat.mul_one] at h1
      have hje : j < elems.length := by omega
      rw [List.getElem?_eq_getElem hje] at h1
      obtain ⟨cs', hc, ht⟩ := Option.bind_eq_some_iff.1 h1
      have h3 : (elems.map (·.1))[j]? = some (rowD zs) := by rw [← hx1.1]; exact hz
      rw [List.getElem?_map, List.getElem?_eq_getElem hje] at h3
      simp only [Option.map_some, Option.some.injEq] at h3
      obtain ⟨b, o, c, rfl, hcell⟩ := row_of (p := elems[j].2) hl (by rw [ht, ← h3])
      obtain ⟨_, _, hcell2⟩ := World.cells?_some hc
      have h2 := hcell2 0 (by decide)
      rw [add_nought] at h2
      exact ⟨b, o, c, h2, hcell⟩
    obtain ⟨b0, oa, c0, k0, r0⟩ := hrow 0 (by decide) _ rfl rfl
    obtain ⟨b1, oc, c1, k1, r1⟩ := hrow 1 (by decide) _ rfl rfl
    obtain ⟨b2, od, c2, k2, r2⟩ := hrow 2 (by decide) _ rfl rfl
    obtain ⟨qb, o9, rfl⟩ : ∃ b o, a = ⟨b, o, none⟩ := by
      rw [add_nought] at k0
      exact addr_spot k0
    rw [add_plain] at k0 k1 k2
    have hgc : W.cell? ⟨0, 0, none⟩ = some (.slice (some ⟨qb, o9, none⟩) 3 cap) := by
      rw [World.var?_cell hg hv 0, ← Array.getElem?_toList, hcs]
      rfl
    exact ⟨qb, b0, b1, b2, cap, c0, c1, c2, o9, oa, oc, od, hgc, ⟨k0, k1, k2⟩, ⟨r0 0 (by decide), r0 1 (by decide), r0 2 (by decide), r0 3 (by decide), r0 4 (by decide)⟩, ⟨r1 0 (by decide), r1 1 (by decide), r1 2 (by decide), r1 3 (by decide), r1 4 (by decide)⟩, ⟨r2 0 (by decide), r2 1 (by decide), r2 2 (by decide), r2 3 (by decide), r2 4 (by decide)⟩⟩
end Go.Proofs.YtdlifcpdlbmijaaDoor
