/-
  PACKED: HaG, HaH, HaI, HaJ, Door, Start, Laid
-/
import Derived.Test.YtdlifcpdlbmijaaDoorK08
import Derived.Test.YtdlifcpdlbmijaaDoorK04
import Derived.Test.YtdlifcpdlbmijaaDoorK06
import Derived.Test.YtdlifcpdlbmijaaDoorRows
import Derived.Deep.DeepAppendRoom
import Derived.Deep.RegionHeldLaw
import Derived.OwnWalk
import Derived.Deep.RegionHeld3
import Derived.WalkKit
import Derived.ProofKit
import Derived.LaidMore
import Derived.LaidHandle
import Derived.Lay
import Derived.Lib.LaidIn
import Derived.Stop.Joined
import Derived.LaidLaws
import Derived.LaidSub
import Derived.MakeChecks
import Derived.Lib.LaidTab
import Derived.OpenShut
import Derived.Shelf.Vars
set_option linter.unusedVariables false
set_option linter.unusedSimpArgs false
namespace Go.Proofs.YtdlifcpdlbmijaaDoor
set_option linter.unusedVariables false
set_option linter.unusedSimpArgs false
open Go.RowKit Go.PlainAid Go.Shelf
open B2 (Only Bys Row cellsOf owns_only)
open Gm (St Smp Chk)
attribute [local go_sem] Oper.semAt_some
set_option maxRecDepth 100000 in
set_option maxHeartbeats 8000000 in
theorem all_upto (nn : Nat) (gg : List Smp) (c : Chk) (G : OneC gg) (C : Gm.IsChk gg c) (a : Option Addr) (cap : Nat) (w : World) (H : Bys w a c.bs) (hT : TabAt w) :
    Calls Tryd.prog 18 #[.agg (chR c.frm c.to c.n (.slice a c.bs.length cap)), .int .i64 ((nn : Nat) : Int)] w fun e w' => ∃ v', e = .returned v' ∧ OwnS w' w.heap.size v' (gg.take nn) ∧ Below w.heap.size w w' := by
  obtain ⟨m, hm⟩ : ∃ m, w.heap.size = m := ⟨_, rfl⟩
  obtain ⟨hs1, hs2, hs3⟩ := one_says G C
  have A1 := (Below.refl w.heap.size w).alloc (Nat.le_refl _) (.cells (chR c.frm c.to c.n (.slice a c.bs.length cap)) 73)
  have r1 := heap_alloc_new w (.cells (chR c.frm c.to c.n (.slice a c.bs.length cap)) 73)
  have z1 : (w.alloc (.cells (chR c.frm c.to c.n (.slice a c.bs.length cap)) 73)).heap.size = m + 1 := by simp [hm]
  have A2 := A1.alloc (by rw [z1, hm]; omega) (.cells #[.int .i64 ((nn : Nat) : Int)] 3)
  have r2 := heap_alloc_new (w.alloc (.cells (chR c.frm c.to c.n (.slice a c.bs.length cap)) 73)) (.cells #[.int .i64 ((nn : Nat) : Int)] 3)
  have z2 : ((w.alloc (.cells (chR c.frm c.to c.n (.slice a c.bs.length cap)) 73)).alloc (.cells #[.int .i64 ((nn : Nat) : Int)] 3)).heap.size = m + 2 := by simp [hm]
  have A3 := A2.alloc (by rw [z2, hm]; omega) (.cells #[.slice none 0 0] 22)
  have r3 := heap_alloc_new ((w.alloc (.cells (chR c.frm c.to c.n (.slice a c.bs.length cap)) 73)).alloc (.cells #[.int .i64 ((nn : Nat) : Int)] 3)) (.cells #[.slice none 0 0] 22)
  have z3 : (((w.alloc (.cells (chR c.frm c.to c.n (.slice a c.bs.length cap)) 73)).alloc (.cells #[.int .i64 ((nn : Nat) : Int)] 3)).alloc (.cells #[.slice none 0 0] 22)).heap.size = m + 3 := by simp [hm]
  rw [hm] at r1
  rw [z1] at r2
  rw [z2] at r3
  have r1 := (Below.heap_alloc _ (.cells #[.slice none 0 0] 22) m (by rw [z2]; omega)).trans ((Below.heap_alloc _ (.cells #[.int .i64 ((nn : Nat) : Int)] 3) m (by rw [z1]; omega)).trans r1)
  have r2 := (Below.heap_alloc _ (.cells #[.slice none 0 0] 22) (m + 1) (by rw [z2]; omega)).trans r2
  obtain ⟨y0, y1, y2, y3⟩ := four73 r1
  have CA := Lib.hid (allof_any gg c G C a cap _ (H.below A3) (hT.below A3 hT.lt))
  have HA := Lib.hid (And.intro A3 (And.intro r2 (And.intro r3 z3)))
  have HS := Lib.hid (And.intro hs1 (And.intro hs2 (And.intro G C)))
  clear A1 A2 A3 r1 r2 r3 z1 z2 z3 H hT hs1 hs2 hs3 G C
  unfold chR at *
  refine (callsIn_wide (n := 8)).1 ?_
  refine callsIn_of_wp_marks Tryd.func18 rfl trivial ?_ rfl
  simp only [Tryd.ntmps18, List.size_toArray, List.length_cons, List.length_nil, Nat.reduceAdd, Nat.reduceSub, Array.replicate_succ, Array.replicate_zero, List.push_toArray, List.append_toArray, List.nil_append, List.cons_append]
  gi_wp2_with (refine ⟨trivial, ?_⟩; gi_at_call 66; refine (callsIn_wide.2 CA.out).mono ?_; rintro e W2 ⟨b, a2, cap2, rfl, hb, hB, hbl⟩)
  have hbl' := hbl
  rw [HA.out.2.2.2] at hbl
  have hq := hbl.size
  have hr1 := (hbl.block (m + 1) (by omega)).trans HA.out.2.1
  have hr2 := (hbl.block (m + 2) (by omega)).trans HA.out.2.2.1
  have hw2 : Below m w W2 := (hm ▸ HA.out.1).trans (hbl.mono (by omega))
  have hne := one_ne HS.out.2.2.1 HS.out.2.2.2
  have ha2 : a2 ≠ none := by
    obtain ⟨b4, off, e, _⟩ := hB.2.2 hne
    rw [e]
    simp
  have hlen := HS.out.2.2.1.len
  have HSQ := Lib.hid (read_stops 7 (by omega) b cap2 c.n a2 c.frm c.to c.bs (fun h => absurd h ha2) (by have := one_bs HS.out.2.2.1 HS.out.2.2.2; omega) (by rw [HS.out.1]; omega) W2 hb hB)
  rw [HS.out.2.1] at HSQ
  obtain ⟨B, hBB⟩ : ∃ B, W2.heap.size = B := ⟨_, rfl⟩
  have hz2 : W2.heap.size = m + 3 → False ∨ True := fun _ => .inr trivial
  have HQ := Lib.hid (And.intro hr1 (And.intro hr2 (And.intro hw2 (And.intro hBB (show m + 3 ≤ B by rw [← hBB, ← HA.out.2.2.2]; have := hbl'.size; exact this)))))
  clear hbl hbl' hq hr1 hr2 hw2 hne ha2 hlen hb hB hBB hz2 CA y0 y1 y2 y3
  unfold pt at *
  refine wpIn_rangeFunc_ownT rfl (by omega) (gf := 93) (lb := #[.pointer (some ⟨b, 0, none⟩)]) rfl trivial (enters_of Tryd.func93 (by kernel_rfl) rfl) HSQ.out (Below.refl _ _) (fun _ => rfl)
    (fun T pre W => (ApI w m (m + 2) B [] T pre W ∧ W.heap[m + 1]? = some (.cells #[.int .i64 ((nn : Nat) : Int)] 3 (0, 0))) ∧ pre.length ≤ nn) (fun c T pre W => c = .exit 0 ∧ ∃ pre0 x, pre = pre0 ++ [x] ∧ pre0.length = nn ∧ ApI w m (m + 2) B [] T pre0 W)
    (fun T pre A B' h ho => ⟨⟨h.1.1.only ho, (ho.block (m + 1) (Array.getElem?_eq_some_iff.1 h.1.2).1 (fun hk => by have := h.1.1.t _ hk; have := h.1.1.lt; omega)).trans h.1.2⟩, h.2⟩) (fun c T pre A B h ho => by obtain ⟨h1, pre0, x, h2, h3, h4⟩ := h; exact ⟨h1, pre0, x, h2, h3, h4.only ho⟩) ?start ?round ?done ?stop
  case start =>
    intro T W hb hT
    have hb' := hb
    rw [HQ.out.2.2.2.1] at hT hb
    have hs2 := hb.size
    have hs3 := HQ.out.2.2.2.1
    have hs4 := HQ.out.2.2.2.2
    exact ⟨⟨⟨fun k hk => hT k hk, ⟨.slice none 0 0, (hb.block (m + 2) (by omega)).trans HQ.out.2.1, by simpa [OwnS, smC] using World.ownsRow_nil W m 70 2, fun g hg => by cases hg⟩, ⟨by omega, by omega, by have := hb'.size; omega, by omega⟩, HQ.out.2.2.1.trans (hb'.mono (by omega))⟩, (hb.block (m + 1) (by omega)).trans HQ.out.1⟩, by simp⟩
  case round =>
    intro l T pre x W hI hSp
    have hs0 : 1 ≤ 8 - 1 - 1 := by decide
    have hpl : pre.length ≤ 100000 := by have := hSp.length_le; simp at this; have := HS.out.2.2.1.len; omega
    have HPN := Lib.hid hI.2
    have hI := hI.1
    have HX := Lib.hid (And.intro hI hpl)
    clear hI hpl hSp
    unfold smV
    gi_wp2
    refine ⟨kept_below (fun k hk => (HX.out.1.1.t k hk).2) ((Below.refl W.heap.size W).alloc (Nat.le_refl _) _), fun W6 ho => ?_⟩
    have hAl := (Below.refl W.heap.size W).alloc (Nat.le_refl _) (.cells #[.int .i64 x.t, .int .u64 ((x.v : Nat) : Int)] 70)
    have hbx := heap_alloc_new W (.cells #[.int .i64 x.t, .int .u64 ((x.v : Nat) : Int)] 70)
    have hI6 := (HX.out.1.1.below hAl).only ho
    have hm6 : W6.heap[m + 1]? = some (.cells #[.int .i64 ((nn : Nat) : Int)] 3 (0, 0)) := (ho.block (m + 1) (by have h := (Array.getElem?_eq_some_iff.1 HX.out.1.2).1; simp; omega) (fun hk => by have := HX.out.1.1.t _ hk; have := HX.out.1.1.lt; omega)).trans ((hAl.block _ (Array.getElem?_eq_some_iff.1 HX.out.1.2).1).trans HX.out.1.2)
    have km : W6.cell? ⟨m + 1, 0, none⟩ = some (.int .i64 ((nn : Nat) : Int)) := (cell_of_row _ _ 0 _ _ _ hm6).trans rfl
    have HM6 := Lib.hid hm6
    have hbx6 := (ho.block W.heap.size (by simp) (fun hm => by have := (HX.out.1.1.t _ hm).2; omega)).trans hbx
    have k0 : W6.cell? ⟨W.heap.size, 0, none⟩ = some (.int .i64 x.t) := (cell_of_row _ _ 0 _ _ _ hbx6).trans rfl
    have k1 : W6.cell? ⟨W.heap.size, 1, none⟩ = some (.int .u64 ((x.v : Nat) : Int)) := (cell_of_row _ _ 1 _ _ _ hbx6).trans rfl
    have HI6 := Lib.hid hI6
    obtain ⟨v6, hv6, ho6, hT6⟩ := hI6.v
    obtain ⟨a6, c6, rfl, _⟩ := ho6.shape
    obtain ⟨m6, hm6'⟩ : ∃ m6, ([] ++ pre : List Smp).length = m6 := ⟨_, rfl⟩
    have hm6l : m6 ≤ 1100000 := by rw [← hm6']; have := HX.out.2; simp; omega
    have kb : W6.cell? ⟨m + 2, 0, none⟩ = some (.slice a6 m6 c6) := by rw [← hm6']; exact hv6.cell
    have HV6 := Lib.hid (And.intro hv6 (And.intro ho6 (And.intro hT6 hm6')))
    clear hAl hbx hI6 hbx6 ho hv6 ho6 hT6 hm6 hm6'
    obtain ⟨i0, hi0, hi1, hi2, hi3⟩ := info_parts info70'
    have HII := Lib.hid (And.intro hi0 (And.intro hi1 (And.intro hi2 hi3)))
    have HOW := Lib.hid (show W6.ownsRow m 70 2 (.slice a6 m6 c6) m6 (smC ([] ++ pre)) from by
      have h := HV6.out.2.1
      unfold OwnS at h
      rw [HV6.out.2.2.2] at h
      exact h)
    clear hi0 hi1 hi2 hi3
    have hn0 : decide (((nn : Nat) : Int) ≥ 0) = true := decide_eq_true (by omega)
    have hn0' : (0 : Int) ≤ ((nn : Nat) : Int) := by omega
    have hml : m6 ≤ nn := by rw [← HV6.out.2.2.2]; simpa using HPN.out
    have HLN := Lib.hid (show m6 = pre.length from by rw [← HV6.out.2.2.2]; simp)
    by_cases hge : nn ≤ m6
    · have hd : decide (((m6 : Nat) : Int) ≥ ((nn : Nat) : Int)) = true := decide_eq_true (by omega)
      have hd' : ((nn : Nat) : Int) ≤ ((m6 : Nat) : Int) := by omega
      gi_wp2
      exact ⟨fun k hk => rfl, rfl, pre, x, rfl, by have := HLN.out; omega, HI6.out⟩
    · have hd : decide (((m6 : Nat) : Int) ≥ ((nn : Nat) : Int)) = false := decide_eq_false (by omega)
      have hd' : ¬ ((nn : Nat) : Int) ≤ ((m6 : Nat) : Int) := by omega
      gi_wp2_with (refine wpListIn_append_at _ rfl (.tmp 18) (.tmp 20) 22 rfl m 70 i0 (.agg #[.int .i64 0, .int .u64 0]) 2 16 Tryd.underlying22 HII.out.1 HII.out.2.1 HII.out.2.2.1 HII.out.2.2.2 rfl (by decide) (.slice a6 m6 c6) m6 (smC ([] ++ pre)) rfl (HOW.out.alloc _) ⟨W6.heap.size, 0, none⟩ 1 1 [.int .i64 x.t, .int .u64 ((x.v : Nat) : Int)] rfl rfl (two_cellsN W6 x) (by intro u hu; simp at hu; rcases hu with rfl | rfl <;> rfl) (by unfold maxLen; omega) (by omega) (by have := HI6.out.lt; simp; omega) ?_; intro v7 w7 hown7 hgr7 hpl7; obtain ⟨g7, c7, rfl⟩ := ownsRow_succ hown7; have hS7 := HI6.out.step (tmp := .cells #[.int .i64 x.t, .int .u64 ((x.v : Nat) : Int)] 70) HV6.out.1 HV6.out.2.1 HV6.out.2.2.1 (by rw [HV6.out.2.2.2]; exact hown7) (by rw [HV6.out.2.2.2]; exact hgr7) (by rw [HV6.out.2.2.2]; exact hpl7); have hbx7 := (Boxed.appended (tmp := .cells #[.int .i64 x.t, .int .u64 ((x.v : Nat) : Int)] 70) HV6.out.1 (by decide : (22 : TypeId) ≠ 70) HV6.out.2.1 (by have := HI6.out.lt; omega) (by have := HI6.out.lt; omega) hown7 (by rw [HV6.out.2.2.2]; exact hgr7)).1; have hm7 := (Boxed.alloc (show Boxed W6 (m + 1) 3 (.int .i64 ((nn : Nat) : Int)) from HM6.out) (.cells #[.int .i64 x.t, .int .u64 ((x.v : Nat) : Int)] 70)).kept hgr7 (Boxed.not_row (Boxed.alloc (show Boxed W6 (m + 1) 3 (.int .i64 ((nn : Nat) : Int)) from HM6.out) (.cells #[.int .i64 x.t, .int .u64 ((x.v : Nat) : Int)] 70)) (by decide) (HOW.out.alloc _)); have HM7 := Lib.hid hm7; clear hm7; have cc7 := hbx7.cell; have ff7 := hbx7.frozen; have HS7 := Lib.hid hS7; clear hown7 hgr7 hpl7 hS7 hbx7)
      exact ⟨HS7.out.2, ⟨HS7.out.1, (Below.heap_setCell _ _ _ (m + 1) (by show m + 1 ≠ m + 1 + 1; omega)).trans HM7.out⟩, by rw [List.length_append, ← HLN.out]; show m6 + 1 ≤ nn; omega⟩
  case done =>
    rintro D T xs W hD hDT rfl ⟨⟨hI, _⟩, hln⟩ hK
    have htk := List.take_of_length_le hln
    obtain ⟨v6, hv6, ho6, hT6⟩ := hI.v
    obtain ⟨a6, c6, rfl, _⟩ := ho6.shape
    have hc6 := hv6.cell
    gi_wp2
    refine ⟨by simp, .inl ⟨_, _, rfl, run_takeDeferred hK, ?_⟩⟩
    have hDb : Only [D] W (W.putObj D (.deferred none)) := Only.put W D _
    have hl := hI.lt
    have ho7 : OwnS W m (.slice a6 xs.length c6) xs := ho6
    have hT7 : ∀ g, (Value.slice a6 xs.length c6).ownBlock = some g → g ∉ T := hT6
    rw [hm]
    refine ⟨_, results_tmp rfl _ _ _, .slice a6 xs.length c6, rfl, (by rw [htk]; exact owns_only ho7 hDb (fun g hg hmm => by simp only [List.mem_cons, List.not_mem_nil, or_false] at hmm; exact hT7 g hg (hmm ▸ hDT))), hI.b.trans (hDb.below (by omega) (fun x hx => by have := HQ.out.2.2.2; simp at hx; omega))⟩
  case stop =>
    rintro D c T pre W hD hDT hSp ⟨rfl, pre0, x, rfl, hl0, hI⟩ hK
    obtain ⟨v6, hv6, ho6, hT6⟩ := hI.v
    obtain ⟨a6, c6, rfl, _⟩ := ho6.shape
    have hc6 := hv6.cell
    have htk : gg.take nn = pre0 := by
      have h1 : pre0 <+: gg := (List.prefix_append pre0 [x]).trans hSp
      rw [← hl0, ← List.prefix_iff_eq_take.1 h1]
    gi_wp2
    refine ⟨by simp, .inl ⟨_, _, rfl, run_takeDeferred hK, ?_⟩⟩
    have hDb : Only [D] W (W.putObj D (.deferred none)) := Only.put W D _
    have hl := hI.lt
    have ho7 : OwnS W m (.slice a6 nn c6) pre0 := by rw [← hl0]; exact ho6
    have hT7 : ∀ g, (Value.slice a6 nn c6).ownBlock = some g → g ∉ T := by rw [← hl0]; exact hT6
    rw [hm]
    refine ⟨_, results_tmp rfl _ _ _, .slice a6 nn c6, rfl, (by rw [htk]; exact owns_only ho7 hDb (fun g hg hmm => by simp only [List.mem_cons, List.not_mem_nil, or_false] at hmm; exact hT7 g hg (hmm ▸ hDT))), hI.b.trans (hDb.below (by omega) (fun x hx => by have := HQ.out.2.2.2; simp at hx; omega))⟩
end Go.Proofs.YtdlifcpdlbmijaaDoor
namespace Go.Proofs.YtdlifcpdlbmijaaDoor
set_option linter.unusedVariables false
set_option linter.unusedSimpArgs false
open Go.RowKit Go.PlainAid Go.Shelf
open B2 (Only Bys Row cellsOf owns_only)
open Gm (St Smp Chk)
attribute [local go_sem] Oper.semAt_some
set_option maxRecDepth 100000 in
set_option maxHeartbeats 8000000 in
theorem all_none (f t N nn : Int) (hN : N ≤ 9223372036854775807) (a : Option Addr) (bs : List Nat) (cap : Nat) (hc0 : a = none → cap = 0) (hbd : bs.length ≤ 1000000) (hno : ¬ ∃ g, IsC g f t N bs) (w : World) (H : Bys w a bs) (hT : TabAt w) :
    Calls Tryd.prog 18 #[.agg (chR f t N (.slice a bs.length cap)), .int .i64 nn] w fun e w' => ∃ v', e = .returned v' ∧ OwnS w' w.heap.size v' [] ∧ Below w.heap.size w w' := by
  obtain ⟨m, hm⟩ : ∃ m, w.heap.size = m := ⟨_, rfl⟩
  have A1 := (Below.refl w.heap.size w).alloc (Nat.le_refl _) (.cells (chR f t N (.slice a bs.length cap)) 73)
  have r1 := heap_alloc_new w (.cells (chR f t N (.slice a bs.length cap)) 73)
  have z1 : (w.alloc (.cells (chR f t N (.slice a bs.length cap)) 73)).heap.size = m + 1 := by simp [hm]
  have A2 := A1.alloc (by rw [z1, hm]; omega) (.cells #[.int .i64 nn] 3)
  have r2 := heap_alloc_new (w.alloc (.cells (chR f t N (.slice a bs.length cap)) 73)) (.cells #[.int .i64 nn] 3)
  have z2 : ((w.alloc (.cells (chR f t N (.slice a bs.length cap)) 73)).alloc (.cells #[.int .i64 nn] 3)).heap.size = m + 2 := by simp [hm]
  have A3 := A2.alloc (by rw [z2, hm]; omega) (.cells #[.slice none 0 0] 22)
  have r3 := heap_alloc_new ((w.alloc (.cells (chR f t N (.slice a bs.length cap)) 73)).alloc (.cells #[.int .i64 nn] 3)) (.cells #[.slice none 0 0] 22)
  have z3 : (((w.alloc (.cells (chR f t N (.slice a bs.length cap)) 73)).alloc (.cells #[.int .i64 nn] 3)).alloc (.cells #[.slice none 0 0] 22)).heap.size = m + 3 := by simp [hm]
  rw [hm] at r1
  rw [z1] at r2
  rw [z2] at r3
  have r1 := (Below.heap_alloc _ (.cells #[.slice none 0 0] 22) m (by rw [z2]; omega)).trans ((Below.heap_alloc _ (.cells #[.int .i64 nn] 3) m (by rw [z1]; omega)).trans r1)
  have r2 := (Below.heap_alloc _ (.cells #[.slice none 0 0] 22) (m + 1) (by rw [z2]; omega)).trans r2
  obtain ⟨y0, y1, y2, y3⟩ := four73 r1
  have CA := Lib.hid (allof_none f t N hN a bs cap hc0 hbd hno _ (H.below A3) (hT.below A3 hT.lt))
  have HA := Lib.hid (And.intro A3 (And.intro r2 (And.intro r3 z3)))
  clear A1 A2 A3 r1 r2 r3 z1 z2 z3 H hT
  unfold chR at *
  refine (callsIn_wide (n := 8)).1 ?_
  refine callsIn_of_wp_marks Tryd.func18 rfl trivial ?_ rfl
  simp only [Tryd.ntmps18, List.size_toArray, List.length_cons, List.length_nil, Nat.reduceAdd, Nat.reduceSub, Array.replicate_succ, Array.replicate_zero, List.push_toArray, List.append_toArray, List.nil_append, List.cons_append]
  gi_wp2_with (refine ⟨trivial, ?_⟩; gi_at_call 66; refine (callsIn_wide.2 CA.out).mono ?_; rintro e W2 ⟨b, rfl, hb, hbl⟩)
  have hbl' := hbl
  rw [HA.out.2.2.2] at hbl
  have hq := hbl.size
  have hr1 := (hbl.block (m + 1) (by omega)).trans HA.out.2.1
  have hr2 := (hbl.block (m + 2) (by omega)).trans HA.out.2.2.1
  have hw2 : Below m w W2 := (hm ▸ HA.out.1).trans (hbl.mono (by omega))
  have HSQ := Lib.hid (read_stops 7 (by omega) b 0 0 none 0 0 [] (fun _ => rfl) (by decide) (by decide) W2 hb ⟨by decide, fun c hc => by simp at hc, fun h => absurd rfl h⟩)
  rw [show Gm.rdAll 0 (Gm.rd0 (B2.Bt.unpack [])) = [] from rfl] at HSQ
  obtain ⟨B, hBB⟩ : ∃ B, W2.heap.size = B := ⟨_, rfl⟩
  have hz2 : W2.heap.size = m + 3 → False ∨ True := fun _ => .inr trivial
  have HQ := Lib.hid (And.intro hr1 (And.intro hr2 (And.intro hw2 (And.intro hBB (show m + 3 ≤ B by rw [← hBB, ← HA.out.2.2.2]; have := hbl'.size; exact this)))))
  clear hbl hbl' hq hr1 hr2 hw2 hb hBB hz2 CA y0 y1 y2 y3
  unfold pt at *
  refine wpIn_rangeFunc_ownT rfl (by omega) (gf := 93) (lb := #[.pointer (some ⟨b, 0, none⟩)]) rfl trivial (enters_of Tryd.func93 (by kernel_rfl) rfl) HSQ.out (Below.refl _ _) (fun _ => rfl)
    (fun T pre W => ApI w m (m + 2) B [] T pre W ∧ W.heap[m + 1]? = some (.cells #[.int .i64 nn] 3 (0, 0))) (fun _ _ _ _ => False)
    (fun T pre A B' h ho => ⟨h.1.only ho, (ho.block (m + 1) (Array.getElem?_eq_some_iff.1 h.2).1 (fun hk => by have := h.1.t _ hk; have := h.1.lt; omega)).trans h.2⟩) (fun c T pre A B h ho => h) ?start ?round ?done ?stop
  case start =>
    intro T W hb hT
    have hb' := hb
    rw [HQ.out.2.2.2.1] at hT hb
    have hs2 := hb.size
    have hs3 := HQ.out.2.2.2.1
    have hs4 := HQ.out.2.2.2.2
    exact ⟨⟨fun k hk => hT k hk, ⟨.slice none 0 0, (hb.block (m + 2) (by omega)).trans HQ.out.2.1, by simpa [OwnS, smC] using World.ownsRow_nil W m 70 2, fun g hg => by cases hg⟩, ⟨by omega, by omega, by have := hb'.size; omega, by omega⟩, HQ.out.2.2.1.trans (hb'.mono (by omega))⟩, (hb.block (m + 1) (by omega)).trans HQ.out.1⟩
  case round =>
    intro l T pre x W hI hSp
    have h := hSp.length_le
    rw [List.length_append] at h
    simp at h
  case done =>
    rintro D T xs W hD hDT rfl ⟨hI, _⟩ hK
    obtain ⟨v6, hv6, ho6, hT6⟩ := hI.v
    obtain ⟨a6, c6, rfl, _⟩ := ho6.shape
    have hc6 := hv6.cell
    gi_wp2
    refine ⟨by simp, .inl ⟨_, _, rfl, run_takeDeferred hK, ?_⟩⟩
    have hDb : Only [D] W (W.putObj D (.deferred none)) := Only.put W D _
    have hl := hI.lt
    have ho7 : OwnS W m (.slice a6 ([] : List Smp).length c6) [] := ho6
    have hT7 : ∀ g, (Value.slice a6 ([] : List Smp).length c6).ownBlock = some g → g ∉ T := hT6
    rw [hm]
    refine ⟨_, results_tmp rfl _ _ _, .slice a6 ([] : List Smp).length c6, rfl, owns_only ho7 hDb (fun g hg => ?_), hI.b.trans (hDb.below (by omega) (fun x hx => by have := HQ.out.2.2.2; simp at hx; omega))⟩
    intro hmm
    simp only [List.mem_cons, List.not_mem_nil, or_false] at hmm
    exact hT7 g hg (hmm ▸ hDT)
  case stop =>
    rintro D c T pre W hD hDT hSp h hK
    exact h.elim
end Go.Proofs.YtdlifcpdlbmijaaDoor
namespace Go.Proofs.YtdlifcpdlbmijaaDoor
set_option linter.unusedVariables false
set_option linter.unusedSimpArgs false
open Go.RowKit Go.PlainAid Go.Shelf
open B2 (Only Bys Row cellsOf owns_only Lent)
open Gm (St Smp Chk)
/-- append into one's own row where there is room, at a step of a region that draws its order -/
theorem step_append_spare {P : Program} {w : World} {K : Act → World → Prop} {E : Prop} {ops : Array Oper} {o : Oper} {a : Act} {Q : Exit → Act → World → Prop} (hgd : o.guard = none) (s x : Operand) (t : TypeId)
    (ho : o.op = .call { callee := .builtin .append, args := #[s, x], argTypes := #[t, t] })
    (base : Nat) (e : TypeId) (i : TypeInfo) (size : Nat) (ht : P.underlying t = some (.slice e)) (hi : P.info? e = some i) (hsize : i.size = size)
    (g n cap : Nat) (xs : List Value) (hs : a.eval s = .slice (some ⟨g, 0, none⟩) n cap) (hown : w.ownsRow base e size (.slice (some ⟨g, 0, none⟩) n cap) n xs)
    (ad : Addr) (m c : Nat) (news : List Value) (hx : a.eval x = .slice (some ad) m c) (hl : news.length = m * size) (hnews : ∀ j u, news[j]? = some u → w.cell? (ad.add j) = some u) (h1 : ∀ u ∈ news, u.oneCell' = true)
    (hroom : n + m ≤ cap)
    (h : ∀ w', w'.ownsRow base e size (.slice (some ⟨g, 0, none⟩) (n + m) cap) (n + m) (xs ++ news) → w.grownBy w' (some g) → K (a.put o.dst (.slice (some ⟨g, 0, none⟩) (n + m) cap)) w') :
    if Region.wanted o (yielded ops a.tmps) = true then Oper.wp P o a w K Q else E := by
  have hw : Region.wanted o (yielded ops a.tmps) = true := by simp [Region.wanted, hgd]
  rw [if_pos hw]
  exact wp_append_own_spare w s x t ho base e i size ht hi hsize g n cap xs hs hown ad m c news hx hl hnews h1 hroom h
theorem info73c : (Tryd.prog.info? 73).map (fun i => (i.zero, i.size, i.bytes)) = some (some (.agg #[.int .i64 0, .int .i64 0, .int .i64 0, .slice none 0 0]), 4, 48) := by kernel_rfl
theorem lent_n (a : Option Addr) (bs : List Nat) (n cap : Nat) (w : World) (hn : bs.length = n) (H : Bys w a bs) (hc0 : a = none → cap = 0) (hsm : n ≤ 100000) :
    Calls Tryd.prog 63 #[.slice a n cap] w fun e w' => ∃ g, w.heap.size ≤ g ∧ e = .returned (.slice (some ⟨g, 0, none⟩) n (n + 2)) ∧ Lent w' g bs ∧ Below w.heap.size w w' := by
  subst hn; exact B2.lent_any a bs cap w H hc0 hsm
theorem four_cellsN (w : World) (C : Array Value) : ∀ j u, C.toList[j]? = some u → (w.alloc (.cells C 73)).cell? ((⟨w.heap.size, 0, none⟩ : Addr).add j) = some u := World.news_of_block (heap_alloc_new w _)
theorem row73_of_owns {w : World} {base g n : Nat} {xs : List Value} (h : w.ownsRow base 73 4 (.slice (some ⟨g, 0, none⟩) n n) n xs) : w.heap[g]? = some (.cells xs.toArray 73 (0, 0)) := by
  obtain ⟨hl, h2⟩ := h
  rcases h2 with ⟨h0, _⟩ | ⟨g', cap, cur, hv, _, hg, _, _, hcs, ht⟩
  · cases h0
  · cases hv
    rw [hg]
    have : cur.toList = xs := by rw [← ht, List.take_of_length_le (by simp; omega)]
    rw [← this]
/-- a chunk lent: the row's block, the bytes' block -/
structure LentC (w : World) (g g2 : Nat) (f t N : Int) (bs : List Nat) : Prop where
  row : w.heap[g]? = some (.cells #[.int .i64 f, .int .i64 t, .int .i64 N, .slice (some ⟨g2, 0, none⟩) bs.length (bs.length + 2), .int .i64 0, .int .i64 0, .int .i64 (-77), .slice none 0 0] 73 (0, 0))
  lent : Lent w g2 bs
theorem LentC.below {w w' : World} {g g2 : Nat} {f t N : Int} {bs : List Nat} (h : LentC w g g2 f t N bs) (hb : Below w.heap.size w w') : LentC w' g g2 f t N bs :=
  ⟨(hb.block g (Array.getElem?_eq_some_iff.1 h.row).1).trans h.row, h.lent.below hb⟩
set_option maxHeartbeats 8000000 in
set_option maxRecDepth 100000 in
theorem lentone_any (h cp : Nat) (f t N : Int) (a : Option Addr) (bs : List Nat) (cap : Nat) (hc0 : a = none → cap = 0) (hbd : bs.length ≤ 100000) (w : World) (hrow : w.heap[h]? = some (.cells (chR f t N (.slice a bs.length cap)) 73 (0, 0))) (H : Bys w a bs) :
    Calls Tryd.prog 16 #[.slice (some ⟨h, 0, none⟩) 1 cp] w fun e w' => ∃ g g2, e = .returned (.slice (some ⟨g, 0, none⟩) 1 2) ∧ LentC w' g g2 f t N bs ∧ w.heap.size ≤ g ∧ w.heap.size ≤ g2 ∧ Below w.heap.size w w' := by
  obtain ⟨i3, hi, hz0, hz1, hz2⟩ := info_parts info73c
  have HI := Lib.hid (And.intro hi (And.intro hz0 (And.intro hz1 hz2)))
  have HH := Lib.hid (And.intro hrow (And.intro H (And.intro hc0 hbd)))
  obtain ⟨y0, y1, y2, y3⟩ := four73 hrow
  obtain ⟨L, hL⟩ : ∃ L, bs.length = L := ⟨_, rfl⟩
  rw [hL] at y3
  have HL := Lib.hid hL
  have HLT := Lib.hid ((Array.getElem?_eq_some_iff.1 hrow).1)
  clear hrow H hc0 hbd hi hz0 hz1 hL
  go_enter Tryd.func16, Tryd.ntmps16
  go_wp2_with (at_make; refine wpList_make_own _ rfl _ _ 77 rfl w.heap.size 73 i3 (.agg #[.int .i64 0, .int .i64 0, .int .i64 0, .slice none 0 0]) 4 Tryd.underlying77 HI.out.1 HI.out.2.1 HI.out.2.2.1 .i64 .i64 _ 2 rfl rfl (by rfl) (by rw [hz2]; omega) (by unfold maxLen; omega) (Nat.le_refl _) ?_; intro w1 hown1 hgr1)
  have hb1 : Below w.heap.size w w1 := (Below.refl _ _).grown hgr1 (Nat.le_refl _) (fun k hk => by cases hk)
  have HR1 := Lib.hid (And.intro hown1 hb1)
  clear hown1 hgr1 hz2
  refine wp_loop_rounds 3 ?_
  rw [rounds_succ]
  have x0 := cell_below y0 hb1
  have x1 := cell_below y1 hb1
  have x2 := cell_below y2 hb1
  have x3 := cell_below y3 hb1
  have CL := Lib.hid (fun W (hW : Below w.heap.size w W) => lent_n a bs L cap W HL.out (HH.out.2.1.below hW) HH.out.2.2.1 (by rw [← HL.out]; exact HH.out.2.2.2))
  have HO := Lib.hid (fun W (hW : Below w1.heap.size w1 W) => (owns_only HR1.out.1 (Only.of_below hW []) (fun _ _ => by simp)))
  have HK := Lib.hid (fun W (hW : Below w.heap.size w W) => show (W.cell? ⟨h, 0, none⟩ = some (.int .i64 f) ∧ W.cell? ⟨h, 1, none⟩ = some (.int .i64 t) ∧ W.cell? ⟨h, 2, none⟩ = some (.int .i64 N) ∧ W.cell? ⟨h, 3, none⟩ = some (.slice a L cap)) from ⟨cell_below y0 hW, cell_below y1 hW, cell_below y2 hW, cell_below y3 hW⟩)
  have q : (w1.drew.cell? ⟨h, 0, none⟩ = some (.int .i64 f) ∧ w1.drew.cell? ⟨h, 1, none⟩ = some (.int .i64 t) ∧ w1.drew.cell? ⟨h, 2, none⟩ = some (.int .i64 N) ∧ w1.drew.cell? ⟨h, 3, none⟩ = some (.slice a L cap)) ∧ Below w.heap.size w w1.drew := by
    have hbd : Below w.heap.size w w1.drew := hb1.trans ((drew_below w1).mono hb1.size)
    exact ⟨HK.out _ hbd, hbd⟩
  have HD := Lib.hid (drew_below w1)
  clear y0 y1 y2 y3 hb1
  go_wp2_with fail
  go_region_held_law (fun w' => (w'.cell? ⟨h, 0, none⟩ = some (.int .i64 f) ∧ w'.cell? ⟨h, 1, none⟩ = some (.int .i64 t) ∧ w'.cell? ⟨h, 2, none⟩ = some (.int .i64 N) ∧ w'.cell? ⟨h, 3, none⟩ = some (.slice a L cap)) ∧ Below w.heap.size w w') ((first | exact q | exact HKA.out _ | assumption))
    ((first
      | (refine step_append_spare (by rfl) (.tmp 16) (.tmp 39) 77 (by rfl) w.heap.size 73 i3 4 Tryd.underlying77 HI.out.1 HI.out.2.2.1 w.heap.size 0 2 [] (by simp [Act.eval, Act.put]) ((HO.out _ HB9.out).alloc _) ⟨w9.heap.size, 0, none⟩ 1 1 [.int .i64 f, .int .i64 t, .int .i64 N, .slice (some ⟨g2, 0, none⟩) L (L + 2)] (by simp [Act.eval, Act.put]) (by rfl) HSRC.out HONE.out (by decide) ?_; intro w10 hown10 hgr10; have hb10 := (HL2.out.2.2.alloc HL2.out.2.2.size _).grown hgr10 (by have := HL2.out.2.2.size; simp; omega) (fun k hk => by injection hk with hk; omega); have q10 := And.intro (HK.out w10 hb10) hb10; have HR10 := Lib.hid (And.intro hown10 (And.intro hgr10 hb10)); clear hown10 hgr10 hb10)
      | (go_at_call 63; refine (CL.out _ q.2).mono ?_; rintro e w9 ⟨g2, hg2, rfl, hl2, hb9⟩; have HB9 := Lib.hid (HD.out.trans (hb9.mono HD.out.size)); have hbw := q.2.trans (hb9.mono q.2.size); have q9 := And.intro (HK.out w9 hbw) hbw; have HKA := Lib.hid (fun o => show ((w9.alloc o).cell? ⟨h, 0, none⟩ = some (.int .i64 f) ∧ (w9.alloc o).cell? ⟨h, 1, none⟩ = some (.int .i64 t) ∧ (w9.alloc o).cell? ⟨h, 2, none⟩ = some (.int .i64 N) ∧ (w9.alloc o).cell? ⟨h, 3, none⟩ = some (.slice a L cap)) ∧ Below w.heap.size w (w9.alloc o) from ⟨HK.out _ (hbw.alloc hbw.size o), hbw.alloc hbw.size o⟩); have HL2 := Lib.hid (And.intro hg2 (And.intro hl2 hbw)); have HSRC := Lib.hid (four_cellsN w9 #[.int .i64 f, .int .i64 t, .int .i64 N, .slice (some ⟨g2, 0, none⟩) L (L + 2)]); have HONE := Lib.hid (show ∀ u ∈ ([.int .i64 f, .int .i64 t, .int .i64 N, .slice (some ⟨g2, 0, none⟩) L (L + 2)] : List Value), u.oneCell' = true by simp [Value.oneCell']); clear hg2 hl2 hb9 hbw)))
  have HOW := Lib.hid (show w10.ownsRow w.heap.size 73 4 (.slice (some ⟨w.heap.size, 0, none⟩) 1 2) 1 [.int .i64 f, .int .i64 t, .int .i64 N, .slice (some ⟨g2, 0, none⟩) L (L + 2)] from HR10.out.1)
  have HLT10 := Lib.hid (show Lent w10 g2 bs ∧ w.heap.size < g2 from by
    have h1 := HL2.out
    have hw1 : w.heap.size < w1.heap.size := (HR1.out.1.lt _ rfl).2
    have hlt := (Array.getElem?_eq_some_iff.1 h1.2.1).1
    have hA := h1.2.1.below ((Below.refl w9.heap.size w9).alloc (Nat.le_refl _) (.cells #[.int .i64 f, .int .i64 t, .int .i64 N, .slice (some ⟨g2, 0, none⟩) L (L + 2)] 73))
    have hne : g2 ≠ w.heap.size := by have h3 : w1.heap.size ≤ g2 := h1.1; omega
    exact ⟨(HR10.out.2.1.block g2 (Array.getElem?_eq_some_iff.1 hA).1 (fun hk => by injection hk with hk; omega)).trans hA, by have h3 : w1.heap.size ≤ g2 := h1.1; omega⟩)
  have HSRC2 := Lib.hid (four_cellsN w10 #[.int .i64 0, .int .i64 0, .int .i64 (-77), .slice none 0 0])
  have HONE2 := Lib.hid (show ∀ u ∈ ([.int .i64 0, .int .i64 0, .int .i64 (-77), .slice none 0 0] : List Value), u.oneCell' = true by simp [Value.oneCell'])
  go_wp2_with fail
  rw [rounds_succ]
  go_wp2_with (at_builtin; refine wpList_append_own_spare _ rfl (.tmp 41) (.tmp 43) 77 rfl w.heap.size 73 i3 4 Tryd.underlying77 HI.out.1 HI.out.2.2.1 w.heap.size 1 2 [.int .i64 f, .int .i64 t, .int .i64 N, .slice (some ⟨g2, 0, none⟩) L (L + 2)] rfl (HOW.out.alloc _) ⟨w10.heap.size, 0, none⟩ 1 1 [.int .i64 0, .int .i64 0, .int .i64 (-77), .slice none 0 0] rfl rfl HSRC2.out HONE2.out (by decide) ?_; intro w11 hown11 hgr11; have HR11 := Lib.hid (And.intro hown11 hgr11); clear hown11 hgr11)
  go_ret
  have hA := (Below.refl w10.heap.size w10).alloc (Nat.le_refl _) (.cells #[.int .i64 0, .int .i64 0, .int .i64 (-77), .slice none 0 0] 73)
  have hl := HLT10.out.1.below hA
  refine ⟨w.heap.size, g2, rfl, ⟨?_, (HR11.out.2.block g2 (Array.getElem?_eq_some_iff.1 hl).1 (fun hk => by injection hk with hk; have := HLT10.out.2; omega)).trans hl⟩, Nat.le_refl _, by have := HLT10.out.2; omega, ((HR10.out.2.2.trans (hA.mono HR10.out.2.2.size)).grown HR11.out.2 (by have := HR10.out.2.2.size; simp; omega) (fun k hk => by injection hk with hk; omega))⟩
  rw [HL.out]
  exact row73_of_owns HR11.out.1
end Go.Proofs.YtdlifcpdlbmijaaDoor
namespace Go.Proofs.YtdlifcpdlbmijaaDoor
set_option linter.unusedVariables false
set_option linter.unusedSimpArgs false
open Go.RowKit Go.PlainAid Go.Shelf
open B2 (Only Bys Row cellsOf owns_only Lent)
open Gm (St Smp Chk)
theorem whole_n (g : Nat) (a : Option Addr) (bs : List Nat) (n cap : Nat) (w : World) (hn : bs.length = n) (L : Lent w g bs) (H : Bys w a bs) (hsm : n ≤ 100000) :
    Calls Tryd.prog 67 #[.slice (some ⟨g, 0, none⟩) n (n + 2), .slice a n cap] w fun e w' => e = .returned (.bool true) ∧ Below w.heap.size w w' := by
  subst hn; exact B2.whole_any g a bs cap w L H hsm
theorem LentC.cells {w : World} {g g2 : Nat} {f t N : Int} {bs : List Nat} (h : LentC w g g2 f t N bs) : w.cell? ⟨g, 0, none⟩ = some (.int .i64 f) ∧ w.cell? ⟨g, 1, none⟩ = some (.int .i64 t) ∧ w.cell? ⟨g, 2, none⟩ = some (.int .i64 N) ∧ w.cell? ⟨g, 3, none⟩ = some (.slice (some ⟨g2, 0, none⟩) bs.length (bs.length + 2)) ∧ w.cell? ⟨g, 6, none⟩ = some (.int .i64 (-77)) :=
  ⟨(cell_of_row _ _ 0 _ _ _ h.row).trans rfl, (cell_of_row _ _ 1 _ _ _ h.row).trans rfl, (cell_of_row _ _ 2 _ _ _ h.row).trans rfl, (cell_of_row _ _ 3 _ _ _ h.row).trans rfl, (cell_of_row _ _ 6 _ _ _ h.row).trans rfl⟩
set_option maxHeartbeats 8000000 in
set_option maxRecDepth 100000 in
theorem wholeone_any (g g2 h cp : Nat) (f t N : Int) (a : Option Addr) (bs : List Nat) (cap : Nat) (hbd : bs.length ≤ 100000) (w : World) (HC : LentC w g g2 f t N bs) (hrow : w.heap[h]? = some (.cells (chR f t N (.slice a bs.length cap)) 73 (0, 0))) (H : Bys w a bs) :
    Calls Tryd.prog 19 #[.slice (some ⟨g, 0, none⟩) 1 2, .slice (some ⟨h, 0, none⟩) 1 cp] w fun e w' => e = .returned (.bool true) ∧ Below w.heap.size w w' := by
  obtain ⟨y0, y1, y2, y3⟩ := four73 hrow
  obtain ⟨z0, z1, z2, z3, z6⟩ := HC.cells
  have HH := Lib.hid (And.intro HC (And.intro H hbd))
  obtain ⟨L, hL⟩ : ∃ L, bs.length = L := ⟨_, rfl⟩
  rw [hL] at y3 z3
  have HL := Lib.hid hL
  have hff : (f != f) = false := by simp
  have htt : (t != t) = false := by simp
  have hNN : (N != N) = false := by simp
  clear hrow HC H hbd hL
  have HK := Lib.hid (fun W (hW : Below w.heap.size w W) => show ((W.cell? ⟨h, 0, none⟩ = some (.int .i64 f) ∧ W.cell? ⟨h, 1, none⟩ = some (.int .i64 t) ∧ W.cell? ⟨h, 2, none⟩ = some (.int .i64 N) ∧ W.cell? ⟨h, 3, none⟩ = some (.slice a L cap)) ∧ (W.cell? ⟨g, 0, none⟩ = some (.int .i64 f) ∧ W.cell? ⟨g, 1, none⟩ = some (.int .i64 t) ∧ W.cell? ⟨g, 2, none⟩ = some (.int .i64 N) ∧ W.cell? ⟨g, 3, none⟩ = some (.slice (some ⟨g2, 0, none⟩) L (L + 2)))) ∧ Below w.heap.size w W from ⟨⟨⟨cell_below y0 hW, cell_below y1 hW, cell_below y2 hW, cell_below y3 hW⟩, ⟨cell_below z0 hW, cell_below z1 hW, cell_below z2 hW, cell_below z3 hW⟩⟩, hW⟩)
  have CW := Lib.hid (fun W (hW : Below w.heap.size w W) => whole_n g2 a bs L cap W HL.out (HH.out.1.lent.below hW) (HH.out.2.1.below hW) (by rw [← HL.out]; exact HH.out.2.2))
  go_enter Tryd.func19, Tryd.ntmps19
  go_wp2_with fail
  refine wp_loop_rounds 3 ?_
  rw [rounds_succ]
  have q := HK.out w.drew (drew_below w)
  clear z6
  go_wp2_with fail
  go_region_held3 (fun W => ((W.cell? ⟨h, 0, none⟩ = some (.int .i64 f) ∧ W.cell? ⟨h, 1, none⟩ = some (.int .i64 t) ∧ W.cell? ⟨h, 2, none⟩ = some (.int .i64 N) ∧ W.cell? ⟨h, 3, none⟩ = some (.slice a L cap)) ∧ (W.cell? ⟨g, 0, none⟩ = some (.int .i64 f) ∧ W.cell? ⟨g, 1, none⟩ = some (.int .i64 t) ∧ W.cell? ⟨g, 2, none⟩ = some (.int .i64 N) ∧ W.cell? ⟨g, 3, none⟩ = some (.slice (some ⟨g2, 0, none⟩) L (L + 2)))) ∧ Below w.heap.size w W) ((first | exact q | assumption))
    ((go_at_call 67; refine (CW.out _ q.2).mono ?_; rintro e w9 ⟨rfl, hb9⟩; have HB9 := Lib.hid (q.2.trans (hb9.mono q.2.size)); have q9 := HK.out w9 HB9.out; clear hb9))
  clear q q9
  go_wp2_with fail
  rw [rounds_succ]
  go_wp2_with fail
  go_ret
  exact ⟨rfl, HB9.out⟩
end Go.Proofs.YtdlifcpdlbmijaaDoor
namespace Go.Proofs.YtdlifcpdlbmijaaDoor
open Go.RowKit
abbrev laid1 : List (String × DataW Unit) := Rows.gorillaMakesRow.laid
def great1 : List String := []
noncomputable def startWorld (os : Os) : World := (World.doorLaid Tryd.prog 26 os).layVars Tryd.prog ((laid1.filter fun x => x.2.handleName?.isNone).filter fun x => great1.contains x.1)
theorem startWorld_os (os : Os) : (startWorld os).os = os := World.layVars_os _ _ _
set_option maxRecDepth 100000
noncomputable def apartBlocks (os : Os) : List Nat := (List.range (World.doorLaid Tryd.prog 26 os).heap.size).filter fun b => !(([] : List Nat).contains b)
theorem start_fits (os : Os) : (World.doorLaid Tryd.prog 26 os).layFits Tryd.prog ((laid1.filter fun x => x.2.handleName?.isNone).filter fun x => great1.contains x.1) (apartBlocks os) = true := by kernel_rfl
theorem start_ifaces (os : Os) : (World.doorLaid Tryd.prog 26 os).layIfaces Tryd.prog ((laid1.filter fun x => x.2.handleName?.isNone).filter fun x => great1.contains x.1) (startWorld os) = true := by kernel_rfl
theorem start_others (os : Os) : LaidIn Tryd.prog (startWorld os) ((laid1.filter fun x => x.2.handleName?.isNone).filter fun x => !great1.contains x.1) (apartBlocks os) :=
  LaidIn.of_run (apartBlocks os) 8 (by kernel_rfl) (by kernel_rfl) (by kernel_rfl) (by kernel_rfl)
theorem start_met (os : Os) : laidMetH Tryd.prog laid1 (startWorld os) :=
  laidMetH_of_parts3 (fuel := 8) (laidMet_layVars (w0 := World.doorLaid Tryd.prog 26 os) great1 (apartBlocks os) rfl (start_fits os) (start_ifaces os) (start_others os)) (by kernel_rfl) (by kernel_rfl)
theorem door_met (os : Os) (args : Array Value) : laidMetH Tryd.prog laid1 ((startWorld os).forCall (fun _ _ => 0) ⟨#[], args, []⟩).memory :=
  laidMetH.of_heap (by simp [World.memory, World.forCall, Input.heap]) (start_met os)
#print axioms door_met
end Go.Proofs.YtdlifcpdlbmijaaDoor
namespace Go.Proofs.YtdlifcpdlbmijaaDoor
open Go.RowKit
set_option maxRecDepth 100000
theorem start_shaped (os : Os) (args : Array Value) : ((startWorld os).forCall (fun _ _ => 0) ⟨#[], args, []⟩).Shaped Tryd.prog := World.shaped_of_ZipB (by kernel_rfl) (by kernel_rfl)
end Go.Proofs.YtdlifcpdlbmijaaDoor
namespace Go.Proofs.YtdlifcpdlbmijaaDoor
set_option linter.unusedVariables false
set_option linter.unusedSimpArgs false
open Go.RowKit Go.ChangeShapes Go.WideShapes Go.ChangeAt Go.WideMaps Go.WideElems
theorem one_laid {W : World} (h : laidMetH Tryd.prog laid1 W) (n : String) (d : DataW Unit) (he : laid1.filter (fun x => x.1 == n) = [(n, d)]) (hp : ([(n, d)].all fun x => x.2.handleName?.isNone) = true) : laidMet Tryd.prog [(n, d)] W := by
  have h1 := h.filter (fun x => x.1 == n)
  rw [he, MakeChecks.laidMetH_plain _ _ _ hp] at h1
  exact h1
set_option maxRecDepth 100000 in
theorem laid_tab {W : World} (h : laidMetH Tryd.prog laid1 W) : TabAt W := by
  obtain ⟨ps, ⟨g', t', cs, fuel, p, q, hg', ht', hv, hd, _, _⟩, _⟩ := one_laid h "math/bits.deBruijn64tab" Rows.laid_math_bits_deBruijn64tab (by kernel_rfl) (by kernel_rfl)
  have hg : Tryd.prog.globalNamed "math/bits.deBruijn64tab" = some 1 := by kernel_rfl
  obtain rfl := Option.some.inj (hg.symm.trans hg')
  obtain rfl := Option.some.inj ((show (Tryd.prog.globals[1]?).map (·.type) = some 264 by kernel_rfl).symm.trans ht')
  have e := Lib.cells_of_tab (t := 264) (e := 5) (n := 64) (k := .u8) (zs := Lib.deBruijn64tab.map fun (x : Nat) => (x : Int)) (by kernel_rfl) (by kernel_rfl) (by kernel_rfl) (by kernel_rfl) (show DataW.trod (fun _ => ()) Tryd.prog W 0 (fun _ => true) false fuel 264 cs.toList = some (Lib.tabData .u8 (Lib.deBruijn64tab.map fun (x : Nat) => (x : Int)), p) from hd)
  intro j hj
  rw [World.var?_cell hg hv j, ← Array.getElem?_toList, e]
  simp [List.getElem?_map, List.getD, List.getElem?_eq_getElem hj]
def rowD (zs : List Int) : DataW Unit := .slice (zs.map fun z => .lit (.int .i64 z)) []
theorem one3 : Tryd.prog.cellsOf 2 = 1 := by kernel_rfl
theorem one173 : Tryd.prog.cellsOf 173 = 1 := by kernel_rfl
theorem add_nought (a : Addr) : a.add 0 = a := by
  obtain ⟨b, o, s⟩ := a
  cases s <;> simp [Addr.add]
theorem addr_spot {w : World} {a : Addr} {v : Value} (h : w.cell? a = some v) : ∃ b o, a = ⟨b, o, none⟩ := by
  obtain ⟨b, o, s⟩ := a
  have : s = none := by simpa using World.cell?_spot h
  exact ⟨b, o, by rw [this]⟩
theorem add_plain (b o j : Nat) : (⟨b, o, none⟩ : Addr).add j = ⟨b, o + j, none⟩ := by unfold Addr.add; split <;> simp_all
/-- a row of five numbers -/
theorem row_of {W : World} {spare : Nat → Bool} {fuel : Nat} {cs : List Value} {zs : List Int} {p : List MemPlace} (hz : zs.length = 5) (h : DataW.trod (fun _ => ()) Tryd.prog W 0 spare false fuel 173 cs = some (rowD zs, p)) :
    ∃ b o c, cs = [.slice (some ⟨b, o, none⟩) 5 c] ∧ ∀ j (hj : j < zs.length), W.cell? ⟨b, o + j, none⟩ = some (.int .i64 zs[j]) := by
  rcases DataW.trod_slice Tryd.underlying173 h with ⟨_, hx⟩ | ⟨a, len, cap, elems, rest, n, _, hcs, hx, _, _, _, hel, hat, _, _⟩
  · simp [rowD] at hx
  · have hx1 := congrArg Prod.fst hx
    simp only [rowD, DataW.slice.injEq] at hx1
    have hlen : len = 5 := by
      have := congrArg List.length hx1.1
      simp at this
      omega
    subst hlen
    have key : ∀ j (hj : j < zs.length), W.cell? (a.add j) = some (.int .i64 zs[j]) := by
      intro j hj
      have h1 := hat j (by omega)
      rw [one3, Nat.mul_one] at h1
      have hje : j < elems.length := by omega
      rw [List.getElem?_eq_getElem hje] at h1
      obtain ⟨cs', hc, ht⟩ := Option.bind_eq_some_iff.1 h1
      obtain ⟨z, rfl, hz2, _⟩ := DataW.trod_int Tryd.underlying2 ht
      obtain ⟨_, _, hcell⟩ := World.cells?_some hc
      have h2 := hcell 0 (by decide)
      rw [add_nought] at h2
      have h3 : (elems.map (·.1))[j]? = some (.lit (.int .i64 z)) := by rw [List.getElem?_map, List.getElem?_eq_getElem hje, hz2]; rfl
      rw [← hx1.1, List.getElem?_map, List.getElem?_eq_getElem hj] at h3
      simp only [Option.map_some, Option.some.injEq, DataW.lit.injEq, Lit.int.injEq, true_and] at h3
      rw [h2, h3]
      rfl
    obtain ⟨b, o, rfl⟩ : ∃ b o, a = ⟨b, o, none⟩ := by
      have h0 := key 0 (by omega)
      rw [add_nought] at h0
      exact addr_spot h0
    exact ⟨b, o, cap, hcs, fun j hj => by have := key j hj; rwa [add_plain] at this⟩
set_option maxRecDepth 100000 in
theorem laid_rows {W : World} (h : laidMetH Tryd.prog laid1 W) : ∃ q p0 p1 p2 c c0 c1 c2 o9 oa oc od, TabB W q p0 p1 p2 c c0 c1 c2 o9 oa oc od := by
  obtain ⟨ps, ⟨g', t', cs, fuel, p, q, hg', ht', hv, hd, _, _⟩, _⟩ := one_laid h "barograph/barographref10.buckets" Rows.laid_barograph_barographref10_buckets (by kernel_rfl) (by kernel_rfl)
  have hg : Tryd.prog.globalNamed "barograph/barographref10.buckets" = some 0 := by kernel_rfl
  obtain rfl := Option.some.inj (hg.symm.trans hg')
  obtain rfl := Option.some.inj ((show (Tryd.prog.globals[0]?).map (·.type) = some 33 by kernel_rfl).symm.trans ht')
  have hd' : DataW.trod (fun _ => ()) Tryd.prog W 0 (fun _ => true) false fuel 33 cs.toList = some (.slice [rowD [2, 2, -63, 64, 7], rowD [6, 3, -255, 256, 9], rowD [14, 4, -2047, 2048, 12]] [], p) := hd
  rcases DataW.trod_slice Tryd.underlying33 hd' with ⟨_, hx⟩ | ⟨a, len, cap, elems, rest, n, _, hcs, hx, _, _, _, hel, hat, _, _⟩
  · simp at hx
  · have hx1 := congrArg Prod.fst hx
    simp only [DataW.slice.injEq] at hx1
    have hlen : len = 3 := by
      have := congrArg List.length hx1.1
      simp at this
      omega
    subst hlen
    have hrow : ∀ j (hj : j < 3) (zs : List Int), ([rowD [2, 2, -63, 64, 7], rowD [6, 3, -255, 256, 9], rowD [14, 4, -2047, 2048, 12]] : List (DataW Unit))[j]? = some (rowD zs) → zs.length = 5 → ∃ b o c, W.cell? (a.add j) = some (.slice (some ⟨b, o, none⟩) 5 c) ∧ ∀ i (hi : i < zs.length), W.cell? ⟨b, o + i, none⟩ = some (.int .i64 zs[i]) := by
      intro j hj zs hz hl
      have h1 := hat j hj
      rw [one173, Nat.mul_one] at h1
      have hje : j < elems.length := by omega
      rw [List.getElem?_eq_getElem hje] at h1
      obtain ⟨cs', hc, ht⟩ := Option.bind_eq_some_iff.1 h1
      have h3 : (elems.map (·.1))[j]? = some (rowD zs) := by rw [← hx1.1]; exact hz
      rw [List.getElem?_map, List.getElem?_eq_getElem hje] at h3
      simp only [Option.map_some, Option.some.injEq] at h3
      obtain ⟨b, o, c, rfl, hcell⟩ := row_of (p := elems[j].2) hl (by rw [ht, ← h3])
      obtain ⟨_, _, hcell2⟩ := World.cells?_some hc
      have h2 := hcell2 0 (by decide)
      rw [add_nought] at h2
      exact ⟨b, o, c, h2, hcell⟩
    obtain ⟨b0, oa, c0, k0, r0⟩ := hrow 0 (by decide) _ rfl rfl
    obtain ⟨b1, oc, c1, k1, r1⟩ := hrow 1 (by decide) _ rfl rfl
    obtain ⟨b2, od, c2, k2, r2⟩ := hrow 2 (by decide) _ rfl rfl
    obtain ⟨qb, o9, rfl⟩ : ∃ b o, a = ⟨b, o, none⟩ := by
      rw [add_nought] at k0
      exact addr_spot k0
    rw [add_plain] at k0 k1 k2
    have hgc : W.cell? ⟨0, 0, none⟩ = some (.slice (some ⟨qb, o9, none⟩) 3 cap) := by
      rw [World.var?_cell hg hv 0, ← Array.getElem?_toList, hcs]
      rfl
    exact ⟨qb, b0, b1, b2, cap, c0, c1, c2, o9, oa, oc, od, hgc, ⟨k0, k1, k2⟩, ⟨r0 0 (by decide), r0 1 (by decide), r0 2 (by decide), r0 3 (by decide), r0 4 (by decide)⟩, ⟨r1 0 (by decide), r1 1 (by decide), r1 2 (by decide), r1 3 (by decide), r1 4 (by decide)⟩, ⟨r2 0 (by decide), r2 1 (by decide), r2 2 (by decide), r2 3 (by decide), r2 4 (by decide)⟩⟩
end Go.Proofs.YtdlifcpdlbmijaaDoor
