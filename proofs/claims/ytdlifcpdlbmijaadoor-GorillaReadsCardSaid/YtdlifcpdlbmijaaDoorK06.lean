/-
  PACKED: GoF, GoC, GoG, GrI, GrJ, GrK, GrL, GwN
-/
import Derived.Test.YtdlifcpdlbmijaaDoorK05
import Derived.RangeFuncNested
import Derived.RangeFuncBound
import Derived.RangeFuncCalls
import Derived.RangeFuncLeaves
import Derived.RangeFuncBox
import Derived.RangeFuncFrom
import Derived.Shelf.Abstract
import Derived.Shelf.RegionOpen
import Derived.OwnWalkIn
import Derived.TacticsInMore
import Derived.LoopNIn
import Derived.LoopIn
import Derived.Maps.AppendAt
import Derived.Deep.RegionHeld3
import Derived.BigQuiet
import Derived.RangeFuncWrites
import Derived.Laws.BytesArg
set_option linter.unusedVariables false
set_option linter.unusedSimpArgs false
namespace Go.Proofs.YtdlifcpdlbmijaaDoor
set_option linter.unusedVariables false
set_option linter.unusedSimpArgs false
open Go.RowKit Go.PlainAid Go.Shelf
open B2 (Only Bys Row cellsOf)
open Gm (St Smp Chk)
attribute [local go_sem] Oper.semAt_some
/-- a part's number -/
abbrev Idx (n : Nat) := { j : Nat // 120 * j < n }
def allP (n : Nat) : List (Idx n) := (List.range (Gm.cnt n)).attach.map fun x => ⟨x.1, by have := List.mem_range.1 x.2; unfold Gm.cnt at this; omega⟩
theorem allP_len (n : Nat) : (allP n).length = Gm.cnt n := by simp [allP]
theorem allP_get (n k : Nat) (h : k < (allP n).length) : (allP n)[k].1 = k := by simp [allP]
/-- two blocks are kept -/
def KpS (Bs Bn : Nat) (W W' : World) : Prop := W'.heap[Bs]? = W.heap[Bs]? ∧ W'.heap[Bn]? = W.heap[Bn]?
theorem KpS.refl (Bs Bn : Nat) (W : World) : KpS Bs Bn W W := ⟨rfl, rfl⟩
theorem KpS.trans {Bs Bn : Nat} {A B C : World} (h : KpS Bs Bn A B) (k : KpS Bs Bn B C) : KpS Bs Bn A C := ⟨k.1.trans h.1, k.2.trans h.2⟩
theorem KpS.first {Bs Bn : Nat} {A B : World} (h : KpS Bs Bn A B) : B.cell? ⟨Bs, 0, none⟩ = A.cell? ⟨Bs, 0, none⟩ := World.cell?_of_block h.1
theorem KpS.second {Bs Bn : Nat} {A B : World} (h : KpS Bs Bn A B) : B.cell? ⟨Bn, 0, none⟩ = A.cell? ⟨Bn, 0, none⟩ := World.cell?_of_block h.2
theorem KpS.put {Bs Bn : Nat} (W : World) (l : Nat) (o' : Obj) (h1 : Bs < l) (h2 : Bn < l) : KpS Bs Bn W (W.putObj l o') := ⟨World.putObj_heap_other (by omega), World.putObj_heap_other (by omega)⟩
theorem KpS.below {Bs Bn N : Nat} {A B : World} (h : Below N A B) (h1 : Bs < N) (h2 : Bn < N) : KpS Bs Bn A B := ⟨h.block Bs h1, h.block Bn h2⟩
/-- the part that begins at i -/
def partV (b off n i : Nat) : Value := .slice (some ⟨b, off + i * 2, none⟩) (min 120 (n - i)) (min 120 (n - i))
set_option maxRecDepth 100000 in
set_option maxHeartbeats 2000000 in
theorem parts1_in (F : Fence) (m : Nat) (h7 : F.fn 100) (hro : F.round = none) (hm1 : 1 ≤ m) (l Bs Bn cap b off n : Nat) (a : Option Addr) (ha : 0 < n → a = some ⟨b, off, none⟩) (hc0 : n ≤ cap) (hz : n ≤ 1000000000) (J Jx : List (Idx n) → World → Prop)
    (hY : ∀ pre x W, J pre W → pre.length < (allP n).length → YieldAt F (m - 1) Tryd.prog l #[partV b off n (120 * x.1)] W fun e W' =>
      (e = .returned (.bool true) ∧ J (pre ++ [x]) W' ∧ KpS Bs Bn W W') ∨ (e = .returned (.bool false) ∧ Jx (pre ++ [x]) W'))
    (W : World) (hJ : AbidesFrom W.heap.size J) (hBs : W.cell? ⟨Bs, 0, none⟩ = some (.slice a n cap)) (hBn : W.cell? ⟨Bn, 0, none⟩ = some (.int .i64 120)) (h0 : J [] W) :
    CallsIn F m Tryd.prog 100 #[.func (.yield l) #[] #[], .pointer (some ⟨Bs, 0, none⟩), .pointer (some ⟨Bn, 0, none⟩)] W fun e W' => (∃ v, e = .returned v) ∧
      ((∃ ys, ys = allP n ∧ J ys W') ∨ (∃ pre, pre <+: allP n ∧ Jx pre W')) := by
  have HJ := Lib.hid hJ
  have HY := Lib.hid hY
  have HC := Lib.hid (And.intro hBs hBn)
  clear hJ hY
  refine callsIn_of_wp Tryd.func100 rfl h7 ?_ hro
  simp only [Tryd.ntmps100, List.size_toArray, List.length_cons, List.length_nil, Nat.reduceAdd, Nat.reduceSub, Array.replicate_succ, Array.replicate_zero, List.push_toArray, List.append_toArray, List.nil_append, List.cons_append]
  gi_wp2
  gi_loopw [4, 5] (fun i e wr => ∃ k : Nat, k ≤ Gm.cnt n ∧ i = .int .i64 ((120 * k : Nat) : Int) ∧ Hid (J ((allP n).take k) wr) ∧ Hid (KpS Bs Bn W wr))
    (fun i _ _ => n + 120 - (intOf i).toNat)
  case atStart => exact ⟨0, Nat.zero_le _, rfl, Lib.hid h0, Lib.hid (KpS.refl _ _ _)⟩
  case round =>
    obtain ⟨k, hk, rfl, hJs, hnx⟩ := hrel
    have q1 := hnx.out.first.trans HC.out.1
    have q2 := hnx.out.second.trans HC.out.2
    obtain ⟨i0, hi0⟩ : ∃ i0, 120 * k = i0 := ⟨_, rfl⟩
    rw [hi0]
    by_cases hlt : i0 < n
    · have ha2 := ha (by omega)
      subst ha2
      have da : decide ((i0 : Int) < (n : Int)) = true := decide_eq_true (by omega)
      have da2 : decide (i0 < n) = true := decide_eq_true hlt
      obtain ⟨r, hr⟩ : ∃ r, n - i0 = r := ⟨_, rfl⟩
      obtain ⟨s, hs⟩ : ∃ s, min 120 r = s := ⟨_, rfl⟩
      have hmin : (if (120 : Int) < (r : Int) then (120 : Int) else (r : Int)) = (s : Int) := by rw [← hs]; split <;> omega
      have hs120 : s ≤ 120 := by omega
      have hsr : i0 + s ≤ n := by omega
      have hs0 : 0 < s := by omega
      have hkl : k < (allP n).length := by rw [allP_len]; unfold Gm.cnt; omega
      obtain ⟨x, hx⟩ : ∃ x, (allP n)[k] = x := ⟨_, rfl⟩
      have hxk : x.1 = k := by rw [← hx]; exact allP_get n k hkl
      obtain ⟨fn, tmps, assign, body, hy, hR⟩ := HY.out _ x wr.drew (HJ.out _ _ _ none hJs.out ⟨rfl, rfl, rfl, Nat.le_refl _, fun _ _ _ => rfl⟩ (fun r e => by cases e)) (by rw [List.length_take]; omega)
      have HT := Lib.hid (show (allP n).take k ++ [x] = (allP n).take (k + 1) by rw [← hx, List.take_succ_eq_append_getElem hkl])
      unfold partV at hy
      rw [hxk, hi0, hr, hs] at hy
      have HR := Lib.hid hR
      clear hx hR hxk
      have q1d : wr.drew.cell? ⟨Bs, 0, none⟩ = some (.slice (some ⟨b, off, none⟩) n cap) := q1
      have q2d : wr.drew.cell? ⟨Bn, 0, none⟩ = some (.int .i64 120) := q2
      have hin : (i0 : Int) ≤ (n : Int) := by omega
      have hi00 : (0 : Int) ≤ (i0 : Int) := by omega
      have hrI : (n : Int) - (i0 : Int) = (r : Int) := by omega
      have hminI : min (120 : Int) (r : Int) = (s : Int) := by omega
      have hcne : ¬ cap = i0 := by omega
      have hcne2 : ¬ i0 = cap := by omega
      obtain ⟨e1, he1⟩ : ∃ e1, i0 + s = e1 := ⟨_, rfl⟩
      have he1I : (i0 : Int) + (s : Int) = (e1 : Int) := by omega
      have he1s : e1 - i0 = s := by omega
      have he1c : (e1 : Int) ≤ (cap : Int) := by omega
      have he1d : (i0 : Int) ≤ (e1 : Int) := by omega
      have he1w : ¬ s = 0 := by omega
      have HI := Lib.hid (And.intro hi0 hk)
      have HKN := Lib.hid (show 120 * (k + 1) = i0 + 120 ∧ k + 1 ≤ Gm.cnt n from ⟨by omega, by unfold Gm.cnt; omega⟩)
      clear hlt hs hi0 hk hmin
      gi_wp2
      gi_region
      all_goals gi_wp2
      all_goals
        refine HR.out.mono ?_
        rintro e W3 (⟨rfl, hJ3, hk3⟩ | ⟨rfl, hJx3⟩)
        · have J3 := Lib.hid (HT.out ▸ hJ3)
          have B3 := Lib.hid ((show KpS Bs Bn W wr.drew from hnx.out).trans hk3)
          have q3 := hk3.second.trans q2d
          clear hJ3 hk3
          gi_wp2
          go_roundw
          case rel => exact ⟨k + 1, HKN.out.2, by rw [HKN.out.1]; go_num, J3, B3⟩
          case measure => simp [intOf]; omega
        · have X3 := Lib.hid hJx3
          clear hJx3
          gi_wp2
          refine bodyPost_ret (results_none rfl _ _ _) rfl ?_
          exact ⟨⟨_, rfl⟩, .inr ⟨_, ⟨(allP n).drop (k + 1), by rw [HT.out, List.take_append_drop]⟩, X3.out⟩⟩
    · have da : decide ((i0 : Int) < (n : Int)) = false := decide_eq_false (by omega)
      have da2 : decide (i0 < n) = false := decide_eq_false hlt
      have hke : k = Gm.cnt n := by unfold Gm.cnt at *; omega
      gi_wp2
      go_end0
      exact ⟨⟨_, rfl⟩, .inl ⟨_, rfl, by have := hJs.out; rwa [hke, ← allP_len, List.take_length] at this⟩⟩
end Go.Proofs.YtdlifcpdlbmijaaDoor
namespace Go.Proofs.YtdlifcpdlbmijaaDoor
set_option linter.unusedVariables false
set_option linter.unusedSimpArgs false
open Go.RowKit Go.PlainAid Go.Shelf
open B2 (Only Bys Row cellsOf)
open Gm (St Smp Chk)
/-- one chunk in memory, at o of block b -/
def ChkAt (w : World) (b o : Nat) (c : Chk) : Prop := w.cell? ⟨b, o, none⟩ = some (.int .i64 c.frm) ∧ w.cell? ⟨b, o + 1, none⟩ = some (.int .i64 c.to) ∧ w.cell? ⟨b, o + 2, none⟩ = some (.int .i64 ((c.n : Nat) : Int)) ∧ ∃ ad cap, w.cell? ⟨b, o + 3, none⟩ = some (.slice ad c.bs.length cap) ∧ Bys w ad c.bs
/-- chunks in memory -/
def Chs (w : World) (a : Option Addr) (cs : List Chk) : Prop := cs ≠ [] → ∃ b off, a = some ⟨b, off, none⟩ ∧ b < w.heap.size ∧ ∀ k (h : k < cs.length), ChkAt w b (off + k * 4) cs[k]
theorem ChkAt.below {w w' : World} {b o : Nat} {c : Chk} (H : ChkAt w b o c) (hb : Below w.heap.size w w') : ChkAt w' b o c := by
  obtain ⟨h1, h2, h3, ad, cap, h4, h5⟩ := H
  exact ⟨cell_below h1 hb, cell_below h2 hb, cell_below h3 hb, ad, cap, cell_below h4 hb, h5.below hb⟩
theorem Chs.below {w w' : World} {a : Option Addr} {cs : List Chk} (H : Chs w a cs) (hb : Below w.heap.size w w') : Chs w' a cs := fun hn => by
  obtain ⟨b, off, h1, h2, h3⟩ := H hn
  exact ⟨b, off, h1, Nat.lt_of_lt_of_le h2 hb.size, fun k hk => (h3 k hk).below hb⟩
theorem keep8 {W W' : World} {b1 o1 b2 o2 : Nat} {v0 v1 v2 v3 u0 u1 u2 u3 : Value} (h : (W.cell? ⟨b1, o1, none⟩ = some v0 ∧ W.cell? ⟨b1, o1 + 1, none⟩ = some v1 ∧ W.cell? ⟨b1, o1 + 2, none⟩ = some v2 ∧ W.cell? ⟨b1, o1 + 3, none⟩ = some v3) ∧ (W.cell? ⟨b2, o2, none⟩ = some u0 ∧ W.cell? ⟨b2, o2 + 1, none⟩ = some u1 ∧ W.cell? ⟨b2, o2 + 2, none⟩ = some u2 ∧ W.cell? ⟨b2, o2 + 3, none⟩ = some u3)) (hb : Below W.heap.size W W') :
    (W'.cell? ⟨b1, o1, none⟩ = some v0 ∧ W'.cell? ⟨b1, o1 + 1, none⟩ = some v1 ∧ W'.cell? ⟨b1, o1 + 2, none⟩ = some v2 ∧ W'.cell? ⟨b1, o1 + 3, none⟩ = some v3) ∧ (W'.cell? ⟨b2, o2, none⟩ = some u0 ∧ W'.cell? ⟨b2, o2 + 1, none⟩ = some u1 ∧ W'.cell? ⟨b2, o2 + 2, none⟩ = some u2 ∧ W'.cell? ⟨b2, o2 + 3, none⟩ = some u3) :=
  ⟨⟨cell_below h.1.1 hb, cell_below h.1.2.1 hb, cell_below h.1.2.2.1 hb, cell_below h.1.2.2.2 hb⟩, ⟨cell_below h.2.1 hb, cell_below h.2.2.1 hb, cell_below h.2.2.2.1 hb, cell_below h.2.2.2.2 hb⟩⟩
set_option maxHeartbeats 16000000 in
set_option maxRecDepth 100000 in
theorem samechs_any (a1 a2 : Option Addr) (c1 c2 n k : Nat) (cs ds : List Chk) (hn : cs.length = n) (hk : ds.length = k) (w : World) (H1 : Chs w a1 cs) (H2 : Chs w a2 ds) (hz : n ≤ 1000000000) (hz2 : k ≤ 1000000000) (hb1 : ∀ c ∈ cs, c.bs.length ≤ 1000000000) (hb2 : ∀ c ∈ ds, c.bs.length ≤ 1000000000) : Calls Tryd.prog 13 #[.slice a1 n c1, .slice a2 k c2] w fun e w' => e = .returned (.bool (decide (cs = ds))) ∧ Below w.heap.size w w' := by
  by_cases hlen : n = k
  · subst hlen
    have HL := Lib.hid H1
    have HM := Lib.hid H2
    have HN := Lib.hid hn
    have HK := Lib.hid hk
    have HB1 := Lib.hid hb1
    have HB2 := Lib.hid hb2
    clear H1 H2 hn hk hb1 hb2
    go_enter Tryd.func13, Tryd.ntmps13
    go_wp2
    go_loopw [5] (fun i wr => ∃ k : Nat, k ≤ n ∧ i = .int .i64 k ∧ Hid (Below w.heap.size w wr) ∧ Hid (cs.take k = ds.take k)) (fun i _ => (n - (intOf i).toNat))
    case atStart => exact ⟨0, Nat.zero_le _, rfl, Lib.hid (Below.refl _ _), Lib.hid rfl⟩
    case round =>
      obtain ⟨k, hk1, rfl, HB, HT⟩ := hrel
      by_cases hkn : k < n
      · have da : decide ((k : Int) < (n : Int)) = true := decide_eq_true (by omega)
        have da2 : decide (k < n) = true := decide_eq_true hkn
        have hkl : k < cs.length := by rw [HN.out]; exact hkn
        have hkm : k < ds.length := by rw [HK.out]; exact hkn
        have hbd : Below w.heap.size w wr.drew := by have := HB.out; exact ⟨this.os, this.tape, this.output, this.size, this.block⟩
        obtain ⟨b1, o1, rfl, hl1, hc1⟩ := (HL.out.below hbd) (by intro e; rw [e] at hkl; simp at hkl)
        obtain ⟨b2, o2, rfl, hl2, hc2⟩ := (HM.out.below hbd) (by intro e; rw [e] at hkm; simp at hkm)
        obtain ⟨p0, p1, p2, ad1, cp1, p3, hB1⟩ := hc1 k hkl
        obtain ⟨q0, q1, q2, ad2, cp2, q3, hB2⟩ := hc2 k hkm
        have hx1 := HB1.out _ (List.getElem_mem hkl)
        have hx2 := HB2.out _ (List.getElem_mem hkm)
        obtain ⟨x, hx⟩ : ∃ x, cs[k] = x := ⟨_, rfl⟩
        obtain ⟨y, hy⟩ : ∃ y, ds[k] = y := ⟨_, rfl⟩
        have HX := Lib.hid (And.intro ((List.getElem?_eq_getElem hkl).trans (congrArg some hx)) ((List.getElem?_eq_getElem hkm).trans (congrArg some hy)))
        rw [hx] at p0 p1 p2 p3 hB1 hx1
        rw [hy] at q0 q1 q2 q3 hB2 hx2
        obtain ⟨xf, xt, xn, xb⟩ := x
        obtain ⟨yf, yt, yn, yb⟩ := y
        simp only at p0 p1 p2 p3 hB1 hx1 q0 q1 q2 q3 hB2 hx2
        clear hc1 hc2 hx hy hl1 hl2
        by_cases hf : xf = yf
        · subst hf
          by_cases ht : xt = yt
          · subst ht
            by_cases hnn : xn = yn
            · subst hnn
              have e0 : ((xf : Int) != xf) = false := by simp
              have e1 : ((xt : Int) != xt) = false := by simp
              have e2 : ((xn : Int) != (xn : Int)) = false := by simp
              obtain ⟨xl, hxl⟩ : ∃ xl, xb.length = xl := ⟨_, rfl⟩
              obtain ⟨yl, hyl⟩ : ∃ yl, yb.length = yl := ⟨_, rfl⟩
              rw [hxl] at p3 hx1
              rw [hyl] at q3 hx2
              have CB := Lib.hid (fun W (hW : Below wr.drew.heap.size wr.drew W) => samebyt_any ad1 ad2 cp1 cp2 xl yl xb yb hxl hyl W (hB1.below hW) (hB2.below hW) hx1 hx2)
              have q := And.intro (And.intro p0 (And.intro p1 (And.intro p2 p3))) (And.intro q0 (And.intro q1 (And.intro q2 q3)))
              have HBD := Lib.hid (Below.refl wr.drew.heap.size wr.drew)
              have HBW := Lib.hid hbd
              have HQK := Lib.hid (fun W (hW : Below wr.drew.heap.size wr.drew W) => keep8 q hW)
              obtain ⟨B, hB⟩ : ∃ B, decide (xb = yb) = B := ⟨_, rfl⟩
              rw [hB] at CB
              have HBB := Lib.hid hB
              clear p0 p1 p2 p3 q0 q1 q2 q3 hB1 hB2 hx1 hx2 hxl hyl hbd hB HL HM HB1 HB2
              cases B with
              | true =>
                have T2 := Lib.hid (show cs.take (k + 1) = ds.take (k + 1) by
                  obtain ⟨h1, h2⟩ := HX.out
                  rw [List.take_add_one, List.take_add_one, h1, h2, HT.out, of_decide_eq_true HBB.out])
                go_wp2_with fail
                go_region_held3 (fun w' => (w'.cell? ⟨b1, o1 + k * 4, none⟩ = some (.int .i64 xf) ∧ w'.cell? ⟨b1, o1 + k * 4 + 1, none⟩ = some (.int .i64 xt) ∧ w'.cell? ⟨b1, o1 + k * 4 + 2, none⟩ = some (.int .i64 ((xn : Nat) : Int)) ∧ w'.cell? ⟨b1, o1 + k * 4 + 3, none⟩ = some (.slice ad1 xl cp1)) ∧ (w'.cell? ⟨b2, o2 + k * 4, none⟩ = some (.int .i64 xf) ∧ w'.cell? ⟨b2, o2 + k * 4 + 1, none⟩ = some (.int .i64 xt) ∧ w'.cell? ⟨b2, o2 + k * 4 + 2, none⟩ = some (.int .i64 ((xn : Nat) : Int)) ∧ w'.cell? ⟨b2, o2 + k * 4 + 3, none⟩ = some (.slice ad2 yl cp2))) ((first | exact q | assumption))
                  ((go_at_call 29; refine (CB.out _ HBD.out).mono ?_; rintro e w9 ⟨rfl, hb9⟩; have q9 := HQK.out _ hb9; have HB9 := Lib.hid (HBW.out.trans (hb9.mono HBW.out.size)); clear hb9))
                clear q q9
                go_wp2_with fail
                go_roundw
                case rel => exact ⟨k + 1, by omega, by simp, HB9, T2⟩
                case measure => simp [intOf]; omega
              | false =>
                have E := Lib.hid (show decide (cs = ds) = false by
                  refine decide_eq_false (fun e => of_decide_eq_false HBB.out ?_)
                  obtain ⟨h1, h2⟩ := HX.out
                  rw [e, h2] at h1
                  have h3 := Option.some.inj h1
                  injection h3 with _ _ _ h4
                  exact h4.symm)
                go_wp2_with fail
                go_region_held3 (fun w' => (w'.cell? ⟨b1, o1 + k * 4, none⟩ = some (.int .i64 xf) ∧ w'.cell? ⟨b1, o1 + k * 4 + 1, none⟩ = some (.int .i64 xt) ∧ w'.cell? ⟨b1, o1 + k * 4 + 2, none⟩ = some (.int .i64 ((xn : Nat) : Int)) ∧ w'.cell? ⟨b1, o1 + k * 4 + 3, none⟩ = some (.slice ad1 xl cp1)) ∧ (w'.cell? ⟨b2, o2 + k * 4, none⟩ = some (.int .i64 xf) ∧ w'.cell? ⟨b2, o2 + k * 4 + 1, none⟩ = some (.int .i64 xt) ∧ w'.cell? ⟨b2, o2 + k * 4 + 2, none⟩ = some (.int .i64 ((xn : Nat) : Int)) ∧ w'.cell? ⟨b2, o2 + k * 4 + 3, none⟩ = some (.slice ad2 yl cp2))) ((first | exact q | assumption))
                  ((go_at_call 29; refine (CB.out _ HBD.out).mono ?_; rintro e w9 ⟨rfl, hb9⟩; have q9 := HQK.out _ hb9; have HB9 := Lib.hid (HBW.out.trans (hb9.mono HBW.out.size)); clear hb9))
                clear q q9
                go_wp2_with fail
                go_ret
                exact ⟨congrArg (fun x => Ending.returned (.bool x)) E.out.symm, HB9.out⟩
            · have E := Lib.hid (show decide (cs = ds) = false by
                refine decide_eq_false (fun e => hnn ?_)
                obtain ⟨h1, h2⟩ := HX.out
                rw [e, h2] at h1
                have h3 := Option.some.inj h1
                injection h3 with h4 h5 h6 h7
                exact h6.symm)
              have e0 : ((xf : Int) != xf) = false := by simp
              have e1 : ((xt : Int) != xt) = false := by simp
              have e2 : ((xn : Int) != (yn : Int)) = true := by simp; omega
              have e3 : ¬ (xn : Int) = (yn : Int) := by omega
              have e4 : ¬ xn = yn := hnn
              replace p0 : wr.cell? ⟨b1, o1 + k * 4, none⟩ = some (.int .i64 xf) := p0
              replace p1 : wr.cell? ⟨b1, o1 + k * 4 + 1, none⟩ = some (.int .i64 xt) := p1
              replace p2 : wr.cell? ⟨b1, o1 + k * 4 + 2, none⟩ = some (.int .i64 ((xn : Nat) : Int)) := p2
              replace q0 : wr.cell? ⟨b2, o2 + k * 4, none⟩ = some (.int .i64 xf) := q0
              replace q1 : wr.cell? ⟨b2, o2 + k * 4 + 1, none⟩ = some (.int .i64 xt) := q1
              replace q2 : wr.cell? ⟨b2, o2 + k * 4 + 2, none⟩ = some (.int .i64 ((yn : Nat) : Int)) := q2
              clear hB1 hB2 hx1 hx2 HL HM HB1 HB2 p3 q3
              go_wp2_with (go_quiet (fail))
              go_ret
              exact ⟨congrArg (fun x => Ending.returned (.bool x)) E.out.symm, (by have := HB.out; exact ⟨this.os, this.tape, this.output, this.size, this.block⟩)⟩
          · have E := Lib.hid (show decide (cs = ds) = false by
              refine decide_eq_false (fun e => ht ?_)
              obtain ⟨h1, h2⟩ := HX.out
              rw [e, h2] at h1
              have h3 := Option.some.inj h1
              injection h3 with h4 h5 h6 h7
              exact h5.symm)
            have e0 : ((xf : Int) != xf) = false := by simp
            have e1 : ((xt : Int) != yt) = true := by simp; omega
            replace p0 : wr.cell? ⟨b1, o1 + k * 4, none⟩ = some (.int .i64 xf) := p0
            replace p1 : wr.cell? ⟨b1, o1 + k * 4 + 1, none⟩ = some (.int .i64 xt) := p1
            replace p2 : wr.cell? ⟨b1, o1 + k * 4 + 2, none⟩ = some (.int .i64 ((xn : Nat) : Int)) := p2
            replace q0 : wr.cell? ⟨b2, o2 + k * 4, none⟩ = some (.int .i64 xf) := q0
            replace q1 : wr.cell? ⟨b2, o2 + k * 4 + 1, none⟩ = some (.int .i64 yt) := q1
            replace q2 : wr.cell? ⟨b2, o2 + k * 4 + 2, none⟩ = some (.int .i64 ((yn : Nat) : Int)) := q2
            clear hB1 hB2 hx1 hx2 HL HM HB1 HB2 p3 q3
            go_wp2_with (go_quiet (fail))
            go_ret
            exact ⟨congrArg (fun x => Ending.returned (.bool x)) E.out.symm, (by have := HB.out; exact ⟨this.os, this.tape, this.output, this.size, this.block⟩)⟩
        · have E := Lib.hid (show decide (cs = ds) = false by
            refine decide_eq_false (fun e => hf ?_)
            obtain ⟨h1, h2⟩ := HX.out
            rw [e, h2] at h1
            have h3 := Option.some.inj h1
            injection h3 with h4 h5 h6 h7
            exact h4.symm)
          have e0 : ((xf : Int) != yf) = true := by simp; omega
          replace p0 : wr.cell? ⟨b1, o1 + k * 4, none⟩ = some (.int .i64 xf) := p0
          replace p1 : wr.cell? ⟨b1, o1 + k * 4 + 1, none⟩ = some (.int .i64 xt) := p1
          replace p2 : wr.cell? ⟨b1, o1 + k * 4 + 2, none⟩ = some (.int .i64 ((xn : Nat) : Int)) := p2
          replace q0 : wr.cell? ⟨b2, o2 + k * 4, none⟩ = some (.int .i64 yf) := q0
          replace q1 : wr.cell? ⟨b2, o2 + k * 4 + 1, none⟩ = some (.int .i64 yt) := q1
          replace q2 : wr.cell? ⟨b2, o2 + k * 4 + 2, none⟩ = some (.int .i64 ((yn : Nat) : Int)) := q2
          clear hB1 hB2 hx1 hx2 HL HM HB1 HB2 p3 q3
          go_wp2_with (go_quiet (fail))
          go_ret
          exact ⟨congrArg (fun x => Ending.returned (.bool x)) E.out.symm, (by have := HB.out; exact ⟨this.os, this.tape, this.output, this.size, this.block⟩)⟩
      · have hk : k = n := by omega
        subst hk
        have da : decide ((k : Int) < (k : Int)) = false := decide_eq_false (by omega)
        have da2 : decide (k < k) = false := decide_eq_false (by omega)
        have E := Lib.hid (show decide (cs = ds) = true by
          refine decide_eq_true ?_
          have h := HT.out
          rw [← HN.out, List.take_length, HN.out, ← HK.out, List.take_length] at h
          exact h)
        go_wp2
        go_ret
        exact ⟨congrArg (fun x => Ending.returned (.bool x)) E.out.symm, HB.out⟩
  · have E := Lib.hid (show decide (cs = ds) = false from decide_eq_false (fun e => hlen (by rw [← hn, ← hk, e])))
    have h2 : ¬ ((n : Int) = (k : Int)) := by omega
    clear H1 H2 hz hn hk
    go_enter Tryd.func13, Tryd.ntmps13
    go_wp2
    go_ret
    exact ⟨congrArg (fun x => Ending.returned (.bool x)) E.out.symm, Below.refl _ _⟩
end Go.Proofs.YtdlifcpdlbmijaaDoor
namespace Go.Proofs.YtdlifcpdlbmijaaDoor
set_option linter.unusedVariables false
set_option linter.unusedSimpArgs false
open Go.RowKit Go.PlainAid Go.Shelf
open B2 (Only Bys Row cellsOf owns_only)
open Gm (St Smp Chk)
attribute [local go_sem] Oper.semAt_some
set_option maxHeartbeats 1000000 in
theorem parts_in (F : Fence) (m : Nat) (h5 : F.fn 76) (hro : F.round = none) (a : Option Addr) (len cap : Nat) (w : World) :
    CallsIn F m Tryd.prog 76 #[.slice a len cap, .int .i64 120] w fun e w' => e = .returned (.func (.func 100) #[] #[.pointer (some ⟨w.heap.size, 0, none⟩), .pointer (some ⟨w.heap.size + 1, 0, none⟩)]) ∧ w' = (w.alloc (.cells #[.slice a len cap] 22)).alloc (.cells #[.int .i64 120] 3) := by
  refine callsIn_of_wp Tryd.func76 rfl h5 ?_ hro
  simp only [Tryd.ntmps76, List.size_toArray, List.length_cons, List.length_nil, Nat.reduceAdd, Nat.reduceSub, Array.replicate_succ, Array.replicate_zero, List.push_toArray, List.append_toArray, List.nil_append, List.cons_append]
  gi_wp2
  go_ret
  exact ⟨rfl, rfl⟩
theorem parts_stops (F : Fence) (m : Nat) (h7 : F.fn 100) (hro : F.round = none) (hm1 : 1 ≤ m) (Bs Bn cap b off n : Nat) (a : Option Addr) (ha : 0 < n → a = some ⟨b, off, none⟩) (hc0 : n ≤ cap) (hz : n ≤ 1000000000) (w : World) (hls : Bs < w.heap.size ∧ Bn < w.heap.size)
    (hBs : w.cell? ⟨Bs, 0, none⟩ = some (.slice a n cap)) (hBn : w.cell? ⟨Bn, 0, none⟩ = some (.int .i64 120)) :
    SeqStopsK F m Tryd.prog 100 #[.pointer (some ⟨Bs, 0, none⟩), .pointer (some ⟨Bn, 0, none⟩)] (fun x : Idx n => #[partV b off n (120 * x.1)]) (KpS Bs Bn) (fun ys => ys = allP n) (fun pre => pre <+: allP n) (allP n).length w := fun l J Jx W hW hJ _ hY h0 =>
  parts1_in F m h7 hro hm1 l Bs Bn cap b off n a ha hc0 hz J Jx hY W hJ ((hW.cell (p := ⟨Bs, 0, none⟩) hls.1).trans hBs) ((hW.cell (p := ⟨Bn, 0, none⟩) hls.2).trans hBn) h0
/-- chunks as cells -/
def chC : List Chk → List Value → List Value
  | c :: cs, d :: ds => .int .i64 c.frm :: .int .i64 c.to :: .int .i64 ((c.n : Nat) : Int) :: d :: chC cs ds
  | _, _ => []
theorem chC_snoc (c : Chk) (d : Value) : ∀ (cs : List Chk) (ds : List Value), ds.length = cs.length → chC (cs ++ [c]) (ds ++ [d]) = chC cs ds ++ [.int .i64 c.frm, .int .i64 c.to, .int .i64 ((c.n : Nat) : Int), d]
  | [], [], _ => rfl
  | [], _ :: _, h => by simp at h
  | _ :: _, [], h => by simp at h
  | c2 :: cs, d2 :: ds, h => by simp only [List.cons_append, chC, chC_snoc c d cs ds (by simpa using h)]
theorem chC_get : ∀ (cs : List Chk) (ds : List Value) (k : Nat) (h : k < cs.length) (h2 : k < ds.length), (chC cs ds)[k * 4]? = some (.int .i64 cs[k].frm) ∧ (chC cs ds)[k * 4 + 1]? = some (.int .i64 cs[k].to) ∧ (chC cs ds)[k * 4 + 2]? = some (.int .i64 ((cs[k].n : Nat) : Int)) ∧ (chC cs ds)[k * 4 + 3]? = some ds[k]
  | [], _, k, h, _ => by simp at h
  | _ :: _, [], k, _, h2 => by simp at h2
  | c :: cs, d :: ds, 0, _, _ => ⟨rfl, rfl, rfl, rfl⟩
  | c :: cs, d :: ds, k + 1, h, h2 => by
    obtain ⟨k1, k2, k3, k4⟩ := chC_get cs ds k (by simpa using h) (by simpa using h2)
    simp only [chC, show (k + 1) * 4 = k * 4 + 1 + 1 + 1 + 1 by omega, List.getElem?_cons_succ, List.getElem_cons_succ]
    exact ⟨k1, k2, k3, k4⟩
/-- chunks of the call's own -/
structure OwnC (w : World) (base : Nat) (v : Value) (cs : List Chk) (ds : List Value) : Prop where
  row : w.ownsRow base 73 4 v cs.length (chC cs ds)
  len : ds.length = cs.length
  each : ∀ k (h : k < cs.length), ∃ ad cap, ds[k]? = some (.slice ad cs[k].bs.length cap) ∧ w.ownsRow 0 5 1 (.slice ad cs[k].bs.length cap) cs[k].bs.length (cellsOf cs[k].bs) ∧ (∀ c ∈ cs[k].bs, c < 256)
theorem OwnC.nil (w : World) (base : Nat) : OwnC w base (.slice none 0 0) [] [] := ⟨World.ownsRow_nil _ _ _ _, rfl, fun k h => by simp at h⟩
theorem owns_kept {w w' : World} {row : Option Nat} {base e size n : Nat} {v : Value} {xs : List Value} (h : w.ownsRow base e size v n xs) (hg : w.grownBy w' row) (hr : ∀ r, row = some r → ∃ o : Obj, w.heap[r]? = some o ∧ o.isCells = false) : w'.ownsRow base e size v n xs := by
  refine h.kept hg ?_
  rcases h.2 with ⟨rfl, _⟩ | ⟨g, cap, cur, rfl, _, hgb, _⟩
  · exact .inl rfl
  · refine .inr fun e' => ?_
    obtain ⟨o, ho, hc⟩ := hr g (by simpa [Value.ownBlock] using e'.symm)
    rw [hgb] at ho; cases ho; cases hc
theorem OwnC.kept {w w' : World} {row : Option Nat} {base : Nat} {v : Value} {cs : List Chk} {ds : List Value} (H : OwnC w base v cs ds) (hg : w.grownBy w' row) (hr : ∀ r, row = some r → ∃ o : Obj, w.heap[r]? = some o ∧ o.isCells = false) : OwnC w' base v cs ds :=
  ⟨owns_kept H.row hg hr, H.len, fun k h => by
    obtain ⟨ad, cap, h1, h2, h3⟩ := H.each k h
    exact ⟨ad, cap, h1, owns_kept h2 hg hr, h3⟩⟩
theorem OwnC.only {w w' : World} {base : Nat} {v : Value} {cs : List Chk} {ds : List Value} (H : OwnC w base v cs ds) {S : List Nat} (ho : Only S w w') (h1 : ∀ g, v.ownBlock = some g → g ∉ S) (h2 : ∀ g cur, w.heap[g]? = some (.cells cur 5 (0, 0)) → g ∉ S) : OwnC w' base v cs ds :=
  ⟨owns_only H.row ho h1, H.len, fun k h => by
    obtain ⟨ad, cap, k1, k2, k3⟩ := H.each k h
    refine ⟨ad, cap, k1, owns_only k2 ho (fun g hg => ?_), k3⟩
    rcases k2.2 with ⟨hv, _⟩ | ⟨g2, c2, cur, hv, _, hh, _⟩
    · rw [hv] at hg; cases hg
    · rw [hv] at hg; injection hg with hg; have hg : g2 = g := hg; subst hg; exact h2 _ _ hh⟩
theorem OwnC.below {w w' : World} {base : Nat} {v : Value} {cs : List Chk} {ds : List Value} (H : OwnC w base v cs ds) (hb : Below w.heap.size w w') : OwnC w' base v cs ds := H.only (Only.of_below hb []) (fun _ _ => by simp) (fun _ _ _ => by simp)
theorem OwnC.shape {w : World} {base : Nat} {v : Value} {cs : List Chk} {ds : List Value} (H : OwnC w base v cs ds) : ∃ a c, v = .slice a cs.length c := by
  rcases H.row.2 with ⟨hv, h0⟩ | ⟨g, c, cur, hv, _⟩
  · exact ⟨none, 0, by rw [hv, h0]⟩
  · exact ⟨_, c, hv⟩
theorem OwnC.chs {w : World} {base : Nat} {v : Value} {cs : List Chk} {ds : List Value} (H : OwnC w base v cs ds) (a : Option Addr) (n c : Nat) (hv : v = .slice a n c) : Chs w a cs := fun hn => by
  rcases H.row.2 with ⟨_, h0⟩ | ⟨g, c2, cur, hv2, _, hh, _⟩
  · exact absurd (List.eq_nil_of_length_eq_zero h0) hn
  · rw [hv] at hv2
    injection hv2 with e1 e2 e3
    subst e1
    refine ⟨g, 0, rfl, (Array.getElem?_eq_some_iff.1 hh).1, fun k hk => ?_⟩
    have hk2 : k < ds.length := by rw [H.len]; exact hk
    obtain ⟨k1, k2, k3, k4⟩ := chC_get cs ds k hk hk2
    have q := fun j u (hj : (chC cs ds)[j]? = some u) => H.row.cells (g := g) (by rw [hv]; rfl) j u hj
    have q1 := q _ _ k1
    have q2 := q _ _ k2
    have q3 := q _ _ k3
    have q4 := q _ _ k4
    rw [B2.add_here] at q1 q2 q3 q4
    rw [Nat.zero_add]
    obtain ⟨ad, cap, h1, h2, h3⟩ := H.each k hk
    rw [List.getElem?_eq_getElem hk2] at h1
    injection h1 with h1
    rw [h1] at q4
    refine ⟨q1, q2, q3, ad, cap, q4, ?_⟩
    refine (B2.Row.bys (d := (Value.slice ad cs[k].bs.length cap).ownBlock.getD 0) ⟨h2, ?_⟩ h3).2
    cases ad with
    | none => exact .inl rfl
    | some x => exact .inr rfl
/-- a chunk more, the box turned -/
theorem OwnC.snoc {w W w2 : World} {base B len cap : Nat} {v v' u : Value} {cs : List Chk} {ds : List Value} {c : Chk} {ad : Option Addr} {t : TypeId} (H : OwnC w base v cs ds) (hW : Below w.heap.size w W)
    (hl : len = c.bs.length) (hrow : w.ownsRow 0 5 1 (.slice ad len cap) len (cellsOf c.bs)) (h8 : ∀ x ∈ c.bs, x < 256)
    (hown : w2.ownsRow base 73 4 v' (cs.length + 1) (chC cs ds ++ [.int .i64 c.frm, .int .i64 c.to, .int .i64 ((c.n : Nat) : Int), .slice ad len cap])) (hg : W.grownBy w2 v.ownBlock)
    (hB : Boxed w2 B t u) (ht : t ≠ 73 ∧ t ≠ 5) : OwnC (w2.setCell ⟨B, 0, none⟩ v') base v' (cs ++ [c]) (ds ++ [.slice ad len cap]) := by
  subst hl
  have hO : Only v.ownBlock.toList W w2 := (Only.refl _ _).grown hg (fun k hk => .inl (by simp [hk]))
  have hO2 : Only v.ownBlock.toList w w2 := (Only.of_below hW _).trans hO (fun x hx => .inl hx)
  have hoB : Only [B] w2 (w2.setCell ⟨B, 0, none⟩ v') := (Only.refl _ _).setCell (p := ⟨B, 0, none⟩) (.inl (by simp)) _
  have hty : ∀ g cur, w.heap[g]? = some (.cells cur 5 (0, 0)) → g ∉ v.ownBlock.toList := fun g cur hc hm => by
    have hm : v.ownBlock = some g := by simpa using hm
    rcases H.row.2 with ⟨hv, _⟩ | ⟨g2, c2, cur2, hv, _, hh, _⟩
    · rw [hv] at hm; cases hm
    · rw [hv] at hm; injection hm with hm; have hm : g2 = g := hm; subst hm
      rw [hc] at hh; injection hh with hh; injection hh with _ hh; exact absurd hh (by decide)
  have hBn : ∀ g cur e, w2.heap[g]? = some (.cells cur e (0, 0)) → t ≠ e → g ∉ [B] := fun g cur e hc he hm => by
    have hm : g = B := by simpa using hm
    subst hm
    have h1 : w2.heap[g]? = _ := hB
    rw [hc] at h1; injection h1 with h1; injection h1 with _ h1; exact he h1.symm
  have keep5 : ∀ {ad : Option Addr} {l cap : Nat} {bs : List Nat}, w.ownsRow 0 5 1 (.slice ad l cap) l (cellsOf bs) → (w2.setCell ⟨B, 0, none⟩ v').ownsRow 0 5 1 (.slice ad l cap) l (cellsOf bs) := fun {ad l cap bs} h => by
    have h2 := owns_only h hO2 (fun g hg => by
      rcases h.2 with ⟨hv, _⟩ | ⟨g2, c2, cur2, hv, _, hh, _⟩
      · rw [hv] at hg; cases hg
      · rw [hv] at hg; injection hg with hg; have hg : g2 = g := hg; subst hg; exact hty _ _ hh)
    refine owns_only h2 hoB (fun g hg => ?_)
    rcases h2.2 with ⟨hv, _⟩ | ⟨g2, c2, cur2, hv, _, hh, _⟩
    · rw [hv] at hg; cases hg
    · rw [hv] at hg; injection hg with hg; have hg : g2 = g := hg; subst hg; exact hBn _ _ _ hh ht.2
  refine ⟨?_, by simp [H.len], fun k hk => ?_⟩
  · rw [List.length_append, chC_snoc _ _ _ _ H.len]
    refine owns_only hown hoB (fun g hg => ?_)
    rcases hown.2 with ⟨hv, _⟩ | ⟨g2, c2, cur2, hv, _, hh, _⟩
    · rw [hv] at hg; cases hg
    · rw [hv] at hg; injection hg with hg; have hg : g2 = g := hg; subst hg; exact hBn _ _ _ hh ht.1
  · by_cases hk2 : k < cs.length
    · obtain ⟨ad2, cap2, k1, k2, k3⟩ := H.each k hk2
      have e : (cs ++ [c])[k] = cs[k] := List.getElem_append_left hk2
      rw [e]
      exact ⟨ad2, cap2, by rw [List.getElem?_append_left (by rw [H.len]; exact hk2)]; exact k1, keep5 k2, k3⟩
    · have : k = cs.length := by simp at hk; omega
      subst this
      have e : (cs ++ [c])[cs.length] = c := by simp
      rw [e]
      exact ⟨ad, cap, by rw [List.getElem?_append_right (by rw [H.len]; exact Nat.le_refl _), H.len, Nat.sub_self]; rfl, keep5 hrow, h8⟩
end Go.Proofs.YtdlifcpdlbmijaaDoor
namespace Go.Proofs.YtdlifcpdlbmijaaDoor
set_option linter.unusedVariables false
set_option linter.unusedSimpArgs false
open Go.RowKit Go.PlainAid Go.Shelf
open B2 (Only)
/-- these blocks lie as they lay -/
def Kept (T : List Nat) (W W' : World) : Prop := ∀ k ∈ T, W'.heap[k]? = W.heap[k]?
theorem Only.put (W : World) (r : Nat) (o : Obj) : Only [r] W (W.putObj r o) :=
  ⟨rfl, rfl, rfl, by simp [World.putObj], fun k hk hn => World.putObj_heap_other (by simp at hn; omega)⟩
/-- the contract of an iterator with blocks of its own -/
def SeqOwn {α : Type} (F : Fence) (n : Nat) (P : Program) (g : Nat) (lb : Array Value) (encs : α → Array Value) (S Sp : List α → Prop) (w : World) : Prop :=
  ∀ (l : Nat) (J Jx : List Nat → List α → World → Prop) (W : World), Below w.heap.size w W →
    (∀ T W2, Below W.heap.size W W2 → (∀ k ∈ T, W.heap.size ≤ k ∧ k < W2.heap.size) → J T [] W2) →
    (∀ T pre A B, J T pre A → Only T A B → J T pre B) →
    (∀ T pre A B, Jx T pre A → Only T A B → Jx T pre B) →
    (∀ T pre x W1, J T pre W1 → Sp (pre ++ [x]) → YieldAt F (n - 1) P l (encs x) W1 fun e W' =>
      (e = .returned (.bool true) ∧ J T (pre ++ [x]) W' ∧ Kept T W1 W') ∨ (e = .returned (.bool false) ∧ Jx T (pre ++ [x]) W')) →
    CallsIn F n P g (#[.func (.yield l) #[] #[]] ++ lb) W fun e W' => (∃ v, e = .returned v) ∧ ((∃ T xs, S xs ∧ J T xs W') ∨ (∃ T pre, Sp pre ∧ Jx T pre W'))
/-- how the body of a round may be left -/
def ownPostT {α : Type} (I : List Nat → List α → World → Prop) (Ix : Code → List Nat → List α → World → Prop) (T : List Nat) (xs : List α) (W : World) : Exit → Act → World → Prop
  | .normal, _, W' => Kept T W W' ∧ I T xs W'
  | .ret, _, W' => Kept T W W' ∧ Ix .ret T xs W'
  | .exit id, _, W' => Kept T W W' ∧ Ix (.exit id) T xs W'
  | .goto t, _, W' => Kept T W W' ∧ Ix (.goto t) T xs W'
  | .panic _, _, _ => False
  | .outgrown, _, _ => False
variable {F : Fence} {n : Nat} {P : Program}
theorem wpIn_rangeFunc_ownT {α : Type} {g : Operand} {ps : Array Tmp} {assign body : Code} {Q : Exit → Act → World → Prop} {a : Act} {w : World}
    (hro : F.round = none) (h1 : 1 ≤ n) {gf : Nat} {lb : Array Value} (hg : a.eval g = .func (.func gf) #[] lb) (hFg : F.fn gf) (eg : ∀ args w, (callFunc gf args).run P w = .ok (.enter gf args) w)
    {encs : α → Array Value} {S Sp : List α → Prop} {w0 : World} (hseq : SeqOwn F (n - 1) P gf lb encs S Sp w0) (hb0 : Below w0.heap.size w0 w) (hps : ∀ x, (encs x).size = ps.size)
    (I : List Nat → List α → World → Prop) (Ix : Code → List Nat → List α → World → Prop)
    (hI : ∀ T pre A B, I T pre A → Only T A B → I T pre B) (hIx : ∀ c T pre A B, Ix c T pre A → Only T A B → Ix c T pre B)
    (h0 : ∀ T W, Below w.heap.size w W → (∀ k ∈ T, w.heap.size ≤ k ∧ k < W.heap.size) → I T [] W)
    (hround : ∀ (l : Nat) (T : List Nat) (pre : List α) (x : α) (W : World), I T pre W → Sp (pre ++ [x]) →
      assign.wpIn (F.inRound l) (n - 1 - 1) P (Exit.then (fun a₁ W1 => Kept T W W1 ∧ ∀ W2, Only T W1 W2 → body.wpIn (F.inRound l) (n - 1 - 1) P (ownPostT I Ix T (pre ++ [x]) W2) a₁ W2) (fun _ _ _ => False)) { tmps := (ps.zip (encs x)).foldl (fun t (p, v) => t.setIfInBounds p v) a.tmps, defers := [] } W)
    (hdone : ∀ (D : Nat) (T : List Nat) (xs : List α) (W : World), w.heap.size ≤ D → D ∈ T → S xs → I T xs W → W.heap[D]? = some (.deferred (some [])) → Q .normal { a with defers := { target := .collected D, args := #[] } :: a.defers } W)
    (hstop : ∀ (D : Nat) (c : Code) (T : List Nat) (pre : List α) (W : World), w.heap.size ≤ D → D ∈ T → Sp pre → Ix c T pre W → W.heap[D]? = some (.deferred (some [])) → c.wpIn F n P Q { a with defers := { target := .collected D, args := #[] } :: a.defers } W) :
    (Code.rangeFunc g ps assign body).wpIn F n P Q a w := by
  refine wpIn_rangeFunc ?_
  intro fn hfn
  rw [hro]
  obtain ⟨D, hD⟩ : ∃ D, w.heap.size = D := ⟨_, rfl⟩
  obtain ⟨rec, hrec⟩ : ∃ rec : LoopState → Option Code → Loop, rec = fun st pe => { state := st, pending := pe, fn, tmps := a.tmps, params := ps, assign, body, defers := D } := ⟨_, rfl⟩
  obtain ⟨W1, hW1⟩ : ∃ W1, (w.alloc (.deferred (some []))).alloc (.loop (rec .ready none)) = W1 := ⟨_, rfl⟩
  have hsz : W1.heap.size = D + 2 := by rw [← hW1]; simp [hD]
  have hL1 : W1.heap[D + 1]? = some (.loop (rec .ready none)) := by
    rw [← hW1]
    have h := World.alloc_heap_new (w.alloc (.deferred (some []))) (.loop (rec .ready none))
    rwa [World.size_alloc, hD] at h
  have hK1 : W1.heap[D]? = some (.deferred (some [])) := by
    rw [← hW1, ← hD]
    exact (Below.heap_alloc _ _ _ (by simp)).trans (World.alloc_heap_new w _)
  have hbW : Below w.heap.size w W1 := by
    rw [← hW1]
    exact ((Below.refl _ w).alloc (Nat.le_refl _) _).alloc (by simp) _
  have hb1 : Below w0.heap.size w0 W1 := hb0.trans (hbW.mono hb0.size)
  refine ⟨D + 1, [{ target := .collected D, args := #[] }], W1, { target := .fn (.func gf) lb, args := #[.func (.yield (D + 1)) #[] #[]] }, W1, gf, #[.func (.yield (D + 1)) #[] #[]] ++ lb, W1, ?_, ?_, ?_, ?_, fun _ => h1, ?_⟩
  · rw [← hW1, hrec, ← hD]; exact run_enterLoop_outer _ _ _ _ _
  · simp only [resolve, hg]
    simp [go_sem]
  · intro f' hf'; simp [Target.leads] at hf'; subst hf'; exact hFg
  · simp [invoke, go_sem, eg]
  · -- the two blocks of the loop's own books lie beside T
    have both : ∀ {T : List Nat} {A B : World}, (∀ k ∈ T, D + 2 ≤ k) → D + 1 < A.heap.size → Only T A B → B.heap[D + 1]? = A.heap[D + 1]? ∧ B.heap[D]? = A.heap[D]? := fun hT hA ho =>
      ⟨ho.block _ hA (fun hm => by have := hT _ hm; omega), ho.block _ (by omega) (fun hm => by have := hT _ hm; omega)⟩
    have wide : ∀ {T : List Nat} {A B : World}, Only T A B → Only (D :: (D + 1) :: T) A B := fun ho => ho.mono (fun x hx => by simp; exact .inr (.inr hx))
    have wput : ∀ (T : List Nat) (A : World) (o : Obj), Only (D :: (D + 1) :: T) A (A.putObj (D + 1) o) := fun T A o => (Only.put A (D + 1) o).mono (fun x hx => by simp at hx; simp [hx])
    refine (hseq (D + 1)
      (fun T pre W => (∀ k ∈ T, D + 2 ≤ k) ∧ I (D :: (D + 1) :: T) pre W ∧ W.heap[D + 1]? = some (.loop (rec .ready none)) ∧ W.heap[D]? = some (.deferred (some [])))
      (fun T pre W => (∀ k ∈ T, D + 2 ≤ k) ∧ ∃ c, Ix c (D :: (D + 1) :: T) pre W ∧ W.heap[D + 1]? = some (.loop (rec .done (some c))) ∧ W.heap[D]? = some (.deferred (some [])))
      W1 hb1 ?_ ?_ ?_ ?_).mono ?_
    · intro T W2 hB hT
      have h2 := hB.size
      refine ⟨fun k hk => by have := (hT k hk).1; omega, h0 _ _ (hbW.trans (hB.mono hbW.size)) ?_, (hB.block _ (by omega)).trans hL1, (hB.block _ (by omega)).trans hK1⟩
      intro k hk
      simp only [List.mem_cons] at hk
      rcases hk with rfl | rfl | hk
      · omega
      · omega
      · have := hT k hk; omega
    · rintro T pre A B ⟨hT, hi, hl, hk⟩ ho
      have hA := (Array.getElem?_eq_some_iff.1 hl).1
      exact ⟨hT, hI _ _ _ _ hi (wide ho), (both hT hA ho).1.trans hl, (both hT hA ho).2.trans hk⟩
    · rintro T pre A B ⟨hT, c, hi, hl, hk⟩ ho
      have hA := (Array.getElem?_eq_some_iff.1 hl).1
      exact ⟨hT, c, hIx _ _ _ _ _ hi (wide ho), (both hT hA ho).1.trans hl, (both hT hA ho).2.trans hk⟩
    · rintro T pre x W ⟨hT, hi, hl, hk⟩ hlen
      have hlt : D + 1 < W.heap.size := (Array.getElem?_eq_some_iff.1 hl).1
      have hy := run_yield (P := P) (args := encs x) hl (by rw [hrec]; exact hps x)
      rw [hrec] at hy
      refine ⟨fn, _, assign, body, hy, roundIn_of_wpIn hfn (wpIn_mono (hround (D + 1) (D :: (D + 1) :: T) pre x W hi hlen) ?_)⟩
      intro e a₁ W1' h
      cases e with
      | ret => exact h.elim
      | exit id => exact h.elim
      | goto t => exact h.elim
      | panic ch => exact h.elim
      | outgrown => exact h.elim
      | normal =>
      obtain ⟨hkA, hb⟩ := h
      have hlA := (hkA (D + 1) (by simp)).trans hl
      have hdA := (hkA D (by simp)).trans hk
      have hltA : D + 1 < W1'.heap.size := (Array.getElem?_eq_some_iff.1 hlA).1
      refine ⟨_, run_beginRound hlA (by rw [hrec]), ?_⟩
      obtain ⟨W2, hW2⟩ : ∃ W2, W1'.putObj (D + 1) (.loop { rec .ready none with state := .busy }) = W2 := ⟨_, rfl⟩
      have hl2 : W2.heap[D + 1]? = some (.loop { rec .ready none with state := .busy }) := by rw [← hW2]; exact World.putObj_heap_same hltA
      have hk2 : W2.heap[D]? = some (.deferred (some [])) := by rw [← hW2]; exact (World.putObj_heap_other (by omega)).trans hdA
      have hT2 : Kept T W W2 := fun k hk => by rw [← hW2]; exact (World.putObj_heap_other (by have := hT k hk; omega)).trans (hkA k (by simp [hk]))
      rw [hW2]
      refine wpIn_mono (hb W2 (by rw [← hW2]; exact wput _ _ _)) ?_
      have fin : ∀ (jump : Option Code) (W3 : World), Kept (D :: (D + 1) :: T) W2 W3 →
          (Instr.endRound (D + 1) jump).run P W3 = .ok (.bool jump.isNone) (W3.putObj (D + 1) (.loop (rec (if jump.isNone then .ready else .done) jump))) ∧
          (W3.putObj (D + 1) (.loop (rec (if jump.isNone then .ready else .done) jump))).heap[D + 1]? = some (.loop (rec (if jump.isNone then .ready else .done) jump)) ∧
          (W3.putObj (D + 1) (.loop (rec (if jump.isNone then .ready else .done) jump))).heap[D]? = some (.deferred (some [])) ∧
          Kept T W (W3.putObj (D + 1) (.loop (rec (if jump.isNone then .ready else .done) jump))) := fun jump W3 hk3 => by
        have hl3 := (hk3 (D + 1) (by simp)).trans hl2
        have hd3 := (hk3 D (by simp)).trans hk2
        have hr := run_endRound (P := P) jump hl3
        rw [hrec] at hr ⊢
        exact ⟨hr, World.putObj_heap_same (Array.getElem?_eq_some_iff.1 hl3).1, (World.putObj_heap_other (by omega)).trans hd3,
          fun k hk => (World.putObj_heap_other (by have := hT k hk; omega)).trans ((hk3 k (by simp [hk])).trans (hT2 k hk))⟩
      rintro e a3 W3 hp
      cases e with
      | normal =>
        obtain ⟨hk3, hi3⟩ := hp
        obtain ⟨hr, hl4, hk4, hq4⟩ := fin none W3 hk3
        exact ⟨_, _, hr, .inl ⟨rfl, ⟨hT, hI _ _ _ _ hi3 (wput _ _ _), hl4, hk4⟩, hq4⟩⟩
      | ret =>
        obtain ⟨hk3, hi3⟩ := hp
        obtain ⟨hr, hl4, hk4, hq4⟩ := fin (some .ret) W3 hk3
        exact ⟨_, _, hr, .inr ⟨rfl, hT, .ret, hIx _ _ _ _ _ hi3 (wput _ _ _), hl4, hk4⟩⟩
      | exit id =>
        obtain ⟨hk3, hi3⟩ := hp
        obtain ⟨hr, hl4, hk4, hq4⟩ := fin (some (.exit id)) W3 hk3
        exact ⟨_, _, hr, .inr ⟨rfl, hT, .exit id, hIx _ _ _ _ _ hi3 (wput _ _ _), hl4, hk4⟩⟩
      | goto t =>
        obtain ⟨hk3, hi3⟩ := hp
        obtain ⟨hr, hl4, hk4, hq4⟩ := fin (some (.goto t)) W3 hk3
        exact ⟨_, _, hr, .inr ⟨rfl, hT, .goto t, hIx _ _ _ _ _ hi3 (wput _ _ _), hl4, hk4⟩⟩
      | panic ch => exact hp.elim
      | outgrown => exact hp.elim
    · rintro e W2 ⟨⟨v, rfl⟩, (⟨T, xs, hS, hT, hi, hl, hk⟩ | ⟨T, pre, hSp, hT, c, hi, hl, hk⟩)⟩
      · exact ⟨none, _, by have h := run_endLoop (P := P) hl (by rw [hrec]; simp); rw [hrec] at h; exact h, hdone D _ xs _ (by omega) (by simp) hS (hI _ _ _ _ hi (wput _ _ _)) ((World.putObj_heap_other (by omega)).trans hk)⟩
      · exact ⟨some c, _, by have h := run_endLoop (P := P) hl (by rw [hrec]; simp); rw [hrec] at h; exact h, hstop D c _ pre _ (by omega) (by simp) hSp (hIx _ _ _ _ _ hi (wput _ _ _)) ((World.putObj_heap_other (by omega)).trans hk)⟩
end Go.Proofs.YtdlifcpdlbmijaaDoor
namespace Go.Proofs.YtdlifcpdlbmijaaDoor
set_option linter.unusedVariables false
set_option linter.unusedSimpArgs false
open Go.RowKit Go.PlainAid Go.Shelf
open B2 (Only Bys Row cellsOf)
open Gm (St Smp)
attribute [local go_sem] Oper.semAt_some
theorem row_kept {w w' : World} {d : Nat} {v : Value} {ds : List Nat} (h : Row w d v ds) (hk : w'.heap[d]? = w.heap[d]?) : Row w' d v ds := by
  rcases h.value with ⟨rfl, rfl⟩ | ⟨cap, cur, rfl, hg, hc, hm, hs, ht⟩
  · exact Row.nil _ _
  · exact Row.mk (hk.trans hg) hc hm hs ht
theorem Rdr.kept {w w' : World} {a p g : Nat} {ds : List Nat} {s : Gm.Rd} (h : Rdr w a p g ds s) (hk : Kept [a, p, g] w w') : Rdr w' a p g ds s := by
  obtain ⟨at_, ⟨v, h1, h2, h3, h4, h5, h6⟩, k2⟩ := h.bits
  have hg := hk g (by simp)
  have hl : g < w'.heap.size := by
    rw [Array.getElem?_eq_getElem h4] at hg
    exact (Array.getElem?_eq_some_iff.1 hg).1
  exact ⟨(hk a (by simp)).trans h.row, ⟨at_, ⟨v, (hk p (by simp)).trans h1, row_kept h2 hg, h3, hl, h5, h6⟩, k2⟩, h.ne⟩
/-- what holds between two samples: k have come, L come in all -/
def Between (N : Nat) (L : List Smp) (J : List Nat → List Smp → World → Prop) (a p g : Nat) (bs : List Nat) (k : Nat) (W : World) : Prop :=
  ∃ pre s, pre ++ Gm.rdAll (N - k) s = L ∧ pre.length = k ∧ s.n = k ∧ RdI s ∧ J [a, p, g] pre W ∧ Rdr W a p g bs s
theorem rd0_I (B : List Bool) : RdI (Gm.rd0 B) := ⟨⟨Nat.le_refl _, by simp [Gm.rd0]⟩, by simp [Gm.rd0], by simp [Gm.rd0]⟩
set_option maxRecDepth 100000 in
set_option maxHeartbeats 8000000 in
theorem read_in (m : Nat) (hm1 : 1 ≤ m) (l b cap N : Nat) (ad : Option Addr) (f t : Int) (bs : List Nat) (hc0 : ad = none → cap = 0) (hbd : bs.length ≤ 1000000000) (hN : N ≤ 9223372036854775807) (J Jx : List Nat → List Smp → World → Prop) (W : World)
    (hb : W.heap[b]? = some (.cells #[.int .i64 f, .int .i64 t, .int .i64 ((N : Nat) : Int), .slice ad bs.length cap] 73 (0, 0))) (hB : Bys W ad bs)
    (h0 : ∀ T W2, Below W.heap.size W W2 → (∀ k ∈ T, W.heap.size ≤ k ∧ k < W2.heap.size) → J T [] W2)
    (hJ : ∀ T pre A B, J T pre A → Only T A B → J T pre B)
    (hY : ∀ T pre x W1, J T pre W1 → pre ++ [x] <+: Gm.rdAll N (Gm.rd0 (B2.Bt.unpack bs)) → YieldAt Fence.wide (m - 1) Tryd.prog l #[smV x] W1 fun e W' =>
      (e = .returned (.bool true) ∧ J T (pre ++ [x]) W' ∧ Kept T W1 W') ∨ (e = .returned (.bool false) ∧ Jx T (pre ++ [x]) W')) :
    CallsIn Fence.wide m Tryd.prog 93 #[.func (.yield l) #[] #[], .pointer (some ⟨b, 0, none⟩)] W fun e W' => (∃ v, e = .returned v) ∧
      ((∃ T xs, xs = Gm.rdAll N (Gm.rd0 (B2.Bt.unpack bs)) ∧ J T xs W') ∨ (∃ T pre, pre <+: Gm.rdAll N (Gm.rd0 (B2.Bt.unpack bs)) ∧ Jx T pre W')) := by
  obtain ⟨L, hL⟩ : ∃ L, Gm.rdAll N (Gm.rd0 (B2.Bt.unpack bs)) = L := ⟨_, rfl⟩
  rw [hL] at hY ⊢
  have x2 : W.cell? ⟨b, 2, none⟩ = some (.int .i64 ((N : Nat) : Int)) := (cell_of_row _ _ 2 _ _ _ hb).trans rfl
  have x3 : W.cell? ⟨b, 3, none⟩ = some (.slice ad bs.length cap) := (cell_of_row _ _ 3 _ _ _ hb).trans rfl
  have C := Lib.hid (B2.read_any ad bs cap W hB hc0 hbd)
  unfold B2.ReadPost at C
  have HJ := Lib.hid hJ
  have HY := Lib.hid hY
  have H0 := Lib.hid h0
  have HL := Lib.hid (And.intro hL (And.intro hbd hN))
  have HBX := Lib.hid hb
  clear hJ hY h0 hL hbd hN hb hB hc0
  refine callsIn_of_wp Tryd.func93 rfl trivial ?_ rfl
  simp only [Tryd.ntmps93, List.size_toArray, List.length_cons, List.length_nil, Nat.reduceAdd, Nat.reduceSub, Array.replicate_succ, Array.replicate_zero, List.push_toArray, List.append_toArray, List.nil_append, List.cons_append]
  gi_wp2_with (refine ⟨trivial, ?_⟩; gi_at_call 94; refine (callsIn_wide.2 C.out).mono ?_; rintro e w1 ⟨p, g, rfl, hp, hg, hR, hBl⟩; have y2 := cell_below x2 (hBl.alloc hBl.size (.cells #[.int .i64 0, .int .i64 0, .int .u64 0, .int .u64 0, .int .i64 0, .int .i64 0, .pointer (some ⟨p, 0, none⟩), .bool false] 239)))
  have hl := hR.lt
  have hB0 := hBl.alloc hBl.size (.cells #[.int .i64 0, .int .i64 0, .int .u64 0, .int .u64 0, .int .i64 0, .int .i64 0, .pointer (some ⟨p, 0, none⟩), .bool false] 239)
  have hr0 := heap_alloc_new w1 (.cells #[.int .i64 0, .int .i64 0, .int .u64 0, .int .u64 0, .int .i64 0, .int .i64 0, .pointer (some ⟨p, 0, none⟩), .bool false] 239)
  have hS1 : w1.heap.size < (w1.alloc (.cells #[.int .i64 0, .int .i64 0, .int .u64 0, .int .u64 0, .int .i64 0, .int .i64 0, .pointer (some ⟨p, 0, none⟩), .bool false] 239)).heap.size := by simp
  have hS0 := hBl.size
  have HD0 := Lib.hid (show Between N L J w1.heap.size p g bs 0 (w1.alloc (.cells #[.int .i64 0, .int .i64 0, .int .u64 0, .int .u64 0, .int .i64 0, .int .i64 0, .pointer (some ⟨p, 0, none⟩), .bool false] 239)) from
    ⟨[], Gm.rd0 (B2.Bt.unpack bs), HL.out.1, rfl, rfl, rd0_I _, H0.out [w1.heap.size, p, g] _ hB0 (fun k hk => by simp at hk; rcases hk with rfl | rfl | rfl <;> omega),
      ⟨hr0, ⟨0, hR.below ((Below.refl w1.heap.size w1).alloc (Nat.le_refl _) _), rfl⟩, by omega⟩⟩)
  clear hl hB0 hr0 hS1 hS0 hR hBl hp hg y2 x2 x3 C H0 HBX
  generalize w1.alloc (.cells #[.int .i64 0, .int .i64 0, .int .u64 0, .int .u64 0, .int .i64 0, .int .i64 0, .pointer (some ⟨p, 0, none⟩), .bool false] 239) = W0 at HD0 ⊢
  generalize w1.heap.size = A at HD0 ⊢
  gi_loopw [11] (fun i wr => ∃ k : Nat, k ≤ N ∧ i = .int .i64 ((k : Nat) : Int) ∧ Hid (Between N L J A p g bs k wr)) (fun i _ => N - (intOf i).toNat)
  case atStart => exact ⟨0, Nat.zero_le _, rfl, HD0⟩
  case round =>
    clear HD0
    obtain ⟨k, hk, rfl, HBt⟩ := hrel
    obtain ⟨pre, s, hpre, hpl, hsn, hsI, hJs, hRd⟩ := HBt.out
    by_cases hlt : k < N
    · have da : decide ((k : Int) < (N : Int)) = true := decide_eq_true (by omega)
      have da2 : decide (k < N) = true := decide_eq_true hlt
      have CN := next_rdr A p g bs s HL.out.2.1 hsI (by have := HL.out.2.2; omega) wr hRd
      have hI2 := rdNext_I s hsI
      have hn2 : (Gm.rdNext s).2.n = s.n + 1 := rfl
      have hAll : Gm.rdAll (N - k) s = if (Gm.rdNext s).2.c.2 then [] else (Gm.rdNext s).1 :: Gm.rdAll (N - (k + 1)) (Gm.rdNext s).2 := by
        rw [show N - k = (N - (k + 1)) + 1 by omega]
        rfl
      obtain ⟨x, hx⟩ : ∃ x, (Gm.rdNext s).1 = x := ⟨_, rfl⟩
      obtain ⟨s', hs'⟩ : ∃ s', (Gm.rdNext s).2 = s' := ⟨_, rfl⟩
      rw [hx, hs'] at CN hAll
      rw [hs'] at hI2 hn2
      rw [hAll] at hpre
      have CN := Lib.hid CN
      have HP := Lib.hid (And.intro hpre (And.intro hpl (And.intro hI2 (hn2.trans (by rw [hsn])))))
      have HJs := Lib.hid hJs
      clear hx hs' hAll hpre hpl hI2 hn2 hsI hJs hRd HBt hsn
      unfold smV pt at CN
      by_cases hq : s'.c.2 = true
      · gi_wp2_with (refine ⟨trivial, ?_⟩; gi_at_call 95; refine (callsIn_wide.2 CN.out).mono ?_; rintro e w2 ⟨rfl, hR2, hO2⟩; have q7 : (w2.alloc (.cells #[.int .i64 x.t, .int .u64 ((x.v : Nat) : Int)] 70)).cell? ⟨A, 7, none⟩ = some (.bool true) := (by rw [← hq]; exact (cell_of_row _ _ 7 _ _ _ (hR2.below ((Below.refl w2.heap.size w2).alloc (Nat.le_refl _) (.cells #[.int .i64 x.t, .int .u64 ((x.v : Nat) : Int)] 70))).row).trans rfl); have hO3 := hO2.alloc (.cells #[.int .i64 x.t, .int .u64 ((x.v : Nat) : Int)] 70); clear hR2 hO2)
        have HE := Lib.hid (show J [A, p, g] L (w2.alloc (.cells #[.int .i64 x.t, .int .u64 ((x.v : Nat) : Int)] 70)) from by
          have h := HP.out.1
          rw [if_pos hq, List.append_nil] at h
          rw [← h]
          exact HJ.out _ _ _ _ HJs.out (hO3.mono (fun z hz => by simp at hz ⊢; omega)))
        all_goals
          refine ⟨nofun, ?_⟩
          gi_wp2
          refine bodyPost_ret (results_none rfl _ _ _) rfl ?_
          exact ⟨⟨_, rfl⟩, .inl ⟨_, _, rfl, HE.out⟩⟩
      · have hq : s'.c.2 = false := by simpa using hq
        have HQ := Lib.hid (show (pre ++ [x]) ++ Gm.rdAll (N - (k + 1)) s' = L from by
          have h := HP.out.1
          rw [if_neg (by rw [hq]; decide)] at h
          rw [← h, List.append_assoc]
          rfl)
        have hlen : pre ++ [x] <+: L := ⟨_, HQ.out⟩
        gi_wp2_with (refine ⟨trivial, ?_⟩; gi_at_call 95; refine (callsIn_wide.2 CN.out).mono ?_; rintro e w2 ⟨rfl, hR2, hO2⟩; have q7 : (w2.alloc (.cells #[.int .i64 x.t, .int .u64 ((x.v : Nat) : Int)] 70)).cell? ⟨A, 7, none⟩ = some (.bool false) := (by rw [← hq]; exact (cell_of_row _ _ 7 _ _ _ (hR2.below ((Below.refl w2.heap.size w2).alloc (Nat.le_refl _) (.cells #[.int .i64 x.t, .int .u64 ((x.v : Nat) : Int)] 70))).row).trans rfl); have hO3 := hO2.alloc (.cells #[.int .i64 x.t, .int .u64 ((x.v : Nat) : Int)] 70); have HR3 := Lib.hid (hR2.below ((Below.refl w2.heap.size w2).alloc (Nat.le_refl _) (.cells #[.int .i64 x.t, .int .u64 ((x.v : Nat) : Int)] 70))); have hJ3 := HJ.out _ _ _ _ HJs.out (hO3.mono (fun z hz => (by simp at hz ⊢; omega : z ∈ [A, p, g]))); obtain ⟨fn, tmps, assign, body, hy, hRn⟩ := HY.out [A, p, g] pre x (w2.alloc (.cells #[.int .i64 x.t, .int .u64 ((x.v : Nat) : Int)] 70)) hJ3 hlen; have HRn := Lib.hid hRn; unfold smV at hy; clear hR2 hO2 hJ3 hRn)
        refine HRn.out.mono ?_
        rintro e W3 (⟨rfl, hJ3, hk3⟩ | ⟨rfl, hJx3⟩)
        · have HB3 := Lib.hid (show Between N L J A p g bs (k + 1) W3 from ⟨pre ++ [x], s', HQ.out, by rw [List.length_append, HP.out.2.1]; rfl, HP.out.2.2.2, HP.out.2.2.1, hJ3, HR3.out.kept hk3⟩)
          clear hJ3 hk3
          have hw : RowKit.wrap64 ((k : Int) + 1) = ((k + 1 : Nat) : Int) := by
            unfold RowKit.wrap64
            have := HL.out.2.2
            omega
          gi_wp2
          exact ⟨⟨k + 1, by omega, by rw [hw], HB3⟩, by rw [hw]; simp [intOf]; omega⟩
        · have HX3 := Lib.hid (show ∃ T pre', pre' <+: L ∧ Jx T pre' W3 from ⟨_, _, ⟨_, HQ.out⟩, hJx3⟩)
          clear hJx3
          gi_wp2
          refine bodyPost_ret (results_none rfl _ _ _) rfl ?_
          exact ⟨⟨_, rfl⟩, .inr HX3.out⟩
    · have da : decide ((k : Int) < (N : Int)) = false := decide_eq_false (by omega)
      have da2 : decide (k < N) = false := decide_eq_false hlt
      have hke : N - k = 0 := by omega
      rw [hke] at hpre
      have HE := Lib.hid (show J [A, p, g] L wr from by rw [← hpre]; simpa [Gm.rdAll] using hJs)
      clear hpre hpl hsI hJs hRd HBt
      gi_wp2
      go_end0
      exact ⟨⟨_, rfl⟩, .inl ⟨_, _, rfl, HE.out⟩⟩
/-- a chunk's cells -/
def chR (f t N : Int) (d : Value) : Array Value := #[.int .i64 f, .int .i64 t, .int .i64 N, d]
theorem read_stops (m : Nat) (hm1 : 1 ≤ m) (b cap N : Nat) (ad : Option Addr) (f t : Int) (bs : List Nat) (hc0 : ad = none → cap = 0) (hbd : bs.length ≤ 1000000000) (hN : N ≤ 9223372036854775807) (w : World)
    (hb : w.heap[b]? = some (.cells (chR f t N (.slice ad bs.length cap)) 73 (0, 0))) (hB : Bys w ad bs) :
    SeqOwn Fence.wide m Tryd.prog 93 #[pt b] (fun x : Smp => #[smV x]) (fun xs => xs = Gm.rdAll N (Gm.rd0 (B2.Bt.unpack bs))) (fun pre => pre <+: Gm.rdAll N (Gm.rd0 (B2.Bt.unpack bs))) w :=
  fun l J Jx W hW h0 hJ _ hY => read_in m hm1 l b cap N ad f t bs hc0 hbd hN J Jx W ((hW.block b (Array.getElem?_eq_some_iff.1 hb).1).trans hb) (hB.below hW) h0 hJ hY
set_option maxRecDepth 100000 in
theorem readseq_in (F : Fence) (m : Nat) (h5 : F.fn 64) (hro : F.round = none) (f t N : Int) (d : Value) (w : World) :
    CallsIn F m Tryd.prog 64 #[.agg (chR f t N d)] w fun e w' => e = .returned (.func (.func 93) #[] #[pt w.heap.size]) ∧ w' = w.alloc (.cells (chR f t N d) 73) := by
  unfold chR pt
  refine callsIn_of_wp Tryd.func64 rfl h5 ?_ hro
  simp only [Tryd.ntmps64, List.size_toArray, List.length_cons, List.length_nil, Nat.reduceAdd, Nat.reduceSub, Array.replicate_succ, Array.replicate_zero, List.push_toArray, List.append_toArray, List.nil_append, List.cons_append]
  gi_wp2
  go_ret
  exact ⟨rfl, rfl⟩
end Go.Proofs.YtdlifcpdlbmijaaDoor
namespace Go.Proofs.YtdlifcpdlbmijaaDoor
set_option linter.unusedVariables false
set_option linter.unusedSimpArgs false
open Go.RowKit Go.PlainAid Go.Shelf
open B2 (Only Bys Row cellsOf)
open Gm (St Smp)
def strB (bs : List Nat) : ByteArray := ⟨(bs.map UInt8.ofNat).toArray⟩
theorem strB_back (l : List Nat) (hl : ∀ c ∈ l, c < 256) : (strB l).data.toList.map UInt8.toNat = l := by
  unfold strB
  rw [List.map_map]
  have h : l.map (UInt8.toNat ∘ UInt8.ofNat) = l.map id := List.map_congr_left fun c hc => by
    have := hl c hc
    show (UInt8.ofNat c).toNat = c
    rw [UInt8.toNat_ofNat', Nat.mod_eq_of_lt this]
  rw [h, List.map_id]
theorem strB_inj (bs cs : List Nat) (h1 : ∀ c ∈ bs, c < 256) (h2 : ∀ c ∈ cs, c < 256) (h : strB bs = strB cs) : bs = cs := by
  rw [← strB_back bs h1, ← strB_back cs h2, h]
theorem strB_nums (bs : List Nat) : strOfNums (bs.map fun c : Nat => (c : Int)) = strB bs := by
  apply ByteArray.ext
  apply Array.toList_inj.1
  rw [strOfNums_data, List.map_map]
  rfl
theorem toList_eqb (x y : ByteArray) : (x.toList == y.toList) = decide (x = y) := by
  rw [ByteArray.toList_eq, ByteArray.toList_eq]
  by_cases e : x = y
  · rw [decide_eq_true e, e]; simp
  · rw [decide_eq_false e]
    simp only [beq_eq_false_iff_ne, ne_eq]
    intro h
    exact e (ByteArray.ext (Array.toList_inj.1 h))
theorem conv_bys (w : World) (a : Option Addr) (bs : List Nat) (n cap : Nat) (hn : bs.length = n) (H : Bys w a bs) : (convert 71 9 (.slice a n cap)).run Tryd.prog w = .ok (.string (strB bs)) w := by
  by_cases h0 : bs = []
  · subst h0
    subst hn
    show (convert 71 9 (.slice a 0 cap)).run Tryd.prog w = _
    rw [run_convert_bytes_string w 71 9 5 a 0 cap Tryd.underlying71 Tryd.underlying5 Tryd.underlying9]
    cases a <;> simp [Conv.bytesToString, loadCells, strB]
    all_goals rfl
  · obtain ⟨b, off, rfl, hb, hc⟩ := H.2.2 h0
    rw [← strB_nums]
    exact run_convert_bytes_arg (P := Tryd.prog) w 71 5 Tryd.underlying71 Tryd.underlying5 b off n cap (bs.map fun c : Nat => (c : Int)) (by simpa using hn) (fun i hi => by
      rw [hc i (by omega)]
      simp [List.getD, show i < bs.length by omega]) 9 Tryd.underlying9
theorem equal_any (a a2 : Option Addr) (bs cs : List Nat) (n m cap cap2 : Nat) (hn : bs.length = n) (hm : cs.length = m) (w : World) (H : Bys w a bs) (H2 : Bys w a2 cs) :
    Calls Tryd.prog 96 #[.slice a n cap, .slice a2 m cap2] w fun e w' => e = .returned (.bool (decide (bs = cs))) ∧ w' = w := by
  have c1 := conv_bys w a bs n cap hn H
  have c2 := conv_bys w a2 cs m cap2 hm H2
  have he : ((strB bs).toList == (strB cs).toList) = decide (bs = cs) := by
    rw [toList_eqb]
    exact decide_eq_decide.2 ⟨fun h => strB_inj bs cs H.2.1 H2.2.1 h, fun h => by rw [h]⟩
  obtain ⟨x, hx⟩ : ∃ x, decide (bs = cs) = x := ⟨_, rfl⟩
  obtain ⟨y, hy⟩ : ∃ y, strB bs = y := ⟨_, rfl⟩
  obtain ⟨z, hz⟩ : ∃ z, strB cs = z := ⟨_, rfl⟩
  rw [hx] at he ⊢
  rw [hy] at c1 he
  rw [hz] at c2 he
  clear H H2 hx hn hm hy hz
  go_enter Tryd.func96, Tryd.ntmps96
  go_wp2_with fail
  go_ret
  exact ⟨by first | rfl | rw [← he]; rfl, rfl⟩
set_option maxHeartbeats 8000000 in
set_option maxRecDepth 100000 in
theorem same_any (f t N f2 t2 N2 : Int) (a a2 : Option Addr) (bs cs : List Nat) (n m cap cap2 : Nat) (hn : bs.length = n) (hm : cs.length = m) (w : World) (H : Bys w a bs) (H2 : Bys w a2 cs) :
    Calls Tryd.prog 65 #[.agg (chR f t N (.slice a n cap)), .agg (chR f2 t2 N2 (.slice a2 m cap2))] w fun e w' => e = .returned (.bool (decide (f = f2 ∧ t = t2 ∧ N = N2 ∧ bs = cs))) ∧ Below w.heap.size w w' := by
  have A1 := (Below.refl w.heap.size w).alloc (Nat.le_refl _) (.cells (chR f t N (.slice a n cap)) 73)
  have r1 := heap_alloc_new w (.cells (chR f t N (.slice a n cap)) 73)
  have A2 := A1.alloc (by simp) (.cells (chR f2 t2 N2 (.slice a2 m cap2)) 73)
  have r2 := heap_alloc_new (w.alloc (.cells (chR f t N (.slice a n cap)) 73)) (.cells (chR f2 t2 N2 (.slice a2 m cap2)) 73)
  have s1 : (w.alloc (.cells (chR f t N (.slice a n cap)) 73)).heap.size = w.heap.size + 1 := by simp
  rw [s1] at r2
  have r1 := (Below.heap_alloc (w.alloc (.cells (chR f t N (.slice a n cap)) 73)) (.cells (chR f2 t2 N2 (.slice a2 m cap2)) 73) w.heap.size (by rw [s1]; omega)).trans r1
  have C := Lib.hid (equal_any a a2 bs cs n m cap cap2 hn hm _ (H.below A2) (H2.below A2))
  have HA := Lib.hid A2
  unfold chR at *
  generalize hW : (w.alloc (.cells #[.int .i64 f, .int .i64 t, .int .i64 N, .slice a n cap] 73)).alloc (.cells #[.int .i64 f2, .int .i64 t2, .int .i64 N2, .slice a2 m cap2] 73) = W at *
  have a0 : W.cell? ⟨w.heap.size, 0, none⟩ = some (.int .i64 f) := (cell_of_row _ _ 0 _ _ _ r1).trans rfl
  have a1 : W.cell? ⟨w.heap.size, 1, none⟩ = some (.int .i64 t) := (cell_of_row _ _ 1 _ _ _ r1).trans rfl
  have a2' : W.cell? ⟨w.heap.size, 2, none⟩ = some (.int .i64 N) := (cell_of_row _ _ 2 _ _ _ r1).trans rfl
  have a3 : W.cell? ⟨w.heap.size, 3, none⟩ = some (.slice a n cap) := (cell_of_row _ _ 3 _ _ _ r1).trans rfl
  have b0 : W.cell? ⟨w.heap.size + 1, 0, none⟩ = some (.int .i64 f2) := (cell_of_row _ _ 0 _ _ _ r2).trans rfl
  have b1 : W.cell? ⟨w.heap.size + 1, 1, none⟩ = some (.int .i64 t2) := (cell_of_row _ _ 1 _ _ _ r2).trans rfl
  have b2 : W.cell? ⟨w.heap.size + 1, 2, none⟩ = some (.int .i64 N2) := (cell_of_row _ _ 2 _ _ _ r2).trans rfl
  have b3 : W.cell? ⟨w.heap.size + 1, 3, none⟩ = some (.slice a2 m cap2) := (cell_of_row _ _ 3 _ _ _ r2).trans rfl
  subst hW
  clear A1 A2 r1 r2 s1 H H2 hn hm
  by_cases hf : f = f2
  · subst hf
    by_cases ht : t = t2
    · subst ht
      by_cases hN : N = N2
      · subst hN
        have hd : decide (f = f ∧ t = t ∧ N = N ∧ bs = cs) = decide (bs = cs) := decide_eq_decide.2 ⟨fun h => h.2.2.2, fun h => ⟨rfl, rfl, rfl, h⟩⟩
        rw [hd]
        clear hd
        obtain ⟨q, hq⟩ : ∃ q, decide (bs = cs) = q := ⟨_, rfl⟩
        rw [hq] at C ⊢
        clear hq
        go_enter Tryd.func65, Tryd.ntmps65
        go_wp2_with fail
        go_at_call 96
        refine C.out.mono ?_
        rintro e w1 ⟨rfl, rfl⟩
        go_wp2_with fail
        go_ret
        exact ⟨rfl, HA.out⟩
      · have d0 : (N == N2) = false := by simpa using hN
        rw [decide_eq_false (fun h => hN h.2.2.1)]
        clear C
        go_enter Tryd.func65, Tryd.ntmps65
        go_wp2_with fail
        go_ret
        exact ⟨rfl, HA.out⟩
    · have d0 : (t == t2) = false := by simpa using ht
      rw [decide_eq_false (fun h => ht h.2.1)]
      clear C
      go_enter Tryd.func65, Tryd.ntmps65
      go_wp2_with fail
      go_ret
      exact ⟨rfl, HA.out⟩
  · have d0 : (f == f2) = false := by simpa using hf
    rw [decide_eq_false (fun h => hf h.1)]
    clear C
    go_enter Tryd.func65, Tryd.ntmps65
    go_wp2_with fail
    go_ret
    exact ⟨rfl, HA.out⟩
end Go.Proofs.YtdlifcpdlbmijaaDoor
namespace Go.Proofs.YtdlifcpdlbmijaaDoor
set_option linter.unusedVariables false
set_option linter.unusedSimpArgs false
open Go.RowKit Go.PlainAid Go.Shelf
open B2 (Only Bys Row cellsOf)
open Gm (St Smp)
attribute [local go_sem] Oper.semAt_some
theorem Ap.only {w w' : World} {a p d : Nat} {s : St} (h : Ap w a p d s) {S : List Nat} (ho : Only S w w') (h1 : a ∉ S) (h2 : p ∉ S) (h3 : d ∉ S) : Ap w' a p d s :=
  ⟨(ho.block a h.lt h1).trans h.row, h.wr.only ho h2 h3, h.pa, h.da⟩
/-- n: the heap's size when Check began; q: the box of the appender a; B: the heap's size ahead of the loop -/
structure CkI (w : World) (n q a B : Nat) (C : Array Value) (s : St) (T : List Nat) (W : World) : Prop where
  t : ∀ k ∈ T, B ≤ k ∧ k < W.heap.size
  ap : ∃ p d, Ap W a p d s ∧ n + 2 ≤ p ∧ n + 2 ≤ d ∧ p ∉ T ∧ d ∉ T ∧ p ≠ q ∧ d ≠ q
  la : n + 2 ≤ a ∧ a < q
  tab : TabAt W
  lt : 1 < n ∧ n + 1 < q ∧ q < B ∧ B ≤ W.heap.size
  bC : W.heap[n]? = some (.cells C 73 (0, 0))
  bR : W.heap[n + 1]? = some (.cells #[.int .u16 0] 65 (0, 0))
  bA : W.heap[q]? = some (.cells #[pt a] 23 (0, 0))
  sz : w.heap.size = n
  b : Below n w W
theorem CkI.only {w W W' : World} {n q a B : Nat} {C : Array Value} {s : St} {T : List Nat} (h : CkI w n q a B C s T W) (ho : Only T W W') : CkI w n q a B C s T W' := by
  obtain ⟨p, d, h1, h2, h3, h4, h5, h6, h7⟩ := h.ap
  have ht := h.t
  have hl := h.lt
  have ha := h.la
  have hs := ho.size
  have hn : ∀ x, x < B → x ∉ T := fun x hx hm => by have := ht x hm; omega
  exact ⟨fun k hk => ⟨(ht k hk).1, by have := (ht k hk).2; omega⟩, ⟨p, d, h1.only ho (hn a (by omega)) h4 h5, h2, h3, h4, h5, h6, h7⟩, ha, h.tab.only ho (fun x hx => by have := ht x hx; omega), ⟨hl.1, hl.2.1, hl.2.2.1, by omega⟩,
    (ho.block n (by omega) (hn n (by omega))).trans h.bC, (ho.block (n + 1) (by omega) (hn _ (by omega))).trans h.bR, (ho.block q (by omega) (hn q (by omega))).trans h.bA, h.sz,
    h.b.trans (ho.below (by omega) (fun x hx => by have := ht x hx; omega))⟩
theorem CkI.below {w W W' : World} {n q a B : Nat} {C : Array Value} {s : St} {T : List Nat} (h : CkI w n q a B C s T W) (hb : Below W.heap.size W W') : CkI w n q a B C s T W' := h.only (Only.of_below hb T)
theorem kept_below {T : List Nat} {W W' : World} (ht : ∀ k ∈ T, k < W.heap.size) (hb : Below W.heap.size W W') : Kept T W W' := fun k hk => hb.block k (ht k hk)
theorem Kept.trans {T : List Nat} {A B C : World} (h : Kept T A B) (k : Kept T B C) : Kept T A C := fun x hx => (k x hx).trans (h x hx)
/-- behind a sample that is laid behind -/
theorem CkI.put {w W W' : World} {n q a B p d : Nat} {C : Array Value} {s s' : St} {T : List Nat} (h : CkI w n q a B C s T W) (hp : n + 2 ≤ p ∧ n + 2 ≤ d ∧ p ∉ T ∧ d ∉ T ∧ p ≠ q ∧ d ≠ q) (k : ApPost W a p d s' W') : CkI w n q a B C s' T W' ∧ Kept T W W' := by
  obtain ⟨d', k1, k2, ho⟩ := k
  have ht := h.t
  have hl := h.lt
  have ha := h.la
  have hs := ho.size
  have hat : a ∉ T := fun hm => by have := ht a hm; omega
  have hkt : Kept T W W' := fun x hx => ho.block x (ht x hx).2 (fun hm => by
    simp only [List.mem_cons, List.not_mem_nil, or_false] at hm
    rcases hm with rfl | rfl | rfl
    · exact hat hx
    · exact hp.2.2.1 hx
    · exact hp.2.2.2.1 hx)
  have hnm : ∀ x, x < n + 2 → x ∉ [a, p, d] := fun x hx hm => by simp only [List.mem_cons, List.not_mem_nil, or_false] at hm; omega
  refine ⟨⟨fun x hx => ⟨(ht x hx).1, by have := (ht x hx).2; omega⟩, ⟨p, d', k1, hp.1, ?_, hp.2.2.1, ?_, hp.2.2.2.2.1, ?_⟩, ha, h.tab.only ho (fun x hx => by simp only [List.mem_cons, List.not_mem_nil, or_false] at hx; omega), ⟨hl.1, hl.2.1, hl.2.2.1, by omega⟩,
    (ho.block n (by omega) (hnm n (by omega))).trans h.bC, (ho.block (n + 1) (by omega) (hnm _ (by omega))).trans h.bR, (ho.block q (by omega) (fun hm => by simp only [List.mem_cons, List.not_mem_nil, or_false] at hm; omega)).trans h.bA, h.sz,
    h.b.trans (ho.below (by omega) (fun x hx => by simp only [List.mem_cons, List.not_mem_nil, or_false] at hx; omega))⟩, hkt⟩
  · rcases k2 with rfl | k2
    · exact hp.2.1
    · omega
  · rcases k2 with rfl | k2
    · exact hp.2.2.2.1
    · intro hm; have := ht _ hm; omega
  · rcases k2 with rfl | k2
    · exact hp.2.2.2.2.2
    · omega
/-- a sample is laid behind, or it is told why not -/
theorem ck_append (w W : World) (n q a B : Nat) (C : Array Value) (s : St) (T : List Nat) (x : Smp) (hx : Gm.OkS x) (hI : Gm.Inv s) (hn : s.n ≤ 1000) (hB : s.out.length + 1000 ≤ 1000000000) (H : CkI w n q a B C s T W) :
    Calls Tryd.prog 9 #[pt a, smV x] W fun e w' => e = .returned (.int .u16 ((apErr s x : Nat) : Int)) ∧ CkI w n q a B C (if apErr s x = 0 then Gm.put s x else s) T w' ∧ Kept T W w' := by
  obtain ⟨p, d, h1, h2⟩ := H.ap
  have hl := H.lt
  have hla := H.la
  refine (append_any a p d s x hx hI hn hB W h1 H.tab (by omega)).mono ?_
  rintro e w' ⟨rfl, h4, h5⟩
  refine ⟨rfl, ?_⟩
  by_cases h : apErr s x = 0
  · rw [if_pos h]; exact H.put h2 (h4 h)
  · rw [if_neg h]; exact ⟨H.below (h5 h), kept_below (fun k hk => (H.t k hk).2) (h5 h)⟩
/-- an appender takes them all -/
def takesL : St → List Smp → Bool
  | _, [] => true
  | s, x :: l => decide (apErr s x = 0) && takesL (Gm.put s x) l
theorem takesL_app (s : St) (l m : List Smp) : takesL s (l ++ m) = (takesL s l && takesL (l.foldl Gm.put s) m) := by
  induction l generalizing s with
  | nil => simp [takesL]
  | cons a l ih => simp [takesL, ih, Bool.and_assoc]
end Go.Proofs.YtdlifcpdlbmijaaDoor
namespace Go.Proofs.YtdlifcpdlbmijaaDoor
set_option linter.unusedVariables false
set_option linter.unusedSimpArgs false
open Go.RowKit Go.PlainAid Go.Shelf
open B2 (Only Wr PutPost Bys Row cellsOf Rf RfPost)
open Gm (St Smp)
theorem run_succ (l : List Smp) (i : Nat) (hi : i < l.length) : Gm.run (l.take (i + 1)) = Gm.put (Gm.run (l.take i)) l[i] := by
  rw [List.take_succ_eq_append_getElem hi, Gm.run_snoc]
theorem run_one (l : List Smp) (h : 0 < l.length) : (Gm.run (l.take 1)).out = B2.Bt.vb (B2.Bt.zz l[0].t) ++ B2.Bt.top l[0].v 64 ∧ (Gm.run (l.take 1)).ws = 0 ∧ (Gm.run (l.take 1)).we = 0 := by
  rw [run_succ l 0 h]
  refine ⟨?_, rfl, rfl⟩
  show [] ++ Gm.bitsOf Gm.st0 l[0] = _
  rw [List.nil_append]
  rfl
theorem run_len (l : List Smp) (i : Nat) (hi : i ≤ l.length) : (Gm.run (l.take i)).n = i := by rw [Gm.run_n, List.length_take]; omega
theorem run_last (l : List Smp) (i : Nat) (hi : i < l.length) : (Gm.run (l.take (i + 1))).last = l[i] := by rw [run_succ l i hi]; rfl
theorem run_frm (l : List Smp) (i : Nat) (hi : i < l.length) : (Gm.run (l.take (i + 1))).frm = (l[0]'(by omega)).t := by
  induction i with
  | zero => rw [run_succ l 0 hi]; rfl
  | succ i ih =>
    rw [run_succ l (i + 1) hi]
    show (if (Gm.run (l.take (i + 1))).n = 0 then _ else (Gm.run (l.take (i + 1))).frm) = _
    rw [run_len l (i + 1) (by omega), if_neg (by omega), ih (by omega)]
theorem getD_is (l : List Smp) (i : Nat) (hi : i < l.length) : l.getD i ⟨0, 0⟩ = l[i] := by simp [List.getD, List.getElem?_eq_getElem hi]
theorem step_time (l : List Smp) (i : Nat) (h1 : 1 ≤ i) (hi : i < l.length) : Gm.timeB (Gm.run (l.take i)) l[i].t = timeL l i := by
  obtain ⟨j, rfl⟩ : ∃ j, i = j + 1 := ⟨i - 1, by omega⟩
  have hl := run_last l j (by omega)
  have hn := run_len l (j + 1) (by omega)
  unfold Gm.timeB timeL
  rw [hn, hl]
  by_cases hj : j = 0
  · subst hj
    rw [if_pos rfl, if_pos rfl, getD_is l 1 hi, getD_is l 0 (by omega)]
  · obtain ⟨k, rfl⟩ : ∃ k, j = k + 1 := ⟨j - 1, by omega⟩
    rw [if_neg (by omega), if_neg (by omega)]
    have hg : (Gm.run (l.take (k + 1 + 1))).gap = Gm.gapOf l[k + 1].t (l[k]'(by omega)).t := by
      rw [run_succ l (k + 1) (by omega)]
      show Gm.gapOf l[k + 1].t (Gm.run (l.take (k + 1))).last.t = _
      rw [run_last l k (by omega)]
    rw [hg, show k + 1 + 1 - 1 = k + 1 by omega, show k + 1 + 1 - 2 = k by omega, getD_is l (k + 1 + 1) hi, getD_is l (k + 1) (by omega), getD_is l k (by omega)]
/-- the xor of neighbours -/
def xrL (l : List Smp) (i : Nat) : Nat := (l.getD i ⟨0, 0⟩).v ^^^ (l.getD (i - 1) ⟨0, 0⟩).v
theorem step_put (l : List Smp) (i : Nat) (h1 : 1 ≤ i) (hi : i < l.length) : (Gm.run (l.take (i + 1))).out = (Gm.run (l.take i)).out ++ timeL l i ++ Gm.numB (Gm.run (l.take i)).ws (Gm.run (l.take i)).we (xrL l i) ∧
    (Gm.run (l.take (i + 1))).ws = Gm.numS (Gm.run (l.take i)).ws (Gm.run (l.take i)).we (xrL l i) ∧ (Gm.run (l.take (i + 1))).we = Gm.numE (Gm.run (l.take i)).ws (Gm.run (l.take i)).we (xrL l i) := by
  have hn := run_len l i (by omega)
  have hx : xrL l i = l[i].v ^^^ (Gm.run (l.take i)).last.v := by
    obtain ⟨j, rfl⟩ : ∃ j, i = j + 1 := ⟨i - 1, by omega⟩
    unfold xrL
    rw [run_last l j (by omega), getD_is l (j + 1) hi, show j + 1 - 1 = j by omega, getD_is l j (by omega)]
  have ht := step_time l i h1 hi
  rw [run_succ l i hi, hx]
  refine ⟨?_, ?_, ?_⟩
  · show (Gm.run (l.take i)).out ++ Gm.bitsOf (Gm.run (l.take i)) l[i] = _
    unfold Gm.bitsOf
    rw [hn, if_neg (by omega), ht, List.append_assoc]
  · show (if (Gm.run (l.take i)).n = 0 then _ else _) = _
    rw [hn, if_neg (by omega)]
  · show (if (Gm.run (l.take i)).n = 0 then _ else _) = _
    rw [hn, if_neg (by omega)]
theorem timeL_len (l : List Smp) (i : Nat) : (timeL l i).length ≤ 80 := by
  unfold timeL
  split
  · exact vb_len _ (Gm.gapOf_lt _ _)
  · exact Nat.le_trans (stepB_len _) (by decide)
theorem win_le (l : List Smp) (hl : ∀ a ∈ l, Gm.OkS a) (i : Nat) : ((Gm.run (l.take i)).ws = 0 ∧ (Gm.run (l.take i)).we = 0) ∨ ((Gm.run (l.take i)).ws < (Gm.run (l.take i)).we ∧ (Gm.run (l.take i)).we ≤ 64 ∧ (Gm.run (l.take i)).ws ≤ 31) :=
  (Gm.inv_run (l.take i) (fun a ha => hl a (List.mem_of_mem_take ha))).win
theorem xrL_lt (l : List Smp) (hl : ∀ a ∈ l, Gm.OkS a) (i : Nat) (hi : i < l.length) : xrL l i < 18446744073709551616 := by
  unfold xrL
  rw [getD_is l i hi, getD_is l (i - 1) (by omega)]
  exact Gm.xor_lt64 (hl _ (List.getElem_mem _)).2.2 (hl _ (List.getElem_mem _)).2.2
theorem out_len (l : List Smp) (hl : ∀ a ∈ l, Gm.OkS a) (i : Nat) (hi : i ≤ l.length) : (Gm.run (l.take i)).out.length ≤ 160 * i := by
  induction i with
  | zero => exact Nat.le_refl 0
  | succ i ih =>
    by_cases h0 : i = 0
    · subst h0
      have h := (run_one l (by omega)).1
      have hk := hl l[0] (List.getElem_mem _)
      rw [show (0 : Nat) + 1 = 1 from rfl, h, List.length_append, B2.Bt.top_length]
      have := vb_len (B2.Bt.zz l[0].t) (B2.Bt.zz_lt _ hk.1 hk.2.1)
      omega
    · have h := (step_put l i (by omega) (by omega)).1
      rw [h, List.length_append, List.length_append]
      have h1 := timeL_len l i
      have h2 := numB_len (Gm.run (l.take i)).ws (Gm.run (l.take i)).we (xrL l i) (xrL_lt l hl i (by omega)) (win_le l hl i)
      have := ih (by omega)
      omega
/-- the document's bits behind a call; r: the struct; all of it the call's own -/
def Cs (w W : World) (r : Nat) (B : List Bool) : Prop := w.heap.size ≤ r ∧ Below w.heap.size w W ∧ ∃ g, w.heap.size ≤ g ∧ Rf W r g B 0
theorem Cs.below {w W W' : World} {r : Nat} {B : List Bool} (h : Cs w W r B) (hb : Below W.heap.size W W') : Cs w W' r B := by
  obtain ⟨h1, h2, g, h3, h4⟩ := h
  exact ⟨h1, h2.trans (hb.mono h2.size), g, h3, h4.below hb⟩
theorem Cs.post {w W W' : World} {r g : Nat} {B B' : List Bool} (h : Cs w W r B) (hg : w.heap.size ≤ g) (hp : RfPost W r g B' 0 W') : Cs w W' r B' := by
  obtain ⟨h1, h2, _⟩ := h
  obtain ⟨g', h3, h4, h5⟩ := hp
  have hs := h2.size
  exact ⟨h1, h2.trans (h5.below hs (by simp only [List.mem_cons, List.not_mem_nil, or_false]; rintro x (rfl | rfl) <;> assumption)), g', by omega, h3⟩
theorem cs_bit {w W : World} {r : Nat} {B : List Bool} (b : Bool) (h : Cs w W r B) (hB : B.length + 1 ≤ 1000000000) : Calls Tryd.prog 89 #[.pointer (some ⟨r, 0, none⟩), .bool b] W fun e w' => e = .returned (.tuple #[]) ∧ Cs w w' r (B ++ [b]) := by
  obtain ⟨g, hg, hR⟩ := h.2.2
  exact (B2.fbit_any r g B 0 b W hR hB).mono fun e w' ⟨h1, h2⟩ => ⟨h1, h.post hg h2⟩
theorem cs_bits {w W : World} {r : Nat} {B : List Bool} (v n : Nat) (hv : v < 18446744073709551616) (hn : n ≤ 64) (h : Cs w W r B) (hB : B.length + n ≤ 1000000000) : Calls Tryd.prog 87 #[.pointer (some ⟨r, 0, none⟩), .int .u64 ((v : Nat) : Int), .int .i64 ((n : Nat) : Int)] W fun e w' => e = .returned (.int .u16 0) ∧ Cs w w' r (B ++ B2.Bt.top v n) := by
  obtain ⟨g, hg, hR⟩ := h.2.2
  exact (B2.fbits_good r g B 0 v n hv hn W hR hB).mono fun e w' ⟨h1, h2⟩ => ⟨h1, h.post hg h2⟩
theorem cs_sgn {w W : World} {r : Nat} {B : List Bool} (v : Int) (hv1 : -9223372036854775808 ≤ v) (hv2 : v ≤ 9223372036854775807) (h : Cs w W r B) (hB : B.length + 80 ≤ 1000000000) : Calls Tryd.prog 86 #[.pointer (some ⟨r, 0, none⟩), .int .i64 v] W fun e w' => e = .returned (.tuple #[]) ∧ Cs w w' r (B ++ B2.Bt.vb (B2.Bt.zz v)) := by
  obtain ⟨g, hg, hR⟩ := h.2.2
  exact (B2.fputsgn_any r g B 0 v hv1 hv2 W hR hB).mono fun e w' ⟨h1, h2⟩ => ⟨h1, h.post hg h2⟩
theorem cs_time {w W : World} {r b n cap i : Nat} {B : List Bool} (l : List Smp) (hn : l.length = n) (h1 : 1 ≤ i) (hi : i < n) (hn9 : n ≤ 1000000) (hB : B.length + 200 ≤ 1000000000) (q p0 p1 p2 c c0 c1 c2 o9 oa oc od : Nat) (HS : Sam w b l) (HT : TabB w q p0 p1 p2 c c0 c1 c2 o9 oa oc od) (h : Cs w W r B) :
    Calls Tryd.prog 88 #[.pointer (some ⟨r, 0, none⟩), .slice (some ⟨b, 0, none⟩) n cap, .int .i64 ((i : Nat) : Int)] W fun e w' => e = .returned (.tuple #[]) ∧ Cs w w' r (B ++ timeL l i) := by
  obtain ⟨g, hg, hR⟩ := h.2.2
  have hr := h.1
  have HS' := HS.below h.2.1
  have HT' := HT.below h.2.1
  obtain ⟨j, rfl⟩ : ∃ j, i = j + 1 := ⟨i - 1, by omega⟩
  by_cases hj : j = 0
  · subst hj
    exact (time_one r g b n cap B l hn hi hB W hR HS').mono fun e w' ⟨h1, h2⟩ => ⟨h1, h.post hg h2⟩
  · obtain ⟨k, rfl⟩ : ∃ k, j = k + 1 := ⟨j - 1, by omega⟩
    have z0 := World.block_lt_of_cell? _ _ HT.g
    have z1 := World.block_lt_of_cell? _ _ HT.r.1
    have z2 := World.block_lt_of_cell? _ _ HT.t0.1
    have z3 := World.block_lt_of_cell? _ _ HT.t1.1
    have z4 := World.block_lt_of_cell? _ _ HT.t2.1
    have z0' : 0 < w.heap.size := z0
    have z1' : q < w.heap.size := z1
    have z2' : p0 < w.heap.size := z2
    have z3' : p1 < w.heap.size := z3
    have z4' : p2 < w.heap.size := z4
    exact (time_more r g b n cap k B l hn hi hn9 hB q p0 p1 p2 c c0 c1 c2 o9 oa oc od W hR HS' HT' (by omega)).mono fun e w' ⟨h1, h2⟩ => ⟨h1, h.post hg h2⟩
end Go.Proofs.YtdlifcpdlbmijaaDoor
