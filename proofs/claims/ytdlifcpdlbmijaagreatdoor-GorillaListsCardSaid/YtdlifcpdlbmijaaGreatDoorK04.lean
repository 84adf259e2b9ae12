/-
  PACKED: GoF, GoC, GoG, B2RefA, B2RefB, B2RefC, B2RefD, GwL
-/
import Derived.Test.YtdlifcpdlbmijaaGreatDoorK03
import Derived.RangeFuncNested
import Derived.RangeFuncBound
import Derived.RangeFuncCalls
import Derived.RangeFuncLeaves
import Derived.RangeFuncBox
import Derived.RangeFuncFrom
import Derived.Shelf.Abstract
import Derived.Shelf.RegionOpen
import Derived.OwnWalkIn
import Derived.TacticsInMore
import Derived.LoopNIn
import Derived.LoopIn
import Derived.Maps.AppendAt
import Derived.Deep.RegionHeld3
import Derived.BigQuiet
set_option linter.unusedVariables false
set_option linter.unusedSimpArgs false
namespace Go.Proofs.YtdlifcpdlbmijaaGreatDoor
set_option linter.unusedVariables false
set_option linter.unusedSimpArgs false
open Go.RowKit Go.PlainAid Go.Shelf
open B2 (Only Bys Row cellsOf)
open Gm (St Smp Chk)
attribute [local go_sem] Oper.semAt_some
/-- a part's number -/
abbrev Idx (n : Nat) := { j : Nat // 120 * j < n }
def allP (n : Nat) : List (Idx n) := (List.range (Gm.cnt n)).attach.map fun x => ⟨x.1, by have := List.mem_range.1 x.2; unfold Gm.cnt at this; omega⟩
theorem allP_len (n : Nat) : (allP n).length = Gm.cnt n := by simp [allP]
theorem allP_get (n k : Nat) (h : k < (allP n).length) : (allP n)[k].1 = k := by simp [allP]
/-- two blocks are kept -/
def KpS (Bs Bn : Nat) (W W' : World) : Prop := W'.heap[Bs]? = W.heap[Bs]? ∧ W'.heap[Bn]? = W.heap[Bn]?
theorem KpS.refl (Bs Bn : Nat) (W : World) : KpS Bs Bn W W := ⟨rfl, rfl⟩
theorem KpS.trans {Bs Bn : Nat} {A B C : World} (h : KpS Bs Bn A B) (k : KpS Bs Bn B C) : KpS Bs Bn A C := ⟨k.1.trans h.1, k.2.trans h.2⟩
theorem KpS.first {Bs Bn : Nat} {A B : World} (h : KpS Bs Bn A B) : B.cell? ⟨Bs, 0, none⟩ = A.cell? ⟨Bs, 0, none⟩ := World.cell?_of_block h.1
theorem KpS.second {Bs Bn : Nat} {A B : World} (h : KpS Bs Bn A B) : B.cell? ⟨Bn, 0, none⟩ = A.cell? ⟨Bn, 0, none⟩ := World.cell?_of_block h.2
theorem KpS.put {Bs Bn : Nat} (W : World) (l : Nat) (o' : Obj) (h1 : Bs < l) (h2 : Bn < l) : KpS Bs Bn W (W.putObj l o') := ⟨World.putObj_heap_other (by omega), World.putObj_heap_other (by omega)⟩
theorem KpS.below {Bs Bn N : Nat} {A B : World} (h : Below N A B) (h1 : Bs < N) (h2 : Bn < N) : KpS Bs Bn A B := ⟨h.block Bs h1, h.block Bn h2⟩
/-- the part that begins at i -/
def partV (b off n i : Nat) : Value := .slice (some ⟨b, off + i * 2, none⟩) (min 120 (n - i)) (min 120 (n - i))
set_option maxRecDepth 100000 in
set_option maxHeartbeats 2000000 in
theorem parts1_in (F : Fence) (m : Nat) (h7 : F.fn 74) (hro : F.round = none) (hm1 : 1 ≤ m) (l Bs Bn cap b off n : Nat) (a : Option Addr) (ha : 0 < n → a = some ⟨b, off, none⟩) (hc0 : n ≤ cap) (hz : n ≤ 1000000000) (J Jx : List (Idx n) → World → Prop)
    (hY : ∀ pre x W, J pre W → pre.length < (allP n).length → YieldAt F (m - 1) Tryz.prog l #[partV b off n (120 * x.1)] W fun e W' =>
      (e = .returned (.bool true) ∧ J (pre ++ [x]) W' ∧ KpS Bs Bn W W') ∨ (e = .returned (.bool false) ∧ Jx (pre ++ [x]) W'))
    (W : World) (hJ : AbidesFrom W.heap.size J) (hBs : W.cell? ⟨Bs, 0, none⟩ = some (.slice a n cap)) (hBn : W.cell? ⟨Bn, 0, none⟩ = some (.int .i64 120)) (h0 : J [] W) :
    CallsIn F m Tryz.prog 74 #[.func (.yield l) #[] #[], .pointer (some ⟨Bs, 0, none⟩), .pointer (some ⟨Bn, 0, none⟩)] W fun e W' => (∃ v, e = .returned v) ∧
      ((∃ ys, ys = allP n ∧ J ys W') ∨ (∃ pre, pre <+: allP n ∧ Jx pre W')) := by
  have HJ := Lib.hid hJ
  have HY := Lib.hid hY
  have HC := Lib.hid (And.intro hBs hBn)
  clear hJ hY
  refine callsIn_of_wp Tryz.func74 rfl h7 ?_ hro
  simp only [Tryz.ntmps74, List.size_toArray, List.length_cons, List.length_nil, Nat.reduceAdd, Nat.reduceSub, Array.replicate_succ, Array.replicate_zero, List.push_toArray, List.append_toArray, List.nil_append, List.cons_append]
  gi_wp2
  gi_loopw [4, 5] (fun i e wr => ∃ k : Nat, k ≤ Gm.cnt n ∧ i = .int .i64 ((120 * k : Nat) : Int) ∧ Hid (J ((allP n).take k) wr) ∧ Hid (KpS Bs Bn W wr))
    (fun i _ _ => n + 120 - (intOf i).toNat)
  case atStart => exact ⟨0, Nat.zero_le _, rfl, Lib.hid h0, Lib.hid (KpS.refl _ _ _)⟩
  case round =>
    obtain ⟨k, hk, rfl, hJs, hnx⟩ := hrel
    have q1 := hnx.out.first.trans HC.out.1
    have q2 := hnx.out.second.trans HC.out.2
    obtain ⟨i0, hi0⟩ : ∃ i0, 120 * k = i0 := ⟨_, rfl⟩
    rw [hi0]
    by_cases hlt : i0 < n
    · have ha2 := ha (by omega)
      subst ha2
      have da : decide ((i0 : Int) < (n : Int)) = true := decide_eq_true (by omega)
      have da2 : decide (i0 < n) = true := decide_eq_true hlt
      obtain ⟨r, hr⟩ : ∃ r, n - i0 = r := ⟨_, rfl⟩
      obtain ⟨s, hs⟩ : ∃ s, min 120 r = s := ⟨_, rfl⟩
      have hmin : (if (120 : Int) < (r : Int) then (120 : Int) else (r : Int)) = (s : Int) := by rw [← hs]; split <;> omega
      have hs120 : s ≤ 120 := by omega
      have hsr : i0 + s ≤ n := by omega
      have hs0 : 0 < s := by omega
      have hkl : k < (allP n).length := by rw [allP_len]; unfold Gm.cnt; omega
      obtain ⟨x, hx⟩ : ∃ x, (allP n)[k] = x := ⟨_, rfl⟩
      have hxk : x.1 = k := by rw [← hx]; exact allP_get n k hkl
      obtain ⟨fn, tmps, assign, body, hy, hR⟩ := HY.out _ x wr.drew (HJ.out _ _ _ none hJs.out ⟨rfl, rfl, rfl, Nat.le_refl _, fun _ _ _ => rfl⟩ (fun r e => by cases e)) (by rw [List.length_take]; omega)
      have HT := Lib.hid (show (allP n).take k ++ [x] = (allP n).take (k + 1) by rw [← hx, List.take_succ_eq_append_getElem hkl])
      unfold partV at hy
      rw [hxk, hi0, hr, hs] at hy
      have HR := Lib.hid hR
      clear hx hR hxk
      have q1d : wr.drew.cell? ⟨Bs, 0, none⟩ = some (.slice (some ⟨b, off, none⟩) n cap) := q1
      have q2d : wr.drew.cell? ⟨Bn, 0, none⟩ = some (.int .i64 120) := q2
      have hin : (i0 : Int) ≤ (n : Int) := by omega
      have hi00 : (0 : Int) ≤ (i0 : Int) := by omega
      have hrI : (n : Int) - (i0 : Int) = (r : Int) := by omega
      have hminI : min (120 : Int) (r : Int) = (s : Int) := by omega
      have hcne : ¬ cap = i0 := by omega
      have hcne2 : ¬ i0 = cap := by omega
      obtain ⟨e1, he1⟩ : ∃ e1, i0 + s = e1 := ⟨_, rfl⟩
      have he1I : (i0 : Int) + (s : Int) = (e1 : Int) := by omega
      have he1s : e1 - i0 = s := by omega
      have he1c : (e1 : Int) ≤ (cap : Int) := by omega
      have he1d : (i0 : Int) ≤ (e1 : Int) := by omega
      have he1w : ¬ s = 0 := by omega
      have HI := Lib.hid (And.intro hi0 hk)
      have HKN := Lib.hid (show 120 * (k + 1) = i0 + 120 ∧ k + 1 ≤ Gm.cnt n from ⟨by omega, by unfold Gm.cnt; omega⟩)
      clear hlt hs hi0 hk hmin
      gi_wp2
      gi_region
      all_goals gi_wp2
      all_goals
        refine HR.out.mono ?_
        rintro e W3 (⟨rfl, hJ3, hk3⟩ | ⟨rfl, hJx3⟩)
        · have J3 := Lib.hid (HT.out ▸ hJ3)
          have B3 := Lib.hid ((show KpS Bs Bn W wr.drew from hnx.out).trans hk3)
          have q3 := hk3.second.trans q2d
          clear hJ3 hk3
          gi_wp2
          go_roundw
          case rel => exact ⟨k + 1, HKN.out.2, by rw [HKN.out.1]; go_num, J3, B3⟩
          case measure => simp [intOf]; omega
        · have X3 := Lib.hid hJx3
          clear hJx3
          gi_wp2
          refine bodyPost_ret (results_none rfl _ _ _) rfl ?_
          exact ⟨⟨_, rfl⟩, .inr ⟨_, ⟨(allP n).drop (k + 1), by rw [HT.out, List.take_append_drop]⟩, X3.out⟩⟩
    · have da : decide ((i0 : Int) < (n : Int)) = false := decide_eq_false (by omega)
      have da2 : decide (i0 < n) = false := decide_eq_false hlt
      have hke : k = Gm.cnt n := by unfold Gm.cnt at *; omega
      gi_wp2
      go_end0
      exact ⟨⟨_, rfl⟩, .inl ⟨_, rfl, by have := hJs.out; rwa [hke, ← allP_len, List.take_length] at this⟩⟩
end Go.Proofs.YtdlifcpdlbmijaaGreatDoor
namespace Go.Proofs.YtdlifcpdlbmijaaGreatDoor
set_option linter.unusedVariables false
set_option linter.unusedSimpArgs false
open Go.RowKit Go.PlainAid Go.Shelf
open B2 (Only Bys Row cellsOf)
open Gm (St Smp Chk)
/-- one chunk in memory, at o of block b -/
def ChkAt (w : World) (b o : Nat) (c : Chk) : Prop := w.cell? ⟨b, o, none⟩ = some (.int .i64 c.frm) ∧ w.cell? ⟨b, o + 1, none⟩ = some (.int .i64 c.to) ∧ w.cell? ⟨b, o + 2, none⟩ = some (.int .i64 ((c.n : Nat) : Int)) ∧ ∃ ad cap, w.cell? ⟨b, o + 3, none⟩ = some (.slice ad c.bs.length cap) ∧ Bys w ad c.bs
/-- chunks in memory -/
def Chs (w : World) (a : Option Addr) (cs : List Chk) : Prop := cs ≠ [] → ∃ b off, a = some ⟨b, off, none⟩ ∧ b < w.heap.size ∧ ∀ k (h : k < cs.length), ChkAt w b (off + k * 4) cs[k]
theorem ChkAt.below {w w' : World} {b o : Nat} {c : Chk} (H : ChkAt w b o c) (hb : Below w.heap.size w w') : ChkAt w' b o c := by
  obtain ⟨h1, h2, h3, ad, cap, h4, h5⟩ := H
  exact ⟨cell_below h1 hb, cell_below h2 hb, cell_below h3 hb, ad, cap, cell_below h4 hb, h5.below hb⟩
theorem Chs.below {w w' : World} {a : Option Addr} {cs : List Chk} (H : Chs w a cs) (hb : Below w.heap.size w w') : Chs w' a cs := fun hn => by
  obtain ⟨b, off, h1, h2, h3⟩ := H hn
  exact ⟨b, off, h1, Nat.lt_of_lt_of_le h2 hb.size, fun k hk => (h3 k hk).below hb⟩
theorem keep8 {W W' : World} {b1 o1 b2 o2 : Nat} {v0 v1 v2 v3 u0 u1 u2 u3 : Value} (h : (W.cell? ⟨b1, o1, none⟩ = some v0 ∧ W.cell? ⟨b1, o1 + 1, none⟩ = some v1 ∧ W.cell? ⟨b1, o1 + 2, none⟩ = some v2 ∧ W.cell? ⟨b1, o1 + 3, none⟩ = some v3) ∧ (W.cell? ⟨b2, o2, none⟩ = some u0 ∧ W.cell? ⟨b2, o2 + 1, none⟩ = some u1 ∧ W.cell? ⟨b2, o2 + 2, none⟩ = some u2 ∧ W.cell? ⟨b2, o2 + 3, none⟩ = some u3)) (hb : Below W.heap.size W W') :
    (W'.cell? ⟨b1, o1, none⟩ = some v0 ∧ W'.cell? ⟨b1, o1 + 1, none⟩ = some v1 ∧ W'.cell? ⟨b1, o1 + 2, none⟩ = some v2 ∧ W'.cell? ⟨b1, o1 + 3, none⟩ = some v3) ∧ (W'.cell? ⟨b2, o2, none⟩ = some u0 ∧ W'.cell? ⟨b2, o2 + 1, none⟩ = some u1 ∧ W'.cell? ⟨b2, o2 + 2, none⟩ = some u2 ∧ W'.cell? ⟨b2, o2 + 3, none⟩ = some u3) :=
  ⟨⟨cell_below h.1.1 hb, cell_below h.1.2.1 hb, cell_below h.1.2.2.1 hb, cell_below h.1.2.2.2 hb⟩, ⟨cell_below h.2.1 hb, cell_below h.2.2.1 hb, cell_below h.2.2.2.1 hb, cell_below h.2.2.2.2 hb⟩⟩
set_option maxHeartbeats 16000000 in
set_option maxRecDepth 100000 in
theorem samechs_any (a1 a2 : Option Addr) (c1 c2 n k : Nat) (cs ds : List Chk) (hn : cs.length = n) (hk : ds.length = k) (w : World) (H1 : Chs w a1 cs) (H2 : Chs w a2 ds) (hz : n ≤ 1000000000) (hz2 : k ≤ 1000000000) (hb1 : ∀ c ∈ cs, c.bs.length ≤ 1000000000) (hb2 : ∀ c ∈ ds, c.bs.length ≤ 1000000000) : Calls Tryz.prog 17 #[.slice a1 n c1, .slice a2 k c2] w fun e w' => e = .returned (.bool (decide (cs = ds))) ∧ Below w.heap.size w w' := by
  by_cases hlen : n = k
  · subst hlen
    have HL := Lib.hid H1
    have HM := Lib.hid H2
    have HN := Lib.hid hn
    have HK := Lib.hid hk
    have HB1 := Lib.hid hb1
    have HB2 := Lib.hid hb2
    clear H1 H2 hn hk hb1 hb2
    go_enter Tryz.func17, Tryz.ntmps17
    go_wp2
    go_loopw [5] (fun i wr => ∃ k : Nat, k ≤ n ∧ i = .int .i64 k ∧ Hid (Below w.heap.size w wr) ∧ Hid (cs.take k = ds.take k)) (fun i _ => (n - (intOf i).toNat))
    case atStart => exact ⟨0, Nat.zero_le _, rfl, Lib.hid (Below.refl _ _), Lib.hid rfl⟩
    case round =>
      obtain ⟨k, hk1, rfl, HB, HT⟩ := hrel
      by_cases hkn : k < n
      · have da : decide ((k : Int) < (n : Int)) = true := decide_eq_true (by omega)
        have da2 : decide (k < n) = true := decide_eq_true hkn
        have hkl : k < cs.length := by rw [HN.out]; exact hkn
        have hkm : k < ds.length := by rw [HK.out]; exact hkn
        have hbd : Below w.heap.size w wr.drew := by have := HB.out; exact ⟨this.os, this.tape, this.output, this.size, this.block⟩
        obtain ⟨b1, o1, rfl, hl1, hc1⟩ := (HL.out.below hbd) (by intro e; rw [e] at hkl; simp at hkl)
        obtain ⟨b2, o2, rfl, hl2, hc2⟩ := (HM.out.below hbd) (by intro e; rw [e] at hkm; simp at hkm)
        obtain ⟨p0, p1, p2, ad1, cp1, p3, hB1⟩ := hc1 k hkl
        obtain ⟨q0, q1, q2, ad2, cp2, q3, hB2⟩ := hc2 k hkm
        have hx1 := HB1.out _ (List.getElem_mem hkl)
        have hx2 := HB2.out _ (List.getElem_mem hkm)
        obtain ⟨x, hx⟩ : ∃ x, cs[k] = x := ⟨_, rfl⟩
        obtain ⟨y, hy⟩ : ∃ y, ds[k] = y := ⟨_, rfl⟩
        have HX := Lib.hid (And.intro ((List.getElem?_eq_getElem hkl).trans (congrArg some hx)) ((List.getElem?_eq_getElem hkm).trans (congrArg some hy)))
        rw [hx] at p0 p1 p2 p3 hB1 hx1
        rw [hy] at q0 q1 q2 q3 hB2 hx2
        obtain ⟨xf, xt, xn, xb⟩ := x
        obtain ⟨yf, yt, yn, yb⟩ := y
        simp only at p0 p1 p2 p3 hB1 hx1 q0 q1 q2 q3 hB2 hx2
        clear hc1 hc2 hx hy hl1 hl2
        by_cases hf : xf = yf
        · subst hf
          by_cases ht : xt = yt
          · subst ht
            by_cases hnn : xn = yn
            · subst hnn
              have e0 : ((xf : Int) != xf) = false := by simp
              have e1 : ((xt : Int) != xt) = false := by simp
              have e2 : ((xn : Int) != (xn : Int)) = false := by simp
              obtain ⟨xl, hxl⟩ : ∃ xl, xb.length = xl := ⟨_, rfl⟩
              obtain ⟨yl, hyl⟩ : ∃ yl, yb.length = yl := ⟨_, rfl⟩
              rw [hxl] at p3 hx1
              rw [hyl] at q3 hx2
              have CB := Lib.hid (fun W (hW : Below wr.drew.heap.size wr.drew W) => samebyt_any ad1 ad2 cp1 cp2 xl yl xb yb hxl hyl W (hB1.below hW) (hB2.below hW) hx1 hx2)
              have q := And.intro (And.intro p0 (And.intro p1 (And.intro p2 p3))) (And.intro q0 (And.intro q1 (And.intro q2 q3)))
              have HBD := Lib.hid (Below.refl wr.drew.heap.size wr.drew)
              have HBW := Lib.hid hbd
              have HQK := Lib.hid (fun W (hW : Below wr.drew.heap.size wr.drew W) => keep8 q hW)
              obtain ⟨B, hB⟩ : ∃ B, decide (xb = yb) = B := ⟨_, rfl⟩
              rw [hB] at CB
              have HBB := Lib.hid hB
              clear p0 p1 p2 p3 q0 q1 q2 q3 hB1 hB2 hx1 hx2 hxl hyl hbd hB HL HM HB1 HB2
              cases B with
              | true =>
                have T2 := Lib.hid (show cs.take (k + 1) = ds.take (k + 1) by
                  obtain ⟨h1, h2⟩ := HX.out
                  rw [List.take_add_one, List.take_add_one, h1, h2, HT.out, of_decide_eq_true HBB.out])
                go_wp2_with fail
                go_region_held3 (fun w' => (w'.cell? ⟨b1, o1 + k * 4, none⟩ = some (.int .i64 xf) ∧ w'.cell? ⟨b1, o1 + k * 4 + 1, none⟩ = some (.int .i64 xt) ∧ w'.cell? ⟨b1, o1 + k * 4 + 2, none⟩ = some (.int .i64 ((xn : Nat) : Int)) ∧ w'.cell? ⟨b1, o1 + k * 4 + 3, none⟩ = some (.slice ad1 xl cp1)) ∧ (w'.cell? ⟨b2, o2 + k * 4, none⟩ = some (.int .i64 xf) ∧ w'.cell? ⟨b2, o2 + k * 4 + 1, none⟩ = some (.int .i64 xt) ∧ w'.cell? ⟨b2, o2 + k * 4 + 2, none⟩ = some (.int .i64 ((xn : Nat) : Int)) ∧ w'.cell? ⟨b2, o2 + k * 4 + 3, none⟩ = some (.slice ad2 yl cp2))) ((first | exact q | assumption))
                  ((go_at_call 40; refine (CB.out _ HBD.out).mono ?_; rintro e w9 ⟨rfl, hb9⟩; have q9 := HQK.out _ hb9; have HB9 := Lib.hid (HBW.out.trans (hb9.mono HBW.out.size)); clear hb9))
                clear q q9
                go_wp2_with fail
                go_roundw
                case rel => exact ⟨k + 1, by omega, by simp, HB9, T2⟩
                case measure => simp [intOf]; omega
              | false =>
                have E := Lib.hid (show decide (cs = ds) = false by
                  refine decide_eq_false (fun e => of_decide_eq_false HBB.out ?_)
                  obtain ⟨h1, h2⟩ := HX.out
                  rw [e, h2] at h1
                  have h3 := Option.some.inj h1
                  injection h3 with _ _ _ h4
                  exact h4.symm)
                go_wp2_with fail
                go_region_held3 (fun w' => (w'.cell? ⟨b1, o1 + k * 4, none⟩ = some (.int .i64 xf) ∧ w'.cell? ⟨b1, o1 + k * 4 + 1, none⟩ = some (.int .i64 xt) ∧ w'.cell? ⟨b1, o1 + k * 4 + 2, none⟩ = some (.int .i64 ((xn : Nat) : Int)) ∧ w'.cell? ⟨b1, o1 + k * 4 + 3, none⟩ = some (.slice ad1 xl cp1)) ∧ (w'.cell? ⟨b2, o2 + k * 4, none⟩ = some (.int .i64 xf) ∧ w'.cell? ⟨b2, o2 + k * 4 + 1, none⟩ = some (.int .i64 xt) ∧ w'.cell? ⟨b2, o2 + k * 4 + 2, none⟩ = some (.int .i64 ((xn : Nat) : Int)) ∧ w'.cell? ⟨b2, o2 + k * 4 + 3, none⟩ = some (.slice ad2 yl cp2))) ((first | exact q | assumption))
                  ((go_at_call 40; refine (CB.out _ HBD.out).mono ?_; rintro e w9 ⟨rfl, hb9⟩; have q9 := HQK.out _ hb9; have HB9 := Lib.hid (HBW.out.trans (hb9.mono HBW.out.size)); clear hb9))
                clear q q9
                go_wp2_with fail
                go_ret
                exact ⟨congrArg (fun x => Ending.returned (.bool x)) E.out.symm, HB9.out⟩
            · have E := Lib.hid (show decide (cs = ds) = false by
                refine decide_eq_false (fun e => hnn ?_)
                obtain ⟨h1, h2⟩ := HX.out
                rw [e, h2] at h1
                have h3 := Option.some.inj h1
                injection h3 with h4 h5 h6 h7
                exact h6.symm)
              have e0 : ((xf : Int) != xf) = false := by simp
              have e1 : ((xt : Int) != xt) = false := by simp
              have e2 : ((xn : Int) != (yn : Int)) = true := by simp; omega
              have e3 : ¬ (xn : Int) = (yn : Int) := by omega
              have e4 : ¬ xn = yn := hnn
              replace p0 : wr.cell? ⟨b1, o1 + k * 4, none⟩ = some (.int .i64 xf) := p0
              replace p1 : wr.cell? ⟨b1, o1 + k * 4 + 1, none⟩ = some (.int .i64 xt) := p1
              replace p2 : wr.cell? ⟨b1, o1 + k * 4 + 2, none⟩ = some (.int .i64 ((xn : Nat) : Int)) := p2
              replace q0 : wr.cell? ⟨b2, o2 + k * 4, none⟩ = some (.int .i64 xf) := q0
              replace q1 : wr.cell? ⟨b2, o2 + k * 4 + 1, none⟩ = some (.int .i64 xt) := q1
              replace q2 : wr.cell? ⟨b2, o2 + k * 4 + 2, none⟩ = some (.int .i64 ((yn : Nat) : Int)) := q2
              clear hB1 hB2 hx1 hx2 HL HM HB1 HB2 p3 q3
              go_wp2_with (go_quiet (fail))
              go_ret
              exact ⟨congrArg (fun x => Ending.returned (.bool x)) E.out.symm, (by have := HB.out; exact ⟨this.os, this.tape, this.output, this.size, this.block⟩)⟩
          · have E := Lib.hid (show decide (cs = ds) = false by
              refine decide_eq_false (fun e => ht ?_)
              obtain ⟨h1, h2⟩ := HX.out
              rw [e, h2] at h1
              have h3 := Option.some.inj h1
              injection h3 with h4 h5 h6 h7
              exact h5.symm)
            have e0 : ((xf : Int) != xf) = false := by simp
            have e1 : ((xt : Int) != yt) = true := by simp; omega
            replace p0 : wr.cell? ⟨b1, o1 + k * 4, none⟩ = some (.int .i64 xf) := p0
            replace p1 : wr.cell? ⟨b1, o1 + k * 4 + 1, none⟩ = some (.int .i64 xt) := p1
            replace p2 : wr.cell? ⟨b1, o1 + k * 4 + 2, none⟩ = some (.int .i64 ((xn : Nat) : Int)) := p2
            replace q0 : wr.cell? ⟨b2, o2 + k * 4, none⟩ = some (.int .i64 xf) := q0
            replace q1 : wr.cell? ⟨b2, o2 + k * 4 + 1, none⟩ = some (.int .i64 yt) := q1
            replace q2 : wr.cell? ⟨b2, o2 + k * 4 + 2, none⟩ = some (.int .i64 ((yn : Nat) : Int)) := q2
            clear hB1 hB2 hx1 hx2 HL HM HB1 HB2 p3 q3
            go_wp2_with (go_quiet (fail))
            go_ret
            exact ⟨congrArg (fun x => Ending.returned (.bool x)) E.out.symm, (by have := HB.out; exact ⟨this.os, this.tape, this.output, this.size, this.block⟩)⟩
        · have E := Lib.hid (show decide (cs = ds) = false by
            refine decide_eq_false (fun e => hf ?_)
            obtain ⟨h1, h2⟩ := HX.out
            rw [e, h2] at h1
            have h3 := Option.some.inj h1
            injection h3 with h4 h5 h6 h7
            exact h4.symm)
          have e0 : ((xf : Int) != yf) = true := by simp; omega
          replace p0 : wr.cell? ⟨b1, o1 + k * 4, none⟩ = some (.int .i64 xf) := p0
          replace p1 : wr.cell? ⟨b1, o1 + k * 4 + 1, none⟩ = some (.int .i64 xt) := p1
          replace p2 : wr.cell? ⟨b1, o1 + k * 4 + 2, none⟩ = some (.int .i64 ((xn : Nat) : Int)) := p2
          replace q0 : wr.cell? ⟨b2, o2 + k * 4, none⟩ = some (.int .i64 yf) := q0
          replace q1 : wr.cell? ⟨b2, o2 + k * 4 + 1, none⟩ = some (.int .i64 yt) := q1
          replace q2 : wr.cell? ⟨b2, o2 + k * 4 + 2, none⟩ = some (.int .i64 ((yn : Nat) : Int)) := q2
          clear hB1 hB2 hx1 hx2 HL HM HB1 HB2 p3 q3
          go_wp2_with (go_quiet (fail))
          go_ret
          exact ⟨congrArg (fun x => Ending.returned (.bool x)) E.out.symm, (by have := HB.out; exact ⟨this.os, this.tape, this.output, this.size, this.block⟩)⟩
      · have hk : k = n := by omega
        subst hk
        have da : decide ((k : Int) < (k : Int)) = false := decide_eq_false (by omega)
        have da2 : decide (k < k) = false := decide_eq_false (by omega)
        have E := Lib.hid (show decide (cs = ds) = true by
          refine decide_eq_true ?_
          have h := HT.out
          rw [← HN.out, List.take_length, HN.out, ← HK.out, List.take_length] at h
          exact h)
        go_wp2
        go_ret
        exact ⟨congrArg (fun x => Ending.returned (.bool x)) E.out.symm, HB.out⟩
  · have E := Lib.hid (show decide (cs = ds) = false from decide_eq_false (fun e => hlen (by rw [← hn, ← hk, e])))
    have h2 : ¬ ((n : Int) = (k : Int)) := by omega
    clear H1 H2 hz hn hk
    go_enter Tryz.func17, Tryz.ntmps17
    go_wp2
    go_ret
    exact ⟨congrArg (fun x => Ending.returned (.bool x)) E.out.symm, Below.refl _ _⟩
end Go.Proofs.YtdlifcpdlbmijaaGreatDoor
namespace Go.Proofs.YtdlifcpdlbmijaaGreatDoor
set_option linter.unusedVariables false
set_option linter.unusedSimpArgs false
open Go.RowKit Go.PlainAid Go.Shelf
open B2 (Only Bys Row cellsOf owns_only)
open Gm (St Smp Chk)
attribute [local go_sem] Oper.semAt_some
set_option maxHeartbeats 1000000 in
theorem parts_in (F : Fence) (m : Nat) (h5 : F.fn 24) (hro : F.round = none) (a : Option Addr) (len cap : Nat) (w : World) :
    CallsIn F m Tryz.prog 24 #[.slice a len cap, .int .i64 120] w fun e w' => e = .returned (.func (.func 74) #[] #[.pointer (some ⟨w.heap.size, 0, none⟩), .pointer (some ⟨w.heap.size + 1, 0, none⟩)]) ∧ w' = (w.alloc (.cells #[.slice a len cap] 22)).alloc (.cells #[.int .i64 120] 3) := by
  refine callsIn_of_wp Tryz.func24 rfl h5 ?_ hro
  simp only [Tryz.ntmps24, List.size_toArray, List.length_cons, List.length_nil, Nat.reduceAdd, Nat.reduceSub, Array.replicate_succ, Array.replicate_zero, List.push_toArray, List.append_toArray, List.nil_append, List.cons_append]
  gi_wp2
  go_ret
  exact ⟨rfl, rfl⟩
theorem parts_stops (F : Fence) (m : Nat) (h7 : F.fn 74) (hro : F.round = none) (hm1 : 1 ≤ m) (Bs Bn cap b off n : Nat) (a : Option Addr) (ha : 0 < n → a = some ⟨b, off, none⟩) (hc0 : n ≤ cap) (hz : n ≤ 1000000000) (w : World) (hls : Bs < w.heap.size ∧ Bn < w.heap.size)
    (hBs : w.cell? ⟨Bs, 0, none⟩ = some (.slice a n cap)) (hBn : w.cell? ⟨Bn, 0, none⟩ = some (.int .i64 120)) :
    SeqStopsK F m Tryz.prog 74 #[.pointer (some ⟨Bs, 0, none⟩), .pointer (some ⟨Bn, 0, none⟩)] (fun x : Idx n => #[partV b off n (120 * x.1)]) (KpS Bs Bn) (fun ys => ys = allP n) (fun pre => pre <+: allP n) (allP n).length w := fun l J Jx W hW hJ _ hY h0 =>
  parts1_in F m h7 hro hm1 l Bs Bn cap b off n a ha hc0 hz J Jx hY W hJ ((hW.cell (p := ⟨Bs, 0, none⟩) hls.1).trans hBs) ((hW.cell (p := ⟨Bn, 0, none⟩) hls.2).trans hBn) h0
/-- chunks as cells -/
def chC : List Chk → List Value → List Value
  | c :: cs, d :: ds => .int .i64 c.frm :: .int .i64 c.to :: .int .i64 ((c.n : Nat) : Int) :: d :: chC cs ds
  | _, _ => []
theorem chC_snoc (c : Chk) (d : Value) : ∀ (cs : List Chk) (ds : List Value), ds.length = cs.length → chC (cs ++ [c]) (ds ++ [d]) = chC cs ds ++ [.int .i64 c.frm, .int .i64 c.to, .int .i64 ((c.n : Nat) : Int), d]
  | [], [], _ => rfl
  | [], _ :: _, h => by simp at h
  | _ :: _, [], h => by simp at h
  | c2 :: cs, d2 :: ds, h => by simp only [List.cons_append, chC, chC_snoc c d cs ds (by simpa using h)]
theorem chC_get : ∀ (cs : List Chk) (ds : List Value) (k : Nat) (h : k < cs.length) (h2 : k < ds.length), (chC cs ds)[k * 4]? = some (.int .i64 cs[k].frm) ∧ (chC cs ds)[k * 4 + 1]? = some (.int .i64 cs[k].to) ∧ (chC cs ds)[k * 4 + 2]? = some (.int .i64 ((cs[k].n : Nat) : Int)) ∧ (chC cs ds)[k * 4 + 3]? = some ds[k]
  | [], _, k, h, _ => by simp at h
  | _ :: _, [], k, _, h2 => by simp at h2
  | c :: cs, d :: ds, 0, _, _ => ⟨rfl, rfl, rfl, rfl⟩
  | c :: cs, d :: ds, k + 1, h, h2 => by
    obtain ⟨k1, k2, k3, k4⟩ := chC_get cs ds k (by simpa using h) (by simpa using h2)
    simp only [chC, show (k + 1) * 4 = k * 4 + 1 + 1 + 1 + 1 by omega, List.getElem?_cons_succ, List.getElem_cons_succ]
    exact ⟨k1, k2, k3, k4⟩
/-- chunks of the call's own -/
structure OwnC (w : World) (base : Nat) (v : Value) (cs : List Chk) (ds : List Value) : Prop where
  row : w.ownsRow base 26 4 v cs.length (chC cs ds)
  len : ds.length = cs.length
  apart : ∀ i j, i ≠ j → (ds.getD i (.slice none 0 0)).ownBlock = none ∨ (ds.getD i (.slice none 0 0)).ownBlock ≠ (ds.getD j (.slice none 0 0)).ownBlock
  low : ∀ i g, (ds.getD i (.slice none 0 0)).ownBlock = some g → base ≤ g
  each : ∀ k (h : k < cs.length), ∃ ad cap, ds[k]? = some (.slice ad cs[k].bs.length cap) ∧ w.ownsRow 0 5 1 (.slice ad cs[k].bs.length cap) cs[k].bs.length (cellsOf cs[k].bs) ∧ (∀ c ∈ cs[k].bs, c < 256)
theorem OwnC.nil (w : World) (base : Nat) : OwnC w base (.slice none 0 0) [] [] := ⟨World.ownsRow_nil _ _ _ _, rfl, fun i j _ => .inl rfl, fun i g h => (by cases h), fun k h => by simp at h⟩
theorem owns_kept {w w' : World} {row : Option Nat} {base e size n : Nat} {v : Value} {xs : List Value} (h : w.ownsRow base e size v n xs) (hg : w.grownBy w' row) (hr : ∀ r, row = some r → ∃ o : Obj, w.heap[r]? = some o ∧ o.isCells = false) : w'.ownsRow base e size v n xs := by
  refine h.kept hg ?_
  rcases h.2 with ⟨rfl, _⟩ | ⟨g, cap, cur, rfl, _, hgb, _⟩
  · exact .inl rfl
  · refine .inr fun e' => ?_
    obtain ⟨o, ho, hc⟩ := hr g (by simpa [Value.ownBlock] using e'.symm)
    rw [hgb] at ho; cases ho; cases hc
theorem OwnC.kept {w w' : World} {row : Option Nat} {base : Nat} {v : Value} {cs : List Chk} {ds : List Value} (H : OwnC w base v cs ds) (hg : w.grownBy w' row) (hr : ∀ r, row = some r → ∃ o : Obj, w.heap[r]? = some o ∧ o.isCells = false) : OwnC w' base v cs ds :=
  ⟨owns_kept H.row hg hr, H.len, H.apart, H.low, fun k h => by
    obtain ⟨ad, cap, h1, h2, h3⟩ := H.each k h
    exact ⟨ad, cap, h1, owns_kept h2 hg hr, h3⟩⟩
theorem OwnC.only {w w' : World} {base : Nat} {v : Value} {cs : List Chk} {ds : List Value} (H : OwnC w base v cs ds) {S : List Nat} (ho : Only S w w') (h1 : ∀ g, v.ownBlock = some g → g ∉ S) (h2 : ∀ g cur, w.heap[g]? = some (.cells cur 5 (0, 0)) → g ∉ S) : OwnC w' base v cs ds :=
  ⟨owns_only H.row ho h1, H.len, H.apart, H.low, fun k h => by
    obtain ⟨ad, cap, k1, k2, k3⟩ := H.each k h
    refine ⟨ad, cap, k1, owns_only k2 ho (fun g hg => ?_), k3⟩
    rcases k2.2 with ⟨hv, _⟩ | ⟨g2, c2, cur, hv, _, hh, _⟩
    · rw [hv] at hg; cases hg
    · rw [hv] at hg; injection hg with hg; have hg : g2 = g := hg; subst hg; exact h2 _ _ hh⟩
theorem OwnC.below {w w' : World} {base : Nat} {v : Value} {cs : List Chk} {ds : List Value} (H : OwnC w base v cs ds) (hb : Below w.heap.size w w') : OwnC w' base v cs ds := H.only (Only.of_below hb []) (fun _ _ => by simp) (fun _ _ _ => by simp)
theorem OwnC.shape {w : World} {base : Nat} {v : Value} {cs : List Chk} {ds : List Value} (H : OwnC w base v cs ds) : ∃ a c, v = .slice a cs.length c := by
  rcases H.row.2 with ⟨hv, h0⟩ | ⟨g, c, cur, hv, _⟩
  · exact ⟨none, 0, by rw [hv, h0]⟩
  · exact ⟨_, c, hv⟩
theorem OwnC.chs {w : World} {base : Nat} {v : Value} {cs : List Chk} {ds : List Value} (H : OwnC w base v cs ds) (a : Option Addr) (n c : Nat) (hv : v = .slice a n c) : Chs w a cs := fun hn => by
  rcases H.row.2 with ⟨_, h0⟩ | ⟨g, c2, cur, hv2, _, hh, _⟩
  · exact absurd (List.eq_nil_of_length_eq_zero h0) hn
  · rw [hv] at hv2
    injection hv2 with e1 e2 e3
    subst e1
    refine ⟨g, 0, rfl, (Array.getElem?_eq_some_iff.1 hh).1, fun k hk => ?_⟩
    have hk2 : k < ds.length := by rw [H.len]; exact hk
    obtain ⟨k1, k2, k3, k4⟩ := chC_get cs ds k hk hk2
    have q := fun j u (hj : (chC cs ds)[j]? = some u) => H.row.cells (g := g) (by rw [hv]; rfl) j u hj
    have q1 := q _ _ k1
    have q2 := q _ _ k2
    have q3 := q _ _ k3
    have q4 := q _ _ k4
    rw [B2.add_here] at q1 q2 q3 q4
    rw [Nat.zero_add]
    obtain ⟨ad, cap, h1, h2, h3⟩ := H.each k hk
    rw [List.getElem?_eq_getElem hk2] at h1
    injection h1 with h1
    rw [h1] at q4
    refine ⟨q1, q2, q3, ad, cap, q4, ?_⟩
    refine (B2.Row.bys (d := (Value.slice ad cs[k].bs.length cap).ownBlock.getD 0) ⟨h2, ?_⟩ h3).2
    cases ad with
    | none => exact .inl rfl
    | some x => exact .inr rfl
theorem low_snoc {ds : List Value} {x : Value} {base : Nat} (H : ∀ i g, (ds.getD i (.slice none 0 0)).ownBlock = some g → base ≤ g) (hlow : ∀ g, x.ownBlock = some g → base ≤ g) : ∀ i g, ((ds ++ [x]).getD i (.slice none 0 0)).ownBlock = some g → base ≤ g := by
  intro i g hg
  simp only [List.getD] at hg
  by_cases h1 : i < ds.length
  · rw [List.getElem?_append_left h1] at hg
    exact H i g hg
  · rw [List.getElem?_append_right (by omega)] at hg
    by_cases h2 : i = ds.length
    · subst h2
      simp only [Nat.sub_self, List.getElem?_cons_zero, Option.getD_some] at hg
      exact hlow g hg
    · rw [List.getElem?_eq_none (by simp; omega)] at hg
      cases hg
theorem apart_snoc {ds : List Value} {x : Value} (H : ∀ i j, i ≠ j → (ds.getD i (.slice none 0 0)).ownBlock = none ∨ (ds.getD i (.slice none 0 0)).ownBlock ≠ (ds.getD j (.slice none 0 0)).ownBlock) (hnew : ∀ i g, (ds.getD i (.slice none 0 0)).ownBlock = some g → x.ownBlock ≠ some g) :
    ∀ i j, i ≠ j → ((ds ++ [x]).getD i (.slice none 0 0)).ownBlock = none ∨ ((ds ++ [x]).getD i (.slice none 0 0)).ownBlock ≠ ((ds ++ [x]).getD j (.slice none 0 0)).ownBlock := by
  have key : ∀ i, (ds ++ [x]).getD i (.slice none 0 0) = if i < ds.length then ds.getD i (.slice none 0 0) else if i = ds.length then x else .slice none 0 0 := fun i => by
    simp only [List.getD]
    by_cases h1 : i < ds.length
    · rw [if_pos h1, List.getElem?_append_left h1]
    · rw [if_neg h1, List.getElem?_append_right (by omega)]
      by_cases h2 : i = ds.length
      · subst h2; simp
      · rw [if_neg h2, List.getElem?_eq_none (by simp; omega)]; rfl
  intro i j hij
  rw [key, key]
  by_cases h1 : i < ds.length
  · rw [if_pos h1]
    by_cases h2 : j < ds.length
    · rw [if_pos h2]; exact H i j hij
    · rw [if_neg h2]
      by_cases h3 : j = ds.length
      · rw [if_pos h3]
        cases e : (ds.getD i (.slice none 0 0)).ownBlock with
        | none => exact .inl rfl
        | some g => exact .inr (fun h => hnew i g e h.symm)
      · rw [if_neg h3]
        cases e : (ds.getD i (.slice none 0 0)).ownBlock with
        | none => exact .inl rfl
        | some g => exact .inr (fun h => by cases h)
  · rw [if_neg h1]
    by_cases h3 : i = ds.length
    · rw [if_pos h3]
      by_cases h2 : j < ds.length
      · rw [if_pos h2]
        cases e : (ds.getD j (.slice none 0 0)).ownBlock with
        | none => 
          cases e2 : x.ownBlock with
          | none => exact .inl rfl
          | some g => exact .inr (fun h => by cases h)
        | some g => exact .inr (hnew j g e)
      · rw [if_neg h2, if_neg (by omega)]
        cases e2 : x.ownBlock with
        | none => exact .inl rfl
        | some g => exact .inr (fun h => by cases h)
    · rw [if_neg h3]; exact .inl rfl
theorem OwnC.lt {w : World} {base : Nat} {v : Value} {cs : List Chk} {ds : List Value} (H : OwnC w base v cs ds) (i g : Nat) (h : (ds.getD i (.slice none 0 0)).ownBlock = some g) : g < w.heap.size := by
  by_cases hi : i < cs.length
  · obtain ⟨ad, cap, h1, h2, _⟩ := H.each i hi
    simp only [List.getD, h1, Option.getD_some] at h
    exact (h2.lt g h).2
  · have : ds[i]? = none := List.getElem?_eq_none (by rw [H.len]; omega)
    simp only [List.getD, this, Option.getD_none] at h
    cases h
theorem OwnC.only2 {w w' : World} {base : Nat} {v : Value} {cs : List Chk} {ds : List Value} (H : OwnC w base v cs ds) {S : List Nat} (ho : Only S w w') (h1 : ∀ g, v.ownBlock = some g → g ∉ S) (h2 : ∀ g, base ≤ g → g ∉ S) : OwnC w' base v cs ds :=
  ⟨owns_only H.row ho h1, H.len, H.apart, H.low, fun k h => by
    obtain ⟨ad, cap, k1, k2, k3⟩ := H.each k h
    refine ⟨ad, cap, k1, owns_only k2 ho (fun g hg => ?_), k3⟩
    exact h2 g (H.low k g (by simp only [List.getD, k1, Option.getD_some]; exact hg))⟩
/-- a chunk more, the box turned -/
theorem OwnC.snoc {w W w2 : World} {base B len cap : Nat} {v v' u : Value} {cs : List Chk} {ds : List Value} {c : Chk} {ad : Option Addr} {t : TypeId} (H : OwnC w base v cs ds) (hW : Below w.heap.size w W)
    (hl : len = c.bs.length) (hrow : w.ownsRow 0 5 1 (.slice ad len cap) len (cellsOf c.bs)) (h8 : ∀ x ∈ c.bs, x < 256)
    (hown : w2.ownsRow base 26 4 v' (cs.length + 1) (chC cs ds ++ [.int .i64 c.frm, .int .i64 c.to, .int .i64 ((c.n : Nat) : Int), .slice ad len cap])) (hg : W.grownBy w2 v.ownBlock)
    (hB : Boxed w2 B t u) (ht : t ≠ 26 ∧ t ≠ 5) (hnew : ∀ i g, (ds.getD i (.slice none 0 0)).ownBlock = some g → (Value.slice ad len cap).ownBlock ≠ some g) (hlow : ∀ g, (Value.slice ad len cap).ownBlock = some g → base ≤ g) : OwnC (w2.setCell ⟨B, 0, none⟩ v') base v' (cs ++ [c]) (ds ++ [.slice ad len cap]) := by
  subst hl
  have hO : Only v.ownBlock.toList W w2 := (Only.refl _ _).grown hg (fun k hk => .inl (by simp [hk]))
  have hO2 : Only v.ownBlock.toList w w2 := (Only.of_below hW _).trans hO (fun x hx => .inl hx)
  have hoB : Only [B] w2 (w2.setCell ⟨B, 0, none⟩ v') := (Only.refl _ _).setCell (p := ⟨B, 0, none⟩) (.inl (by simp)) _
  have hty : ∀ g cur, w.heap[g]? = some (.cells cur 5 (0, 0)) → g ∉ v.ownBlock.toList := fun g cur hc hm => by
    have hm : v.ownBlock = some g := by simpa using hm
    rcases H.row.2 with ⟨hv, _⟩ | ⟨g2, c2, cur2, hv, _, hh, _⟩
    · rw [hv] at hm; cases hm
    · rw [hv] at hm; injection hm with hm; have hm : g2 = g := hm; subst hm
      rw [hc] at hh; injection hh with hh; injection hh with _ hh; exact absurd hh (by decide)
  have hBn : ∀ g cur e, w2.heap[g]? = some (.cells cur e (0, 0)) → t ≠ e → g ∉ [B] := fun g cur e hc he hm => by
    have hm : g = B := by simpa using hm
    subst hm
    have h1 : w2.heap[g]? = _ := hB
    rw [hc] at h1; injection h1 with h1; injection h1 with _ h1; exact he h1.symm
  have keep5 : ∀ {ad : Option Addr} {l cap : Nat} {bs : List Nat}, w.ownsRow 0 5 1 (.slice ad l cap) l (cellsOf bs) → (w2.setCell ⟨B, 0, none⟩ v').ownsRow 0 5 1 (.slice ad l cap) l (cellsOf bs) := fun {ad l cap bs} h => by
    have h2 := owns_only h hO2 (fun g hg => by
      rcases h.2 with ⟨hv, _⟩ | ⟨g2, c2, cur2, hv, _, hh, _⟩
      · rw [hv] at hg; cases hg
      · rw [hv] at hg; injection hg with hg; have hg : g2 = g := hg; subst hg; exact hty _ _ hh)
    refine owns_only h2 hoB (fun g hg => ?_)
    rcases h2.2 with ⟨hv, _⟩ | ⟨g2, c2, cur2, hv, _, hh, _⟩
    · rw [hv] at hg; cases hg
    · rw [hv] at hg; injection hg with hg; have hg : g2 = g := hg; subst hg; exact hBn _ _ _ hh ht.2
  refine ⟨?_, by simp [H.len], apart_snoc H.apart hnew, low_snoc H.low hlow, fun k hk => ?_⟩
  · rw [List.length_append, chC_snoc _ _ _ _ H.len]
    refine owns_only hown hoB (fun g hg => ?_)
    rcases hown.2 with ⟨hv, _⟩ | ⟨g2, c2, cur2, hv, _, hh, _⟩
    · rw [hv] at hg; cases hg
    · rw [hv] at hg; injection hg with hg; have hg : g2 = g := hg; subst hg; exact hBn _ _ _ hh ht.1
  · by_cases hk2 : k < cs.length
    · obtain ⟨ad2, cap2, k1, k2, k3⟩ := H.each k hk2
      have e : (cs ++ [c])[k] = cs[k] := List.getElem_append_left hk2
      rw [e]
      exact ⟨ad2, cap2, by rw [List.getElem?_append_left (by rw [H.len]; exact hk2)]; exact k1, keep5 k2, k3⟩
    · have : k = cs.length := by simp at hk; omega
      subst this
      have e : (cs ++ [c])[cs.length] = c := by simp
      rw [e]
      exact ⟨ad, cap, by rw [List.getElem?_append_right (by rw [H.len]; exact Nat.le_refl _), H.len, Nat.sub_self]; rfl, keep5 hrow, h8⟩
end Go.Proofs.YtdlifcpdlbmijaaGreatDoor
namespace Go.Proofs.YtdlifcpdlbmijaaGreatDoor.B2
open Go.RowKit
/-- bits, one a byte -/
def flat (B : List Bool) : List Nat := B.map Bool.toNat
theorem flat_length (B : List Bool) : (flat B).length = B.length := by simp [flat]
theorem flat_append (A B : List Bool) : flat (A ++ B) = flat A ++ flat B := by simp [flat]
theorem flat_lt (B : List Bool) : ∀ c ∈ flat B, c < 256 := by
  intro c hc
  obtain ⟨b, _, rfl⟩ := List.mem_map.1 hc
  cases b <;> decide
/-- the document's own bits: the struct's block, its list's block, its bits, its place -/
def Rf (w : World) (p g : Nat) (B : List Bool) (at_ : Nat) : Prop :=
  ∃ v, w.heap[p]? = some (.cells #[v, .int .i64 (at_ : Nat)] 160 (0, 0)) ∧ Row w g v (flat B) ∧ (v.ownBlock = none ∨ g ≠ p) ∧ g < w.heap.size
theorem Rf.lt {w : World} {p g : Nat} {B : List Bool} {at_ : Nat} (h : Rf w p g B at_) : p < w.heap.size ∧ g < w.heap.size := by
  obtain ⟨v, hp, _, _, hd⟩ := h
  exact ⟨(Array.getElem?_eq_some_iff.1 hp).1, hd⟩
theorem Rf.only {w w' : World} {p g : Nat} {B : List Bool} {at_ : Nat} (h : Rf w p g B at_) {S : List Nat} (ho : Only S w w') (hp : p ∉ S) (hg : g ∉ S) : Rf w' p g B at_ := by
  obtain ⟨v, h1, h2, h3, h4⟩ := h
  exact ⟨v, (ho.block p (Array.getElem?_eq_some_iff.1 h1).1 hp).trans h1, h2.only ho hg, h3, Nat.lt_of_lt_of_le h4 ho.size⟩
theorem Rf.below {w w' : World} {p g : Nat} {B : List Bool} {at_ : Nat} (h : Rf w p g B at_) (ho : Below w.heap.size w w') : Rf w' p g B at_ := h.only (Only.of_below ho []) (by simp) (by simp)
theorem rf_slice {w : World} {p g : Nat} {B : List Bool} {at_ : Nat} (h : Rf w p g B at_) : ∃ a cap, w.cell? ⟨p, 0, none⟩ = some (.slice a B.length cap) ∧ w.cell? ⟨p, 1, none⟩ = some (.int .i64 (at_ : Nat)) ∧ w.frozen? ⟨p, 0, none⟩ = false ∧ w.frozen? ⟨p, 1, none⟩ = false ∧
    (∀ i (hi : i < B.length), a = some ⟨g, 0, none⟩ ∧ w.cell? ⟨g, i, none⟩ = some (.int .u8 ((B[i].toNat : Nat) : Int))) ∧ w.heap[p]? = some (.cells #[.slice a B.length cap, .int .i64 (at_ : Nat)] 160 (0, 0)) ∧ Row w g (.slice a B.length cap) (flat B) ∧ some p ≠ (Value.slice a B.length cap).ownBlock := by
  obtain ⟨v, hp, hR, hne, _⟩ := h
  obtain ⟨c0, c1, f0, f1⟩ := cell2 hp
  have hpo : some p ≠ v.ownBlock := by
    intro e
    rcases hne with h | h
    · rw [h] at e; cases e
    · rcases hR.2 with h2 | h2
      · rw [h2] at e; cases e
      · rw [h2] at e; injection e with e; exact h e.symm
  rcases hR.value with ⟨rfl, h0⟩ | ⟨cap, _, hv, _⟩
  · have hl : B.length = 0 := by rw [← flat_length, h0]; rfl
    obtain rfl : B = [] := List.eq_nil_of_length_eq_zero hl
    exact ⟨_, _, c0, c1, f0, f1, fun i hi => absurd hi (by simp), hp, hR, hpo⟩
  · rw [flat_length] at hv
    subst hv
    refine ⟨_, _, c0, c1, f0, f1, fun i hi => ⟨rfl, ?_⟩, hp, hR, hpo⟩
    obtain ⟨_, _, _, _, hc, _⟩ := hR.cell i (by rw [flat_length]; exact hi)
    rw [hc]
    simp [flat]
def RfPost (w : World) (p g : Nat) (B : List Bool) (at_ : Nat) (w' : World) : Prop := ∃ g', Rf w' p g' B at_ ∧ (g' = g ∨ w.heap.size ≤ g') ∧ Only [p, g] w w'
theorem RfPost.trans {w w1 w2 : World} {p g g1 at_ : Nat} {B : List Bool} (hO : Only [p, g] w w1) (hd : g1 = g ∨ w.heap.size ≤ g1) (h : RfPost w1 p g1 B at_ w2) : RfPost w p g B at_ w2 := by
  obtain ⟨g2, h1, h2, h3⟩ := h
  refine ⟨g2, h1, ?_, hO.trans h3 ?_⟩
  · have := hO.size
    rcases h2 with rfl | h2
    · exact hd
    · exact .inr (by omega)
  · intro x hx
    simp only [List.mem_cons, List.not_mem_nil, or_false] at hx ⊢
    rcases hx with rfl | rfl
    · exact .inl (.inl rfl)
    · rcases hd with rfl | hd
      · exact .inl (.inr rfl)
      · exact .inr hd
theorem RfPost.refl {w : World} {p g at_ : Nat} {B : List Bool} (h : Rf w p g B at_) : RfPost w p g B at_ w := ⟨g, h, .inl rfl, Only.refl _ _⟩
theorem one_one (W : World) : ∀ (j : Nat) (u : Value), (cellsOf [1])[j]? = some u → (W.alloc (.cells #[.int .u8 1] 5)).cell? ((⟨W.heap.size, 0, none⟩ : Addr).add j) = some u := by
  intro j u hu
  rw [add_here, cell_of_row _ _ _ _ _ _ (heap_alloc_new W _)]
  rw [show (#[Value.int .u8 1] : Array Value) = (cellsOf [1]).toArray from rfl, List.getElem?_toArray]
  exact hu
/-- one bit more -/
theorem rf_grow {w w2 : World} {p g at_ N : Nat} {B : List Bool} {a : Option Addr} {cap : Nat} {b : Bool} {v2 : Value} {o : Obj} (hp : w.heap[p]? = some (.cells #[.slice a B.length cap, .int .i64 (at_ : Nat)] 160 (0, 0))) (hR : Row w g (.slice a B.length cap) (flat B)) (hpo : some p ≠ (Value.slice a B.length cap).ownBlock)
    (hown : w2.ownsRow 0 5 1 v2 ((flat B).length + [b.toNat].length) (cellsOf (flat B) ++ cellsOf [b.toNat])) (hgr : (w.alloc o).grownBy w2 (Value.slice a B.length cap).ownBlock) (hpl : v2.ownBlock = (Value.slice a B.length cap).ownBlock ∨ ∃ g', v2.ownBlock = some g' ∧ N ≤ g') (hN : w.heap.size ≤ N) :
    (∃ a2 n2 c2, v2 = .slice a2 n2 c2) ∧ w2.cell? ⟨p, 0, none⟩ = some (.slice a B.length cap) ∧ w2.frozen? ⟨p, 0, none⟩ = false ∧ RfPost w p g (B ++ [b]) at_ (w2.setCell ⟨p, 0, none⟩ v2) := by
  obtain ⟨d2, cap2, rfl, hcap2, R2, hd2, hd2l⟩ := grow_row hR hown hpl (by simp)
  have hlp : p < w.heap.size := (Array.getElem?_eq_some_iff.1 hp).1
  have hp2 : w2.heap[p]? = some (.cells #[.slice a B.length cap, .int .i64 (at_ : Nat)] 160 (0, 0)) := (hgr.block p (by simp; omega) hpo).trans ((Below.heap_alloc _ _ _ hlp).trans hp)
  have hdp : d2 ≠ p := by
    rcases hd2 with ⟨h1, rfl⟩ | h1
    · rw [h1] at hpo; intro e; exact hpo (by rw [e])
    · omega
  have hO : Only [p, g] w w2 := ((Only.refl [p, g] w).alloc o).grown hgr (by
    intro k hk
    rcases hR.2 with h | h
    · rw [h] at hk; cases hk
    · rw [h] at hk; injection hk with hk; subst hk; exact .inl (by simp))
  have hset : Only [p] w2 (w2.setCell ⟨p, 0, none⟩ (.slice (some ⟨d2, 0, none⟩) ((flat B).length + [b.toNat].length) cap2)) := (Only.refl [p] _).setCell (p := ⟨p, 0, none⟩) (.inl (by simp)) _
  refine ⟨⟨_, _, _, rfl⟩, (cell2 hp2).1, (cell2 hp2).2.2.1, d2, ⟨_, set2a hp2, ?_, .inr hdp, Nat.lt_of_lt_of_le hd2l hset.size⟩, ?_, hO.setCell (p := ⟨p, 0, none⟩) (.inl (by simp)) _⟩
  · rw [flat_append]
    exact R2.only hset (by simpa using hdp)
  · rcases hd2 with ⟨_, rfl⟩ | h1
    · exact .inl rfl
    · exact .inr (by omega)
set_option maxRecDepth 100000 in
set_option maxHeartbeats 400000 in
theorem fbit_any (p g : Nat) (B : List Bool) (at_ : Nat) (b : Bool) (w : World) (H : Rf w p g B at_) (hB : B.length + 1 ≤ 1000000000) :
    Calls Tryz.prog 90 #[.pointer (some ⟨p, 0, none⟩), .bool b] w fun e w' => e = .returned (.tuple #[]) ∧ RfPost w p g (B ++ [b]) at_ w' := by
  obtain ⟨i0, hi, hz0, hz1, hz2⟩ := info_parts info5
  obtain ⟨a, cap, c0, c1, f0, f1, hcells, hp, hR, hpo⟩ := rf_slice H
  have hl := flat_length B
  have HP := Lib.hid hp
  have HR := Lib.hid hR
  have HPO := Lib.hid hpo
  have HL := Lib.hid hl
  clear H hp hR hpo hcells c1 f1 hl
  cases b
  · go_enter Tryz.func90, Tryz.ntmps90
    go_wp2_with (at_builtin; refine wpList_append_place _ rfl (.tmp 10) (.tmp 12) 24 rfl 5 i0 (.int .u8 0) 1 1 Tryz.underlying24 hi hz0 hz1 hz2 rfl (by decide) (.slice a B.length cap) (flat B).length (cellsOf (flat B)) rfl (HR.out.below ((Below.refl _ _).alloc (Nat.le_refl _) _)).1 ⟨w.heap.size, 0, none⟩ 1 1 (cellsOf [0]) rfl rfl (one_zero w) (cellsOf_one _) (by unfold maxLen; have := HL.out; omega) (by have := HL.out; omega) ?_)
    intro v2 w2 hown2 hgr2 hpl2
    obtain ⟨⟨a2, n2, c2, rfl⟩, d0, d1, d2⟩ := rf_grow (b := false) HP.out HR.out HPO.out hown2 hgr2 hpl2 (Nat.le_succ _)
    have D2 := Lib.hid d2
    clear d2 hown2 hgr2 hpl2
    go_wp2
    go_end0
    exact ⟨rfl, D2.out⟩
  · go_enter Tryz.func90, Tryz.ntmps90
    go_wp2_with (at_builtin; refine wpList_append_place _ rfl (.tmp 10) (.tmp 12) 24 rfl 5 i0 (.int .u8 0) 1 1 Tryz.underlying24 hi hz0 hz1 hz2 rfl (by decide) (.slice a B.length cap) (flat B).length (cellsOf (flat B)) rfl (HR.out.below ((Below.refl _ _).alloc (Nat.le_refl _) _)).1 ⟨w.heap.size, 0, none⟩ 1 1 (cellsOf [1]) rfl rfl (one_one w) (cellsOf_one _) (by unfold maxLen; have := HL.out; omega) (by have := HL.out; omega) ?_)
    intro v2 w2 hown2 hgr2 hpl2
    obtain ⟨⟨a2, n2, c2, rfl⟩, d0, d1, d2⟩ := rf_grow (b := true) HP.out HR.out HPO.out hown2 hgr2 hpl2 (Nat.le_succ _)
    have D2 := Lib.hid d2
    clear d2 hown2 hgr2 hpl2
    go_wp2
    go_end0
    exact ⟨rfl, D2.out⟩
set_option maxHeartbeats 400000 in
theorem fleft_any (p g : Nat) (B : List Bool) (at_ : Nat) (w : World) (H : Rf w p g B at_) (hat : at_ ≤ B.length) (hB : B.length ≤ 1000000000) :
    Calls Tryz.prog 114 #[.pointer (some ⟨p, 0, none⟩)] w fun e w' => e = .returned (.int .i64 ((B.length - at_ : Nat) : Int)) ∧ Below w.heap.size w w' := by
  obtain ⟨a, cap, c0, c1, _⟩ := rf_slice H
  clear H
  have HE : Hid ((B.length : Int) - (at_ : Int) = ((B.length - at_ : Nat) : Int)) := by show _ = _; omega
  go_enter Tryz.func114, Tryz.ntmps114
  go_wp2
  go_quiet (fail)
  go_wp2
  go_ret
  exact ⟨by rw [← HE.out]; rfl, (Only.refl [] _).drewN _ |>.below (Nat.le_refl _) (by simp)⟩
theorem and1_spell (v i : Nat) (hv : v < 18446744073709551616) : (bits .and .u64 ((v : Int) / 2 ^ i) 1 == 1) = v.testBit i := by
  have e : ((v : Int) / 2 ^ i) = ((v >>> i : Nat) : Int) := by
    rw [Nat.shiftRight_eq_div_pow]
    simp only [Int.natCast_ediv, Int.natCast_pow, Int.cast_ofNat_Int]
  have hl : v >>> i < 18446744073709551616 := by
    rw [Nat.shiftRight_eq_div_pow]; exact Nat.lt_of_le_of_lt (Nat.div_le_self _ _) hv
  have h := u64_and_nat (v >>> i) 1 hl (by decide)
  rw [nat_mask1] at h
  rw [e]
  have h2 : bits .and .u64 ((v >>> i : Nat) : Int) 1 = ((v >>> i % 2 : Nat) : Int) := h
  rw [h2, Nat.testBit_eq_decide_div_mod_eq, ← Nat.shiftRight_eq_div_pow]
  have h3 : v >>> i % 2 = 0 ∨ v >>> i % 2 = 1 := by omega
  rcases h3 with h3 | h3 <;> rw [h3] <;> rfl
theorem top_cut (v n m : Nat) (h : m < n) : Bt.top (v >>> (m + 1)) (n - (m + 1)) ++ [v.testBit m] = Bt.top (v >>> m) (n - m) := by
  have h1 := Bt.top_split (v >>> m) (n - (m + 1)) 1
  rw [← Nat.shiftRight_add, show n - (m + 1) + 1 = n - m by omega] at h1
  rw [h1]
  simp [Bt.top]
set_option maxHeartbeats 400000 in
theorem fbits_bad (p : Nat) (v : Nat) (n : Int) (hn : n < 0 ∨ 64 < n) (w : World) :
    Calls Tryz.prog 88 #[.pointer (some ⟨p, 0, none⟩), .int .u64 (v : Nat), .int .i64 n] w fun e w' => e = .returned (.int .u16 1) ∧ w = w' := by
  rcases hn with hn | hn
  · have h1 : decide (n < 0) = true := by simpa using hn
    go_enter Tryz.func88, Tryz.ntmps88
    go_wp2
    go_ret
    exact ⟨rfl, rfl⟩
  · have h1 : decide (n < 0) = false := by simp; omega
    have h2 : decide (n > 64) = true := by simpa using hn
    go_enter Tryz.func88, Tryz.ntmps88
    go_wp2
    go_ret
    exact ⟨rfl, rfl⟩
set_option maxHeartbeats 400000 in
theorem fbits_good (p g : Nat) (B : List Bool) (at_ v n : Nat) (hv : v < 18446744073709551616) (hn : n ≤ 64) (w : World) (H : Rf w p g B at_) (hB : B.length + n ≤ 1000000000) :
    Calls Tryz.prog 88 #[.pointer (some ⟨p, 0, none⟩), .int .u64 (v : Nat), .int .i64 (n : Nat)] w fun e w' => e = .returned (.int .u16 0) ∧ RfPost w p g (B ++ Bt.top v n) at_ w' := by
  have H0 := Lib.hid (show RfPost w p g (B ++ Bt.top (v >>> n) (n - n)) at_ w by rw [Nat.sub_self]; simpa [Bt.top] using RfPost.refl H)
  have HV := Lib.hid hv
  clear H hv
  have h1 : decide ((n : Int) < 0) = false := by simp
  have h2 : decide ((n : Int) > 64) = false := by simp; omega
  go_enter Tryz.func88, Tryz.ntmps88
  go_wp2
  go_loopw [7] (fun i wr => ∃ m : Nat, m ≤ n ∧ i = .int .i64 ((m : Int) - 1) ∧ Hid (RfPost w p g (B ++ Bt.top (v >>> m) (n - m)) at_ wr)) (fun i _ => (intOf i + 1).toNat)
  case atStart => exact ⟨n, Nat.le_refl _, rfl, H0⟩
  case round =>
    obtain ⟨m, hm, rfl, g1, HR, hg, hO⟩ := hrel
    have XR := Lib.hid HR
    have XO := Lib.hid hO
    clear HR hO
    by_cases hlt : 0 < m
    · obtain ⟨m', rfl⟩ : ∃ m', m = m' + 1 := ⟨m - 1, by omega⟩
      have he : ((m' + 1 : Nat) : Int) - 1 = (m' : Int) := by omega
      rw [he]
      have hd : decide ((m' : Int) ≥ 0) = true := by simp
      have h64 : m' ≤ 64 := by omega
      have hsp := and1_spell v m' HV.out
      have HSP := Lib.hid hsp
      clear hsp he
      go_wp2_with fail
      rw [HSP.out]
      refine (fbit_any p g1 _ at_ (v.testBit m') _ XR.out (by rw [List.length_append, Bt.top_length]; omega)).mono ?_
      rintro e w' ⟨rfl, hpp⟩
      rw [List.append_assoc, top_cut v n m' (by omega)] at hpp
      have HP := Lib.hid (RfPost.trans XO.out hg hpp)
      clear hpp
      go_wp2
      go_roundw
      case rel => exact ⟨m', by omega, rfl, HP⟩
      case measure => simp [intOf]
    · obtain rfl : m = 0 := by omega
      go_wp2
      go_ret
      exact ⟨rfl, g1, by simpa using XR.out, hg, XO.out⟩
end Go.Proofs.YtdlifcpdlbmijaaGreatDoor.B2
namespace Go.Proofs.YtdlifcpdlbmijaaGreatDoor.B2
open Go.RowKit
def FreadPost (w : World) (bs : List Nat) (e : Ending) (w' : World) : Prop :=
  ∃ p g, e = .returned (.pointer (some ⟨p, 0, none⟩)) ∧ w.heap.size ≤ p ∧ w.heap.size ≤ g ∧ Rf w' p g (Bt.unpack bs) 0 ∧ Below w.heap.size w w'
/-- how far the list has been laid -/
def FreadAt (w : World) (bs : List Nat) (k : Nat) (wr : World) : Prop := ∃ g, w.heap.size ≤ g ∧ Rf wr w.heap.size g (Bt.unpack (bs.take k)) 0 ∧ Below w.heap.size w wr
set_option maxHeartbeats 400000 in
theorem fread_any (a : Option Addr) (bs : List Nat) (cap : Nat) (w : World) (H : Bys w a bs) (hbd : bs.length ≤ 1000000) :
    Calls Tryz.prog 93 #[.slice a bs.length cap] w (FreadPost w bs) := by
  have A1 := Lib.hid H
  clear H
  have h0 : FreadAt w bs 0 (w.alloc (.cells #[.slice none 0 0, .int .i64 0] 160)) :=
    ⟨w.heap.size, Nat.le_refl _, ⟨_, heap_alloc_new _ _, Row.nil _ _, .inl rfl, by simp⟩, (Below.refl _ _).alloc (Nat.le_refl _) _⟩
  have H0 := Lib.hid h0
  clear h0
  go_enter Tryz.func93, Tryz.ntmps93
  go_wp2
  go_loopw [4] (fun i wr => ∃ k : Nat, k ≤ bs.length ∧ i = .int .i64 (k : Nat) ∧ Hid (FreadAt w bs k wr)) (fun i _ => bs.length - (intOf i).toNat)
  case atStart => exact ⟨0, Nat.zero_le _, rfl, H0⟩
  case round =>
    obtain ⟨k, hk, rfl, g, hg, hR, hB⟩ := hrel
    have XR := Lib.hid hR
    have XB := Lib.hid hB
    clear hR hB
    by_cases hlt : k < bs.length
    · obtain ⟨b, off, rfl, hb, hc⟩ := (A1.out.below XB.out).at k hlt
      have h8 : bs[k] < 256 := A1.out.2.1 _ (List.getElem_mem _)
      have hu : Bt.unpack (bs.take (k + 1)) = Bt.unpack (bs.take k) ++ Bt.top bs[k] 8 := by
        rw [List.take_succ_eq_append_getElem hlt, Bt.unpack_append, Bt.unpack_one]
      have HU := Lib.hid hu
      clear hu
      generalize bs[k] = c at *
      have hl : (Bt.unpack (bs.take k)).length ≤ 8000000 := by rw [Bt.unpack_length, List.length_take]; omega
      have hi : (k : Int) < (bs.length : Int) := by omega
      go_wp2_with fail
      refine (fbits_good _ g _ 0 c 8 (by omega) (by omega) _ XR.out (by omega)).mono ?_
      rintro e w' ⟨rfl, g', h1, h2, h3⟩
      have HN : Hid (FreadAt w bs (k + 1) w') := by
        have hs := XB.out.size
        exact ⟨g', by rcases h2 with h | h <;> omega, by rw [HU.out]; exact h1, XB.out.trans (h3.below hs (by intro x hx; simp at hx; omega))⟩
      clear h1 h2 h3
      go_wp2
      go_roundw
      case rel => exact ⟨k + 1, by omega, by go_num, HN⟩
      case measure => simp [intOf]; omega
    · obtain rfl : k = bs.length := by omega
      go_wp2
      go_ret
      have hR := XR.out
      rw [List.take_length] at hR
      exact ⟨_, g, rfl, Nat.le_refl _, hg, hR, XB.out⟩
def FnPost (w : World) (p g : Nat) (B : List Bool) (at_ : Nat) (n : Int) (e : Ending) (w' : World) : Prop :=
  e = .returned (.tuple #[.int .u64 (((Bt.rd (B.drop at_) n).1 : Nat) : Int), .int .u16 (((Bt.rd (B.drop at_) n).2.1 : Nat) : Int)]) ∧ Rf w' p g B (at_ + (Bt.rd (B.drop at_) n).2.2) ∧ Only [p] w w'
theorem rf_at {w : World} {p g at_ x : Nat} {B : List Bool} (h : Rf w p g B at_) : Rf (w.setCell ⟨p, 1, none⟩ (.int .i64 (x : Nat))) p g B x := by
  obtain ⟨v, h1, h2, h3, h4⟩ := h
  refine ⟨v, set2b h1, ?_, h3, by simpa [World.setCell] using h4⟩
  rcases h2.value with ⟨rfl, h0⟩ | ⟨cap, cur, rfl, hg, _⟩
  · rw [h0]; exact Row.nil _ _
  · refine h2.only ((Only.refl [p] _).setCell (p := ⟨p, 1, none⟩) (.inl (by simp)) _) ?_
    rcases h3 with h | h
    · cases h
    · simpa using h
theorem val_step (S : List Bool) (k : Nat) (h : k < S.length) : Bt.val (S.take (k + 1)) = 2 * Bt.val (S.take k) + (S[k]).toNat := by
  rw [List.take_succ_eq_append_getElem h, Bt.val_snoc]
set_option maxRecDepth 100000 in
set_option maxHeartbeats 400000 in
theorem fnext_any (p g : Nat) (B : List Bool) (at_ : Nat) (n : Int) (w : World) (H : Rf w p g B at_) (hat : at_ ≤ B.length) (hbd : B.length ≤ 1000000000) :
    Calls Tryz.prog 95 #[.pointer (some ⟨p, 0, none⟩), .int .i64 n] w (FnPost w p g B at_ n) := by
  have hU : (B.drop at_).length = B.length - at_ := by rw [List.length_drop]
  by_cases hn : n < 0 ∨ 64 < n
  · have hpost : FnPost w p g B at_ n (.returned (.tuple #[.int .u64 0, .int .u16 1])) w := by
      unfold FnPost Bt.rd
      rw [if_pos hn]
      exact ⟨rfl, H, Only.refl _ _⟩
    have HP := Lib.hid hpost
    clear hpost H hU
    rcases hn with hn | hn
    · have h1 : decide (n < 0) = true := by simpa using hn
      go_enter Tryz.func95, Tryz.ntmps95
      go_wp2
      go_ret2
      exact HP.out
    · have h1 : decide (n < 0) = false := by simp; omega
      have h2 : decide (n > 64) = true := by simpa using hn
      go_enter Tryz.func95, Tryz.ntmps95
      go_wp2
      go_ret2
      exact HP.out
  · obtain ⟨m, rfl⟩ := Int.eq_ofNat_of_zero_le (a := n) (by omega)
    have hm : m ≤ 64 := by omega
    have H0 := Lib.hid H
    clear H
    have h1 : decide ((m : Int) < 0) = false := by simp
    have h2 : decide ((m : Int) > 64) = false := by simp; omega
    by_cases hs : B.length - at_ < m
    · have hpost : ∀ w', Below w.heap.size w w' → FnPost w p g B at_ (m : Int) (.returned (.tuple #[.int .u64 0, .int .u16 20])) w' := by
        intro w' hb
        unfold FnPost Bt.rd
        rw [if_neg hn, hU, Int.toNat_natCast, if_pos hs]
        exact ⟨rfl, H0.out.below hb, Only.of_below hb _⟩
      have HP := Lib.hid hpost
      clear hpost hU hn
      have h3 : decide ((m : Int) > ((B.length - at_ : Nat) : Int)) = true := by simp; omega
      go_enter Tryz.func95, Tryz.ntmps95
      go_wp2_with (go_at_call 114; refine (fleft_any p g B at_ _ H0.out hat hbd).mono ?_; rintro e w1 ⟨rfl, hb⟩; have HB := Lib.hid hb; clear hb)
      go_ret2
      exact HP.out _ HB.out
    · have hpost : ∀ w', Rf w' p g B (at_ + m) → Only [p] w w' → FnPost w p g B at_ (m : Int) (.returned (.tuple #[.int .u64 ((Bt.val ((B.drop at_).take m) : Nat) : Int), .int .u16 0])) w' := by
        intro w' hr ho
        unfold FnPost Bt.rd
        rw [if_neg hn, hU, Int.toNat_natCast, if_neg hs]
        exact ⟨rfl, hr, ho⟩
      have HP := Lib.hid hpost
      have HU := Lib.hid hU
      clear hpost hU hn
      have h3 : decide ((m : Int) > ((B.length - at_ : Nat) : Int)) = false := by simp; omega
      go_enter Tryz.func95, Tryz.ntmps95
      go_wp2_with fail
      refine (fleft_any p g B at_ _ H0.out hat hbd).mono ?_
      rintro e w1 ⟨rfl, hb⟩
      have HB := Lib.hid hb
      clear hb
      go_wp2
      go_loopw [6, 7] (fun v i wr => ∃ k : Nat, k ≤ m ∧ i = .int .i64 (k : Nat) ∧ v = .int .u64 ((Bt.val ((B.drop at_).take k) : Nat) : Int) ∧ Hid (Below w.heap.size w wr)) (fun _ i _ => m - (intOf i).toNat)
      case atStart => exact ⟨0, Nat.zero_le _, rfl, rfl, HB⟩
      case round =>
        obtain ⟨k, hk, rfl, rfl, XB⟩ := hrel
        have XR := Lib.hid (H0.out.below XB.out)
        obtain ⟨a, cap, c0, c1, f0, f1, hcells, _⟩ := rf_slice XR.out
        by_cases hlt : k < m
        · obtain ⟨rfl, hc⟩ := hcells (at_ + k) (by omega)
          have hstep := val_step (B.drop at_) k (by have := HU.out; omega)
          have hvl : Bt.val ((B.drop at_).take k) < 2 ^ k := by
            have := Bt.val_lt ((B.drop at_).take k)
            rwa [List.length_take, Nat.min_eq_left (by have := HU.out; omega)] at this
          have hvl2 : Bt.val ((B.drop at_).take k) < 9223372036854775808 := Nat.lt_of_lt_of_le hvl (Nat.pow_le_pow_right (n := 2) (by decide) (show k ≤ 63 by omega))
          rw [List.getElem_drop] at hstep
          obtain ⟨c, hcc⟩ : ∃ c, (B[at_ + k]'(by omega)).toNat = c := ⟨_, rfl⟩
          have hc1 : c ≤ 1 := by rw [← hcc]; cases B[at_ + k]'(by omega) <;> decide
          rw [hcc] at hstep hc
          have HS := Lib.hid hstep
          obtain ⟨V, hV⟩ : ∃ V, Bt.val ((B.drop at_).take k) = V := ⟨_, rfl⟩
          rw [hV] at hvl2 HS ⊢
          clear hstep hvl hcc hcells hV
          have hi1 : ((at_ : Int) + (k : Int)) < (B.length : Int) := by omega
          have hi0 : (0 : Int) ≤ (at_ : Int) + (k : Int) := by omega
          have E1 : IntKind.i64.wrap ((at_ : Int) + (k : Int)) = ((at_ + k : Nat) : Int) := by rw [← Int.natCast_add]; exact IntWalk.i64_in _ (by omega)
          go_wp2
          go_quiet (fail)
          go_wp2
          go_roundw
          case rel => exact ⟨k + 1, by omega, by go_num, by rw [HS.out]; congr 1; omega, Lib.hid ((Only.of_below XB.out []).drewN _ |>.below (Nat.le_refl _) (by simp))⟩
          case measure => simp [intOf]; omega
        · obtain rfl : k = m := by omega
          have hfin := rf_at (x := at_ + k) XR.out
          have HF := Lib.hid hfin
          have hO := Lib.hid ((Only.of_below XB.out [p]).setCell (p := ⟨p, 1, none⟩) (.inl (by simp)) (.int .i64 ((at_ + k : Nat) : Int)))
          clear hfin hcells
          go_wp2
          go_ret2
          exact HP.out _ HF.out hO.out
/-- reading a number of groups: how far -/
structure FVar (w : World) (p g : Nat) (B : List Bool) (at_ i acc : Nat) (wr : World) : Prop where
  rf : Rf wr p g B (at_ + 8 * i)
  only : Only [p] w wr
  accl : acc < 2 ^ (7 * i)
  le : at_ + 8 * i ≤ B.length
  rv : Bt.rv (B.drop at_) = Bt.rvf (10 - i) i acc (B.drop (at_ + 8 * i))
theorem fvar_step {w wr w1 : World} {p g at_ j acc G f : Nat} {B S : List Bool} (HV : FVar w p g B at_ j acc wr) (hr : Rf w1 p g B (at_ + 8 * j + 8)) (ho : Only [p] w w1) (hS : B.drop (at_ + 8 * j) = S) (hf : 10 - j = f + 1) (_hj : j < 9)
    (hrv : Bt.rv (B.drop at_) = Bt.rvf f (j + 1) (acc + G % 128 * 2 ^ (7 * j)) (S.drop 8)) (hl : at_ + 8 * j + 8 ≤ B.length) : FVar w p g B at_ (j + 1) (acc + G % 128 * 2 ^ (7 * j)) w1 := by
  refine ⟨?_, ho, ?_, by omega, ?_⟩
  · rw [show at_ + 8 * (j + 1) = at_ + 8 * j + 8 by omega]; exact hr
  · have h3 := HV.accl
    rw [show 7 * (j + 1) = 7 + 7 * j by omega, Nat.pow_add]
    have : G % 128 ≤ 127 := by omega
    have := Nat.mul_le_mul_right (2 ^ (7 * j)) this
    omega
  · rw [hrv, ← hS, List.drop_drop, show 10 - (j + 1) = f by omega, show at_ + 8 * (j + 1) = at_ + 8 * j + 8 by omega]
def FvPost (w : World) (p g : Nat) (B : List Bool) (at_ : Nat) (e : Ending) (w' : World) : Prop :=
  e = .returned (.tuple #[.int .u64 (((Bt.rv (B.drop at_)).1 : Nat) : Int), .int .u16 (((Bt.rv (B.drop at_)).2.1 : Nat) : Int)]) ∧ Rf w' p g B (at_ + (Bt.rv (B.drop at_)).2.2) ∧ Only [p] w w'
set_option maxRecDepth 100000 in
set_option maxHeartbeats 400000 in
theorem fvarint_any (p g : Nat) (B : List Bool) (at_ : Nat) (w : World) (H : Rf w p g B at_) (hat : at_ ≤ B.length) (hbd : B.length ≤ 1000000000) :
    Calls Tryz.prog 96 #[.pointer (some ⟨p, 0, none⟩)] w (FvPost w p g B at_) := by
  obtain ⟨a, cap, c0, c1, f0, f1, _⟩ := rf_slice H
  have HI := Lib.hid (show FVar w p g B at_ 0 0 w from ⟨H, Only.refl _ _, by decide, hat, rfl⟩)
  clear H
  go_enter Tryz.func96, Tryz.ntmps96
  go_wp2
  clear c0 c1 f0 f1
  go_loopw [5, 6] (fun v i wr => ∃ j acc : Nat, i = .int .i64 (j : Nat) ∧ v = .int .u64 (acc : Nat) ∧ j ≤ 9 ∧ Hid (FVar w p g B at_ j acc wr)) (fun _ i _ => 10 - (intOf i).toNat)
  case atStart => exact ⟨0, 0, rfl, rfl, by decide, HI⟩
  case round =>
    obtain ⟨j, acc, rfl, rfl, hj, HV⟩ := hrel
    have hd10 : decide ((j : Int) < 10) = true := by simp; omega
    obtain ⟨f, hf⟩ : ∃ f, 10 - j = f + 1 := ⟨9 - j, by omega⟩
    have hrv := HV.out.rv
    rw [hf] at hrv
    obtain ⟨S, hS⟩ : ∃ S, B.drop (at_ + 8 * j) = S := ⟨_, rfl⟩
    have HF := Lib.hid hf
    clear hf
    by_cases hs : S.length < 8
    · have hrd : Bt.rd S 8 = (0, 20, 0) := by unfold Bt.rd; rw [if_neg (by omega), if_pos (by exact hs)]
      have hres : Bt.rv (B.drop at_) = (0, 20, 0) := by rw [hrv, hS, Bt.rvf, if_pos hs]
      have HR := Lib.hid hrd
      have HRES := Lib.hid hres
      have HS := Lib.hid hS
      clear hrd hres hS hrv hs
      go_wp2_with fail
      refine (fnext_any p g B (at_ + 8 * j) 8 _ HV.out.rf HV.out.le hbd).mono ?_
      rintro e w1 ⟨rfl, hr, ho⟩
      rw [HS.out, HR.out] at hr ⊢
      obtain ⟨_, _, c0, c1, f0, f1, _⟩ := rf_slice hr
      have XR := Lib.hid hr
      have XO := Lib.hid (HV.out.only.trans ho (fun x hx => .inl hx))
      clear hr ho c0
      go_wp2
      go_ret2
      refine ⟨by rw [HRES.out]; rfl, ?_, XO.out.setCell (p := ⟨p, 1, none⟩) (.inl (by simp)) _⟩
      rw [HRES.out]
      exact rf_at XR.out
    · obtain ⟨G, hG⟩ : ∃ G, Bt.val (S.take 8) = G := ⟨_, rfl⟩
      have hGl : G < 256 := by
        have := Bt.val_lt (S.take 8)
        rw [hG, List.length_take, Nat.min_eq_left (by omega)] at this
        exact this
      have hSl : at_ + 8 * j + 8 ≤ B.length := by
        have := congrArg List.length hS
        rw [List.length_drop] at this; omega
      have hrd : Bt.rd S 8 = (G, 0, 8) := by unfold Bt.rd; rw [if_neg (by omega), if_neg (by exact hs)]; show (Bt.val (S.take 8), 0, 8) = _; rw [hG]
      rw [hS, Bt.rvf, if_neg hs, hG] at hrv
      have HR := Lib.hid hrd
      have HS := Lib.hid hS
      have HG := Lib.hid hG
      clear hrd hS hs hG
      by_cases h9 : j = 9 ∧ 1 < G
      · have hres : Bt.rv (B.drop at_) = (0, 21, 0) := by rw [hrv, if_pos h9]
        have HRES := Lib.hid hres
        obtain ⟨rfl, h92⟩ := h9
        have hd : decide ((G : Int) > 1) = true := by simp; omega
        clear hres hrv
        go_wp2_with fail
        refine (fnext_any p g B (at_ + 8 * 9) 8 _ HV.out.rf HV.out.le hbd).mono ?_
        rintro e w1 ⟨rfl, hr, ho⟩
        rw [HS.out, HR.out] at hr ⊢
        obtain ⟨_, _, c0, c1, f0, f1, _⟩ := rf_slice hr
        have XR := Lib.hid hr
        have XO := Lib.hid (HV.out.only.trans ho (fun x hx => .inl hx))
        clear hr ho c0
        go_wp2
        go_ret2
        refine ⟨by rw [HRES.out]; rfl, ?_, XO.out.setCell (p := ⟨p, 1, none⟩) (.inl (by simp)) _⟩
        rw [HRES.out]
        exact rf_at XR.out
      · rw [if_neg h9] at hrv
        have hor : bits .or .u64 (acc : Int) (IntKind.u64.wrap ((G : Int) % 128 * 2 ^ (7 * j))) = ((acc + G % 128 * 2 ^ (7 * j) : Nat) : Int) :=
          acc_or HV.out.accl hGl (by omega) (by omega) (by omega)
        have HOR := Lib.hid hor
        clear hor
        have hd9 : ((j : Int) == 9) = false ∨ (((j : Int) == 9) = true ∧ decide ((G : Int) > 1) = false) := by
          by_cases h : j = 9
          · exact .inr ⟨by simp; omega, by simp; omega⟩
          · exact .inl (by simp; omega)
        by_cases h10 : 128 ≤ G
        · rw [if_pos h10] at hrv
          have hj9 : ((j : Int) == 9) = false := by simp; omega
          have hd : decide ((G : Int) < 128) = false := by simp; omega
          have HRV := Lib.hid hrv
          clear hrv hd9
          go_wp2_with fail
          refine (fnext_any p g B (at_ + 8 * j) 8 _ HV.out.rf HV.out.le hbd).mono ?_
          rintro e w1 ⟨rfl, hr, ho⟩
          rw [HS.out, HR.out] at hr ⊢
          obtain ⟨_, _, c0, c1, f0, f1, _⟩ := rf_slice hr
          have XR := Lib.hid hr
          have XO := Lib.hid (HV.out.only.trans ho (fun x hx => .inl hx))
          clear hr ho c0
          go_wp2
          have hst := fvar_step HV.out XR.out XO.out HS.out HF.out (by omega) HRV.out hSl
          have HST := Lib.hid hst
          clear hst
          rw [HOR.out]
          go_roundw
          case rel => exact ⟨j + 1, _, by go_num, rfl, by omega, HST⟩
          case measure => simp [intOf]; omega
        · rw [if_neg h10] at hrv
          have hd : decide ((G : Int) < 128) = true := by simp; omega
          by_cases h11 : G = 0 ∧ 0 < j
          · have hres : Bt.rv (B.drop at_) = (0, 21, 0) := by rw [hrv, if_pos h11]
            have HRES := Lib.hid hres
            obtain ⟨rfl, h0j⟩ := h11
            have hL2 : decide (0 < j) = true := by simpa using h0j
            clear hres hrv
            rcases hd9 with hd9 | ⟨hd9, hd8⟩
            all_goals
              go_wp2_with fail
              refine (fnext_any p g B (at_ + 8 * j) 8 _ HV.out.rf HV.out.le hbd).mono ?_
              rintro e w1 ⟨rfl, hr, ho⟩
              rw [HS.out, HR.out] at hr ⊢
              obtain ⟨_, _, c0, c1, f0, f1, _⟩ := rf_slice hr
              have XR := Lib.hid hr
              have XO := Lib.hid (HV.out.only.trans ho (fun x hx => .inl hx))
              clear hr ho c0
              go_wp2
              go_ret2
              refine ⟨by rw [HRES.out]; rfl, ?_, XO.out.setCell (p := ⟨p, 1, none⟩) (.inl (by simp)) _⟩
              rw [HRES.out]
              exact rf_at XR.out
          · rw [if_neg h11] at hrv
            have HRV := Lib.hid hrv
            clear hrv
            by_cases hj0 : 0 < j
            · have hL2 : decide (0 < j) = true := by simpa using hj0
              have hG1 : ((G : Int) == 0) = false := by simp; omega
              rcases hd9 with hd9 | ⟨hd9, hd8⟩
              all_goals
                go_wp2_with fail
                refine (fnext_any p g B (at_ + 8 * j) 8 _ HV.out.rf HV.out.le hbd).mono ?_
                rintro e w1 ⟨rfl, hr, ho⟩
                rw [HS.out, HR.out] at hr ⊢
                obtain ⟨_, _, c0, c1, f0, f1, _⟩ := rf_slice hr
                have XR := Lib.hid hr
                have XO := Lib.hid (HV.out.only.trans ho (fun x hx => .inl hx))
                clear hr ho c0
                go_wp2
                rw [HOR.out]
                go_ret2
                refine ⟨by rw [HRV.out]; rfl, ?_, XO.out⟩
                rw [HRV.out, show at_ + 8 * (j + 1) = at_ + 8 * j + 8 by omega]
                exact XR.out
            · have hL2 : decide (0 < j) = false := by simp; omega
              have hj9 : ((j : Int) == 9) = false := by simp; omega
              clear hd9
              go_wp2_with fail
              refine (fnext_any p g B (at_ + 8 * j) 8 _ HV.out.rf HV.out.le hbd).mono ?_
              rintro e w1 ⟨rfl, hr, ho⟩
              rw [HS.out, HR.out] at hr ⊢
              obtain ⟨_, _, c0, c1, f0, f1, _⟩ := rf_slice hr
              have XR := Lib.hid hr
              have XO := Lib.hid (HV.out.only.trans ho (fun x hx => .inl hx))
              clear hr ho c0
              go_wp2
              rw [HOR.out]
              go_ret2
              refine ⟨by rw [HRV.out]; rfl, ?_, XO.out⟩
              rw [HRV.out, show at_ + 8 * (j + 1) = at_ + 8 * j + 8 by omega]
              exact XR.out
def FsPost (w : World) (p g : Nat) (B : List Bool) (at_ : Nat) (e : Ending) (w' : World) : Prop :=
  e = .returned (.tuple #[.int .i64 (Bt.uz (Bt.rv (B.drop at_)).1), .int .u16 (((Bt.rv (B.drop at_)).2.1 : Nat) : Int)]) ∧ Rf w' p g B (at_ + (Bt.rv (B.drop at_)).2.2) ∧ Only [p] w w'
set_option maxHeartbeats 400000 in
theorem fsigned_any (p g : Nat) (B : List Bool) (at_ : Nat) (w : World) (H : Rf w p g B at_) (hat : at_ ≤ B.length) (hbd : B.length ≤ 1000000000) :
    Calls Tryz.prog 94 #[.pointer (some ⟨p, 0, none⟩)] w (FsPost w p g B at_) := by
  have H0 := Lib.hid H
  obtain ⟨t, ht⟩ : ∃ t, (Bt.rv (B.drop at_)).1 = t := ⟨_, rfl⟩
  have hlt : t < 18446744073709551616 := by rw [← ht]; exact Bt.rv_lt _
  have HT := Lib.hid ht
  have hl2 : t / 2 < 9223372036854775808 := by omega
  have HU : Hid (Bt.uz t = if t % 2 = 1 then -((t / 2 : Nat) : Int) - 1 else ((t / 2 : Nat) : Int)) := by unfold Bt.uz; rfl
  clear H ht
  by_cases h : t % 2 = 1
  · have hd : ((t : Int) % 2 == 1) = true := by simp; omega
    rw [if_pos h] at HU
    clear h
    go_enter Tryz.func94, Tryz.ntmps94
    go_wp2_with fail
    refine (fvarint_any p g B at_ _ H0.out hat hbd).mono ?_
    rintro e w1 ⟨rfl, hp, ho⟩
    rw [HT.out] at ⊢
    have HP := Lib.hid hp
    have HO := Lib.hid ho
    clear hp ho
    go_wp2
    go_ret2
    exact ⟨by rw [HT.out, HU.out]; rfl, HP.out, HO.out⟩
  · have hd : ((t : Int) % 2 == 1) = false := by simp; omega
    rw [if_neg h] at HU
    clear h
    go_enter Tryz.func94, Tryz.ntmps94
    go_wp2_with fail
    refine (fvarint_any p g B at_ _ H0.out hat hbd).mono ?_
    rintro e w1 ⟨rfl, hp, ho⟩
    rw [HT.out] at ⊢
    have HP := Lib.hid hp
    have HO := Lib.hid ho
    clear hp ho
    go_wp2
    go_ret2
    exact ⟨by rw [HT.out, HU.out]; rfl, HP.out, HO.out⟩
end Go.Proofs.YtdlifcpdlbmijaaGreatDoor.B2
namespace Go.Proofs.YtdlifcpdlbmijaaGreatDoor.B2
open Go.RowKit
theorem grown_below {B : Nat} {w0 w w' : World} {g : Nat} (h : Below B w0 w) (hg : w.grownBy w' (some g)) (hB : B ≤ w.heap.size) (hr : B ≤ g) : Below B w0 w' := h.grown hg hB (fun k hk => by cases hk; exact hr)
theorem grown_below0 {B : Nat} {w0 w w' : World} (h : Below B w0 w) (hg : w.grownBy w' none) (hB : B ≤ w.heap.size) : Below B w0 w' := h.grown hg hB (fun k hk => by cases hk)
/-- what is lent: a block of its own, the bytes and two marks behind them -/
def Lent (w : World) (g : Nat) (bs : List Nat) : Prop := w.heap[g]? = some (.cells (cellsOf (bs ++ [91, 92])).toArray 5 (0, 0))
/-- what a call of LentBytes comes to -/
def LentPost (w : World) (bs : List Nat) (e : Ending) (w' : World) : Prop :=
  ∃ g, w.heap.size ≤ g ∧ e = .returned (.slice (some ⟨g, 0, none⟩) bs.length (bs.length + 2)) ∧ Lent w' g bs ∧ Below w.heap.size w w'
theorem lent_of_owns {w : World} {base g n : Nat} {xs : List Value} (h : w.ownsRow base 5 1 (.slice (some ⟨g, 0, none⟩) n n) n xs) : w.heap[g]? = some (.cells xs.toArray 5 (0, 0)) := by
  obtain ⟨hl, h2⟩ := h
  rcases h2 with ⟨h0, _⟩ | ⟨g', cap, cur, hv, _, hg, _, _, hcs, ht⟩
  · cases h0
  · cases hv
    rw [hg]
    have : cur.toList = xs := by rw [← ht, List.take_of_length_le (by simp; omega)]
    rw [← this]
theorem marks_at (W : World) : ∀ (j : Nat) (u : Value), (cellsOf [91, 92])[j]? = some u → (W.alloc (.cells #[.int .u8 91, .int .u8 92] 5)).cell? ((⟨W.heap.size, 0, none⟩ : Addr).add j) = some u := by
  intro j u hu
  rw [show (⟨W.heap.size, 0, none⟩ : Addr).add j = ⟨W.heap.size, j, none⟩ by unfold Addr.add; split <;> simp_all, cell_of_row _ _ _ _ _ _ (heap_alloc_new W _)]
  rw [show (#[Value.int .u8 91, .int .u8 92] : Array Value) = (cellsOf [91, 92]).toArray from rfl, List.getElem?_toArray]
  exact hu
set_option maxHeartbeats 400000 in
theorem lent_any (a : Option Addr) (bs : List Nat) (cap : Nat) (w : World) (H : Bys w a bs) (hc0 : a = none → cap = 0) (hsm : bs.length ≤ 100000) :
    Calls Tryz.prog 20 #[.slice a bs.length cap] w (LentPost w bs) := by
  obtain ⟨i0, hi, hz0, hz1, hz2⟩ := info_parts info5
  have A1 := Lib.hid H
  clear H
  cases a with
  | none =>
    obtain rfl : cap = 0 := hc0 rfl
    have hbs : bs = [] := by
      refine Decidable.by_contra fun hn => ?_
      obtain ⟨b, off, e, _⟩ := A1.out.2.2 hn
      cases e
    subst hbs
    clear hc0 hsm
    go_enter Tryz.func20, Tryz.ntmps20
    go_wp2_with (first | (at_make; refine wpList_make_own _ rfl _ _ 24 rfl w.heap.size 5 i0 (.int .u8 0) 1 Tryz.underlying24 hi hz0 hz1 .i64 .i64 _ 2 rfl rfl (by rfl) (by rw [hz2]; omega) (by unfold maxLen; omega) (Nat.le_refl _) ?_; intro w1 hown1 hgr1) | (at_builtin; refine wpList_append_own_none rfl (.tmp 8) (.tmp 9) 24 rfl w.heap.size 5 i0 1 Tryz.underlying24 hi _ 0 [] rfl hown1 rfl ?_) | (at_builtin; refine wpList_append_own_spare _ rfl (.tmp 11) (.tmp 12) 24 rfl w.heap.size 5 i0 1 Tryz.underlying24 hi hz1 w.heap.size 0 2 [] rfl (hown1.alloc _) ⟨w1.heap.size, 0, none⟩ 2 2 (cellsOf [91, 92]) rfl rfl (marks_at w1) (cellsOf_one _) (by omega) ?_; intro w3 hown3 hgr3))
    go_ret
    have hz1' : w.heap.size ≤ w1.heap.size := hgr1.size
    exact ⟨w.heap.size, Nat.le_refl _, rfl, lent_of_owns hown3, grown_below ((grown_below0 (Below.refl _ _) hgr1 (Nat.le_refl _)).alloc hz1' _) hgr3 (by simp; omega) (Nat.le_refl _)⟩
  | some ad =>
    clear hc0
    go_enter Tryz.func20, Tryz.ntmps20
    go_wp2_with (first | (at_make; refine wpList_make_own _ rfl _ _ 24 rfl w.heap.size 5 i0 (.int .u8 0) 1 Tryz.underlying24 hi hz0 hz1 .i64 .i64 _ (bs.length + 2) rfl rfl (by simp) (by rw [hz2]; omega) (by unfold maxLen; omega) (Nat.le_refl _) ?_; intro w1 hown1 hgr1; have HB1 := Lib.hid (grown_below0 (Below.refl _ _) hgr1 (Nat.le_refl _)); have hsz : w.heap.size ≤ w1.heap.size := hgr1.size; clear hgr1) | (at_builtin; refine wpList_append_own_spare _ rfl (.tmp 8) (.tmp 9) 24 rfl w.heap.size 5 i0 1 Tryz.underlying24 hi hz1 w.heap.size 0 (bs.length + 2) [] rfl hown1 ad bs.length cap (cellsOf bs) rfl (by rw [cellsOf_length]; omega) ((A1.out.below HB1.out).cells) (cellsOf_one bs) (by omega) ?_; intro w2 hown2 hgr2; have hsz2 : w.heap.size ≤ w2.heap.size := Nat.le_trans hsz hgr2.size; have HB2 := Lib.hid (grown_below HB1.out hgr2 hsz (Nat.le_refl _)); clear hgr2 hown1; simp only [Nat.zero_add, List.nil_append] at hown2) | (at_builtin; refine wpList_append_own_spare _ rfl (.tmp 11) (.tmp 12) 24 rfl w.heap.size 5 i0 1 Tryz.underlying24 hi hz1 w.heap.size bs.length (bs.length + 2) (cellsOf bs) rfl (hown2.alloc _) ⟨w2.heap.size, 0, none⟩ 2 2 (cellsOf [91, 92]) rfl rfl (marks_at w2) (cellsOf_one _) (by omega) ?_; intro w3 hown3 hgr3))
    go_ret
    refine ⟨w.heap.size, Nat.le_refl _, rfl, ?_, grown_below (HB2.out.alloc hsz2 _) hgr3 (by simp; omega) (Nat.le_refl _)⟩
    unfold Lent
    rw [lent_of_owns hown3]
    simp [cellsOf]
theorem Lent.cell {w : World} {g : Nat} {bs : List Nat} (h : Lent w g bs) (j : Nat) : w.cell? ⟨g, j, none⟩ = (cellsOf (bs ++ [91, 92]))[j]? := by
  rw [cell_of_row _ _ _ _ _ _ h, List.getElem?_toArray]
theorem Lent.mark1 {w : World} {g : Nat} {bs : List Nat} (h : Lent w g bs) : w.cell? ⟨g, bs.length, none⟩ = some (.int .u8 91) := by
  rw [h.cell]; simp [cellsOf]
theorem Lent.mark2 {w : World} {g : Nat} {bs : List Nat} (h : Lent w g bs) : w.cell? ⟨g, bs.length + 1, none⟩ = some (.int .u8 92) := by
  rw [h.cell]; simp [cellsOf]
theorem Lent.bytes {w : World} {g : Nat} {bs : List Nat} (h : Lent w g bs) (hl : bs.length ≤ maxLen) (h8 : ∀ c ∈ bs, c < 256) : Bys w (some ⟨g, 0, none⟩) bs := by
  refine ⟨hl, h8, fun _ => ⟨g, 0, rfl, (Array.getElem?_eq_some_iff.1 h).1, fun i hi => ?_⟩⟩
  rw [Nat.zero_add, h.cell]
  unfold cellsOf; rw [List.getElem?_map, List.getElem?_append_left hi, List.getElem?_eq_getElem hi]; rfl
theorem Lent.below {w w' : World} {g : Nat} {bs : List Nat} (h : Lent w g bs) (hb : Below w.heap.size w w') : Lent w' g bs := (hb.block g (Array.getElem?_eq_some_iff.1 h).1).trans h
set_option maxHeartbeats 400000 in
theorem whole_any (g : Nat) (a : Option Addr) (bs : List Nat) (cap : Nat) (w : World) (L : Lent w g bs) (H : Bys w a bs) (hsm : bs.length ≤ 100000) :
    Calls Tryz.prog 33 #[.slice (some ⟨g, 0, none⟩) bs.length (bs.length + 2), .slice a bs.length cap] w fun e w' => e = .returned (.bool true) ∧ Below w.heap.size w w' := by
  have m1 := L.mark1
  have m2 := L.mark2
  have A1 := Lib.hid (L.bytes H.1 H.2.1)
  have A2 := Lib.hid H
  clear L H
  go_enter Tryz.func33, Tryz.ntmps33
  go_wp2_with (go_at_call 40; refine (same_any _ _ bs _ _ _ A1.out A2.out).mono ?_; rintro e w' ⟨rfl, hb⟩; have HB := Lib.hid hb; clear hb)
  go_ret
  exact ⟨rfl, HB.out⟩
/-- while it is written over -/
def Spoilt (w : World) (g L : Nat) (wr : World) : Prop := (∃ cur, wr.heap[g]? = some (.cells cur 5 (0, 0)) ∧ cur.size = L) ∧ Only [g] w wr
theorem Spoilt.cell {w wr : World} {g L k : Nat} (h : Spoilt w g L wr) (hk : k < L) : (∃ u, wr.cell? ⟨g, k, none⟩ = some u) ∧ wr.frozen? ⟨g, k, none⟩ = false ∧ ∀ u, Spoilt w g L (wr.setCell ⟨g, k, none⟩ u) := by
  obtain ⟨⟨cur, h1, h2⟩, h3⟩ := h
  refine ⟨⟨cur[k]'(by omega), ?_⟩, frozen_of_row _ _ _ _ _ h1, fun u => ⟨⟨_, heap_setCell_same _ _ _ _ _ _ h1, by simpa using h2⟩, h3.setCell (p := ⟨g, k, none⟩) (.inl (by simp)) u⟩⟩
  rw [cell_of_row _ _ _ _ _ _ h1, Array.getElem?_eq_getElem (by omega)]
end Go.Proofs.YtdlifcpdlbmijaaGreatDoor.B2
namespace Go.Proofs.YtdlifcpdlbmijaaGreatDoor.B2
open Go.RowKit
/-- how far a varint has been put -/
def FvarAt (w : World) (p g : Nat) (B : List Bool) (at_ v u : Nat) (wr : World) : Prop := ∃ pre, pre ++ Bt.vb u = Bt.vb v ∧ RfPost w p g (B ++ pre) at_ wr
set_option maxHeartbeats 400000 in
theorem fputvar_any (p g : Nat) (B : List Bool) (at_ v : Nat) (hv : v < 18446744073709551616) (w : World) (H : Rf w p g B at_) (hB : B.length + 80 ≤ 1000000000) :
    Calls Tryz.prog 113 #[.pointer (some ⟨p, 0, none⟩), .int .u64 (v : Nat)] w fun e w' => e = .returned (.tuple #[]) ∧ RfPost w p g (B ++ Bt.vb v) at_ w' := by
  have h80 : (Bt.vb v).length ≤ 80 := by rw [Bt.vb_length]; have := Bt.vg_ten v hv; omega
  have H0 := Lib.hid (show FvarAt w p g B at_ v v w from ⟨[], rfl, by simpa using RfPost.refl H⟩)
  have HV := Lib.hid hv
  clear H hv
  go_enter Tryz.func113, Tryz.ntmps113
  go_wp2
  go_loopw [1] (fun i wr => ∃ u : Nat, i = .int .u64 (u : Nat) ∧ u ≤ v ∧ Hid (FvarAt w p g B at_ v u wr)) (fun i _ => (intOf i).toNat)
  case atStart => exact ⟨v, rfl, Nat.le_refl _, H0⟩
  case round =>
    obtain ⟨u, rfl, hu, pre, hpre, g1, HW, hg1, HO⟩ := hrel
    have hl : pre.length + (Bt.vb u).length ≤ 80 := by rw [← List.length_append, hpre]; exact h80
    have HP := Lib.hid hpre
    have HX := Lib.hid HW
    have HOO := Lib.hid HO
    have hu2 : 8 ≤ (Bt.vb u).length := by rw [Bt.vb_length]; have := Bt.vg_pos u; omega
    have hu64 : u < 18446744073709551616 := Nat.lt_of_le_of_lt hu HV.out
    clear hpre HW HO
    by_cases hlt : 128 ≤ u
    · have hd : decide ((u : Int) > 127) = true := by simp; omega
      go_wp2_with fail
      rw [show (128 : Int) + (u : Int) % 128 = ((u % 128 + 128 : Nat) : Int) by omega]
      refine (fbits_good p g1 (B ++ pre) at_ (u % 128 + 128) 8 (by omega) (by omega) _ HX.out (by rw [List.length_append]; omega)).mono ?_
      rintro e w' ⟨rfl, hp⟩
      have HY : Hid (FvarAt w p g B at_ v (u / 128) w') := by
        refine ⟨pre ++ Bt.top (u % 128 + 128) 8, by rw [List.append_assoc, ← Bt.vb_big hlt]; exact HP.out, ?_⟩
        rw [← List.append_assoc]
        exact RfPost.trans HOO.out hg1 hp
      clear hp
      go_wp2
      go_roundw
      case rel => exact ⟨u / 128, by simp, by omega, HY⟩
      case measure => simp [intOf]; omega
    · have hd : decide ((u : Int) > 127) = false := by simp; omega
      go_wp2_with fail
      refine (fbits_good p g1 (B ++ pre) at_ u 8 (by omega) (by omega) _ HX.out (by rw [List.length_append]; omega)).mono ?_
      rintro e w' ⟨rfl, hp⟩
      have HY : Hid (RfPost w p g (B ++ Bt.vb v) at_ w') := by
        rw [← HP.out, Bt.vb_small (by omega), ← List.append_assoc]
        exact RfPost.trans HOO.out hg1 hp
      clear hp
      go_wp2
      go_end0
      exact ⟨rfl, HY.out⟩
set_option maxHeartbeats 400000 in
theorem fputsgn_any (p g : Nat) (B : List Bool) (at_ : Nat) (v : Int) (h1 : -9223372036854775808 ≤ v) (h2 : v ≤ 9223372036854775807) (w : World) (H : Rf w p g B at_) (hB : B.length + 80 ≤ 1000000000) :
    Calls Tryz.prog 87 #[.pointer (some ⟨p, 0, none⟩), .int .i64 v] w fun e w' => e = .returned (.tuple #[]) ∧ RfPost w p g (B ++ Bt.vb (Bt.zz v)) at_ w' := by
  have H0 := Lib.hid H
  clear H
  by_cases h0 : 0 ≤ v
  · have hd : decide (v ≥ 0) = true := by simpa using h0
    go_enter Tryz.func87, Tryz.ntmps87
    go_wp2_with fail
    rw [zz_pos v h0]
    refine (fputvar_any p g B at_ (Bt.zz v) (Bt.zz_lt v h1 h2) _ H0.out hB).mono ?_
    rintro e w' ⟨rfl, hp⟩
    have HP := Lib.hid hp
    clear hp
    go_wp2
    first | go_end0 | refine bodyPost_ret (results_none rfl _ _ _) rfl ?_
    exact ⟨rfl, HP.out⟩
  · have hd : decide (v ≥ 0) = false := by simp; omega
    have hz : -(v + 1) * 2 + 1 = ((Bt.zz v : Nat) : Int) := by unfold Bt.zz; rw [if_neg h0]; omega
    have HZ := Lib.hid hz
    clear hz
    go_enter Tryz.func87, Tryz.ntmps87
    go_wp2_with fail
    rw [HZ.out]
    refine (fputvar_any p g B at_ (Bt.zz v) (Bt.zz_lt v h1 h2) _ H0.out hB).mono ?_
    rintro e w' ⟨rfl, hp⟩
    have HP := Lib.hid hp
    clear hp
    go_wp2
    first | go_end0 | refine bodyPost_ret (results_none rfl _ _ _) rfl ?_
    exact ⟨rfl, HP.out⟩
/-- the bits with eight noughts behind them -/
def pad (B : List Bool) : List Bool := B ++ List.replicate 8 false
theorem pad_length (B : List Bool) : (pad B).length = B.length + 8 := by simp [pad]
theorem pad_get (B : List Bool) (i : Nat) (h : i < B.length + 8) : (pad B)[i]'(by rw [pad_length]; exact h) = if h2 : i < B.length then B[i] else false := by
  unfold pad
  by_cases h2 : i < B.length
  · rw [dif_pos h2, List.getElem_append_left h2]
  · rw [dif_neg h2, List.getElem_append_right (by omega), List.getElem_replicate]
theorem pad_step (B : List Bool) (i k : Nat) (h : i + k < B.length + 8) : Bt.val (((pad B).drop i).take (k + 1)) = 2 * Bt.val (((pad B).drop i).take k) + (if h2 : i + k < B.length then B[i + k] else false).toNat := by
  rw [val_step _ k (by rw [List.length_drop, pad_length]; omega), List.getElem_drop, pad_get B (i + k) h]
/-- what has been laid of the bytes: m of them -/
def LaidAt (w : World) (B : List Bool) (m : Nat) (v : Value) (wr : World) : Prop := ∃ outs g, outs.length = m ∧ (∀ c ∈ outs, c < 256) ∧ Bt.unpack outs = (pad B).take (8 * m) ∧ Row wr g v outs ∧ (v.ownBlock = none ∨ w.heap.size ≤ g) ∧ Below w.heap.size w wr
theorem LaidAt.shape {w wr : World} {B : List Bool} {m : Nat} {v : Value} (h : LaidAt w B m v wr) : ∃ a cap, v = .slice a m cap := by
  obtain ⟨outs, g, hl, _, _, hR, _⟩ := h
  rcases hR.value with ⟨rfl, h0⟩ | ⟨cap, cur, rfl, _⟩
  · subst h0; exact ⟨_, _, by rw [← hl]; rfl⟩
  · exact ⟨_, _, by rw [hl]⟩
theorem laid_step {w wr w' : World} {B : List Bool} {m g V : Nat} {v v' : Value} {o : Obj} {outs : List Nat} (hl : outs.length = m) (h8 : ∀ c ∈ outs, c < 256) (hu : Bt.unpack outs = (pad B).take (8 * m)) (hR : Row wr g v outs) (hne : v.ownBlock = none ∨ w.heap.size ≤ g) (hb : Below w.heap.size w wr)
    (hV : Bt.val (((pad B).drop (8 * m)).take 8) = V) (hm : 8 * m < B.length) (hV8 : V < 256) (hown : w'.ownsRow 0 5 1 v' (m + 1) (cellsOf outs ++ cellsOf [V])) (hgr : (wr.alloc o).grownBy w' v.ownBlock) (hpl : v'.ownBlock = v.ownBlock ∨ ∃ g, v'.ownBlock = some g ∧ wr.heap.size + 1 ≤ g) : LaidAt w B (m + 1) v' w' := by
  subst hl
  obtain ⟨d2, cap2, rfl, hcap2, R2, hd2, hd2l⟩ := grow_row (ns := [V]) hR hown hpl (by simp)
  have hs := hb.size
  refine ⟨outs ++ [V], d2, by simp, fun c hc => ?_, ?_, R2, ?_, ?_⟩
  · rcases List.mem_append.1 hc with hc | hc
    · exact h8 c hc
    · simp only [List.mem_singleton] at hc; omega
  · have hlen : (((pad B).drop (8 * outs.length)).take 8).length = 8 := by rw [List.length_take, List.length_drop, pad_length]; omega
    have ht := Bt.top_val (((pad B).drop (8 * outs.length)).take 8)
    rw [hlen, hV] at ht
    rw [Bt.unpack_append, Bt.unpack_one, hu, ht, show 8 * (outs.length + 1) = 8 * outs.length + 8 by omega, List.take_add]
  · right
    rcases hd2 with ⟨h1, rfl⟩ | h1
    · rcases hne with h | h
      · rw [h] at h1; cases h1
      · exact h
    · omega
  · refine (hb.alloc hs o).grown hgr (by simp; omega) (fun k hk => ?_)
    rcases hR.2 with h | h
    · rw [h] at hk; cases hk
    · rw [h] at hk; injection hk with hk; subst hk
      rcases hne with h2 | h2
      · rw [h2] at h; cases h
      · exact h2
theorem one_byte (W : World) (c : Nat) : ∀ (j : Nat) (u : Value), (cellsOf [c])[j]? = some u → (W.alloc (.cells #[.int .u8 ((c : Nat) : Int)] 5)).cell? ((⟨W.heap.size, 0, none⟩ : Addr).add j) = some u := by
  intro j u hu
  rw [add_here, cell_of_row _ _ _ _ _ _ (heap_alloc_new W _)]
  rw [show (#[Value.int .u8 ((c : Nat) : Int)] : Array Value) = (cellsOf [c]).toArray from rfl, List.getElem?_toArray]
  exact hu
set_option maxRecDepth 100000 in
set_option maxHeartbeats 400000 in
theorem fbytes_any (p g at_ : Nat) (B : List Bool) (w : World) (H : Rf w p g B at_) (hB : B.length ≤ 100000000) :
    Calls Tryz.prog 92 #[.pointer (some ⟨p, 0, none⟩)] w (BytesPost w B) := by
  obtain ⟨i0, hi, hz0, hz1, hz2⟩ := info_parts info5
  have H0 := Lib.hid H
  have L0 := Lib.hid (show LaidAt w B 0 (.slice none 0 0) w from ⟨[], 0, rfl, by simp, by simp [Bt.unpack], Row.nil _ _, .inl rfl, Below.refl _ _⟩)
  clear H
  go_enter Tryz.func92, Tryz.ntmps92
  go_wp2
  go_loopw [3, 4] (fun o i wr => ∃ m : Nat, i = .int .i64 ((8 * m : Nat) : Int) ∧ 8 * m < B.length + 8 ∧ Hid (LaidAt w B m o wr)) (fun _ i _ => B.length + 8 - (intOf i).toNat)
  case atStart => exact ⟨0, rfl, by omega, L0⟩
  case round =>
    obtain ⟨m, rfl, hm, HL⟩ := hrel
    obtain ⟨ao, co, rfl⟩ := HL.out.shape
    obtain ⟨M, hM⟩ : ∃ M, 8 * m = M := ⟨_, rfl⟩
    have HMM := Lib.hid hM
    rw [hM] at hm ⊢
    clear hM
    have HB : Hid (Below w.heap.size w wr) := by
      obtain ⟨_, _, _, _, _, _, _, h⟩ := HL.out
      exact h
    obtain ⟨a, cap, c0, c1, f0, f1, hcells, _⟩ := rf_slice (H0.out.below HB.out)
    by_cases hlt : M < B.length
    · have hd : decide ((M : Int) < (B.length : Int)) = true := by simp; omega
      have hdn : decide (M < B.length) = true := by simpa using hlt
      go_wp2
      go_loop [5, 6] (fun n k => ∃ j : Nat, j ≤ 8 ∧ k = .int .i64 (j : Nat) ∧ n = .int .i64 ((Bt.val (((pad B).drop M).take j) : Nat) : Int)) (fun _ k => 8 - (intOf k).toNat)
      case atStart => exact ⟨0, by omega, rfl, rfl⟩
      case round =>
        obtain ⟨j, hj, rfl, rfl⟩ := hrel
        have hvl : Bt.val (((pad B).drop M).take j) < 2 ^ j := by
          have := Bt.val_lt (((pad B).drop M).take j)
          rwa [List.length_take, List.length_drop, pad_length, Nat.min_eq_left (by omega)] at this
        have hv8 : Bt.val (((pad B).drop M).take j) < 256 := Nat.lt_of_lt_of_le hvl (Nat.pow_le_pow_right (n := 2) (by decide) hj)
        by_cases hj8 : j < 8
        · have hst := pad_step B M j (by omega)
          have hdj : decide ((j : Int) < 8) = true := by simp; omega
          obtain ⟨V, hV⟩ : ∃ V, Bt.val (((pad B).drop M).take j) = V := ⟨_, rfl⟩
          rw [hV] at hv8 hst ⊢
          clear hvl hV
          by_cases hin : M + j < B.length
          · rw [dif_pos hin] at hst
            obtain ⟨rfl, hc⟩ := hcells (M + j) hin
            obtain ⟨c, hcc⟩ : ∃ c, (B[M + j]'hin).toNat = c := ⟨_, rfl⟩
            have hc1 : c ≤ 1 := by rw [← hcc]; cases B[M + j]'hin <;> decide
            rw [hcc] at hst hc
            have HS := Lib.hid hst
            clear hst hcc hcells
            have hdi : decide ((M : Int) + (j : Int) < (B.length : Int)) = true := by simp; omega
            have hix : (M : Int) + (j : Int) < (B.length : Int) := by omega
            go_wp2
            go_round
            case rel => exact ⟨j + 1, by omega, by go_num, by rw [HS.out]; go_num⟩
            case measure => simp [intOf]; omega
          · rw [dif_neg hin] at hst
            have HS := Lib.hid hst
            have hdi : decide ((M : Int) + (j : Int) < (B.length : Int)) = false := by simp; omega
            clear hst hcells
            go_wp2
            go_round
            case rel => exact ⟨j + 1, by omega, by go_num, by rw [HS.out]; go_num⟩
            case measure => simp [intOf]; omega
        · obtain rfl : j = 8 := by omega
          obtain ⟨V, hV⟩ : ∃ V, Bt.val (((pad B).drop M).take 8) = V := ⟨_, rfl⟩
          rw [hV] at hv8 ⊢
          have HV := Lib.hid hV
          have hml : m ≤ 20000000 := by have := HMM.out; omega
          clear hvl hV hcells
          obtain ⟨outs, g2, hlo, h8, hu, hR, hne, hb⟩ := HL.out
          have HOW2 := Lib.hid (show wr.ownsRow 0 5 1 (.slice ao m co) m (cellsOf outs) by rw [← hlo]; exact hlo ▸ hR.1)
          have HST := Lib.hid (show ∀ (v' : Value) (w' : World) (o : Obj), w'.ownsRow 0 5 1 v' (m + 1) (cellsOf outs ++ cellsOf [V]) → (wr.alloc o).grownBy w' (Value.slice ao m co).ownBlock → (v'.ownBlock = (Value.slice ao m co).ownBlock ∨ ∃ g, v'.ownBlock = some g ∧ wr.heap.size + 1 ≤ g) → LaidAt w B (m + 1) v' w' from fun v' w' o h1 h2 h3 => laid_step hlo h8 hu hR hne hb (by rw [HMM.out]; exact HV.out) (by rw [HMM.out]; omega) hv8 h1 h2 h3)
          clear hlo h8 hu hR hne hb
          go_wp2_with (at_builtin; refine wpList_append_place _ rfl (.tmp 43) (.tmp 46) 24 rfl 5 i0 (.int .u8 0) 1 1 Tryz.underlying24 hi hz0 hz1 hz2 rfl (by decide) (.slice ao m co) m (cellsOf outs) rfl (HOW2.out.alloc _) ⟨wr.heap.size, 0, none⟩ 1 1 (cellsOf [V]) rfl rfl (one_byte wr V) (cellsOf_one _) (by unfold maxLen; omega) (by omega) ?_)
          intro v2 w2 hown2 hgr2 hpl2
          have HN := Lib.hid (HST.out v2 w2 _ hown2 hgr2 hpl2)
          clear hown2 hgr2 hpl2
          go_wp2
          go_roundw
          case rel => exact ⟨m + 1, by have := HMM.out; congr 1; omega, by have := HMM.out; omega, HN⟩
          case measure => simp [intOf]; omega
    · have hd : decide (M < B.length) = false := by simpa using hlt
      go_wp2
      go_ret
      obtain ⟨outs, g2, hlo, h8, hu, hR, hne, hb⟩ := HL.out
      have hMM := HMM.out
      subst hlo
      refine ⟨outs, 8 * outs.length - B.length, by omega, ⟨h8, ?_⟩, ao, co, g2, rfl, hR, ?_, hb⟩
      · rw [hu, pad, List.take_append, List.take_of_length_le (by omega), List.take_replicate, Nat.min_eq_left (by omega)]
      · rcases hne with h | h
        · left
          cases ao with
          | none => rfl
          | some x => cases h
        · exact .inr h
end Go.Proofs.YtdlifcpdlbmijaaGreatDoor.B2
namespace Go.Proofs.YtdlifcpdlbmijaaGreatDoor
set_option linter.unusedVariables false
set_option linter.unusedSimpArgs false
open Go.RowKit Go.PlainAid Go.Shelf
open B2 (Only Wr PutPost Bys Row cellsOf)
open Gm (St Smp)
theorem and0_spell (v i : Nat) (hv : v < 18446744073709551616) : (bits .and .u64 ((v : Int) / 2 ^ i) 1 == 0) = !v.testBit i := by
  have h := B2.and1_spell v i hv
  have e : ((v : Int) / 2 ^ i) = ((v >>> i : Nat) : Int) := by
    rw [Nat.shiftRight_eq_div_pow]
    simp only [Int.natCast_ediv, Int.natCast_pow, Int.cast_ofNat_Int]
  have hl : v >>> i < 18446744073709551616 := by
    rw [Nat.shiftRight_eq_div_pow]; exact Nat.lt_of_le_of_lt (Nat.div_le_self _ _) hv
  have h2 := u64_and_nat (v >>> i) 1 hl (by decide)
  rw [nat_mask1] at h2
  rw [e] at h ⊢
  have h3 : bits .and .u64 ((v >>> i : Nat) : Int) 1 = ((v >>> i % 2 : Nat) : Int) := h2
  rw [h3] at h ⊢
  rw [← h]
  have h4 : v >>> i % 2 = 0 ∨ v >>> i % 2 = 1 := by omega
  rcases h4 with h4 | h4 <;> rw [h4] <;> rfl
theorem ctz_bits (x : Nat) (h0 : x ≠ 0) (hx : x < 18446744073709551616) : x.testBit (Lib.ctz 64 x) = true ∧ ∀ q, q < Lib.ctz 64 x → x.testBit q = false := by
  obtain ⟨h1, m, h2⟩ := Gm.ctz_facts x h0 hx
  generalize Lib.ctz 64 x = c at *
  have hs : x = (2 * m + 1) <<< c := by rw [h2, Nat.shiftLeft_eq, Nat.mul_comm]
  constructor
  · rw [hs, Nat.testBit_shiftLeft]; simp
  · intro q hq
    rw [hs, Nat.testBit_shiftLeft]
    have : ¬ q ≥ c := by omega
    simp [this]
theorem lead_lt (x l : Nat) (hx : x < 18446744073709551616) (hl : l ≤ 64) (h : ∀ q, q < l → x.testBit (63 - q) = false) : x < 2 ^ (64 - l) := by
  induction l with
  | zero => simpa using hx
  | succ l ih =>
    have h1 := ih (by omega) (fun q hq => h q (by omega))
    have h2 := h l (by omega)
    refine Nat.lt_of_not_le fun hge => ?_
    have h3 : x.testBit (63 - l) = true := by
      rw [Nat.testBit_eq_decide_div_mod_eq]
      have e1 : 64 - (l + 1) = 63 - l := by omega
      rw [e1] at hge
      have e2 : 2 ^ (64 - l) = 2 ^ (63 - l) * 2 := by rw [← Nat.pow_succ]; congr 1; omega
      have h5 : x / 2 ^ (63 - l) = 1 := by
        refine Nat.div_eq_of_lt_le (by omega) ?_
        rw [Nat.add_mul, Nat.one_mul]; omega
      rw [h5]; rfl
    rw [h3] at h2; cases h2
theorem lead_is (x l : Nat) (h0 : x ≠ 0) (hx : x < 18446744073709551616) (hl : l ≤ 31) (h : ∀ q, q < l → x.testBit (63 - q) = false) (he : l = 31 ∨ x.testBit (63 - l) = true) : Gm.wS x = l := by
  obtain ⟨b1, b2, b3, b4⟩ := Gm.bitLen_facts x h0 hx
  have h1 := lead_lt x l hx (by omega) h
  unfold Gm.wS
  have hb : Lib.bitLen x ≤ 64 - l := by
    refine Nat.le_of_not_lt fun hlt => ?_
    have : 2 ^ (64 - l) ≤ 2 ^ (Lib.bitLen x - 1) := Nat.pow_le_pow_right (by decide) (by omega)
    omega
  rcases he with rfl | he
  · omega
  · have hge : 2 ^ (63 - l) ≤ x := Nat.ge_two_pow_of_testBit he
    have hb2 : 63 - l < Lib.bitLen x := by
      refine Nat.lt_of_not_le fun hle => ?_
      have : 2 ^ Lib.bitLen x ≤ 2 ^ (63 - l) := Nat.pow_le_pow_right (by decide) hle
      omega
    omega
set_option maxHeartbeats 8000000 in
set_option maxRecDepth 100000 in
theorem ends_any (x : Nat) (h0 : x ≠ 0) (hx : x < 18446744073709551616) (w : World) :
    Calls Tryz.prog 91 #[.int .u64 ((x : Nat) : Int)] w fun e w' => e = .returned (.tuple #[.int .i64 ((Gm.wS x : Nat) : Int), .int .i64 ((Lib.ctz 64 x : Nat) : Int)]) ∧ w' = w := by
  have HX := Lib.hid (And.intro h0 hx)
  obtain ⟨t1, t2⟩ := ctz_bits x h0 hx
  have hc := (Gm.ctz_facts x h0 hx).1
  obtain ⟨c, hcc⟩ : ∃ c, Lib.ctz 64 x = c := ⟨_, rfl⟩
  rw [hcc] at t1 t2 hc ⊢
  have HT := Lib.hid (And.intro t1 t2)
  have HS := Lib.hid (fun i => and0_spell x i hx)
  clear h0 hx t1 t2 hcc
  go_enter Tryz.func91, Tryz.ntmps91
  go_wp2
  go_loopw [4] (fun i wr => ∃ l : Nat, l ≤ 31 ∧ i = .int .i64 l ∧ Hid (∀ q, q < l → x.testBit (63 - q) = false) ∧ wr = w) (fun i _ => 31 - (intOf i).toNat)
  case atStart => exact ⟨0, by omega, rfl, Lib.hid (fun q h => by omega), rfl⟩
  case round =>
    obtain ⟨l, hl, rfl, HQ, rfl⟩ := hrel
    by_cases h31 : l < 31
    · have g1 : decide ((l : Int) < 31) = true := decide_eq_true (by omega)
      have g2 : decide (l < 31) = true := decide_eq_true h31
      have h63 : (63 : Int) - (l : Int) = ((63 - l : Nat) : Int) := by omega
      have h64 : 63 - l < 64 := by omega
      have hw : IntKind.u64.wrap ((63 - l : Nat) : Int) = ((63 - l : Nat) : Int) := by rw [IntKind.wrap_u64]; omega
      have hsp := HS.out (63 - l)
      by_cases hb : x.testBit (63 - l) = true
      · rw [hb] at hsp
        have HL := Lib.hid (lead_is x l HX.out.1 HX.out.2 hl HQ.out (.inr hb))
        clear hb HQ
        go_wp2
        go_loopw [5] (fun i wr2 => ∃ e : Nat, e ≤ c ∧ i = .int .i64 e ∧ wr2 = wr) (fun i _ => c - (intOf i).toNat)
        case atStart => exact ⟨0, by omega, rfl, rfl⟩
        case round =>
          obtain ⟨e, hec, rfl, rfl⟩ := hrel
          have he64 : e < 64 := by omega
          have hwe : IntKind.u64.wrap ((e : Nat) : Int) = ((e : Nat) : Int) := by rw [IntKind.wrap_u64]; omega
          have hspe := HS.out e
          by_cases hlt : e < c
          · rw [HT.out.2 e hlt] at hspe
            go_wp2
            go_roundw
            case rel => exact ⟨e + 1, by omega, rfl, trivial⟩
            case measure => simp [intOf]; omega
          · have hee : e = c := by omega
            subst hee
            rw [HT.out.1] at hspe
            go_wp2
            go_ret2
            exact ⟨by rw [HL.out]; rfl, rfl⟩
      · have hb2 : x.testBit (63 - l) = false := by simpa using hb
        rw [hb2] at hsp
        have HQ2 := Lib.hid (show ∀ q, q < l + 1 → x.testBit (63 - q) = false from fun q hq => by
          rcases Nat.lt_or_ge q l with h | h
          · exact HQ.out q h
          · have : q = l := by omega
            subst this; exact hb2)
        clear hb hb2 HQ
        go_wp2
        go_roundw
        case rel => exact ⟨l + 1, by omega, rfl, HQ2, trivial⟩
        case measure => simp [intOf]; omega
    · have hl31 : l = 31 := by omega
      subst hl31
      have HL := Lib.hid (lead_is x 31 HX.out.1 HX.out.2 hl HQ.out (.inl rfl))
      have g1 : decide (((31 : Nat) : Int) < 31) = false := decide_eq_false (by omega)
      clear HQ
      go_wp2
      go_loopw [5] (fun i wr2 => ∃ e : Nat, e ≤ c ∧ i = .int .i64 e ∧ wr2 = wr) (fun i _ => c - (intOf i).toNat)
      case atStart => exact ⟨0, by omega, rfl, rfl⟩
      case round =>
        obtain ⟨e, hec, rfl, rfl⟩ := hrel
        have he64 : e < 64 := by omega
        have hwe : IntKind.u64.wrap ((e : Nat) : Int) = ((e : Nat) : Int) := by rw [IntKind.wrap_u64]; omega
        have hspe := HS.out e
        by_cases hlt : e < c
        · rw [HT.out.2 e hlt] at hspe
          go_wp2
          go_roundw
          case rel => exact ⟨e + 1, by omega, rfl, trivial⟩
          case measure => simp [intOf]; omega
        · have hee : e = c := by omega
          subst hee
          rw [HT.out.1] at hspe
          go_wp2
          go_ret2
          exact ⟨by rw [HL.out]; rfl, rfl⟩
end Go.Proofs.YtdlifcpdlbmijaaGreatDoor
