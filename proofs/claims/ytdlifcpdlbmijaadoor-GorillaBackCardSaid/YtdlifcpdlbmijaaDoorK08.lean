/-
  PACKED: GoH, DoorO, StartO, LaidO
-/
import Derived.Test.YtdlifcpdlbmijaaDoorK06
import Derived.Test.YtdlifcpdlbmijaaDoorRows
import Derived.Test.YtdlifcpdlbmijaaDoorK02
import Derived.OrdersIn
import Derived.WalkKit
import Derived.ProofKit
import Derived.LaidMore
import Derived.LaidHandle
import Derived.Lay
import Derived.Lib.LaidIn
import Derived.Stop.Joined
import Derived.LaidLaws
import Derived.LaidSub
import Derived.MakeChecks
import Derived.Lib.LaidTab
import Derived.OpenShut
import Derived.Shelf.Vars
namespace Go.Proofs.YtdlifcpdlbmijaaDoor
set_option linter.unusedVariables false
set_option linter.unusedSimpArgs false
open Go.RowKit Go.PlainAid Go.Shelf
open B2 (Only Bys Row cellsOf owns_only)
open Gm (St Smp Chk)
attribute [local go_sem] Oper.semAt_some
/-- what holds between two parts -/
def EncI (l : List Smp) (n B N0 : Nat) (pre : List (Idx n)) (W : World) : Prop := N0 ≤ W.heap.size ∧ ∃ v cs ds, Boxed W B 77 v ∧ OwnC W N0 v cs ds ∧ cs.length = pre.length ∧ ∀ (i : Nat) (x : Idx n) (cc : Chk), pre[i]? = some x → cs[i]? = some cc → Gm.IsChk (Gm.grp l x.1) cc
theorem encI_own (l : List Smp) (n B N0 : Nat) : Own (EncI l n B N0) := fun s A W' row hs hg hr => by
  obtain ⟨h0, v, cs, ds, h1, h2, h3, h4⟩ := hs
  exact ⟨Nat.le_trans h0 hg.size, v, cs, ds, h1.kept hg (fun e' => by
    obtain ⟨o, ho, hc⟩ := hr _ e'.symm
    rw [show A.heap[B]? = _ from h1] at ho; cases ho; cases hc), h2.kept hg hr, h3, h4⟩
theorem stepIn_append_own {F : Fence} {fu : Nat} {P : Program} (w : World) {ops : Array Oper} {o : Oper} {a : Act} {K : Act → World → Prop} {Q : Exit → Act → World → Prop} {E : Prop}
    (hg : o.guard = none) (s x : Operand) (t : TypeId) (hop : o.op = Op.call { callee := Callee.builtin Builtin.append, args := #[s, x], argTypes := #[t, t] })
    (base : Nat) (e : TypeId) (i : TypeInfo) (z : Value) (size bytes : Nat) (h1 : P.underlying t = some (.slice e)) (h2 : P.info? e = some i) (h3 : i.zero = some z) (h4 : i.size = size) (h5 : i.bytes = bytes) (h6 : z.cells.size = size) (h7 : 0 < size)
    (v : Value) (k : Nat) (xs : List Value) (hs : a.eval s = v) (hown : w.ownsRow base e size v k xs) (ad : Addr) (m c : Nat) (news : List Value) (hx : a.eval x = .slice (some ad) m c) (hn : news.length = m * size)
    (hc : ∀ j u, news[j]? = some u → w.cell? (ad.add j) = some u) (h1c : ∀ u ∈ news, u.oneCell' = true) (b1 : k + m ≤ maxLen) (b2 : (k + m) * bytes ≤ 140737488355328) (b3 : base ≤ w.heap.size)
    (hK : ∀ v' w', w'.ownsRow base e size v' (k + m) (xs ++ news) → w.grownBy w' v.ownBlock → K (a.put o.dst v') w') : if Region.wanted o (yielded ops a.tmps) = true then Oper.wpIn F fu P o a w K Q else E := by
  have hw : Region.wanted o (yielded ops a.tmps) = true := by simp [Region.wanted, hg]
  rw [if_pos hw]
  obtain ⟨v', w', hrun, r1, r2, r3⟩ := run_append_own (P := P) w base t o.type e i z size bytes h1 h2 h3 h4 h5 h6 h7 v k xs hown ad m c news hn hc h1c b1 b2 b3
  unfold Oper.wpIn
  refine ⟨?_, ?_⟩
  · simp [Oper.about, hop, resolve, Target.leads, Sem.run_pure]
  · rw [Oper.semAt_plain F _ _ (by rw [hop]; intro c hc'; cases hc')]
    simp [execOp, hop, resolve, invoke, builtin, hs, hx, hrun, Result.andThen]
    exact hK v' w' r1 r2
theorem info73 : (Tryd.prog.info? 73).map (fun i => (i.zero, i.size, i.bytes)) = some (some (.agg #[.int .i64 0, .int .i64 0, .int .i64 0, .slice none 0 0]), 4, 48) := by kernel_rfl
theorem four_cells (w : World) (x y z u : Value) (t : TypeId) : ∀ j q, ([x, y, z, u] : List Value)[j]? = some q → (w.alloc (.cells #[x, y, z, u] t)).cell? ((⟨w.heap.size, 0, none⟩ : Addr).add j) = some q := by
  intro j q hj
  rw [B2.add_here, cell_of_row _ _ _ _ _ _ (heap_alloc_new w _), List.getElem?_toArray]
  exact hj
theorem boxed_below {W W' : World} {B : Nat} {t : TypeId} {v : Value} (h : Boxed W B t v) (hb : Below W.heap.size W W') : Boxed W' B t v := (hb.block B h.lt).trans h
theorem others_below {W W' : World} (hb : Below W.heap.size W W') : KeepsOthers W W' := ⟨hb.size, fun k o hk _ => (hb.block k (Array.getElem?_eq_some_iff.1 hk).1).trans hk⟩
theorem OwnC.base {w : World} {N M : Nat} {v : Value} {cs : List Chk} {ds : List Value} (H : OwnC w N v cs ds) (h : M ≤ N) : OwnC w M v cs ds :=
  ⟨⟨H.row.1, by
    rcases H.row.2 with h1 | ⟨g, c, cur, hv, hg, r⟩
    · exact .inl h1
    · exact .inr ⟨g, c, cur, hv, by omega, r⟩⟩, H.len, H.each⟩
theorem enc_of {l : List Smp} {n : Nat} {cs : List Chk} (hn : l.length = n) (hlen : cs.length = (allP n).length) (hall : ∀ (i : Nat) (x : Idx n) (cc : Chk), (allP n)[i]? = some x → cs[i]? = some cc → Gm.IsChk (Gm.grp l x.1) cc) : Gm.Enc l cs := by
  refine ⟨by rw [hlen, allP_len, hn], fun j hj => ?_⟩
  have hj2 : j < (allP n).length := by omega
  have h := hall j (allP n)[j] cs[j] (List.getElem?_eq_getElem hj2) (List.getElem?_eq_getElem hj)
  rw [allP_get] at h
  exact h
/-- behind a part more -/
theorem enc_step {l : List Smp} {n B N0 m0 vc kk bl cp g6 c6 : Nat} {w W wr w5 w6 : World} {va ad : Option Addr} {cs : List Chk} {ds : List Value} {bs : List Nat} {pre : List (Idx n)} {x : Idx n} {s : St}
    (hI : Boxed W B 77 (.slice va m0 vc) ∧ OwnC W N0 (.slice va m0 vc) cs ds ∧ m0 = pre.length ∧ (∀ (i : Nat) (x : Idx n) (cc : Chk), pre[i]? = some x → cs[i]? = some cc → Gm.IsChk (Gm.grp l x.1) cc) ∧ Below w.heap.size w W) (hm : cs.length = m0)
    (hN : N0 = B + 3 ∧ N0 ≤ W.heap.size) (hB : w.heap.size ≤ B) (hO : Below W.heap.size W wr) (hs : s = Gm.run (Gm.grp l x.1))
    (hC : kk < 8 ∧ B2.Bt.Packs kk bs s.out ∧ w5.ownsRow 0 5 1 (.slice ad bs.length cp) bs.length (cellsOf bs) ∧ bs.length = bl ∧ Below wr.drew.heap.size wr.drew w5)
    (hA : w6.ownsRow N0 73 4 (.slice (some ⟨g6, 0, none⟩) (m0 + 1) c6) (m0 + 1) (chC cs ds ++ [.int .i64 s.frm, .int .i64 s.last.t, .int .i64 ((s.n : Nat) : Int), .slice ad bl cp]) ∧ (w5.alloc (.cells #[.int .i64 s.frm, .int .i64 s.last.t, .int .i64 ((s.n : Nat) : Int), .slice ad bl cp] 73)).grownBy w6 (Value.slice va m0 vc).ownBlock)
    (hX : Boxed w6 B 77 (.slice va m0 vc)) :
    KeepsOthers W (w6.setCell ⟨B, 0, none⟩ (.slice (some ⟨g6, 0, none⟩) (m0 + 1) c6)) ∧ KpS (B + 1) (B + 1 + 1) W (w6.setCell ⟨B, 0, none⟩ (.slice (some ⟨g6, 0, none⟩) (m0 + 1) c6)) ∧ EncI l n B N0 (pre ++ [x]) (w6.setCell ⟨B, 0, none⟩ (.slice (some ⟨g6, 0, none⟩) (m0 + 1) c6)) ∧ Below w.heap.size w (w6.setCell ⟨B, 0, none⟩ (.slice (some ⟨g6, 0, none⟩) (m0 + 1) c6)) := by
  obtain ⟨h1, h2, h30, h4, h5⟩ := hI
  have h3 : cs.length = pre.length := hm.trans h30
  obtain ⟨k1, k2, k3, k4, k5⟩ := hC
  obtain ⟨a1, a2⟩ := hA
  have hb5 : Below W.heap.size W w5 := (hO.trans ((drew_below wr).mono hO.size)).trans (k5.mono (Nat.le_trans hO.size (Nat.le_refl _)))
  have hbA := (Below.refl w5.heap.size w5).alloc (Nat.le_refl _) (.cells #[.int .i64 s.frm, .int .i64 s.last.t, .int .i64 ((s.n : Nat) : Int), .slice ad bl cp] 73)
  have hbW := hb5.trans (hbA.mono hb5.size)
  have hrow : ∀ g, (Value.slice va m0 vc).ownBlock = some g → N0 ≤ g ∧ ∃ cur : Array Value, W.heap[g]? = some (.cells cur 73 (0, 0)) := fun g hg => by
    rcases h2.row.2 with ⟨hv, _⟩ | ⟨g2, c2, cur, hv, hN2, hh, _⟩
    · rw [hv] at hg; cases hg
    · rw [hv] at hg; injection hg with hg; have hg : g2 = g := hg; subst hg; exact ⟨hN2, cur, hh⟩
  have hsz := hbW.size
  have hs6 := a2.size
  generalize hWA : w5.alloc (.cells #[.int .i64 s.frm, .int .i64 s.last.t, .int .i64 ((s.n : Nat) : Int), .slice ad bl cp] 73) = WA at *
  have hcc := (h2.below hb5).snoc (c := ⟨s.frm, s.last.t, s.n, bs⟩) (ad := ad) (cap := cp) (len := bl) hbA k4.symm (by rw [← k4]; exact k3) k2.1 (by rw [hm]; exact a1) a2 hX (t := 77) ⟨by decide, by decide⟩
  refine ⟨?_, ⟨?_, ?_⟩, ⟨?_, _, cs ++ [⟨s.frm, s.last.t, s.n, bs⟩], _, hX.set _, hcc, by simp [h3], fun i y cc hy hcy => ?_⟩, ?_⟩
  · refine ((others_below hbW).trans (KeepsOthers.of_grownBy a2 fun j o ej hj => ?_)).trans (KeepsOthers.setCell _ _ _)
    obtain ⟨_, cur, hc⟩ := hrow j ej
    have h6 := (hbW.block j (Array.getElem?_eq_some_iff.1 hc).1).trans hc
    rw [hj] at h6
    injection h6 with h6
    rw [h6]; rfl
  · have e1 := hbW.block (B + 1) (by omega)
    have e2 := a2.block (B + 1) (by omega) (fun e => by have := (hrow _ e.symm).1; omega)
    exact (Below.heap_setCell _ _ _ (B + 1) (by show B + 1 ≠ B; omega)).trans (e2.trans e1)
  · have e1 := hbW.block (B + 1 + 1) (by omega)
    have e2 := a2.block (B + 1 + 1) (by omega) (fun e => by have := (hrow _ e.symm).1; omega)
    exact (Below.heap_setCell _ _ _ (B + 1 + 1) (by show B + 1 + 1 ≠ B; omega)).trans (e2.trans e1)
  · have := (KeepsWalks.setCell w6 ⟨B, 0, none⟩ (.slice (some ⟨g6, 0, none⟩) (m0 + 1) c6)).size
    omega
  · by_cases hi : i < pre.length
    · rw [List.getElem?_append_left hi] at hy
      rw [List.getElem?_append_left (by omega)] at hcy
      exact h4 i y cc hy hcy
    · have hil : i = pre.length := by
        have := (List.getElem?_eq_some_iff.1 hy).1
        simp at this
        omega
      subst hil
      rw [List.getElem?_append_right (Nat.le_refl _), Nat.sub_self] at hy
      rw [← h3, List.getElem?_append_right (Nat.le_refl _), Nat.sub_self] at hcy
      injection hy with hy
      injection hcy with hcy
      subst hy; subst hcy
      exact ⟨by rw [hs], by rw [hs], by rw [hs], kk, k1, by rw [← hs]; exact k2⟩
  · exact ((h5.trans (hbW.mono h5.size)).grown a2 (by have := h5.size; omega) (fun q e => by have := (hrow _ e).1; omega)).setCell (p := ⟨B, 0, none⟩) hB _
set_option maxRecDepth 100000 in
set_option maxHeartbeats 8000000 in
theorem encode_any (a : Option Addr) (n c : Nat) (l : List Smp) (hn : l.length = n) (hc : n ≤ c) (hR : Gm.Rising l) (w : World) (H : Sms w a l) (hT : TabAt w) :
    Calls Tryd.prog 23 #[.slice a n c] w fun e w' => ∃ v cs ds, e = .returned (.tuple #[v, .int .u16 0]) ∧ Gm.Enc l cs ∧ OwnC w' w.heap.size v cs ds ∧ Below w.heap.size w w' := by
  have hz : n ≤ 2000 := by rw [← hn]; exact hR.len
  have C0 := Lib.hid (contains_none a n c l hn (by omega) hR.inr w H)
  have HL := Lib.hid (And.intro H (And.intro hn (And.intro hR hT)))
  clear H hn hR hT
  refine (callsIn_wide (n := 8)).1 ?_
  refine callsIn_of_wp_marks Tryd.func23 rfl trivial ?_ rfl
  simp only [Tryd.ntmps23, List.size_toArray, List.length_cons, List.length_nil, Nat.reduceAdd, Nat.reduceSub, Array.replicate_succ, Array.replicate_zero, List.push_toArray, List.append_toArray, List.nil_append, List.cons_append]
  gi_wp2_with (refine ⟨trivial, ?_⟩; gi_at_call 74; refine (callsIn_wide.2 C0.out).mono ?_; rintro e w1 ⟨rfl, hb1⟩; have HB1 := Lib.hid hb1; clear hb1)
  gi_loopw [4] (fun i wr => ∃ k : Nat, 1 ≤ k ∧ k ≤ n + 1 ∧ i = .int .i64 (k : Nat) ∧ Hid (Below w.heap.size w wr)) (fun i _ => n + 1 - (intOf i).toNat)
  case atStart => exact ⟨1, by omega, by omega, by simp, HB1⟩
  case round =>
    obtain ⟨k, hk1, hk2, rfl, HB⟩ := hrel
    by_cases hlt : k < n
    · have da : decide ((k : Int) < (n : Int)) = true := decide_eq_true (by omega)
      have da2 : decide (k < n) = true := decide_eq_true hlt
      obtain ⟨q, rfl⟩ : ∃ q, k = q + 1 := ⟨k - 1, by omega⟩
      have hkl : q + 1 < l.length := by rw [HL.out.2.1]; exact hlt
      have hbd : Below w.heap.size w wr.drew := HB.out.trans ((drew_below wr).mono HB.out.size)
      obtain ⟨b1, o1, rfl, hl1, hc1⟩ := (HL.out.1.below hbd) (by intro e; rw [e] at hkl; simp at hkl)
      have p1 := (hc1 (q + 1) hkl).1
      have p2 := (hc1 q (by omega)).1
      have hup := HL.out.2.2.1.up q hkl
      obtain ⟨T1, hT1⟩ : ∃ T1, l[q + 1].t = T1 := ⟨_, rfl⟩
      obtain ⟨T0, hT0⟩ : ∃ T0, l[q].t = T0 := ⟨_, rfl⟩
      rw [hT1] at p1 hup
      rw [hT0] at p2 hup
      have dl : decide (T1 ≤ T0) = false := decide_eq_false (by omega)
      have hsub : ((q + 1 : Nat) : Int) - 1 = (q : Int) := by omega
      obtain ⟨k, hk⟩ : ∃ k, q + 1 = k := ⟨_, rfl⟩
      rw [hk] at p1 hsub da da2 hk1 hk2 hlt ⊢
      have HBD := Lib.hid hbd
      have hq0 : (0 : Int) ≤ (q : Int) := by omega
      have hqn : (q : Int) < (n : Int) := by omega
      clear hc1 hT1 hT0 hkl hbd hk hup
      gi_wp2
      gi_region
      all_goals gi_wp2
      all_goals exact ⟨⟨k + 1, by omega, by omega, by simp, HBD⟩, by simp [intOf]; omega⟩
    · have da : decide ((k : Int) < (n : Int)) = false := decide_eq_false (by omega)
      have da2 : decide (k < n) = false := decide_eq_false hlt
      gi_wp2_with (refine ⟨trivial, ?_⟩; gi_at_call 76; refine (parts_in Fence.wide _ trivial rfl a n c _).mono ?_; rintro e w2 ⟨rfl, rfl⟩)
      obtain ⟨wr0, hwr0⟩ : ∃ wr0, wr0 = wr := ⟨_, rfl⟩
      subst hwr0
      obtain ⟨b, off, ha⟩ : ∃ b off, 0 < n → a = some ⟨b, off, none⟩ := by
        by_cases h0 : 0 < n
        · obtain ⟨b, off, h1, _⟩ := HL.out.1 (by intro e; have := HL.out.2.1; rw [e] at this; simp at this; omega)
          exact ⟨b, off, fun _ => h1⟩
        · exact ⟨0, 0, fun h => absurd h h0⟩
      have hsz : (((wr0.alloc (.cells #[.slice none 0 0] 77)).alloc (.cells #[.slice a n c] 22)).alloc (.cells #[.int .i64 120] 3)).heap.size = wr0.heap.size + 3 := by simp
      have bB : Boxed (((wr0.alloc (.cells #[.slice none 0 0] 77)).alloc (.cells #[.slice a n c] 22)).alloc (.cells #[.int .i64 120] 3)) wr0.heap.size 77 (.slice none 0 0) := ((Boxed.new wr0 77 (.slice none 0 0)).alloc _).alloc _
      have hBs : (((wr0.alloc (.cells #[.slice none 0 0] 77)).alloc (.cells #[.slice a n c] 22)).alloc (.cells #[.int .i64 120] 3)).cell? ⟨wr0.heap.size + 1, 0, none⟩ = some (.slice a n c) := by
        have h := (Boxed.new (wr0.alloc (.cells #[.slice none 0 0] 77)) 22 (.slice a n c)).alloc (.cells #[.int .i64 120] 3)
        rw [show (wr0.alloc (.cells #[.slice none 0 0] 77)).heap.size = wr0.heap.size + 1 by simp] at h
        exact h.cell
      have hBn : (((wr0.alloc (.cells #[.slice none 0 0] 77)).alloc (.cells #[.slice a n c] 22)).alloc (.cells #[.int .i64 120] 3)).cell? ⟨wr0.heap.size + 1 + 1, 0, none⟩ = some (.int .i64 120) := by
        have h := Boxed.new ((wr0.alloc (.cells #[.slice none 0 0] 77)).alloc (.cells #[.slice a n c] 22)) 3 (.int .i64 120)
        rw [show ((wr0.alloc (.cells #[.slice none 0 0] 77)).alloc (.cells #[.slice a n c] 22)).heap.size = wr0.heap.size + 1 + 1 by simp] at h
        exact h.cell
      have hb0 : Below w.heap.size w (((wr0.alloc (.cells #[.slice none 0 0] 77)).alloc (.cells #[.slice a n c] 22)).alloc (.cells #[.int .i64 120] 3)) := ((HB.out.alloc HB.out.size _).alloc (by have := HB.out.size; simp; omega) _).alloc (by have := HB.out.size; simp; omega) _
      have hww := HB.out.size
      obtain ⟨W0, hW0⟩ : ∃ W0, (((wr0.alloc (.cells #[.slice none 0 0] 77)).alloc (.cells #[.slice a n c] 22)).alloc (.cells #[.int .i64 120] 3)) = W0 := ⟨_, rfl⟩
      rw [hW0] at bB hBs hBn hb0 hsz ⊢
      clear hW0
      have hI : OwnFrom W0.heap.size (fun (pre : List (Idx n)) W => EncI l n wr0.heap.size W0.heap.size pre W ∧ Below w.heap.size w W) :=
        OwnFrom.and (Own.from (encI_own l n wr0.heap.size W0.heap.size) _) (ownFrom_below (Nat.le_refl _) (by omega))
      refine wpIn_rangeFunc_ownF rfl (by omega) (gf := 100) (lb := #[.pointer (some ⟨wr0.heap.size + 1, 0, none⟩), .pointer (some ⟨wr0.heap.size + 1 + 1, 0, none⟩)]) rfl trivial (enters_of Tryd.func100 (by kernel_rfl) rfl)
        (parts_stops Fence.wide _ trivial rfl (by omega) (wr0.heap.size + 1) (wr0.heap.size + 1 + 1) c b off n a ha hc (by omega) W0 ⟨by omega, by omega⟩ hBs hBn)
        (fun h k => h.trans k) (fun W l' o o' hl _ _ _ => KpS.put W l' o' (by omega) (by omega)) (Below.refl _ _) (fun _ => rfl)
        (fun (pre : List (Idx n)) W => EncI l n wr0.heap.size W0.heap.size pre W ∧ Below w.heap.size w W)
        (fun _ _ _ => False) hI (fun c s W W' row h _ _ => h) ?start
        (fun x => { tmps := #[.slice a n c, undef, u2, u3, .int .i64 (k : Nat), .pointer (some ⟨wr0.heap.size, 0, none⟩), partV b off n (120 * x.1), undef, undef, undef, .slice a n c, .bool false, .int .i64 (k : Nat), .slice a n c, .int .i64 (n : Nat), .bool false, u16, u17, u18, u19, u20, u21, u22, u23, u24, u25, u26, u27, u28, u29, .slice a n c, .func (.func 100) #[] #[.pointer (some ⟨wr0.heap.size + 1, 0, none⟩), .pointer (some ⟨wr0.heap.size + 1 + 1, 0, none⟩)], partV b off n (120 * x.1), undef, undef, undef, undef, undef, undef, undef, undef, undef, undef, undef, undef, undef, undef, undef, undef, undef], defers := [] }) ?assign ?body ?done ?stop
      case start => exact ⟨⟨Nat.le_refl _, _, [], [], bB, OwnC.nil _ _, rfl, fun i x cc h => by simp at h⟩, hb0⟩
      case assign =>
        intro l' x W K hK
        gi_wp2
        exact hK
      case body =>
        rintro l' pre x W ⟨⟨hN0, v, cs, ds, hv, hC, hlen, hall⟩, hBW⟩ hpl
        have HPL := Lib.hid (show pre.length ≤ 2000 by rw [allP_len] at hpl; unfold Gm.cnt at hpl; omega)
        have HW0 := Lib.hid (And.intro hsz hN0)
        have HWW := Lib.hid hww
        clear hN0
        have hT := HL.out.2.2.2.below hBW HL.out.2.2.2.lt
        have CN := Lib.hid (own_new W hT)
        have HI := Lib.hid (And.intro hv (And.intro hC (And.intro hlen (And.intro hall hBW))))
        have hxn := x.2
        have ha2 := ha (by omega)
        subst ha2
        obtain ⟨s, hs⟩ : ∃ s, min 120 (n - 120 * x.1) = s := ⟨_, rfl⟩
        obtain ⟨i0, hi0⟩ : ∃ i0, 120 * x.1 = i0 := ⟨_, rfl⟩
        have hs0 : 1 ≤ 8 - 1 - 1 := by decide
        unfold partV
        rw [hi0] at hs hxn ⊢
        rw [hs]
        clear hv hC hlen hall hBW
        gi_wp2_with (refine ⟨trivial, ?_⟩; gi_at_call 7; refine (CallsIn.inRound l' (callsIn_wide.2 CN.out)).mono ?_; rintro e w2 ⟨aa, rfl, hO⟩; have HO := Lib.hid hO; clear hO CN)
        have HS := Lib.hid (And.intro hs hi0)
        have hsn : i0 + s ≤ n := by omega
        have hs120 : s ≤ 120 := by omega
        clear hs hi0
        gi_loopw [9, 36] (fun t9 ii wr2 => ∃ q : Nat, q ≤ s ∧ ii = .int .i64 (q : Nat) ∧ Hid (Own1 W wr2 (Gm.run ((Gm.grp l x.1).take q)) aa)) (fun _ ii _ => s - (intOf ii).toNat)
        case atStart => exact ⟨0, Nat.zero_le _, rfl, HO⟩
        case round =>
          clear HO
          obtain ⟨q, hq, rfl, HO⟩ := hrel
          by_cases hqs : q < s
          · have dq : decide ((q : Int) < (s : Int)) = true := decide_eq_true (by omega)
            have dq2 : decide (q < s) = true := decide_eq_true hqs
            have hql : i0 + q < l.length := by rw [HL.out.2.1]; omega
            have hbw2 := HI.out.2.2.2.2.trans ((HO.out.b).mono HI.out.2.2.2.2.size)
            obtain ⟨b3, o3, he3, hl3, hc3⟩ := (HL.out.1.below hbw2) (by intro e; rw [e] at hql; simp at hql)
            injection he3 with he3
            injection he3 with he3 he4
            subst he3
            subst he4
            obtain ⟨p1, p2⟩ := hc3 (i0 + q) hql
            rw [show off + (i0 + q) * 2 = off + i0 * 2 + q * 2 by omega] at p1 p2
            have hok := HL.out.2.2.1.ok _ (List.getElem_mem hql)
            obtain ⟨X, hX⟩ : ∃ X, l[i0 + q] = X := ⟨_, rfl⟩
            rw [hX] at p1 p2 hok
            have HT2 := Lib.hid (show (Gm.grp l x.1).take (q + 1) = (Gm.grp l x.1).take q ++ [X] by
              have h1 : (Gm.grp l x.1)[q]? = some X := by rw [Gm.grp_get _ _ _ (by omega), HS.out.2, List.getElem?_eq_getElem hql, hX]
              rw [List.take_add_one, h1]; rfl)
            have HOK := Lib.hid (And.intro hok (fun (y : Smp) (hy : y ∈ (Gm.grp l x.1).take q) => HL.out.2.2.1.ok y (Gm.grp_mem (List.mem_of_mem_take hy))))
            obtain ⟨XT, XV⟩ := X
            simp only at p1 p2
            have hA := (Below.refl wr.heap.size wr).alloc (Nat.le_refl _) (.cells #[.int .i64 XT, .int .u64 ((XV : Nat) : Int)] 70)
            have hlt : ((Gm.grp l x.1).take q).length ≤ q := by rw [List.length_take]; omega
            have CP := Lib.hid (own_put W (Gm.run ((Gm.grp l x.1).take q)) aa ⟨XT, XV⟩ HOK.out.1 (Gm.inv_run _ HOK.out.2) (by rw [Gm.run_n]; omega) (by
              have h1 := out_len ((Gm.grp l x.1).take q) HOK.out.2 _ (Nat.le_refl _)
              rw [List.take_length] at h1
              omega) _ (HO.out.below hA))
            rw [← Gm.run_snoc, ← HT2.out] at CP
            clear hc3 hX hok hbw2 hl3 hA hlt HO
            gi_wp2_with (refine ⟨trivial, ?_⟩; gi_at_call 27; refine (CallsIn.inRound l' (callsIn_wide.2 CP.out)).mono ?_; rintro e w5 ⟨rfl, hO5⟩; have HO5 := Lib.hid hO5; clear hO5 CP)
            go_roundw
            case rel => exact ⟨q + 1, by omega, by simp, HO5⟩
            case measure => simp [intOf]; omega
          · have hqe : q = s := by omega
            subst hqe
            have dq : decide ((q : Int) < (q : Int)) = false := by simp
            have dq2 : decide (q < q) = false := by simp
            have HG := Lib.hid (show (Gm.grp l x.1).take q = Gm.grp l x.1 by
              refine List.take_of_length_le ?_
              rw [Gm.grp_len, HL.out.2.1, HS.out.2, HS.out.1]; exact Nat.le_refl _)
            rw [HG.out] at HO
            -- REGION
            have hO9 := HO.out
            obtain ⟨i3, hi3, hx3, hy3, hz3⟩ := info_parts info73
            have HI3 := Lib.hid (And.intro hi3 (And.intro hx3 (And.intro hy3 hz3)))
            have hglen : (Gm.grp l x.1).length ≤ 120 := by rw [Gm.grp_len]; omega
            have CC := Lib.hid (own_chunk W (Gm.run (Gm.grp l x.1)) aa (by
              have h1 := out_len (Gm.grp l x.1) (fun y hy => HL.out.2.2.1.ok y (Gm.grp_mem hy)) _ (Nat.le_refl _)
              rw [List.take_length] at h1
              omega) wr.drew (hO9.below (drew_below wr)))
            obtain ⟨va, vc, rfl⟩ := HI.out.2.1.shape
            obtain ⟨m0, hm0⟩ : ∃ m0, cs.length = m0 := ⟨_, rfl⟩
            rw [hm0] at HI
            have HBX := Lib.hid (show Boxed wr.drew wr0.heap.size 77 (.slice va m0 vc) from boxed_below (boxed_below HI.out.1 hO9.b) (drew_below wr))
            have HM0 := Lib.hid (show m0 ≤ 2000 from by have := HPL.out; have := HI.out.2.2.1; omega)
            have hcb := HBX.out.cell
            have HMM := Lib.hid hm0
            have HRW := Lib.hid (show W.ownsRow W0.heap.size 73 4 (.slice va m0 vc) m0 (chC cs ds) from by have h := HI.out.2.1.row; rw [hm0] at h; exact h)
            clear hO9 hi3 hx3 hy3 hz3 hglen hm0
            gi_wp2
            refine wpIn_region_any (by kernel_rfl) ?_
            change wpAnyIn _ _ _ _ _ _ _ _ _ (World.drew _)
            refine wpAnyIn_ready (rs := [0, 1]) (by kernel_rfl) (by simp) ?_
            refine AllReadyIn.cons rfl (fun K hK => ?_) ?_
            · go_simp
              refine hK _ _ ?_
              clear hK K
              refine wpAnyIn_ready (rs := [1]) (by kernel_rfl) (by simp) ?_
              refine AllReadyIn.cons rfl (fun K hK => ?_) ?_
              · go_simp
                refine hK _ _ ?_
                clear hK K
                refine wpAnyIn_ready (rs := [2]) (by kernel_rfl) (by simp) ?_
                refine AllReadyIn.cons rfl (fun K hK => ?_) ?_
                · go_simp
                  refine ⟨trivial, ?_⟩
                  refine (CallsIn.inRound l' (callsIn_wide.2 CC.out)).mono ?_
                  rintro e w5 ⟨bs, kk, ad, cp, g, hkk, hPk, rfl, hRow, _, hb5⟩
                  obtain ⟨bl, hbl⟩ : ∃ bl, bs.length = bl := ⟨_, rfl⟩
                  have HCH := Lib.hid (And.intro hkk (And.intro hPk (And.intro hRow.1 (And.intro hbl hb5))))
                  have hbx := boxed_below HBX.out hb5
                  have hc5 := hbx.cell
                  have hc5a := (hbx.alloc (.cells #[.int .i64 (Gm.run (Gm.grp l x.1)).frm, .int .i64 (Gm.run (Gm.grp l x.1)).last.t, .int .i64 (((Gm.run (Gm.grp l x.1)).n : Nat) : Int), .slice ad bl cp] 73)).cell
                  rw [hbl]
                  unfold chV
                  clear hkk hPk hRow hb5 hbx hbl
                  try simp only []
                  refine hK _ _ ?_
                  clear hK K
                  refine wpAnyIn_ready (rs := [3]) (by kernel_rfl) (by simp) ?_
                  refine AllReadyIn.cons rfl (fun K hK => ?_) ?_
                  · go_simp
                    refine hK _ _ ?_
                    clear hK K
                    refine wpAnyIn_ready (rs := [4]) (by kernel_rfl) (by simp) ?_
                    refine AllReadyIn.cons rfl (fun K hK => ?_) ?_
                    · refine stepIn_append_own _ rfl (.tmp 44) (.tmp 47) 77 rfl W0.heap.size 73 i3 (.agg #[.int .i64 0, .int .i64 0, .int .i64 0, .slice none 0 0]) 4 48 Tryd.underlying77 HI3.out.1 HI3.out.2.1 HI3.out.2.2.1 HI3.out.2.2.2 rfl (by decide) (.slice va m0 vc) m0 (chC cs ds) rfl ?ow ⟨w5.heap.size, 0, none⟩ 1 1 [.int .i64 (Gm.run (Gm.grp l x.1)).frm, .int .i64 (Gm.run (Gm.grp l x.1)).last.t, .int .i64 (((Gm.run (Gm.grp l x.1)).n : Nat) : Int), .slice ad bl cp] rfl rfl (four_cells w5 _ _ _ _ 73) (by simp [Value.oneCell']) ?b1 ?b2 ?b3 ?_
                      case ow => exact (owns_only HRW.out (Only.of_below ((HO.out.b.trans ((drew_below wr).mono HO.out.b.size)).trans (HCH.out.2.2.2.2.mono HO.out.b.size)) []) (fun _ _ => by simp)).alloc _
                      case b1 => have := HM0.out; unfold maxLen; omega
                      case b2 => have := HM0.out; omega
                      case b3 => have h1 := HO.out.b.size; have h2 := HCH.out.2.2.2.2.size; have h3 : wr.drew.heap.size = wr.heap.size := rfl; have h4 := HW0.out.2; simp; omega
                      intro v2 w6 hown6 hgr6
                      obtain ⟨g6, c6, rfl⟩ := ownsRow_succ hown6
                      have HA6 := Lib.hid (And.intro hown6 hgr6)
                      have hbx5 := (boxed_below HBX.out HCH.out.2.2.2.2).alloc (.cells #[.int .i64 (Gm.run (Gm.grp l x.1)).frm, .int .i64 (Gm.run (Gm.grp l x.1)).last.t, .int .i64 (((Gm.run (Gm.grp l x.1)).n : Nat) : Int), .slice ad bl cp] 73)
                      have hbx6 : Boxed w6 wr0.heap.size 77 (.slice va m0 vc) := hbx5.kept hgr6 (hbx5.not_row (by decide) ((owns_only HRW.out (Only.of_below ((HO.out.b.trans ((drew_below wr).mono HO.out.b.size)).trans (HCH.out.2.2.2.2.mono HO.out.b.size)) []) (fun _ _ => by simp)).alloc _))
                      have HX6 := Lib.hid hbx6
                      have hc6 := hbx6.cell
                      have hf6 := hbx6.frozen
                      clear hown6 hgr6 hbx5 hbx6
                      refine hK _ _ ?_
                      clear hK K
                      refine wpAnyIn_ready (rs := [5]) (by kernel_rfl) (by simp) ?_
                      refine AllReadyIn.cons rfl (fun K hK => ?_) ?_
                      · go_simp
                        refine hK _ _ ?_
                        clear hK K
                        refine wpAnyIn_done (by kernel_rfl) ?_ _
                        gi_wp2
                        exact enc_step HI.out HMM.out HW0.out HWW.out HO.out.b rfl HCH.out HA6.out HX6.out
                      exact AllReadyIn.nil
                    exact AllReadyIn.nil
                  exact AllReadyIn.nil
                exact AllReadyIn.nil
              exact AllReadyIn.nil
            refine AllReadyIn.cons rfl (fun K hK => ?_) ?_
            · go_simp
              refine hK _ _ ?_
              clear hK K
              refine wpAnyIn_ready (rs := [0, 2]) (by kernel_rfl) (by simp) ?_
              refine AllReadyIn.cons rfl (fun K hK => ?_) ?_
              · go_simp
                refine hK _ _ ?_
                clear hK K
                refine wpAnyIn_ready (rs := [2]) (by kernel_rfl) (by simp) ?_
                refine AllReadyIn.cons rfl (fun K hK => ?_) ?_
                · go_simp
                  refine ⟨trivial, ?_⟩
                  refine (CallsIn.inRound l' (callsIn_wide.2 CC.out)).mono ?_
                  rintro e w5 ⟨bs, kk, ad, cp, g, hkk, hPk, rfl, hRow, _, hb5⟩
                  obtain ⟨bl, hbl⟩ : ∃ bl, bs.length = bl := ⟨_, rfl⟩
                  have HCH := Lib.hid (And.intro hkk (And.intro hPk (And.intro hRow.1 (And.intro hbl hb5))))
                  have hbx := boxed_below HBX.out hb5
                  have hc5 := hbx.cell
                  have hc5a := (hbx.alloc (.cells #[.int .i64 (Gm.run (Gm.grp l x.1)).frm, .int .i64 (Gm.run (Gm.grp l x.1)).last.t, .int .i64 (((Gm.run (Gm.grp l x.1)).n : Nat) : Int), .slice ad bl cp] 73)).cell
                  rw [hbl]
                  unfold chV
                  clear hkk hPk hRow hb5 hbx hbl
                  try simp only []
                  refine hK _ _ ?_
                  clear hK K
                  refine wpAnyIn_ready (rs := [3]) (by kernel_rfl) (by simp) ?_
                  refine AllReadyIn.cons rfl (fun K hK => ?_) ?_
                  · go_simp
                    refine hK _ _ ?_
                    clear hK K
                    refine wpAnyIn_ready (rs := [4]) (by kernel_rfl) (by simp) ?_
                    refine AllReadyIn.cons rfl (fun K hK => ?_) ?_
                    · refine stepIn_append_own _ rfl (.tmp 44) (.tmp 47) 77 rfl W0.heap.size 73 i3 (.agg #[.int .i64 0, .int .i64 0, .int .i64 0, .slice none 0 0]) 4 48 Tryd.underlying77 HI3.out.1 HI3.out.2.1 HI3.out.2.2.1 HI3.out.2.2.2 rfl (by decide) (.slice va m0 vc) m0 (chC cs ds) rfl ?ow ⟨w5.heap.size, 0, none⟩ 1 1 [.int .i64 (Gm.run (Gm.grp l x.1)).frm, .int .i64 (Gm.run (Gm.grp l x.1)).last.t, .int .i64 (((Gm.run (Gm.grp l x.1)).n : Nat) : Int), .slice ad bl cp] rfl rfl (four_cells w5 _ _ _ _ 73) (by simp [Value.oneCell']) ?b1 ?b2 ?b3 ?_
                      case ow => exact (owns_only HRW.out (Only.of_below ((HO.out.b.trans ((drew_below wr).mono HO.out.b.size)).trans (HCH.out.2.2.2.2.mono HO.out.b.size)) []) (fun _ _ => by simp)).alloc _
                      case b1 => have := HM0.out; unfold maxLen; omega
                      case b2 => have := HM0.out; omega
                      case b3 => have h1 := HO.out.b.size; have h2 := HCH.out.2.2.2.2.size; have h3 : wr.drew.heap.size = wr.heap.size := rfl; have h4 := HW0.out.2; simp; omega
                      intro v2 w6 hown6 hgr6
                      obtain ⟨g6, c6, rfl⟩ := ownsRow_succ hown6
                      have HA6 := Lib.hid (And.intro hown6 hgr6)
                      have hbx5 := (boxed_below HBX.out HCH.out.2.2.2.2).alloc (.cells #[.int .i64 (Gm.run (Gm.grp l x.1)).frm, .int .i64 (Gm.run (Gm.grp l x.1)).last.t, .int .i64 (((Gm.run (Gm.grp l x.1)).n : Nat) : Int), .slice ad bl cp] 73)
                      have hbx6 : Boxed w6 wr0.heap.size 77 (.slice va m0 vc) := hbx5.kept hgr6 (hbx5.not_row (by decide) ((owns_only HRW.out (Only.of_below ((HO.out.b.trans ((drew_below wr).mono HO.out.b.size)).trans (HCH.out.2.2.2.2.mono HO.out.b.size)) []) (fun _ _ => by simp)).alloc _))
                      have HX6 := Lib.hid hbx6
                      have hc6 := hbx6.cell
                      have hf6 := hbx6.frozen
                      clear hown6 hgr6 hbx5 hbx6
                      refine hK _ _ ?_
                      clear hK K
                      refine wpAnyIn_ready (rs := [5]) (by kernel_rfl) (by simp) ?_
                      refine AllReadyIn.cons rfl (fun K hK => ?_) ?_
                      · go_simp
                        refine hK _ _ ?_
                        clear hK K
                        refine wpAnyIn_done (by kernel_rfl) ?_ _
                        gi_wp2
                        exact enc_step HI.out HMM.out HW0.out HWW.out HO.out.b rfl HCH.out HA6.out HX6.out
                      exact AllReadyIn.nil
                    exact AllReadyIn.nil
                  exact AllReadyIn.nil
                exact AllReadyIn.nil
              refine AllReadyIn.cons rfl (fun K hK => ?_) ?_
              · go_simp
                refine ⟨trivial, ?_⟩
                refine (CallsIn.inRound l' (callsIn_wide.2 CC.out)).mono ?_
                rintro e w5 ⟨bs, kk, ad, cp, g, hkk, hPk, rfl, hRow, _, hb5⟩
                obtain ⟨bl, hbl⟩ : ∃ bl, bs.length = bl := ⟨_, rfl⟩
                have HCH := Lib.hid (And.intro hkk (And.intro hPk (And.intro hRow.1 (And.intro hbl hb5))))
                have hbx := boxed_below HBX.out hb5
                have hc5 := hbx.cell
                have hc5a := (hbx.alloc (.cells #[.int .i64 (Gm.run (Gm.grp l x.1)).frm, .int .i64 (Gm.run (Gm.grp l x.1)).last.t, .int .i64 (((Gm.run (Gm.grp l x.1)).n : Nat) : Int), .slice ad bl cp] 73)).cell
                rw [hbl]
                unfold chV
                clear hkk hPk hRow hb5 hbx hbl
                try simp only []
                refine hK _ _ ?_
                clear hK K
                refine wpAnyIn_ready (rs := [0, 3]) (by kernel_rfl) (by simp) ?_
                refine AllReadyIn.cons rfl (fun K hK => ?_) ?_
                · go_simp
                  refine hK _ _ ?_
                  clear hK K
                  refine wpAnyIn_ready (rs := [3]) (by kernel_rfl) (by simp) ?_
                  refine AllReadyIn.cons rfl (fun K hK => ?_) ?_
                  · go_simp
                    refine hK _ _ ?_
                    clear hK K
                    refine wpAnyIn_ready (rs := [4]) (by kernel_rfl) (by simp) ?_
                    refine AllReadyIn.cons rfl (fun K hK => ?_) ?_
                    · refine stepIn_append_own _ rfl (.tmp 44) (.tmp 47) 77 rfl W0.heap.size 73 i3 (.agg #[.int .i64 0, .int .i64 0, .int .i64 0, .slice none 0 0]) 4 48 Tryd.underlying77 HI3.out.1 HI3.out.2.1 HI3.out.2.2.1 HI3.out.2.2.2 rfl (by decide) (.slice va m0 vc) m0 (chC cs ds) rfl ?ow ⟨w5.heap.size, 0, none⟩ 1 1 [.int .i64 (Gm.run (Gm.grp l x.1)).frm, .int .i64 (Gm.run (Gm.grp l x.1)).last.t, .int .i64 (((Gm.run (Gm.grp l x.1)).n : Nat) : Int), .slice ad bl cp] rfl rfl (four_cells w5 _ _ _ _ 73) (by simp [Value.oneCell']) ?b1 ?b2 ?b3 ?_
                      case ow => exact (owns_only HRW.out (Only.of_below ((HO.out.b.trans ((drew_below wr).mono HO.out.b.size)).trans (HCH.out.2.2.2.2.mono HO.out.b.size)) []) (fun _ _ => by simp)).alloc _
                      case b1 => have := HM0.out; unfold maxLen; omega
                      case b2 => have := HM0.out; omega
                      case b3 => have h1 := HO.out.b.size; have h2 := HCH.out.2.2.2.2.size; have h3 : wr.drew.heap.size = wr.heap.size := rfl; have h4 := HW0.out.2; simp; omega
                      intro v2 w6 hown6 hgr6
                      obtain ⟨g6, c6, rfl⟩ := ownsRow_succ hown6
                      have HA6 := Lib.hid (And.intro hown6 hgr6)
                      have hbx5 := (boxed_below HBX.out HCH.out.2.2.2.2).alloc (.cells #[.int .i64 (Gm.run (Gm.grp l x.1)).frm, .int .i64 (Gm.run (Gm.grp l x.1)).last.t, .int .i64 (((Gm.run (Gm.grp l x.1)).n : Nat) : Int), .slice ad bl cp] 73)
                      have hbx6 : Boxed w6 wr0.heap.size 77 (.slice va m0 vc) := hbx5.kept hgr6 (hbx5.not_row (by decide) ((owns_only HRW.out (Only.of_below ((HO.out.b.trans ((drew_below wr).mono HO.out.b.size)).trans (HCH.out.2.2.2.2.mono HO.out.b.size)) []) (fun _ _ => by simp)).alloc _))
                      have HX6 := Lib.hid hbx6
                      have hc6 := hbx6.cell
                      have hf6 := hbx6.frozen
                      clear hown6 hgr6 hbx5 hbx6
                      refine hK _ _ ?_
                      clear hK K
                      refine wpAnyIn_ready (rs := [5]) (by kernel_rfl) (by simp) ?_
                      refine AllReadyIn.cons rfl (fun K hK => ?_) ?_
                      · go_simp
                        refine hK _ _ ?_
                        clear hK K
                        refine wpAnyIn_done (by kernel_rfl) ?_ _
                        gi_wp2
                        exact enc_step HI.out HMM.out HW0.out HWW.out HO.out.b rfl HCH.out HA6.out HX6.out
                      exact AllReadyIn.nil
                    exact AllReadyIn.nil
                  exact AllReadyIn.nil
                refine AllReadyIn.cons rfl (fun K hK => ?_) ?_
                · go_simp
                  refine hK _ _ ?_
                  clear hK K
                  refine wpAnyIn_ready (rs := [0]) (by kernel_rfl) (by simp) ?_
                  refine AllReadyIn.cons rfl (fun K hK => ?_) ?_
                  · go_simp
                    refine hK _ _ ?_
                    clear hK K
                    refine wpAnyIn_ready (rs := [4]) (by kernel_rfl) (by simp) ?_
                    refine AllReadyIn.cons rfl (fun K hK => ?_) ?_
                    · refine stepIn_append_own _ rfl (.tmp 44) (.tmp 47) 77 rfl W0.heap.size 73 i3 (.agg #[.int .i64 0, .int .i64 0, .int .i64 0, .slice none 0 0]) 4 48 Tryd.underlying77 HI3.out.1 HI3.out.2.1 HI3.out.2.2.1 HI3.out.2.2.2 rfl (by decide) (.slice va m0 vc) m0 (chC cs ds) rfl ?ow ⟨w5.heap.size, 0, none⟩ 1 1 [.int .i64 (Gm.run (Gm.grp l x.1)).frm, .int .i64 (Gm.run (Gm.grp l x.1)).last.t, .int .i64 (((Gm.run (Gm.grp l x.1)).n : Nat) : Int), .slice ad bl cp] rfl rfl (four_cells w5 _ _ _ _ 73) (by simp [Value.oneCell']) ?b1 ?b2 ?b3 ?_
                      case ow => exact (owns_only HRW.out (Only.of_below ((HO.out.b.trans ((drew_below wr).mono HO.out.b.size)).trans (HCH.out.2.2.2.2.mono HO.out.b.size)) []) (fun _ _ => by simp)).alloc _
                      case b1 => have := HM0.out; unfold maxLen; omega
                      case b2 => have := HM0.out; omega
                      case b3 => have h1 := HO.out.b.size; have h2 := HCH.out.2.2.2.2.size; have h3 : wr.drew.heap.size = wr.heap.size := rfl; have h4 := HW0.out.2; simp; omega
                      intro v2 w6 hown6 hgr6
                      obtain ⟨g6, c6, rfl⟩ := ownsRow_succ hown6
                      have HA6 := Lib.hid (And.intro hown6 hgr6)
                      have hbx5 := (boxed_below HBX.out HCH.out.2.2.2.2).alloc (.cells #[.int .i64 (Gm.run (Gm.grp l x.1)).frm, .int .i64 (Gm.run (Gm.grp l x.1)).last.t, .int .i64 (((Gm.run (Gm.grp l x.1)).n : Nat) : Int), .slice ad bl cp] 73)
                      have hbx6 : Boxed w6 wr0.heap.size 77 (.slice va m0 vc) := hbx5.kept hgr6 (hbx5.not_row (by decide) ((owns_only HRW.out (Only.of_below ((HO.out.b.trans ((drew_below wr).mono HO.out.b.size)).trans (HCH.out.2.2.2.2.mono HO.out.b.size)) []) (fun _ _ => by simp)).alloc _))
                      have HX6 := Lib.hid hbx6
                      have hc6 := hbx6.cell
                      have hf6 := hbx6.frozen
                      clear hown6 hgr6 hbx5 hbx6
                      refine hK _ _ ?_
                      clear hK K
                      refine wpAnyIn_ready (rs := [5]) (by kernel_rfl) (by simp) ?_
                      refine AllReadyIn.cons rfl (fun K hK => ?_) ?_
                      · go_simp
                        refine hK _ _ ?_
                        clear hK K
                        refine wpAnyIn_done (by kernel_rfl) ?_ _
                        gi_wp2
                        exact enc_step HI.out HMM.out HW0.out HWW.out HO.out.b rfl HCH.out HA6.out HX6.out
                      exact AllReadyIn.nil
                    exact AllReadyIn.nil
                  exact AllReadyIn.nil
                exact AllReadyIn.nil
              exact AllReadyIn.nil
            exact AllReadyIn.nil
      case done =>
        rintro D ys W hD rfl ⟨⟨hN0, v, cs, ds, hv, hC, hlen, hall⟩, hBW⟩ hK
        have hc0 := hv.cell
        obtain ⟨va, vc, rfl⟩ := hC.shape
        rw [hlen] at hC hc0
        gi_wp2
        refine ⟨by simp, .inl ⟨_, _, rfl, run_takeDeferred hK, ?_⟩⟩
        exact ⟨_, results_tmp2 rfl _ _ _, .slice va (allP n).length vc, cs, ds, rfl, enc_of HL.out.2.1 hlen hall, OwnC.base (M := w.heap.size) (N := W0.heap.size) (hC.kept (grownBy_putObj' W D _) (fun r e => by cases e; exact ⟨_, hK, rfl⟩)) (by omega), hBW.trans (belowK_b (w := w) (Nat.le_refl _) W D _ _ (by omega) hK rfl rfl)⟩
      case stop =>
        rintro D c' pre W hD _ h _
        exact h.elim
end Go.Proofs.YtdlifcpdlbmijaaDoor
namespace Go.Proofs.YtdlifcpdlbmijaaDoor
open Go.RowKit
abbrev laidO : List (String × DataW Unit) := Rows.gorillaOneRow.laid
def greatO : List String := []
noncomputable def startWorldO (os : Os) : World := (World.doorLaid Tryd.prog 26 os).layVars Tryd.prog ((laidO.filter fun x => x.2.handleName?.isNone).filter fun x => greatO.contains x.1)
theorem startWorldO_os (os : Os) : (startWorldO os).os = os := World.layVars_os _ _ _
set_option maxRecDepth 100000
noncomputable def apartBlocksO (os : Os) : List Nat := (List.range (World.doorLaid Tryd.prog 26 os).heap.size).filter fun b => !(([] : List Nat).contains b)
theorem startO_fits (os : Os) : (World.doorLaid Tryd.prog 26 os).layFits Tryd.prog ((laidO.filter fun x => x.2.handleName?.isNone).filter fun x => greatO.contains x.1) (apartBlocksO os) = true := by kernel_rfl
theorem startO_ifaces (os : Os) : (World.doorLaid Tryd.prog 26 os).layIfaces Tryd.prog ((laidO.filter fun x => x.2.handleName?.isNone).filter fun x => greatO.contains x.1) (startWorldO os) = true := by kernel_rfl
theorem startO_others (os : Os) : LaidIn Tryd.prog (startWorldO os) ((laidO.filter fun x => x.2.handleName?.isNone).filter fun x => !greatO.contains x.1) (apartBlocksO os) :=
  LaidIn.of_run (apartBlocksO os) 8 (by kernel_rfl) (by kernel_rfl) (by kernel_rfl) (by kernel_rfl)
theorem startO_met (os : Os) : laidMetH Tryd.prog laidO (startWorldO os) :=
  laidMetH_of_parts3 (fuel := 8) (laidMet_layVars (w0 := World.doorLaid Tryd.prog 26 os) greatO (apartBlocksO os) rfl (startO_fits os) (startO_ifaces os) (startO_others os)) (by kernel_rfl) (by kernel_rfl)
theorem doorO_met (os : Os) (args : Array Value) : laidMetH Tryd.prog laidO ((startWorldO os).forCall (fun _ _ => 0) ⟨#[], args, []⟩).memory :=
  laidMetH.of_heap (by simp [World.memory, World.forCall, Input.heap]) (startO_met os)
#print axioms doorO_met
end Go.Proofs.YtdlifcpdlbmijaaDoor
namespace Go.Proofs.YtdlifcpdlbmijaaDoor
open Go.RowKit
set_option maxRecDepth 100000
theorem startO_shaped (os : Os) (args : Array Value) : ((startWorldO os).forCall (fun _ _ => 0) ⟨#[], args, []⟩).Shaped Tryd.prog := World.shaped_of_ZipB (by kernel_rfl) (by kernel_rfl)
end Go.Proofs.YtdlifcpdlbmijaaDoor
namespace Go.Proofs.YtdlifcpdlbmijaaDoor
set_option linter.unusedVariables false
set_option linter.unusedSimpArgs false
open Go.RowKit Go.ChangeShapes Go.WideShapes Go.ChangeAt Go.WideMaps Go.WideElems
theorem one_laidO {W : World} (h : laidMetH Tryd.prog laidO W) (n : String) (d : DataW Unit) (he : laidO.filter (fun x => x.1 == n) = [(n, d)]) (hp : ([(n, d)].all fun x => x.2.handleName?.isNone) = true) : laidMet Tryd.prog [(n, d)] W := by
  have h1 := h.filter (fun x => x.1 == n)
  rw [he, MakeChecks.laidMetH_plain _ _ _ hp] at h1
  exact h1
set_option maxRecDepth 100000 in
theorem laidO_tab {W : World} (h : laidMetH Tryd.prog laidO W) : TabAt W := by
  obtain ⟨ps, ⟨g', t', cs, fuel, p, q, hg', ht', hv, hd, _, _⟩, _⟩ := one_laidO h "math/bits.deBruijn64tab" Rows.laid_math_bits_deBruijn64tab (by kernel_rfl) (by kernel_rfl)
  have hg : Tryd.prog.globalNamed "math/bits.deBruijn64tab" = some 1 := by kernel_rfl
  obtain rfl := Option.some.inj (hg.symm.trans hg')
  obtain rfl := Option.some.inj ((show (Tryd.prog.globals[1]?).map (·.type) = some 264 by kernel_rfl).symm.trans ht')
  have e := Lib.cells_of_tab (t := 264) (e := 5) (n := 64) (k := .u8) (zs := Lib.deBruijn64tab.map fun (x : Nat) => (x : Int)) (by kernel_rfl) (by kernel_rfl) (by kernel_rfl) (by kernel_rfl) (show DataW.trod (fun _ => ()) Tryd.prog W 0 (fun _ => true) false fuel 264 cs.toList = some (Lib.tabData .u8 (Lib.deBruijn64tab.map fun (x : Nat) => (x : Int)), p) from hd)
  intro j hj
  rw [World.var?_cell hg hv j, ← Array.getElem?_toList, e]
  simp [List.getElem?_map, List.getD, List.getElem?_eq_getElem hj]
end Go.Proofs.YtdlifcpdlbmijaaDoor
