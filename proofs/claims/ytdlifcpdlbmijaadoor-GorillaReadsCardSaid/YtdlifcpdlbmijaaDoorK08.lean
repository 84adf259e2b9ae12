/-
  PACKED: GrP, GrQ, GrR, HaD, GrS, GrT, GrU, HaF
-/
import Derived.Test.YtdlifcpdlbmijaaDoorK07
import Derived.Test.YtdlifcpdlbmijaaDoorK06
import Derived.Maps.AppendAt
import Derived.BigRegion
import Derived.Lib.SliceRun
set_option linter.unusedVariables false
set_option linter.unusedSimpArgs false
namespace Go.Proofs.YtdlifcpdlbmijaaDoor
set_option linter.unusedVariables false
set_option linter.unusedSimpArgs false
open Go.RowKit Go.PlainAid Go.Shelf
open B2 (Only Bys Row cellsOf owns_only)
open Gm (St Smp Chk)
attribute [local go_sem] Oper.semAt_some
/-- an append of one's own, and where its row lies -/
theorem wpListIn_append_at {F : Fence} {n : Nat} {P : Program} (w : World) {ops : Array Oper} {rest : List Oper} {o : Oper} {a : Act} {Q : Exit → Act → World → Prop}
    (hg : o.guard = none) (s x : Operand) (t : TypeId) (hop : o.op = Op.call { callee := Callee.builtin Builtin.append, args := #[s, x], argTypes := #[t, t] })
    (base : Nat) (e : TypeId) (i : TypeInfo) (z : Value) (size bytes : Nat) (h1 : P.underlying t = some (.slice e)) (h2 : P.info? e = some i) (h3 : i.zero = some z) (h4 : i.size = size) (h5 : i.bytes = bytes) (h6 : z.cells.size = size) (h7 : 0 < size)
    (v : Value) (k : Nat) (xs : List Value) (hs : a.eval s = v) (hown : w.ownsRow base e size v k xs) (ad : Addr) (m c : Nat) (news : List Value) (hx : a.eval x = .slice (some ad) m c) (hn : news.length = m * size)
    (hc : ∀ j u, news[j]? = some u → w.cell? (ad.add j) = some u) (h1c : ∀ u ∈ news, u.oneCell' = true) (b1 : k + m ≤ maxLen) (b2 : (k + m) * bytes ≤ 140737488355328) (b3 : base ≤ w.heap.size)
    (hK : ∀ v' w', w'.ownsRow base e size v' (k + m) (xs ++ news) → w.grownBy w' v.ownBlock → (v'.ownBlock = v.ownBlock ∨ v'.ownBlock = some w.heap.size) → wpListIn F n P ops Q rest (a.put o.dst v') w') :
    wpListIn F n P ops Q (o :: rest) a w := by
  refine wpListIn_plain hg fun K hK' => ?_
  obtain ⟨v', w', hrun, r1, r2, _, r3⟩ := run_append_own_at (P := P) w base t o.type e i z size bytes h1 h2 h3 h4 h5 h6 h7 v k xs hown ad m c news hn hc h1c b1 b2 b3
  unfold Oper.wpIn
  refine ⟨?_, ?_⟩
  · simp [Oper.about, hop, resolve, Target.leads, Sem.run_pure]
  · rw [Oper.semAt_plain F _ _ (by rw [hop]; intro c hc'; cases hc')]
    simp [execOp, hop, resolve, invoke, builtin, hs, hx, hrun, Result.andThen]
    exact hK' _ _ (hK v' w' r1 r2 r3)
/-- what holds between two samples: l0 were there, pre have come; N: the box of the slice -/
structure ApI (w : World) (base N B : Nat) (l0 : List Smp) (T : List Nat) (pre : List Smp) (W : World) : Prop where
  t : ∀ k ∈ T, B ≤ k ∧ k < W.heap.size
  v : ∃ v, Boxed W N 22 v ∧ OwnS W base v (l0 ++ pre) ∧ ∀ g, v.ownBlock = some g → g ∉ T
  lt : base ≤ N ∧ N < B ∧ B ≤ W.heap.size ∧ base ≤ w.heap.size
  b : Below base w W
theorem ApI.only {w W W' : World} {base N B : Nat} {l0 : List Smp} {T : List Nat} {pre : List Smp} (h : ApI w base N B l0 T pre W) (ho : Only T W W') : ApI w base N B l0 T pre W' := by
  obtain ⟨v, h1, h2, h3⟩ := h.v
  have ht := h.t
  have hl := h.lt
  have hs := ho.size
  exact ⟨fun k hk => ⟨(ht k hk).1, by have := (ht k hk).2; omega⟩, ⟨v, (ho.block N (by omega) (fun hm => by have := ht N hm; omega)).trans h1, owns_only h2 ho (fun g hg => h3 g hg), h3⟩, ⟨hl.1, hl.2.1, by omega, hl.2.2.2⟩,
    h.b.trans (ho.below (by omega) (fun x hx => by have := ht x hx; omega))⟩
theorem ApI.below {w W W' : World} {base N B : Nat} {l0 : List Smp} {T : List Nat} {pre : List Smp} (h : ApI w base N B l0 T pre W) (hb : Below W.heap.size W W') : ApI w base N B l0 T pre W' := h.only (Only.of_below hb T)
/-- a sample is laid behind -/
theorem ApI.step {w W w1 : World} {base N B : Nat} {l0 : List Smp} {T : List Nat} {pre : List Smp} {v v' : Value} {tmp : Obj} {x : Smp} (h : ApI w base N B l0 T pre W) (hv : Boxed W N 22 v) (ho : OwnS W base v (l0 ++ pre)) (hT : ∀ g, v.ownBlock = some g → g ∉ T)
    (hown : w1.ownsRow base 70 2 v' ((l0 ++ pre).length + 1) (smC (l0 ++ pre) ++ [.int .i64 x.t, .int .u64 ((x.v : Nat) : Int)])) (hgr : (W.alloc tmp).grownBy w1 v.ownBlock) (hpl : v'.ownBlock = v.ownBlock ∨ v'.ownBlock = some (W.alloc tmp).heap.size) :
    ApI w base N B l0 T (pre ++ [x]) (w1.setCell ⟨N, 0, none⟩ v') ∧ Kept T W (w1.setCell ⟨N, 0, none⟩ v') := by
  have ht := h.t
  have hl := h.lt
  obtain ⟨a1, a2, a3, a4, a5⟩ := Boxed.appended (tmp := tmp) hv (by decide : (22 : TypeId) ≠ 70) ho (by omega) (by omega) hown hgr
  have hs := a5.size
  have hsz : (W.alloc tmp).heap.size = W.heap.size + 1 := by simp
  have hgs := hgr.size
  have hss : (w1.setCell ⟨N, 0, none⟩ v').heap.size = w1.heap.size := by simp [World.setCell]
  refine ⟨⟨fun k hk => ⟨(ht k hk).1, by have := (ht k hk).2; omega⟩, ⟨v', a2, ?_, ?_⟩, ⟨hl.1, hl.2.1, by omega, hl.2.2.2⟩, h.b.trans a5⟩, ?_⟩
  · unfold OwnS
    rw [← List.append_assoc, smC_snoc, List.length_append]
    exact a3
  · intro g hg hm
    rcases hpl with e | e
    · exact hT g (e ▸ hg) hm
    · rw [e] at hg
      injection hg with hg
      have := (ht g hm).2
      omega
  · intro k hk
    have h1 := ht k hk
    rw [Below.heap_setCell _ _ _ _ (show ¬ k = N by omega), hgr.block k (by omega) (fun e => hT k e.symm hk)]
    exact Below.heap_alloc _ _ _ h1.2
end Go.Proofs.YtdlifcpdlbmijaaDoor
namespace Go.Proofs.YtdlifcpdlbmijaaDoor
set_option linter.unusedVariables false
set_option linter.unusedSimpArgs false
open Go.RowKit Go.PlainAid Go.Shelf
open B2 (Only Bys Row cellsOf owns_only)
open Gm (St Smp Chk)
attribute [local go_sem] Oper.semAt_some
set_option maxRecDepth 100000 in
set_option maxHeartbeats 8000000 in
theorem appendseq_any (f t : Int) (N : Nat) (a : Option Addr) (bs : List Nat) (cap b base : Nat) (hc0 : a = none → cap = 0) (hbd : bs.length ≤ 1000000) (hN : N ≤ 100000) (l0 L : List Smp) (hl0 : l0.length ≤ 1000000) (hLl : L.length ≤ 100000) (w : World) (hb : w.heap[b]? = some (.cells (chR f t N (.slice a bs.length cap)) 73 (0, 0))) (H : Bys w a bs)
    (hL : Gm.rdAll N (Gm.rd0 (B2.Bt.unpack bs)) = L) (v : Value) (hv : OwnS w base v l0) (hbase : base ≤ w.heap.size) :
    Calls Tryd.prog 79 #[v, .func (.func 93) #[] #[pt b]] w fun e w' => ∃ v', e = .returned v' ∧ OwnS w' base v' (l0 ++ L) ∧ Below base w w' := by
  obtain ⟨n, hn⟩ : ∃ n, w.heap.size = n := ⟨_, rfl⟩
  have hA := (Below.refl w.heap.size w).alloc (Nat.le_refl _) (.cells #[v] 22)
  have hr := heap_alloc_new w (.cells #[v] 22)
  have hs : (w.alloc (.cells #[v] 22)).heap.size = n + 1 := by simp [hn]
  have hbx : (w.alloc (.cells #[v] 22)).heap[b]? = some (.cells (chR f t N (.slice a bs.length cap)) 73 (0, 0)) := (hA.block b (Array.getElem?_eq_some_iff.1 hb).1).trans hb
  have hvA : OwnS (w.alloc (.cells #[v] 22)) base v l0 := hv.below hA
  have hbl : base ≤ n := by omega
  have HSQ := Lib.hid (read_stops 7 (by omega) b cap N a f t bs hc0 (by omega) (Nat.le_trans hN (by decide)) _ hbx (H.below hA))
  rw [hL] at HSQ
  rw [hn] at hr
  have HQ := Lib.hid (And.intro hr (And.intro hs (And.intro hvA (And.intro hbl (And.intro hA hn)))))
  have HLL := Lib.hid (And.intro hl0 hLl)
  have HVO := Lib.hid (show ∀ g, v.ownBlock = some g → g < n from fun g hg => by
    rcases hv.2 with ⟨rfl, _⟩ | ⟨g2, c2, cur, rfl, _, hh, _⟩
    · cases hg
    · injection hg with hg
      have hg : g2 = g := hg
      subst hg
      rw [← hn]
      exact (Array.getElem?_eq_some_iff.1 hh).1)
  obtain ⟨av, cv, rfl, _⟩ := hv.shape
  clear hr hs hvA hbl hA hbx hb H hL hv hbase hl0 hLl hc0 hbd hN
  refine (callsIn_wide (n := 8)).1 ?_
  refine callsIn_of_wp_marks Tryd.func79 rfl trivial ?_ rfl
  simp only [Tryd.ntmps79, List.size_toArray, List.length_cons, List.length_nil, Nat.reduceAdd, Nat.reduceSub, Array.replicate_succ, Array.replicate_zero, List.push_toArray, List.append_toArray, List.nil_append, List.cons_append]
  unfold pt at *
  gi_wp2
  obtain ⟨W2, hW2⟩ : ∃ W2, w.alloc (.cells #[.slice av l0.length cv] 22) = W2 := ⟨_, rfl⟩
  rw [hW2] at HSQ HQ ⊢
  clear hW2
  refine wpIn_rangeFunc_ownT rfl (by omega) (gf := 93) (lb := #[.pointer (some ⟨b, 0, none⟩)]) rfl trivial (enters_of Tryd.func93 (by kernel_rfl) rfl) HSQ.out (Below.refl _ _) (fun _ => rfl)
    (ApI w base n (n + 1) l0) (fun _ _ _ _ => False) (fun T pre A B h ho => h.only ho) (fun c T pre A B h ho => h) ?start ?round ?done ?stop
  case start =>
    intro T W hb hT
    have hb' := hb
    rw [HQ.out.2.1] at hT hb
    have h1 := HQ.out.2.2.2.2.1
    have hs2 := hb.size
    exact ⟨fun k hk => hT k hk, ⟨_, (hb.block n (by omega)).trans HQ.out.1, by rw [List.append_nil]; exact HQ.out.2.2.1.below hb', fun g hg hm => by have := HVO.out g hg; have := (hT g hm).1; omega⟩, ⟨HQ.out.2.2.2.1, by omega, by have := HQ.out.2.1; omega, by have := HQ.out.2.2.2; omega⟩,
      (h1.mono (by have := HQ.out.2.2.2; omega)).trans (hb'.mono (by have := HQ.out.2.1; have := HQ.out.2.2.2.1; omega))⟩
  case round =>
    intro l T pre x W hI hSp
    have hs0 : 1 ≤ 8 - 1 - 1 := by decide
    have hpl : pre.length ≤ 100000 := by have := hSp.length_le; simp at this; have := HLL.out.2; omega
    have HX := Lib.hid (And.intro hI hpl)
    clear hI hpl hSp
    unfold smV
    gi_wp2
    refine ⟨kept_below (fun k hk => (HX.out.1.t k hk).2) ((Below.refl W.heap.size W).alloc (Nat.le_refl _) _), fun W6 ho => ?_⟩
    have hAl := (Below.refl W.heap.size W).alloc (Nat.le_refl _) (.cells #[.int .i64 x.t, .int .u64 ((x.v : Nat) : Int)] 70)
    have hbx := heap_alloc_new W (.cells #[.int .i64 x.t, .int .u64 ((x.v : Nat) : Int)] 70)
    have hI6 := (HX.out.1.below hAl).only ho
    have hbx6 := (ho.block W.heap.size (by simp) (fun hm => by have := (HX.out.1.t _ hm).2; omega)).trans hbx
    have k0 : W6.cell? ⟨W.heap.size, 0, none⟩ = some (.int .i64 x.t) := (cell_of_row _ _ 0 _ _ _ hbx6).trans rfl
    have k1 : W6.cell? ⟨W.heap.size, 1, none⟩ = some (.int .u64 ((x.v : Nat) : Int)) := (cell_of_row _ _ 1 _ _ _ hbx6).trans rfl
    have HI6 := Lib.hid hI6
    obtain ⟨v6, hv6, ho6, hT6⟩ := hI6.v
    obtain ⟨a6, c6, rfl, _⟩ := ho6.shape
    obtain ⟨m6, hm6⟩ : ∃ m6, (l0 ++ pre).length = m6 := ⟨_, rfl⟩
    have hm6l : m6 ≤ 1100000 := by rw [← hm6, List.length_append]; have := HX.out.2; have := HLL.out.1; omega
    have kb : W6.cell? ⟨n, 0, none⟩ = some (.slice a6 m6 c6) := by rw [← hm6]; exact hv6.cell
    have HV6 := Lib.hid (And.intro hv6 (And.intro ho6 (And.intro hT6 hm6)))
    clear hAl hbx hI6 hbx6 ho hv6 ho6 hT6 hm6
    obtain ⟨i0, hi0, hi1, hi2, hi3⟩ := info_parts info70'
    have HII := Lib.hid (And.intro hi0 (And.intro hi1 (And.intro hi2 hi3)))
    have HOW := Lib.hid (show W6.ownsRow base 70 2 (.slice a6 m6 c6) m6 (smC (l0 ++ pre)) from by
      have h := HV6.out.2.1
      unfold OwnS at h
      rw [HV6.out.2.2.2] at h
      exact h)
    clear hi0 hi1 hi2 hi3
    gi_wp2_with (refine wpListIn_append_at _ rfl (.tmp 8) (.tmp 10) 22 rfl base 70 i0 (.agg #[.int .i64 0, .int .u64 0]) 2 16 Tryd.underlying22 HII.out.1 HII.out.2.1 HII.out.2.2.1 HII.out.2.2.2 rfl (by decide) (.slice a6 m6 c6) m6 (smC (l0 ++ pre)) rfl (HOW.out.alloc _) ⟨W6.heap.size, 0, none⟩ 1 1 [.int .i64 x.t, .int .u64 ((x.v : Nat) : Int)] rfl rfl (two_cellsN W6 x) (by intro u hu; simp at hu; rcases hu with rfl | rfl <;> rfl) (by unfold maxLen; omega) (by omega) (by have := HI6.out.lt; simp; omega) ?_; intro v7 w7 hown7 hgr7 hpl7; obtain ⟨g7, c7, rfl⟩ := ownsRow_succ hown7; have hS7 := HI6.out.step (tmp := .cells #[.int .i64 x.t, .int .u64 ((x.v : Nat) : Int)] 70) HV6.out.1 HV6.out.2.1 HV6.out.2.2.1 (by rw [HV6.out.2.2.2]; exact hown7) (by rw [HV6.out.2.2.2]; exact hgr7) (by rw [HV6.out.2.2.2]; exact hpl7); have hbx7 := (Boxed.appended (tmp := .cells #[.int .i64 x.t, .int .u64 ((x.v : Nat) : Int)] 70) HV6.out.1 (by decide : (22 : TypeId) ≠ 70) HV6.out.2.1 (by have := HI6.out.lt; omega) (by have := HI6.out.lt; omega) hown7 (by rw [HV6.out.2.2.2]; exact hgr7)).1; have cc7 := hbx7.cell; have ff7 := hbx7.frozen; have HS7 := Lib.hid hS7; clear hown7 hgr7 hpl7 hS7 hbx7)
    exact ⟨HS7.out.2, HS7.out.1⟩
  case done =>
    rintro D T xs W hD hDT rfl hI hK
    obtain ⟨v6, hv6, ho6, hT6⟩ := hI.v
    obtain ⟨a6, c6, rfl, _⟩ := ho6.shape
    have hc6 := hv6.cell
    gi_wp2
    refine ⟨by simp, .inl ⟨_, _, rfl, run_takeDeferred hK, ?_⟩⟩
    have hDb : Only [D] W (W.putObj D (.deferred none)) := Only.put W D _
    have hl := hI.lt
    have hs2 := HQ.out.2.1
    have ho7 : OwnS W base (.slice a6 (l0.length + xs.length) c6) (l0 ++ xs) := by rw [← List.length_append]; exact ho6
    have hT7 : ∀ g, (Value.slice a6 (l0.length + xs.length) c6).ownBlock = some g → g ∉ T := by rw [← List.length_append]; exact hT6
    refine ⟨_, results_tmp rfl _ _ _, .slice a6 (l0.length + xs.length) c6, rfl, owns_only ho7 hDb (fun g hg => ?_), hI.b.trans (hDb.below (by omega) (fun x hx => by simp at hx; omega))⟩
    intro hm
    simp only [List.mem_cons, List.not_mem_nil, or_false] at hm
    exact hT7 g hg (hm ▸ hDT)
  case stop =>
    rintro D c T pre W hD hDT hSp h hK
    exact h.elim
end Go.Proofs.YtdlifcpdlbmijaaDoor
namespace Go.Proofs.YtdlifcpdlbmijaaDoor
set_option linter.unusedVariables false
set_option linter.unusedSimpArgs false
open Go.RowKit Go.PlainAid Go.Shelf
open B2 (Only Bys Row cellsOf owns_only)
open Gm (St Smp Chk)
theorem run_frm1 (g : List Smp) (h : 0 < g.length) : (Gm.run g).frm = g[0].t := by
  have key : ∀ (l : List Smp) (s : St), 0 < s.n → (l.foldl Gm.put s).frm = s.frm := by
    intro l
    induction l with
    | nil => intro s _; rfl
    | cons x l ih =>
      intro s hs
      rw [List.foldl_cons, ih _ (by show 0 < s.n + 1; omega)]
      show (if s.n = 0 then x.t else s.frm) = s.frm
      rw [if_neg (by omega)]
  cases g with
  | nil => simp at h
  | cons x l =>
    unfold Gm.run
    rw [List.foldl_cons, key l _ (by show 0 < Gm.st0.n + 1; omega)]
    rfl
theorem goods_enc {l : List Smp} {cs : List Chk} (R : Gm.Rising l) (E : Gm.Enc l cs) : Goods cs := fun c hc => by
  obtain ⟨j, hj, rfl⟩ := List.getElem_of_mem hc
  exact ⟨_, one_grp R j (by rw [← E.len]; exact hj), E.each j hj⟩
theorem grp_at {l : List Smp} {j r : Nat} (h : r < (Gm.grp l j).length) (h2 : 120 * j + r < l.length) : (Gm.grp l j)[r] = l[120 * j + r] := by
  have h3 := Gm.grp_get l j r (by have := Gm.grp_len l j; omega)
  rw [List.getElem?_eq_getElem h, List.getElem?_eq_getElem h2] at h3
  injection h3
/-- chunk after chunk rises -/
theorem enc_up {l : List Smp} {cs : List Chk} (R : Gm.Rising l) (E : Gm.Enc l cs) (i : Nat) (h : i + 1 < cs.length) : cs[i].to < cs[i + 1].frm := by
  have hc := E.len
  obtain ⟨_, e1, _⟩ := E.each i (by omega)
  obtain ⟨e2, _⟩ := E.each (i + 1) h
  have g1 := Gm.grp_len l i
  have g2 := Gm.grp_len l (i + 1)
  have hl : 120 * (i + 1) < l.length := by unfold Gm.cnt at hc; omega
  rw [e1, e2, run_frm1 _ (by omega), run_last' _ 119 (by omega), grp_at (by omega) (by omega), grp_at (by omega) (by omega)]
  have h3 := R.up (120 * i + 119) (by omega)
  simpa only [show 120 * (i + 1) + 0 = 120 * i + 119 + 1 by omega] using h3
theorem take_grp (l : List Smp) (k : Nat) : l.take (120 * k) ++ Gm.grp l k = l.take (120 * (k + 1)) := by
  unfold Gm.grp
  rw [show 120 * (k + 1) = 120 * k + 120 by omega, List.take_add]
theorem dec_seq (c : Chk) (b : Nat) (a : Option Addr) (cap base : Nat) (g l0 : List Smp) (G : OneC g) (C : Gm.IsChk g c) (hl0 : l0.length ≤ 1000000) (w : World) (hb : w.heap[b]? = some (.cells (chR c.frm c.to c.n (.slice a c.bs.length cap)) 73 (0, 0))) (H : Bys w a c.bs) (v : Value) (hv : OwnS w base v l0) (hbase : base ≤ w.heap.size) :
    Calls Tryd.prog 79 #[v, .func (.func 93) #[] #[pt b]] w fun e w' => ∃ v', e = .returned v' ∧ OwnS w' base v' (l0 ++ g) ∧ Below base w w' := by
  obtain ⟨h1, h2, h3⟩ := one_says G C
  have hl := G.len
  have hne := one_ne G C
  have ha : a ≠ none := by
    obtain ⟨b, off, e, _⟩ := H.2.2 hne
    rw [e]
    simp
  exact appendseq_any c.frm c.to c.n a c.bs cap b base (fun h => absurd h ha) (one_bs G C) (by omega) l0 g hl0 (by omega) w hb H h2 v hv hbase
end Go.Proofs.YtdlifcpdlbmijaaDoor
namespace Go.Proofs.YtdlifcpdlbmijaaDoor
set_option linter.unusedVariables false
set_option linter.unusedSimpArgs false
open Go.RowKit Go.PlainAid Go.Shelf
open B2 (Only Bys Row cellsOf Rf)
open Gm (St Smp Dr)
theorem smp_unique {P : Prop} (h : P) : P := h
theorem own_lit (W : World) (q : Nat) (hq : q ≤ W.heap.size) (x : Smp) : OwnS (W.alloc (.cells #[.int .i64 x.t, .int .u64 ((x.v : Nat) : Int)] 70)) q (.slice (some ⟨W.heap.size, 0, none⟩) 1 1) [x] := by
  refine ⟨rfl, .inr ⟨W.heap.size, 1, _, rfl, hq, heap_alloc_new W _, Nat.le_refl _, by decide, rfl, rfl⟩⟩
theorem dIt_next {B : List Bool} {m : Nat} {l : List Smp} {d : Dr} (h1 : 1 ≤ m) (h : Gm.dIt (m - 1) B = some (l, d)) : Gm.dIt m B = (Gm.dNext m d).map fun s => (l ++ [⟨s.t, s.v⟩], s) := by
  obtain ⟨j, rfl⟩ : ∃ j, m = j + 1 := ⟨m - 1, by omega⟩
  rw [show j + 1 - 1 = j by omega] at h
  rw [Gm.dIt, h]
  rfl
set_option maxHeartbeats 16000000 in
set_option maxRecDepth 100000 in
theorem refall_any (f t N : Int) (a : Option Addr) (bs : List Nat) (cap : Nat) (hbd : bs.length ≤ 1000000) (k0 p0 p1 p2 c c0 c1 c2 o9 oa oc od : Nat) (w : World) (H : Bys w a bs) (HT : TabB w k0 p0 p1 p2 c c0 c1 c2 o9 oa oc od) :
    Calls Tryd.prog 20 #[.agg (chR f t N (.slice a bs.length cap))] w (AlPost w f t N bs) := by
  obtain ⟨n, hn⟩ : ∃ n, w.heap.size = n := ⟨_, rfl⟩
  have A1 := (Below.refl w.heap.size w).alloc (Nat.le_refl _) (.cells (chR f t N (.slice a bs.length cap)) 73)
  have r1 := heap_alloc_new w (.cells (chR f t N (.slice a bs.length cap)) 73)
  have hs1 : (w.alloc (.cells (chR f t N (.slice a bs.length cap)) 73)).heap.size = n + 1 := by simp [hn]
  have hB1 := H.below A1
  have hT1 := HT.below A1
  have hlt0 : 0 < n ∧ k0 < n ∧ p0 < n ∧ p1 < n ∧ p2 < n := by
    rw [← hn]
    exact ⟨World.block_lt_of_cell? _ _ HT.g, World.block_lt_of_cell? _ _ HT.r.1, World.block_lt_of_cell? _ _ HT.t0.1, World.block_lt_of_cell? _ _ HT.t1.1, World.block_lt_of_cell? _ _ HT.t2.1⟩
  rw [hn] at r1 A1
  obtain ⟨y0, y1, y2, y3⟩ := four73 r1
  have HA := Lib.hid (And.intro A1 (And.intro r1 (And.intro hs1 (And.intro hB1 (And.intro hT1 hlt0)))))
  have HTW := Lib.hid HT
  have HBY := Lib.hid H
  clear A1 r1 hs1 hB1 hT1 hlt0 H HT
  by_cases hlo : N < 1
  · have d1 : decide (N < 1) = true := decide_eq_true hlo
    have HP := Lib.hid (show AlPost w f t N bs (.returned (.tuple #[.slice none 0 0, .bool false])) (w.alloc (.cells (chR f t N (.slice a bs.length cap)) 73)) from ⟨by rw [hn]; exact HA.out.1, .inr ⟨_, _, _, rfl, fun ⟨g, G, h2, _⟩ => by have := G.some; omega⟩⟩)
    unfold chR at *
    go_enter Tryd.func20, Tryd.ntmps20
    go_wp2_with fail
    go_ret2
    exact HP.out
  by_cases hhi : 120 < N
  · have d1 : decide (N < 1) = false := decide_eq_false hlo
    have d2 : decide (N > 120) = true := decide_eq_true hhi
    have HP := Lib.hid (show AlPost w f t N bs (.returned (.tuple #[.slice none 0 0, .bool false])) (w.alloc (.cells (chR f t N (.slice a bs.length cap)) 73)) from ⟨by rw [hn]; exact HA.out.1, .inr ⟨_, _, _, rfl, fun ⟨g, G, h2, _⟩ => by have := G.len; omega⟩⟩)
    unfold chR at *
    go_enter Tryd.func20, Tryd.ntmps20
    go_wp2_with fail
    go_ret2
    exact HP.out
  obtain ⟨M, rfl⟩ := Int.eq_ofNat_of_zero_le (show 0 ≤ N by omega)
  have hM1 : 1 ≤ M := by omega
  have hM2 : M ≤ 120 := by omega
  have d1 : decide ((M : Int) < 1) = false := decide_eq_false hlo
  have d2 : decide ((M : Int) > 120) = false := decide_eq_false hhi
  have HMM := Lib.hid (And.intro hM1 hM2)
  have CR := Lib.hid (B2.fread_any a bs cap _ HA.out.2.2.2.1 hbd)
  obtain ⟨BB, hBB⟩ : ∃ BB, B2.Bt.unpack bs = BB := ⟨_, rfl⟩
  have HBL := Lib.hid (show BB.length ≤ 1000000000 by rw [← hBB, B2.Bt.unpack_length]; omega)
  have HBB := Lib.hid hBB
  unfold B2.FreadPost at CR
  rw [hBB] at CR
  -- the way out
  have HX0 := Lib.hid (show ∀ j W, j + 1 ≤ M → Gm.dIt j BB = none → Below n w W → AlPost w f t ((M : Nat) : Int) bs (.returned (.tuple #[.slice none 0 0, .bool false])) W from fun j W hj h hb => ⟨by rw [hn]; exact hb, .inr ⟨_, _, _, rfl, no_isC hM2 hj (by rw [hBB]; exact h)⟩⟩)
  have HNN := Lib.hid hn
  clear hlo hhi hBB hbd
  unfold chR at CR ⊢
  go_enter Tryd.func20, Tryd.ntmps20
  go_wp2_with fail
  refine CR.out.mono ?_
  rintro e w1 ⟨p, g, rfl, hp, hg, hR, hb1⟩
  have hs1 := HA.out.2.2.1
  unfold chR at hs1
  have hb1' := hb1
  rw [hs1] at hp hg hb1
  have hq := hb1.size
  have hlp := hR.lt
  have HW1 := Lib.hid (show w1.heap[n]? = some (.cells (chR f t ((M : Nat) : Int) (.slice a bs.length cap)) 73 (0, 0)) ∧ Below n w w1 ∧ (n < p ∧ n < g) ∧ (p < w1.heap.size ∧ g < w1.heap.size) ∧ Rf w1 p g BB 0 from ⟨(hb1.block n (by omega)).trans HA.out.2.1, HA.out.1.trans (hb1.mono (by omega)), ⟨by omega, by omega⟩, hlp, hR⟩)
  have CS := Lib.hid (sgn_at p g BB 0 w1 hR (Nat.zero_le _) HBL.out)
  have C64 := Lib.hid (fun W at_ (h : Rf W p g BB at_) (h2 : at_ ≤ BB.length) => next_at p g BB at_ 64 (by decide) W h h2 HBL.out)
  have C1 := Lib.hid (fun W at_ (h : Rf W p g BB at_) (h2 : at_ ≤ BB.length) => next_at p g BB at_ 1 (by decide) W h h2 HBL.out)
  have C5 := Lib.hid (fun W at_ (h : Rf W p g BB at_) (h2 : at_ ≤ BB.length) => next_at p g BB at_ 5 (by decide) W h h2 HBL.out)
  have C6 := Lib.hid (fun W at_ (h : Rf W p g BB at_) (h2 : at_ ≤ BB.length) => next_at p g BB at_ 6 (by decide) W h h2 HBL.out)
  have CX := Lib.hid (fun z (hz : z ≤ 64) W at_ (h : Rf W p g BB at_) (h2 : at_ ≤ BB.length) => next_at p g BB at_ z hz W h h2 HBL.out)
  have CV := Lib.hid (fun W at_ (h : Rf W p g BB at_) (h2 : at_ ≤ BB.length) => var_at p g BB at_ W h h2 HBL.out)
  rw [show ((64 : Nat) : Int) = 64 from rfl] at C64
  rw [show ((1 : Nat) : Int) = 1 from rfl] at C1
  rw [show ((5 : Nat) : Int) = 5 from rfl] at C5
  rw [show ((6 : Nat) : Int) = 6 from rfl] at C6
  unfold pt at CS C64 C1 C5 C6 CX CV
  clear hp hg hb1 hb1' hq hlp hR hs1
  go_wp2_with fail
  refine CS.out.mono ?_
  rintro e w2 (⟨h1, ⟨x, rfl, hx⟩, h2, h3⟩ | ⟨v0, at1, h1, hv0, hat1, rfl, h2, h3⟩)
  · have hx1 : ((x : Int) != 0) = true := by simp; omega
    have hx2 : ¬ (x : Int) = 0 := by omega
    have HZ := Lib.hid (show Gm.dIt 0 BB = none ∧ Rf w2 p g BB 0 ∧ Below n w w2 from ⟨by unfold Gm.dIt Gm.dFst; rw [show Gm.vO BB = none from h1]; rfl, h2, HW1.out.2.1.trans (h3.below (by have := HW1.out.2.2.2.1; have := HW1.out.2.2.1; omega) (by intro x hx; simp at hx; have := HW1.out.2.2.1; omega))⟩)
    clear h1 h2 h3
    go_wp2_with fail
    refine (C64.out w2 0 HZ.out.2.1 (Nat.zero_le _)).mono ?_
    rintro e w3 (⟨k1, rfl, k2, k3⟩ | ⟨u0, k1, hu0, kat, rfl, k2, k3⟩)
    · have HP := Lib.hid (HX0.out 0 w3 HMM.out.1 HZ.out.1 (HZ.out.2.2.trans (k3.below (by have := HZ.out.2.2.size; have := HNN.out; omega) (by intro x hx; simp at hx; have := HW1.out.2.2.1; omega))))
      clear k1 k2 k3
      go_wp2_with fail
      go_ret2
      exact HP.out
    · have HP := Lib.hid (HX0.out 0 w3 HMM.out.1 HZ.out.1 (HZ.out.2.2.trans (k3.below (by have := HZ.out.2.2.size; have := HNN.out; omega) (by intro x hx; simp at hx; have := HW1.out.2.2.1; omega))))
      clear k1 k2 k3
      go_wp2_with fail
      go_ret2
      exact HP.out
  have HZ := Lib.hid (show Gm.vO BB = some (v0, BB.drop at1) ∧ Rf w2 p g BB at1 ∧ Below n w w2 ∧ w1.heap.size ≤ w2.heap.size ∧ w2.heap[n]? = some (.cells (chR f t ((M : Nat) : Int) (.slice a bs.length cap)) 73 (0, 0)) from ⟨h1, h2, HW1.out.2.1.trans (h3.below (by have := HW1.out.2.2.2.1; have := HW1.out.2.2.1; omega) (by intro x hx; simp at hx; have := HW1.out.2.2.1; omega)), h3.size, (h3.block n (by have := HW1.out.2.2.2.1; have := HW1.out.2.2.1; omega) (by have := HW1.out.2.2.1; simp; omega)).trans HW1.out.1⟩)
  clear h1 h2 h3 CS
  go_wp2_with fail
  refine (C64.out w2 at1 HZ.out.2.1 hat1).mono ?_
  rintro e w3 (⟨k1, rfl, k2, k3⟩ | ⟨u0, k1, hu0, kat, rfl, k2, k3⟩)
  · have HP := Lib.hid (HX0.out 0 w3 HMM.out.1 (by unfold Gm.dIt Gm.dFst; rw [HZ.out.1]; show Option.map _ (Option.map _ (Gm.rO 64 _)) = none; rw [k1]; rfl) (HZ.out.2.2.1.trans (k3.below (by have := HZ.out.2.2.1.size; have := HNN.out; omega) (by intro x hx; simp at hx; have := HW1.out.2.2.1; omega))))
    clear k1 k2 k3
    go_wp2_with fail
    go_ret2
    exact HP.out
  have hp3 : p < w3.heap.size ∧ n < w3.heap.size ∧ g < w3.heap.size := ⟨by have := HW1.out.2.2.2.1; have := HZ.out.2.2.2.1; have := k3.size; omega, by have := HW1.out.2.2.2.1; have := HW1.out.2.2.1; have := HZ.out.2.2.2.1; have := k3.size; omega, by have := HW1.out.2.2.2.1; have := HZ.out.2.2.2.1; have := k3.size; omega⟩
  have hbn3 : Below n w w3 := HZ.out.2.2.1.trans (k3.below (by have := HZ.out.2.2.1.size; have := HNN.out; omega) (by intro x hx; simp at hx; have := HW1.out.2.2.1; omega))
  have hbx3 : w3.heap[n]? = some (.cells (chR f t ((M : Nat) : Int) (.slice a bs.length cap)) 73 (0, 0)) := (k3.block n (by have := HW1.out.2.2.2.1; have := HW1.out.2.2.1; have := HZ.out.2.2.2.1; omega) (by have := HW1.out.2.2.1; simp; omega)).trans HZ.out.2.2.2.2
  obtain ⟨q, hq⟩ : ∃ q, w3.heap.size = q := ⟨_, rfl⟩
  have AA := (Below.refl w3.heap.size w3).alloc (Nat.le_refl _) (.cells #[.int .i64 (B2.Bt.uz v0), .int .u64 ((u0 : Nat) : Int)] 70)
  have HM0 := Lib.hid (show AlM n p g q (chR f t ((M : Nat) : Int) (.slice a bs.length cap)) BB w (at1 + 64) (.slice (some ⟨q, 0, none⟩) 1 1) [⟨B2.Bt.uz v0, u0⟩] (w3.alloc (.cells #[.int .i64 (B2.Bt.uz v0), .int .u64 ((u0 : Nat) : Int)] 70)) from
    ⟨k2.below AA, by rw [← hq]; exact own_lit w3 w3.heap.size (Nat.le_refl _) ⟨B2.Bt.uz v0, u0⟩, (AA.block n hp3.2.1).trans hbx3, hbn3.trans (AA.mono (by omega)), by simp; omega, ⟨HW1.out.2.2.1.1, by omega, by omega, by omega⟩⟩)
  have HD0 := Lib.hid (show Gm.dIt 0 BB = some ([⟨B2.Bt.uz v0, u0⟩], ⟨B2.Bt.uz v0, u0, 0, 0, 0, BB.drop (at1 + 64)⟩) from by unfold Gm.dIt Gm.dFst; rw [HZ.out.1]; show Option.map _ (Option.map _ (Gm.rO 64 _)) = _; rw [k1]; rfl)
  have HKA := Lib.hid kat
  clear k1 k2 k3 hp3 hbn3 hbx3 AA
  obtain ⟨y0, y1, y2, y3⟩ := four73 HM0.out.box
  obtain ⟨i0, hi, hz0, hz1, hz2⟩ := info_parts info70'
  have HI0 := Lib.hid (And.intro hi (And.intro hz0 (And.intro hz1 hz2)))
  clear hi hz0 hz1 hz2

  go_wp2_with fail
  go_loopw [5, 7, 9, 10, 11, 12] (fun tt vv out step left right wr => ∃ (m : Nat) (l : List Smp) (d : Dr) (at_ : Nat), 1 ≤ m ∧ m ≤ M ∧ tt = .int .i64 d.t ∧ vv = .int .u64 ((d.v : Nat) : Int) ∧ step = .int .u64 ((d.step : Nat) : Int) ∧ left = .int .i64 ((d.lf : Nat) : Int) ∧ right = .int .i64 ((d.rt : Nat) : Int) ∧ (∃ av cv, out = .slice av m cv) ∧ Hid (Gm.dIt (m - 1) BB = some (l, d) ∧ d.S = BB.drop at_ ∧ at_ ≤ BB.length ∧ AlM n p g q (chR f t ((M : Nat) : Int) (.slice a bs.length cap)) BB w at_ out l wr)) (fun _ _ out _ _ _ _ => M - lenV out)
  case atStart => exact ⟨1, _, _, at1 + 64, Nat.le_refl _, HMM.out.1, rfl, rfl, rfl, rfl, rfl, ⟨_, _, rfl⟩, Lib.hid ⟨HD0.out, rfl, HKA.out, HM0.out⟩⟩
  case round =>
    obtain ⟨m, l, ⟨T, V, st, L, R, S⟩, at_, hm1, hm2, rfl, rfl, rfl, rfl, rfl, ⟨av, cv, rfl⟩, HI⟩ := hrel
    clear y0 y1 y2 y3
    have hS := HI.out.2.1
    simp only at hS
    subst hS
    have HIN := Lib.hid (dIt_I _ _ _ _ HI.out.1)
    have HLN := Lib.hid (show l.length = m from by rw [Gm.dIt_len _ _ _ _ HI.out.1]; omega)
    have HM := Lib.hid HI.out.2.2.2
    have hat := HI.out.2.2.1
    obtain ⟨y0, y1, y2, y3⟩ := four73 HM.out.box
    by_cases hlt : m < M
    · have da : decide ((m : Int) < (M : Int)) = true := decide_eq_true (by omega)
      have da2 : decide (m < M) = true := decide_eq_true hlt
      have HNX := Lib.hid (dIt_next (B := BB) hm1 HI.out.1)
      have HX := Lib.hid (show ∀ W, Gm.dNext m ⟨T, V, st, L, R, BB.drop at_⟩ = none → Below n w W → AlPost w f t ((M : Nat) : Int) bs (.returned (.tuple #[.slice none 0 0, .bool false])) W from fun W h hb => HX0.out m W (by omega) (by rw [HNX.out, h]; rfl) hb)
      have HTB := Lib.hid (show Calls Tryd.prog 72 #[pt p] wr (ChgPost wr p g BB at_) from change_any p g BB at_ k0 p0 p1 p2 c c0 c1 c2 o9 oa oc od wr HM.out.rf (HTW.out.below (by rw [HNN.out]; exact HM.out.bel)) (by have h1 := HA.out.2.2.2.2.2; have h2 := HM.out.ne; omega) hat HBL.out)
      have hLR := HIN.out.1.win
      have hVl := HIN.out.1.v
      have hsl := HIN.out.1.step
      simp only at hLR hVl hsl
      unfold pt at HTB
      obtain ⟨z, hz⟩ : ∃ z, 64 - L - R = z := ⟨_, rfl⟩
      have hzl : z ≤ 64 := by omega
      have hz1 : IntKind.i64.wrap ((64 : Int) - (L : Int)) = (64 : Int) - (L : Int) := by rw [i64_is]; unfold RowKit.wrap64; omega
      have hz3 : (64 : Int) - (L : Int) - (R : Int) = (z : Int) := by omega
      have hz2 : IntKind.i64.wrap ((64 : Int) - (L : Int) - (R : Int)) = (z : Int) := by rw [i64_is, hz3]; unfold RowKit.wrap64; omega
      have hz4 : IntKind.i64.wrap (z : Int) = (z : Int) := by rw [i64_is]; unfold RowKit.wrap64; omega
      have HZZ := Lib.hid hz
      clear hz
      by_cases hm3 : m = 1
      · subst hm3
        rw [show ((1 : Nat) : Int) = 1 from rfl] at da
        rw [show ((M : Nat) : Int) = (M : Int) from rfl]
        go_wp2_with fail
        refine (CV.out wr at_ HM.out.rf hat).mono ?_
        rintro e w4 (⟨h1, ⟨x, rfl, hx⟩, h2, h3⟩ | ⟨s2, at2, h1, hs2, hat2, rfl, h2, h3⟩)
        · have hx1 : ((x : Int) != 0) = true := by simp; omega
          have hx2 : ¬ (x : Int) = 0 := by omega
          have HP := Lib.hid (HX.out w4 (by unfold Gm.dNext Gm.tO; rw [if_pos rfl]; rw [show Gm.vO (Dr.S ⟨T, V, st, L, R, BB.drop at_⟩) = none from h1]; rfl) (HM.out.rd h2 h3).bel)
          clear h1 h2 h3
          go_wp2_with fail
          go_ret2
          exact HP.out
        · have HM1 := Lib.hid (HM.out.rd h2 h3)
          have HTO := Lib.hid (show Gm.tO 1 st (BB.drop at_) = some (s2, BB.drop at2) from by unfold Gm.tO; rw [if_pos rfl]; exact h1)
          clear h1 h2 h3 HM hat HTB
          have HYN := Lib.hid (show Gm.dNext 1 ⟨T, V, st, L, R, BB.drop at_⟩ = Gm.nO ⟨Gm.wI (T + Gm.i64 s2), V, s2, L, R, BB.drop at2⟩ from by unfold Gm.dNext; rw [show Gm.tO 1 (Dr.step ⟨T, V, st, L, R, BB.drop at_⟩) (Dr.S ⟨T, V, st, L, R, BB.drop at_⟩) = _ from HTO.out]; rfl)
          rw [HYN.out] at HX HNX
          have htw := time_word T s2 hs2
          obtain ⟨T2, hT2⟩ : ∃ T2, Gm.wI (T + Gm.i64 s2) = T2 := ⟨_, rfl⟩
          rw [hT2] at htw HX HNX
          clear hT2 HTO HYN
          go_wp2_with fail
          refine (C1.out _ _ HM1.out.rf hat2).mono ?_
          rintro e w5 (⟨h1, rfl, h2, h3⟩ | ⟨b, h1, hb, hle, rfl, h2, h3⟩)
          · have HP := Lib.hid (HX.out w5 (nO_e h1) (HM1.out.rd h2 h3).bel)
            clear h1 h2 h3
            go_wp2_with fail
            go_ret2
            exact HP.out
          · have HM2 := Lib.hid (HM1.out.rd h2 h3)
            have HB1 := Lib.hid h1
            clear h1 h2 h3 HM1
            have hb2 : b = 0 ∨ b = 1 := by omega
            rcases hb2 with rfl | rfl
            · have HN := Lib.hid (show Gm.dIt 1 BB = some (l ++ [⟨T2, V⟩], ⟨T2, V, s2, L, R, BB.drop (at2 + 1)⟩) from by rw [HNX.out, nO_same HB1.out]; rfl)
              rw [show ((0 : Nat) : Int) = 0 from rfl]
              have HSRC := Lib.hid (two_cellsN w5 ⟨T2, V⟩)
              have HONE := Lib.hid (show ∀ u ∈ ([.int .i64 T2, .int .u64 ((V : Nat) : Int)] : List Value), u.oneCell' = true by simp [Value.oneCell'])
              have HOW := Lib.hid (own_row HM2.out.own HLN.out)
              go_wp2_with (at_builtin; refine wpList_append_own_at _ rfl (.tmp 150) (.tmp 154) 22 rfl q 70 i0 (.agg #[.int .i64 0, .int .u64 0]) 2 16 Tryd.underlying22 HI0.out.1 HI0.out.2.1 HI0.out.2.2.1 HI0.out.2.2.2 rfl (by decide) (.slice av 1 cv) 1 (smC l) rfl (HOW.out.alloc _) ⟨w5.heap.size, 0, none⟩ 1 1 [.int .i64 T2, .int .u64 ((V : Nat) : Int)] rfl rfl HSRC.out HONE.out (by have := HMM.out; unfold maxLen; omega) (by have := HMM.out; omega) (by have := HM2.out.sz; simp; omega) ?_; intro v9 w9 hown9 hgr9 _ _; have HM9 := Lib.hid (HM2.out.add (l' := l ++ [⟨T2, V⟩]) (by unfold OwnS; rw [smC_snoc, List.length_append, HLN.out]; exact hown9) hgr9); clear hown9 hgr9)
              obtain ⟨av9, cv9, rfl, _⟩ := HM9.out.own.shape
              have hl9 : (l ++ [(⟨T2, V⟩ : Smp)]).length = 1 + 1 := by rw [List.length_append, HLN.out]; rfl
              rw [hl9] at HM9 ⊢
              clear hl9 HSRC HONE HOW
              go_wp2_with fail
              go_roundw
              case rel => exact ⟨1 + 1, l ++ [⟨T2, V⟩], ⟨T2, V, s2, L, R, BB.drop (at2 + 1)⟩, at2 + 1, by omega, by omega, rfl, rfl, rfl, rfl, rfl, ⟨_, _, rfl⟩, Lib.hid ⟨by rw [Nat.add_sub_cancel]; exact HN.out, rfl, hle, HM9.out⟩⟩
              case measure => simp [lenV]; omega
            · rw [show ((1 : Nat) : Int) = 1 from rfl]
              go_wp2_with fail
              refine (C1.out _ _ HM2.out.rf hle).mono ?_
              rintro e w6 (⟨h1, rfl, h2, h3⟩ | ⟨u, h1, hu, hle2, rfl, h2, h3⟩)
              · have HM3 := Lib.hid (HM2.out.rd h2 h3)
                have HE := Lib.hid (show Gm.nO ⟨T2, V, s2, L, R, BB.drop at2⟩ = none from nO_e2 HB1.out h1)
                clear h1 h2 h3 HM2
                go_wp2_with fail
                refine (CX.out z hzl _ _ HM3.out.rf hle).mono ?_
                rintro e w7 (⟨h1, rfl, h2, h3⟩ | ⟨X, h1, hX, hle3, rfl, h2, h3⟩)
                · have HP := Lib.hid (HX.out w7 HE.out (HM3.out.rd h2 h3).bel)
                  clear h1 h2 h3
                  go_wp2_with fail
                  go_ret2
                  exact HP.out
                · have HP := Lib.hid (HX.out w7 HE.out (HM3.out.rd h2 h3).bel)
                  clear h1 h2 h3
                  go_wp2_with fail
                  go_ret2
                  exact HP.out
              · have HM3 := Lib.hid (HM2.out.rd h2 h3)
                have HB2 := Lib.hid h1
                clear h1 h2 h3 HM2
                have hu2 : u = 0 ∨ u = 1 := by omega
                rcases hu2 with rfl | rfl
                · have EQ := Lib.hid (show Gm.nO ⟨T2, V, s2, L, R, BB.drop at2⟩ = Gm.xO ⟨T2, V, s2, L, R, BB.drop at2⟩ (L, R, BB.drop (at2 + 1 + 1)) from nO_old HB1.out HB2.out)
                  rw [show ((0 : Nat) : Int) = 0 from rfl]
                  go_wp2_with fail
                  refine (CX.out z hzl _ _ HM3.out.rf hle2).mono ?_
                  rintro e w8 (⟨h1, rfl, h2, h3⟩ | ⟨X, h1, hX, hle9, rfl, h2, h3⟩)
                  · rw [← HZZ.out] at h1
                    have HP := Lib.hid (HX.out w8 (by rw [EQ.out]; exact xO_e h1) (HM3.out.rd h2 h3).bel)
                    clear h1 h2 h3
                    go_wp2_with fail
                    go_ret2
                    exact HP.out
                  · have HM8 := Lib.hid (HM3.out.rd h2 h3)
                    have h1' := h1
                    rw [← HZZ.out] at h1'
                    have HN8 := Lib.hid (show Gm.dIt 1 BB = some (l ++ [⟨T2, V ^^^ ((X <<< R) % 18446744073709551616)⟩], ⟨T2, V ^^^ ((X <<< R) % 18446744073709551616), s2, L, R, BB.drop (at2 + 1 + 1 + z)⟩) from by rw [HNX.out, EQ.out, xO_ok h1', HZZ.out]; rfl)
                    have hsh := shl_word X R (by omega)
                    have hxo := u64_xor_nat V ((X <<< R) % 18446744073709551616) hVl (Nat.mod_lt _ (by decide))
                    have hRw : IntKind.u64.wrap ((R : Nat) : Int) = ((R : Nat) : Int) := by rw [IntKind.wrap_u64]; omega
                    obtain ⟨Y, hY⟩ : ∃ Y, (X <<< R) % 18446744073709551616 = Y := ⟨_, rfl⟩
                    rw [hY] at hsh hxo HN8
                    obtain ⟨V2, hV2⟩ : ∃ V2, V ^^^ Y = V2 := ⟨_, rfl⟩
                    rw [hV2] at hxo HN8
                    clear h1 h1' h2 h3 hY hV2 HM3
                    have HSRC := Lib.hid (two_cellsN w8 ⟨T2, V2⟩)
                    have HONE := Lib.hid (show ∀ u ∈ ([.int .i64 T2, .int .u64 ((V2 : Nat) : Int)] : List Value), u.oneCell' = true by simp [Value.oneCell'])
                    have HOW := Lib.hid (own_row HM8.out.own HLN.out)
                    go_wp2_with (at_builtin; refine wpList_append_own_at _ rfl (.tmp 150) (.tmp 154) 22 rfl q 70 i0 (.agg #[.int .i64 0, .int .u64 0]) 2 16 Tryd.underlying22 HI0.out.1 HI0.out.2.1 HI0.out.2.2.1 HI0.out.2.2.2 rfl (by decide) (.slice av 1 cv) 1 (smC l) rfl (HOW.out.alloc _) ⟨w8.heap.size, 0, none⟩ 1 1 [.int .i64 T2, .int .u64 ((V2 : Nat) : Int)] rfl rfl HSRC.out HONE.out (by have := HMM.out; unfold maxLen; omega) (by have := HMM.out; omega) (by have := HM8.out.sz; simp; omega) ?_; intro v9 w9 hown9 hgr9 _ _; have HM9 := Lib.hid (HM8.out.add (l' := l ++ [⟨T2, V2⟩]) (by unfold OwnS; rw [smC_snoc, List.length_append, HLN.out]; exact hown9) hgr9); clear hown9 hgr9)
                    obtain ⟨av9, cv9, rfl, _⟩ := HM9.out.own.shape
                    have hl9 : (l ++ [(⟨T2, V2⟩ : Smp)]).length = 1 + 1 := by rw [List.length_append, HLN.out]; rfl
                    rw [hl9] at HM9 ⊢
                    clear hl9 HSRC HONE HOW
                    go_wp2_with fail
                    go_roundw
                    case rel => exact ⟨1 + 1, l ++ [⟨T2, V2⟩], ⟨T2, V2, s2, L, R, BB.drop (at2 + 1 + 1 + z)⟩, at2 + 1 + 1 + z, by omega, by omega, rfl, rfl, rfl, rfl, rfl, ⟨_, _, rfl⟩, Lib.hid ⟨by rw [Nat.add_sub_cancel]; exact HN8.out, rfl, hle9, HM9.out⟩⟩
                    case measure => simp [lenV]; omega
                · have EQ0 := Lib.hid (nO_new (d := ⟨T2, V, s2, L, R, BB.drop at2⟩) HB1.out HB2.out)
                  rw [show ((1 : Nat) : Int) = 1 from rfl]
                  clear hz1 hz2 hz3 hz4
                  go_wp2_with fail
                  refine (C5.out _ _ HM3.out.rf hle2).mono ?_
                  rintro e w7 (⟨h1, rfl, h2, h3⟩ | ⟨x5, h1, hx5, hle5, rfl, h2, h3⟩)
                  · have HM4 := Lib.hid (HM3.out.rd h2 h3)
                    have HE := Lib.hid (show Gm.nO ⟨T2, V, s2, L, R, BB.drop at2⟩ = none from by rw [EQ0.out, wO_e h1]; rfl)
                    clear h1 h2 h3 HM3
                    go_wp2_with fail
                    refine (C6.out _ _ HM4.out.rf hle2).mono ?_
                    rintro e w8 (⟨h1, rfl, h2, h3⟩ | ⟨x6, h1, hx6, hle6, rfl, h2, h3⟩)
                    · have HP := Lib.hid (HX.out w8 HE.out (HM4.out.rd h2 h3).bel)
                      clear h1 h2 h3
                      go_wp2_with fail
                      go_ret2
                      exact HP.out
                    · have HP := Lib.hid (HX.out w8 HE.out (HM4.out.rd h2 h3).bel)
                      have hcw : IntKind.i64.wrap (x6 : Int) = (x6 : Int) := by rw [i64_is]; unfold RowKit.wrap64; omega
                      clear h1 h2 h3
                      go_wp2_with fail
                      go_ret2
                      exact HP.out
                  · have HM4 := Lib.hid (HM3.out.rd h2 h3)
                    have HB5 := Lib.hid h1
                    have hcw : IntKind.i64.wrap (x5 : Int) = (x5 : Int) := by rw [i64_is]; unfold RowKit.wrap64; omega
                    clear h1 h2 h3 HM3
                    go_wp2_with fail
                    refine (C6.out _ _ HM4.out.rf hle5).mono ?_
                    rintro e w8 (⟨h1, rfl, h2, h3⟩ | ⟨x6, h1, hx6, hle6, rfl, h2, h3⟩)
                    · have HP := Lib.hid (HX.out w8 (by rw [EQ0.out, wO_e2 HB5.out h1]; rfl) (HM4.out.rd h2 h3).bel)
                      clear h1 h2 h3
                      go_wp2_with fail
                      go_ret2
                      exact HP.out
                    · have HM5 := Lib.hid (HM4.out.rd h2 h3)
                      have HB6 := Lib.hid h1
                      have hcw6 : IntKind.i64.wrap (x6 : Int) = (x6 : Int) := by rw [i64_is]; unfold RowKit.wrap64; omega
                      have hm1' : IntKind.i64.wrap ((63 : Int) - (x5 : Int)) = (63 : Int) - (x5 : Int) := by rw [i64_is]; unfold RowKit.wrap64; omega
                      clear h1 h2 h3 HM4
                      by_cases hfar : 63 < x5 + x6
                      · have hm2' : IntKind.i64.wrap ((63 : Int) - (x5 : Int) - (x6 : Int)) = (63 : Int) - (x5 : Int) - (x6 : Int) := by rw [i64_is]; unfold RowKit.wrap64; omega
                        have hneg : decide ((63 : Int) - (x5 : Int) - (x6 : Int) < 0) = true := decide_eq_true (by omega)
                        have HP := Lib.hid (HX.out w8 (by rw [EQ0.out, wO_far HB5.out HB6.out hfar]; rfl) HM5.out.bel)
                        go_wp2_with fail
                        go_ret2
                        exact HP.out
                      · obtain ⟨R2, hR2⟩ : ∃ R2, 63 - x5 - x6 = R2 := ⟨_, rfl⟩
                        have hm4' : (63 : Int) - (x5 : Int) - (x6 : Int) = (R2 : Int) := by omega
                        have hm2' : IntKind.i64.wrap ((63 : Int) - (x5 : Int) - (x6 : Int)) = (R2 : Int) := by rw [i64_is, hm4']; unfold RowKit.wrap64; omega
                        have hm3' : IntKind.i64.wrap (R2 : Int) = (R2 : Int) := by rw [i64_is]; unfold RowKit.wrap64; omega
                        have hneg : decide ((R2 : Int) < 0) = false := decide_eq_false (by omega)
                        have EQ := Lib.hid (show Gm.nO ⟨T2, V, s2, L, R, BB.drop at2⟩ = Gm.xO ⟨T2, V, s2, L, R, BB.drop at2⟩ (x5, R2, BB.drop (at2 + 1 + 1 + 5 + 6)) from by rw [EQ0.out, wO_ok HB5.out HB6.out hfar, hR2]; rfl)
                        obtain ⟨z2, hz2e⟩ : ∃ z2, 64 - x5 - R2 = z2 := ⟨_, rfl⟩
                        have HZ2 := Lib.hid hz2e
                        have hzl2 : z2 ≤ 64 := by omega
                        have hz1 : IntKind.i64.wrap ((64 : Int) - (x5 : Int)) = (64 : Int) - (x5 : Int) := by rw [i64_is]; unfold RowKit.wrap64; omega
                        have hz3 : (64 : Int) - (x5 : Int) - (R2 : Int) = (z2 : Int) := by omega
                        have hz2 : IntKind.i64.wrap ((64 : Int) - (x5 : Int) - (R2 : Int)) = (z2 : Int) := by rw [i64_is, hz3]; unfold RowKit.wrap64; omega
                        have hz4 : IntKind.i64.wrap (z2 : Int) = (z2 : Int) := by rw [i64_is]; unfold RowKit.wrap64; omega
                        have hR63 : R2 ≤ 63 := by omega
                        clear hR2 hz2e
                        go_wp2_with fail
                        refine (CX.out z2 hzl2 _ _ HM5.out.rf hle6).mono ?_
                        rintro e w8 (⟨h1, rfl, h2, h3⟩ | ⟨X, h1, hX, hle9, rfl, h2, h3⟩)
                        · rw [← HZ2.out] at h1
                          have HP := Lib.hid (HX.out w8 (by rw [EQ.out]; exact xO_e h1) (HM5.out.rd h2 h3).bel)
                          clear h1 h2 h3
                          go_wp2_with fail
                          go_ret2
                          exact HP.out
                        · have HM8 := Lib.hid (HM5.out.rd h2 h3)
                          have h1' := h1
                          rw [← HZ2.out] at h1'
                          have HN8 := Lib.hid (show Gm.dIt 1 BB = some (l ++ [⟨T2, V ^^^ ((X <<< R2) % 18446744073709551616)⟩], ⟨T2, V ^^^ ((X <<< R2) % 18446744073709551616), s2, x5, R2, BB.drop (at2 + 1 + 1 + 5 + 6 + z2)⟩) from by rw [HNX.out, EQ.out, xO_ok h1', HZ2.out]; rfl)
                          have hsh := shl_word X R2 (by omega)
                          have hxo := u64_xor_nat V ((X <<< R2) % 18446744073709551616) hVl (Nat.mod_lt _ (by decide))
                          have hRw : IntKind.u64.wrap ((R2 : Nat) : Int) = ((R2 : Nat) : Int) := by rw [IntKind.wrap_u64]; omega
                          obtain ⟨Y, hY⟩ : ∃ Y, (X <<< R2) % 18446744073709551616 = Y := ⟨_, rfl⟩
                          rw [hY] at hsh hxo HN8
                          obtain ⟨V2, hV2⟩ : ∃ V2, V ^^^ Y = V2 := ⟨_, rfl⟩
                          rw [hV2] at hxo HN8
                          clear h1 h1' h2 h3 hY hV2 HM5
                          have HSRC := Lib.hid (two_cellsN w8 ⟨T2, V2⟩)
                          have HONE := Lib.hid (show ∀ u ∈ ([.int .i64 T2, .int .u64 ((V2 : Nat) : Int)] : List Value), u.oneCell' = true by simp [Value.oneCell'])
                          have HOW := Lib.hid (own_row HM8.out.own HLN.out)
                          go_wp2_with (at_builtin; refine wpList_append_own_at _ rfl (.tmp 150) (.tmp 154) 22 rfl q 70 i0 (.agg #[.int .i64 0, .int .u64 0]) 2 16 Tryd.underlying22 HI0.out.1 HI0.out.2.1 HI0.out.2.2.1 HI0.out.2.2.2 rfl (by decide) (.slice av 1 cv) 1 (smC l) rfl (HOW.out.alloc _) ⟨w8.heap.size, 0, none⟩ 1 1 [.int .i64 T2, .int .u64 ((V2 : Nat) : Int)] rfl rfl HSRC.out HONE.out (by have := HMM.out; unfold maxLen; omega) (by have := HMM.out; omega) (by have := HM8.out.sz; simp; omega) ?_; intro v9 w9 hown9 hgr9 _ _; have HM9 := Lib.hid (HM8.out.add (l' := l ++ [⟨T2, V2⟩]) (by unfold OwnS; rw [smC_snoc, List.length_append, HLN.out]; exact hown9) hgr9); clear hown9 hgr9)
                          obtain ⟨av9, cv9, rfl, _⟩ := HM9.out.own.shape
                          have hl9 : (l ++ [(⟨T2, V2⟩ : Smp)]).length = 1 + 1 := by rw [List.length_append, HLN.out]; rfl
                          rw [hl9] at HM9 ⊢
                          clear hl9 HSRC HONE HOW
                          go_wp2_with fail
                          go_roundw
                          case rel => exact ⟨1 + 1, l ++ [⟨T2, V2⟩], ⟨T2, V2, s2, x5, R2, BB.drop (at2 + 1 + 1 + 5 + 6 + z2)⟩, at2 + 1 + 1 + 5 + 6 + z2, by omega, by omega, rfl, rfl, rfl, rfl, rfl, ⟨_, _, rfl⟩, Lib.hid ⟨by rw [Nat.add_sub_cancel]; exact HN8.out, rfl, hle9, HM9.out⟩⟩
                          case measure => simp [lenV]; omega
      · have e1 : ((m : Int) == 1) = false := by simp; omega
        have e2 : ¬ (m : Int) = 1 := by omega
        go_wp2_with fail
        refine HTB.out.mono ?_
        rintro e w4 ⟨v4, x, at2, rfl, hat2, h2, h3, hv4, h4⟩
        rcases h4 with ⟨rfl, h1⟩ | ⟨hx, h1⟩
        · have HM1 := Lib.hid (HM.out.rd h2 h3)
          obtain ⟨s2, hs2e⟩ : ∃ s2, (st + v4) % 18446744073709551616 = s2 := ⟨_, rfl⟩
          have hs2 : s2 < 18446744073709551616 := by omega
          have hadd : IntKind.u64.wrap ((st : Int) + (v4 : Int)) = (s2 : Int) := by rw [add_word, hs2e]
          have HTO := Lib.hid (show Gm.tO m st (BB.drop at_) = some (s2, BB.drop at2) from by unfold Gm.tO; rw [if_neg hm3, h1]; simp only [Option.map_some, hs2e])
          clear h1 h2 h3 HM hat HTB hs2e
          rw [show ((0 : Nat) : Int) = 0 from rfl]
          have HYN := Lib.hid (show Gm.dNext m ⟨T, V, st, L, R, BB.drop at_⟩ = Gm.nO ⟨Gm.wI (T + Gm.i64 s2), V, s2, L, R, BB.drop at2⟩ from by unfold Gm.dNext; rw [show Gm.tO m (Dr.step ⟨T, V, st, L, R, BB.drop at_⟩) (Dr.S ⟨T, V, st, L, R, BB.drop at_⟩) = _ from HTO.out]; rfl)
          rw [HYN.out] at HX HNX
          have htw := time_word T s2 hs2
          obtain ⟨T2, hT2⟩ : ∃ T2, Gm.wI (T + Gm.i64 s2) = T2 := ⟨_, rfl⟩
          rw [hT2] at htw HX HNX
          clear hT2 HTO HYN
          go_wp2_with fail
          refine (C1.out _ _ HM1.out.rf hat2).mono ?_
          rintro e w5 (⟨h1, rfl, h2, h3⟩ | ⟨b, h1, hb, hle, rfl, h2, h3⟩)
          · have HP := Lib.hid (HX.out w5 (nO_e h1) (HM1.out.rd h2 h3).bel)
            clear h1 h2 h3
            go_wp2_with fail
            go_ret2
            exact HP.out
          · have HM2 := Lib.hid (HM1.out.rd h2 h3)
            have HB1 := Lib.hid h1
            clear h1 h2 h3 HM1
            have hb2 : b = 0 ∨ b = 1 := by omega
            rcases hb2 with rfl | rfl
            · have HN := Lib.hid (show Gm.dIt m BB = some (l ++ [⟨T2, V⟩], ⟨T2, V, s2, L, R, BB.drop (at2 + 1)⟩) from by rw [HNX.out, nO_same HB1.out]; rfl)
              rw [show ((0 : Nat) : Int) = 0 from rfl]
              have HSRC := Lib.hid (two_cellsN w5 ⟨T2, V⟩)
              have HONE := Lib.hid (show ∀ u ∈ ([.int .i64 T2, .int .u64 ((V : Nat) : Int)] : List Value), u.oneCell' = true by simp [Value.oneCell'])
              have HOW := Lib.hid (own_row HM2.out.own HLN.out)
              go_wp2_with (at_builtin; refine wpList_append_own_at _ rfl (.tmp 150) (.tmp 154) 22 rfl q 70 i0 (.agg #[.int .i64 0, .int .u64 0]) 2 16 Tryd.underlying22 HI0.out.1 HI0.out.2.1 HI0.out.2.2.1 HI0.out.2.2.2 rfl (by decide) (.slice av m cv) m (smC l) rfl (HOW.out.alloc _) ⟨w5.heap.size, 0, none⟩ 1 1 [.int .i64 T2, .int .u64 ((V : Nat) : Int)] rfl rfl HSRC.out HONE.out (by have := HMM.out; unfold maxLen; omega) (by have := HMM.out; omega) (by have := HM2.out.sz; simp; omega) ?_; intro v9 w9 hown9 hgr9 _ _; have HM9 := Lib.hid (HM2.out.add (l' := l ++ [⟨T2, V⟩]) (by unfold OwnS; rw [smC_snoc, List.length_append, HLN.out]; exact hown9) hgr9); clear hown9 hgr9)
              obtain ⟨av9, cv9, rfl, _⟩ := HM9.out.own.shape
              have hl9 : (l ++ [(⟨T2, V⟩ : Smp)]).length = m + 1 := by rw [List.length_append, HLN.out]; rfl
              rw [hl9] at HM9 ⊢
              clear hl9 HSRC HONE HOW
              go_wp2_with fail
              go_roundw
              case rel => exact ⟨m + 1, l ++ [⟨T2, V⟩], ⟨T2, V, s2, L, R, BB.drop (at2 + 1)⟩, at2 + 1, by omega, by omega, rfl, rfl, rfl, rfl, rfl, ⟨_, _, rfl⟩, Lib.hid ⟨by rw [Nat.add_sub_cancel]; exact HN.out, rfl, hle, HM9.out⟩⟩
              case measure => simp [lenV]; omega
            · rw [show ((1 : Nat) : Int) = 1 from rfl]
              go_wp2_with fail
              refine (C1.out _ _ HM2.out.rf hle).mono ?_
              rintro e w6 (⟨h1, rfl, h2, h3⟩ | ⟨u, h1, hu, hle2, rfl, h2, h3⟩)
              · have HM3 := Lib.hid (HM2.out.rd h2 h3)
                have HE := Lib.hid (show Gm.nO ⟨T2, V, s2, L, R, BB.drop at2⟩ = none from nO_e2 HB1.out h1)
                clear h1 h2 h3 HM2
                go_wp2_with fail
                refine (CX.out z hzl _ _ HM3.out.rf hle).mono ?_
                rintro e w7 (⟨h1, rfl, h2, h3⟩ | ⟨X, h1, hX, hle3, rfl, h2, h3⟩)
                · have HP := Lib.hid (HX.out w7 HE.out (HM3.out.rd h2 h3).bel)
                  clear h1 h2 h3
                  go_wp2_with fail
                  go_ret2
                  exact HP.out
                · have HP := Lib.hid (HX.out w7 HE.out (HM3.out.rd h2 h3).bel)
                  clear h1 h2 h3
                  go_wp2_with fail
                  go_ret2
                  exact HP.out
              · have HM3 := Lib.hid (HM2.out.rd h2 h3)
                have HB2 := Lib.hid h1
                clear h1 h2 h3 HM2
                have hu2 : u = 0 ∨ u = 1 := by omega
                rcases hu2 with rfl | rfl
                · have EQ := Lib.hid (show Gm.nO ⟨T2, V, s2, L, R, BB.drop at2⟩ = Gm.xO ⟨T2, V, s2, L, R, BB.drop at2⟩ (L, R, BB.drop (at2 + 1 + 1)) from nO_old HB1.out HB2.out)
                  rw [show ((0 : Nat) : Int) = 0 from rfl]
                  go_wp2_with fail
                  refine (CX.out z hzl _ _ HM3.out.rf hle2).mono ?_
                  rintro e w8 (⟨h1, rfl, h2, h3⟩ | ⟨X, h1, hX, hle9, rfl, h2, h3⟩)
                  · rw [← HZZ.out] at h1
                    have HP := Lib.hid (HX.out w8 (by rw [EQ.out]; exact xO_e h1) (HM3.out.rd h2 h3).bel)
                    clear h1 h2 h3
                    go_wp2_with fail
                    go_ret2
                    exact HP.out
                  · have HM8 := Lib.hid (HM3.out.rd h2 h3)
                    have h1' := h1
                    rw [← HZZ.out] at h1'
                    have HN8 := Lib.hid (show Gm.dIt m BB = some (l ++ [⟨T2, V ^^^ ((X <<< R) % 18446744073709551616)⟩], ⟨T2, V ^^^ ((X <<< R) % 18446744073709551616), s2, L, R, BB.drop (at2 + 1 + 1 + z)⟩) from by rw [HNX.out, EQ.out, xO_ok h1', HZZ.out]; rfl)
                    have hsh := shl_word X R (by omega)
                    have hxo := u64_xor_nat V ((X <<< R) % 18446744073709551616) hVl (Nat.mod_lt _ (by decide))
                    have hRw : IntKind.u64.wrap ((R : Nat) : Int) = ((R : Nat) : Int) := by rw [IntKind.wrap_u64]; omega
                    obtain ⟨Y, hY⟩ : ∃ Y, (X <<< R) % 18446744073709551616 = Y := ⟨_, rfl⟩
                    rw [hY] at hsh hxo HN8
                    obtain ⟨V2, hV2⟩ : ∃ V2, V ^^^ Y = V2 := ⟨_, rfl⟩
                    rw [hV2] at hxo HN8
                    clear h1 h1' h2 h3 hY hV2 HM3
                    have HSRC := Lib.hid (two_cellsN w8 ⟨T2, V2⟩)
                    have HONE := Lib.hid (show ∀ u ∈ ([.int .i64 T2, .int .u64 ((V2 : Nat) : Int)] : List Value), u.oneCell' = true by simp [Value.oneCell'])
                    have HOW := Lib.hid (own_row HM8.out.own HLN.out)
                    go_wp2_with (at_builtin; refine wpList_append_own_at _ rfl (.tmp 150) (.tmp 154) 22 rfl q 70 i0 (.agg #[.int .i64 0, .int .u64 0]) 2 16 Tryd.underlying22 HI0.out.1 HI0.out.2.1 HI0.out.2.2.1 HI0.out.2.2.2 rfl (by decide) (.slice av m cv) m (smC l) rfl (HOW.out.alloc _) ⟨w8.heap.size, 0, none⟩ 1 1 [.int .i64 T2, .int .u64 ((V2 : Nat) : Int)] rfl rfl HSRC.out HONE.out (by have := HMM.out; unfold maxLen; omega) (by have := HMM.out; omega) (by have := HM8.out.sz; simp; omega) ?_; intro v9 w9 hown9 hgr9 _ _; have HM9 := Lib.hid (HM8.out.add (l' := l ++ [⟨T2, V2⟩]) (by unfold OwnS; rw [smC_snoc, List.length_append, HLN.out]; exact hown9) hgr9); clear hown9 hgr9)
                    obtain ⟨av9, cv9, rfl, _⟩ := HM9.out.own.shape
                    have hl9 : (l ++ [(⟨T2, V2⟩ : Smp)]).length = m + 1 := by rw [List.length_append, HLN.out]; rfl
                    rw [hl9] at HM9 ⊢
                    clear hl9 HSRC HONE HOW
                    go_wp2_with fail
                    go_roundw
                    case rel => exact ⟨m + 1, l ++ [⟨T2, V2⟩], ⟨T2, V2, s2, L, R, BB.drop (at2 + 1 + 1 + z)⟩, at2 + 1 + 1 + z, by omega, by omega, rfl, rfl, rfl, rfl, rfl, ⟨_, _, rfl⟩, Lib.hid ⟨by rw [Nat.add_sub_cancel]; exact HN8.out, rfl, hle9, HM9.out⟩⟩
                    case measure => simp [lenV]; omega
                · have EQ0 := Lib.hid (nO_new (d := ⟨T2, V, s2, L, R, BB.drop at2⟩) HB1.out HB2.out)
                  rw [show ((1 : Nat) : Int) = 1 from rfl]
                  clear hz1 hz2 hz3 hz4
                  go_wp2_with fail
                  refine (C5.out _ _ HM3.out.rf hle2).mono ?_
                  rintro e w7 (⟨h1, rfl, h2, h3⟩ | ⟨x5, h1, hx5, hle5, rfl, h2, h3⟩)
                  · have HM4 := Lib.hid (HM3.out.rd h2 h3)
                    have HE := Lib.hid (show Gm.nO ⟨T2, V, s2, L, R, BB.drop at2⟩ = none from by rw [EQ0.out, wO_e h1]; rfl)
                    clear h1 h2 h3 HM3
                    go_wp2_with fail
                    refine (C6.out _ _ HM4.out.rf hle2).mono ?_
                    rintro e w8 (⟨h1, rfl, h2, h3⟩ | ⟨x6, h1, hx6, hle6, rfl, h2, h3⟩)
                    · have HP := Lib.hid (HX.out w8 HE.out (HM4.out.rd h2 h3).bel)
                      clear h1 h2 h3
                      go_wp2_with fail
                      go_ret2
                      exact HP.out
                    · have HP := Lib.hid (HX.out w8 HE.out (HM4.out.rd h2 h3).bel)
                      have hcw : IntKind.i64.wrap (x6 : Int) = (x6 : Int) := by rw [i64_is]; unfold RowKit.wrap64; omega
                      clear h1 h2 h3
                      go_wp2_with fail
                      go_ret2
                      exact HP.out
                  · have HM4 := Lib.hid (HM3.out.rd h2 h3)
                    have HB5 := Lib.hid h1
                    have hcw : IntKind.i64.wrap (x5 : Int) = (x5 : Int) := by rw [i64_is]; unfold RowKit.wrap64; omega
                    clear h1 h2 h3 HM3
                    go_wp2_with fail
                    refine (C6.out _ _ HM4.out.rf hle5).mono ?_
                    rintro e w8 (⟨h1, rfl, h2, h3⟩ | ⟨x6, h1, hx6, hle6, rfl, h2, h3⟩)
                    · have HP := Lib.hid (HX.out w8 (by rw [EQ0.out, wO_e2 HB5.out h1]; rfl) (HM4.out.rd h2 h3).bel)
                      clear h1 h2 h3
                      go_wp2_with fail
                      go_ret2
                      exact HP.out
                    · have HM5 := Lib.hid (HM4.out.rd h2 h3)
                      have HB6 := Lib.hid h1
                      have hcw6 : IntKind.i64.wrap (x6 : Int) = (x6 : Int) := by rw [i64_is]; unfold RowKit.wrap64; omega
                      have hm1' : IntKind.i64.wrap ((63 : Int) - (x5 : Int)) = (63 : Int) - (x5 : Int) := by rw [i64_is]; unfold RowKit.wrap64; omega
                      clear h1 h2 h3 HM4
                      by_cases hfar : 63 < x5 + x6
                      · have hm2' : IntKind.i64.wrap ((63 : Int) - (x5 : Int) - (x6 : Int)) = (63 : Int) - (x5 : Int) - (x6 : Int) := by rw [i64_is]; unfold RowKit.wrap64; omega
                        have hneg : decide ((63 : Int) - (x5 : Int) - (x6 : Int) < 0) = true := decide_eq_true (by omega)
                        have HP := Lib.hid (HX.out w8 (by rw [EQ0.out, wO_far HB5.out HB6.out hfar]; rfl) HM5.out.bel)
                        go_wp2_with fail
                        go_ret2
                        exact HP.out
                      · obtain ⟨R2, hR2⟩ : ∃ R2, 63 - x5 - x6 = R2 := ⟨_, rfl⟩
                        have hm4' : (63 : Int) - (x5 : Int) - (x6 : Int) = (R2 : Int) := by omega
                        have hm2' : IntKind.i64.wrap ((63 : Int) - (x5 : Int) - (x6 : Int)) = (R2 : Int) := by rw [i64_is, hm4']; unfold RowKit.wrap64; omega
                        have hm3' : IntKind.i64.wrap (R2 : Int) = (R2 : Int) := by rw [i64_is]; unfold RowKit.wrap64; omega
                        have hneg : decide ((R2 : Int) < 0) = false := decide_eq_false (by omega)
                        have EQ := Lib.hid (show Gm.nO ⟨T2, V, s2, L, R, BB.drop at2⟩ = Gm.xO ⟨T2, V, s2, L, R, BB.drop at2⟩ (x5, R2, BB.drop (at2 + 1 + 1 + 5 + 6)) from by rw [EQ0.out, wO_ok HB5.out HB6.out hfar, hR2]; rfl)
                        obtain ⟨z2, hz2e⟩ : ∃ z2, 64 - x5 - R2 = z2 := ⟨_, rfl⟩
                        have HZ2 := Lib.hid hz2e
                        have hzl2 : z2 ≤ 64 := by omega
                        have hz1 : IntKind.i64.wrap ((64 : Int) - (x5 : Int)) = (64 : Int) - (x5 : Int) := by rw [i64_is]; unfold RowKit.wrap64; omega
                        have hz3 : (64 : Int) - (x5 : Int) - (R2 : Int) = (z2 : Int) := by omega
                        have hz2 : IntKind.i64.wrap ((64 : Int) - (x5 : Int) - (R2 : Int)) = (z2 : Int) := by rw [i64_is, hz3]; unfold RowKit.wrap64; omega
                        have hz4 : IntKind.i64.wrap (z2 : Int) = (z2 : Int) := by rw [i64_is]; unfold RowKit.wrap64; omega
                        have hR63 : R2 ≤ 63 := by omega
                        clear hR2 hz2e
                        go_wp2_with fail
                        refine (CX.out z2 hzl2 _ _ HM5.out.rf hle6).mono ?_
                        rintro e w8 (⟨h1, rfl, h2, h3⟩ | ⟨X, h1, hX, hle9, rfl, h2, h3⟩)
                        · rw [← HZ2.out] at h1
                          have HP := Lib.hid (HX.out w8 (by rw [EQ.out]; exact xO_e h1) (HM5.out.rd h2 h3).bel)
                          clear h1 h2 h3
                          go_wp2_with fail
                          go_ret2
                          exact HP.out
                        · have HM8 := Lib.hid (HM5.out.rd h2 h3)
                          have h1' := h1
                          rw [← HZ2.out] at h1'
                          have HN8 := Lib.hid (show Gm.dIt m BB = some (l ++ [⟨T2, V ^^^ ((X <<< R2) % 18446744073709551616)⟩], ⟨T2, V ^^^ ((X <<< R2) % 18446744073709551616), s2, x5, R2, BB.drop (at2 + 1 + 1 + 5 + 6 + z2)⟩) from by rw [HNX.out, EQ.out, xO_ok h1', HZ2.out]; rfl)
                          have hsh := shl_word X R2 (by omega)
                          have hxo := u64_xor_nat V ((X <<< R2) % 18446744073709551616) hVl (Nat.mod_lt _ (by decide))
                          have hRw : IntKind.u64.wrap ((R2 : Nat) : Int) = ((R2 : Nat) : Int) := by rw [IntKind.wrap_u64]; omega
                          obtain ⟨Y, hY⟩ : ∃ Y, (X <<< R2) % 18446744073709551616 = Y := ⟨_, rfl⟩
                          rw [hY] at hsh hxo HN8
                          obtain ⟨V2, hV2⟩ : ∃ V2, V ^^^ Y = V2 := ⟨_, rfl⟩
                          rw [hV2] at hxo HN8
                          clear h1 h1' h2 h3 hY hV2 HM5
                          have HSRC := Lib.hid (two_cellsN w8 ⟨T2, V2⟩)
                          have HONE := Lib.hid (show ∀ u ∈ ([.int .i64 T2, .int .u64 ((V2 : Nat) : Int)] : List Value), u.oneCell' = true by simp [Value.oneCell'])
                          have HOW := Lib.hid (own_row HM8.out.own HLN.out)
                          go_wp2_with (at_builtin; refine wpList_append_own_at _ rfl (.tmp 150) (.tmp 154) 22 rfl q 70 i0 (.agg #[.int .i64 0, .int .u64 0]) 2 16 Tryd.underlying22 HI0.out.1 HI0.out.2.1 HI0.out.2.2.1 HI0.out.2.2.2 rfl (by decide) (.slice av m cv) m (smC l) rfl (HOW.out.alloc _) ⟨w8.heap.size, 0, none⟩ 1 1 [.int .i64 T2, .int .u64 ((V2 : Nat) : Int)] rfl rfl HSRC.out HONE.out (by have := HMM.out; unfold maxLen; omega) (by have := HMM.out; omega) (by have := HM8.out.sz; simp; omega) ?_; intro v9 w9 hown9 hgr9 _ _; have HM9 := Lib.hid (HM8.out.add (l' := l ++ [⟨T2, V2⟩]) (by unfold OwnS; rw [smC_snoc, List.length_append, HLN.out]; exact hown9) hgr9); clear hown9 hgr9)
                          obtain ⟨av9, cv9, rfl, _⟩ := HM9.out.own.shape
                          have hl9 : (l ++ [(⟨T2, V2⟩ : Smp)]).length = m + 1 := by rw [List.length_append, HLN.out]; rfl
                          rw [hl9] at HM9 ⊢
                          clear hl9 HSRC HONE HOW
                          go_wp2_with fail
                          go_roundw
                          case rel => exact ⟨m + 1, l ++ [⟨T2, V2⟩], ⟨T2, V2, s2, x5, R2, BB.drop (at2 + 1 + 1 + 5 + 6 + z2)⟩, at2 + 1 + 1 + 5 + 6 + z2, by omega, by omega, rfl, rfl, rfl, rfl, rfl, ⟨_, _, rfl⟩, Lib.hid ⟨by rw [Nat.add_sub_cancel]; exact HN8.out, rfl, hle9, HM9.out⟩⟩
                          case measure => simp [lenV]; omega
        · have hx1 : ((x : Int) != 0) = true := by simp; omega
          have hx2 : ¬ (x : Int) = 0 := by omega
          have HP := Lib.hid (HX.out w4 (by unfold Gm.dNext Gm.tO; rw [if_neg hm3]; rw [show Gm.chO 4 (Dr.S ⟨T, V, st, L, R, BB.drop at_⟩) = none from h1]; rfl) (HM.out.rd h2 h3).bel)
          clear h1 h2 h3
          go_wp2_with fail
          go_ret2
          exact HP.out
    · obtain rfl : m = M := by omega
      have da : decide ((m : Int) < (m : Int)) = false := decide_eq_false (by omega)
      have da2 : decide (m < m) = false := decide_eq_false (by omega)
      have hSm : Sms wr av l := by
        obtain ⟨a5, c5, e5, hS5⟩ := HM.out.own.shape
        injection e5 with e5a _ _
        rw [e5a]
        exact hS5
      have CF := Lib.hid (fits_any av m cv l HLN.out (by omega) wr hSm)
      obtain ⟨fe, hfe⟩ : ∃ fe, fitE l = fe := ⟨_, rfl⟩
      rw [hfe] at CF
      have HFE := Lib.hid hfe
      have HSM := Lib.hid hSm
      have HIT := Lib.hid HI.out.1
      clear hfe hSm HI
      go_wp2_with fail
      refine CF.out.mono ?_
      rintro e w4 ⟨rfl, hb4⟩
      have HB4 := Lib.hid hb4
      have HBN := Lib.hid (HM.out.bel.trans (hb4.mono (by have := HM.out.bel.size; have := HNN.out; omega)))
      -- who is a chunk is this one
      have HNO := Lib.hid (show ∀ g, IsC g f t ((m : Nat) : Int) bs → g = l ∧ Gm.IsChk l ⟨f, t, m, bs⟩ ∧ OneC l from by
        rintro g ⟨G, hn9, C⟩
        have hl9 : m = g.length := by omega
        obtain ⟨d9, h9, _⟩ := (dc_iff f t g.length bs (by omega) (by omega) g).2 ⟨G, C⟩
        rw [HBB.out, ← hl9, HIT.out] at h9
        injection h9 with h9
        injection h9 with h9 _
        subst h9
        exact ⟨rfl, by rw [hl9]; exact C, G⟩)
      by_cases hz : fe = 0
      · subst hz
        rw [show ((0 : Nat) : Int) = 0 from rfl]
        have hOK : ∀ x ∈ l, Gm.OkS x := HIN.out.2
        have hll := HLN.out
        obtain ⟨b5, o5, hav, _, hc5⟩ := HSM.out (by intro e; rw [e] at hll; simp at hll; omega)
        have ho5 : o5 = 0 := by
          rcases HM.out.own.2 with ⟨hv, h0⟩ | ⟨gq, cq, cur, hv, _⟩
          · injection hv with e1 _ _; rw [hav] at e1; cases e1
          · injection hv with e1 _ _; rw [hav] at e1; injection e1 with e1; injection e1 with _ e1 _
        subst ho5
        subst hav
        have hSam : Sam w4 b5 l := fun i hi => ⟨cell_below (by have h := (hc5 i hi).1; rwa [Nat.zero_add] at h) hb4, cell_below (by have h := (hc5 i hi).2; rwa [Nat.zero_add] at h) hb4⟩
        have CC := Lib.hid (rchunk_any b5 m cv l hll (by omega) (by omega) hOK k0 p0 p1 p2 c c0 c1 c2 o9 oa oc od w4 hSam (HTW.out.below (by rw [HNN.out]; exact HBN.out)))
        obtain ⟨F0, hF0⟩ : ∃ F0, (l.getD 0 ⟨0, 0⟩).t = F0 := ⟨_, rfl⟩
        obtain ⟨T0, hT0⟩ : ∃ T0, (l.getD (m - 1) ⟨0, 0⟩).t = T0 := ⟨_, rfl⟩
        rw [hF0, hT0] at CC
        have HFT := Lib.hid (show (Gm.run l).frm = F0 ∧ (Gm.run l).last.t = T0 from ⟨by rw [run_frm1 l (by omega), ← hF0, getD_is l 0 (by omega)], by rw [run_last' l (m - 1) (by omega), ← hT0, getD_is l (m - 1) (by omega)]⟩)
        clear hOK hll hc5 hSam hF0 hT0 hb4 CF
        go_wp2_with fail
        refine CC.out.mono ?_
        rintro e w5 ⟨bs2, k2, a2, cap2, g2, hk2, hP2, rfl, hR2, hg2, hb5⟩
        unfold chV
        have hBy2 := (hR2.bys hP2.1).2
        have A5 := (Below.refl w5.heap.size w5).alloc (Nat.le_refl _) (.cells #[.int .i64 F0, .int .i64 T0, .int .i64 ((m : Nat) : Int), .slice a2 bs2.length cap2] 73)
        have r5 := heap_alloc_new w5 (.cells #[.int .i64 F0, .int .i64 T0, .int .i64 ((m : Nat) : Int), .slice a2 bs2.length cap2] 73)
        have HBW := Lib.hid (show Below n w (w5.alloc (.cells #[.int .i64 F0, .int .i64 T0, .int .i64 ((m : Nat) : Int), .slice a2 bs2.length cap2] 73)) from (HBN.out.trans (hb5.mono (by have := HBN.out.size; have := HNN.out; omega))).trans (A5.mono (by have := HBN.out.size; have := HNN.out; have := hb5.size; omega)))
        have hBX := HBW.out
        have hBysX : Bys (w5.alloc (.cells #[.int .i64 F0, .int .i64 T0, .int .i64 ((m : Nat) : Int), .slice a2 bs2.length cap2] 73)) a bs := HBY.out.below (by rw [HNN.out]; exact hBX)
        have HOUT := Lib.hid (show OwnS (w5.alloc (.cells #[.int .i64 F0, .int .i64 T0, .int .i64 ((m : Nat) : Int), .slice a2 bs2.length cap2] 73)) w.heap.size (.slice (some ⟨b5, 0, none⟩) m cv) l from by
          have h1 := ((HM.out.own.below HB4.out).below hb5).below A5
          refine ⟨h1.1, ?_⟩
          rcases h1.2 with h | ⟨gq, cq, cur, h2, h3, h4⟩
          · exact .inl h
          · exact .inr ⟨gq, cq, cur, h2, by have := HM.out.ne; have := HNN.out; omega, h4⟩)
        have HEQ := Lib.hid (show IsC l f t ((m : Nat) : Int) bs ↔ (F0 = f ∧ T0 = t ∧ bs2 = bs) from by
          constructor
          · intro h
            obtain ⟨_, ⟨c1', c2', c3', kk, hkk, hPP⟩, _⟩ := HNO.out l h
            simp only at c1' c2' hPP
            exact ⟨by rw [c1', HFT.out.1], by rw [c2', HFT.out.2], B2.Bt.packs_unique hP2 hPP hk2 hkk⟩
          · rintro ⟨rfl, rfl, rfl⟩
            obtain ⟨G, C⟩ := (dc_iff F0 T0 m bs2 HMM.out.1 HMM.out.2 l).1 ⟨_, by rw [HBB.out]; exact HIT.out, HFE.out, HFT.out.1, HFT.out.2, k2, hk2, hP2⟩
            have hll := HLN.out
            exact ⟨G, by rw [hll], by rw [hll]; exact C⟩)
        have cv1 := fun nn => conv_bys ((w5.alloc (.cells #[.int .i64 F0, .int .i64 T0, .int .i64 ((m : Nat) : Int), .slice a2 bs2.length cap2] 73)).drewN nn) a2 bs2 bs2.length cap2 rfl ((hBy2.below A5).below (drewn_below _ nn))
        have cv2 := fun nn => conv_bys ((w5.alloc (.cells #[.int .i64 F0, .int .i64 T0, .int .i64 ((m : Nat) : Int), .slice a2 bs2.length cap2] 73)).drewN nn) a bs bs.length cap rfl (hBysX.below (drewn_below _ nn))
        have he : ((strB bs2).toList == (strB bs).toList) = decide (bs2 = bs) := by
          rw [toList_eqb]
          exact decide_eq_decide.2 ⟨fun h => strB_inj bs2 bs hP2.1 HBY.out.2.1 h, fun h => by rw [h]⟩
        have HNOT := Lib.hid (show ∀ W, Below (w5.alloc (.cells #[.int .i64 F0, .int .i64 T0, .int .i64 ((m : Nat) : Int), .slice a2 bs2.length cap2] 73)).heap.size (w5.alloc (.cells #[.int .i64 F0, .int .i64 T0, .int .i64 ((m : Nat) : Int), .slice a2 bs2.length cap2] 73)) W → ¬ (F0 = f ∧ T0 = t ∧ bs2 = bs) → AlPost w f t ((m : Nat) : Int) bs (.returned (.tuple #[.slice (some ⟨b5, 0, none⟩) m cv, .bool false])) W from fun W hb hn9 => ⟨by rw [HNN.out]; exact HBW.out.trans (hb.mono (by have := HBW.out.size; have := HNN.out; omega)), .inr ⟨_, _, _, rfl, fun ⟨g, hg⟩ => hn9 (HEQ.out.1 (by have h := (HNO.out g hg).1; rw [h] at hg; exact hg))⟩⟩)
        have HYES := Lib.hid (show ∀ W, Below (w5.alloc (.cells #[.int .i64 F0, .int .i64 T0, .int .i64 ((m : Nat) : Int), .slice a2 bs2.length cap2] 73)).heap.size (w5.alloc (.cells #[.int .i64 F0, .int .i64 T0, .int .i64 ((m : Nat) : Int), .slice a2 bs2.length cap2] 73)) W → (F0 = f ∧ T0 = t ∧ bs2 = bs) → AlPost w f t ((m : Nat) : Int) bs (.returned (.tuple #[.slice (some ⟨b5, 0, none⟩) m cv, .bool true])) W from fun W hb h9 => ⟨by rw [HNN.out]; exact HBW.out.trans (hb.mono (by have := HBW.out.size; have := HNN.out; omega)), .inl ⟨l, _, rfl, HOUT.out.below hb, HEQ.out.2 h9⟩⟩)
        have hbox := (A5.block n (by have := HM.out.sz; have := HM.out.ne; have := HB4.out.size; have := hb5.size; omega)).trans ((hb5.block n (by have := HM.out.sz; have := HM.out.ne; have := HB4.out.size; omega)).trans ((HB4.out.block n (by have := HM.out.sz; have := HM.out.ne; omega)).trans HM.out.box))
        have hbox5 := ((hb5.block n (by have := HM.out.sz; have := HM.out.ne; have := HB4.out.size; omega)).trans ((HB4.out.block n (by have := HM.out.sz; have := HM.out.ne; omega)).trans HM.out.box))
        obtain ⟨y0, y1, y2, y3⟩ := four73 hbox
        obtain ⟨v0', v1', v2', v3'⟩ := four73 hbox5
        have hnl : n < w5.heap.size := (Array.getElem?_eq_some_iff.1 hbox5).1
        have hnn : n ≠ w5.heap.size := by omega
        have hnn2 : w5.heap.size ≠ n := by omega
        obtain ⟨x0, x1, x2, x3⟩ := four73 r5
        clear A5 r5 hBX hBysX hBy2 hbox hbox5 hP2 hk2 hR2 hg2 hb5 da da2 CC
        by_cases hf : F0 = f
        · have q1 : (F0 == f) = true := by simp [hf]
          by_cases ht : T0 = t
          · have q2 : (T0 == t) = true := by simp [ht]
            by_cases hb : bs2 = bs
            · have q3 : ((strB bs2).toList == (strB bs).toList) = true := by rw [he]; exact decide_eq_true hb
              have HP := Lib.hid (fun W h => HYES.out W h ⟨hf, ht, hb⟩)
              clear HYES HNOT he
              obtain ⟨s1, hs1⟩ : ∃ s1, strB bs2 = s1 := ⟨_, rfl⟩
              obtain ⟨s2, hs2⟩ : ∃ s2, strB bs = s2 := ⟨_, rfl⟩
              rw [hs1] at cv1 q3
              rw [hs2] at cv2 q3
              clear hs1 hs2 hf ht hb
              go_wp2_with fail
              go_quiet (fail)
              go_wp2_with fail
              go_ret2
              first | exact HP.out _ (Below.refl _ _) | exact HP.out _ (drewn_below _ _)
            · have q3 : ((strB bs2).toList == (strB bs).toList) = false := by rw [he]; exact decide_eq_false hb
              have HP := Lib.hid (fun W h => HNOT.out W h (fun h9 => hb h9.2.2))
              clear HYES HNOT he
              obtain ⟨s1, hs1⟩ : ∃ s1, strB bs2 = s1 := ⟨_, rfl⟩
              obtain ⟨s2, hs2⟩ : ∃ s2, strB bs = s2 := ⟨_, rfl⟩
              rw [hs1] at cv1 q3
              rw [hs2] at cv2 q3
              clear hs1 hs2 hf ht hb
              go_wp2_with fail
              go_quiet (fail)
              go_wp2_with fail
              go_ret2
              first | exact HP.out _ (Below.refl _ _) | exact HP.out _ (drewn_below _ _)
          · have q2 : (T0 == t) = false := by simp [ht]
            have HP := Lib.hid (fun W h => HNOT.out W h (fun h9 => ht h9.2.1))
            clear HYES HNOT he hf ht
            go_wp2_with fail
            go_quiet (fail)
            go_wp2_with fail
            go_ret2
            first | exact HP.out _ (Below.refl _ _) | exact HP.out _ (drewn_below _ _)
        · have q1 : (F0 == f) = false := by simp [hf]
          have HP := Lib.hid (fun W h => HNOT.out W h (fun h9 => hf h9.1))
          clear HYES HNOT he hf
          go_wp2_with fail
          go_quiet (fail)
          go_wp2_with fail
          go_ret2
          first | exact HP.out _ (Below.refl _ _) | exact HP.out _ (drewn_below _ _)
      · have hx1 : ((fe : Int) != 0) = true := by simp; omega
        have hx2 : ¬ (fe : Int) = 0 := by omega
        have HP := Lib.hid (show AlPost w f t ((m : Nat) : Int) bs (.returned (.tuple #[.slice none 0 0, .bool false])) w4 from ⟨by rw [HNN.out]; exact HBN.out, .inr ⟨_, _, _, rfl, fun ⟨g, hg⟩ => by
          obtain ⟨_, C, G⟩ := HNO.out g hg
          obtain ⟨d9, _, h2, _⟩ := (dc_iff f t m bs HMM.out.1 HMM.out.2 l).2 ⟨G, C⟩
          rw [HFE.out] at h2
          exact hz h2⟩⟩)
        clear hb4 CF
        go_wp2_with fail
        go_ret2
        exact HP.out
end Go.Proofs.YtdlifcpdlbmijaaDoor
namespace Go.Proofs.YtdlifcpdlbmijaaDoor
set_option linter.unusedVariables false
set_option linter.unusedSimpArgs false
open Go.RowKit Go.PlainAid Go.Shelf
open B2 (Only Bys Row cellsOf owns_only)
open Gm (St Smp Chk)
set_option maxRecDepth 100000 in
set_option maxHeartbeats 2000000 in
theorem decode_any (a : Option Addr) (n c : Nat) (l : List Smp) (cs : List Chk) (hn : cs.length = n) (R : Gm.Rising l) (E : Gm.Enc l cs) (w : World) (H : Chs w a cs) (hT : TabAt w) :
    Calls Tryd.prog 24 #[.slice a n c] w fun e w' => ∃ v, e = .returned (.tuple #[v, .int .u16 0]) ∧ OwnS w' w.heap.size v l ∧ Below w.heap.size w w' := by
  have hz : n ≤ 1000 := by rw [← hn, E.len]; have := R.len; unfold Gm.cnt; omega
  have C0 := Lib.hid (contains_good a n c cs hn (by omega) (goods_enc R E) w H hT)
  have HL := Lib.hid (And.intro H (And.intro hn (And.intro R (And.intro E hT))))
  clear H hn R E hT
  go_enter Tryd.func24, Tryd.ntmps24
  go_wp2_with (go_at_call 77; refine C0.out.mono ?_; rintro e w1 ⟨rfl, hb1⟩; have HB1 := Lib.hid hb1; clear hb1)
  go_loopw [4] (fun i wr => ∃ k : Nat, 1 ≤ k ∧ k ≤ n + 1 ∧ i = .int .i64 (k : Nat) ∧ Hid (Below w.heap.size w wr)) (fun i _ => n + 1 - (intOf i).toNat)
  case atStart => exact ⟨1, by omega, by omega, by simp, HB1⟩
  case round =>
    obtain ⟨k, hk1, hk2, rfl, HB⟩ := hrel
    by_cases hlt : k < n
    · have da : decide ((k : Int) < (n : Int)) = true := decide_eq_true (by omega)
      have da2 : decide (k < n) = true := decide_eq_true hlt
      obtain ⟨q, rfl⟩ : ∃ q, k = q + 1 := ⟨k - 1, by omega⟩
      have hkl : q + 1 < cs.length := by rw [HL.out.2.1]; exact hlt
      have hbd : Below w.heap.size w wr.drew := HB.out.trans ((drew_below wr).mono HB.out.size)
      obtain ⟨b1, o1, rfl, hl1, hc1⟩ := (HL.out.1.below hbd) (by intro e; rw [e] at hkl; simp at hkl)
      have p1 := (hc1 (q + 1) hkl).1
      have p2 := (hc1 q (by omega)).2.1
      have hup := enc_up HL.out.2.2.1 HL.out.2.2.2.1 q hkl
      obtain ⟨T1, hT1⟩ : ∃ T1, cs[q + 1].frm = T1 := ⟨_, rfl⟩
      obtain ⟨T0, hT0⟩ : ∃ T0, cs[q].to = T0 := ⟨_, rfl⟩
      rw [hT1] at p1 hup
      rw [hT0] at p2 hup
      have dl : decide (T1 ≤ T0) = false := decide_eq_false (by omega)
      have hsub : ((q + 1 : Nat) : Int) - 1 = (q : Int) := by omega
      obtain ⟨k, hk⟩ : ∃ k, q + 1 = k := ⟨_, rfl⟩
      rw [hk] at p1 hsub da da2 hk1 hk2 hlt ⊢
      have HBD := Lib.hid hbd
      have hq0 : (0 : Int) ≤ (q : Int) := by omega
      have hqn : (q : Int) < (n : Int) := by omega
      clear hc1 hT1 hT0 hkl hbd hk hup
      go_wp2_with fail
      go_region
      all_goals go_wp2_with fail
      all_goals exact ⟨⟨k + 1, by omega, by omega, by simp, HBD⟩, by simp [intOf]; omega⟩
    · have da : decide ((k : Int) < (n : Int)) = false := decide_eq_false (by omega)
      have da2 : decide (k < n) = false := decide_eq_false hlt
      have HB0 := HB
      clear hk1 hk2 hlt
      go_wp2_with fail
      go_loopw [5, 30] (fun v i w2 => ∃ k : Nat, k ≤ n ∧ i = .int .i64 (k : Nat) ∧ Hid (OwnS w2 w.heap.size v (l.take (120 * k)) ∧ Below w.heap.size w w2)) (fun _ i _ => n - (intOf i).toNat)
      case atStart => exact ⟨0, Nat.zero_le _, rfl, Lib.hid ⟨by simpa [OwnS, smC] using World.ownsRow_nil wr w.heap.size 70 2, HB0.out⟩⟩
      case round =>
        clear HB HB0 da da2
        obtain ⟨k, hk, rfl, HI⟩ := hrel
        by_cases hlt : k < n
        · have da : decide ((k : Int) < (n : Int)) = true := decide_eq_true (by omega)
          have da2 : decide (k < n) = true := decide_eq_true hlt
          have hkl : k < cs.length := by rw [HL.out.2.1]; exact hlt
          obtain ⟨b1, o1, rfl, hl1, hc1⟩ := (HL.out.1.below HI.out.2) (by intro e; rw [e] at hkl; simp at hkl)
          obtain ⟨p1, p2, p3, ad, cp, p4, hB⟩ := hc1 k hkl
          have hg2 := HL.out.2.2.2.1.each k hkl
          have hg1 := one_grp HL.out.2.2.1 k (by rw [← HL.out.2.2.2.1.len]; exact hkl)
          generalize cs[k] = x at *
          have A1 := (Below.refl wr.heap.size wr).alloc (Nat.le_refl _) (.cells #[.int .i64 x.frm, .int .i64 x.to, .int .i64 ((x.n : Nat) : Int), .slice ad x.bs.length cp] 73)
          have r1 := heap_alloc_new wr (.cells #[.int .i64 x.frm, .int .i64 x.to, .int .i64 ((x.n : Nat) : Int), .slice ad x.bs.length cp] 73)
          have y0 : (wr.alloc (.cells #[.int .i64 x.frm, .int .i64 x.to, .int .i64 ((x.n : Nat) : Int), .slice ad x.bs.length cp] 73)).cell? ⟨wr.heap.size, 0, none⟩ = some (.int .i64 x.frm) := (cell_of_row _ _ 0 _ _ _ r1).trans rfl
          have y1 : (wr.alloc (.cells #[.int .i64 x.frm, .int .i64 x.to, .int .i64 ((x.n : Nat) : Int), .slice ad x.bs.length cp] 73)).cell? ⟨wr.heap.size, 1, none⟩ = some (.int .i64 x.to) := (cell_of_row _ _ 1 _ _ _ r1).trans rfl
          have y2 : (wr.alloc (.cells #[.int .i64 x.frm, .int .i64 x.to, .int .i64 ((x.n : Nat) : Int), .slice ad x.bs.length cp] 73)).cell? ⟨wr.heap.size, 2, none⟩ = some (.int .i64 ((x.n : Nat) : Int)) := (cell_of_row _ _ 2 _ _ _ r1).trans rfl
          have y3 : (wr.alloc (.cells #[.int .i64 x.frm, .int .i64 x.to, .int .i64 ((x.n : Nat) : Int), .slice ad x.bs.length cp] 73)).cell? ⟨wr.heap.size, 3, none⟩ = some (.slice ad x.bs.length cp) := (cell_of_row _ _ 3 _ _ _ r1).trans rfl
          have C6 := Lib.hid ((callsIn_wide (n := 8)).1 (readseq_in Fence.wide 8 trivial rfl x.frm x.to (x.n : Nat) (.slice ad x.bs.length cp) (wr.alloc (.cells #[.int .i64 x.frm, .int .i64 x.to, .int .i64 ((x.n : Nat) : Int), .slice ad x.bs.length cp] 73))))
          have A2 := A1.alloc (by simp) (.cells (chR x.frm x.to (x.n : Nat) (.slice ad x.bs.length cp)) 73)
          have r2 := heap_alloc_new (wr.alloc (.cells #[.int .i64 x.frm, .int .i64 x.to, .int .i64 ((x.n : Nat) : Int), .slice ad x.bs.length cp] 73)) (.cells (chR x.frm x.to (x.n : Nat) (.slice ad x.bs.length cp)) 73)
          have sz1 : (wr.alloc (.cells #[.int .i64 x.frm, .int .i64 x.to, .int .i64 ((x.n : Nat) : Int), .slice ad x.bs.length cp] 73)).heap.size = wr.heap.size + 1 := by simp
          rw [sz1] at r2 C6
          have hws := HI.out.2.size
          have C7 := Lib.hid (dec_seq x _ ad cp w.heap.size (Gm.grp l k) (l.take (120 * k)) hg1 hg2 (by have := HL.out.2.2.1.len; simp; omega) _ r2 (hB.below A2) _ (HI.out.1.below A2) (by have := A2.size; omega))
          rw [take_grp] at C7
          have HA2 := Lib.hid (HI.out.2.trans (A2.mono hws))
          clear A1 r1 A2 r2 hws hB hg1 hg2 hc1 hl1 sz1
          unfold chR pt at C6 C7
          unfold chR at HA2
          go_wp2_with (first
            | (go_at_call 64; refine C6.out.mono ?_; rintro e w5 ⟨rfl, rfl⟩)
            | (go_at_call 79; refine C7.out.mono ?_; rintro e w6 ⟨v6, rfl, hO6, hb6⟩; have HN6 := Lib.hid (And.intro hO6 (HA2.out.trans hb6)); clear hO6 hb6))
          exact ⟨⟨k + 1, by omega, by simp, HN6⟩, by simp [intOf]; omega⟩
        · obtain rfl : k = n := by omega
          have da : decide ((k : Int) < (k : Int)) = false := by simp
          have da2 : decide (k < k) = false := by simp
          have HF := Lib.hid (show l.take (120 * k) = l from List.take_of_length_le (by have h := HL.out.2.2.2.1.len; rw [HL.out.2.1] at h; unfold Gm.cnt at h; omega))
          rw [HF.out] at HI
          go_wp2_with fail
          exact bodyPost_ret (results_tmp2 rfl _ _ _) rfl ⟨_, rfl, HI.out⟩
end Go.Proofs.YtdlifcpdlbmijaaDoor
namespace Go.Proofs.YtdlifcpdlbmijaaDoor
set_option linter.unusedVariables false
set_option linter.unusedSimpArgs false
open Go.RowKit Go.PlainAid Go.Shelf
open B2 (Only Bys Row cellsOf owns_only cellsOf_length cellsOf_one)
open Gm (St Smp Chk)
set_option maxHeartbeats 2000000 in
set_option maxRecDepth 100000 in
theorem bclone_any (ad : Addr) (bs : List Nat) (cap : Nat) (w : World) (H : Bys w (some ad) bs) (hbd : bs.length ≤ 1000000) :
    Calls Tryd.prog 97 #[.slice (some ad) bs.length cap] w fun e w' => ∃ a cap', e = .returned (.slice a bs.length cap') ∧ Bys w' a bs ∧ (∀ b off, a = some ⟨b, off, none⟩ → w.heap.size ≤ b) ∧ Below w.heap.size w w' := by
  obtain ⟨i0, hi, hz0, hz1, hz2⟩ := info_parts B2.info5
  have A1 := Lib.hid H
  have h8 := H.2.1
  have HN := Lib.hid h8
  have hbx := heap_alloc_new w (.cells #[] 5)
  have hA := (Below.refl w.heap.size w).alloc (Nat.le_refl _) (.cells #[] 5)
  have HOW := Lib.hid (show (w.alloc (.cells #[] 5)).ownsRow w.heap.size 5 1 (.slice (some ⟨w.heap.size, 0, none⟩) 0 0) 0 [] from ⟨by simp, .inr ⟨w.heap.size, 0, #[], rfl, Nat.le_refl _, hbx, Nat.le_refl _, by unfold maxLen; omega, by simp, by simp⟩⟩)
  have HCL := Lib.hid (H.below hA)
  have HA := Lib.hid hA
  have hnil := Lib.run_eql_slice_nil (P := Tryd.prog) w 71 5 (some ad) bs.length cap 0 0 Tryd.underlying71
  simp only [Option.isNone_some] at hnil
  clear H h8 hbx hA
  go_enter Tryd.func97, Tryd.ntmps97
  go_wp2_with (at_builtin; refine wpList_append_own_at _ rfl (.tmp 5) (.tmp 6) 71 rfl w.heap.size 5 i0 (.int .u8 0) 1 1 Tryd.underlying71 hi hz0 hz1 hz2 rfl (by decide) (.slice (some ⟨w.heap.size, 0, none⟩) 0 0) 0 [] rfl HOW.out ad bs.length cap (cellsOf bs) rfl (by rw [cellsOf_length]; omega) (HCL.out.cells) (cellsOf_one bs) (by unfold maxLen; omega) (by omega) (by simp) ?_; intro v2 w2 hown2 hgr2 _ _; have HO2 := Lib.hid hown2; have HG2 := Lib.hid hgr2; clear hown2 hgr2)
  have hown := HO2.out
  rw [Nat.zero_add, List.nil_append] at hown
  have hbel : Below w.heap.size w w2 := HA.out.grown HG2.out (by simp) (fun k hk => by
    have hk2 : w.heap.size = k := by injection hk
    omega)
  obtain ⟨a2, cap2, rfl⟩ : ∃ a2 cap2, v2 = .slice a2 bs.length cap2 := by
    rcases hown.2 with ⟨h, h0⟩ | ⟨g, cap, cur, h, _⟩
    · rw [h, h0]; exact ⟨_, _, rfl⟩
    · exact ⟨_, _, h⟩
  have hrow : ∃ g, Row w2 g (.slice a2 bs.length cap2) bs := by
    have h0 : w2.ownsRow 0 5 1 (.slice a2 bs.length cap2) bs.length (cellsOf bs) := by
      refine ⟨hown.1, ?_⟩
      rcases hown.2 with h | ⟨g, cap, cur, h, _, h2⟩
      · exact .inl h
      · exact .inr ⟨g, cap, cur, h, Nat.zero_le _, h2⟩
    cases h : (Value.slice a2 bs.length cap2).ownBlock with
    | none => exact ⟨0, h0, .inl h⟩
    | some g => exact ⟨g, h0, .inr h⟩
  obtain ⟨g, hr⟩ := hrow
  have hfar : ∀ b off, a2 = some ⟨b, off, none⟩ → w.heap.size ≤ b := fun b off e => by
    rcases hown.2 with ⟨h, _⟩ | ⟨g, cap, cur, h, hg, _⟩
    · rw [e] at h; cases h
    · rw [e] at h
      injection h with h
      injection h with h
      injection h with h
      rw [h]
      exact hg
  exact bodyPost_ret (results_tmp rfl _ _ _) rfl ⟨a2, cap2, rfl, (B2.Row.bys hr HN.out).2, hfar, hbel⟩
set_option maxHeartbeats 2000000 in
set_option maxRecDepth 100000 in
/-- All of a part's chunk: what its iterator needs -/
theorem allof_any (g : List Smp) (c : Chk) (G : OneC g) (C : Gm.IsChk g c) (a : Option Addr) (cap : Nat) (w : World) (H : Bys w a c.bs) (hT : TabAt w) :
    Calls Tryd.prog 66 #[.agg (chR c.frm c.to c.n (.slice a c.bs.length cap))] w fun e w' => ∃ b a' cap', e = .returned (.func (.func 93) #[] #[pt b]) ∧ w'.heap[b]? = some (.cells (chR c.frm c.to c.n (.slice a' c.bs.length cap')) 73 (0, 0)) ∧ Bys w' a' c.bs ∧ Below w.heap.size w w' := by
  have hne := one_ne G C
  obtain ⟨b0, off, rfl, _⟩ := H.2.2 hne
  obtain ⟨n, hn⟩ : ∃ n, w.heap.size = n := ⟨_, rfl⟩
  have A1 := (Below.refl w.heap.size w).alloc (Nat.le_refl _) (.cells (chR c.frm c.to c.n (.slice (some ⟨b0, off, none⟩) c.bs.length cap)) 73)
  have r1 := heap_alloc_new w (.cells (chR c.frm c.to c.n (.slice (some ⟨b0, off, none⟩) c.bs.length cap)) 73)
  have CC := Lib.hid (check_good g c G C _ cap _ (H.below A1) (hT.below A1 hT.lt))
  have CB := Lib.hid (fun W (h : Bys W (some ⟨b0, off, none⟩) c.bs) => bclone_any ⟨b0, off, none⟩ c.bs cap W h (one_bs G C))
  have HB := Lib.hid (H.below A1)
  have hs1 : (w.alloc (.cells (chR c.frm c.to c.n (.slice (some ⟨b0, off, none⟩) c.bs.length cap)) 73)).heap.size = n + 1 := by simp [hn]
  rw [hn] at r1 A1
  have HA := Lib.hid (And.intro A1 (And.intro r1 hs1))
  obtain ⟨y0, y1, y2, y3⟩ := four73 r1
  clear A1 r1 H hT hne hs1
  unfold chR at *
  go_enter Tryd.func66, Tryd.ntmps66
  go_wp2_with (go_at_call 17; refine CC.out.mono ?_; rintro e w1 ⟨rfl, hb1⟩; have hr1 := (hb1.block n (by rw [HA.out.2.2]; omega)).trans HA.out.2.1; have z3 : w1.cell? ⟨n, 3, none⟩ = some (.slice (some ⟨b0, off, none⟩) c.bs.length cap) := (cell_of_row _ _ 3 _ _ _ hr1).trans rfl; have C2 := Lib.hid (CB.out w1 (HB.out.below hb1)); have HR1 := Lib.hid (And.intro hr1 hb1); clear hr1 hb1)
  refine C2.out.mono ?_
  rintro e w2 ⟨a2, cap2, rfl, hB2, hfar, hb2⟩
  have hn1 : n < w1.heap.size := (Array.getElem?_eq_some_iff.1 HR1.out.1).1
  have hr2 := (hb2.block n hn1).trans HR1.out.1
  have f3 : w2.frozen? ⟨n, 3, none⟩ = false := frozen_of_row _ _ _ _ _ hr2
  have u3 : w2.cell? ⟨n, 3, none⟩ = some (.slice (some ⟨b0, off, none⟩) c.bs.length cap) := (cell_of_row _ _ 3 _ _ _ hr2).trans rfl
  have hr3 : (w2.setCell ⟨n, 3, none⟩ (.slice a2 c.bs.length cap2)).heap[n]? = some (.cells (chR c.frm c.to c.n (.slice a2 c.bs.length cap2)) 73 (0, 0)) := by
    rw [heap_setCell_same _ _ _ _ _ _ hr2]
    rfl
  obtain ⟨t0, t1, t2, t3⟩ := four73 hr3
  have hbn : Below n w (w2.setCell ⟨n, 3, none⟩ (.slice a2 c.bs.length cap2)) := ((HA.out.1.trans (HR1.out.2.mono (by rw [HA.out.2.2]; omega))).trans (hb2.mono (by omega))).setCell (p := ⟨n, 3, none⟩) (Nat.le_refl _) _
  have C6 := Lib.hid ((callsIn_wide (n := 8)).1 (readseq_in Fence.wide 8 trivial rfl c.frm c.to (c.n : Nat) (.slice a2 c.bs.length cap2) (w2.setCell ⟨n, 3, none⟩ (.slice a2 c.bs.length cap2))))
  have hBy3 : Bys (w2.setCell ⟨n, 3, none⟩ (.slice a2 c.bs.length cap2)) a2 c.bs := by
    refine ⟨hB2.1, hB2.2.1, fun h => ?_⟩
    obtain ⟨b4, o4, e4, hl4, hc4⟩ := hB2.2.2 h
    have hne4 : b4 ≠ n := by have := hfar b4 o4 e4; omega
    exact ⟨b4, o4, e4, by simpa [World.setCell] using hl4, fun i hi => (World.cell?_of_block (w := w2) (a := ⟨b4, o4 + i, none⟩) (Below.heap_setCell _ _ _ b4 hne4)).trans (hc4 i hi)⟩
  have HX := Lib.hid (And.intro hBy3 hbn)
  clear hBy3 hbn hB2 hb2 hr2 C2 hfar
  unfold chR pt at C6
  have hsz : (w2.setCell ⟨n, 3, none⟩ (.slice a2 c.bs.length cap2)).heap.size = w2.heap.size := by simp [World.setCell]
  rw [hsz] at C6
  go_wp2_with (go_at_call 64; refine C6.out.mono ?_; rintro e w5 ⟨rfl, rfl⟩)
  have hA5 := (Below.refl (w2.setCell ⟨n, 3, none⟩ (.slice a2 c.bs.length cap2)).heap.size (w2.setCell ⟨n, 3, none⟩ (.slice a2 c.bs.length cap2))).alloc (Nat.le_refl _) (.cells #[.int .i64 c.frm, .int .i64 c.to, .int .i64 ((c.n : Nat) : Int), .slice a2 c.bs.length cap2] 73)
  have hr5 := heap_alloc_new (w2.setCell ⟨n, 3, none⟩ (.slice a2 c.bs.length cap2)) (.cells #[.int .i64 c.frm, .int .i64 c.to, .int .i64 ((c.n : Nat) : Int), .slice a2 c.bs.length cap2] 73)
  rw [hsz] at hr5
  exact bodyPost_ret (results_tmp rfl _ _ _) rfl ⟨w2.heap.size, a2, cap2, rfl, hr5, HX.out.1.below hA5, by rw [hn]; exact HX.out.2.trans (hA5.mono HX.out.2.size |>.mono (by have := HX.out.2.size; omega))⟩
end Go.Proofs.YtdlifcpdlbmijaaDoor
namespace Go.Proofs.YtdlifcpdlbmijaaDoor
set_option linter.unusedVariables false
set_option linter.unusedSimpArgs false
open Go.RowKit Go.PlainAid Go.Shelf
open B2 (Only Bys Row cellsOf owns_only)
open Gm (St Smp Chk)
attribute [local go_sem] Oper.semAt_some
set_option maxRecDepth 100000 in
set_option maxHeartbeats 8000000 in
theorem all_any (gg : List Smp) (c : Chk) (G : OneC gg) (C : Gm.IsChk gg c) (a : Option Addr) (cap : Nat) (w : World) (H : Bys w a c.bs) (hT : TabAt w) :
    Calls Tryd.prog 18 #[.agg (chR c.frm c.to c.n (.slice a c.bs.length cap)), .int .i64 (-1)] w fun e w' => ∃ v', e = .returned v' ∧ OwnS w' w.heap.size v' gg ∧ Below w.heap.size w w' := by
  obtain ⟨m, hm⟩ : ∃ m, w.heap.size = m := ⟨_, rfl⟩
  obtain ⟨hs1, hs2, hs3⟩ := one_says G C
  have A1 := (Below.refl w.heap.size w).alloc (Nat.le_refl _) (.cells (chR c.frm c.to c.n (.slice a c.bs.length cap)) 73)
  have r1 := heap_alloc_new w (.cells (chR c.frm c.to c.n (.slice a c.bs.length cap)) 73)
  have z1 : (w.alloc (.cells (chR c.frm c.to c.n (.slice a c.bs.length cap)) 73)).heap.size = m + 1 := by simp [hm]
  have A2 := A1.alloc (by rw [z1, hm]; omega) (.cells #[.int .i64 (-1)] 3)
  have r2 := heap_alloc_new (w.alloc (.cells (chR c.frm c.to c.n (.slice a c.bs.length cap)) 73)) (.cells #[.int .i64 (-1)] 3)
  have z2 : ((w.alloc (.cells (chR c.frm c.to c.n (.slice a c.bs.length cap)) 73)).alloc (.cells #[.int .i64 (-1)] 3)).heap.size = m + 2 := by simp [hm]
  have A3 := A2.alloc (by rw [z2, hm]; omega) (.cells #[.slice none 0 0] 22)
  have r3 := heap_alloc_new ((w.alloc (.cells (chR c.frm c.to c.n (.slice a c.bs.length cap)) 73)).alloc (.cells #[.int .i64 (-1)] 3)) (.cells #[.slice none 0 0] 22)
  have z3 : (((w.alloc (.cells (chR c.frm c.to c.n (.slice a c.bs.length cap)) 73)).alloc (.cells #[.int .i64 (-1)] 3)).alloc (.cells #[.slice none 0 0] 22)).heap.size = m + 3 := by simp [hm]
  rw [hm] at r1
  rw [z1] at r2
  rw [z2] at r3
  have r1 := (Below.heap_alloc _ (.cells #[.slice none 0 0] 22) m (by rw [z2]; omega)).trans ((Below.heap_alloc _ (.cells #[.int .i64 (-1)] 3) m (by rw [z1]; omega)).trans r1)
  have r2 := (Below.heap_alloc _ (.cells #[.slice none 0 0] 22) (m + 1) (by rw [z2]; omega)).trans r2
  obtain ⟨y0, y1, y2, y3⟩ := four73 r1
  have CA := Lib.hid (allof_any gg c G C a cap _ (H.below A3) (hT.below A3 hT.lt))
  have HA := Lib.hid (And.intro A3 (And.intro r2 (And.intro r3 z3)))
  have HS := Lib.hid (And.intro hs1 (And.intro hs2 (And.intro G C)))
  clear A1 A2 A3 r1 r2 r3 z1 z2 z3 H hT hs1 hs2 hs3 G C
  unfold chR at *
  refine (callsIn_wide (n := 8)).1 ?_
  refine callsIn_of_wp_marks Tryd.func18 rfl trivial ?_ rfl
  simp only [Tryd.ntmps18, List.size_toArray, List.length_cons, List.length_nil, Nat.reduceAdd, Nat.reduceSub, Array.replicate_succ, Array.replicate_zero, List.push_toArray, List.append_toArray, List.nil_append, List.cons_append]
  gi_wp2_with (refine ⟨trivial, ?_⟩; gi_at_call 66; refine (callsIn_wide.2 CA.out).mono ?_; rintro e W2 ⟨b, a2, cap2, rfl, hb, hB, hbl⟩)
  have hbl' := hbl
  rw [HA.out.2.2.2] at hbl
  have hq := hbl.size
  have hr1 := (hbl.block (m + 1) (by omega)).trans HA.out.2.1
  have hr2 := (hbl.block (m + 2) (by omega)).trans HA.out.2.2.1
  have hw2 : Below m w W2 := (hm ▸ HA.out.1).trans (hbl.mono (by omega))
  have hne := one_ne HS.out.2.2.1 HS.out.2.2.2
  have ha2 : a2 ≠ none := by
    obtain ⟨b4, off, e, _⟩ := hB.2.2 hne
    rw [e]
    simp
  have hlen := HS.out.2.2.1.len
  have HSQ := Lib.hid (read_stops 7 (by omega) b cap2 c.n a2 c.frm c.to c.bs (fun h => absurd h ha2) (by have := one_bs HS.out.2.2.1 HS.out.2.2.2; omega) (by rw [HS.out.1]; omega) W2 hb hB)
  rw [HS.out.2.1] at HSQ
  obtain ⟨B, hBB⟩ : ∃ B, W2.heap.size = B := ⟨_, rfl⟩
  have hz2 : W2.heap.size = m + 3 → False ∨ True := fun _ => .inr trivial
  have HQ := Lib.hid (And.intro hr1 (And.intro hr2 (And.intro hw2 (And.intro hBB (show m + 3 ≤ B by rw [← hBB, ← HA.out.2.2.2]; have := hbl'.size; exact this)))))
  clear hbl hbl' hq hr1 hr2 hw2 hne ha2 hlen hb hB hBB hz2 CA y0 y1 y2 y3
  unfold pt at *
  refine wpIn_rangeFunc_ownT rfl (by omega) (gf := 93) (lb := #[.pointer (some ⟨b, 0, none⟩)]) rfl trivial (enters_of Tryd.func93 (by kernel_rfl) rfl) HSQ.out (Below.refl _ _) (fun _ => rfl)
    (fun T pre W => ApI w m (m + 2) B [] T pre W ∧ W.heap[m + 1]? = some (.cells #[.int .i64 (-1)] 3 (0, 0))) (fun _ _ _ _ => False)
    (fun T pre A B' h ho => ⟨h.1.only ho, (ho.block (m + 1) (Array.getElem?_eq_some_iff.1 h.2).1 (fun hk => by have := h.1.t _ hk; have := h.1.lt; omega)).trans h.2⟩) (fun c T pre A B h ho => h) ?start ?round ?done ?stop
  case start =>
    intro T W hb hT
    have hb' := hb
    rw [HQ.out.2.2.2.1] at hT hb
    have hs2 := hb.size
    have hs3 := HQ.out.2.2.2.1
    have hs4 := HQ.out.2.2.2.2
    exact ⟨⟨fun k hk => hT k hk, ⟨.slice none 0 0, (hb.block (m + 2) (by omega)).trans HQ.out.2.1, by simpa [OwnS, smC] using World.ownsRow_nil W m 70 2, fun g hg => by cases hg⟩, ⟨by omega, by omega, by have := hb'.size; omega, by omega⟩, HQ.out.2.2.1.trans (hb'.mono (by omega))⟩, (hb.block (m + 1) (by omega)).trans HQ.out.1⟩
  case round =>
    intro l T pre x W hI hSp
    have hs0 : 1 ≤ 8 - 1 - 1 := by decide
    have hpl : pre.length ≤ 100000 := by have := hSp.length_le; simp at this; have := HS.out.2.2.1.len; omega
    have HX := Lib.hid (And.intro hI hpl)
    clear hI hpl hSp
    unfold smV
    gi_wp2
    refine ⟨kept_below (fun k hk => (HX.out.1.1.t k hk).2) ((Below.refl W.heap.size W).alloc (Nat.le_refl _) _), fun W6 ho => ?_⟩
    have hAl := (Below.refl W.heap.size W).alloc (Nat.le_refl _) (.cells #[.int .i64 x.t, .int .u64 ((x.v : Nat) : Int)] 70)
    have hbx := heap_alloc_new W (.cells #[.int .i64 x.t, .int .u64 ((x.v : Nat) : Int)] 70)
    have hI6 := (HX.out.1.1.below hAl).only ho
    have hm6 : W6.heap[m + 1]? = some (.cells #[.int .i64 (-1)] 3 (0, 0)) := (ho.block (m + 1) (by have h := (Array.getElem?_eq_some_iff.1 HX.out.1.2).1; simp; omega) (fun hk => by have := HX.out.1.1.t _ hk; have := HX.out.1.1.lt; omega)).trans ((hAl.block _ (Array.getElem?_eq_some_iff.1 HX.out.1.2).1).trans HX.out.1.2)
    have km : W6.cell? ⟨m + 1, 0, none⟩ = some (.int .i64 (-1)) := (cell_of_row _ _ 0 _ _ _ hm6).trans rfl
    have HM6 := Lib.hid hm6
    have hbx6 := (ho.block W.heap.size (by simp) (fun hm => by have := (HX.out.1.1.t _ hm).2; omega)).trans hbx
    have k0 : W6.cell? ⟨W.heap.size, 0, none⟩ = some (.int .i64 x.t) := (cell_of_row _ _ 0 _ _ _ hbx6).trans rfl
    have k1 : W6.cell? ⟨W.heap.size, 1, none⟩ = some (.int .u64 ((x.v : Nat) : Int)) := (cell_of_row _ _ 1 _ _ _ hbx6).trans rfl
    have HI6 := Lib.hid hI6
    obtain ⟨v6, hv6, ho6, hT6⟩ := hI6.v
    obtain ⟨a6, c6, rfl, _⟩ := ho6.shape
    obtain ⟨m6, hm6'⟩ : ∃ m6, ([] ++ pre : List Smp).length = m6 := ⟨_, rfl⟩
    have hm6l : m6 ≤ 1100000 := by rw [← hm6']; have := HX.out.2; simp; omega
    have kb : W6.cell? ⟨m + 2, 0, none⟩ = some (.slice a6 m6 c6) := by rw [← hm6']; exact hv6.cell
    have HV6 := Lib.hid (And.intro hv6 (And.intro ho6 (And.intro hT6 hm6')))
    clear hAl hbx hI6 hbx6 ho hv6 ho6 hT6 hm6 hm6'
    obtain ⟨i0, hi0, hi1, hi2, hi3⟩ := info_parts info70'
    have HII := Lib.hid (And.intro hi0 (And.intro hi1 (And.intro hi2 hi3)))
    have HOW := Lib.hid (show W6.ownsRow m 70 2 (.slice a6 m6 c6) m6 (smC ([] ++ pre)) from by
      have h := HV6.out.2.1
      unfold OwnS at h
      rw [HV6.out.2.2.2] at h
      exact h)
    clear hi0 hi1 hi2 hi3
    gi_wp2_with (refine wpListIn_append_at _ rfl (.tmp 18) (.tmp 20) 22 rfl m 70 i0 (.agg #[.int .i64 0, .int .u64 0]) 2 16 Tryd.underlying22 HII.out.1 HII.out.2.1 HII.out.2.2.1 HII.out.2.2.2 rfl (by decide) (.slice a6 m6 c6) m6 (smC ([] ++ pre)) rfl (HOW.out.alloc _) ⟨W6.heap.size, 0, none⟩ 1 1 [.int .i64 x.t, .int .u64 ((x.v : Nat) : Int)] rfl rfl (two_cellsN W6 x) (by intro u hu; simp at hu; rcases hu with rfl | rfl <;> rfl) (by unfold maxLen; omega) (by omega) (by have := HI6.out.lt; simp; omega) ?_; intro v7 w7 hown7 hgr7 hpl7; obtain ⟨g7, c7, rfl⟩ := ownsRow_succ hown7; have hS7 := HI6.out.step (tmp := .cells #[.int .i64 x.t, .int .u64 ((x.v : Nat) : Int)] 70) HV6.out.1 HV6.out.2.1 HV6.out.2.2.1 (by rw [HV6.out.2.2.2]; exact hown7) (by rw [HV6.out.2.2.2]; exact hgr7) (by rw [HV6.out.2.2.2]; exact hpl7); have hbx7 := (Boxed.appended (tmp := .cells #[.int .i64 x.t, .int .u64 ((x.v : Nat) : Int)] 70) HV6.out.1 (by decide : (22 : TypeId) ≠ 70) HV6.out.2.1 (by have := HI6.out.lt; omega) (by have := HI6.out.lt; omega) hown7 (by rw [HV6.out.2.2.2]; exact hgr7)).1; have hm7 := (Boxed.alloc (show Boxed W6 (m + 1) 3 (.int .i64 (-1)) from HM6.out) (.cells #[.int .i64 x.t, .int .u64 ((x.v : Nat) : Int)] 70)).kept hgr7 (Boxed.not_row (Boxed.alloc (show Boxed W6 (m + 1) 3 (.int .i64 (-1)) from HM6.out) (.cells #[.int .i64 x.t, .int .u64 ((x.v : Nat) : Int)] 70)) (by decide) (HOW.out.alloc _)); have HM7 := Lib.hid hm7; clear hm7; have cc7 := hbx7.cell; have ff7 := hbx7.frozen; have HS7 := Lib.hid hS7; clear hown7 hgr7 hpl7 hS7 hbx7)
    exact ⟨HS7.out.2, HS7.out.1, (Below.heap_setCell _ _ _ (m + 1) (by show m + 1 ≠ m + 1 + 1; omega)).trans HM7.out⟩
  case done =>
    rintro D T xs W hD hDT rfl ⟨hI, _⟩ hK
    obtain ⟨v6, hv6, ho6, hT6⟩ := hI.v
    obtain ⟨a6, c6, rfl, _⟩ := ho6.shape
    have hc6 := hv6.cell
    gi_wp2
    refine ⟨by simp, .inl ⟨_, _, rfl, run_takeDeferred hK, ?_⟩⟩
    have hDb : Only [D] W (W.putObj D (.deferred none)) := Only.put W D _
    have hl := hI.lt
    have ho7 : OwnS W m (.slice a6 xs.length c6) xs := ho6
    have hT7 : ∀ g, (Value.slice a6 xs.length c6).ownBlock = some g → g ∉ T := hT6
    rw [hm]
    refine ⟨_, results_tmp rfl _ _ _, .slice a6 xs.length c6, rfl, owns_only ho7 hDb (fun g hg => ?_), hI.b.trans (hDb.below (by omega) (fun x hx => by have := HQ.out.2.2.2; simp at hx; omega))⟩
    intro hmm
    simp only [List.mem_cons, List.not_mem_nil, or_false] at hmm
    exact hT7 g hg (hmm ▸ hDT)
  case stop =>
    rintro D c T pre W hD hDT hSp h hK
    exact h.elim
end Go.Proofs.YtdlifcpdlbmijaaDoor
namespace Go.Proofs.YtdlifcpdlbmijaaDoor
set_option linter.unusedVariables false
set_option linter.unusedSimpArgs false
open Go.RowKit Go.PlainAid Go.Shelf
open B2 (Only Bys Row cellsOf)
open Gm (St Smp Chk)
set_option maxHeartbeats 8000000 in
set_option maxRecDepth 100000 in
theorem check_few (f t N : Int) (hN : N < 1) (d : Value) (w : World) :
    Calls Tryd.prog 17 #[.agg (chR f t N d)] w fun e w' => e = .returned (.int .u16 101) ∧ Below w.heap.size w w' := by
  have d1 : decide (N < 1) = true := decide_eq_true hN
  obtain ⟨n, hn⟩ : ∃ n, w.heap.size = n := ⟨_, rfl⟩
  have A1 := (Below.refl w.heap.size w).alloc (Nat.le_refl _) (.cells (chR f t N d) 73)
  have r1 := heap_alloc_new w (.cells (chR f t N d) 73)
  have A2 := A1.alloc (by simp) (.cells #[.int .u16 0] 65)
  have r2 := heap_alloc_new (w.alloc (.cells (chR f t N d) 73)) (.cells #[.int .u16 0] 65)
  have s1 : (w.alloc (.cells (chR f t N d) 73)).heap.size = n + 1 := by simp [hn]
  rw [hn] at r1 A2
  rw [s1] at r2
  have r1 := (Below.heap_alloc (w.alloc (.cells (chR f t N d) 73)) (.cells #[.int .u16 0] 65) n (by rw [s1]; omega)).trans r1
  have x2 : ((w.alloc (.cells (chR f t N d) 73)).alloc (.cells #[.int .u16 0] 65)).cell? ⟨n, 2, none⟩ = some (.int .i64 N) := (cell_of_row _ _ 2 _ _ _ r1).trans rfl
  have y2 : ((w.alloc (.cells (chR f t N d) 73)).alloc (.cells #[.int .u16 0] 65)).cell? ⟨n + 1, 0, none⟩ = some (.int .u16 0) := (cell_of_row _ _ 0 _ _ _ r2).trans rfl
  have f2 := frozen_of_row _ (n + 1) 0 _ _ r2
  have HB := Lib.hid A2
  have HN := Lib.hid hn
  clear A1 A2
  unfold chR at *
  refine (callsIn_wide (n := 8)).1 ?_
  refine callsIn_of_wp_marks Tryd.func17 rfl trivial ?_ rfl
  simp only [Tryd.ntmps17, List.size_toArray, List.length_cons, List.length_nil, Nat.reduceAdd, Nat.reduceSub, Array.replicate_succ, Array.replicate_zero, List.push_toArray, List.append_toArray, List.nil_append, List.cons_append]
  gi_wp2
  have r3 := heap_alloc_new (w.alloc (.cells #[.int .i64 f, .int .i64 t, .int .i64 N, d] 73)) (.cells #[.int .u16 101] 65)
  rw [s1] at r3
  refine ⟨_, res17 rfl (u16_cell r3), rfl, ?_⟩
  rw [HN.out]
  exact (((Below.refl n w).alloc (by omega) _).alloc (by rw [s1]; omega) _)
theorem isC_iff (f t : Int) (N : Nat) (bs : List Nat) : (∃ g, OneC g ∧ Gm.IsChk g ⟨f, t, N, bs⟩) ↔ ∃ g, IsC g f t ((N : Nat) : Int) bs := by
  constructor
  · rintro ⟨g, G, C⟩
    have hn : N = g.length := by rw [← Gm.run_n]; exact C.2.2.1
    exact ⟨g, G, by rw [hn], by rw [← hn]; exact C⟩
  · rintro ⟨g, G, hn, C⟩
    have hn : N = g.length := by omega
    exact ⟨g, G, by rw [hn]; exact C⟩
/-- CHECK of whatever chunk: OK just of the chunks -/
theorem check_all (f t N : Int) (hN : N ≤ 9223372036854775807) (a : Option Addr) (bs : List Nat) (cap : Nat) (hc0 : a = none → cap = 0) (hbd : bs.length ≤ 1000000) (w : World) (H : Bys w a bs) (hT : TabAt w) :
    Calls Tryd.prog 17 #[.agg (chR f t N (.slice a bs.length cap))] w fun e w' => ((e = .returned (.int .u16 0) ∧ ∃ g, IsC g f t N bs) ∨ (e = .returned (.int .u16 101) ∧ ¬ ∃ g, IsC g f t N bs)) ∧ Below w.heap.size w w' := by
  by_cases h1 : N < 1
  · refine (check_few f t N h1 _ w).mono ?_
    rintro e w' ⟨rfl, hb⟩
    exact ⟨.inr ⟨rfl, fun ⟨g, G, hn, _⟩ => by have := G.some; omega⟩, hb⟩
  · obtain ⟨M, rfl⟩ := Int.eq_ofNat_of_zero_le (show 0 ≤ N by omega)
    refine (check_any f t M a bs cap hc0 hbd ⟨by omega, by omega⟩ w H hT _ rfl).mono ?_
    rintro e w' ⟨h, hb⟩
    refine ⟨?_, hb⟩
    rcases h with ⟨rfl, h⟩ | ⟨rfl, h⟩
    · exact .inl ⟨rfl, (isC_iff f t M bs).1 ((ck_iff f t M bs (by omega)).1 h)⟩
    · exact .inr ⟨rfl, fun h2 => h ((ck_iff f t M bs (by omega)).2 ((isC_iff f t M bs).2 h2))⟩
set_option maxRecDepth 100000 in
set_option maxHeartbeats 8000000 in
/-- All of what is no chunk: its iterator has nothing -/
theorem allof_none (f t N : Int) (hN : N ≤ 9223372036854775807) (a : Option Addr) (bs : List Nat) (cap : Nat) (hc0 : a = none → cap = 0) (hbd : bs.length ≤ 1000000) (hno : ¬ ∃ g, IsC g f t N bs) (w : World) (H : Bys w a bs) (hT : TabAt w) :
    Calls Tryd.prog 66 #[.agg (chR f t N (.slice a bs.length cap))] w fun e w' => ∃ b, e = .returned (.func (.func 93) #[] #[pt b]) ∧ w'.heap[b]? = some (.cells (chR 0 0 ((0 : Nat) : Int) (.slice none 0 0)) 73 (0, 0)) ∧ Below w.heap.size w w' := by
  have A1 := (Below.refl w.heap.size w).alloc (Nat.le_refl _) (.cells (chR f t N (.slice a bs.length cap)) 73)
  have CC := Lib.hid (check_all f t N hN a bs cap hc0 hbd _ (H.below A1) (hT.below A1 hT.lt))
  obtain ⟨y0, y1, y2, y3⟩ := four73 (heap_alloc_new w (.cells (chR f t N (.slice a bs.length cap)) 73))
  have HA := Lib.hid (And.intro A1 hno)
  clear A1 H hT hno
  have C6 := Lib.hid (fun W => (callsIn_wide (n := 8)).1 (readseq_in Fence.wide 8 trivial rfl 0 0 0 (.slice none 0 0) W))
  unfold chR pt at *
  go_enter Tryd.func66, Tryd.ntmps66
  go_wp2_with fail
  refine CC.out.mono ?_
  rintro e w1 ⟨h, hb1⟩
  rcases h with ⟨rfl, h⟩ | ⟨rfl, _⟩
  · exact absurd h HA.out.2
  have HB := Lib.hid hb1
  clear hb1
  go_wp2_with fail
  refine (C6.out w1).mono ?_
  rintro e w2 ⟨rfl, rfl⟩
  have hA5 := (Below.refl w1.heap.size w1).alloc (Nat.le_refl _) (.cells #[.int .i64 0, .int .i64 0, .int .i64 0, .slice none 0 0] 73)
  have hr5 := heap_alloc_new w1 (.cells #[.int .i64 0, .int .i64 0, .int .i64 0, .slice none 0 0] 73)
  have HP := Lib.hid (And.intro hr5 ((HA.out.1.trans (HB.out.mono HA.out.1.size)).trans (hA5.mono (Nat.le_trans HA.out.1.size HB.out.size))))
  clear hA5 hr5
  go_wp2_with fail
  go_ret
  exact ⟨_, rfl, HP.out.1, HP.out.2⟩
end Go.Proofs.YtdlifcpdlbmijaaDoor
