/-
  PACKED: GwN, GrM, GrN, GrY, HaB, HaC, GwO, GrO
-/
import Derived.Test.YtdlifcpdlbmijaaDoorK04
import Derived.Test.YtdlifcpdlbmijaaDoorK06
import Derived.Test.YtdlifcpdlbmijaaDoorK01
import Derived.OrdersIn
import Derived.Deep.RegionHeld3
set_option linter.unusedVariables false
set_option linter.unusedSimpArgs false
namespace Go.Proofs.YtdlifcpdlbmijaaDoor
set_option linter.unusedVariables false
set_option linter.unusedSimpArgs false
open Go.RowKit Go.PlainAid Go.Shelf
open B2 (Only Wr PutPost Bys Row cellsOf Rf RfPost)
open Gm (St Smp)
theorem run_succ (l : List Smp) (i : Nat) (hi : i < l.length) : Gm.run (l.take (i + 1)) = Gm.put (Gm.run (l.take i)) l[i] := by
  rw [List.take_succ_eq_append_getElem hi, Gm.run_snoc]
theorem run_one (l : List Smp) (h : 0 < l.length) : (Gm.run (l.take 1)).out = B2.Bt.vb (B2.Bt.zz l[0].t) ++ B2.Bt.top l[0].v 64 ∧ (Gm.run (l.take 1)).ws = 0 ∧ (Gm.run (l.take 1)).we = 0 := by
  rw [run_succ l 0 h]
  refine ⟨?_, rfl, rfl⟩
  show [] ++ Gm.bitsOf Gm.st0 l[0] = _
  rw [List.nil_append]
  rfl
theorem run_len (l : List Smp) (i : Nat) (hi : i ≤ l.length) : (Gm.run (l.take i)).n = i := by rw [Gm.run_n, List.length_take]; omega
theorem run_last (l : List Smp) (i : Nat) (hi : i < l.length) : (Gm.run (l.take (i + 1))).last = l[i] := by rw [run_succ l i hi]; rfl
theorem run_frm (l : List Smp) (i : Nat) (hi : i < l.length) : (Gm.run (l.take (i + 1))).frm = (l[0]'(by omega)).t := by
  induction i with
  | zero => rw [run_succ l 0 hi]; rfl
  | succ i ih =>
    rw [run_succ l (i + 1) hi]
    show (if (Gm.run (l.take (i + 1))).n = 0 then _ else (Gm.run (l.take (i + 1))).frm) = _
    rw [run_len l (i + 1) (by omega), if_neg (by omega), ih (by omega)]
theorem getD_is (l : List Smp) (i : Nat) (hi : i < l.length) : l.getD i ⟨0, 0⟩ = l[i] := by simp [List.getD, List.getElem?_eq_getElem hi]
theorem step_time (l : List Smp) (i : Nat) (h1 : 1 ≤ i) (hi : i < l.length) : Gm.timeB (Gm.run (l.take i)) l[i].t = timeL l i := by
  obtain ⟨j, rfl⟩ : ∃ j, i = j + 1 := ⟨i - 1, by omega⟩
  have hl := run_last l j (by omega)
  have hn := run_len l (j + 1) (by omega)
  unfold Gm.timeB timeL
  rw [hn, hl]
  by_cases hj : j = 0
  · subst hj
    rw [if_pos rfl, if_pos rfl, getD_is l 1 hi, getD_is l 0 (by omega)]
  · obtain ⟨k, rfl⟩ : ∃ k, j = k + 1 := ⟨j - 1, by omega⟩
    rw [if_neg (by omega), if_neg (by omega)]
    have hg : (Gm.run (l.take (k + 1 + 1))).gap = Gm.gapOf l[k + 1].t (l[k]'(by omega)).t := by
      rw [run_succ l (k + 1) (by omega)]
      show Gm.gapOf l[k + 1].t (Gm.run (l.take (k + 1))).last.t = _
      rw [run_last l k (by omega)]
    rw [hg, show k + 1 + 1 - 1 = k + 1 by omega, show k + 1 + 1 - 2 = k by omega, getD_is l (k + 1 + 1) hi, getD_is l (k + 1) (by omega), getD_is l k (by omega)]
/-- the xor of neighbours -/
def xrL (l : List Smp) (i : Nat) : Nat := (l.getD i ⟨0, 0⟩).v ^^^ (l.getD (i - 1) ⟨0, 0⟩).v
theorem step_put (l : List Smp) (i : Nat) (h1 : 1 ≤ i) (hi : i < l.length) : (Gm.run (l.take (i + 1))).out = (Gm.run (l.take i)).out ++ timeL l i ++ Gm.numB (Gm.run (l.take i)).ws (Gm.run (l.take i)).we (xrL l i) ∧
    (Gm.run (l.take (i + 1))).ws = Gm.numS (Gm.run (l.take i)).ws (Gm.run (l.take i)).we (xrL l i) ∧ (Gm.run (l.take (i + 1))).we = Gm.numE (Gm.run (l.take i)).ws (Gm.run (l.take i)).we (xrL l i) := by
  have hn := run_len l i (by omega)
  have hx : xrL l i = l[i].v ^^^ (Gm.run (l.take i)).last.v := by
    obtain ⟨j, rfl⟩ : ∃ j, i = j + 1 := ⟨i - 1, by omega⟩
    unfold xrL
    rw [run_last l j (by omega), getD_is l (j + 1) hi, show j + 1 - 1 = j by omega, getD_is l j (by omega)]
  have ht := step_time l i h1 hi
  rw [run_succ l i hi, hx]
  refine ⟨?_, ?_, ?_⟩
  · show (Gm.run (l.take i)).out ++ Gm.bitsOf (Gm.run (l.take i)) l[i] = _
    unfold Gm.bitsOf
    rw [hn, if_neg (by omega), ht, List.append_assoc]
  · show (if (Gm.run (l.take i)).n = 0 then _ else _) = _
    rw [hn, if_neg (by omega)]
  · show (if (Gm.run (l.take i)).n = 0 then _ else _) = _
    rw [hn, if_neg (by omega)]
theorem timeL_len (l : List Smp) (i : Nat) : (timeL l i).length ≤ 80 := by
  unfold timeL
  split
  · exact vb_len _ (Gm.gapOf_lt _ _)
  · exact Nat.le_trans (stepB_len _) (by decide)
theorem win_le (l : List Smp) (hl : ∀ a ∈ l, Gm.OkS a) (i : Nat) : ((Gm.run (l.take i)).ws = 0 ∧ (Gm.run (l.take i)).we = 0) ∨ ((Gm.run (l.take i)).ws < (Gm.run (l.take i)).we ∧ (Gm.run (l.take i)).we ≤ 64 ∧ (Gm.run (l.take i)).ws ≤ 31) :=
  (Gm.inv_run (l.take i) (fun a ha => hl a (List.mem_of_mem_take ha))).win
theorem xrL_lt (l : List Smp) (hl : ∀ a ∈ l, Gm.OkS a) (i : Nat) (hi : i < l.length) : xrL l i < 18446744073709551616 := by
  unfold xrL
  rw [getD_is l i hi, getD_is l (i - 1) (by omega)]
  exact Gm.xor_lt64 (hl _ (List.getElem_mem _)).2.2 (hl _ (List.getElem_mem _)).2.2
theorem out_len (l : List Smp) (hl : ∀ a ∈ l, Gm.OkS a) (i : Nat) (hi : i ≤ l.length) : (Gm.run (l.take i)).out.length ≤ 160 * i := by
  induction i with
  | zero => exact Nat.le_refl 0
  | succ i ih =>
    by_cases h0 : i = 0
    · subst h0
      have h := (run_one l (by omega)).1
      have hk := hl l[0] (List.getElem_mem _)
      rw [show (0 : Nat) + 1 = 1 from rfl, h, List.length_append, B2.Bt.top_length]
      have := vb_len (B2.Bt.zz l[0].t) (B2.Bt.zz_lt _ hk.1 hk.2.1)
      omega
    · have h := (step_put l i (by omega) (by omega)).1
      rw [h, List.length_append, List.length_append]
      have h1 := timeL_len l i
      have h2 := numB_len (Gm.run (l.take i)).ws (Gm.run (l.take i)).we (xrL l i) (xrL_lt l hl i (by omega)) (win_le l hl i)
      have := ih (by omega)
      omega
/-- the document's bits behind a call; r: the struct; all of it the call's own -/
def Cs (w W : World) (r : Nat) (B : List Bool) : Prop := w.heap.size ≤ r ∧ Below w.heap.size w W ∧ ∃ g, w.heap.size ≤ g ∧ Rf W r g B 0
theorem Cs.below {w W W' : World} {r : Nat} {B : List Bool} (h : Cs w W r B) (hb : Below W.heap.size W W') : Cs w W' r B := by
  obtain ⟨h1, h2, g, h3, h4⟩ := h
  exact ⟨h1, h2.trans (hb.mono h2.size), g, h3, h4.below hb⟩
theorem Cs.post {w W W' : World} {r g : Nat} {B B' : List Bool} (h : Cs w W r B) (hg : w.heap.size ≤ g) (hp : RfPost W r g B' 0 W') : Cs w W' r B' := by
  obtain ⟨h1, h2, _⟩ := h
  obtain ⟨g', h3, h4, h5⟩ := hp
  have hs := h2.size
  exact ⟨h1, h2.trans (h5.below hs (by simp only [List.mem_cons, List.not_mem_nil, or_false]; rintro x (rfl | rfl) <;> assumption)), g', by omega, h3⟩
theorem cs_bit {w W : World} {r : Nat} {B : List Bool} (b : Bool) (h : Cs w W r B) (hB : B.length + 1 ≤ 1000000000) : Calls Tryd.prog 89 #[.pointer (some ⟨r, 0, none⟩), .bool b] W fun e w' => e = .returned (.tuple #[]) ∧ Cs w w' r (B ++ [b]) := by
  obtain ⟨g, hg, hR⟩ := h.2.2
  exact (B2.fbit_any r g B 0 b W hR hB).mono fun e w' ⟨h1, h2⟩ => ⟨h1, h.post hg h2⟩
theorem cs_bits {w W : World} {r : Nat} {B : List Bool} (v n : Nat) (hv : v < 18446744073709551616) (hn : n ≤ 64) (h : Cs w W r B) (hB : B.length + n ≤ 1000000000) : Calls Tryd.prog 87 #[.pointer (some ⟨r, 0, none⟩), .int .u64 ((v : Nat) : Int), .int .i64 ((n : Nat) : Int)] W fun e w' => e = .returned (.int .u16 0) ∧ Cs w w' r (B ++ B2.Bt.top v n) := by
  obtain ⟨g, hg, hR⟩ := h.2.2
  exact (B2.fbits_good r g B 0 v n hv hn W hR hB).mono fun e w' ⟨h1, h2⟩ => ⟨h1, h.post hg h2⟩
theorem cs_sgn {w W : World} {r : Nat} {B : List Bool} (v : Int) (hv1 : -9223372036854775808 ≤ v) (hv2 : v ≤ 9223372036854775807) (h : Cs w W r B) (hB : B.length + 80 ≤ 1000000000) : Calls Tryd.prog 86 #[.pointer (some ⟨r, 0, none⟩), .int .i64 v] W fun e w' => e = .returned (.tuple #[]) ∧ Cs w w' r (B ++ B2.Bt.vb (B2.Bt.zz v)) := by
  obtain ⟨g, hg, hR⟩ := h.2.2
  exact (B2.fputsgn_any r g B 0 v hv1 hv2 W hR hB).mono fun e w' ⟨h1, h2⟩ => ⟨h1, h.post hg h2⟩
theorem cs_time {w W : World} {r b n cap i : Nat} {B : List Bool} (l : List Smp) (hn : l.length = n) (h1 : 1 ≤ i) (hi : i < n) (hn9 : n ≤ 1000000) (hB : B.length + 200 ≤ 1000000000) (q p0 p1 p2 c c0 c1 c2 o9 oa oc od : Nat) (HS : Sam w b l) (HT : TabB w q p0 p1 p2 c c0 c1 c2 o9 oa oc od) (h : Cs w W r B) :
    Calls Tryd.prog 88 #[.pointer (some ⟨r, 0, none⟩), .slice (some ⟨b, 0, none⟩) n cap, .int .i64 ((i : Nat) : Int)] W fun e w' => e = .returned (.tuple #[]) ∧ Cs w w' r (B ++ timeL l i) := by
  obtain ⟨g, hg, hR⟩ := h.2.2
  have hr := h.1
  have HS' := HS.below h.2.1
  have HT' := HT.below h.2.1
  obtain ⟨j, rfl⟩ : ∃ j, i = j + 1 := ⟨i - 1, by omega⟩
  by_cases hj : j = 0
  · subst hj
    exact (time_one r g b n cap B l hn hi hB W hR HS').mono fun e w' ⟨h1, h2⟩ => ⟨h1, h.post hg h2⟩
  · obtain ⟨k, rfl⟩ : ∃ k, j = k + 1 := ⟨j - 1, by omega⟩
    have z0 := World.block_lt_of_cell? _ _ HT.g
    have z1 := World.block_lt_of_cell? _ _ HT.r.1
    have z2 := World.block_lt_of_cell? _ _ HT.t0.1
    have z3 := World.block_lt_of_cell? _ _ HT.t1.1
    have z4 := World.block_lt_of_cell? _ _ HT.t2.1
    have z0' : 0 < w.heap.size := z0
    have z1' : q < w.heap.size := z1
    have z2' : p0 < w.heap.size := z2
    have z3' : p1 < w.heap.size := z3
    have z4' : p2 < w.heap.size := z4
    exact (time_more r g b n cap k B l hn hi hn9 hB q p0 p1 p2 c c0 c1 c2 o9 oa oc od W hR HS' HT' (by omega)).mono fun e w' ⟨h1, h2⟩ => ⟨h1, h.post hg h2⟩
end Go.Proofs.YtdlifcpdlbmijaaDoor
namespace Go.Proofs.YtdlifcpdlbmijaaDoor
set_option linter.unusedVariables false
set_option linter.unusedSimpArgs false
open Go.RowKit Go.PlainAid Go.Shelf
open B2 (Only Bys Row cellsOf)
open Gm (St Smp)
attribute [local go_sem] Oper.semAt_some
/-- what Check gives of the samples L that the data says -/
def ckE (f t : Int) (N : Nat) (bs : List Nat) (L : List Smp) : Prop :=
  takesL Gm.st0 L = true ∧ (Gm.run L).frm = f ∧ (Gm.run L).last.t = t ∧ (Gm.run L).n = N ∧ ∃ k, k < 8 ∧ B2.Bt.Packs k bs (Gm.run L).out
theorem rdAll_ok : ∀ (N : Nat) (s : Gm.Rd), RdI s → ∀ x ∈ Gm.rdAll N s, Gm.OkS x
  | 0, s, _, x, h => by simp [Gm.rdAll] at h
  | N + 1, s, hI, x, h => by
    unfold Gm.rdAll at h
    simp only at h
    by_cases hq : (Gm.rdNext s).2.c.2 = true
    · rw [if_pos hq] at h; simp at h
    · rw [if_neg hq] at h
      rcases List.mem_cons.1 h with rfl | h
      · exact ⟨(rdTime_bd s).1, (rdTime_bd s).2, (rdNum_bd s _ hI).1⟩
      · exact rdAll_ok N _ (rdNext_I s hI) x h
theorem takes_len : ∀ (l : List Smp) (s : St), s.n ≤ 120 → takesL s l = true → (l.foldl Gm.put s).n ≤ 120
  | [], s, h, _ => h
  | x :: l, s, h, ht => by
    unfold takesL at ht
    rw [Bool.and_eq_true, decide_eq_true_eq] at ht
    have h1 : s.n ≠ 120 := fun e => by
      have h2 := ht.1
      unfold apErr at h2
      rw [if_pos e] at h2
      split at h2
      · simp at h2
      · split at h2 <;> simp at h2
    have h3 : (Gm.put s x).n = s.n + 1 := rfl
    exact takes_len l (Gm.put s x) (by omega) ht.2
theorem takes_pre {l m : List Smp} (h : l <+: m) (hm : takesL Gm.st0 m = true) : takesL Gm.st0 l = true := by
  obtain ⟨r, rfl⟩ := h
  rw [takesL_app, Bool.and_eq_true] at hm
  exact hm.1
theorem takes_snoc (l : List Smp) (x : Smp) : takesL Gm.st0 (l ++ [x]) = (takesL Gm.st0 l && decide (apErr (Gm.run l) x = 0)) := by
  rw [takesL_app]
  simp only [takesL, Bool.and_true]
  rfl
/-- what holds behind a round that has left -/
def CkX (w : World) (n : Nat) (L : List Smp) (c : Code) (T : List Nat) (pre : List Smp) (W : World) : Prop :=
  c = .ret ∧ takesL Gm.st0 L = false ∧ (∀ k ∈ T, n + 2 ≤ k) ∧ n + 1 < W.heap.size ∧ w.heap.size = n ∧ W.heap[n + 1]? = some (.cells #[.int .u16 101] 65 (0, 0)) ∧ Below n w W
theorem CkX.only {w W W' : World} {n : Nat} {L : List Smp} {c : Code} {T : List Nat} {pre : List Smp} (h : CkX w n L c T pre W) (ho : Only T W W') : CkX w n L c T pre W' := by
  obtain ⟨h1, h2, h3, h4, h5, h6, h7⟩ := h
  exact ⟨h1, h2, h3, by have := ho.size; omega, h5, (ho.block _ h4 (fun hm => by have := h3 _ hm; omega)).trans h6, h7.trans (ho.below (by omega) (fun x hx => by have := h3 x hx; omega))⟩
/-- what holds between two samples -/
def CkL (w : World) (n q B : Nat) (C : Array Value) (L : List Smp) (T : List Nat) (pre : List Smp) (W : World) : Prop :=
  CkI w n q (n + 2 + 1) B C (Gm.run pre) T W ∧ takesL Gm.st0 pre = true
theorem four73 {W : World} {n : Nat} {f t N : Int} {d : Value} (h : W.heap[n]? = some (.cells (chR f t N d) 73 (0, 0))) : W.cell? ⟨n, 0, none⟩ = some (.int .i64 f) ∧ W.cell? ⟨n, 1, none⟩ = some (.int .i64 t) ∧ W.cell? ⟨n, 2, none⟩ = some (.int .i64 N) ∧ W.cell? ⟨n, 3, none⟩ = some d :=
  ⟨(cell_of_row _ _ 0 _ _ _ h).trans rfl, (cell_of_row _ _ 1 _ _ _ h).trans rfl, (cell_of_row _ _ 2 _ _ _ h).trans rfl, (cell_of_row _ _ 3 _ _ _ h).trans rfl⟩
theorem row_on {W2 w3 : World} {n m : Nat} {o : Obj} (h : W2.heap[n]? = some o) (hs : W2.heap.size = m) (hb : Below m W2 w3) (o2 : Obj) : (w3.alloc o2).heap[n]? = some o := by
  have hl := (Array.getElem?_eq_some_iff.1 h).1
  exact (Below.heap_alloc _ _ _ (by have := hb.size; omega)).trans ((hb.block n (by omega)).trans h)
theorem u16_cell {W : World} {b : Nat} {x : Int} (h : W.heap[b]? = some (.cells #[.int .u16 x] 65 (0, 0))) : W.cell? ⟨b, 0, none⟩ = some (.int .u16 x) := (cell_of_row _ _ 0 _ _ _ h).trans rfl
theorem res17 {T : Array Value} {W : World} {b : Nat} {x : Int} (h2 : T[2]?.getD undef = .pointer (some ⟨b, 0, none⟩)) (hc : W.cell? ⟨b, 0, none⟩ = some (.int .u16 x)) :
    (results Tryd.f17 T).run Tryd.prog W = .ok (.int .u16 x) W := by
  have hr : Tryd.f17.results = #[.cell 2 65] := by kernel_rfl
  simp [results, hr, h2, asAddr, loadVar, hc, Sem.run_bind, Result.andThen, go_sem]
theorem ck_def {w W w6 : World} {n q a B D : Nat} {C : Array Value} {s : St} {T : List Nat} (hI : CkI w n q a B C s T W.drew) (hK : W.heap[D]? = some (.deferred (some []))) (hD : q + 2 ≤ D) (hb : Below W.drew.heap.size W.drew w6) (v : Value) :
    (w6.setCell ⟨n + 1, 0, none⟩ v).heap[D]? = some (.deferred (some [])) := by
  have hl := hI.lt
  exact (Below.heap_setCell _ _ _ _ (show ¬ D = n + 1 by omega)).trans ((hb.block D (Array.getElem?_eq_some_iff.1 hK).1).trans hK)
theorem ck_fin {w W w6 : World} {n q a B D : Nat} {C : Array Value} {s : St} {T : List Nat} (hn : w.heap.size = n) (hI : CkI w n q a B C s T W.drew) (hD : q + 2 ≤ D) (hb : Below W.drew.heap.size W.drew w6) (hr : w6.heap[n + 1]? = some (.cells #[.int .u16 0] 65 (0, 0))) (x : Int) :
    ((w6.setCell ⟨n + 1, 0, none⟩ (.int .u16 x)).putObj D (.deferred none)).heap[n + 1]? = some (.cells #[.int .u16 x] 65 (0, 0)) ∧ Below w.heap.size w ((w6.setCell ⟨n + 1, 0, none⟩ (.int .u16 x)).putObj D (.deferred none)) := by
  have hl := hI.lt
  have h1 : Below n w w6 := hI.b.trans (hb.mono (by have : W.drew.heap.size = W.heap.size := rfl; omega))
  refine ⟨(World.putObj_heap_other (by omega)).trans ?_, ?_⟩
  · rw [heap_setCell_same _ _ _ _ _ _ hr]
    rfl
  · rw [hn]
    have h2 := h1.setCell (p := ⟨n + 1, 0, none⟩) (by show n ≤ n + 1; omega) (.int .u16 x)
    exact h2.trans ((Only.put _ D _).below (by have := h2.size; omega) (fun y hy => by simp at hy; omega))
set_option maxRecDepth 100000 in
set_option maxHeartbeats 8000000 in
theorem check_any (f t : Int) (N : Nat) (a : Option Addr) (bs : List Nat) (cap : Nat) (hc0 : a = none → cap = 0) (hbd : bs.length ≤ 1000000) (hN : 1 ≤ N ∧ N ≤ 9223372036854775807) (w : World) (H : Bys w a bs) (hT : TabAt w) (L : List Smp) (hL : Gm.rdAll N (Gm.rd0 (B2.Bt.unpack bs)) = L) :
    Calls Tryd.prog 17 #[.agg (chR f t N (.slice a bs.length cap))] w fun e w' => ((e = .returned (.int .u16 0) ∧ ckE f t N bs L) ∨ (e = .returned (.int .u16 101) ∧ ¬ ckE f t N bs L)) ∧ Below w.heap.size w w' := by
  have d1 : decide ((N : Int) < 1) = false := decide_eq_false (by omega)
  have d2 : ¬ (N : Int) < 1 := by omega
  obtain ⟨n, hn⟩ : ∃ n, w.heap.size = n := ⟨_, rfl⟩
  have A1 := (Below.refl w.heap.size w).alloc (Nat.le_refl _) (.cells (chR f t N (.slice a bs.length cap)) 73)
  have r1 := heap_alloc_new w (.cells (chR f t N (.slice a bs.length cap)) 73)
  have A2 := A1.alloc (by simp) (.cells #[.int .u16 0] 65)
  have r2 := heap_alloc_new (w.alloc (.cells (chR f t N (.slice a bs.length cap)) 73)) (.cells #[.int .u16 0] 65)
  have s1 : (w.alloc (.cells (chR f t N (.slice a bs.length cap)) 73)).heap.size = n + 1 := by simp [hn]
  have s2 : ((w.alloc (.cells (chR f t N (.slice a bs.length cap)) 73)).alloc (.cells #[.int .u16 0] 65)).heap.size = n + 2 := by simp [hn]
  rw [hn] at r1 A2
  rw [s1] at r2
  have r1 := (Below.heap_alloc (w.alloc (.cells (chR f t N (.slice a bs.length cap)) 73)) (.cells #[.int .u16 0] 65) n (by rw [s1]; omega)).trans r1
  have x2 : ((w.alloc (.cells (chR f t N (.slice a bs.length cap)) 73)).alloc (.cells #[.int .u16 0] 65)).cell? ⟨n, 2, none⟩ = some (.int .i64 ((N : Nat) : Int)) := (cell_of_row _ _ 2 _ _ _ r1).trans rfl
  obtain ⟨W2, hW2⟩ : ∃ W2, ((w.alloc (.cells (chR f t N (.slice a bs.length cap)) 73)).alloc (.cells #[.int .u16 0] 65)) = W2 := ⟨_, rfl⟩
  have hW2' := hW2
  unfold chR at hW2'
  rw [hW2] at A2 r1 r2 s2 x2
  have CN := Lib.hid (new_any W2)
  have H2 := Lib.hid (And.intro A2 (And.intro r1 (And.intro r2 (And.intro s2 (And.intro (hT.below (by rw [hn]; exact A2) hT.lt) (And.intro H hT))))))
  have HP := Lib.hid (And.intro hc0 (And.intro hbd (And.intro hN hL)))
  rw [s2] at CN
  clear A1 A2 r1 r2 s1 s2 H hT hc0 hbd hN hL hW2
  unfold pt at CN
  refine (callsIn_wide (n := 8)).1 ?_
  refine callsIn_of_wp_marks Tryd.func17 rfl trivial ?_ rfl
  simp only [Tryd.ntmps17, List.size_toArray, List.length_cons, List.length_nil, Nat.reduceAdd, Nat.reduceSub, Array.replicate_succ, Array.replicate_zero, List.push_toArray, List.append_toArray, List.nil_append, List.cons_append]
  unfold chR
  gi_wp2_with (first
    | (refine ⟨trivial, ?_⟩; gi_at_call 7; refine (callsIn_wide.2 CN.out).mono ?_; rintro e w3 ⟨rfl, hAp, hb3⟩; obtain ⟨y0, y1, y2, y3⟩ := four73 (row_on H2.out.2.1 H2.out.2.2.2.1 hb3 (.cells #[.pointer (some ⟨n + 2 + 1, 0, none⟩)] 23)))
    | (refine ⟨trivial, ?_⟩; gi_at_call 64; refine (readseq_in Fence.wide _ trivial rfl f t N _ _).mono ?_; rintro e w5 ⟨rfl, rfl⟩))
  obtain ⟨q, hq⟩ : ∃ q, w3.heap.size = q := ⟨_, rfl⟩
  have b3 := heap_alloc_new w3 (.cells #[pt (n + 2 + 1)] 23)
  have s4 : (w3.alloc (.cells #[pt (n + 2 + 1)] 23)).heap.size = q + 1 := by simp [hq]
  have b4 := heap_alloc_new (w3.alloc (.cells #[pt (n + 2 + 1)] 23)) (.cells (chR f t N (.slice a bs.length cap)) 73)
  have s5 : ((w3.alloc (.cells #[pt (n + 2 + 1)] 23)).alloc (.cells (chR f t N (.slice a bs.length cap)) 73)).heap.size = q + 2 := by simp [hq]
  have hqn : n + 4 ≤ q := by have := hAp.lt; have := H2.out.2.2.2.1; omega
  have hb4 := (((Below.refl w3.heap.size w3).alloc (Nat.le_refl _) (.cells #[pt (n + 2 + 1)] 23)).alloc (by rw [s4]; omega) (.cells (chR f t N (.slice a bs.length cap)) 73))
  have hbw : Below n w ((w3.alloc (.cells #[pt (n + 2 + 1)] 23)).alloc (.cells (chR f t N (.slice a bs.length cap)) 73)) := (H2.out.1.trans (hb3.mono (by omega))).trans (hb4.mono (by omega))
  have hb24 : Below (n + 2) W2 ((w3.alloc (.cells #[pt (n + 2 + 1)] 23)).alloc (.cells (chR f t N (.slice a bs.length cap)) 73)) := hb3.trans (hb4.mono (by omega))
  rw [hq] at b3
  rw [s4] at b4
  have b3 := (Below.heap_alloc (w3.alloc (.cells #[pt (n + 2 + 1)] 23)) (.cells (chR f t N (.slice a bs.length cap)) 73) q (by rw [s4]; omega)).trans b3
  have hck : CkI w n q (n + 2 + 1) (q + 2) (chR f t N (.slice a bs.length cap)) Gm.st0 [] ((w3.alloc (.cells #[pt (n + 2 + 1)] 23)).alloc (.cells (chR f t N (.slice a bs.length cap)) 73)) :=
    ⟨by simp, ⟨n + 2, n + 2, hAp.below hb4, by omega, by omega, by simp, by simp, by omega, by omega⟩, by omega, H2.out.2.2.2.2.1.below hb24 (by have := H2.out.2.2.2.2.2.2.lt; omega), ⟨by have := H2.out.2.2.2.2.2.2.lt; omega, by omega, by omega, by rw [s5]; exact Nat.le_refl _⟩,
      (hb24.block n (by omega)).trans H2.out.2.1, (hb24.block (n + 1) (by omega)).trans H2.out.2.2.1, b3, hn, hbw⟩
  have hBys : Bys ((w3.alloc (.cells #[pt (n + 2 + 1)] 23)).alloc (.cells (chR f t N (.slice a bs.length cap)) 73)) a bs := H2.out.2.2.2.2.2.1.below (by rw [hn]; exact hbw)
  unfold pt at b3 b4 s5 hck hBys
  obtain ⟨W5, hW5⟩ : ∃ W5, ((w3.alloc (.cells #[.pointer (some ⟨n + 2 + 1, 0, none⟩)] 23)).alloc (.cells (chR f t N (.slice a bs.length cap)) 73)) = W5 := ⟨_, rfl⟩
  rw [hW5] at b4 s5 hck hBys
  unfold pt
  rw [hW5, hq]
  have HSQ := Lib.hid (read_stops 7 (by omega) (q + 1) cap N a f t bs HP.out.1 (by have := HP.out.2.1; omega) HP.out.2.2.1.2 W5 b4 hBys)
  rw [HP.out.2.2.2] at HSQ
  have HCK := Lib.hid hck
  have HS5 := Lib.hid s5
  have HBY := Lib.hid hBys
  have HQN := Lib.hid (And.intro hqn hn)
  have HLO := Lib.hid (show ∀ x ∈ L, Gm.OkS x from by rw [← HP.out.2.2.2]; exact rdAll_ok N _ (rd0_I _))
  clear b3 s4 b4 s5 hqn hb4 hbw hb24 hck hBys hAp hb3 y0 y1 y2 y3 x2 hW2' hW5 CN hq r1
  refine wpIn_rangeFunc_ownT rfl (by omega) (gf := 93) (lb := #[.pointer (some ⟨q + 1, 0, none⟩)]) rfl trivial (enters_of Tryd.func93 (by kernel_rfl) rfl) HSQ.out (Below.refl _ _) (fun _ => rfl)
    (CkL w n q (q + 2) (chR f t N (.slice a bs.length cap)) L) (CkX w n L) (fun T pre A B h ho => ⟨h.1.only ho, h.2⟩) (fun c T pre A B h ho => h.only ho) ?start ?round ?done ?stop
  case start =>
    intro T W hb hT
    have h := HCK.out.below hb
    obtain ⟨p, d, h1, h2, h3, h4, h5, h6, h7⟩ := HCK.out.ap
    have hl := h1.wr.lt
    rw [HS5.out] at hT hl hb
    exact ⟨⟨fun k hk => ⟨(hT k hk).1, (hT k hk).2⟩, ⟨p, d, h1.below (by rw [HS5.out]; exact hb), h2, h3, fun hm => by have := hT _ hm; omega, fun hm => by have := hT _ hm; omega, h6, h7⟩, h.la, h.tab, h.lt, h.bC, h.bR, h.bA, h.sz, h.b⟩, rfl⟩
  case round =>
    intro l T pre x W hI hSp
    have hs0 : 1 ≤ 8 - 1 - 1 := by decide
    have hxo : Gm.OkS x := HLO.out x (by obtain ⟨r, hr⟩ := hSp; rw [← hr]; simp)
    have hpo : ∀ y ∈ pre, Gm.OkS y := fun y hy => HLO.out y (by obtain ⟨r, hr⟩ := hSp; rw [← hr]; simp [hy])
    have hlen : pre.length ≤ 120 := by
      have h := takes_len pre Gm.st0 (by decide) hI.2
      rw [show (pre.foldl Gm.put Gm.st0) = Gm.run pre from rfl, Gm.run_n] at h
      exact h
    have hout : (Gm.run pre).out.length ≤ 160 * pre.length := by
      have h := out_len pre hpo pre.length (Nat.le_refl _)
      rwa [List.take_length] at h
    have HX := Lib.hid (And.intro hI (And.intro hSp (And.intro hxo (And.intro hpo (And.intro hlen hout)))))
    clear hI hSp hxo hpo hlen hout
    unfold smV
    gi_wp2
    refine ⟨kept_below (fun k hk => (HX.out.1.1.t k hk).2) ((Below.refl W.heap.size W).alloc (Nat.le_refl _) _), fun W6 ho => ?_⟩
    have hAl := (Below.refl W.heap.size W).alloc (Nat.le_refl _) (.cells #[.int .i64 x.t, .int .u64 ((x.v : Nat) : Int)] 70)
    have hbx := heap_alloc_new W (.cells #[.int .i64 x.t, .int .u64 ((x.v : Nat) : Int)] 70)
    have hI6 := (HX.out.1.1.below hAl).only ho
    have hbx6 := (ho.block W.heap.size (by simp) (fun hm => by have := (HX.out.1.1.t _ hm).2; omega)).trans hbx
    have k0 : W6.cell? ⟨W.heap.size, 0, none⟩ = some (.int .i64 x.t) := (cell_of_row _ _ 0 _ _ _ hbx6).trans rfl
    have k1 : W6.cell? ⟨W.heap.size, 1, none⟩ = some (.int .u64 ((x.v : Nat) : Int)) := (cell_of_row _ _ 1 _ _ _ hbx6).trans rfl
    have kq : W6.cell? ⟨q, 0, none⟩ = some (.pointer (some ⟨n + 2 + 1, 0, none⟩)) := (cell_of_row _ _ 0 _ _ _ hI6.bA).trans rfl
    have CP := Lib.hid (ck_append w W6 n q (n + 2 + 1) (q + 2) _ (Gm.run pre) T x HX.out.2.2.1 (Gm.inv_run _ HX.out.2.2.2.1) (by rw [Gm.run_n]; have := HX.out.2.2.2.2.1; omega) (by have := HX.out.2.2.2.2; omega) hI6)
    have HI6 := Lib.hid hI6
    clear hAl hbx hI6 hbx6 ho
    unfold smV pt at CP
    by_cases hap : apErr (Gm.run pre) x = 0
    · rw [hap, if_pos rfl] at CP
      gi_wp2_with (refine ⟨trivial, ?_⟩; gi_at_call 9; refine (CallsIn.inRound l (callsIn_wide.2 CP.out)).mono ?_; rintro e w5 ⟨rfl, hC5, hk5⟩)
      exact ⟨hk5, by rw [Gm.run_snoc]; exact hC5, by rw [takes_snoc, HX.out.1.2, decide_eq_true hap]; rfl⟩
    · rw [if_neg hap] at CP
      have hne : (((apErr (Gm.run pre) x : Nat) : Int) != 0) = true := by simp; omega
      have hne2 : ¬ ((apErr (Gm.run pre) x : Nat) : Int) = 0 := by omega
      have HN := Lib.hid (show takesL Gm.st0 L = false from by
        cases h : takesL Gm.st0 L with
        | false => rfl
        | true =>
          have h2 := takes_pre HX.out.2.1 h
          rw [takes_snoc, Bool.and_eq_true, decide_eq_true_eq] at h2
          exact absurd h2.2 hap)
      obtain ⟨E, hE⟩ : ∃ E, apErr (Gm.run pre) x = E := ⟨_, rfl⟩
      rw [hE] at CP hne hne2
      gi_wp2_with (refine ⟨trivial, ?_⟩; gi_at_call 9; refine (CallsIn.inRound l (callsIn_wide.2 CP.out)).mono ?_; rintro e w5 ⟨rfl, hC5, hk5⟩; have fR : w5.frozen? ⟨n + 1, 0, none⟩ = false := frozen_of_row _ _ _ _ _ hC5.bR; have cR : w5.cell? ⟨n + 1, 0, none⟩ = some (.int .u16 0) := (cell_of_row _ _ 0 _ _ _ hC5.bR).trans rfl)
      have hl5 := hC5.lt
      refine ⟨hk5.trans (fun k hk => Below.heap_setCell _ _ _ _ (show ¬ k = n + 1 from by have := (hC5.t k hk).1; omega)), rfl, HN.out, fun k hk => by have := (hC5.t k hk).1; omega, by simp [World.setCell]; omega, hC5.sz, ?_, hC5.b.setCell (p := ⟨n + 1, 0, none⟩) (by show n ≤ n + 1; omega) _⟩
      rw [heap_setCell_same _ _ _ _ _ _ hC5.bR]
      rfl
  case done =>
    rintro D T xs W hD hDT rfl ⟨hI, ht⟩ hK
    have hlen : xs.length ≤ 120 := by
      have h := takes_len xs Gm.st0 (by decide) ht
      rw [show (xs.foldl Gm.put Gm.st0) = Gm.run xs from rfl, Gm.run_n] at h
      exact h
    have hout : (Gm.run xs).out.length ≤ 160 * xs.length := by
      have h := out_len xs HLO.out xs.length (Nat.le_refl _)
      rwa [List.take_length] at h
    have hDW := (Array.getElem?_eq_some_iff.1 hK).1
    have hId := hI.below (drew_below W)
    obtain ⟨p, d, h1, h2⟩ := hId.ap
    have kq : W.drew.cell? ⟨q, 0, none⟩ = some (.pointer (some ⟨n + 2 + 1, 0, none⟩)) := (cell_of_row _ _ 0 _ _ _ hId.bA).trans rfl
    have CC := Lib.hid (chunk_any (n + 2 + 1) p d (Gm.run xs) (by omega) W.drew h1)
    unfold ChPost at CC
    obtain ⟨y0, y1, y2, y3⟩ := four73 hId.bC
    have HI := Lib.hid (And.intro hId (And.intro hK hDW))
    have HT := Lib.hid (And.intro ht (And.intro hlen hout))
    clear hI ht hlen hout hId hDW h1 h2
    unfold pt at CC
    have hm := mixed_yes
    have HBW := Lib.hid (show Bys W.drew a bs from (H2.out.2.2.2.2.2.1.below (by rw [hn]; exact HI.out.1.b)))
    have HCZ := Lib.hid (fun (bs2 : List Nat) (k2 : Nat) (hk2 : k2 < 8) (hP2 : B2.Bt.Packs k2 bs2 (Gm.run xs).out) => (show ((Gm.run xs).frm = f ∧ (Gm.run xs).last.t = t ∧ (((Gm.run xs).n : Nat) : Int) = (N : Int) ∧ bs2 = bs) ↔ ckE f t N bs xs from
      ⟨fun h => ⟨HT.out.1, h.1, h.2.1, by omega, k2, hk2, by rw [← h.2.2.2]; exact hP2⟩, fun h => ⟨h.2.1, h.2.2.1, by have := h.2.2.2.1; omega, by obtain ⟨k, hk, hP⟩ := h.2.2.2.2; exact B2.Bt.packs_unique hP2 hP hk2 hk⟩⟩))
    have HD := Lib.hid (show q + 2 ≤ D from by rw [← HS5.out]; exact hD)
    by_cases hck : ckE f t N bs xs
    · gi_wp2
      refine wpIn_region_any (by kernel_rfl) ?_
      change wpAnyIn _ _ _ _ _ _ _ _ _ (World.drew _)
      refine wpAnyIn_ready (rs := [0, 2]) (by kernel_rfl) (by simp) ?_
      refine AllReadyIn.cons rfl (fun K hK => ?_) ?_
      · go_simp
        refine hK _ _ ?_
        clear hK K
        refine wpAnyIn_ready (rs := [1, 2]) (by kernel_rfl) (by simp) ?_
        refine AllReadyIn.cons rfl (fun K hK => ?_) ?_
        · go_simp
          refine ⟨trivial, ?_⟩
          refine (callsIn_wide.2 CC.out).mono ?_
          rintro e w5 ⟨bs2, k2, a2, cap2, g2, hk2, hP2, rfl, hRow, _, hb5⟩
          obtain ⟨z0, z1, z2, z3⟩ := four73 ((hb5.block n (by have := HI.out.1.lt; have h2 : W.drew.heap.size = W.heap.size := rfl; omega)).trans HI.out.1.bC)
          have CS := Lib.hid (same_any (Gm.run xs).frm (Gm.run xs).last.t ((Gm.run xs).n : Nat) f t N a2 a bs2 bs bs2.length bs.length cap2 cap rfl rfl w5 (B2.Row.bys hRow hP2.1).2 (HBW.out.below hb5))
          rw [decide_eq_true ((HCZ.out bs2 k2 hk2 hP2).2 hck)] at CS
          unfold chR at CS
          have HZ5 := Lib.hid hb5
          clear hk2 hP2 hRow hb5
          refine hK _ _ ?_
          clear hK K
          refine wpAnyIn_ready (rs := [2]) (by kernel_rfl) (by simp) ?_
          refine AllReadyIn.cons rfl (fun K hK => ?_) ?_
          · go_simp
            refine hK _ _ ?_
            clear hK K
            refine wpAnyIn_ready (rs := [3]) (by kernel_rfl) (by simp) ?_
            refine AllReadyIn.cons rfl (fun K hK => ?_) ?_
            · go_simp
              refine ⟨trivial, ?_⟩
              refine (callsIn_wide.2 CS.out).mono ?_
              rintro e w6 ⟨rfl, hb6⟩
              have hB6 := HZ5.out.trans (hb6.mono HZ5.out.size)
              have hr6 := (hB6.block (n + 1) (by have := HI.out.1.lt; have h2 : W.drew.heap.size = W.heap.size := rfl; omega)).trans HI.out.1.bR
              have fR6 : w6.frozen? ⟨n + 1, 0, none⟩ = false := frozen_of_row _ _ _ _ _ hr6
              have cR6 := u16_cell hr6
              have HF6 := Lib.hid (And.intro hB6 hr6)
              clear hb6 CS hB6 hr6
              refine hK _ _ ?_
              clear hK K
              refine wpAnyIn_ready (rs := [4]) (by kernel_rfl) (by simp) ?_
              refine AllReadyIn.cons rfl (fun K hK => ?_) ?_
              · go_simp
                refine hK _ _ ?_
                clear hK K
                refine wpAnyIn_done (by kernel_rfl) ?_ _
                gi_wp2
                refine ⟨by simp, .inl ⟨_, _, rfl, run_takeDeferred (ck_def HI.out.1 HI.out.2.1 HD.out HF6.out.1 _), ?_⟩⟩
                obtain ⟨e1, e2⟩ := ck_fin hn HI.out.1 HD.out HF6.out.1 HF6.out.2 0 (D := D)
                exact ⟨_, res17 rfl (u16_cell e1), .inl ⟨rfl, hck⟩, e2⟩
              exact AllReadyIn.nil
            exact AllReadyIn.nil
          exact AllReadyIn.nil
        refine AllReadyIn.cons rfl (fun K hK => ?_) ?_
        · go_simp
          refine hK _ _ ?_
          clear hK K
          refine wpAnyIn_ready (rs := [1]) (by kernel_rfl) (by simp) ?_
          refine AllReadyIn.cons rfl (fun K hK => ?_) ?_
          · go_simp
            refine ⟨trivial, ?_⟩
            refine (callsIn_wide.2 CC.out).mono ?_
            rintro e w5 ⟨bs2, k2, a2, cap2, g2, hk2, hP2, rfl, hRow, _, hb5⟩
            obtain ⟨z0, z1, z2, z3⟩ := four73 ((hb5.block n (by have := HI.out.1.lt; have h2 : W.drew.heap.size = W.heap.size := rfl; omega)).trans HI.out.1.bC)
            have CS := Lib.hid (same_any (Gm.run xs).frm (Gm.run xs).last.t ((Gm.run xs).n : Nat) f t N a2 a bs2 bs bs2.length bs.length cap2 cap rfl rfl w5 (B2.Row.bys hRow hP2.1).2 (HBW.out.below hb5))
            rw [decide_eq_true ((HCZ.out bs2 k2 hk2 hP2).2 hck)] at CS
            unfold chR at CS
            have HZ5 := Lib.hid hb5
            clear hk2 hP2 hRow hb5
            refine hK _ _ ?_
            clear hK K
            refine wpAnyIn_ready (rs := [3]) (by kernel_rfl) (by simp) ?_
            refine AllReadyIn.cons rfl (fun K hK => ?_) ?_
            · go_simp
              refine ⟨trivial, ?_⟩
              refine (callsIn_wide.2 CS.out).mono ?_
              rintro e w6 ⟨rfl, hb6⟩
              have hB6 := HZ5.out.trans (hb6.mono HZ5.out.size)
              have hr6 := (hB6.block (n + 1) (by have := HI.out.1.lt; have h2 : W.drew.heap.size = W.heap.size := rfl; omega)).trans HI.out.1.bR
              have fR6 : w6.frozen? ⟨n + 1, 0, none⟩ = false := frozen_of_row _ _ _ _ _ hr6
              have cR6 := u16_cell hr6
              have HF6 := Lib.hid (And.intro hB6 hr6)
              clear hb6 CS hB6 hr6
              refine hK _ _ ?_
              clear hK K
              refine wpAnyIn_ready (rs := [4]) (by kernel_rfl) (by simp) ?_
              refine AllReadyIn.cons rfl (fun K hK => ?_) ?_
              · go_simp
                refine hK _ _ ?_
                clear hK K
                refine wpAnyIn_done (by kernel_rfl) ?_ _
                gi_wp2
                refine ⟨by simp, .inl ⟨_, _, rfl, run_takeDeferred (ck_def HI.out.1 HI.out.2.1 HD.out HF6.out.1 _), ?_⟩⟩
                obtain ⟨e1, e2⟩ := ck_fin hn HI.out.1 HD.out HF6.out.1 HF6.out.2 0 (D := D)
                exact ⟨_, res17 rfl (u16_cell e1), .inl ⟨rfl, hck⟩, e2⟩
              exact AllReadyIn.nil
            exact AllReadyIn.nil
          exact AllReadyIn.nil
        exact AllReadyIn.nil
      refine AllReadyIn.cons rfl (fun K hK => ?_) ?_
      · go_simp
        refine hK _ _ ?_
        clear hK K
        refine wpAnyIn_ready (rs := [0]) (by kernel_rfl) (by simp) ?_
        refine AllReadyIn.cons rfl (fun K hK => ?_) ?_
        · go_simp
          refine hK _ _ ?_
          clear hK K
          refine wpAnyIn_ready (rs := [1]) (by kernel_rfl) (by simp) ?_
          refine AllReadyIn.cons rfl (fun K hK => ?_) ?_
          · go_simp
            refine ⟨trivial, ?_⟩
            refine (callsIn_wide.2 CC.out).mono ?_
            rintro e w5 ⟨bs2, k2, a2, cap2, g2, hk2, hP2, rfl, hRow, _, hb5⟩
            obtain ⟨z0, z1, z2, z3⟩ := four73 ((hb5.block n (by have := HI.out.1.lt; have h2 : W.drew.heap.size = W.heap.size := rfl; omega)).trans HI.out.1.bC)
            have CS := Lib.hid (same_any (Gm.run xs).frm (Gm.run xs).last.t ((Gm.run xs).n : Nat) f t N a2 a bs2 bs bs2.length bs.length cap2 cap rfl rfl w5 (B2.Row.bys hRow hP2.1).2 (HBW.out.below hb5))
            rw [decide_eq_true ((HCZ.out bs2 k2 hk2 hP2).2 hck)] at CS
            unfold chR at CS
            have HZ5 := Lib.hid hb5
            clear hk2 hP2 hRow hb5
            refine hK _ _ ?_
            clear hK K
            refine wpAnyIn_ready (rs := [3]) (by kernel_rfl) (by simp) ?_
            refine AllReadyIn.cons rfl (fun K hK => ?_) ?_
            · go_simp
              refine ⟨trivial, ?_⟩
              refine (callsIn_wide.2 CS.out).mono ?_
              rintro e w6 ⟨rfl, hb6⟩
              have hB6 := HZ5.out.trans (hb6.mono HZ5.out.size)
              have hr6 := (hB6.block (n + 1) (by have := HI.out.1.lt; have h2 : W.drew.heap.size = W.heap.size := rfl; omega)).trans HI.out.1.bR
              have fR6 : w6.frozen? ⟨n + 1, 0, none⟩ = false := frozen_of_row _ _ _ _ _ hr6
              have cR6 := u16_cell hr6
              have HF6 := Lib.hid (And.intro hB6 hr6)
              clear hb6 CS hB6 hr6
              refine hK _ _ ?_
              clear hK K
              refine wpAnyIn_ready (rs := [4]) (by kernel_rfl) (by simp) ?_
              refine AllReadyIn.cons rfl (fun K hK => ?_) ?_
              · go_simp
                refine hK _ _ ?_
                clear hK K
                refine wpAnyIn_done (by kernel_rfl) ?_ _
                gi_wp2
                refine ⟨by simp, .inl ⟨_, _, rfl, run_takeDeferred (ck_def HI.out.1 HI.out.2.1 HD.out HF6.out.1 _), ?_⟩⟩
                obtain ⟨e1, e2⟩ := ck_fin hn HI.out.1 HD.out HF6.out.1 HF6.out.2 0 (D := D)
                exact ⟨_, res17 rfl (u16_cell e1), .inl ⟨rfl, hck⟩, e2⟩
              exact AllReadyIn.nil
            exact AllReadyIn.nil
          exact AllReadyIn.nil
        exact AllReadyIn.nil
      exact AllReadyIn.nil
    · gi_wp2
      refine wpIn_region_any (by kernel_rfl) ?_
      change wpAnyIn _ _ _ _ _ _ _ _ _ (World.drew _)
      refine wpAnyIn_ready (rs := [0, 2]) (by kernel_rfl) (by simp) ?_
      refine AllReadyIn.cons rfl (fun K hK => ?_) ?_
      · go_simp
        refine hK _ _ ?_
        clear hK K
        refine wpAnyIn_ready (rs := [1, 2]) (by kernel_rfl) (by simp) ?_
        refine AllReadyIn.cons rfl (fun K hK => ?_) ?_
        · go_simp
          refine ⟨trivial, ?_⟩
          refine (callsIn_wide.2 CC.out).mono ?_
          rintro e w5 ⟨bs2, k2, a2, cap2, g2, hk2, hP2, rfl, hRow, _, hb5⟩
          obtain ⟨z0, z1, z2, z3⟩ := four73 ((hb5.block n (by have := HI.out.1.lt; have h2 : W.drew.heap.size = W.heap.size := rfl; omega)).trans HI.out.1.bC)
          have CS := Lib.hid (same_any (Gm.run xs).frm (Gm.run xs).last.t ((Gm.run xs).n : Nat) f t N a2 a bs2 bs bs2.length bs.length cap2 cap rfl rfl w5 (B2.Row.bys hRow hP2.1).2 (HBW.out.below hb5))
          rw [decide_eq_false (fun hh => hck ((HCZ.out bs2 k2 hk2 hP2).1 hh))] at CS
          unfold chR at CS
          have HZ5 := Lib.hid hb5
          clear hk2 hP2 hRow hb5
          refine hK _ _ ?_
          clear hK K
          refine wpAnyIn_ready (rs := [2]) (by kernel_rfl) (by simp) ?_
          refine AllReadyIn.cons rfl (fun K hK => ?_) ?_
          · go_simp
            refine hK _ _ ?_
            clear hK K
            refine wpAnyIn_ready (rs := [3]) (by kernel_rfl) (by simp) ?_
            refine AllReadyIn.cons rfl (fun K hK => ?_) ?_
            · go_simp
              refine ⟨trivial, ?_⟩
              refine (callsIn_wide.2 CS.out).mono ?_
              rintro e w6 ⟨rfl, hb6⟩
              have hB6 := HZ5.out.trans (hb6.mono HZ5.out.size)
              have hr6 := (hB6.block (n + 1) (by have := HI.out.1.lt; have h2 : W.drew.heap.size = W.heap.size := rfl; omega)).trans HI.out.1.bR
              have fR6 : w6.frozen? ⟨n + 1, 0, none⟩ = false := frozen_of_row _ _ _ _ _ hr6
              have cR6 := u16_cell hr6
              have HF6 := Lib.hid (And.intro hB6 hr6)
              clear hb6 CS hB6 hr6
              refine hK _ _ ?_
              clear hK K
              refine wpAnyIn_ready (rs := [4]) (by kernel_rfl) (by simp) ?_
              refine AllReadyIn.cons rfl (fun K hK => ?_) ?_
              · go_simp
                refine hK _ _ ?_
                clear hK K
                refine wpAnyIn_done (by kernel_rfl) ?_ _
                gi_wp2
                refine ⟨by simp, .inl ⟨_, _, rfl, run_takeDeferred (ck_def HI.out.1 HI.out.2.1 HD.out HF6.out.1 _), ?_⟩⟩
                obtain ⟨e1, e2⟩ := ck_fin hn HI.out.1 HD.out HF6.out.1 HF6.out.2 101 (D := D)
                exact ⟨_, res17 rfl (u16_cell e1), .inr ⟨rfl, hck⟩, e2⟩
              exact AllReadyIn.nil
            exact AllReadyIn.nil
          exact AllReadyIn.nil
        refine AllReadyIn.cons rfl (fun K hK => ?_) ?_
        · go_simp
          refine hK _ _ ?_
          clear hK K
          refine wpAnyIn_ready (rs := [1]) (by kernel_rfl) (by simp) ?_
          refine AllReadyIn.cons rfl (fun K hK => ?_) ?_
          · go_simp
            refine ⟨trivial, ?_⟩
            refine (callsIn_wide.2 CC.out).mono ?_
            rintro e w5 ⟨bs2, k2, a2, cap2, g2, hk2, hP2, rfl, hRow, _, hb5⟩
            obtain ⟨z0, z1, z2, z3⟩ := four73 ((hb5.block n (by have := HI.out.1.lt; have h2 : W.drew.heap.size = W.heap.size := rfl; omega)).trans HI.out.1.bC)
            have CS := Lib.hid (same_any (Gm.run xs).frm (Gm.run xs).last.t ((Gm.run xs).n : Nat) f t N a2 a bs2 bs bs2.length bs.length cap2 cap rfl rfl w5 (B2.Row.bys hRow hP2.1).2 (HBW.out.below hb5))
            rw [decide_eq_false (fun hh => hck ((HCZ.out bs2 k2 hk2 hP2).1 hh))] at CS
            unfold chR at CS
            have HZ5 := Lib.hid hb5
            clear hk2 hP2 hRow hb5
            refine hK _ _ ?_
            clear hK K
            refine wpAnyIn_ready (rs := [3]) (by kernel_rfl) (by simp) ?_
            refine AllReadyIn.cons rfl (fun K hK => ?_) ?_
            · go_simp
              refine ⟨trivial, ?_⟩
              refine (callsIn_wide.2 CS.out).mono ?_
              rintro e w6 ⟨rfl, hb6⟩
              have hB6 := HZ5.out.trans (hb6.mono HZ5.out.size)
              have hr6 := (hB6.block (n + 1) (by have := HI.out.1.lt; have h2 : W.drew.heap.size = W.heap.size := rfl; omega)).trans HI.out.1.bR
              have fR6 : w6.frozen? ⟨n + 1, 0, none⟩ = false := frozen_of_row _ _ _ _ _ hr6
              have cR6 := u16_cell hr6
              have HF6 := Lib.hid (And.intro hB6 hr6)
              clear hb6 CS hB6 hr6
              refine hK _ _ ?_
              clear hK K
              refine wpAnyIn_ready (rs := [4]) (by kernel_rfl) (by simp) ?_
              refine AllReadyIn.cons rfl (fun K hK => ?_) ?_
              · go_simp
                refine hK _ _ ?_
                clear hK K
                refine wpAnyIn_done (by kernel_rfl) ?_ _
                gi_wp2
                refine ⟨by simp, .inl ⟨_, _, rfl, run_takeDeferred (ck_def HI.out.1 HI.out.2.1 HD.out HF6.out.1 _), ?_⟩⟩
                obtain ⟨e1, e2⟩ := ck_fin hn HI.out.1 HD.out HF6.out.1 HF6.out.2 101 (D := D)
                exact ⟨_, res17 rfl (u16_cell e1), .inr ⟨rfl, hck⟩, e2⟩
              exact AllReadyIn.nil
            exact AllReadyIn.nil
          exact AllReadyIn.nil
        exact AllReadyIn.nil
      refine AllReadyIn.cons rfl (fun K hK => ?_) ?_
      · go_simp
        refine hK _ _ ?_
        clear hK K
        refine wpAnyIn_ready (rs := [0]) (by kernel_rfl) (by simp) ?_
        refine AllReadyIn.cons rfl (fun K hK => ?_) ?_
        · go_simp
          refine hK _ _ ?_
          clear hK K
          refine wpAnyIn_ready (rs := [1]) (by kernel_rfl) (by simp) ?_
          refine AllReadyIn.cons rfl (fun K hK => ?_) ?_
          · go_simp
            refine ⟨trivial, ?_⟩
            refine (callsIn_wide.2 CC.out).mono ?_
            rintro e w5 ⟨bs2, k2, a2, cap2, g2, hk2, hP2, rfl, hRow, _, hb5⟩
            obtain ⟨z0, z1, z2, z3⟩ := four73 ((hb5.block n (by have := HI.out.1.lt; have h2 : W.drew.heap.size = W.heap.size := rfl; omega)).trans HI.out.1.bC)
            have CS := Lib.hid (same_any (Gm.run xs).frm (Gm.run xs).last.t ((Gm.run xs).n : Nat) f t N a2 a bs2 bs bs2.length bs.length cap2 cap rfl rfl w5 (B2.Row.bys hRow hP2.1).2 (HBW.out.below hb5))
            rw [decide_eq_false (fun hh => hck ((HCZ.out bs2 k2 hk2 hP2).1 hh))] at CS
            unfold chR at CS
            have HZ5 := Lib.hid hb5
            clear hk2 hP2 hRow hb5
            refine hK _ _ ?_
            clear hK K
            refine wpAnyIn_ready (rs := [3]) (by kernel_rfl) (by simp) ?_
            refine AllReadyIn.cons rfl (fun K hK => ?_) ?_
            · go_simp
              refine ⟨trivial, ?_⟩
              refine (callsIn_wide.2 CS.out).mono ?_
              rintro e w6 ⟨rfl, hb6⟩
              have hB6 := HZ5.out.trans (hb6.mono HZ5.out.size)
              have hr6 := (hB6.block (n + 1) (by have := HI.out.1.lt; have h2 : W.drew.heap.size = W.heap.size := rfl; omega)).trans HI.out.1.bR
              have fR6 : w6.frozen? ⟨n + 1, 0, none⟩ = false := frozen_of_row _ _ _ _ _ hr6
              have cR6 := u16_cell hr6
              have HF6 := Lib.hid (And.intro hB6 hr6)
              clear hb6 CS hB6 hr6
              refine hK _ _ ?_
              clear hK K
              refine wpAnyIn_ready (rs := [4]) (by kernel_rfl) (by simp) ?_
              refine AllReadyIn.cons rfl (fun K hK => ?_) ?_
              · go_simp
                refine hK _ _ ?_
                clear hK K
                refine wpAnyIn_done (by kernel_rfl) ?_ _
                gi_wp2
                refine ⟨by simp, .inl ⟨_, _, rfl, run_takeDeferred (ck_def HI.out.1 HI.out.2.1 HD.out HF6.out.1 _), ?_⟩⟩
                obtain ⟨e1, e2⟩ := ck_fin hn HI.out.1 HD.out HF6.out.1 HF6.out.2 101 (D := D)
                exact ⟨_, res17 rfl (u16_cell e1), .inr ⟨rfl, hck⟩, e2⟩
              exact AllReadyIn.nil
            exact AllReadyIn.nil
          exact AllReadyIn.nil
        exact AllReadyIn.nil
      exact AllReadyIn.nil
  case stop =>
    rintro D c T pre W hD hDT hSp ⟨rfl, hx1, hx2, hx3, hx4, hx5, hx6⟩ hK
    gi_wp2
    refine ⟨by simp, .inl ⟨_, _, rfl, run_takeDeferred hK, ?_⟩⟩
    have hDn := hx2 D hDT
    have hDW := (Array.getElem?_eq_some_iff.1 hK).1
    refine ⟨_, res17 rfl (u16_cell ((World.putObj_heap_other (by omega)).trans hx5)), .inr ⟨rfl, fun h => by rw [h.1] at hx1; cases hx1⟩, ?_⟩
    rw [hn]
    exact hx6.trans ((Only.put W D _).below (by have := hx6.size; omega) (fun x hx => by simp at hx; omega))
end Go.Proofs.YtdlifcpdlbmijaaDoor
namespace Go.Proofs.YtdlifcpdlbmijaaDoor
set_option linter.unusedVariables false
set_option linter.unusedSimpArgs false
open Go.RowKit Go.PlainAid Go.Shelf
open B2 (Only Bys Row cellsOf)
open Gm (St Smp Chk)
/-- samples that one chunk has -/
structure OneC (g : List Smp) : Prop where
  ok : ∀ a ∈ g, Gm.OkS a
  inr : ∀ a ∈ g, -9007199254740992 ≤ a.t ∧ a.t ≤ 9007199254740992
  up : ∀ i (h : i + 1 < g.length), g[i].t < g[i + 1].t
  some : 1 ≤ g.length
  len : g.length ≤ 120
theorem run_last' (l : List Smp) (i : Nat) (hi : i + 1 = l.length) : (Gm.run l).last = l[i] := by
  have h := run_last l i (by omega)
  rwa [List.take_of_length_le (by omega)] at h
theorem takes_one (g : List Smp) (hi : ∀ a ∈ g, -9007199254740992 ≤ a.t ∧ a.t ≤ 9007199254740992) (hu : ∀ i (h : i + 1 < g.length), g[i].t < g[i + 1].t) (hl : g.length ≤ 120) : takesL Gm.st0 g = true := by
  have key : ∀ k, k ≤ g.length → takesL Gm.st0 (g.take k) = true := by
    intro k
    induction k with
    | zero => intro _; rfl
    | succ k ih =>
      intro hk
      have hkl : k < g.length := by omega
      rw [List.take_succ_eq_append_getElem hkl, takes_snoc, ih (by omega), Bool.true_and, decide_eq_true_eq]
      have h1 := hi _ (List.getElem_mem hkl)
      have hn : (Gm.run (g.take k)).n = k := by rw [Gm.run_n, List.length_take]; omega
      unfold apErr
      rw [if_neg (fun h => h h1), if_neg, if_neg (by omega)]
      rintro ⟨h2, h3⟩
      obtain ⟨j, rfl⟩ : ∃ j, k = j + 1 := ⟨k - 1, by omega⟩
      rw [run_last g j (by omega)] at h3
      have h4 := hu j (by omega)
      omega
  have h := key g.length (Nat.le_refl _)
  rwa [List.take_length] at h
theorem one_grp {l : List Smp} (R : Gm.Rising l) (j : Nat) (hj : j < Gm.cnt l.length) : OneC (Gm.grp l j) := by
  have hlen := Gm.grp_len l j
  have hg : ∀ r (h : r < (Gm.grp l j).length) (h2 : 120 * j + r < l.length), (Gm.grp l j)[r] = l[120 * j + r] := fun r h h2 => by
    have h3 := Gm.grp_get l j r (by omega)
    rw [List.getElem?_eq_getElem h, List.getElem?_eq_getElem h2] at h3
    injection h3
  refine ⟨fun a ha => R.ok a (Gm.grp_mem ha), fun a ha => R.inr a (Gm.grp_mem ha), fun i h => ?_, by unfold Gm.cnt at hj; omega, by omega⟩
  rw [hg i (by omega) (by omega), hg (i + 1) h (by omega)]
  exact R.up (120 * j + i) (by omega)
theorem one_out {g : List Smp} (G : OneC g) : (Gm.run g).out.length ≤ 19200 := by
  have h := out_len g G.ok g.length (Nat.le_refl _)
  rw [List.take_length] at h
  have := G.len
  omega
theorem one_bs {g : List Smp} {c : Chk} (G : OneC g) (C : Gm.IsChk g c) : c.bs.length ≤ 1000000 := by
  obtain ⟨_, _, _, k, hk, hP⟩ := C
  have h1 := hP.length
  have h2 := one_out G
  omega
theorem one_ne {g : List Smp} {c : Chk} (G : OneC g) (C : Gm.IsChk g c) : c.bs ≠ [] := by
  obtain ⟨_, _, c3, k, hk, hP⟩ := C
  intro e
  have h1 := hP.length
  rw [e] at h1
  have h0 : (Gm.run g).out = [] := List.eq_nil_of_length_eq_zero (by simp at h1; omega)
  have h2 := Gm.rdAll_run g G.ok []
  rw [h0] at h2
  have h3 := G.some
  cases g with
  | nil => simp at h3
  | cons x l =>
    have h4 : (Gm.rdNext (Gm.rd0 ([] ++ []))).2.c.2 = true := by rfl
    rw [List.length_cons] at h2
    unfold Gm.rdAll at h2
    simp only at h2
    rw [if_pos h4] at h2
    cases h2
/-- what its data says -/
theorem one_says {g : List Smp} {c : Chk} (G : OneC g) (C : Gm.IsChk g c) : c.n = g.length ∧ Gm.rdAll c.n (Gm.rd0 (B2.Bt.unpack c.bs)) = g ∧ ckE c.frm c.to c.n c.bs g := by
  obtain ⟨c1, c2, c3, k, hk, hP⟩ := C
  have hn : c.n = g.length := by rw [c3, Gm.run_n]
  refine ⟨hn, ?_, takes_one g G.inr G.up G.len, c1.symm, c2.symm, c3.symm, k, hk, hP⟩
  rw [hn, hP.2]
  exact Gm.rdAll_run g G.ok _
theorem check_good (g : List Smp) (c : Chk) (G : OneC g) (C : Gm.IsChk g c) (a : Option Addr) (cap : Nat) (w : World) (H : Bys w a c.bs) (hT : TabAt w) :
    Calls Tryd.prog 17 #[.agg (chR c.frm c.to c.n (.slice a c.bs.length cap))] w fun e w' => e = .returned (.int .u16 0) ∧ Below w.heap.size w w' := by
  obtain ⟨h1, h2, h3⟩ := one_says G C
  have hs := G.some
  have hl := G.len
  have hne := one_ne G C
  have ha : a ≠ none := by
    obtain ⟨b, off, e, _⟩ := H.2.2 hne
    rw [e]
    simp
  refine (check_any c.frm c.to c.n a c.bs cap (fun h => absurd h ha) (one_bs G C) ⟨by omega, by omega⟩ w H hT g h2).mono ?_
  rintro e w' ⟨(⟨rfl, _⟩ | ⟨_, hn⟩), hb⟩
  · exact ⟨rfl, hb⟩
  · exact absurd h3 hn
end Go.Proofs.YtdlifcpdlbmijaaDoor
namespace Go.Proofs.YtdlifcpdlbmijaaDoor
set_option linter.unusedVariables false
set_option linter.unusedSimpArgs false
open Go.RowKit Go.PlainAid Go.Shelf
open Gm (St Smp Chk Dr)
theorem takes_at {L : List Smp} (h : takesL Gm.st0 L = true) (i : Nat) (hi : i < L.length) : apErr (Gm.run (L.take i)) L[i] = 0 := by
  have h1 := takes_pre (List.take_prefix (i + 1) L) h
  rw [List.take_succ_eq_append_getElem hi, takes_snoc, Bool.and_eq_true, decide_eq_true_eq] at h1
  exact h1.2
theorem takes_oneC {L : List Smp} (hok : ∀ a ∈ L, Gm.OkS a) (h : takesL Gm.st0 L = true) (hs : 1 ≤ L.length) : OneC L := by
  have key : ∀ i (hi : i < L.length), (-9007199254740992 ≤ L[i].t ∧ L[i].t ≤ 9007199254740992) ∧ (∀ h0 : 0 < i, (L[i - 1]'(by omega)).t < L[i].t) ∧ i ≠ 120 := by
    intro i hi
    have h1 := takes_at h i hi
    unfold apErr at h1
    have hn := run_len L i (by omega)
    by_cases hr : -9007199254740992 ≤ L[i].t ∧ L[i].t ≤ 9007199254740992
    · rw [if_neg (by simpa using hr)] at h1
      refine ⟨hr, fun h0 => ?_, fun he => ?_⟩
      · by_cases hx : 0 < (Gm.run (L.take i)).n ∧ L[i].t ≤ (Gm.run (L.take i)).last.t
        · rw [if_pos hx] at h1; omega
        · obtain ⟨j, rfl⟩ : ∃ j, i = j + 1 := ⟨i - 1, by omega⟩
          have hl := run_last L j (by omega)
          rw [hl, hn] at hx
          show L[j].t < _
          omega
      · split at h1
        · omega
        · rw [if_pos (by omega)] at h1; omega
    · rw [if_pos (by simpa using hr)] at h1; omega
  refine ⟨hok, fun a ha => ?_, fun i hi => ?_, hs, ?_⟩
  · obtain ⟨i, hi, rfl⟩ := List.getElem_of_mem ha
    exact (key i hi).1
  · exact (key (i + 1) hi).2.1 (by omega)
  · by_cases hx : L.length ≤ 120
    · exact hx
    · exact absurd rfl (key 120 (by omega)).2.2
/-- the program's reader says so just of chunks -/
theorem ck_iff (f t : Int) (N : Nat) (bs : List Nat) (hN : 1 ≤ N) : ckE f t N bs (Gm.rdAll N (Gm.rd0 (B2.Bt.unpack bs))) ↔ ∃ g, OneC g ∧ Gm.IsChk g ⟨f, t, N, bs⟩ := by
  constructor
  · rintro ⟨h1, h2, h3, h4, h5⟩
    have hn := h4
    rw [Gm.run_n] at hn
    exact ⟨_, takes_oneC (rdAll_ok N _ (rd0_I _)) h1 (by omega), h2.symm, h3.symm, h4.symm, h5⟩
  · rintro ⟨g, G, C⟩
    obtain ⟨h1, h2, h3⟩ := one_says G C
    rw [show Gm.rdAll N (Gm.rd0 (B2.Bt.unpack bs)) = g from h2]
    exact h3
/-- what the document's reader may be -/
structure DrI (d : Dr) : Prop where
  t : -9223372036854775808 ≤ d.t ∧ d.t ≤ 9223372036854775807
  v : d.v < 18446744073709551616
  step : d.step < 18446744073709551616
  win : d.lf + d.rt ≤ 63
theorem wI_bd (x : Int) : -9223372036854775808 ≤ Gm.wI x ∧ Gm.wI x ≤ 9223372036854775807 := by unfold Gm.wI; omega
theorem rO_lt {k : Nat} {S : List Bool} {r : Nat × List Bool} (h : Gm.rO k S = some r) : r.1 < 2 ^ k := by
  unfold Gm.rO at h
  split at h
  · simp at h
  · simp only [Option.some.injEq] at h
    rw [← h]
    have h1 := B2.Bt.val_lt (S.take k)
    rw [List.length_take] at h1
    exact Nat.lt_of_lt_of_le h1 (Nat.pow_le_pow_right (by decide) (Nat.min_le_left _ _))
theorem vO_lt {S : List Bool} {r : Nat × List Bool} (h : Gm.vO S = some r) : r.1 < 18446744073709551616 := by
  unfold Gm.vO at h
  split at h
  · simp only [Option.some.injEq] at h
    rw [← h]
    exact B2.Bt.rv_lt S
  · simp at h
theorem xO_I {d e : Dr} {w : Nat × Nat × List Bool} (h : Gm.xO d w = some e) (hd : DrI d) (hw : w.1 + w.2.1 ≤ 63) : DrI e ∧ e.t = d.t ∧ e.step = d.step := by
  unfold Gm.xO at h
  cases hx : Gm.rO (64 - w.1 - w.2.1) w.2.2 with
  | none => rw [hx] at h; simp at h
  | some x =>
    rw [hx] at h
    simp only [Option.map_some, Option.some.injEq] at h
    rw [← h]
    exact ⟨⟨hd.t, Gm.xor_lt64 hd.v (Nat.mod_lt _ (by decide)), hd.step, hw⟩, rfl, rfl⟩
theorem wO_I {S : List Bool} {w : Nat × Nat × List Bool} (h : Gm.wO S = some w) : w.1 + w.2.1 ≤ 63 := by
  unfold Gm.wO at h
  cases hx : Gm.rO 5 S with
  | none => rw [hx] at h; simp at h
  | some x =>
    rw [hx] at h
    simp only [Option.bind_some] at h
    cases hy : Gm.rO 6 x.2 with
    | none => rw [hy] at h; simp at h
    | some y =>
      rw [hy] at h
      simp only [Option.bind_some] at h
      split at h
      · simp at h
      · simp only [Option.some.injEq] at h
        rw [← h]
        show x.1 + (63 - x.1 - y.1) ≤ 63
        omega
theorem nO_I {d e : Dr} (h : Gm.nO d = some e) (hd : DrI d) : DrI e := by
  unfold Gm.nO at h
  cases hb : Gm.rO 1 d.S with
  | none => rw [hb] at h; simp at h
  | some b =>
    rw [hb] at h
    simp only [Option.bind_some] at h
    by_cases h1 : b.1 = 1
    · rw [if_pos h1] at h
      cases hu : Gm.rO 1 b.2 with
      | none => rw [hu] at h; simp at h
      | some u =>
        rw [hu] at h
        simp only [Option.bind_some] at h
        by_cases h2 : u.1 = 1
        · rw [if_pos h2] at h
          cases hw : Gm.wO u.2 with
          | none => rw [hw] at h; simp at h
          | some w =>
            rw [hw] at h
            simp only [Option.bind_some] at h
            exact (xO_I h hd (wO_I hw)).1
        · rw [if_neg h2] at h
          simp only [Option.bind_some] at h
          exact (xO_I h hd hd.win).1
    · rw [if_neg h1] at h
      simp only [Option.some.injEq] at h
      rw [← h]
      exact ⟨hd.t, hd.v, hd.step, hd.win⟩
theorem tO_lt {n step : Nat} {S : List Bool} {r : Nat × List Bool} (h : Gm.tO n step S = some r) : r.1 < 18446744073709551616 := by
  unfold Gm.tO at h
  split at h
  · exact vO_lt h
  · cases hc : Gm.chO 4 S with
    | none => rw [hc] at h; simp at h
    | some c =>
      rw [hc] at h
      simp only [Option.map_some, Option.some.injEq] at h
      rw [← h]
      exact Nat.mod_lt _ (by decide)
theorem dNext_I {n : Nat} {d e : Dr} (h : Gm.dNext n d = some e) (hd : DrI d) : DrI e := by
  unfold Gm.dNext at h
  cases ht : Gm.tO n d.step d.S with
  | none => rw [ht] at h; simp at h
  | some r =>
    rw [ht] at h
    simp only [Option.bind_some] at h
    exact nO_I h ⟨wI_bd _, hd.v, tO_lt ht, hd.win⟩
theorem dFst_I {S : List Bool} {d : Dr} (h : Gm.dFst S = some d) : DrI d := by
  unfold Gm.dFst at h
  cases ha : Gm.vO S with
  | none => rw [ha] at h; simp at h
  | some a =>
    rw [ha] at h
    simp only [Option.bind_some] at h
    cases hv : Gm.rO 64 a.2 with
    | none => rw [hv] at h; simp at h
    | some v =>
      rw [hv] at h
      simp only [Option.map_some, Option.some.injEq] at h
      rw [← h]
      exact ⟨B2.Bt.uz_bd _ (vO_lt ha), by have := rO_lt hv; simp only at *; omega, by show 0 < _; decide, by show 0 + 0 ≤ 63; decide⟩
theorem dIt_I (B : List Bool) (j : Nat) (l : List Smp) (d : Dr) (h : Gm.dIt j B = some (l, d)) : DrI d ∧ (∀ a ∈ l, Gm.OkS a) := by
  induction j generalizing l d with
  | zero =>
    unfold Gm.dIt at h
    cases hf : Gm.dFst B with
    | none => rw [hf] at h; simp at h
    | some s =>
      rw [hf] at h
      simp only [Option.map_some, Option.some.injEq, Prod.mk.injEq] at h
      have hI := dFst_I hf
      rw [← h.1, ← h.2]
      refine ⟨hI, fun a ha => ?_⟩
      simp only [List.mem_singleton] at ha
      rw [ha]
      exact ⟨hI.t.1, hI.t.2, hI.v⟩
  | succ j ih =>
    unfold Gm.dIt at h
    cases hf : Gm.dIt j B with
    | none => rw [hf] at h; simp at h
    | some r =>
      rw [hf] at h
      simp only [Option.bind_some] at h
      obtain ⟨i1, i2⟩ := ih r.1 r.2 hf
      cases hg : Gm.dNext (j + 1) r.2 with
      | none => rw [hg] at h; simp at h
      | some s =>
        rw [hg] at h
        simp only [Option.map_some, Option.some.injEq, Prod.mk.injEq] at h
        have hI := dNext_I hg i1
        rw [← h.1, ← h.2]
        refine ⟨hI, fun a ha => ?_⟩
        rw [List.mem_append, List.mem_singleton] at ha
        rcases ha with ha | ha
        · exact i2 a ha
        · rw [ha]
          exact ⟨hI.t.1, hI.t.2, hI.v⟩
/-- the error of samples by the document -/
def upTo (l : List Smp) : Bool := (List.range (l.length - 1)).all fun i => decide ((l.getD i ⟨0, 0⟩).t < (l.getD (i + 1) ⟨0, 0⟩).t)
theorem upTo_iff (l : List Smp) : upTo l = true ↔ ∀ i (h : i + 1 < l.length), l[i].t < l[i + 1].t := by
  unfold upTo
  rw [List.all_eq_true]
  constructor
  · intro h i hi
    have h1 := of_decide_eq_true (h i (by rw [List.mem_range]; omega))
    rwa [getD_is l i (by omega), getD_is l (i + 1) hi] at h1
  · intro h i hi
    rw [List.mem_range] at hi
    refine decide_eq_true ?_
    rw [getD_is l i (by omega), getD_is l (i + 1) (by omega)]
    exact h i (by omega)
def inTo (l : List Smp) : Bool := l.all fun a => decide (-9007199254740992 ≤ a.t ∧ a.t ≤ 9007199254740992)
theorem inTo_iff (l : List Smp) : inTo l = true ↔ ∀ a ∈ l, -9007199254740992 ≤ a.t ∧ a.t ≤ 9007199254740992 := by
  unfold inTo
  rw [List.all_eq_true]
  exact forall_congr' fun a => forall_congr' fun _ => decide_eq_true_iff
def fitE (l : List Smp) : Nat := if inTo l = true then (if upTo l = true then 0 else 100) else 2
/-- the document's reader says so just of chunks -/
def dcE (f t : Int) (N : Nat) (bs : List Nat) (l : List Smp) : Prop :=
  fitE l = 0 ∧ (Gm.run l).frm = f ∧ (Gm.run l).last.t = t ∧ ∃ k, k < 8 ∧ B2.Bt.Packs k bs (Gm.run l).out
theorem dc_iff (f t : Int) (N : Nat) (bs : List Nat) (hN : 1 ≤ N) (hN2 : N ≤ 120) (g : List Smp) : (∃ d, Gm.dIt (N - 1) (B2.Bt.unpack bs) = some (g, d) ∧ dcE f t N bs g) ↔ OneC g ∧ Gm.IsChk g ⟨f, t, N, bs⟩ := by
  constructor
  · rintro ⟨d, h1, h2, h3, h4, h5⟩
    have hl := Gm.dIt_len _ _ _ _ h1
    obtain ⟨_, hok⟩ := dIt_I _ _ _ _ h1
    unfold fitE at h2
    split at h2
    · rename_i hr
      split at h2
      · rename_i hu
        exact ⟨⟨hok, (inTo_iff g).1 hr, (upTo_iff g).1 hu, by omega, by omega⟩, h3.symm, h4.symm, by rw [Gm.run_n]; show N = _; omega, h5⟩
      · omega
    · omega
  · rintro ⟨G, C⟩
    obtain ⟨c1, c2, c3, k, hk, hP⟩ := C
    simp only at c1 c2 c3 hP
    have hn : N = g.length := by rw [c3, Gm.run_n]
    obtain ⟨d, h1, _⟩ := Gm.dIt_run g G.ok (List.replicate k false) (N - 1) (by omega)
    rw [← hP.2] at h1
    rw [show N - 1 + 1 = g.length by omega, List.take_length] at h1
    refine ⟨d, h1, ?_, c1.symm, c2.symm, k, hk, hP⟩
    unfold fitE
    rw [if_pos ((inTo_iff g).2 G.inr), if_pos ((upTo_iff g).2 G.up)]
end Go.Proofs.YtdlifcpdlbmijaaDoor
namespace Go.Proofs.YtdlifcpdlbmijaaDoor
set_option linter.unusedVariables false
set_option linter.unusedSimpArgs false
open Go.RowKit Go.PlainAid Go.Shelf
open B2 (Only Bys Row cellsOf)
open Gm (St Smp Dr)
theorem fitE_far {l : List Smp} (i : Nat) (hi : i < l.length) (h : ¬ (-9007199254740992 ≤ l[i].t ∧ l[i].t ≤ 9007199254740992)) : fitE l = 2 := by
  unfold fitE
  rw [if_neg]
  intro h1
  exact h ((inTo_iff l).1 h1 _ (List.getElem_mem hi))
theorem fitE_no {l : List Smp} (hr : ∀ i (hi : i < l.length), -9007199254740992 ≤ l[i].t ∧ l[i].t ≤ 9007199254740992) (i : Nat) (hi : i + 1 < l.length) (h : l[i + 1].t ≤ l[i].t) : fitE l = 100 := by
  unfold fitE
  rw [if_pos ((inTo_iff l).2 fun a ha => by obtain ⟨i, hi, rfl⟩ := List.getElem_of_mem ha; exact hr i hi), if_neg]
  intro h1
  have := (upTo_iff l).1 h1 i hi
  omega
theorem fitE_ok {l : List Smp} (hr : ∀ i (hi : i < l.length), -9007199254740992 ≤ l[i].t ∧ l[i].t ≤ 9007199254740992) (hu : ∀ i (hi : i + 1 < l.length), l[i].t < l[i + 1].t) : fitE l = 0 := by
  unfold fitE
  rw [if_pos ((inTo_iff l).2 fun a ha => by obtain ⟨i, hi, rfl⟩ := List.getElem_of_mem ha; exact hr i hi), if_pos ((upTo_iff l).2 hu)]
set_option maxHeartbeats 8000000 in
set_option maxRecDepth 100000 in
theorem fits_any (a : Option Addr) (n c : Nat) (l : List Smp) (hn : l.length = n) (hz : n ≤ 1000000) (w : World) (H : Sms w a l) :
    Calls Tryd.prog 73 #[.slice a n c] w fun e w' => e = .returned (.int .u16 ((fitE l : Nat) : Int)) ∧ Below w.heap.size w w' := by
  have HL := Lib.hid (And.intro H (And.intro hn hz))
  clear H hn
  go_enter Tryd.func73, Tryd.ntmps73
  go_wp2_with fail
  go_loopw [3] (fun i wr => ∃ k : Nat, k ≤ n ∧ i = .int .i64 (k : Nat) ∧ Hid ((∀ i (hi : i < l.length), i < k → -9007199254740992 ≤ l[i].t ∧ l[i].t ≤ 9007199254740992) ∧ Below w.heap.size w wr)) (fun i _ => n - (intOf i).toNat)
  case atStart => exact ⟨0, Nat.zero_le _, rfl, Lib.hid ⟨fun i hi h => by omega, Below.refl _ _⟩⟩
  case round =>
    obtain ⟨k, hk, rfl, HI⟩ := hrel
    by_cases hlt : k < n
    · have da : decide ((k : Int) < (n : Int)) = true := decide_eq_true (by omega)
      have da2 : decide (k < n) = true := decide_eq_true hlt
      have hkl : k < l.length := by rw [HL.out.2.1]; exact hlt
      obtain ⟨b1, o1, rfl, hl1, hc1⟩ := (HL.out.1.below HI.out.2) (by intro e; rw [e] at hkl; simp at hkl)
      have p1 := (hc1 k hkl).1
      by_cases hlo : l[k].t < -9007199254740992
      · have HE := Lib.hid (fitE_far k hkl (by omega))
        obtain ⟨T1, hT1⟩ : ∃ T1, l[k].t = T1 := ⟨_, rfl⟩
        rw [hT1] at p1 hlo
        have d1 : decide (T1 < -9007199254740992) = true := decide_eq_true hlo
        clear hc1 hT1 hkl
        go_wp2_with fail
        go_ret
        exact ⟨by rw [HE.out]; rfl, HI.out.2⟩
      · by_cases hhi : 9007199254740992 < l[k].t
        · have HE := Lib.hid (fitE_far k hkl (by omega))
          obtain ⟨T1, hT1⟩ : ∃ T1, l[k].t = T1 := ⟨_, rfl⟩
          rw [hT1] at p1 hlo hhi
          have d1 : decide (T1 < -9007199254740992) = false := decide_eq_false hlo
          have d2 : decide (T1 > 9007199254740992) = true := decide_eq_true hhi
          clear hc1 hT1 hkl
          go_wp2_with fail
          go_ret
          exact ⟨by rw [HE.out]; rfl, HI.out.2⟩
        · have HN := Lib.hid (show ((∀ i (hi : i < l.length), i < k + 1 → -9007199254740992 ≤ l[i].t ∧ l[i].t ≤ 9007199254740992) ∧ Below w.heap.size w wr) from ⟨fun i hi h => by
            by_cases e : i = k
            · subst e; omega
            · exact HI.out.1 i hi (by omega), HI.out.2⟩)
          obtain ⟨T1, hT1⟩ : ∃ T1, l[k].t = T1 := ⟨_, rfl⟩
          rw [hT1] at p1 hlo hhi
          have d1 : decide (T1 < -9007199254740992) = false := decide_eq_false hlo
          have d2 : decide (T1 > 9007199254740992) = false := decide_eq_false hhi
          clear hc1 hT1 hkl
          go_wp2_with fail
          go_roundw
          case rel => exact ⟨k + 1, by omega, by go_num, HN⟩
          case measure => simp [intOf]; omega
    · obtain rfl : k = n := by omega
      have da : decide ((k : Int) < (k : Int)) = false := decide_eq_false (by omega)
      have da2 : decide (k < k) = false := decide_eq_false (by omega)
      have HR := Lib.hid (show ∀ i (hi : i < l.length), -9007199254740992 ≤ l[i].t ∧ l[i].t ≤ 9007199254740992 from fun i hi => HI.out.1 i hi (by have := HL.out.2.1; omega))
      have HB0 := Lib.hid HI.out.2
      clear HI
      obtain ⟨wq, hwq⟩ : ∃ wq, wq = wr := ⟨_, rfl⟩
      subst hwq
      go_wp2_with fail
      go_loopw [4] (fun i wr => ∃ j : Nat, 1 ≤ j ∧ j ≤ k + 1 ∧ i = .int .i64 (j : Nat) ∧ Hid ((∀ i (hi : i + 1 < l.length), i + 1 < j → l[i].t < l[i + 1].t) ∧ Below w.heap.size w wr)) (fun i _ => k + 1 - (intOf i).toNat)
      case atStart => exact ⟨1, by omega, by omega, by simp, Lib.hid ⟨fun i hi h => by omega, HB0.out⟩⟩
      case round =>
        obtain ⟨j, hj1, hj2, rfl, HJ⟩ := hrel
        by_cases hjl : j < k
        · have ea : decide ((j : Int) < (k : Int)) = true := decide_eq_true (by omega)
          have ea2 : decide (j < k) = true := decide_eq_true hjl
          obtain ⟨q, rfl⟩ : ∃ q, j = q + 1 := ⟨j - 1, by omega⟩
          have hkl : q + 1 < l.length := by rw [HL.out.2.1]; exact hjl
          have hbd : Below w.heap.size w wr.drew := HJ.out.2.trans ((drew_below wr).mono HJ.out.2.size)
          obtain ⟨b1, o1, rfl, hl1, hc1⟩ := (HL.out.1.below hbd) (by intro e; rw [e] at hkl; simp at hkl)
          have p1 := (hc1 (q + 1) hkl).1
          have p2 := (hc1 q (by omega)).1
          have hsub : ((q + 1 : Nat) : Int) - 1 = (q : Int) := by omega
          have HBD := Lib.hid hbd
          have hq0 : (0 : Int) ≤ (q : Int) := by omega
          have hqn : (q : Int) < (k : Int) := by omega
          have hqw : IntKind.i64.wrap (q : Int) = (q : Int) := by rw [i64_is]; unfold RowKit.wrap64; omega
          have hqk : q < k := by omega
          by_cases hle : l[q + 1].t ≤ l[q].t
          · have HE := Lib.hid (fitE_no HR.out q hkl hle)
            obtain ⟨T1, hT1⟩ : ∃ T1, l[q + 1].t = T1 := ⟨_, rfl⟩
            obtain ⟨T0, hT0⟩ : ∃ T0, l[q].t = T0 := ⟨_, rfl⟩
            rw [hT1] at p1 hle
            rw [hT0] at p2 hle
            have dl : decide (T1 ≤ T0) = true := decide_eq_true hle
            obtain ⟨m, hm⟩ : ∃ m, q + 1 = m := ⟨_, rfl⟩
            rw [hm] at p1 hsub ea ea2 hjl hj1 hj2 ⊢
            clear hc1 hT1 hT0 hkl hbd hm
            go_wp2_with fail
            go_region
            all_goals go_wp2_with fail
            all_goals go_ret
            all_goals exact ⟨by rw [HE.out]; rfl, HBD.out⟩
          · have HN := Lib.hid (show (∀ i (hi : i + 1 < l.length), i + 1 < q + 1 + 1 → l[i].t < l[i + 1].t) from fun i hi h => by
              by_cases e : i = q
              · subst e; omega
              · exact HJ.out.1 i hi (by omega))
            obtain ⟨T1, hT1⟩ : ∃ T1, l[q + 1].t = T1 := ⟨_, rfl⟩
            obtain ⟨T0, hT0⟩ : ∃ T0, l[q].t = T0 := ⟨_, rfl⟩
            rw [hT1] at p1 hle
            rw [hT0] at p2 hle
            have dl : decide (T1 ≤ T0) = false := decide_eq_false hle
            obtain ⟨m, hm⟩ : ∃ m, q + 1 = m := ⟨_, rfl⟩
            rw [hm] at p1 hsub ea ea2 hjl hj1 hj2 HN ⊢
            clear hc1 hT1 hT0 hbd hm
            go_wp2_with fail
            go_region
            all_goals go_wp2_with fail
            all_goals go_roundw
            case rel => exact ⟨m + 1, by omega, by omega, by go_num, Lib.hid ⟨HN.out, HBD.out⟩⟩
            case measure => simp [intOf]; omega
        · have ea : decide ((j : Int) < (k : Int)) = false := decide_eq_false (by omega)
          have ea2 : decide (j < k) = false := decide_eq_false hjl
          have HE := Lib.hid (fitE_ok HR.out fun i hi => HJ.out.1 i hi (by have := HL.out.2.1; omega))
          go_wp2_with fail
          go_ret
          exact ⟨by rw [HE.out]; rfl, HJ.out.2⟩
end Go.Proofs.YtdlifcpdlbmijaaDoor
namespace Go.Proofs.YtdlifcpdlbmijaaDoor
set_option linter.unusedVariables false
set_option linter.unusedSimpArgs false
open Go.RowKit Go.PlainAid Go.Shelf
open B2 (Only Bys Row cellsOf Rf)
open Gm (St Smp Dr)
/-- what stands in memory while the document reads a chunk: n: the boxed chunk, p g: its reader, q: from here on lie the samples -/
structure AlM (n p g q : Nat) (ch : Array Value) (B : List Bool) (w : World) (at_ : Nat) (v : Value) (l : List Smp) (W : World) : Prop where
  rf : Rf W p g B at_
  own : OwnS W q v l
  box : W.heap[n]? = some (.cells ch 73 (0, 0))
  bel : Below n w W
  sz : q ≤ W.heap.size
  ne : n < p ∧ p < q ∧ n < q ∧ g < q
theorem AlM.rd {n p g q at_ at' : Nat} {ch : Array Value} {B : List Bool} {w W W' : World} {v : Value} {l : List Smp} (h : AlM n p g q ch B w at_ v l W) (hr : Rf W' p g B at') (ho : Only [p] W W') : AlM n p g q ch B w at' v l W' := by
  have hne := h.ne
  have hb := (Array.getElem?_eq_some_iff.1 h.box).1
  refine ⟨hr, B2.owns_only h.own ho (fun b hg => ?_), (ho.block n hb (by simp; omega)).trans h.box, h.bel.trans (ho.below (by omega) (by intro x hx; simp at hx; omega)), Nat.le_trans h.sz ho.size, hne⟩
  have h2 := (h.own.lt b hg).1
  simp; omega
theorem AlM.add {n p g q at_ : Nat} {ch : Array Value} {B : List Bool} {w W W' : World} {v v' : Value} {l l' : List Smp} {o : Obj} (h : AlM n p g q ch B w at_ v l W) (hown : OwnS W' q v' l') (hg : (W.alloc o).grownBy W' v.ownBlock) : AlM n p g q ch B w at_ v' l' W' := by
  have hne := h.ne
  have hb := (Array.getElem?_eq_some_iff.1 h.box).1
  have hsz := h.sz
  have hlt := h.rf.lt
  have hv : ∀ k, v.ownBlock = some k → q ≤ k := fun k hk => (h.own.lt k hk).1
  have hO : Only v.ownBlock.toList W W' := ((Only.refl _ W).alloc o).grown hg (fun k hk => .inl (by simp [hk]))
  have hnot : ∀ x, x < q → x ∉ v.ownBlock.toList := fun x hx hm => by
    have := hv x (by simpa using hm)
    omega
  exact ⟨h.rf.only hO (hnot _ (by omega)) (hnot _ (by omega)), hown, (hO.block n hb (hnot _ (by omega))).trans h.box, h.bel.trans (hO.below (by omega) (fun x hx => by have := hv x (by simpa using hx); omega)), Nat.le_trans hsz hO.size, hne⟩
/-- samples that the chunk says -/
def IsC (g : List Smp) (f t N : Int) (bs : List Nat) : Prop := OneC g ∧ N = (g.length : Int) ∧ Gm.IsChk g ⟨f, t, g.length, bs⟩
/-- what the document's All gives -/
def AlPost (w : World) (f t N : Int) (bs : List Nat) (e : Ending) (w' : World) : Prop :=
  Below w.heap.size w w' ∧ ((∃ g v, e = .returned (.tuple #[v, .bool true]) ∧ OwnS w' w.heap.size v g ∧ IsC g f t N bs) ∨ (∃ a n c, e = .returned (.tuple #[.slice a n c, .bool false]) ∧ ¬ ∃ g, IsC g f t N bs))
theorem no_isC {f t : Int} {M j : Nat} {bs : List Nat} (hM : M ≤ 120) (hj : j + 1 ≤ M) (h : Gm.dIt j (B2.Bt.unpack bs) = none) : ¬ ∃ g, IsC g f t ((M : Nat) : Int) bs := by
  rintro ⟨g, G, hn, C⟩
  have hl : M = g.length := by omega
  obtain ⟨d, h1, _⟩ := (dc_iff f t g.length bs (by omega) (by omega) g).2 ⟨G, C⟩
  rw [Gm.dIt_none _ j (g.length - 1) (by omega) h] at h1
  cases h1
theorem nO_e {d : Dr} (h : Gm.rO 1 d.S = none) : Gm.nO d = none := by unfold Gm.nO; rw [h]; rfl
theorem nO_same {d : Dr} {S1 : List Bool} (h : Gm.rO 1 d.S = some (0, S1)) : Gm.nO d = some { d with S := S1 } := by unfold Gm.nO; rw [h]; rfl
theorem nO_e2 {d : Dr} {S1 : List Bool} (h : Gm.rO 1 d.S = some (1, S1)) (h2 : Gm.rO 1 S1 = none) : Gm.nO d = none := by unfold Gm.nO; rw [h]; simp [h2]
theorem nO_old {d : Dr} {S1 S2 : List Bool} (h : Gm.rO 1 d.S = some (1, S1)) (h2 : Gm.rO 1 S1 = some (0, S2)) : Gm.nO d = Gm.xO d (d.lf, d.rt, S2) := by unfold Gm.nO; rw [h]; simp [h2]
theorem nO_new {d : Dr} {S1 S2 : List Bool} (h : Gm.rO 1 d.S = some (1, S1)) (h2 : Gm.rO 1 S1 = some (1, S2)) : Gm.nO d = (Gm.wO S2).bind (Gm.xO d) := by unfold Gm.nO; rw [h]; simp [h2]
theorem wO_e {S : List Bool} (h : Gm.rO 5 S = none) : Gm.wO S = none := by unfold Gm.wO; rw [h]; rfl
theorem wO_e2 {S S1 : List Bool} {x : Nat} (h : Gm.rO 5 S = some (x, S1)) (h2 : Gm.rO 6 S1 = none) : Gm.wO S = none := by unfold Gm.wO; rw [h]; simp [h2]
theorem wO_far {S S1 S2 : List Bool} {x y : Nat} (h : Gm.rO 5 S = some (x, S1)) (h2 : Gm.rO 6 S1 = some (y, S2)) (h3 : 63 < x + y) : Gm.wO S = none := by unfold Gm.wO; rw [h]; simp [h2, h3]
theorem wO_ok {S S1 S2 : List Bool} {x y : Nat} (h : Gm.rO 5 S = some (x, S1)) (h2 : Gm.rO 6 S1 = some (y, S2)) (h3 : ¬ 63 < x + y) : Gm.wO S = some (x, 63 - x - y, S2) := by unfold Gm.wO; rw [h]; simp [h2, h3]
theorem xO_e {d : Dr} {L R : Nat} {S : List Bool} (h : Gm.rO (64 - L - R) S = none) : Gm.xO d (L, R, S) = none := by unfold Gm.xO; simp [h]
theorem xO_ok {d : Dr} {L R x : Nat} {S S1 : List Bool} (h : Gm.rO (64 - L - R) S = some (x, S1)) : Gm.xO d (L, R, S) = some { d with v := d.v ^^^ ((x <<< R) % 18446744073709551616), lf := L, rt := R, S := S1 } := by unfold Gm.xO; simp [h]
def lenV : Value → Nat | .slice _ n _ => n | _ => 0
theorem shl_word (X R : Nat) (hR : R ≤ 64) : IntKind.u64.wrap ((X : Int) * 2 ^ R) = (((X <<< R) % 18446744073709551616 : Nat) : Int) := by
  rw [Nat.shiftLeft_eq]
  show ((X : Int) * 2 ^ R) % 18446744073709551616 = _
  have hc : ((X : Int) * 2 ^ R) = ((X * 2 ^ R : Nat) : Int) := by
    rw [Int.natCast_mul, Int.natCast_pow]
    rfl
  rw [hc]
  omega
theorem time_word (T : Int) (s : Nat) (hs : s < 18446744073709551616) : IntKind.i64.wrap (IntKind.u64.wrap (IntKind.u64.wrap T + (s : Int))) = Gm.wI (T + Gm.i64 s) := by
  rw [i64_is, IntKind.wrap_u64, IntKind.wrap_u64]
  unfold RowKit.wrap64 Gm.wI Gm.i64
  split <;> omega
theorem own_row {W : World} {q n : Nat} {v : Value} {l : List Smp} (h : OwnS W q v l) (hn : l.length = n) : W.ownsRow q 70 2 v n (smC l) := by
  unfold OwnS at h
  rw [hn] at h
  exact h
end Go.Proofs.YtdlifcpdlbmijaaDoor
namespace Go.Proofs.YtdlifcpdlbmijaaDoor
set_option linter.unusedVariables false
set_option linter.unusedSimpArgs false
open Go.RowKit Go.PlainAid Go.Shelf
open B2 (Only Wr PutPost Bys Row cellsOf Rf RfPost)
open Gm (St Smp)
def lefI (ws we : Nat) : Int := if we = 0 then -1 else ((ws : Nat) : Int)
def rigI (we : Nat) : Int := if we = 0 then -1 else ((64 - we : Nat) : Int)
theorem cs_new (w : World) : Cs w (w.alloc (.cells #[.slice none 0 0, .int .i64 0] 165)) w.heap.size [] := by
  have hb2 := (Below.refl w.heap.size w).alloc (Nat.le_refl _) (.cells #[.slice none 0 0, .int .i64 0] 165)
  have hr := heap_alloc_new w (.cells #[.slice none 0 0, .int .i64 0] 165)
  refine ⟨Nat.le_refl _, hb2, w.heap.size, Nat.le_refl _, .slice none 0 0, hr, Row.nil _ _, .inl rfl, ?_⟩
  simp
theorem keep2 {W : World} {b m N : Nat} {x y v0 v1 v2 v3 : Value} (hne : b ≠ N) (h : W.cell? ⟨b, 0, none⟩ = some x ∧ W.cell? ⟨b, m * 2, none⟩ = some y) :
    (((((W.setCell ⟨N, 0, none⟩ v0).setCell ⟨N, 1, none⟩ v1).setCell ⟨N, 2, none⟩ v2).setCell ⟨N, 3, none⟩ v3).cell? ⟨b, 0, none⟩ = some x) ∧ (((((W.setCell ⟨N, 0, none⟩ v0).setCell ⟨N, 1, none⟩ v1).setCell ⟨N, 2, none⟩ v2).setCell ⟨N, 3, none⟩ v3).cell? ⟨b, m * 2, none⟩ = some y) := by
  have hO := ((((Only.refl [N] W).setCell (p := ⟨N, 0, none⟩) (.inl (by simp)) v0).setCell (p := ⟨N, 1, none⟩) (.inl (by simp)) v1).setCell (p := ⟨N, 2, none⟩) (.inl (by simp)) v2).setCell (p := ⟨N, 3, none⟩) (.inl (by simp)) v3
  exact ⟨Only_cell hO h.1 (by simpa using hne), Only_cell hO h.2 (by simpa using hne)⟩
theorem keepG {W W' : World} {p q : Addr} {x y : Value} (h : W.cell? p = some x ∧ W.cell? q = some y) (k : Below W.heap.size W W') : W'.cell? p = some x ∧ W'.cell? q = some y := ⟨cell_below h.1 k, cell_below h.2 k⟩
set_option maxHeartbeats 8000000 in
set_option maxRecDepth 100000 in
theorem rchunk_any (b n cap : Nat) (l : List Smp) (hn : l.length = n) (h0 : 0 < n) (hn9 : n ≤ 1000) (hl : ∀ a ∈ l, Gm.OkS a) (q p0 p1 p2 c c0 c1 c2 o9 oa oc od : Nat) (w : World) (HS : Sam w b l) (HT : TabB w q p0 p1 p2 c c0 c1 c2 o9 oa oc od) :
    Calls Tryd.prog 30 #[.slice (some ⟨b, 0, none⟩) n cap] w (ChPost w (l.getD 0 ⟨0, 0⟩).t (l.getD (n - 1) ⟨0, 0⟩).t n (Gm.run l).out) := by
  have hA := (Below.refl w.heap.size w).alloc (Nat.le_refl _) (.cells #[.int .i64 0, .int .i64 0, .int .i64 0, .slice none 0 0] 73)
  have HRUN := Lib.hid (show (Gm.run l).out = (Gm.run (l.take n)).out by rw [← hn, List.take_length])
  have hSZ : (w.alloc (.cells #[.int .i64 0, .int .i64 0, .int .i64 0, .slice none 0 0] 73)).heap.size = w.heap.size + 1 := by simp
  have HBB := Lib.hid (And.intro hA hSZ)
  have HSS := Lib.hid (HS.below hA)
  have HTT := Lib.hid (HT.below hA)
  have HL := Lib.hid hl
  have HLN := Lib.hid hn
  have k0 := hl _ (List.getElem_mem (show 0 < l.length by omega))
  have g0 := getD_is l 0 (by omega)
  have HR1 := Lib.hid (run_one l (by omega))
  obtain ⟨a0, ha0⟩ : ∃ a0, l.getD 0 ⟨0, 0⟩ = a0 := ⟨_, rfl⟩
  rw [← g0, ha0] at k0 HR1
  have hs0 : w.cell? ⟨b, 0, none⟩ = some (.int .i64 a0.t) ∧ w.cell? ⟨b, 1, none⟩ = some (.int .u64 ((a0.v : Nat) : Int)) := by
    have h := HS 0 (by omega)
    rw [← g0, ha0] at h
    exact h
  have hs0 : (w.alloc (.cells #[.int .i64 0, .int .i64 0, .int .i64 0, .slice none 0 0] 73)).cell? ⟨b, 0, none⟩ = some (.int .i64 a0.t) ∧ (w.alloc (.cells #[.int .i64 0, .int .i64 0, .int .i64 0, .slice none 0 0] 73)).cell? ⟨b, 1, none⟩ = some (.int .u64 ((a0.v : Nat) : Int)) := ⟨cell_below hs0.1 hA, cell_below hs0.2 hA⟩
  have HS0 := Lib.hid hs0
  have HK0 := Lib.hid k0
  have hb0 : (0 : Int) < (n : Int) := by omega
  have HROW := Lib.hid (heap_alloc_new w (.cells #[.int .i64 0, .int .i64 0, .int .i64 0, .slice none 0 0] 73))
  have HA0 := Lib.hid ha0
  rw [ha0]
  obtain ⟨T, hT⟩ : ∃ T, (l.getD (n - 1) ⟨0, 0⟩).t = T := ⟨_, rfl⟩
  obtain ⟨OUT, hOUT⟩ : ∃ OUT, (Gm.run l).out = OUT := ⟨_, rfl⟩
  have HTO := Lib.hid (And.intro hT hOUT)
  rw [hT, hOUT]
  rw [hOUT] at HRUN
  clear hA hl k0 hs0 g0 HS HT hT hOUT hn ha0
  go_enter Tryd.func30, Tryd.ntmps30
  go_upto_region 2 with (fail)
  generalize w.alloc (.cells #[.int .i64 0, .int .i64 0, .int .i64 0, .slice none 0 0] 73) = wB at *
  obtain ⟨N, hN⟩ : ∃ N, w.heap.size = N := ⟨_, rfl⟩
  obtain ⟨r, hr⟩ : ∃ r, N + 1 = r := ⟨_, rfl⟩
  have HNN := Lib.hid (show w.heap.size = N ∧ r = N + 1 ∧ wB.heap.size = r from ⟨hN, by omega, by have := hSZ; omega⟩)
  have HC := Lib.hid (cs_new wB)
  rw [HNN.out.2.2] at HC
  rw [hN] at HROW ⊢
  rw [hr]
  clear hN hr hSZ
  generalize wB.alloc (.cells #[.slice none 0 0, .int .i64 0] 165) = W1 at HC ⊢
  have q0 := cell_below HS0.out.1 HC.out.2.1
  go_wp2_with fail
  go_at_call 86
  refine (cs_sgn a0.t HK0.out.1 HK0.out.2.1 HC.out (by decide)).mono ?_
  rintro e w2 ⟨rfl, hc2⟩
  have HC2 := Lib.hid hc2
  have q1 := cell_below HS0.out.2 HC2.out.2.1
  have CB := Lib.hid (cs_bits a0.v 64 HK0.out.2.2 (by decide) HC2.out (by have := vb_len (B2.Bt.zz a0.t) (B2.Bt.zz_lt _ HK0.out.1 HK0.out.2.1); rw [List.nil_append]; omega))
  simp only [Int.cast_ofNat_Int, List.nil_append] at CB
  rw [← HR1.out.1] at CB
  clear q0 hc2 HC HC2
  go_wp2_with fail
  go_at_call 87
  refine CB.out.mono ?_
  rintro e w3 ⟨rfl, hc3⟩
  have HC3 := Lib.hid hc3
  have HW1 := Lib.hid HR1.out.2
  clear q1 hc3 CB HR1 HS0
  go_wp2_with fail
  go_loopw [4, 5, 6] (fun v4 v5 v6 wr => ∃ i : Nat, 1 ≤ i ∧ i ≤ n ∧ v4 = .int .i64 (lefI (Gm.run (l.take i)).ws (Gm.run (l.take i)).we) ∧ v5 = .int .i64 (rigI (Gm.run (l.take i)).we) ∧ v6 = .int .i64 ((i : Nat) : Int) ∧ Hid (Cs wB wr r (Gm.run (l.take i)).out)) (fun _ _ v6 _ => n - (intOf v6).toNat)
  case atStart => exact ⟨1, Nat.le_refl _, h0, by rw [HW1.out.1, HW1.out.2]; rfl, by rw [HW1.out.2]; rfl, rfl, HC3⟩
  case round =>
    obtain ⟨i, hi1, hin, rfl, rfl, rfl, HCi⟩ := hrel
    by_cases hlt : i < n
    · obtain ⟨j, hj⟩ : ∃ j, i = j + 1 := ⟨i - 1, by omega⟩
      have hlen := out_len l HL.out i (by have := HLN.out; omega)
      have hHP := step_put l i hi1 (by have := HLN.out; omega)
      have hwin := win_le l HL.out i
      have hxl := xrL_lt l HL.out i (by have := HLN.out; omega)
      have hci := (HSS.out i (by have := HLN.out; omega)).2
      have hcj := (HSS.out j (by have := HLN.out; omega)).2
      have hvi := (HL.out _ (List.getElem_mem (show i < l.length by have := HLN.out; omega))).2.2
      have hvj := (HL.out _ (List.getElem_mem (show j < l.length by have := HLN.out; omega))).2.2
      have e1 := getD_is l i (by have := HLN.out; omega)
      have e2 := getD_is l j (by have := HLN.out; omega)
      have hxr : xrL l i = (l.getD i ⟨0, 0⟩).v ^^^ (l.getD j ⟨0, 0⟩).v := by unfold xrL; rw [show i - 1 = j by omega]
      rw [← e1] at hci hvi
      rw [← e2] at hcj hvj
      obtain ⟨vi, hvii⟩ : ∃ vi, (l.getD i ⟨0, 0⟩).v = vi := ⟨_, rfl⟩
      obtain ⟨vj, hvjj⟩ : ∃ vj, (l.getD j ⟨0, 0⟩).v = vj := ⟨_, rfl⟩
      rw [hvii] at hci hvi hxr
      rw [hvjj] at hcj hvj hxr
      have hx := u64_xor_nat vi vj hvi hvj
      rw [← hxr] at hx
      obtain ⟨x, hxx⟩ : ∃ x, xrL l i = x := ⟨_, rfl⟩
      rw [hxx] at hx hxl hHP
      obtain ⟨ws, hws⟩ : ∃ ws, (Gm.run (l.take i)).ws = ws := ⟨_, rfl⟩
      obtain ⟨we, hwe⟩ : ∃ we, (Gm.run (l.take i)).we = we := ⟨_, rfl⟩
      obtain ⟨B, hBB⟩ : ∃ B, (Gm.run (l.take i)).out = B := ⟨_, rfl⟩
      rw [hws, hwe, hBB] at hHP
      rw [hws, hwe] at hwin
      rw [hBB] at hlen HCi
      rw [hws, hwe]
      have HP := Lib.hid hHP
      have HWIN := Lib.hid hwin
      have HXL := Lib.hid hxl
      have HLEN := Lib.hid hlen
      have htl := timeL_len l i
      have HTLN := Lib.hid htl
      have hji : ((i : Nat) : Int) - 1 = ((j : Nat) : Int) := by omega
      have hij : ((i : Nat) : Int) < (n : Int) := by omega
      have hjn : ((j : Nat) : Int) < (n : Int) := by omega
      have hjn2 : j < n := by omega
      have CT := Lib.hid (cs_time (cap := cap) l HLN.out hi1 hlt (by omega) (by omega) q p0 p1 p2 c c0 c1 c2 o9 oa oc od HSS.out HTT.out HCi.out)
      have HIN := Lib.hid (And.intro hi1 hlt)
      have HCC := Lib.hid (And.intro hci hcj)
      clear hHP hwin hxl hlen htl hci hcj hvi hvj e1 e2 hxr hvii hvjj hws hwe hBB hi1 hj hxx hb0
      go_wp2_with fail
      go_at_call 88
      refine CT.out.mono ?_
      rintro e w4 ⟨rfl, hc4⟩
      have HC4 := Lib.hid hc4
      have d1 := cell_below HCC.out.1 hc4.2.1
      have d2 := cell_below HCC.out.2 hc4.2.1
      clear hc4 CT HCi HCC
      go_wp2_with fail
      go_quiet (fail)
      have HC5 := Lib.hid (HC4.out.below (drewn_below w4 nq))
      generalize w4.drewN nq = w5 at HC5 ⊢
      clear d1 d2 HC4 hx hji hjn hjn2
      have hlB : (B ++ timeL l i).length + 200 ≤ 1000000000 := by rw [List.length_append]; have := HLEN.out; have := HTLN.out; omega
      have HLB := Lib.hid hlB
      clear hlB
      by_cases hx0 : x = 0
      · have hz1 : ((x : Int) == 0) = true := by rw [hx0]; rfl
        have hz2 : (x : Int) = 0 := by omega
        have HQ : Hid ((Gm.run (l.take (i + 1))).out = B ++ timeL l i ++ [false] ∧ (Gm.run (l.take (i + 1))).ws = ws ∧ (Gm.run (l.take (i + 1))).we = we) := by
          obtain ⟨h1, h2, h3⟩ := HP.out
          rw [h1, h2, h3]
          unfold Gm.numB Gm.numS Gm.numE
          rw [if_pos hx0, if_pos hx0, if_pos hx0]
          exact ⟨rfl, rfl, rfl⟩
        have C1 := Lib.hid (cs_bit false HC5.out (by have := HLB.out; omega))
        clear HP HC5
        subst hx0
        go_wp2_with fail
        go_at_call 89
        refine C1.out.mono ?_
        rintro e w6 ⟨rfl, hc6⟩
        rw [← HQ.out.1] at hc6
        have HC6 := Lib.hid hc6
        clear hc6 C1
        go_wp2_with fail
        go_roundw
        case rel => exact ⟨i + 1, by omega, by have := HIN.out; omega, by rw [HQ.out.2.1, HQ.out.2.2], by rw [HQ.out.2.2], by go_num, HC6⟩
        case measure => simp [intOf]; have := HIN.out; omega
      · have hz1 : ((x : Int) == 0) = false := by simp; omega
        have hz2 : ¬ (x : Int) = 0 := by omega
        obtain ⟨wf1, wf2, wf3, _⟩ := Gm.win_facts x hx0 HXL.out
        have hE := show Gm.wE x = 64 - Lib.ctz 64 x from rfl
        have hcl := (Gm.ctz_facts x hx0 HXL.out).1
        have CE := Lib.hid (fun W => ends_any x hx0 HXL.out W)
        have HCase := Lib.hid (show (we ≠ 0 ∧ ws ≤ Gm.wS x ∧ Gm.wE x ≤ we ∧ we ≤ 64 ∧ ws < we) ∨ we = 0 ∨ (we ≠ 0 ∧ Gm.wS x < ws ∧ we ≤ 64) ∨ (we ≠ 0 ∧ ws ≤ Gm.wS x ∧ we < Gm.wE x ∧ we ≤ 64) by have := HWIN.out; omega)
        have HNUM := Lib.hid (show (we ≠ 0 → ws ≤ Gm.wS x → Gm.wE x ≤ we → Gm.numS ws we x = ws ∧ Gm.numE ws we x = we ∧ Gm.numB ws we x = [true] ++ [false] ++ B2.Bt.top (x >>> (64 - we)) (we - ws)) ∧ (we = 0 ∨ Gm.wS x < ws ∨ we < Gm.wE x → Gm.numS ws we x = Gm.wS x ∧ Gm.numE ws we x = Gm.wE x ∧ Gm.numB ws we x = [true] ++ [true] ++ B2.Bt.top (Gm.wS x) 5 ++ B2.Bt.top (Gm.wE x - Gm.wS x - 1) 6 ++ B2.Bt.top (x >>> (64 - Gm.wE x)) (Gm.wE x - Gm.wS x)) from
          ⟨fun _ h1 h2 => num_hold ws we x hx0 (by simp [h1, h2]), fun h => num_new ws we x hx0 (by simp only [Bool.and_eq_true, decide_eq_true_eq]; omega)⟩)
        have hEC : Gm.wE x - Gm.wS x - 1 = 63 - Gm.wS x - Lib.ctz 64 x ∧ 64 - Gm.wE x = Lib.ctz 64 x ∧ Gm.wE x - Gm.wS x = 64 - Gm.wS x - Lib.ctz 64 x := by omega
        rw [hEC.1, hEC.2.1, hEC.2.2] at HNUM
        rw [hE] at HNUM HCase wf2 wf3
        clear hEC hE
        obtain ⟨a, haa⟩ : ∃ a, Gm.wS x = a := ⟨_, rfl⟩
        obtain ⟨d, hdd⟩ : ∃ d, Lib.ctz 64 x = d := ⟨_, rfl⟩
        rw [haa, hdd] at HNUM HCase CE wf2
        rw [haa] at wf1
        rw [hdd] at hcl
        have HAD := Lib.hid (show a ≤ 31 ∧ a + d < 64 ∧ d < 64 from ⟨wf1, by omega, hcl⟩)
        have C1 := Lib.hid (cs_bit true HC5.out (by have := HLB.out; omega))
        have HX0 := Lib.hid hx0
        clear haa hdd wf1 wf2 wf3 hcl HC5 hx0
        go_wp2_with fail
        go_at_call 89
        refine C1.out.mono ?_
        rintro e w6 ⟨rfl, hc6⟩
        have HC6 := Lib.hid hc6
        clear hc6 C1
        go_wp2_with fail
        go_at_call 90
        refine (CE.out w6).mono ?_
        rintro e w7 ⟨rfl, rfl⟩
        clear CE
        rcases HCase.out with ⟨k1, k2, k3, k4, k5⟩ | k1 | ⟨k1, k2, k4⟩ | ⟨k1, k2, k3, k4⟩
        · have hl : lefI ws we = ((ws : Nat) : Int) := by unfold lefI; rw [if_neg k1]
          have hr : rigI we = ((64 - we : Nat) : Int) := by unfold rigI; rw [if_neg k1]
          obtain ⟨R, hR⟩ : ∃ R, 64 - we = R := ⟨_, rfl⟩
          have hn := HNUM.out.1 k1 k2 k3
          have HRR := Lib.hid hR
          rw [hl, hr, hR]
          rw [hR] at hn
          obtain ⟨M, hM⟩ : ∃ M, we - ws = M := ⟨_, rfl⟩
          rw [hM] at hn
          have hHE := HP.out
          have HQ : Hid ((Gm.run (l.take (i + 1))).out = B ++ timeL l i ++ [true] ++ [false] ++ B2.Bt.top (x >>> R) M ∧ (Gm.run (l.take (i + 1))).ws = ws ∧ (Gm.run (l.take (i + 1))).we = we) := by
            obtain ⟨h1, h2, h3⟩ := hHE
            obtain ⟨n1, n2, n3⟩ := hn
            rw [h1, h2, h3, n1, n2, n3]
            refine Lib.hid ⟨?_, rfl, rfl⟩
            simp only [List.append_assoc]
          have g1 : decide ((a : Int) ≥ (ws : Int)) = true := by simp; omega
          have g2 : decide ((d : Int) ≥ (R : Int)) = true := by simp; omega
          have g3 : decide ((ws : Int) ≥ 0) = true := by simp
          have g4 : decide (ws ≤ a) = true := by simpa using k2
          have g5 : decide (R ≤ d) = true := by simp; omega
          have g6 : ws ≤ a := k2
          have g7 : R ≤ d := by omega
          have hM7 : (64 : Int) - (ws : Int) - (R : Int) = ((M : Nat) : Int) := by omega
          have hshr : (x : Int) / 2 ^ R = ((x >>> R : Nat) : Int) := by rw [Nat.shiftRight_eq_div_pow]; simp
          have hsl : x >>> R < 18446744073709551616 := by rw [Nat.shiftRight_eq_div_pow]; exact Nat.lt_of_le_of_lt (Nat.div_le_self _ _) HXL.out
          have hR64 : R < 64 := by omega
          have HF := Lib.hid (show M ≤ 64 ∧ x >>> R < 18446744073709551616 from ⟨by omega, hsl⟩)
          clear hn hHE HP HNUM HCase hl hr hM k1 k2 k3 k4 k5 hR hsl
          go_wp2_with fail
          go_at_call 89
          refine (cs_bit false HC6.out (by have := HLB.out; simp only [List.length_append, List.length_cons, List.length_nil] at this ⊢; omega)).mono ?_
          rintro e w8 ⟨rfl, hc8⟩
          have CB := Lib.hid (cs_bits (x >>> R) M HF.out.2 HF.out.1 hc8 (by have := HLB.out; have := HF.out.1; simp only [List.length_append, List.length_cons, List.length_nil] at *; omega))
          rw [show ((x >>> R : Nat) : Int) = (x : Int) >>> R from rfl, ← HQ.out.1] at CB
          clear hc8 HC6
          go_wp2_with fail
          go_at_call 87
          refine CB.out.mono ?_
          rintro e w9 ⟨rfl, hc9⟩
          have HC9 := Lib.hid hc9
          clear hc9 CB
          go_wp2_with fail
          go_roundw
          case rel => exact ⟨i + 1, by omega, by have := HIN.out; omega, by rw [HQ.out.2.1, HQ.out.2.2]; unfold lefI; rw [if_neg (by have := HRR.out; omega)], by rw [HQ.out.2.2]; unfold rigI; rw [if_neg (by have := HRR.out; omega), HRR.out], by go_num, HC9⟩
          case measure => simp [intOf]; have := HIN.out; omega
        · have hl : lefI ws we = -1 := by unfold lefI; rw [if_pos k1]
          have hr : rigI we = -1 := by unfold rigI; rw [if_pos k1]
          rw [hl, hr]
          have hn := HNUM.out.2 (.inl k1)
          have hHE := HP.out
          obtain ⟨z, hz⟩ : ∃ z, 63 - a - d = z := ⟨_, rfl⟩
          obtain ⟨m, hm⟩ : ∃ m, 64 - a - d = m := ⟨_, rfl⟩
          rw [hz, hm] at hn
          have HQ : Hid ((Gm.run (l.take (i + 1))).out = B ++ timeL l i ++ [true] ++ [true] ++ B2.Bt.top a 5 ++ B2.Bt.top z 6 ++ B2.Bt.top (x >>> d) m ∧ (Gm.run (l.take (i + 1))).ws = a ∧ (Gm.run (l.take (i + 1))).we = 64 - d) := by
            obtain ⟨h1, h2, h3⟩ := hHE
            obtain ⟨n1, n2, n3⟩ := hn
            rw [h1, h2, h3, n1, n2, n3]
            refine Lib.hid ⟨?_, rfl, rfl⟩
            simp only [List.append_assoc]
          have hsl : x >>> d < 18446744073709551616 := by rw [Nat.shiftRight_eq_div_pow]; exact Nat.lt_of_le_of_lt (Nat.div_le_self _ _) HXL.out
          have HF := Lib.hid (show m ≤ 64 ∧ x >>> d < 18446744073709551616 ∧ z < 64 ∧ a < 32 ∧ d < 64 from ⟨by omega, hsl, by omega, by have := HAD.out; omega, by have := HAD.out; omega⟩)
          have hz6 : (63 : Int) - (a : Int) - (d : Int) = ((z : Nat) : Int) := by have := HAD.out; omega
          have hz7 : (64 : Int) - (a : Int) - (d : Int) = ((m : Nat) : Int) := by have := HAD.out; omega
          have hd64 : d < 64 := HF.out.2.2.2.2
          have ha32 : a < 32 := HF.out.2.2.2.1
          have hz64 : z < 64 := HF.out.2.2.1
          clear hn hHE HP HNUM HCase hl hr k1  hsl hz hm
          go_wp2_with fail
          go_at_call 89
          refine (cs_bit true HC6.out (by have := HLB.out; simp only [List.length_append, List.length_cons, List.length_nil, B2.Bt.top_length] at this ⊢; omega)).mono ?_
          rintro e w8 ⟨rfl, hc8⟩
          have CB := Lib.hid (cs_bits a 5 (by have := HF.out; omega) (by decide) hc8 (by have := HLB.out; simp only [List.length_append, List.length_cons, List.length_nil, B2.Bt.top_length] at this ⊢; omega))
          simp only [Int.cast_ofNat_Int] at CB
          clear hc8 HC6
          go_wp2_with fail
          go_at_call 87
          refine CB.out.mono ?_
          rintro e w9 ⟨rfl, hc9⟩
          clear CB
          have CB := Lib.hid (cs_bits z 6 (by have := HF.out; omega) (by decide) hc9 (by have := HLB.out; simp only [List.length_append, List.length_cons, List.length_nil, B2.Bt.top_length] at this ⊢; omega))
          simp only [Int.cast_ofNat_Int] at CB
          clear hc9
          go_wp2_with fail
          go_at_call 87
          refine CB.out.mono ?_
          rintro e wa ⟨rfl, hca⟩
          clear CB
          have CB := Lib.hid (cs_bits (x >>> d) m HF.out.2.1 HF.out.1 hca (by have := HF.out.1; have := HLB.out; simp only [List.length_append, List.length_cons, List.length_nil, B2.Bt.top_length] at this ⊢; omega))
          rw [show ((x >>> d : Nat) : Int) = (x : Int) / 2 ^ d by rw [Nat.shiftRight_eq_div_pow]; simp, ← HQ.out.1] at CB
          clear hca
          go_wp2_with fail
          go_at_call 87
          refine CB.out.mono ?_
          rintro e wb ⟨rfl, hcb⟩
          have HCb := Lib.hid hcb
          clear hcb CB
          go_wp2_with fail
          go_roundw
          case rel => exact ⟨i + 1, by omega, by have := HIN.out; omega, by rw [HQ.out.2.1, HQ.out.2.2]; unfold lefI; rw [if_neg (by have := HF.out; omega)], by rw [HQ.out.2.2]; unfold rigI; rw [if_neg (by have := HF.out; omega)]; have := HF.out; simp; omega, by go_num, HCb⟩
          case measure => simp [intOf]; have := HIN.out; omega
        · have hl : lefI ws we = ((ws : Nat) : Int) := by unfold lefI; rw [if_neg k1]
          have hr : rigI we = ((64 - we : Nat) : Int) := by unfold rigI; rw [if_neg k1]
          obtain ⟨R, hR⟩ : ∃ R, 64 - we = R := ⟨_, rfl⟩
          rw [hl, hr, hR]
          have hn := HNUM.out.2 (.inr (.inl k2))
          have g4 : decide (ws ≤ a) = false := by simpa using k2
          have g6 : ¬ ws ≤ a := by omega
          clear hR
          have hHE := HP.out
          obtain ⟨z, hz⟩ : ∃ z, 63 - a - d = z := ⟨_, rfl⟩
          obtain ⟨m, hm⟩ : ∃ m, 64 - a - d = m := ⟨_, rfl⟩
          rw [hz, hm] at hn
          have HQ : Hid ((Gm.run (l.take (i + 1))).out = B ++ timeL l i ++ [true] ++ [true] ++ B2.Bt.top a 5 ++ B2.Bt.top z 6 ++ B2.Bt.top (x >>> d) m ∧ (Gm.run (l.take (i + 1))).ws = a ∧ (Gm.run (l.take (i + 1))).we = 64 - d) := by
            obtain ⟨h1, h2, h3⟩ := hHE
            obtain ⟨n1, n2, n3⟩ := hn
            rw [h1, h2, h3, n1, n2, n3]
            refine Lib.hid ⟨?_, rfl, rfl⟩
            simp only [List.append_assoc]
          have hsl : x >>> d < 18446744073709551616 := by rw [Nat.shiftRight_eq_div_pow]; exact Nat.lt_of_le_of_lt (Nat.div_le_self _ _) HXL.out
          have HF := Lib.hid (show m ≤ 64 ∧ x >>> d < 18446744073709551616 ∧ z < 64 ∧ a < 32 ∧ d < 64 from ⟨by omega, hsl, by omega, by have := HAD.out; omega, by have := HAD.out; omega⟩)
          have hz6 : (63 : Int) - (a : Int) - (d : Int) = ((z : Nat) : Int) := by have := HAD.out; omega
          have hz7 : (64 : Int) - (a : Int) - (d : Int) = ((m : Nat) : Int) := by have := HAD.out; omega
          have hd64 : d < 64 := HF.out.2.2.2.2
          have ha32 : a < 32 := HF.out.2.2.2.1
          have hz64 : z < 64 := HF.out.2.2.1
          clear hn hHE HP HNUM HCase hl hr k1 k2 k4 hsl hz hm
          go_wp2_with fail
          go_at_call 89
          refine (cs_bit true HC6.out (by have := HLB.out; simp only [List.length_append, List.length_cons, List.length_nil, B2.Bt.top_length] at this ⊢; omega)).mono ?_
          rintro e w8 ⟨rfl, hc8⟩
          have CB := Lib.hid (cs_bits a 5 (by have := HF.out; omega) (by decide) hc8 (by have := HLB.out; simp only [List.length_append, List.length_cons, List.length_nil, B2.Bt.top_length] at this ⊢; omega))
          simp only [Int.cast_ofNat_Int] at CB
          clear hc8 HC6
          go_wp2_with fail
          go_at_call 87
          refine CB.out.mono ?_
          rintro e w9 ⟨rfl, hc9⟩
          clear CB
          have CB := Lib.hid (cs_bits z 6 (by have := HF.out; omega) (by decide) hc9 (by have := HLB.out; simp only [List.length_append, List.length_cons, List.length_nil, B2.Bt.top_length] at this ⊢; omega))
          simp only [Int.cast_ofNat_Int] at CB
          clear hc9
          go_wp2_with fail
          go_at_call 87
          refine CB.out.mono ?_
          rintro e wa ⟨rfl, hca⟩
          clear CB
          have CB := Lib.hid (cs_bits (x >>> d) m HF.out.2.1 HF.out.1 hca (by have := HF.out.1; have := HLB.out; simp only [List.length_append, List.length_cons, List.length_nil, B2.Bt.top_length] at this ⊢; omega))
          rw [show ((x >>> d : Nat) : Int) = (x : Int) / 2 ^ d by rw [Nat.shiftRight_eq_div_pow]; simp, ← HQ.out.1] at CB
          clear hca
          go_wp2_with fail
          go_at_call 87
          refine CB.out.mono ?_
          rintro e wb ⟨rfl, hcb⟩
          have HCb := Lib.hid hcb
          clear hcb CB
          go_wp2_with fail
          go_roundw
          case rel => exact ⟨i + 1, by omega, by have := HIN.out; omega, by rw [HQ.out.2.1, HQ.out.2.2]; unfold lefI; rw [if_neg (by have := HF.out; omega)], by rw [HQ.out.2.2]; unfold rigI; rw [if_neg (by have := HF.out; omega)]; have := HF.out; simp; omega, by go_num, HCb⟩
          case measure => simp [intOf]; have := HIN.out; omega
        · have hl : lefI ws we = ((ws : Nat) : Int) := by unfold lefI; rw [if_neg k1]
          have hr : rigI we = ((64 - we : Nat) : Int) := by unfold rigI; rw [if_neg k1]
          obtain ⟨R, hR⟩ : ∃ R, 64 - we = R := ⟨_, rfl⟩
          rw [hl, hr, hR]
          have hn := HNUM.out.2 (.inr (.inr k3))
          have g4 : decide (ws ≤ a) = true := by simpa using k2
          have g5 : decide (R ≤ d) = false := by simp; have := HAD.out; omega
          have g6 : ws ≤ a := k2
          have g7 : ¬ R ≤ d := by have := HAD.out; omega
          clear hR
          have hHE := HP.out
          obtain ⟨z, hz⟩ : ∃ z, 63 - a - d = z := ⟨_, rfl⟩
          obtain ⟨m, hm⟩ : ∃ m, 64 - a - d = m := ⟨_, rfl⟩
          rw [hz, hm] at hn
          have HQ : Hid ((Gm.run (l.take (i + 1))).out = B ++ timeL l i ++ [true] ++ [true] ++ B2.Bt.top a 5 ++ B2.Bt.top z 6 ++ B2.Bt.top (x >>> d) m ∧ (Gm.run (l.take (i + 1))).ws = a ∧ (Gm.run (l.take (i + 1))).we = 64 - d) := by
            obtain ⟨h1, h2, h3⟩ := hHE
            obtain ⟨n1, n2, n3⟩ := hn
            rw [h1, h2, h3, n1, n2, n3]
            refine Lib.hid ⟨?_, rfl, rfl⟩
            simp only [List.append_assoc]
          have hsl : x >>> d < 18446744073709551616 := by rw [Nat.shiftRight_eq_div_pow]; exact Nat.lt_of_le_of_lt (Nat.div_le_self _ _) HXL.out
          have HF := Lib.hid (show m ≤ 64 ∧ x >>> d < 18446744073709551616 ∧ z < 64 ∧ a < 32 ∧ d < 64 from ⟨by omega, hsl, by omega, by have := HAD.out; omega, by have := HAD.out; omega⟩)
          have hz6 : (63 : Int) - (a : Int) - (d : Int) = ((z : Nat) : Int) := by have := HAD.out; omega
          have hz7 : (64 : Int) - (a : Int) - (d : Int) = ((m : Nat) : Int) := by have := HAD.out; omega
          have hd64 : d < 64 := HF.out.2.2.2.2
          have ha32 : a < 32 := HF.out.2.2.2.1
          have hz64 : z < 64 := HF.out.2.2.1
          clear hn hHE HP HNUM HCase hl hr k1 k2 k3 k4 hsl hz hm
          go_wp2_with fail
          go_at_call 89
          refine (cs_bit true HC6.out (by have := HLB.out; simp only [List.length_append, List.length_cons, List.length_nil, B2.Bt.top_length] at this ⊢; omega)).mono ?_
          rintro e w8 ⟨rfl, hc8⟩
          have CB := Lib.hid (cs_bits a 5 (by have := HF.out; omega) (by decide) hc8 (by have := HLB.out; simp only [List.length_append, List.length_cons, List.length_nil, B2.Bt.top_length] at this ⊢; omega))
          simp only [Int.cast_ofNat_Int] at CB
          clear hc8 HC6
          go_wp2_with fail
          go_at_call 87
          refine CB.out.mono ?_
          rintro e w9 ⟨rfl, hc9⟩
          clear CB
          have CB := Lib.hid (cs_bits z 6 (by have := HF.out; omega) (by decide) hc9 (by have := HLB.out; simp only [List.length_append, List.length_cons, List.length_nil, B2.Bt.top_length] at this ⊢; omega))
          simp only [Int.cast_ofNat_Int] at CB
          clear hc9
          go_wp2_with fail
          go_at_call 87
          refine CB.out.mono ?_
          rintro e wa ⟨rfl, hca⟩
          clear CB
          have CB := Lib.hid (cs_bits (x >>> d) m HF.out.2.1 HF.out.1 hca (by have := HF.out.1; have := HLB.out; simp only [List.length_append, List.length_cons, List.length_nil, B2.Bt.top_length] at this ⊢; omega))
          rw [show ((x >>> d : Nat) : Int) = (x : Int) / 2 ^ d by rw [Nat.shiftRight_eq_div_pow]; simp, ← HQ.out.1] at CB
          clear hca
          go_wp2_with fail
          go_at_call 87
          refine CB.out.mono ?_
          rintro e wb ⟨rfl, hcb⟩
          have HCb := Lib.hid hcb
          clear hcb CB
          go_wp2_with fail
          go_roundw
          case rel => exact ⟨i + 1, by omega, by have := HIN.out; omega, by rw [HQ.out.2.1, HQ.out.2.2]; unfold lefI; rw [if_neg (by have := HF.out; omega)], by rw [HQ.out.2.2]; unfold rigI; rw [if_neg (by have := HF.out; omega)]; have := HF.out; simp; omega, by go_num, HCb⟩
          case measure => simp [intOf]; have := HIN.out; omega
    · obtain rfl : i = n := by omega
      obtain ⟨m, hm⟩ : ∃ m, i - 1 = m := ⟨_, rfl⟩
      have hs1 := (HSS.out 0 (by have := HLN.out; omega)).1
      have hs2 := (HSS.out m (by have := HLN.out; omega)).1
      have e1 := getD_is l 0 (by have := HLN.out; omega)
      have e2 := getD_is l m (by have := HLN.out; omega)
      have hT2 := HTO.out.1
      rw [hm] at hT2
      rw [← e2, hT2] at hs2
      rw [← e1, HA0.out] at hs1
      rw [← HRUN.out] at HCi
      have hlen : OUT.length ≤ 160 * i := by have h := out_len l HL.out i (by have := HLN.out; omega); rw [← HRUN.out] at h; exact h
      have HBN := Lib.hid (show b < N from by have h : b < w.heap.size := World.block_lt_of_cell? _ _ hs0.1; have := HNN.out; omega)
      have hb2 := HCi.out.2.1
      have q := keepG (And.intro hs1 hs2) hb2
      have HR9a := Lib.hid ((hb2.block _ (by have := HNN.out; omega)).trans HROW.out)
      have hmi : ((i : Nat) : Int) - 1 = ((m : Nat) : Int) := by omega
      have hmn : ((m : Nat) : Int) < (i : Int) := by omega
      have hmn2 : m < i := by omega
      have hi0 : (0 : Int) < (i : Int) := by omega
      have hii : decide (((i : Nat) : Int) < (i : Int)) = false := by simp
      have HSZ := Lib.hid (show N < wr.heap.size from by have h := hb2.size; have := HNN.out; omega)
      have HB0 := Lib.hid (show Below N w wr from by have h1 := HBB.out.1; have h2 := HNN.out; rw [← h2.1]; exact h1.trans (hb2.mono (by have := HBB.out.2; omega)))
      have CY := Lib.hid (fun W (h : Cs wB W r OUT) => (show Calls Tryd.prog 91 #[.pointer (some ⟨r, 0, none⟩)] W (B2.BytesPost W OUT) from by obtain ⟨g, hg, hR⟩ := h.2.2; exact B2.fbytes_any r g 0 OUT W hR (by omega)))
      clear hlen hb2 hs1 hs2 e1 e2 hT2 hm hs0
      go_wp2_with fail
      have HH := Lib.hid (HCi.out.below (drew_below wr))
      have q' := keepG q (drew_below wr)
      have HR := Lib.hid (((drew_below wr).block _ HSZ.out).trans HR9a.out)
      have HSD := Lib.hid (show N < wr.drew.heap.size from HSZ.out)
      have HBD := Lib.hid (HB0.out.trans ((drew_below wr).mono (by have := HSZ.out; omega)))
      clear q HCi HR9a HSZ HB0
      have hw1 : RowKit.wrap64 ((i : Int) - 1) = (m : Int) := by rw [hmi]; unfold RowKit.wrap64; omega
      have hw2 : IntKind.i64.wrap ((i : Int) - 1) = (m : Int) := by rw [i64_is]; exact hw1
      have hw5 : IntKind.i64.wrap (m : Int) = (m : Int) := by rw [i64_is]; unfold RowKit.wrap64; omega
      go_region_held3 (fun w' => w'.cell? ⟨b, 0, none⟩ = some (.int .i64 a0.t) ∧ w'.cell? ⟨b, m * 2, none⟩ = some (.int .i64 T)) ((first | exact q' | assumption | (refine keep2 (by have := HBN.out; omega) ?_; assumption)))
        ((go_at_call 91; refine (CY.out _ HH.out).mono ?_; rintro e w9 ⟨bs, k, hk, hP, b9, cap9, g, rfl, hrow, hg, hb⟩; have hcs := keepG (by assumption) hb; have HR9 := Lib.hid ((hb.block _ (Array.getElem?_eq_some_iff.1 HR.out).1).trans HR.out); obtain ⟨r0, f0, r1, f1, r2, f2, r3, f3⟩ := stF (v0 := .int .i64 a0.t) (v1 := .int .i64 T) (v2 := .int .i64 ((i : Nat) : Int)) HR9.out))
      obtain ⟨hE, hO⟩ := stE HR9.out (.int .i64 a0.t) (.int .i64 T) (.int .i64 ((i : Nat) : Int)) (.slice b9 bs.length cap9)
      have HE := Lib.hid hE
      have HO := Lib.hid hO
      have HX := Lib.hid (show k < 8 ∧ B2.Bt.Packs k bs OUT from ⟨hk, hP⟩)
      have HG := Lib.hid (And.intro hrow hg)
      have HB9 := Lib.hid hb
      clear hE hO hk hP hrow hg hb r0 f0 r1 f1 r2 f2 r3 f3 hw1 hw2 hw5 hmi hmn hmn2
      go_wp2_with fail
      refine bodyPost_ret (v := .agg (chV a0.t T i (.slice b9 bs.length cap9))) ?_ ?_ ?_
      · exact results_cell_row (fn := Tryd.f30) (p := 2) (ty := 73) rfl _ _ N 73 _ (0, 0) _ rfl HE.out Tryd.underlying73 rfl (by kernel_rfl)
      · rfl
      · have hlt : N < wr.drew.heap.size := HSD.out
        have hwN := HNN.out.1
        refine ⟨bs, k, b9, cap9, g, HX.out.1, HX.out.2, rfl, ?_, ?_, ?_⟩
        · rcases HG.out.2 with h | h
          · subst h
            rcases HG.out.1.value with ⟨h1, h2⟩ | ⟨cap', cur, h1, _⟩
            · rw [h1, h2]; exact Row.nil _ _
            · cases h1
          · exact HG.out.1.only HO.out (by simp; omega)
        · rcases HG.out.2 with h | h
          · exact .inl h
          · exact .inr (by omega)
        · rw [hwN]
          have hB0 := HBD.out
          exact (hB0.trans (HB9.out.mono (by omega))).trans (HO.out.below (by have := HB9.out.size; omega) (by simp) |>.mono (Nat.le_refl _))
end Go.Proofs.YtdlifcpdlbmijaaDoor
namespace Go.Proofs.YtdlifcpdlbmijaaDoor
set_option linter.unusedVariables false
set_option linter.unusedSimpArgs false
open Go.RowKit Go.PlainAid Go.Shelf
open B2 (Only Bys Row cellsOf)
open Gm (St Smp Chk)
/-- chunks of parts -/
def Goods (cs : List Chk) : Prop := ∀ c ∈ cs, ∃ g, OneC g ∧ Gm.IsChk g c
set_option maxRecDepth 100000 in
theorem dec78_good (g : List Smp) (c : Chk) (G : OneC g) (C : Gm.IsChk g c) (a : Option Addr) (cap : Nat) (w : World) (H : Bys w a c.bs) (hT : TabAt w) :
    Calls Tryd.prog 78 #[.agg (chR c.frm c.to c.n (.slice a c.bs.length cap))] w fun e w' => e = .returned (.bool false) ∧ Below w.heap.size w w' := by
  have A1 := (Below.refl w.heap.size w).alloc (Nat.le_refl _) (.cells (chR c.frm c.to c.n (.slice a c.bs.length cap)) 73)
  have r1 := heap_alloc_new w (.cells (chR c.frm c.to c.n (.slice a c.bs.length cap)) 73)
  obtain ⟨y0, y1, y2, y3⟩ := four73 r1
  have CC := Lib.hid (check_good g c G C a cap _ (H.below A1) (hT.below A1 hT.lt))
  have HA := Lib.hid A1
  clear A1 r1 H hT
  unfold chR at *
  go_enter Tryd.func78, Tryd.ntmps78
  go_wp2_with fail
  go_at_call 17
  refine CC.out.mono ?_
  rintro e w1 ⟨rfl, hb⟩
  have HB := Lib.hid (HA.out.trans (hb.mono HA.out.size))
  clear hb CC
  go_wp2_with fail
  go_ret
  exact ⟨rfl, HB.out⟩
set_option maxRecDepth 100000 in
set_option maxHeartbeats 2000000 in
theorem index_good (a : Option Addr) (n c : Nat) (cs : List Chk) (hn : cs.length = n) (hz : n ≤ 1000000000) (hG : Goods cs) (w : World) (H : Chs w a cs) (hT : TabAt w) :
    Calls Tryd.prog 101 #[.slice a n c, .func (.func 78) #[] #[]] w fun e w' => e = .returned (.int .i64 (-1)) ∧ Below w.heap.size w w' := by
  have HL := Lib.hid (And.intro H (And.intro hn (And.intro hG hT)))
  clear H hn hG hT
  go_enter Tryd.func101, Tryd.ntmps101
  go_wp2_with fail
  go_loopw [5, 8] (fun j i wr => ∃ k : Nat, k ≤ n ∧ i = .int .i64 k ∧ Hid (Below w.heap.size w wr)) (fun _ i _ => n - (intOf i).toNat)
  case atStart => exact ⟨0, Nat.zero_le _, rfl, Lib.hid (Below.refl _ _)⟩
  case round =>
    obtain ⟨k, hk, rfl, HB⟩ := hrel
    by_cases hkn : k < n
    · have da : decide ((k : Int) < (n : Int)) = true := decide_eq_true (by omega)
      have da2 : decide (k < n) = true := decide_eq_true hkn
      have hkl : k < cs.length := by rw [HL.out.2.1]; exact hkn
      obtain ⟨b1, o1, rfl, hl1, hc1⟩ := (HL.out.1.below HB.out) (by intro e; rw [e] at hkl; simp at hkl)
      obtain ⟨p1, p2, p3, ad, cap, p4, hB⟩ := hc1 k hkl
      obtain ⟨g, hg1, hg2⟩ := HL.out.2.2.1 _ (List.getElem_mem hkl)
      generalize cs[k] = x at *
      have CO := Lib.hid (dec78_good g x hg1 hg2 ad cap wr hB (HL.out.2.2.2.below HB.out HL.out.2.2.2.lt))
      unfold chR at CO
      clear hc1 hB hg1 hg2
      go_wp2_with fail
      go_at_call 78
      refine CO.out.mono ?_
      rintro e w1 ⟨rfl, hb⟩
      have HB2 := Lib.hid (HB.out.trans (hb.mono HB.out.size))
      clear hb CO
      go_wp2_with fail
      go_roundw
      case rel => exact ⟨k + 1, by omega, by go_num, HB2⟩
      case measure => simp [intOf]; omega
    · obtain rfl : k = n := by omega
      have da : decide ((k : Int) < (k : Int)) = false := by simp
      have da2 : decide (k < k) = false := by simp
      go_wp2_with fail
      go_ret
      exact ⟨rfl, HB.out⟩
set_option maxRecDepth 100000 in
theorem contains_good (a : Option Addr) (n c : Nat) (cs : List Chk) (hn : cs.length = n) (hz : n ≤ 1000000000) (hG : Goods cs) (w : World) (H : Chs w a cs) (hT : TabAt w) :
    Calls Tryd.prog 77 #[.slice a n c, .func (.func 78) #[] #[]] w fun e w' => e = .returned (.bool false) ∧ Below w.heap.size w w' := by
  have C := Lib.hid (index_good a n c cs hn hz hG w H hT)
  clear hn hz hG H hT
  go_enter Tryd.func77, Tryd.ntmps77
  go_wp2_with (go_at_call 101; refine C.out.mono ?_; rintro e w1 ⟨rfl, hb⟩; have HB := Lib.hid hb; clear hb)
  go_ret
  exact ⟨rfl, HB.out⟩
end Go.Proofs.YtdlifcpdlbmijaaDoor
