/-
  PACKED: WaP, WaQ, WaR, WaS
-/
import Derived.Test.YtphighddlfabbaaDoorK07
import Derived.Laws.AppendOwn
namespace Go.Proofs.YtphighddlfabbaaDoor
set_option linter.unusedVariables false
set_option linter.unusedSimpArgs false
open Go.RowKit Go.PlainAid Go.Shelf
open Rx (Set4 RS)
/-- as NRes, with nodes from that block on -/
def CRes (w : World) (R : Nat) (bs : List Nat) (B : Nat) (r : Option Rx.Node × RS) (e : Ending) (w' : World) : Prop :=
  Went w w' R bs r.2 ∧ ∃ v, e = .returned (.tuple #[v, .bool r.1.isSome]) ∧ ∀ u, r.1 = some u → ∃ b, v = ptr b ∧ IsN w' (Fresh B) u b
/-- a count under way: the reader, the struct, the row of the kid -/
structure Kt (w wk : World) (R : Nat) (bs : List Nat) (st : RS) (bt : Nat) (cs : Array Value) : Prop where
  went : Went w wk R bs st
  row : wk.heap[w.heap.size + 1]? = some (.cells cs 71 (0, 0))
  kids : wk.heap[w.heap.size]? = some (.cells #[ptr bt] 60 (0, 0))
section
variable {w wk w' : World} {R : Nat} {bs : List Nat} {st st' : RS} {bt : Nat} {cs : Array Value}
theorem Kt.step (h : Kt w wk R bs st bt cs) (hR : R < w.heap.size) (k : Went wk w' R bs st') : Kt w w' R bs st' bt cs :=
  ⟨h.went.trans k, (k.only.block _ (Array.getElem?_eq_some_iff.1 h.row).1 (by simp; omega)).trans h.row, (k.only.block _ (Array.getElem?_eq_some_iff.1 h.kids).1 (by simp; omega)).trans h.kids⟩
theorem Kt.below (h : Kt w wk R bs st bt cs) (k : Below wk.heap.size wk w') : Kt w w' R bs st bt cs :=
  ⟨h.went.below k, (k.block _ (Array.getElem?_eq_some_iff.1 h.row).1).trans h.row, (k.block _ (Array.getElem?_eq_some_iff.1 h.kids).1).trans h.kids⟩
theorem Kt.set (h : Kt w wk R bs st bt cs) (hR : R < w.heap.size) (j : Nat) (v : Value) : Kt w (wk.setCell ⟨w.heap.size + 1, j, none⟩ v) R bs st bt (cs.setIfInBounds j v) :=
  ⟨⟨(heap_setCell_other _ _ _ _ (by first | (show R ≠ w.heap.size + 1; omega) | (show w.heap.size + 1 ≠ R; omega))).trans h.went.rd, h.went.only.setCell (.inr (by show w.heap.size ≤ w.heap.size + 1; omega)) v⟩,
   heap_setCell_same _ _ _ _ _ _ h.row, (heap_setCell_other _ _ _ _ (by first | (show w.heap.size ≠ w.heap.size + 1; omega) | (show w.heap.size + 1 ≠ w.heap.size; omega))).trans h.kids⟩
theorem Kt.c (h : Kt w wk R bs st bt cs) (j : Nat) : wk.cell? ⟨w.heap.size + 1, j, none⟩ = cs[j]? := cell_of_row _ _ _ _ _ _ h.row
theorem Kt.f (h : Kt w wk R bs st bt cs) (j : Nat) : wk.frozen? ⟨w.heap.size + 1, j, none⟩ = false := frozen_of_row _ _ _ _ _ h.row
end
set_option maxHeartbeats 2000000 in
set_option maxRecDepth 100000 in
theorem count_star (R : Nat) (bs : List Nat) (t : Rx.Node) (bt B : Nat) (st : RS) (hB : IsB bs) (hl : bs.length ≤ 500) (hi : Inv bs st) (w : World) (H : Rd w R bs st) (hRB : R < B) (hBw : B ≤ w.heap.size) (hn : IsN w (Fresh B) t bt)  (h42 : Rx.isAt bs st.at' 42 = true) : Calls Tryd.prog 50 #[.pointer (some ⟨R, 0, none⟩), ptr bt] w (CRes w R bs B (Rx.lazyEnd bs (st.to (st.at' + 1)) 0 none false t)) := by
  have ha := hi.1
  have K0 := (show Kt w ((w.alloc (.cells #[ptr bt] 60)).alloc (.cells (nodeC 5 Set4.none 0 0 0 0 false false nilP (.slice (some ⟨w.heap.size, 0, none⟩) 1 1) 0) 71)) R bs st bt (nodeC 5 Set4.none 0 0 0 0 false false nilP (.slice (some ⟨w.heap.size, 0, none⟩) 1 1) 0) from
    ⟨(((Went.refl H).alloc _).alloc _), by have := heap_alloc_new (w.alloc (.cells #[ptr bt] 60)) (.cells (nodeC 5 Set4.none 0 0 0 0 false false nilP (.slice (some ⟨w.heap.size, 0, none⟩) 1 1) 0) 71); rw [World.size_alloc] at this; exact this,
     (Below.heap_alloc _ _ _ (by simp)).trans (heap_alloc_new w _)⟩)
  have K0 := Lib.hid K0
  unfold nodeC nilP ptr at K0
  have S0 := Lib.hid (fun w (H : Rd w R bs st) => sign_yes R bs st 42 hB (by decide) h42 hl w H)
  have hlt := isAt_lt h42
  have HRW := Lib.hid (show R < w.heap.size by omega)
  have HN := Lib.hid hn
  have HQ := Lib.hid (show st.at' + 1 ≤ bs.length from hlt)
  clear hn H h42
  unfold ptr
  go_enter Tryd.func50, Tryd.ntmps50
  go_wp2_with fail
  refine (S0.out _ K0.out.went.rd).mono ?_
  rintro e w1 ⟨rfl, hb⟩
  have K1 := Lib.hid (K0.out.step HRW.out hb)
  clear hb
  have c8 : w1.cell? ⟨w.heap.size + 1, 8, none⟩ = some (.int .i64 0) := K1.out.c 8
  have f8 := K1.out.f 8
  have K2 := Lib.hid (show Kt w (w1.setCell ⟨w.heap.size + 1, 8, none⟩ (.int .i64 (-1))) R bs (st.to (st.at' + 1)) bt #[.int .u8 5, .int .u64 0, .int .u64 0, .int .u64 0, .int .u64 0, .int .u8 0, .int .i64 0, .int .i64 0, .int .i64 (-1), .bool false, .bool false, .pointer none, .slice (some ⟨w.heap.size, 0, none⟩) 1 1, .int .i64 0] from K1.out.set HRW.out 8 (.int .i64 (-1)))
  clear hlt
  cases hz : Rx.isAt bs (st.at' + 1) 63 with
  | true =>
    have CZ := Lib.hid (sign_yes R bs (st.to (st.at' + 1)) 63 hB (by decide) hz hl _ K2.out.went.rd)
    have HZ := Lib.hid hz
    clear hz
    go_wp2_with fail
    refine CZ.out.mono ?_
    rintro e x1 ⟨rfl, hb⟩
    have L1 := K2.out.step HRW.out hb
    have c10 : x1.cell? ⟨w.heap.size + 1, 10, none⟩ = some (.bool false) := L1.c 10
    have f10 := L1.f 10
    have L2 := Lib.hid (show Kt w (x1.setCell ⟨w.heap.size + 1, 10, none⟩ (.bool true)) R bs (st.to (st.at' + 1 + 1)) bt #[.int .u8 5, .int .u64 0, .int .u64 0, .int .u64 0, .int .u64 0, .int .u8 0, .int .i64 0, .int .i64 0, .int .i64 (-1), .bool false, .bool true, (.pointer none), .slice (some ⟨w.heap.size, 0, none⟩) 1 1, .int .i64 0] from L1.set HRW.out 10 (.bool true))
    have NN := L2.out.went.node (B := B) hRB HN.out
    have CN := Lib.hid (newNode_count 0 none false true t (by decide) (fun M e => by cases e) (.pointer none) w.heap.size bt #[ptr bt] (Fresh B) (x1.setCell ⟨w.heap.size + 1, 10, none⟩ (.bool true)) (by have := L2.out.went.only.size; unfold Fresh; omega) hBw L2.out.kids rfl NN (rfl))
    have hrow := L2.out.row
    have hrow' : (x1.setCell ⟨w.heap.size + 1, 10, none⟩ (.bool true)).heap[w.heap.size + 1]? = some (.cells (nodeC 5 Set4.none 0 0 0 (mostI none) false true (.pointer none) (.slice (some ⟨w.heap.size, 0, none⟩) 1 1) 0) 71 (0, 0)) := hrow
    clear hb L1 hrow NN
    go_upto_region 16 with (fail)
    go_wp2_with (refine wpList_load_row rfl 71 (.tmp 6) rfl (w.heap.size + 1) rfl 71 (nodeC 5 Set4.none 0 0 0 (mostI none) false true (.pointer none) (.slice (some ⟨w.heap.size, 0, none⟩) 1 1) 0) (0, 0) _ hrow' Tryd.underlying71 rfl (by kernel_rfl) ?_)
    refine CN.out.mono ?_
    rintro e x3 ⟨b2, rfl, hb, hn2⟩
    have L3 := Lib.hid (L2.out.went.below hb)
    have N3 := Lib.hid hn2
    clear hb hn2 hrow'
    unfold ptr
    go_wp2
    go_ret2
    refine ⟨?_, ptr b2, ?_, fun u hu => ⟨b2, rfl, ?_⟩⟩
    · unfold Rx.lazyEnd; rw [show (st.to (st.at' + 1)).at' = st.at' + 1 from rfl, HZ.out]; exact L3.out
    · unfold Rx.lazyEnd; rw [show (st.to (st.at' + 1)).at' = st.at' + 1 from rfl, HZ.out]; rfl
    · unfold Rx.lazyEnd at hu; rw [show (st.to (st.at' + 1)).at' = st.at' + 1 from rfl, HZ.out] at hu; cases hu; exact N3.out
  | false =>
    have CZ := Lib.hid (sign_no R bs (st.to (st.at' + 1)) 63 hB (by decide) hz HQ.out hl _ K2.out.went.rd)
    have HZ := Lib.hid hz
    clear hz
    go_wp2_with fail
    refine CZ.out.mono ?_
    rintro e x1 ⟨rfl, hb⟩
    have L1 := K2.out.step HRW.out hb
    have c10 : x1.cell? ⟨w.heap.size + 1, 10, none⟩ = some (.bool false) := L1.c 10
    have f10 := L1.f 10
    have L2 := Lib.hid (show Kt w (x1.setCell ⟨w.heap.size + 1, 10, none⟩ (.bool false)) R bs (st.to (st.at' + 1)) bt #[.int .u8 5, .int .u64 0, .int .u64 0, .int .u64 0, .int .u64 0, .int .u8 0, .int .i64 0, .int .i64 0, .int .i64 (-1), .bool false, .bool false, (.pointer none), .slice (some ⟨w.heap.size, 0, none⟩) 1 1, .int .i64 0] from L1.set HRW.out 10 (.bool false))
    have NN := L2.out.went.node (B := B) hRB HN.out
    have CN := Lib.hid (newNode_count 0 none false false t (by decide) (fun M e => by cases e) (.pointer none) w.heap.size bt #[ptr bt] (Fresh B) (x1.setCell ⟨w.heap.size + 1, 10, none⟩ (.bool false)) (by have := L2.out.went.only.size; unfold Fresh; omega) hBw L2.out.kids rfl NN (rfl))
    have hrow := L2.out.row
    have hrow' : (x1.setCell ⟨w.heap.size + 1, 10, none⟩ (.bool false)).heap[w.heap.size + 1]? = some (.cells (nodeC 5 Set4.none 0 0 0 (mostI none) false false (.pointer none) (.slice (some ⟨w.heap.size, 0, none⟩) 1 1) 0) 71 (0, 0)) := hrow
    clear hb L1 hrow NN
    go_upto_region 16 with (fail)
    go_wp2_with (refine wpList_load_row rfl 71 (.tmp 6) rfl (w.heap.size + 1) rfl 71 (nodeC 5 Set4.none 0 0 0 (mostI none) false false (.pointer none) (.slice (some ⟨w.heap.size, 0, none⟩) 1 1) 0) (0, 0) _ hrow' Tryd.underlying71 rfl (by kernel_rfl) ?_)
    refine CN.out.mono ?_
    rintro e x3 ⟨b2, rfl, hb, hn2⟩
    have L3 := Lib.hid (L2.out.went.below hb)
    have N3 := Lib.hid hn2
    clear hb hn2 hrow'
    unfold ptr
    go_wp2
    go_ret2
    refine ⟨?_, ptr b2, ?_, fun u hu => ⟨b2, rfl, ?_⟩⟩
    · unfold Rx.lazyEnd; rw [show (st.to (st.at' + 1)).at' = st.at' + 1 from rfl, HZ.out]; exact L3.out
    · unfold Rx.lazyEnd; rw [show (st.to (st.at' + 1)).at' = st.at' + 1 from rfl, HZ.out]; rfl
    · unfold Rx.lazyEnd at hu; rw [show (st.to (st.at' + 1)).at' = st.at' + 1 from rfl, HZ.out] at hu; cases hu; exact N3.out
set_option maxHeartbeats 2000000 in
set_option maxRecDepth 100000 in
theorem count_ask (R : Nat) (bs : List Nat) (t : Rx.Node) (bt B : Nat) (st : RS) (hB : IsB bs) (hl : bs.length ≤ 500) (hi : Inv bs st) (w : World) (H : Rd w R bs st) (hRB : R < B) (hBw : B ≤ w.heap.size) (hn : IsN w (Fresh B) t bt) (h42 : Rx.isAt bs st.at' 42 = false) (h43 : Rx.isAt bs st.at' 43 = false) (h63 : Rx.isAt bs st.at' 63 = true) : Calls Tryd.prog 50 #[.pointer (some ⟨R, 0, none⟩), ptr bt] w (CRes w R bs B (Rx.lazyEnd bs (st.to (st.at' + 1)) 0 (some 1) false t)) := by
  have ha := hi.1
  have K0 := (show Kt w ((w.alloc (.cells #[ptr bt] 60)).alloc (.cells (nodeC 5 Set4.none 0 0 0 0 false false nilP (.slice (some ⟨w.heap.size, 0, none⟩) 1 1) 0) 71)) R bs st bt (nodeC 5 Set4.none 0 0 0 0 false false nilP (.slice (some ⟨w.heap.size, 0, none⟩) 1 1) 0) from
    ⟨(((Went.refl H).alloc _).alloc _), by have := heap_alloc_new (w.alloc (.cells #[ptr bt] 60)) (.cells (nodeC 5 Set4.none 0 0 0 0 false false nilP (.slice (some ⟨w.heap.size, 0, none⟩) 1 1) 0) 71); rw [World.size_alloc] at this; exact this,
     (Below.heap_alloc _ _ _ (by simp)).trans (heap_alloc_new w _)⟩)
  have K0 := Lib.hid K0
  unfold nodeC nilP ptr at K0
  have S0 := Lib.hid (fun w (H : Rd w R bs st) => sign_no R bs st 42 hB (by decide) h42 ha hl w H)
  have S1 := Lib.hid (fun w (H : Rd w R bs st) => sign_no R bs st 43 hB (by decide) h43 ha hl w H)
  have S2 := Lib.hid (fun w (H : Rd w R bs st) => sign_yes R bs st 63 hB (by decide) h63 hl w H)
  have hlt := isAt_lt h63
  have HRW := Lib.hid (show R < w.heap.size by omega)
  have HN := Lib.hid hn
  have HQ := Lib.hid (show st.at' + 1 ≤ bs.length from hlt)
  clear hn H h42 h43 h63
  unfold ptr
  go_enter Tryd.func50, Tryd.ntmps50
  go_wp2_with fail
  refine (S0.out _ K0.out.went.rd).mono ?_
  rintro e w1 ⟨rfl, hb⟩
  have K1 := Lib.hid (K0.out.step HRW.out hb)
  clear hb
  go_wp2_with fail
  refine (S1.out _ K1.out.went.rd).mono ?_
  rintro e w2 ⟨rfl, hb⟩
  have K2 := Lib.hid (K1.out.step HRW.out hb)
  clear hb
  go_wp2_with fail
  refine (S2.out _ K2.out.went.rd).mono ?_
  rintro e w3 ⟨rfl, hb⟩
  have K3 := Lib.hid (K2.out.step HRW.out hb)
  clear hb
  have c8 : w3.cell? ⟨w.heap.size + 1, 8, none⟩ = some (.int .i64 0) := K3.out.c 8
  have f8 := K3.out.f 8
  have K4 := Lib.hid (show Kt w (w3.setCell ⟨w.heap.size + 1, 8, none⟩ (.int .i64 1)) R bs (st.to (st.at' + 1)) bt #[.int .u8 5, .int .u64 0, .int .u64 0, .int .u64 0, .int .u64 0, .int .u8 0, .int .i64 0, .int .i64 0, .int .i64 1, .bool false, .bool false, .pointer none, .slice (some ⟨w.heap.size, 0, none⟩) 1 1, .int .i64 0] from K3.out.set HRW.out 8 (.int .i64 1))
  clear hlt
  cases hz : Rx.isAt bs (st.at' + 1) 63 with
  | true =>
    have CZ := Lib.hid (sign_yes R bs (st.to (st.at' + 1)) 63 hB (by decide) hz hl _ K4.out.went.rd)
    have HZ := Lib.hid hz
    clear hz
    go_wp2_with fail
    refine CZ.out.mono ?_
    rintro e x1 ⟨rfl, hb⟩
    have L1 := K4.out.step HRW.out hb
    have c10 : x1.cell? ⟨w.heap.size + 1, 10, none⟩ = some (.bool false) := L1.c 10
    have f10 := L1.f 10
    have L2 := Lib.hid (show Kt w (x1.setCell ⟨w.heap.size + 1, 10, none⟩ (.bool true)) R bs (st.to (st.at' + 1 + 1)) bt #[.int .u8 5, .int .u64 0, .int .u64 0, .int .u64 0, .int .u64 0, .int .u8 0, .int .i64 0, .int .i64 0, .int .i64 1, .bool false, .bool true, (.pointer none), .slice (some ⟨w.heap.size, 0, none⟩) 1 1, .int .i64 0] from L1.set HRW.out 10 (.bool true))
    have NN := L2.out.went.node (B := B) hRB HN.out
    have CN := Lib.hid (newNode_count 0 (some 1) false true t (by decide) (fun M e => by cases e; decide) (.pointer none) w.heap.size bt #[ptr bt] (Fresh B) (x1.setCell ⟨w.heap.size + 1, 10, none⟩ (.bool true)) (by have := L2.out.went.only.size; unfold Fresh; omega) hBw L2.out.kids rfl NN (rfl))
    have hrow := L2.out.row
    have hrow' : (x1.setCell ⟨w.heap.size + 1, 10, none⟩ (.bool true)).heap[w.heap.size + 1]? = some (.cells (nodeC 5 Set4.none 0 0 0 (mostI (some 1)) false true (.pointer none) (.slice (some ⟨w.heap.size, 0, none⟩) 1 1) 0) 71 (0, 0)) := hrow
    clear hb L1 hrow NN
    go_upto_region 16 with (fail)
    go_wp2_with (refine wpList_load_row rfl 71 (.tmp 6) rfl (w.heap.size + 1) rfl 71 (nodeC 5 Set4.none 0 0 0 (mostI (some 1)) false true (.pointer none) (.slice (some ⟨w.heap.size, 0, none⟩) 1 1) 0) (0, 0) _ hrow' Tryd.underlying71 rfl (by kernel_rfl) ?_)
    refine CN.out.mono ?_
    rintro e x3 ⟨b2, rfl, hb, hn2⟩
    have L3 := Lib.hid (L2.out.went.below hb)
    have N3 := Lib.hid hn2
    clear hb hn2 hrow'
    unfold ptr
    go_wp2
    go_ret2
    refine ⟨?_, ptr b2, ?_, fun u hu => ⟨b2, rfl, ?_⟩⟩
    · unfold Rx.lazyEnd; rw [show (st.to (st.at' + 1)).at' = st.at' + 1 from rfl, HZ.out]; exact L3.out
    · unfold Rx.lazyEnd; rw [show (st.to (st.at' + 1)).at' = st.at' + 1 from rfl, HZ.out]; rfl
    · unfold Rx.lazyEnd at hu; rw [show (st.to (st.at' + 1)).at' = st.at' + 1 from rfl, HZ.out] at hu; cases hu; exact N3.out
  | false =>
    have CZ := Lib.hid (sign_no R bs (st.to (st.at' + 1)) 63 hB (by decide) hz HQ.out hl _ K4.out.went.rd)
    have HZ := Lib.hid hz
    clear hz
    go_wp2_with fail
    refine CZ.out.mono ?_
    rintro e x1 ⟨rfl, hb⟩
    have L1 := K4.out.step HRW.out hb
    have c10 : x1.cell? ⟨w.heap.size + 1, 10, none⟩ = some (.bool false) := L1.c 10
    have f10 := L1.f 10
    have L2 := Lib.hid (show Kt w (x1.setCell ⟨w.heap.size + 1, 10, none⟩ (.bool false)) R bs (st.to (st.at' + 1)) bt #[.int .u8 5, .int .u64 0, .int .u64 0, .int .u64 0, .int .u64 0, .int .u8 0, .int .i64 0, .int .i64 0, .int .i64 1, .bool false, .bool false, (.pointer none), .slice (some ⟨w.heap.size, 0, none⟩) 1 1, .int .i64 0] from L1.set HRW.out 10 (.bool false))
    have NN := L2.out.went.node (B := B) hRB HN.out
    have CN := Lib.hid (newNode_count 0 (some 1) false false t (by decide) (fun M e => by cases e; decide) (.pointer none) w.heap.size bt #[ptr bt] (Fresh B) (x1.setCell ⟨w.heap.size + 1, 10, none⟩ (.bool false)) (by have := L2.out.went.only.size; unfold Fresh; omega) hBw L2.out.kids rfl NN (rfl))
    have hrow := L2.out.row
    have hrow' : (x1.setCell ⟨w.heap.size + 1, 10, none⟩ (.bool false)).heap[w.heap.size + 1]? = some (.cells (nodeC 5 Set4.none 0 0 0 (mostI (some 1)) false false (.pointer none) (.slice (some ⟨w.heap.size, 0, none⟩) 1 1) 0) 71 (0, 0)) := hrow
    clear hb L1 hrow NN
    go_upto_region 16 with (fail)
    go_wp2_with (refine wpList_load_row rfl 71 (.tmp 6) rfl (w.heap.size + 1) rfl 71 (nodeC 5 Set4.none 0 0 0 (mostI (some 1)) false false (.pointer none) (.slice (some ⟨w.heap.size, 0, none⟩) 1 1) 0) (0, 0) _ hrow' Tryd.underlying71 rfl (by kernel_rfl) ?_)
    refine CN.out.mono ?_
    rintro e x3 ⟨b2, rfl, hb, hn2⟩
    have L3 := Lib.hid (L2.out.went.below hb)
    have N3 := Lib.hid hn2
    clear hb hn2 hrow'
    unfold ptr
    go_wp2
    go_ret2
    refine ⟨?_, ptr b2, ?_, fun u hu => ⟨b2, rfl, ?_⟩⟩
    · unfold Rx.lazyEnd; rw [show (st.to (st.at' + 1)).at' = st.at' + 1 from rfl, HZ.out]; exact L3.out
    · unfold Rx.lazyEnd; rw [show (st.to (st.at' + 1)).at' = st.at' + 1 from rfl, HZ.out]; rfl
    · unfold Rx.lazyEnd at hu; rw [show (st.to (st.at' + 1)).at' = st.at' + 1 from rfl, HZ.out] at hu; cases hu; exact N3.out
set_option maxHeartbeats 2000000 in
set_option maxRecDepth 100000 in
theorem count_plus (R : Nat) (bs : List Nat) (t : Rx.Node) (bt B : Nat) (st : RS) (hB : IsB bs) (hl : bs.length ≤ 500) (hi : Inv bs st) (w : World) (H : Rd w R bs st) (hRB : R < B) (hBw : B ≤ w.heap.size) (hn : IsN w (Fresh B) t bt) (hz1 : sizeOk t) (h42 : Rx.isAt bs st.at' 42 = false) (h43 : Rx.isAt bs st.at' 43 = true) : Calls Tryd.prog 50 #[.pointer (some ⟨R, 0, none⟩), ptr bt] w (CRes w R bs B (Rx.lazyEnd bs (st.to (st.at' + 1)) 1 none true t)) := by
  have ha := hi.1
  have K0 := (show Kt w ((w.alloc (.cells #[ptr bt] 60)).alloc (.cells (nodeC 5 Set4.none 0 0 0 0 false false nilP (.slice (some ⟨w.heap.size, 0, none⟩) 1 1) 0) 71)) R bs st bt (nodeC 5 Set4.none 0 0 0 0 false false nilP (.slice (some ⟨w.heap.size, 0, none⟩) 1 1) 0) from
    ⟨(((Went.refl H).alloc _).alloc _), by have := heap_alloc_new (w.alloc (.cells #[ptr bt] 60)) (.cells (nodeC 5 Set4.none 0 0 0 0 false false nilP (.slice (some ⟨w.heap.size, 0, none⟩) 1 1) 0) 71); rw [World.size_alloc] at this; exact this,
     (Below.heap_alloc _ _ _ (by simp)).trans (heap_alloc_new w _)⟩)
  have K0 := Lib.hid K0
  unfold nodeC nilP ptr at K0
  have S0 := Lib.hid (fun w (H : Rd w R bs st) => sign_no R bs st 42 hB (by decide) h42 ha hl w H)
  have S1 := Lib.hid (fun w (H : Rd w R bs st) => sign_yes R bs st 43 hB (by decide) h43 hl w H)
  have hlt := isAt_lt h43
  have HRW := Lib.hid (show R < w.heap.size by omega)
  have HN := Lib.hid hn
  have HQ := Lib.hid (show st.at' + 1 ≤ bs.length from hlt)
  have HZ1 := Lib.hid hz1
  clear hn H h42 h43 hz1
  unfold ptr
  go_enter Tryd.func50, Tryd.ntmps50
  go_wp2_with fail
  refine (S0.out _ K0.out.went.rd).mono ?_
  rintro e w1 ⟨rfl, hb⟩
  have K1 := Lib.hid (K0.out.step HRW.out hb)
  clear hb
  go_wp2_with fail
  refine (S1.out _ K1.out.went.rd).mono ?_
  rintro e w2 ⟨rfl, hb⟩
  have K2 := Lib.hid (K1.out.step HRW.out hb)
  clear hb
  have c7 : w2.cell? ⟨w.heap.size + 1, 7, none⟩ = some (.int .i64 0) := K2.out.c 7
  have f7 := K2.out.f 7
  have k3 := K2.out.set HRW.out 7 (.int .i64 1)
  have c8 : (w2.setCell ⟨w.heap.size + 1, 7, none⟩ (.int .i64 1)).cell? ⟨w.heap.size + 1, 8, none⟩ = some (.int .i64 0) := k3.c 8
  have f8 := k3.f 8
  have k4 := k3.set HRW.out 8 (.int .i64 (-1))
  have c9 : ((w2.setCell ⟨w.heap.size + 1, 7, none⟩ (.int .i64 1)).setCell ⟨w.heap.size + 1, 8, none⟩ (.int .i64 (-1))).cell? ⟨w.heap.size + 1, 9, none⟩ = some (.bool false) := k4.c 9
  have f9 := k4.f 9
  have k5 := k4.set HRW.out 9 (.bool true)
  have K5 := Lib.hid (show Kt w (((w2.setCell ⟨w.heap.size + 1, 7, none⟩ (.int .i64 1)).setCell ⟨w.heap.size + 1, 8, none⟩ (.int .i64 (-1))).setCell ⟨w.heap.size + 1, 9, none⟩ (.bool true)) R bs (st.to (st.at' + 1)) bt #[.int .u8 5, .int .u64 0, .int .u64 0, .int .u64 0, .int .u64 0, .int .u8 0, .int .i64 0, .int .i64 1, .int .i64 (-1), .bool true, .bool false, .pointer none, .slice (some ⟨w.heap.size, 0, none⟩) 1 1, .int .i64 0] from k5)
  have CE := Lib.hid (emptiness_any (Fresh B) t HZ1.out bt _ (K5.out.went.node (B := B) hRB HN.out))
  unfold ptr at CE
  clear hlt k3 k4 k5
  go_wp2_with fail
  refine CE.out.mono ?_
  rintro e w6 ⟨em, rfl, hb, hem⟩
  have K6 := K5.out.below hb
  have c11 : w6.cell? ⟨w.heap.size + 1, 11, none⟩ = some (.pointer none) := K6.c 11
  have f11 := K6.f 11
  obtain ⟨eb, ec, rfl, hes, heh, hek⟩ := hem
  have hes2 : w.heap.size ≤ eb := by have := K5.out.went.only.size; unfold Fresh at hes; omega
  have hebne : eb ≠ w.heap.size + 1 := by
    intro h
    have := K6.row
    rw [← h, heh] at this
    cases this
  have heh7 : (w6.setCell ⟨w.heap.size + 1, 11, none⟩ (ptr eb)).heap[eb]? = some (.cells ec 124 (0, 0)) := (heap_setCell_other _ _ _ _ (by first | exact hebne | exact fun h => hebne h.symm)).trans heh
  have HEB := Lib.hid (show w.heap.size ≤ eb from hes2)
  have HEM := Lib.hid (show EmAt (w6.setCell ⟨w.heap.size + 1, 11, none⟩ (ptr eb)) (Fresh w.heap.size) t (ptr eb) from ⟨eb, ec, rfl, hes2, heh7, hek⟩)
  have K7 := Lib.hid (show Kt w (w6.setCell ⟨w.heap.size + 1, 11, none⟩ (ptr eb)) R bs (st.to (st.at' + 1)) bt #[.int .u8 5, .int .u64 0, .int .u64 0, .int .u64 0, .int .u64 0, .int .u8 0, .int .i64 0, .int .i64 1, .int .i64 (-1), .bool true, .bool false, (ptr eb), .slice (some ⟨w.heap.size, 0, none⟩) 1 1, .int .i64 0] from K6.set HRW.out 11 (ptr eb))
  have HEQ := Lib.hid (fun w' (hb : Went (w6.setCell ⟨w.heap.size + 1, 11, none⟩ (ptr eb)) w' R bs (st.to (st.at' + 1)) ∨ Went (w6.setCell ⟨w.heap.size + 1, 11, none⟩ (ptr eb)) w' R bs (st.to (st.at' + 1 + 1))) (z : Value) => show EmAt (w'.setCell ⟨w.heap.size + 1, 10, none⟩ z) (Fresh B) t (ptr eb) from by
    have ho : Only [R] (w6.setCell ⟨w.heap.size + 1, 11, none⟩ (ptr eb)) w' := by rcases hb with h | h <;> exact h.only
    have h1 := HEM.out
    refine ⟨eb, ec, rfl, by have := HEB.out; unfold Fresh; omega, ?_, hek⟩
    refine (heap_setCell_other _ _ _ _ (by first | exact hebne | exact fun h => hebne h.symm)).trans ((ho.block eb (Array.getElem?_eq_some_iff.1 heh7).1 (by have := HEB.out; have := HRW.out; simp; omega)).trans heh7))
  clear hb K6 hes heh hek hes2 hebne heh7
  unfold ptr at K7 HEQ ⊢
  cases hz : Rx.isAt bs (st.at' + 1) 63 with
  | true =>
    have CZ := Lib.hid (sign_yes R bs (st.to (st.at' + 1)) 63 hB (by decide) hz hl _ K7.out.went.rd)
    have HZ := Lib.hid hz
    clear hz
    go_wp2_with fail
    refine CZ.out.mono ?_
    rintro e x1 ⟨rfl, hb⟩
    have L1 := K7.out.step HRW.out hb
    have hbk := hb
    have c10 : x1.cell? ⟨w.heap.size + 1, 10, none⟩ = some (.bool false) := L1.c 10
    have f10 := L1.f 10
    have L2 := Lib.hid (show Kt w (x1.setCell ⟨w.heap.size + 1, 10, none⟩ (.bool true)) R bs (st.to (st.at' + 1 + 1)) bt #[.int .u8 5, .int .u64 0, .int .u64 0, .int .u64 0, .int .u64 0, .int .u8 0, .int .i64 0, .int .i64 1, .int .i64 (-1), .bool true, .bool true, (.pointer (some ⟨eb, 0, none⟩)), .slice (some ⟨w.heap.size, 0, none⟩) 1 1, .int .i64 0] from L1.set HRW.out 10 (.bool true))
    have NN := L2.out.went.node (B := B) hRB HN.out
    have CN := Lib.hid (newNode_count 1 none true true t (by decide) (fun M e => by cases e) (.pointer (some ⟨eb, 0, none⟩)) w.heap.size bt #[ptr bt] (Fresh B) (x1.setCell ⟨w.heap.size + 1, 10, none⟩ (.bool true)) (by have := L2.out.went.only.size; unfold Fresh; omega) hBw L2.out.kids rfl NN (HEQ.out x1 (by first | exact .inl hbk | exact .inr hbk) _))
    have hrow := L2.out.row
    have hrow' : (x1.setCell ⟨w.heap.size + 1, 10, none⟩ (.bool true)).heap[w.heap.size + 1]? = some (.cells (nodeC 5 Set4.none 0 0 1 (mostI none) true true (.pointer (some ⟨eb, 0, none⟩)) (.slice (some ⟨w.heap.size, 0, none⟩) 1 1) 0) 71 (0, 0)) := hrow
    clear hb hbk L1 hrow NN
    go_upto_region 16 with (fail)
    go_wp2_with (refine wpList_load_row rfl 71 (.tmp 6) rfl (w.heap.size + 1) rfl 71 (nodeC 5 Set4.none 0 0 1 (mostI none) true true (.pointer (some ⟨eb, 0, none⟩)) (.slice (some ⟨w.heap.size, 0, none⟩) 1 1) 0) (0, 0) _ hrow' Tryd.underlying71 rfl (by kernel_rfl) ?_)
    refine CN.out.mono ?_
    rintro e x3 ⟨b2, rfl, hb, hn2⟩
    have L3 := Lib.hid (L2.out.went.below hb)
    have N3 := Lib.hid hn2
    clear hb hn2 hrow'
    unfold ptr
    go_wp2
    go_ret2
    refine ⟨?_, ptr b2, ?_, fun u hu => ⟨b2, rfl, ?_⟩⟩
    · unfold Rx.lazyEnd; rw [show (st.to (st.at' + 1)).at' = st.at' + 1 from rfl, HZ.out]; exact L3.out
    · unfold Rx.lazyEnd; rw [show (st.to (st.at' + 1)).at' = st.at' + 1 from rfl, HZ.out]; rfl
    · unfold Rx.lazyEnd at hu; rw [show (st.to (st.at' + 1)).at' = st.at' + 1 from rfl, HZ.out] at hu; cases hu; exact N3.out
  | false =>
    have CZ := Lib.hid (sign_no R bs (st.to (st.at' + 1)) 63 hB (by decide) hz HQ.out hl _ K7.out.went.rd)
    have HZ := Lib.hid hz
    clear hz
    go_wp2_with fail
    refine CZ.out.mono ?_
    rintro e x1 ⟨rfl, hb⟩
    have L1 := K7.out.step HRW.out hb
    have hbk := hb
    have c10 : x1.cell? ⟨w.heap.size + 1, 10, none⟩ = some (.bool false) := L1.c 10
    have f10 := L1.f 10
    have L2 := Lib.hid (show Kt w (x1.setCell ⟨w.heap.size + 1, 10, none⟩ (.bool false)) R bs (st.to (st.at' + 1)) bt #[.int .u8 5, .int .u64 0, .int .u64 0, .int .u64 0, .int .u64 0, .int .u8 0, .int .i64 0, .int .i64 1, .int .i64 (-1), .bool true, .bool false, (.pointer (some ⟨eb, 0, none⟩)), .slice (some ⟨w.heap.size, 0, none⟩) 1 1, .int .i64 0] from L1.set HRW.out 10 (.bool false))
    have NN := L2.out.went.node (B := B) hRB HN.out
    have CN := Lib.hid (newNode_count 1 none true false t (by decide) (fun M e => by cases e) (.pointer (some ⟨eb, 0, none⟩)) w.heap.size bt #[ptr bt] (Fresh B) (x1.setCell ⟨w.heap.size + 1, 10, none⟩ (.bool false)) (by have := L2.out.went.only.size; unfold Fresh; omega) hBw L2.out.kids rfl NN (HEQ.out x1 (by first | exact .inl hbk | exact .inr hbk) _))
    have hrow := L2.out.row
    have hrow' : (x1.setCell ⟨w.heap.size + 1, 10, none⟩ (.bool false)).heap[w.heap.size + 1]? = some (.cells (nodeC 5 Set4.none 0 0 1 (mostI none) true false (.pointer (some ⟨eb, 0, none⟩)) (.slice (some ⟨w.heap.size, 0, none⟩) 1 1) 0) 71 (0, 0)) := hrow
    clear hb hbk L1 hrow NN
    go_upto_region 16 with (fail)
    go_wp2_with (refine wpList_load_row rfl 71 (.tmp 6) rfl (w.heap.size + 1) rfl 71 (nodeC 5 Set4.none 0 0 1 (mostI none) true false (.pointer (some ⟨eb, 0, none⟩)) (.slice (some ⟨w.heap.size, 0, none⟩) 1 1) 0) (0, 0) _ hrow' Tryd.underlying71 rfl (by kernel_rfl) ?_)
    refine CN.out.mono ?_
    rintro e x3 ⟨b2, rfl, hb, hn2⟩
    have L3 := Lib.hid (L2.out.went.below hb)
    have N3 := Lib.hid hn2
    clear hb hn2 hrow'
    unfold ptr
    go_wp2
    go_ret2
    refine ⟨?_, ptr b2, ?_, fun u hu => ⟨b2, rfl, ?_⟩⟩
    · unfold Rx.lazyEnd; rw [show (st.to (st.at' + 1)).at' = st.at' + 1 from rfl, HZ.out]; exact L3.out
    · unfold Rx.lazyEnd; rw [show (st.to (st.at' + 1)).at' = st.at' + 1 from rfl, HZ.out]; rfl
    · unfold Rx.lazyEnd at hu; rw [show (st.to (st.at' + 1)).at' = st.at' + 1 from rfl, HZ.out] at hu; cases hu; exact N3.out
set_option maxHeartbeats 2000000 in
set_option maxRecDepth 100000 in
theorem count_yes (R : Nat) (bs : List Nat) (t : Rx.Node) (bt B : Nat) (st : RS) (hB : IsB bs) (hl : bs.length ≤ 500) (hi : Inv bs st) (w : World) (H : Rd w R bs st) (hRB : R < B) (hBw : B ≤ w.heap.size) (hn : IsN w (Fresh B) t bt) (h42 : Rx.isAt bs st.at' 42 = false) (h43 : Rx.isAt bs st.at' 43 = false) (h63 : Rx.isAt bs st.at' 63 = false) (h123 : Rx.isAt bs st.at' 123 = true) (l : Nat) (m : Option Nat) (q : Nat) (hbd : Rx.bounds bs (st.at' + 1) = (some (l, m), q)) (hle : l ≤ 1000) (hm : ∀ M, m = some M → l ≤ M ∧ M ≤ 1000) : Calls Tryd.prog 50 #[.pointer (some ⟨R, 0, none⟩), ptr bt] w (CRes w R bs B (Rx.lazyEnd bs (st.to q) l m false t)) := by
  have ha := hi.1
  have K0 := (show Kt w ((w.alloc (.cells #[ptr bt] 60)).alloc (.cells (nodeC 5 Set4.none 0 0 0 0 false false nilP (.slice (some ⟨w.heap.size, 0, none⟩) 1 1) 0) 71)) R bs st bt (nodeC 5 Set4.none 0 0 0 0 false false nilP (.slice (some ⟨w.heap.size, 0, none⟩) 1 1) 0) from
    ⟨(((Went.refl H).alloc _).alloc _), by have := heap_alloc_new (w.alloc (.cells #[ptr bt] 60)) (.cells (nodeC 5 Set4.none 0 0 0 0 false false nilP (.slice (some ⟨w.heap.size, 0, none⟩) 1 1) 0) 71); rw [World.size_alloc] at this; exact this,
     (Below.heap_alloc _ _ _ (by simp)).trans (heap_alloc_new w _)⟩)
  have K0 := Lib.hid K0
  unfold nodeC nilP ptr at K0
  have S0 := Lib.hid (fun w (H : Rd w R bs st) => sign_no R bs st 42 hB (by decide) h42 ha hl w H)
  have S1 := Lib.hid (fun w (H : Rd w R bs st) => sign_no R bs st 43 hB (by decide) h43 ha hl w H)
  have S2 := Lib.hid (fun w (H : Rd w R bs st) => sign_no R bs st 63 hB (by decide) h63 ha hl w H)
  have S3 := Lib.hid (fun w (H : Rd w R bs st) => sign_yes R bs st 123 hB (by decide) h123 hl w H)
  have hlt := isAt_lt h123
  have HRW := Lib.hid (show R < w.heap.size by omega)
  have HN := Lib.hid hn
  have CB := Lib.hid (fun w (H : Rd w R bs (st.to (st.at' + 1))) => bounds_any R bs (st.to (st.at' + 1)) hB hlt hl w H)
  rw [show (st.to (st.at' + 1)).at' = st.at' + 1 from rfl, hbd] at CB
  have HQ := Lib.hid (show q ≤ bs.length by have := bounds_le bs (st.at' + 1) hlt; rw [hbd] at this; exact this)
  have HLE := Lib.hid hle
  have HM := Lib.hid hm
  clear hn H h42 h43 h63 h123 hbd hlt hle hm
  unfold ptr
  go_enter Tryd.func50, Tryd.ntmps50
  go_wp2_with fail
  refine (S0.out _ K0.out.went.rd).mono ?_
  rintro e w1 ⟨rfl, hb⟩
  have K1 := Lib.hid (K0.out.step HRW.out hb)
  clear hb
  go_wp2_with fail
  refine (S1.out _ K1.out.went.rd).mono ?_
  rintro e w2 ⟨rfl, hb⟩
  have K2 := Lib.hid (K1.out.step HRW.out hb)
  clear hb
  go_wp2_with fail
  refine (S2.out _ K2.out.went.rd).mono ?_
  rintro e w3 ⟨rfl, hb⟩
  have K3 := Lib.hid (K2.out.step HRW.out hb)
  clear hb
  go_wp2_with fail
  refine (S3.out _ K3.out.went.rd).mono ?_
  rintro e w4 ⟨rfl, hb⟩
  have K4 := Lib.hid (K3.out.step HRW.out hb)
  clear hb
  go_wp2_with fail
  refine (CB.out _ K4.out.went.rd).mono ?_
  rintro e w5 ⟨hbp, hb⟩
  obtain ⟨xa, xb, rfl, hxy⟩ := hbp
  have k5 := K4.out.step HRW.out hb
  have c7 : w5.cell? ⟨w.heap.size + 1, 7, none⟩ = some (.int .i64 0) := k5.c 7
  have f7 := k5.f 7
  obtain ⟨rfl, rfl⟩ := hxy l m rfl
  have k6 := k5.set HRW.out 7 (.int .i64 ((l : Nat) : Int))
  have c8 : (w5.setCell ⟨w.heap.size + 1, 7, none⟩ (.int .i64 ((l : Nat) : Int))).cell? ⟨w.heap.size + 1, 8, none⟩ = some (.int .i64 0) := k6.c 8
  have f8 := k6.f 8
  have k7 := k6.set HRW.out 8 (.int .i64 (mostI m))
  have K7 := Lib.hid (show Kt w ((w5.setCell ⟨w.heap.size + 1, 7, none⟩ (.int .i64 ((l : Nat) : Int))).setCell ⟨w.heap.size + 1, 8, none⟩ (.int .i64 (mostI m))) R bs (st.to q) bt #[.int .u8 5, .int .u64 0, .int .u64 0, .int .u64 0, .int .u64 0, .int .u8 0, .int .i64 0, .int .i64 ((l : Nat) : Int), .int .i64 (mostI m), .bool false, .bool false, .pointer none, .slice (some ⟨w.heap.size, 0, none⟩) 1 1, .int .i64 0] from k7)
  clear hb k5 k6 k7 hxy
  cases hz : Rx.isAt bs (q) 63 with
  | true =>
    have CZ := Lib.hid (sign_yes R bs (st.to (q)) 63 hB (by decide) hz hl _ K7.out.went.rd)
    have HZ := Lib.hid hz
    clear hz
    go_wp2_with fail
    refine CZ.out.mono ?_
    rintro e x1 ⟨rfl, hb⟩
    have L1 := K7.out.step HRW.out hb
    have c10 : x1.cell? ⟨w.heap.size + 1, 10, none⟩ = some (.bool false) := L1.c 10
    have f10 := L1.f 10
    have L2 := Lib.hid (show Kt w (x1.setCell ⟨w.heap.size + 1, 10, none⟩ (.bool true)) R bs (st.to (q + 1)) bt #[.int .u8 5, .int .u64 0, .int .u64 0, .int .u64 0, .int .u64 0, .int .u8 0, .int .i64 0, .int .i64 ((l : Nat) : Int), .int .i64 (mostI m), .bool false, .bool true, (.pointer none), .slice (some ⟨w.heap.size, 0, none⟩) 1 1, .int .i64 0] from L1.set HRW.out 10 (.bool true))
    have NN := L2.out.went.node (B := B) hRB HN.out
    have CN := Lib.hid (newNode_count l m false true t HLE.out HM.out (.pointer none) w.heap.size bt #[ptr bt] (Fresh B) (x1.setCell ⟨w.heap.size + 1, 10, none⟩ (.bool true)) (by have := L2.out.went.only.size; unfold Fresh; omega) hBw L2.out.kids rfl NN (rfl))
    have hrow := L2.out.row
    have hrow' : (x1.setCell ⟨w.heap.size + 1, 10, none⟩ (.bool true)).heap[w.heap.size + 1]? = some (.cells (nodeC 5 Set4.none 0 0 l (mostI m) false true (.pointer none) (.slice (some ⟨w.heap.size, 0, none⟩) 1 1) 0) 71 (0, 0)) := hrow
    clear hb L1 hrow NN
    go_upto_region 16 with (fail)
    go_wp2_with (refine wpList_load_row rfl 71 (.tmp 6) rfl (w.heap.size + 1) rfl 71 (nodeC 5 Set4.none 0 0 l (mostI m) false true (.pointer none) (.slice (some ⟨w.heap.size, 0, none⟩) 1 1) 0) (0, 0) _ hrow' Tryd.underlying71 rfl (by kernel_rfl) ?_)
    refine CN.out.mono ?_
    rintro e x3 ⟨b2, rfl, hb, hn2⟩
    have L3 := Lib.hid (L2.out.went.below hb)
    have N3 := Lib.hid hn2
    clear hb hn2 hrow'
    unfold ptr
    go_wp2
    go_ret2
    refine ⟨?_, ptr b2, ?_, fun u hu => ⟨b2, rfl, ?_⟩⟩
    · unfold Rx.lazyEnd; rw [show (st.to (q)).at' = q from rfl, HZ.out]; exact L3.out
    · unfold Rx.lazyEnd; rw [show (st.to (q)).at' = q from rfl, HZ.out]; rfl
    · unfold Rx.lazyEnd at hu; rw [show (st.to (q)).at' = q from rfl, HZ.out] at hu; cases hu; exact N3.out
  | false =>
    have CZ := Lib.hid (sign_no R bs (st.to (q)) 63 hB (by decide) hz HQ.out hl _ K7.out.went.rd)
    have HZ := Lib.hid hz
    clear hz
    go_wp2_with fail
    refine CZ.out.mono ?_
    rintro e x1 ⟨rfl, hb⟩
    have L1 := K7.out.step HRW.out hb
    have c10 : x1.cell? ⟨w.heap.size + 1, 10, none⟩ = some (.bool false) := L1.c 10
    have f10 := L1.f 10
    have L2 := Lib.hid (show Kt w (x1.setCell ⟨w.heap.size + 1, 10, none⟩ (.bool false)) R bs (st.to (q)) bt #[.int .u8 5, .int .u64 0, .int .u64 0, .int .u64 0, .int .u64 0, .int .u8 0, .int .i64 0, .int .i64 ((l : Nat) : Int), .int .i64 (mostI m), .bool false, .bool false, (.pointer none), .slice (some ⟨w.heap.size, 0, none⟩) 1 1, .int .i64 0] from L1.set HRW.out 10 (.bool false))
    have NN := L2.out.went.node (B := B) hRB HN.out
    have CN := Lib.hid (newNode_count l m false false t HLE.out HM.out (.pointer none) w.heap.size bt #[ptr bt] (Fresh B) (x1.setCell ⟨w.heap.size + 1, 10, none⟩ (.bool false)) (by have := L2.out.went.only.size; unfold Fresh; omega) hBw L2.out.kids rfl NN (rfl))
    have hrow := L2.out.row
    have hrow' : (x1.setCell ⟨w.heap.size + 1, 10, none⟩ (.bool false)).heap[w.heap.size + 1]? = some (.cells (nodeC 5 Set4.none 0 0 l (mostI m) false false (.pointer none) (.slice (some ⟨w.heap.size, 0, none⟩) 1 1) 0) 71 (0, 0)) := hrow
    clear hb L1 hrow NN
    go_upto_region 16 with (fail)
    go_wp2_with (refine wpList_load_row rfl 71 (.tmp 6) rfl (w.heap.size + 1) rfl 71 (nodeC 5 Set4.none 0 0 l (mostI m) false false (.pointer none) (.slice (some ⟨w.heap.size, 0, none⟩) 1 1) 0) (0, 0) _ hrow' Tryd.underlying71 rfl (by kernel_rfl) ?_)
    refine CN.out.mono ?_
    rintro e x3 ⟨b2, rfl, hb, hn2⟩
    have L3 := Lib.hid (L2.out.went.below hb)
    have N3 := Lib.hid hn2
    clear hb hn2 hrow'
    unfold ptr
    go_wp2
    go_ret2
    refine ⟨?_, ptr b2, ?_, fun u hu => ⟨b2, rfl, ?_⟩⟩
    · unfold Rx.lazyEnd; rw [show (st.to (q)).at' = q from rfl, HZ.out]; exact L3.out
    · unfold Rx.lazyEnd; rw [show (st.to (q)).at' = q from rfl, HZ.out]; rfl
    · unfold Rx.lazyEnd at hu; rw [show (st.to (q)).at' = q from rfl, HZ.out] at hu; cases hu; exact N3.out
set_option maxHeartbeats 2000000 in
set_option maxRecDepth 100000 in
theorem count_no (R : Nat) (bs : List Nat) (t : Rx.Node) (bt B : Nat) (st : RS) (hB : IsB bs) (hl : bs.length ≤ 500) (hi : Inv bs st) (w : World) (H : Rd w R bs st) (hRB : R < B) (hBw : B ≤ w.heap.size) (hn : IsN w (Fresh B) t bt) (h42 : Rx.isAt bs st.at' 42 = false) (h43 : Rx.isAt bs st.at' 43 = false) (h63 : Rx.isAt bs st.at' 63 = false) (h123 : Rx.isAt bs st.at' 123 = true) (q : Nat) (hbd : Rx.bounds bs (st.at' + 1) = (none, q)) : Calls Tryd.prog 50 #[.pointer (some ⟨R, 0, none⟩), ptr bt] w (CRes w R bs B (none, st.to q)) := by
  have ha := hi.1
  have K0 := (show Kt w ((w.alloc (.cells #[ptr bt] 60)).alloc (.cells (nodeC 5 Set4.none 0 0 0 0 false false nilP (.slice (some ⟨w.heap.size, 0, none⟩) 1 1) 0) 71)) R bs st bt (nodeC 5 Set4.none 0 0 0 0 false false nilP (.slice (some ⟨w.heap.size, 0, none⟩) 1 1) 0) from
    ⟨(((Went.refl H).alloc _).alloc _), by have := heap_alloc_new (w.alloc (.cells #[ptr bt] 60)) (.cells (nodeC 5 Set4.none 0 0 0 0 false false nilP (.slice (some ⟨w.heap.size, 0, none⟩) 1 1) 0) 71); rw [World.size_alloc] at this; exact this,
     (Below.heap_alloc _ _ _ (by simp)).trans (heap_alloc_new w _)⟩)
  have K0 := Lib.hid K0
  unfold nodeC nilP ptr at K0
  have S0 := Lib.hid (fun w (H : Rd w R bs st) => sign_no R bs st 42 hB (by decide) h42 ha hl w H)
  have S1 := Lib.hid (fun w (H : Rd w R bs st) => sign_no R bs st 43 hB (by decide) h43 ha hl w H)
  have S2 := Lib.hid (fun w (H : Rd w R bs st) => sign_no R bs st 63 hB (by decide) h63 ha hl w H)
  have S3 := Lib.hid (fun w (H : Rd w R bs st) => sign_yes R bs st 123 hB (by decide) h123 hl w H)
  have hlt := isAt_lt h123
  have HRW := Lib.hid (show R < w.heap.size by omega)
  have HN := Lib.hid hn
  have CB := Lib.hid (fun w (H : Rd w R bs (st.to (st.at' + 1))) => bounds_any R bs (st.to (st.at' + 1)) hB hlt hl w H)
  rw [show (st.to (st.at' + 1)).at' = st.at' + 1 from rfl, hbd] at CB
  clear hn H h42 h43 h63 h123 hbd hlt
  unfold ptr
  go_enter Tryd.func50, Tryd.ntmps50
  go_wp2_with fail
  refine (S0.out _ K0.out.went.rd).mono ?_
  rintro e w1 ⟨rfl, hb⟩
  have K1 := Lib.hid (K0.out.step HRW.out hb)
  clear hb
  go_wp2_with fail
  refine (S1.out _ K1.out.went.rd).mono ?_
  rintro e w2 ⟨rfl, hb⟩
  have K2 := Lib.hid (K1.out.step HRW.out hb)
  clear hb
  go_wp2_with fail
  refine (S2.out _ K2.out.went.rd).mono ?_
  rintro e w3 ⟨rfl, hb⟩
  have K3 := Lib.hid (K2.out.step HRW.out hb)
  clear hb
  go_wp2_with fail
  refine (S3.out _ K3.out.went.rd).mono ?_
  rintro e w4 ⟨rfl, hb⟩
  have K4 := Lib.hid (K3.out.step HRW.out hb)
  clear hb
  go_wp2_with fail
  refine (CB.out _ K4.out.went.rd).mono ?_
  rintro e w5 ⟨hbp, hb⟩
  obtain ⟨xa, xb, rfl, hxy⟩ := hbp
  have k5 := K4.out.step HRW.out hb
  have c7 : w5.cell? ⟨w.heap.size + 1, 7, none⟩ = some (.int .i64 0) := k5.c 7
  have f7 := k5.f 7
  have k6 := k5.set HRW.out 7 (.int .i64 xa)
  have c8 : (w5.setCell ⟨w.heap.size + 1, 7, none⟩ (.int .i64 xa)).cell? ⟨w.heap.size + 1, 8, none⟩ = some (.int .i64 0) := k6.c 8
  have f8 := k6.f 8
  have K7 := Lib.hid (show Went w ((w5.setCell ⟨w.heap.size + 1, 7, none⟩ (.int .i64 xa)).setCell ⟨w.heap.size + 1, 8, none⟩ (.int .i64 xb)) R bs (st.to q) from (k6.set HRW.out 8 (.int .i64 xb)).went)
  clear hb k5 k6 hxy
  go_wp2
  go_ret2
  exact ⟨K7.out, _, rfl, fun u hu => by cases hu⟩
set_option maxHeartbeats 2000000 in
set_option maxRecDepth 100000 in
theorem count_none (R : Nat) (bs : List Nat) (t : Rx.Node) (bt B : Nat) (st : RS) (hB : IsB bs) (hl : bs.length ≤ 500) (hi : Inv bs st) (w : World) (H : Rd w R bs st) (hRB : R < B) (hBw : B ≤ w.heap.size) (hn : IsN w (Fresh B) t bt) (h42 : Rx.isAt bs st.at' 42 = false) (h43 : Rx.isAt bs st.at' 43 = false) (h63 : Rx.isAt bs st.at' 63 = false) (h123 : Rx.isAt bs st.at' 123 = false) : Calls Tryd.prog 50 #[.pointer (some ⟨R, 0, none⟩), ptr bt] w (CRes w R bs B (some t, st)) := by
  have ha := hi.1
  have K0 := (show Kt w ((w.alloc (.cells #[ptr bt] 60)).alloc (.cells (nodeC 5 Set4.none 0 0 0 0 false false nilP (.slice (some ⟨w.heap.size, 0, none⟩) 1 1) 0) 71)) R bs st bt (nodeC 5 Set4.none 0 0 0 0 false false nilP (.slice (some ⟨w.heap.size, 0, none⟩) 1 1) 0) from
    ⟨(((Went.refl H).alloc _).alloc _), by have := heap_alloc_new (w.alloc (.cells #[ptr bt] 60)) (.cells (nodeC 5 Set4.none 0 0 0 0 false false nilP (.slice (some ⟨w.heap.size, 0, none⟩) 1 1) 0) 71); rw [World.size_alloc] at this; exact this,
     (Below.heap_alloc _ _ _ (by simp)).trans (heap_alloc_new w _)⟩)
  have K0 := Lib.hid K0
  unfold nodeC nilP ptr at K0
  have S0 := Lib.hid (fun w (H : Rd w R bs st) => sign_no R bs st 42 hB (by decide) h42 ha hl w H)
  have S1 := Lib.hid (fun w (H : Rd w R bs st) => sign_no R bs st 43 hB (by decide) h43 ha hl w H)
  have S2 := Lib.hid (fun w (H : Rd w R bs st) => sign_no R bs st 63 hB (by decide) h63 ha hl w H)
  have S3 := Lib.hid (fun w (H : Rd w R bs st) => sign_no R bs st 123 hB (by decide) h123 ha hl w H)
  have HRW := Lib.hid (show R < w.heap.size by omega)
  have HN := Lib.hid hn
  clear hn H h42 h43 h63 h123
  unfold ptr
  go_enter Tryd.func50, Tryd.ntmps50
  go_wp2_with fail
  refine (S0.out _ K0.out.went.rd).mono ?_
  rintro e w1 ⟨rfl, hb⟩
  have K1 := Lib.hid (K0.out.step HRW.out hb)
  clear hb
  go_wp2_with fail
  refine (S1.out _ K1.out.went.rd).mono ?_
  rintro e w2 ⟨rfl, hb⟩
  have K2 := Lib.hid (K1.out.step HRW.out hb)
  clear hb
  go_wp2_with fail
  refine (S2.out _ K2.out.went.rd).mono ?_
  rintro e w3 ⟨rfl, hb⟩
  have K3 := Lib.hid (K2.out.step HRW.out hb)
  clear hb
  go_wp2_with fail
  refine (S3.out _ K3.out.went.rd).mono ?_
  rintro e w4 ⟨rfl, hb⟩
  have K4 := Lib.hid (K3.out.step HRW.out hb)
  clear hb
  go_wp2
  go_ret2
  exact ⟨K4.out.went, ptr bt, rfl, fun u hu => by cases hu; exact ⟨bt, rfl, K4.out.went.node (B := B) hRB HN.out⟩⟩
theorem count_any (R : Nat) (bs : List Nat) (t : Rx.Node) (bt B : Nat) (st : RS) (hB : IsB bs) (hl : bs.length ≤ 500) (hi : Inv bs st) (w : World) (H : Rd w R bs st) (hRB : R < B) (hBw : B ≤ w.heap.size) (hn : IsN w (Fresh B) t bt) (hz : sizeOk t) : Calls Tryd.prog 50 #[.pointer (some ⟨R, 0, none⟩), ptr bt] w (CRes w R bs B (Rx.countOf bs t st)) := by
  unfold Rx.countOf
  cases h42 : Rx.isAt bs st.at' 42 with
  | true => simp only [if_true]; exact count_star R bs t bt B st hB hl hi w H hRB hBw hn h42
  | false =>
    simp only [Bool.false_eq_true, if_false]
    cases h43 : Rx.isAt bs st.at' 43 with
    | true => simp only [if_true]; exact count_plus R bs t bt B st hB hl hi w H hRB hBw hn hz h42 h43
    | false =>
      simp only [Bool.false_eq_true, if_false]
      cases h63 : Rx.isAt bs st.at' 63 with
      | true => simp only [if_true]; exact count_ask R bs t bt B st hB hl hi w H hRB hBw hn h42 h43 h63
      | false =>
        simp only [Bool.false_eq_true, if_false]
        cases h123 : Rx.isAt bs st.at' 123 with
        | true =>
          simp only [if_true]
          rcases hbd : Rx.bounds bs (st.at' + 1) with ⟨_ | ⟨l, m⟩, q⟩
          · exact count_no R bs t bt B st hB hl hi w H hRB hBw hn h42 h43 h63 h123 q hbd
          · have := bounds_ok bs (st.at' + 1) l m (by rw [hbd])
            exact count_yes R bs t bt B st hB hl hi w H hRB hBw hn h42 h43 h63 h123 l m q hbd this.1 this.2
        | false => simp only [Bool.false_eq_true, if_false]; exact count_none R bs t bt B st hB hl hi w H hRB hBw hn h42 h43 h63 h123
end Go.Proofs.YtphighddlfabbaaDoor
namespace Go.Proofs.YtphighddlfabbaaDoor
set_option linter.unusedVariables false
set_option linter.unusedSimpArgs false
open Go.RowKit Go.PlainAid Go.Shelf
open Rx (Set4 RS)
theorem fresh_mono {w' : World} {B C : Nat} (h : B ≤ C) {t : Rx.Node} {b : Nat} (hn : IsN w' (Fresh C) t b) : IsN w' (Fresh B) t b := IsN.keep (fun k hs _ => ⟨rfl, by unfold Fresh at hs ⊢; omega⟩) t b hn
theorem NRes.lift {w w1 w' : World} {R : Nat} {bs : List Nat} {r : Option Rx.Node × RS} {st : RS} {e : Ending} (h : Went w w1 R bs st) (k : NRes w1 R bs r e w') : NRes w R bs r e w' := by
  obtain ⟨k1, v, k2, k3⟩ := k
  exact ⟨h.trans k1, v, k2, fun t ht => by obtain ⟨b, e1, e2⟩ := k3 t ht; exact ⟨b, e1, fresh_mono h.only.size e2⟩⟩
set_option maxHeartbeats 2000000 in
set_option maxRecDepth 100000 in
theorem atom_bad (R : Nat) (bs : List Nat) (f : Rx.PatF) (F : Nat) (CF : PatC R bs f F) (hpf : PFF bs f) (st : RS) (hB : IsB bs) (hl : bs.length ≤ 500) (hi : Inv bs st) (hF : F ≤ st.at' + 1) (w : World) (H : Rd w R bs st) (hT : TabAt w) (hR : 1 ≠ R) (h0 : Rx.isNext bs st.at' [42, 43, 63, 123, 125, 93] = true) : Calls Tryd.prog 49 #[.pointer (some ⟨R, 0, none⟩)] w (NRes w R bs (none, st)) := by
  have ha := hi.1
  have W0 := Lib.hid (Went.refl H)
  have S0 := Lib.hid (fun w (H : Rd w R bs st) => isNext_any R bs st [42, 43, 63, 123, 125, 93] hB (by unfold IsB; decide) ha hl w H)
  rw [h0] at S0
  have HT := Lib.hid hT
  clear H hT CF hpf hi h0
  go_enter Tryd.func49, Tryd.ntmps49
  go_wp2_with fail
  refine (S0.out _ W0.out.rd).mono ?_
  rintro e w1 ⟨rfl, hb⟩
  have W1 := Lib.hid (W0.out.below hb)
  clear hb
  go_wp2_with fail
  go_ret2
  exact NRes.fail W1.out
set_option maxHeartbeats 2000000 in
set_option maxRecDepth 100000 in
theorem atom_paren (R : Nat) (bs : List Nat) (f : Rx.PatF) (F : Nat) (CF : PatC R bs f F) (hpf : PFF bs f) (st : RS) (hB : IsB bs) (hl : bs.length ≤ 500) (hi : Inv bs st) (hF : F ≤ st.at' + 1) (w : World) (H : Rd w R bs st) (hT : TabAt w) (hR : 1 ≠ R) (h0 : Rx.isNext bs st.at' [42, 43, 63, 123, 125, 93] = false) (h1 : Rx.isNext bs st.at' [40] = true) : Calls Tryd.prog 49 #[.pointer (some ⟨R, 0, none⟩)] w (NRes w R bs (Rx.paren f bs st)) := by
  have ha := hi.1
  have W0 := Lib.hid (Went.refl H)
  have S0 := Lib.hid (fun w (H : Rd w R bs st) => isNext_any R bs st [42, 43, 63, 123, 125, 93] hB (by unfold IsB; decide) ha hl w H)
  rw [h0] at S0
  have S1 := Lib.hid (fun w (H : Rd w R bs st) => isNext_any R bs st [40] hB (by unfold IsB; decide) ha hl w H)
  rw [h1] at S1
  have hlt := next_lt h1
  have CP := Lib.hid (fun w (H : Rd w R bs st) hT => paren_any R bs f F CF st hB hl hi hF w H hT hR hpf hlt)
  obtain ⟨r, hr⟩ : ∃ r, Rx.paren f bs st = r := ⟨_, rfl⟩
  rw [hr] at CP ⊢
  clear hr
  have HT := Lib.hid hT
  clear H hT CF hpf hi h0 h1
  go_enter Tryd.func49, Tryd.ntmps49
  go_wp2_with fail
  refine (S0.out _ W0.out.rd).mono ?_
  rintro e w1 ⟨rfl, hb⟩
  have W1 := Lib.hid (W0.out.below hb)
  clear hb
  go_wp2_with fail
  refine (S1.out _ W1.out.rd).mono ?_
  rintro e w2 ⟨rfl, hb⟩
  have W2 := Lib.hid (W1.out.below hb)
  clear hb
  go_wp2_with fail
  refine (CP.out _ W2.out.rd (W2.out.tab HT.out hR)).mono ?_
  rintro e w8 hres
  obtain ⟨k1, v, rfl, k3⟩ := NRes.lift W2.out hres
  have KK := Lib.hid (And.intro k1 k3)
  clear hres k1 k3
  go_wp2
  go_ret2
  exact ⟨KK.out.1, v, rfl, KK.out.2⟩
set_option maxHeartbeats 2000000 in
set_option maxRecDepth 100000 in
theorem atom_class (R : Nat) (bs : List Nat) (f : Rx.PatF) (F : Nat) (CF : PatC R bs f F) (hpf : PFF bs f) (st : RS) (hB : IsB bs) (hl : bs.length ≤ 500) (hi : Inv bs st) (hF : F ≤ st.at' + 1) (w : World) (H : Rd w R bs st) (hT : TabAt w) (hR : 1 ≠ R) (h0 : Rx.isNext bs st.at' [42, 43, 63, 123, 125, 93] = false) (h1 : Rx.isNext bs st.at' [40] = false) (h2 : Rx.isNext bs st.at' [91] = true) : Calls Tryd.prog 49 #[.pointer (some ⟨R, 0, none⟩)] w (NRes w R bs (Rx.ofSet st (Rx.classSet sg bs st.at'))) := by
  have ha := hi.1
  have W0 := Lib.hid (Went.refl H)
  have S0 := Lib.hid (fun w (H : Rd w R bs st) => isNext_any R bs st [42, 43, 63, 123, 125, 93] hB (by unfold IsB; decide) ha hl w H)
  rw [h0] at S0
  have S1 := Lib.hid (fun w (H : Rd w R bs st) => isNext_any R bs st [40] hB (by unfold IsB; decide) ha hl w H)
  rw [h1] at S1
  have S2 := Lib.hid (fun w (H : Rd w R bs st) => isNext_any R bs st [91] hB (by unfold IsB; decide) ha hl w H)
  rw [h2] at S2
  have hlt := next_lt h2
  have CP := Lib.hid (fun w (H : Rd w R bs st) hT => class_any R bs st st.at' hB hlt hl w H hT hR)
  rw [show st.to st.at' = st from rfl] at CP
  obtain ⟨r, hr⟩ : ∃ r, Rx.ofSet st (Rx.classSet sg bs st.at') = r := ⟨_, rfl⟩
  rw [hr] at CP ⊢
  clear hr
  have HT := Lib.hid hT
  clear H hT CF hpf hi h0 h1 h2
  go_enter Tryd.func49, Tryd.ntmps49
  go_wp2_with fail
  refine (S0.out _ W0.out.rd).mono ?_
  rintro e w1 ⟨rfl, hb⟩
  have W1 := Lib.hid (W0.out.below hb)
  clear hb
  go_wp2_with fail
  refine (S1.out _ W1.out.rd).mono ?_
  rintro e w2 ⟨rfl, hb⟩
  have W2 := Lib.hid (W1.out.below hb)
  clear hb
  go_wp2_with fail
  refine (S2.out _ W2.out.rd).mono ?_
  rintro e w3 ⟨rfl, hb⟩
  have W3 := Lib.hid (W2.out.below hb)
  clear hb
  go_wp2_with fail
  refine (CP.out _ W3.out.rd (W3.out.tab HT.out hR)).mono ?_
  rintro e w8 hres
  obtain ⟨k1, v, rfl, k3⟩ := NRes.lift W3.out hres
  have KK := Lib.hid (And.intro k1 k3)
  clear hres k1 k3
  go_wp2
  go_ret2
  exact ⟨KK.out.1, v, rfl, KK.out.2⟩
set_option maxHeartbeats 2000000 in
set_option maxRecDepth 100000 in
theorem atom_hat (R : Nat) (bs : List Nat) (f : Rx.PatF) (F : Nat) (CF : PatC R bs f F) (hpf : PFF bs f) (st : RS) (hB : IsB bs) (hl : bs.length ≤ 500) (hi : Inv bs st) (hF : F ≤ st.at' + 1) (w : World) (H : Rd w R bs st) (hT : TabAt w) (hR : 1 ≠ R) (h0 : Rx.isNext bs st.at' [42, 43, 63, 123, 125, 93] = false) (h1 : Rx.isNext bs st.at' [40] = false) (h2 : Rx.isNext bs st.at' [91] = false) (h3 : Rx.isAt bs st.at' 94 = true) : Calls Tryd.prog 49 #[.pointer (some ⟨R, 0, none⟩)] w (NRes w R bs (some (.edge 1), st.to (st.at' + 1))) := by
  have ha := hi.1
  have W0 := Lib.hid (Went.refl H)
  have S0 := Lib.hid (fun w (H : Rd w R bs st) => isNext_any R bs st [42, 43, 63, 123, 125, 93] hB (by unfold IsB; decide) ha hl w H)
  rw [h0] at S0
  have S1 := Lib.hid (fun w (H : Rd w R bs st) => isNext_any R bs st [40] hB (by unfold IsB; decide) ha hl w H)
  rw [h1] at S1
  have S2 := Lib.hid (fun w (H : Rd w R bs st) => isNext_any R bs st [91] hB (by unfold IsB; decide) ha hl w H)
  rw [h2] at S2
  have S3 := Lib.hid (fun w (H : Rd w R bs st) => sign_yes R bs st 94 hB (by decide) h3 hl w H)
  have CN := Lib.hid (fun w => newNode_edge 1 (by decide) w)
  unfold nodeC nilP nilS Set4.none at CN
  have HT := Lib.hid hT
  clear H hT CF hpf hi h0 h1 h2 h3
  go_enter Tryd.func49, Tryd.ntmps49
  go_wp2_with fail
  refine (S0.out _ W0.out.rd).mono ?_
  rintro e w1 ⟨rfl, hb⟩
  have W1 := Lib.hid (W0.out.below hb)
  clear hb
  go_wp2_with fail
  refine (S1.out _ W1.out.rd).mono ?_
  rintro e w2 ⟨rfl, hb⟩
  have W2 := Lib.hid (W1.out.below hb)
  clear hb
  go_wp2_with fail
  refine (S2.out _ W2.out.rd).mono ?_
  rintro e w3 ⟨rfl, hb⟩
  have W3 := Lib.hid (W2.out.below hb)
  clear hb
  go_wp2_with fail
  refine (S3.out _ W3.out.rd).mono ?_
  rintro e w4 ⟨rfl, hb⟩
  have W4 := Lib.hid (W3.out.trans hb)
  clear hb
  go_wp2_with fail
  refine (CN.out _).mono ?_
  rintro e w8 ⟨b, rfl, hb, hn⟩
  have W8 := Lib.hid (W4.out.below hb)
  have N8 := Lib.hid (fresh_mono W4.out.only.size hn)
  clear hb hn
  unfold ptr
  go_wp2
  go_ret2
  exact NRes.node W8.out N8.out
set_option maxHeartbeats 2000000 in
set_option maxRecDepth 100000 in
theorem atom_dollar (R : Nat) (bs : List Nat) (f : Rx.PatF) (F : Nat) (CF : PatC R bs f F) (hpf : PFF bs f) (st : RS) (hB : IsB bs) (hl : bs.length ≤ 500) (hi : Inv bs st) (hF : F ≤ st.at' + 1) (w : World) (H : Rd w R bs st) (hT : TabAt w) (hR : 1 ≠ R) (h0 : Rx.isNext bs st.at' [42, 43, 63, 123, 125, 93] = false) (h1 : Rx.isNext bs st.at' [40] = false) (h2 : Rx.isNext bs st.at' [91] = false) (h3 : Rx.isAt bs st.at' 94 = false) (h4 : Rx.isAt bs st.at' 36 = true) : Calls Tryd.prog 49 #[.pointer (some ⟨R, 0, none⟩)] w (NRes w R bs (some (.edge 2), st.to (st.at' + 1))) := by
  have ha := hi.1
  have W0 := Lib.hid (Went.refl H)
  have S0 := Lib.hid (fun w (H : Rd w R bs st) => isNext_any R bs st [42, 43, 63, 123, 125, 93] hB (by unfold IsB; decide) ha hl w H)
  rw [h0] at S0
  have S1 := Lib.hid (fun w (H : Rd w R bs st) => isNext_any R bs st [40] hB (by unfold IsB; decide) ha hl w H)
  rw [h1] at S1
  have S2 := Lib.hid (fun w (H : Rd w R bs st) => isNext_any R bs st [91] hB (by unfold IsB; decide) ha hl w H)
  rw [h2] at S2
  have S3 := Lib.hid (fun w (H : Rd w R bs st) => sign_no R bs st 94 hB (by decide) h3 ha hl w H)
  have S4 := Lib.hid (fun w (H : Rd w R bs st) => sign_yes R bs st 36 hB (by decide) h4 hl w H)
  have CN := Lib.hid (fun w => newNode_edge 2 (by decide) w)
  unfold nodeC nilP nilS Set4.none at CN
  have HT := Lib.hid hT
  clear H hT CF hpf hi h0 h1 h2 h3 h4
  go_enter Tryd.func49, Tryd.ntmps49
  go_wp2_with fail
  refine (S0.out _ W0.out.rd).mono ?_
  rintro e w1 ⟨rfl, hb⟩
  have W1 := Lib.hid (W0.out.below hb)
  clear hb
  go_wp2_with fail
  refine (S1.out _ W1.out.rd).mono ?_
  rintro e w2 ⟨rfl, hb⟩
  have W2 := Lib.hid (W1.out.below hb)
  clear hb
  go_wp2_with fail
  refine (S2.out _ W2.out.rd).mono ?_
  rintro e w3 ⟨rfl, hb⟩
  have W3 := Lib.hid (W2.out.below hb)
  clear hb
  go_wp2_with fail
  refine (S3.out _ W3.out.rd).mono ?_
  rintro e w4 ⟨rfl, hb⟩
  have W4 := Lib.hid (W3.out.trans hb)
  clear hb
  go_wp2_with fail
  refine (S4.out _ W4.out.rd).mono ?_
  rintro e w5 ⟨rfl, hb⟩
  have W5 := Lib.hid (W4.out.trans hb)
  clear hb
  go_wp2_with fail
  refine (CN.out _).mono ?_
  rintro e w8 ⟨b, rfl, hb, hn⟩
  have W8 := Lib.hid (W5.out.below hb)
  have N8 := Lib.hid (fresh_mono W5.out.only.size hn)
  clear hb hn
  unfold ptr
  go_wp2
  go_ret2
  exact NRes.node W8.out N8.out
set_option maxHeartbeats 2000000 in
set_option maxRecDepth 100000 in
theorem atom_dot (R : Nat) (bs : List Nat) (f : Rx.PatF) (F : Nat) (CF : PatC R bs f F) (hpf : PFF bs f) (st : RS) (hB : IsB bs) (hl : bs.length ≤ 500) (hi : Inv bs st) (hF : F ≤ st.at' + 1) (w : World) (H : Rd w R bs st) (hT : TabAt w) (hR : 1 ≠ R) (h0 : Rx.isNext bs st.at' [42, 43, 63, 123, 125, 93] = false) (h1 : Rx.isNext bs st.at' [40] = false) (h2 : Rx.isNext bs st.at' [91] = false) (h3 : Rx.isAt bs st.at' 94 = false) (h4 : Rx.isAt bs st.at' 36 = false) (h5 : Rx.isAt bs st.at' 46 = true) : Calls Tryd.prog 49 #[.pointer (some ⟨R, 0, none⟩)] w (NRes w R bs (some (.byte Set4.none.others), st.to (st.at' + 1))) := by
  have ha := hi.1
  have W0 := Lib.hid (Went.refl H)
  have S0 := Lib.hid (fun w (H : Rd w R bs st) => isNext_any R bs st [42, 43, 63, 123, 125, 93] hB (by unfold IsB; decide) ha hl w H)
  rw [h0] at S0
  have S1 := Lib.hid (fun w (H : Rd w R bs st) => isNext_any R bs st [40] hB (by unfold IsB; decide) ha hl w H)
  rw [h1] at S1
  have S2 := Lib.hid (fun w (H : Rd w R bs st) => isNext_any R bs st [91] hB (by unfold IsB; decide) ha hl w H)
  rw [h2] at S2
  have S3 := Lib.hid (fun w (H : Rd w R bs st) => sign_no R bs st 94 hB (by decide) h3 ha hl w H)
  have S4 := Lib.hid (fun w (H : Rd w R bs st) => sign_no R bs st 36 hB (by decide) h4 ha hl w H)
  have S5 := Lib.hid (fun w (H : Rd w R bs st) => sign_yes R bs st 46 hB (by decide) h5 hl w H)
  have CO := Lib.hid (fun w => others_any Set4.none none_ok w)
  have CN := Lib.hid (fun w => oneOf_any Set4.none.others (others_ok _) w)
  obtain ⟨Y, hY⟩ : ∃ Y, Set4.none.others = Y := ⟨_, rfl⟩
  rw [hY] at CO CN ⊢
  clear hY
  rw [show setV Set4.none = .agg #[.int .u64 0, .int .u64 0, .int .u64 0, .int .u64 0] from rfl] at CO
  have HT := Lib.hid hT
  clear H hT CF hpf hi h0 h1 h2 h3 h4 h5
  go_enter Tryd.func49, Tryd.ntmps49
  go_wp2_with fail
  refine (S0.out _ W0.out.rd).mono ?_
  rintro e w1 ⟨rfl, hb⟩
  have W1 := Lib.hid (W0.out.below hb)
  clear hb
  go_wp2_with fail
  refine (S1.out _ W1.out.rd).mono ?_
  rintro e w2 ⟨rfl, hb⟩
  have W2 := Lib.hid (W1.out.below hb)
  clear hb
  go_wp2_with fail
  refine (S2.out _ W2.out.rd).mono ?_
  rintro e w3 ⟨rfl, hb⟩
  have W3 := Lib.hid (W2.out.below hb)
  clear hb
  go_wp2_with fail
  refine (S3.out _ W3.out.rd).mono ?_
  rintro e w4 ⟨rfl, hb⟩
  have W4 := Lib.hid (W3.out.trans hb)
  clear hb
  go_wp2_with fail
  refine (S4.out _ W4.out.rd).mono ?_
  rintro e w5 ⟨rfl, hb⟩
  have W5 := Lib.hid (W4.out.trans hb)
  clear hb
  go_wp2_with fail
  refine (S5.out _ W5.out.rd).mono ?_
  rintro e w6 ⟨rfl, hb⟩
  have W6 := Lib.hid (W5.out.trans hb)
  clear hb
  go_wp2_with fail
  refine (CO.out _).mono ?_
  rintro e w7 ⟨rfl, hb⟩
  have W7 := Lib.hid (W6.out.below hb)
  clear hb
  go_wp2_with fail
  refine (CN.out _).mono ?_
  rintro e w8 ⟨b, rfl, hb, hn⟩
  have W8 := Lib.hid (W7.out.below hb)
  have N8 := Lib.hid (fresh_mono W7.out.only.size hn)
  clear hb hn
  unfold ptr
  go_wp2
  go_ret2
  exact NRes.node W8.out N8.out
set_option maxHeartbeats 2000000 in
set_option maxRecDepth 100000 in
theorem atom_pnone (R : Nat) (bs : List Nat) (f : Rx.PatF) (F : Nat) (CF : PatC R bs f F) (hpf : PFF bs f) (st : RS) (hB : IsB bs) (hl : bs.length ≤ 500) (hi : Inv bs st) (hF : F ≤ st.at' + 1) (w : World) (H : Rd w R bs st) (hT : TabAt w) (hR : 1 ≠ R) (q : Nat) (hq : Rx.plainOrEscape bs st.at' = (none, q)) (h0 : Rx.isNext bs st.at' [42, 43, 63, 123, 125, 93] = false) (h1 : Rx.isNext bs st.at' [40] = false) (h2 : Rx.isNext bs st.at' [91] = false) (h3 : Rx.isAt bs st.at' 94 = false) (h4 : Rx.isAt bs st.at' 36 = false) (h5 : Rx.isAt bs st.at' 46 = false) : Calls Tryd.prog 49 #[.pointer (some ⟨R, 0, none⟩)] w (NRes w R bs (none, st.to q)) := by
  have ha := hi.1
  have W0 := Lib.hid (Went.refl H)
  have S0 := Lib.hid (fun w (H : Rd w R bs st) => isNext_any R bs st [42, 43, 63, 123, 125, 93] hB (by unfold IsB; decide) ha hl w H)
  rw [h0] at S0
  have S1 := Lib.hid (fun w (H : Rd w R bs st) => isNext_any R bs st [40] hB (by unfold IsB; decide) ha hl w H)
  rw [h1] at S1
  have S2 := Lib.hid (fun w (H : Rd w R bs st) => isNext_any R bs st [91] hB (by unfold IsB; decide) ha hl w H)
  rw [h2] at S2
  have S3 := Lib.hid (fun w (H : Rd w R bs st) => sign_no R bs st 94 hB (by decide) h3 ha hl w H)
  have S4 := Lib.hid (fun w (H : Rd w R bs st) => sign_no R bs st 36 hB (by decide) h4 ha hl w H)
  have S5 := Lib.hid (fun w (H : Rd w R bs st) => sign_no R bs st 46 hB (by decide) h5 ha hl w H)
  have CP := Lib.hid (fun w (H : Rd w R bs st) => poe_any R bs st hB ha hl w H)
  rw [hq] at CP
  rw [setRes_none] at CP
  have hxok : (Set4.none).Ok := none_ok
  have CN := Lib.hid (fun w => oneOf_any Set4.none hxok w)
  unfold setC at CP
  rw [setV_eq] at CN
  clear hq hxok
  have HT := Lib.hid hT
  clear H hT CF hpf hi h0 h1 h2 h3 h4 h5
  go_enter Tryd.func49, Tryd.ntmps49
  go_wp2_with fail
  refine (S0.out _ W0.out.rd).mono ?_
  rintro e w1 ⟨rfl, hb⟩
  have W1 := Lib.hid (W0.out.below hb)
  clear hb
  go_wp2_with fail
  refine (S1.out _ W1.out.rd).mono ?_
  rintro e w2 ⟨rfl, hb⟩
  have W2 := Lib.hid (W1.out.below hb)
  clear hb
  go_wp2_with fail
  refine (S2.out _ W2.out.rd).mono ?_
  rintro e w3 ⟨rfl, hb⟩
  have W3 := Lib.hid (W2.out.below hb)
  clear hb
  go_wp2_with fail
  refine (S3.out _ W3.out.rd).mono ?_
  rintro e w4 ⟨rfl, hb⟩
  have W4 := Lib.hid (W3.out.trans hb)
  clear hb
  go_wp2_with fail
  refine (S4.out _ W4.out.rd).mono ?_
  rintro e w5 ⟨rfl, hb⟩
  have W5 := Lib.hid (W4.out.trans hb)
  clear hb
  go_wp2_with fail
  refine (S5.out _ W5.out.rd).mono ?_
  rintro e w6 ⟨rfl, hb⟩
  have W6 := Lib.hid (W5.out.trans hb)
  clear hb
  go_wp2_with fail
  refine (CP.out _ W6.out.rd).mono ?_
  rintro e w7 ⟨rfl, hb⟩
  have W7 := Lib.hid ((W6.out.trans hb).alloc (.cells (setC Set4.none) 65))
  unfold setC at W7
  clear hb
  go_wp2_with fail
  refine (CN.out _).mono ?_
  rintro e w8 ⟨b, rfl, hb, hn⟩
  have W8 := Lib.hid (W7.out.below hb)
  have N8 := Lib.hid (fresh_mono W7.out.only.size hn)
  clear hb hn
  unfold ptr
  go_wp2
  go_ret2
  exact NRes.fail W8.out
set_option maxHeartbeats 2000000 in
set_option maxRecDepth 100000 in
theorem atom_psome (R : Nat) (bs : List Nat) (f : Rx.PatF) (F : Nat) (CF : PatC R bs f F) (hpf : PFF bs f) (st : RS) (hB : IsB bs) (hl : bs.length ≤ 500) (hi : Inv bs st) (hF : F ≤ st.at' + 1) (w : World) (H : Rd w R bs st) (hT : TabAt w) (hR : 1 ≠ R) (x : Set4) (q : Nat) (hq : Rx.plainOrEscape bs st.at' = (some x, q)) (h0 : Rx.isNext bs st.at' [42, 43, 63, 123, 125, 93] = false) (h1 : Rx.isNext bs st.at' [40] = false) (h2 : Rx.isNext bs st.at' [91] = false) (h3 : Rx.isAt bs st.at' 94 = false) (h4 : Rx.isAt bs st.at' 36 = false) (h5 : Rx.isAt bs st.at' 46 = false) : Calls Tryd.prog 49 #[.pointer (some ⟨R, 0, none⟩)] w (NRes w R bs (some (.byte x), st.to q)) := by
  have ha := hi.1
  have W0 := Lib.hid (Went.refl H)
  have S0 := Lib.hid (fun w (H : Rd w R bs st) => isNext_any R bs st [42, 43, 63, 123, 125, 93] hB (by unfold IsB; decide) ha hl w H)
  rw [h0] at S0
  have S1 := Lib.hid (fun w (H : Rd w R bs st) => isNext_any R bs st [40] hB (by unfold IsB; decide) ha hl w H)
  rw [h1] at S1
  have S2 := Lib.hid (fun w (H : Rd w R bs st) => isNext_any R bs st [91] hB (by unfold IsB; decide) ha hl w H)
  rw [h2] at S2
  have S3 := Lib.hid (fun w (H : Rd w R bs st) => sign_no R bs st 94 hB (by decide) h3 ha hl w H)
  have S4 := Lib.hid (fun w (H : Rd w R bs st) => sign_no R bs st 36 hB (by decide) h4 ha hl w H)
  have S5 := Lib.hid (fun w (H : Rd w R bs st) => sign_no R bs st 46 hB (by decide) h5 ha hl w H)
  have CP := Lib.hid (fun w (H : Rd w R bs st) => poe_any R bs st hB ha hl w H)
  rw [hq] at CP
  rw [setRes_some] at CP
  have hxok : (x).Ok := poe_ok bs _ x (by rw [hq])
  have CN := Lib.hid (fun w => oneOf_any x hxok w)
  unfold setC at CP
  rw [setV_eq] at CN
  clear hq hxok
  have HT := Lib.hid hT
  clear H hT CF hpf hi h0 h1 h2 h3 h4 h5
  go_enter Tryd.func49, Tryd.ntmps49
  go_wp2_with fail
  refine (S0.out _ W0.out.rd).mono ?_
  rintro e w1 ⟨rfl, hb⟩
  have W1 := Lib.hid (W0.out.below hb)
  clear hb
  go_wp2_with fail
  refine (S1.out _ W1.out.rd).mono ?_
  rintro e w2 ⟨rfl, hb⟩
  have W2 := Lib.hid (W1.out.below hb)
  clear hb
  go_wp2_with fail
  refine (S2.out _ W2.out.rd).mono ?_
  rintro e w3 ⟨rfl, hb⟩
  have W3 := Lib.hid (W2.out.below hb)
  clear hb
  go_wp2_with fail
  refine (S3.out _ W3.out.rd).mono ?_
  rintro e w4 ⟨rfl, hb⟩
  have W4 := Lib.hid (W3.out.trans hb)
  clear hb
  go_wp2_with fail
  refine (S4.out _ W4.out.rd).mono ?_
  rintro e w5 ⟨rfl, hb⟩
  have W5 := Lib.hid (W4.out.trans hb)
  clear hb
  go_wp2_with fail
  refine (S5.out _ W5.out.rd).mono ?_
  rintro e w6 ⟨rfl, hb⟩
  have W6 := Lib.hid (W5.out.trans hb)
  clear hb
  go_wp2_with fail
  refine (CP.out _ W6.out.rd).mono ?_
  rintro e w7 ⟨rfl, hb⟩
  have W7 := Lib.hid ((W6.out.trans hb).alloc (.cells (setC x) 65))
  unfold setC at W7
  clear hb
  go_wp2_with fail
  refine (CN.out _).mono ?_
  rintro e w8 ⟨b, rfl, hb, hn⟩
  have W8 := Lib.hid (W7.out.below hb)
  have N8 := Lib.hid (fresh_mono W7.out.only.size hn)
  clear hb hn
  unfold ptr
  go_wp2
  go_ret2
  exact NRes.node W8.out N8.out
theorem atom_any (R : Nat) (bs : List Nat) (f : Rx.PatF) (F : Nat) (CF : PatC R bs f F) (hpf : PFF bs f) (st : RS) (hB : IsB bs) (hl : bs.length ≤ 500) (hi : Inv bs st) (hF : F ≤ st.at' + 1) (w : World) (H : Rd w R bs st) (hT : TabAt w) (hR : 1 ≠ R) : Calls Tryd.prog 49 #[.pointer (some ⟨R, 0, none⟩)] w (NRes w R bs (Rx.atom sg f bs st)) := by
  unfold Rx.atom
  cases h0 : Rx.isNext bs st.at' [42, 43, 63, 123, 125, 93] with
  | true => simp only [if_true]; exact atom_bad R bs f F CF hpf st hB hl hi hF w H hT hR h0
  | false =>
  simp only [Bool.false_eq_true, if_false]
  cases h1 : Rx.isNext bs st.at' [40] with
  | true => simp only [if_true]; exact atom_paren R bs f F CF hpf st hB hl hi hF w H hT hR h0 h1
  | false =>
  simp only [Bool.false_eq_true, if_false]
  cases h2 : Rx.isNext bs st.at' [91] with
  | true => simp only [if_true]; exact atom_class R bs f F CF hpf st hB hl hi hF w H hT hR h0 h1 h2
  | false =>
  simp only [Bool.false_eq_true, if_false]
  cases h3 : Rx.isAt bs st.at' 94 with
  | true => simp only [if_true]; exact atom_hat R bs f F CF hpf st hB hl hi hF w H hT hR h0 h1 h2 h3
  | false =>
  simp only [Bool.false_eq_true, if_false]
  cases h4 : Rx.isAt bs st.at' 36 with
  | true => simp only [if_true]; exact atom_dollar R bs f F CF hpf st hB hl hi hF w H hT hR h0 h1 h2 h3 h4
  | false =>
  simp only [Bool.false_eq_true, if_false]
  cases h5 : Rx.isAt bs st.at' 46 with
  | true => simp only [if_true]; exact atom_dot R bs f F CF hpf st hB hl hi hF w H hT hR h0 h1 h2 h3 h4 h5
  | false =>
  simp only [Bool.false_eq_true, if_false]
  rcases hq : Rx.plainOrEscape bs st.at' with ⟨_ | x, q⟩
  · exact atom_pnone R bs f F CF hpf st hB hl hi hF w H hT hR q hq h0 h1 h2 h3 h4 h5
  · exact atom_psome R bs f F CF hpf st hB hl hi hF w H hT hR x q hq h0 h1 h2 h3 h4 h5
end Go.Proofs.YtphighddlfabbaaDoor
namespace Go.Proofs.YtphighddlfabbaaDoor
set_option linter.unusedVariables false
set_option linter.unusedSimpArgs false
open Go.RowKit Go.PlainAid Go.Shelf
open Rx (Set4 RS)
section
variable {P : Program}
/-- append to a row of the call's own, with the word where the row lies behind it -/
theorem run_append_place (w : World) (t ty e : TypeId) (i : TypeInfo) (z : Value) (size bytes : Nat) (ht : P.underlying t = some (.slice e)) (hi : P.info? e = some i) (hz : i.zero = some z)
    (hsize : i.size = size) (hby : i.bytes = bytes) (hzs : z.cells.size = size) (hsz : 0 < size)
    (v : Value) (n : Nat) (xs : List Value) (hown : w.ownsRow 0 e size v n xs)
    (a : Addr) (m c : Nat) (news : List Value) (hl : news.length = m * size) (hnews : ∀ j u, news[j]? = some u → w.cell? (a.add j) = some u) (h1 : ∀ u ∈ news, u.oneCell' = true)
    (h63 : n + m ≤ maxLen) (hbytes : (n + m) * bytes ≤ 140737488355328) :
    ∃ v' w', (Builtin.append_ #[t, t] ty #[v, .slice (some a) m c]).run P w = .ok v' w' ∧ w'.ownsRow 0 e size v' (n + m) (xs ++ news) ∧ w.grownBy w' v.ownBlock ∧
      (v'.ownBlock = v.ownBlock ∨ ∃ g, v'.ownBlock = some g ∧ w.heap.size ≤ g) := by
  obtain ⟨v', w', hr, h2, h3, h4⟩ := run_append_own (P := P) w 0 t ty e i z size bytes ht hi hz hsize hby hzs hsz v n xs hown a m c news hl hnews h1 h63 hbytes (Nat.zero_le _)
  refine ⟨v', w', hr, h2, h3, ?_⟩
  rcases hown.2 with ⟨rfl, rfl⟩ | ⟨g, cap, cur, rfl, hbg, hg, hnc, hcm, hcs, htake⟩
  · have hx : xs = [] := List.eq_nil_of_length_eq_zero (by simpa using hown.1)
    subst hx
    obtain ⟨v2, w2, hr2, k2, k3, k4⟩ := run_append_own (P := P) w w.heap.size t ty e i z size bytes ht hi hz hsize hby hzs hsz _ 0 [] (World.ownsRow_nil w _ e size) a m c news hl hnews h1 h63 hbytes (Nat.le_refl _)
    rw [hr] at hr2
    cases hr2
    cases hv : v'.ownBlock with
    | none => exact .inl rfl
    | some g => exact .inr ⟨g, rfl, (k2.lt g hv).1⟩
  · by_cases hroom : n + m ≤ cap
    · have hfit : n * i.size + news.length ≤ cur.size := by rw [hl, hcs, hsize, ← Nat.add_mul]; exact Nat.mul_le_mul_right _ hroom
      have hr2 := run_append_room (P := P) w t ty e i ht hi g n cap cur hg a m c news (by rw [hsize]; exact hl) hnews h1 hroom hfit
      rw [hr] at hr2
      cases hr2
      exact .inl rfl
    · have holds := hown.cells (g := g) rfl
      have hr2 := run_append_grow (P := P) w t ty e i z ht hi hz ⟨g, 0, none⟩ n cap xs (by rw [hsize]; exact hown.1) holds a m c news (by rw [hsize]; exact hl) hnews (by omega) (by simp only [maxLen] at h63; omega) (growslice_fits (by omega) (by rw [hby]; exact hbytes))
      rw [hr] at hr2
      cases hr2
      exact .inr ⟨_, rfl, Nat.le_refl _⟩
theorem wpList_append_place (w : World) {ops : Array Oper} {rest : List Oper} {o : Oper} {a : Act} {Q : Exit → Act → World → Prop} (hgd : o.guard = none) (s x : Operand) (t : TypeId)
    (ho : o.op = .call { callee := .builtin .append, args := #[s, x], argTypes := #[t, t] })
    (e : TypeId) (i : TypeInfo) (z : Value) (size bytes : Nat) (ht : P.underlying t = some (.slice e)) (hi : P.info? e = some i) (hz : i.zero = some z)
    (hsize : i.size = size) (hby : i.bytes = bytes) (hzs : z.cells.size = size) (hsz : 0 < size)
    (v : Value) (n : Nat) (xs : List Value) (hs : a.eval s = v) (hown : w.ownsRow 0 e size v n xs)
    (ad : Addr) (m c : Nat) (news : List Value) (hx : a.eval x = .slice (some ad) m c) (hl : news.length = m * size) (hnews : ∀ j u, news[j]? = some u → w.cell? (ad.add j) = some u) (h1 : ∀ u ∈ news, u.oneCell' = true)
    (h63 : n + m ≤ maxLen) (hbytes : (n + m) * bytes ≤ 140737488355328)
    (h : ∀ v' w', w'.ownsRow 0 e size v' (n + m) (xs ++ news) → w.grownBy w' v.ownBlock → (v'.ownBlock = v.ownBlock ∨ ∃ g, v'.ownBlock = some g ∧ w.heap.size ≤ g) → wpList P ops Q rest (a.put o.dst v') w') : wpList P ops Q (o :: rest) a w := by
  refine wpList_plain hgd fun K hK => ?_
  obtain ⟨v', w', hr, h2, h3, h4⟩ := run_append_place (P := P) w t o.type e i z size bytes ht hi hz hsize hby hzs hsz v n xs hown ad m c news hl hnews h1 h63 hbytes
  unfold Oper.wp execOp
  simp only [ho, resolve, invoke, builtin, Sem.run_bind, Sem.run_pure, Result.andThen_ok, List.map_toArray, List.map_cons, List.map_nil, hs, hx, hr]
  exact hK _ _ (h v' w' h2 h3 h4)
end

/-- in the call's own part, but for the row that grows -/
def Sx (B : Nat) (v : Value) (i : Nat) : Prop := B ≤ i ∧ v.ownBlock ≠ some i
/-- a row of kids of the call's own, and the trees that hang there -/
structure Kds (w : World) (B : Nat) (v : Value) (ks : List Rx.Node) : Prop where
  row : ∃ cl : List Nat, cl.length = ks.length ∧ w.ownsRow 0 60 1 v ks.length (cl.map ptr) ∧ ∀ k (hk : k < ks.length), ∃ c, cl[k]? = some c ∧ IsN w (Sx B v) ks[k] c
  ge : ∀ k, v.ownBlock = some k → B ≤ k
theorem Kds.nil (w : World) (B : Nat) : Kds w B (.slice none 0 0) [] := ⟨⟨[], rfl, World.ownsRow_nil w 0 60 1, fun k hk => by simp at hk⟩, fun k h => by cases h⟩
theorem own_lt {w : World} {v : Value} {n : Nat} {xs : List Value} (h : w.ownsRow 0 60 1 v n xs) : ∀ k, v.ownBlock = some k → k < w.heap.size := by
  intro k hk
  rcases h.2 with ⟨rfl, _⟩ | ⟨g, cap, cur, rfl, hg, hc, _⟩
  · cases hk
  · simp only [Value.ownBlock, Option.some.injEq] at hk
    subst hk
    exact (Array.getElem?_eq_some_iff.1 hc).1
theorem own_move {w w' : World} {v : Value} {n : Nat} {xs : List Value} (h : w.ownsRow 0 60 1 v n xs) (hm : ∀ k, v.ownBlock = some k → w'.heap[k]? = w.heap[k]?) : w'.ownsRow 0 60 1 v n xs := by
  obtain ⟨h1, h2⟩ := h
  refine ⟨h1, ?_⟩
  rcases h2 with h2 | ⟨g, cap, cur, hv, hg, hc, h3⟩
  · exact .inl h2
  · exact .inr ⟨g, cap, cur, hv, hg, (hm g (by rw [hv]; rfl)).trans hc, h3⟩
theorem Kds.lt {w : World} {B : Nat} {v : Value} {ks : List Rx.Node} (h : Kds w B v ks) : ∀ k, v.ownBlock = some k → k < w.heap.size := by
  obtain ⟨⟨cl, _, h1, _⟩, _⟩ := h
  exact own_lt h1
theorem Kds.shape {w : World} {B : Nat} {v : Value} {ks : List Rx.Node} (h : Kds w B v ks) : ∃ a c, v = .slice a ks.length c := by
  obtain ⟨⟨cl, _, h1, _⟩, _⟩ := h
  rcases h1.2 with ⟨rfl, h0⟩ | ⟨g, cap, cur, rfl, _⟩
  · exact ⟨none, 0, by rw [h0]⟩
  · exact ⟨_, _, rfl⟩
theorem Kds.move {w w' : World} {B : Nat} {v : Value} {ks : List Rx.Node} (h : Kds w B v ks) (hm : ∀ k, B ≤ k → k < w.heap.size → w'.heap[k]? = w.heap[k]?) : Kds w' B v ks := by
  have hlt := h.lt
  obtain ⟨⟨cl, h0, h1, h2⟩, h3⟩ := h
  refine ⟨⟨cl, h0, own_move h1 (fun k hk => hm k (h3 k hk) (hlt k hk)), fun k hk => ?_⟩, h3⟩
  obtain ⟨c, h4, h5⟩ := h2 k hk
  exact ⟨c, h4, IsN.keep (fun i hs hl => ⟨hm i hs.1 hl, hs⟩) _ _ h5⟩
theorem kidsIn_of {w : World} {S : Nat → Prop} {cur : Array Value} : ∀ (ks : List Rx.Node) (i : Nat), (∀ k (hk : k < ks.length), ∃ c, cur[i + k]? = some (ptr c) ∧ IsN w S ks[k] c) → KidsIn w S ks cur i
  | [], i, _ => by unfold KidsIn; trivial
  | t :: ts, i, h => by
    unfold KidsIn
    refine ⟨by obtain ⟨c, h1, h2⟩ := h 0 (by simp); exact ⟨c, h1, h2⟩, kidsIn_of ts (i + 1) fun k hk => ?_⟩
    obtain ⟨c, h1, h2⟩ := h (k + 1) (by simpa using hk)
    exact ⟨c, by rw [show i + 1 + k = i + (k + 1) by omega]; exact h1, h2⟩
theorem Kds.kidv {w : World} {B : Nat} {v : Value} {ks : List Rx.Node} (h : Kds w B v ks) : KidV w (Fresh B) ks v := by
  obtain ⟨⟨cl, h0, h1, h2⟩, h3⟩ := h
  rcases h1.2 with ⟨rfl, hn⟩ | ⟨g, cap, cur, rfl, _, hc, hn, _, _, ht⟩
  · exact .inl ⟨List.eq_nil_of_length_eq_zero hn, rfl⟩
  · refine .inr ⟨g, cap - ks.length, cur, by rw [Nat.add_sub_cancel' hn], h3 g rfl, hc, kidsIn_of ks 0 fun k hk => ?_⟩
    obtain ⟨c, h4, h5⟩ := h2 k hk
    refine ⟨c, ?_, IsN.keep (fun i hs _ => ⟨rfl, hs.1⟩) _ _ h5⟩
    have := congrArg (fun l => l[k]?) ht
    simp only [Nat.mul_one, List.getElem?_take, if_pos hk, List.getElem?_map, h4, Option.map_some] at this
    rw [Nat.zero_add, ← Array.getElem?_toList]
    exact this
theorem Kds.snoc {w w2 : World} {B : Nat} {v v2 : Value} {ks : List Rx.Node} {t : Rx.Node} {b : Nat} {cl : List Nat} (h0 : cl.length = ks.length) (h1 : w.ownsRow 0 60 1 v ks.length (cl.map ptr)) (h2 : ∀ k (hk : k < ks.length), ∃ c, cl[k]? = some c ∧ IsN w (Sx B v) ks[k] c)
    (h3 : ∀ k, v.ownBlock = some k → B ≤ k) (hn : IsN w (Sx B v) t b) (hB : B ≤ w.heap.size) (ho : w2.ownsRow 0 60 1 v2 (ks.length + 1) (cl.map ptr ++ [ptr b])) (hg : w.grownBy w2 v.ownBlock) (hp : v2.ownBlock = v.ownBlock ∨ ∃ g, v2.ownBlock = some g ∧ w.heap.size ≤ g) : Kds w2 B v2 (ks ++ [t]) := by
  have keep : ∀ (u : Rx.Node) (c : Nat), IsN w (Sx B v) u c → IsN w2 (Sx B v2) u c := fun u c hu => IsN.keep (fun i hs hl => ⟨hg.block i hl (fun e => hs.2 e.symm), hs.1, fun e => by
    rcases hp with hp | ⟨g, hp, hgl⟩
    · exact hs.2 (hp ▸ e)
    · rw [hp] at e; cases e; omega⟩) u c hu
  refine ⟨⟨cl ++ [b], by simp [h0], by rw [List.length_append, List.map_append]; exact ho, fun k hk => ?_⟩, fun k hk => ?_⟩
  · by_cases hlt : k < ks.length
    · obtain ⟨c, h4, h5⟩ := h2 k hlt
      refine ⟨c, by rw [List.getElem?_append_left (by omega)]; exact h4, ?_⟩
      rw [List.getElem_append_left hlt]
      exact keep _ _ h5
    · have hke : k = ks.length := by rw [List.length_append] at hk; simp at hk; omega
      subst hke
      refine ⟨b, by rw [List.getElem?_append_right (by omega)]; simp [h0], ?_⟩
      rw [List.getElem_append_right (by omega)]
      simp only [Nat.sub_self, List.getElem_cons_zero]
      exact keep _ _ hn
  · rcases hp with hp | ⟨g, hp, hgl⟩
    · exact h3 k (hp ▸ hk)
    · rw [hp] at hk; cases hk; omega
/-- the reader goes on; the kids so far -/
structure Kb (w wk : World) (R : Nat) (bs : List Nat) (st : RS) (v : Value) (ks : List Rx.Node) : Prop where
  went : Went w wk R bs st
  kids : Kds wk w.heap.size v ks
theorem Kb.start {w : World} {R : Nat} {bs : List Nat} {st : RS} (h : Rd w R bs st) : Kb w w R bs st (.slice none 0 0) [] := ⟨Went.refl h, Kds.nil _ _⟩
section
variable {w wk w' : World} {R : Nat} {bs : List Nat} {st st2 : RS} {v : Value} {ks : List Rx.Node}
theorem Kb.step (h : Kb w wk R bs st v ks) (hR : R < w.heap.size) (k : Went wk w' R bs st2) : Kb w w' R bs st2 v ks :=
  ⟨h.went.trans k, h.kids.move fun i hi hl => k.only.block i hl (by simp; omega)⟩
theorem Kb.below (h : Kb w wk R bs st v ks) (hb : Below wk.heap.size wk w') : Kb w w' R bs st v ks :=
  ⟨h.went.below hb, h.kids.move fun i hi hl => hb.block i hl⟩
theorem Kb.slot (h : Kb w wk R bs st v ks) {t : Rx.Node} {b : Nat} {w2 : World} (hn : IsN w2 (Fresh wk.heap.size) t b) : IsN w2 (Sx w.heap.size v) t b :=
  IsN.keep (fun i hs _ => ⟨rfl, by have := h.went.only.size; unfold Fresh at hs; omega, fun e => by have := h.kids.lt i e; unfold Fresh at hs; omega⟩) t b hn
theorem Kb.snoc (h : Kb w wk R bs st v ks) (hR : R < w.heap.size) {t : Rx.Node} {b : Nat} (hn : IsN wk (Sx w.heap.size v) t b) : ∃ cl : List Nat, wk.ownsRow 0 60 1 v ks.length (cl.map ptr) ∧ ∀ v2 w2, w2.ownsRow 0 60 1 v2 (ks.length + 1) (cl.map ptr ++ [ptr b]) → wk.grownBy w2 v.ownBlock → (v2.ownBlock = v.ownBlock ∨ ∃ g, v2.ownBlock = some g ∧ wk.heap.size ≤ g) → Kb w w2 R bs st v2 (ks ++ [t]) := by
  obtain ⟨hw, ⟨cl, h0, h1, h2⟩, h3⟩ := h
  refine ⟨cl, h1, fun v2 w2 k1 k2 k3 => ⟨⟨?_, ?_⟩, Kds.snoc h0 h1 h2 h3 hn hw.only.size k1 k2 k3⟩⟩
  · exact (k2.block R hw.rd.lt (fun e => by have := h3 R e.symm; omega)).trans hw.rd
  · exact hw.only.grown k2 (fun k hk => .inr (h3 k hk))
end
theorem infoP : (Tryd.prog.info? 60).map (fun i => (i.zero, i.size, i.bytes)) = some (some (.pointer none), 1, 8) := by kernel_rfl
theorem one_new (w : World) (x : Value) (t : TypeId) : ∀ j u, [x][j]? = some u → (w.alloc (.cells #[x] t)).cell? ((⟨w.heap.size, 0, none⟩ : Addr).add j) = some u := by
  intro j u h
  have hj : j < 1 := by have := (List.getElem?_eq_some_iff.1 h).1; simpa using this
  obtain rfl : j = 0 := by omega
  rw [add_here, cell_of_row _ _ 0 _ _ _ (heap_alloc_new w _)]
  simpa using h
theorem goes_yes {bs : List Nat} {p : Nat} (h : Rx.goesOn bs p = true) : p < bs.length ∧ Rx.isNext bs p [124, 41] = false := by
  unfold Rx.goesOn at h
  unfold Rx.isNext
  by_cases hp : p < bs.length
  · rw [List.getElem?_eq_getElem hp] at h ⊢
    exact ⟨hp, by simpa using h⟩
  · rw [List.getElem?_eq_none (by omega)] at h; cases h
theorem goes_no {bs : List Nat} {p : Nat} (h : Rx.goesOn bs p = false) (hp : p < bs.length) : Rx.isNext bs p [124, 41] = true := by
  unfold Rx.goesOn at h
  unfold Rx.isNext
  rw [List.getElem?_eq_getElem hp] at h ⊢
  simp only [Bool.not_eq_false'] at h
  exact h
theorem branch_eq (f : Rx.PatF) (bs : List Nat) (st : RS) (RES : Option (List Rx.Node) × RS) (h : Rx.branchLoop sg f bs (bs.length + 1) [] st = RES) : Rx.branch sg f bs st = (RES.1.map Rx.Node.seq, RES.2) := by
  unfold Rx.branch
  rw [h]
  rcases RES with ⟨_ | ks, s⟩ <;> rfl
set_option maxHeartbeats 4000000 in
set_option maxRecDepth 100000 in
theorem branch_any (R : Nat) (bs : List Nat) (f : Rx.PatF) (F : Nat) (CF : PatC R bs f F) (hpf : PFF bs f) (st : RS) (hB : IsB bs) (hl : bs.length ≤ 500) (hi : Inv bs st) (hF : F ≤ st.at' + 1) (w : World) (H : Rd w R bs st) (hT : TabAt w) (hR : 1 ≠ R) :
    Calls Tryd.prog 36 #[.pointer (some ⟨R, 0, none⟩)] w (NRes w R bs (Rx.branch sg f bs st)) := by
  have HT := Lib.hid (fun (w' : World) (st' : RS) (h : Went w w' R bs st') => h.tab hT hR)
  have HRW := Lib.hid H.lt
  have CR := Lib.hid (fun (st' : RS) (hp : st'.at' ≤ bs.length) w H => rest_any R bs st' hp hl w H)
  have CN := Lib.hid (fun (st' : RS) (hp : st'.at' ≤ bs.length) w H => isNext_any R bs st' [124, 41] hB (by unfold IsB; decide) hp hl w H)
  have CA := Lib.hid (fun (st' : RS) (hi : Inv bs st') (hF : F ≤ st'.at' + 1) w H hT => atom_any R bs f F CF hpf st' hB hl hi hF w H hT hR)
  have CC := Lib.hid (fun (t : Rx.Node) (bt B : Nat) (st' : RS) (hi : Inv bs st') (w : World) (H : Rd w R bs st') hRB hBw hn hz => count_any R bs t bt B st' hB hl hi w H hRB hBw hn hz)
  have AP := Lib.hid (fun (st' : RS) (hi : Inv bs st') hgo => atom_pf hl hpf st' hi hgo)
  have PP := Lib.hid (fun (st' : RS) (hi : Inv bs st') hgo => piece_pf hl hpf st' hi hgo)
  obtain ⟨RES, hRES⟩ : ∃ r, Rx.branchLoop sg f bs (bs.length + 1) [] st = r := ⟨_, rfl⟩
  rw [branch_eq f bs st RES hRES]
  have HR0 := Lib.hid hRES
  have K0 := Lib.hid (Kb.start H)
  have I0 := Lib.hid (And.intro hi hF)
  have HLE := Lib.hid hl
  obtain ⟨i0, hi0, hz0, hz1, hz2⟩ := info_parts infoP
  clear H hT hRES CF hpf hi hF hl hB
  go_enter Tryd.func36, Tryd.ntmps36
  go_wp2
  go_loopw [2, 3, 4] (fun r2 r3 r4 wr => r2 = .pointer none ∧ r3 = .bool false ∧ ∃ (st' : RS) (ks : List Rx.Node) (n : Nat), Hid (Inv bs st' ∧ F ≤ st'.at' + 1 ∧ bs.length < st'.at' + n ∧ ks.length ≤ st'.at' ∧ Rx.branchLoop sg f bs n ks st' = RES) ∧ Hid (Kb w wr R bs st' r4 ks)) (fun _ _ _ wr => bs.length + 1 - posOf R wr)
  case atStart => exact ⟨rfl, rfl, st, [], bs.length + 1, Lib.hid ⟨I0.out.1, I0.out.2, by omega, Nat.zero_le _, HR0.out⟩, K0⟩
  case round =>
    obtain ⟨rfl, rfl, st', ks, n, HI, HK⟩ := hrel
    obtain ⟨av, cv, rfl⟩ := HK.out.kids.shape
    have HPQ := Lib.hid (show posOf R wr = st'.at' from HK.out.went.rd.posOf)
    have hle : st'.at' ≤ bs.length := HI.out.1.1
    have HL := Lib.hid hle
    have CR1 := Lib.hid (CR.out st' hle wr HK.out.went.rd)
    have CN1 := Lib.hid (fun w (h : Rd w R bs st') => CN.out st' hle w h)
    have hks : ks.length ≤ 1000 := by have := HI.out.2.2.2.1; have := HLE.out; omega
    have HKS := Lib.hid hks
    have HNP := Lib.hid HI.out.2.2.1
    clear CR CN HR0 K0 hle hks
    cases n with
    | zero => have := HNP.out; have := HL.out; omega
    | succ n =>
    cases hgo : Rx.goesOn bs st'.at' with
    | false =>
      have HRES := Lib.hid (show RES = (some ks, st') by rw [← HI.out.2.2.2.2, Rx.branchLoop, hgo]; rfl)
      by_cases hend : bs.length ≤ st'.at'
      · have he : (strOf (bs.drop st'.at')).toList.isEmpty = true := by rw [empty_of, List.length_drop]; simp; omega
        obtain ⟨D, hD⟩ : ∃ D, strOf (bs.drop st'.at') = D := ⟨_, rfl⟩
        rw [hD] at CR1 he
        clear hD hend hgo HI CN1 CA CC AP PP
        go_wp2_with fail
        refine CR1.out.mono ?_
        rintro e w1 ⟨rfl, hb⟩
        have K1 := Lib.hid (HK.out.below hb)
        have CS2 := Lib.hid (newNode_seq ks HKS.out _ (Fresh w.heap.size) w1 K1.out.went.only.size K1.out.kids.kidv)
        unfold nodeC nilP Set4.none at CS2
        clear hb
        go_wp2_with fail
        refine CS2.out.mono ?_
        rintro e w3 ⟨b, rfl, hb, hn⟩
        have W3 := Lib.hid (K1.out.went.below hb)
        have HN := Lib.hid hn
        clear hb hn CS2
        unfold ptr
        go_wp2
        go_ret2
        exact ⟨by rw [HRES.out]; exact W3.out, _, by rw [HRES.out]; rfl, fun t ht => ⟨b, rfl, by rw [HRES.out] at ht; cases ht; exact HN.out⟩⟩
      · have hnx := goes_no hgo (by omega)
        rw [hnx] at CN1
        have he : (strOf (bs.drop st'.at')).toList.isEmpty = false := by rw [empty_of, List.length_drop]; simp; omega
        obtain ⟨D, hD⟩ : ∃ D, strOf (bs.drop st'.at') = D := ⟨_, rfl⟩
        rw [hD] at CR1 he
        clear hD hend hgo HI CA CC AP PP hnx
        go_wp2_with fail
        refine CR1.out.mono ?_
        rintro e w1 ⟨rfl, hb⟩
        have K1 := Lib.hid (HK.out.below hb)
        clear hb
        go_wp2_with fail
        refine (CN1.out _ K1.out.went.rd).mono ?_
        rintro e w2 ⟨rfl, hb⟩
        have K2 := Lib.hid (K1.out.below hb)
        have CS2 := Lib.hid (newNode_seq ks HKS.out _ (Fresh w.heap.size) w2 K2.out.went.only.size K2.out.kids.kidv)
        unfold nodeC nilP Set4.none at CS2
        clear hb
        go_wp2_with fail
        refine CS2.out.mono ?_
        rintro e w3 ⟨b, rfl, hb, hn⟩
        have W3 := Lib.hid (K2.out.went.below hb)
        have HN := Lib.hid hn
        clear hb hn CS2
        unfold ptr
        go_wp2
        go_ret2
        exact ⟨by rw [HRES.out]; exact W3.out, _, by rw [HRES.out]; rfl, fun t ht => ⟨b, rfl, by rw [HRES.out] at ht; cases ht; exact HN.out⟩⟩
    | true =>
      obtain ⟨hlt, hnx⟩ := goes_yes hgo
      rw [hnx] at CN1
      have he : (strOf (bs.drop st'.at')).toList.isEmpty = false := by rw [empty_of, List.length_drop]; simp; omega
      obtain ⟨D, hD⟩ : ∃ D, strOf (bs.drop st'.at') = D := ⟨_, rfl⟩
      rw [hD] at CR1 he
      have ap := AP.out st' HI.out.1 hgo
      have pp := PP.out st' HI.out.1 hgo
      have CA1 := Lib.hid (fun w H hT => CA.out st' HI.out.1 HI.out.2.1 w H hT)
      have hst := HI.out.2.2.2.2
      rw [Rx.branchLoop, hgo] at hst
      simp only [if_true] at hst
      have HBI := Lib.hid (show F ≤ st'.at' + 1 ∧ ks.length ≤ st'.at' from ⟨HI.out.2.1, HI.out.2.2.2.1⟩)
      unfold Rx.piece at hst pp
      rcases hat : Rx.atom sg f bs st' with ⟨_ | t, st1⟩
      · rw [hat] at hst CA1
        have HRES := Lib.hid (show RES = (none, st1) from hst.symm)
        clear hD hgo hst hat ap pp HI CC AP PP CA hnx hlt
        go_wp2_with fail
        refine CR1.out.mono ?_
        rintro e w1 ⟨rfl, hb⟩
        have K1 := Lib.hid (HK.out.below hb)
        clear hb
        go_wp2_with fail
        refine (CN1.out _ K1.out.went.rd).mono ?_
        rintro e w2 ⟨rfl, hb⟩
        have K2 := Lib.hid (K1.out.below hb)
        clear hb
        go_wp2_with fail
        refine (CA1.out _ K2.out.went.rd (HT.out _ _ K2.out.went)).mono ?_
        rintro e w3 ⟨hw3, v3, rfl, hn3⟩
        have W3 := Lib.hid (K2.out.went.trans hw3)
        clear hw3 hn3
        simp only [Option.isSome]
        go_wp2
        go_ret2
        exact ⟨by rw [HRES.out]; exact W3.out, _, by rw [HRES.out]; rfl, fun t ht => by rw [HRES.out] at ht; cases ht⟩
      · rw [hat] at hst CA1 pp
        rw [hat] at ap
        simp only at hst pp
        have hinv1 : Inv bs st1 := ap.1.inv
        have hsz : sizeOk t := (ap.1.ok t rfl).2.size
        have CC1 := Lib.hid (fun (bt B : Nat) (w : World) (H : Rd w R bs st1) hRB hBw hn => CC.out t bt B st1 hinv1 w H hRB hBw hn hsz)
        rcases hco : Rx.countOf bs t st1 with ⟨_ | u, st2⟩
        · rw [hco] at hst CC1
          have HRES := Lib.hid (show RES = (none, st2) from hst.symm)
          clear hD hgo hst hat hco ap pp HI CC AP PP CA hnx hlt hinv1 hsz
          go_wp2_with fail
          refine CR1.out.mono ?_
          rintro e w1 ⟨rfl, hb⟩
          have K1 := Lib.hid (HK.out.below hb)
          clear hb
          go_wp2_with fail
          refine (CN1.out _ K1.out.went.rd).mono ?_
          rintro e w2 ⟨rfl, hb⟩
          have K2 := Lib.hid (K1.out.below hb)
          clear hb
          go_wp2_with fail
          refine (CA1.out _ K2.out.went.rd (HT.out _ _ K2.out.went)).mono ?_
          rintro e w3 ⟨hw3, v3, rfl, hn3⟩
          obtain ⟨b3, rfl, hm3⟩ := hn3 t rfl
          have K3 := Lib.hid (K2.out.step HRW.out hw3)
          have CC2 := Lib.hid (CC1.out b3 w2.heap.size w3 K3.out.went.rd K2.out.went.lt hw3.only.size hm3)
          unfold ptr at CC2 ⊢
          clear hw3 hn3 hm3 CC1
          simp only [Option.isSome]
          go_wp2_with fail
          refine CC2.out.mono ?_
          rintro e w4 ⟨hw4, v4, rfl, hn4⟩
          have W4 := Lib.hid (K3.out.went.trans hw4)
          clear hw4 hn4
          simp only [Option.isSome]
          go_wp2
          go_ret2
          exact ⟨by rw [HRES.out]; exact W4.out, _, by rw [HRES.out]; rfl, fun t ht => by rw [HRES.out] at ht; cases ht⟩
        · rw [hco] at hst CC1 pp
          simp only at hst pp
          have hadv : st'.at' < st2.at' := pp.2 u rfl
          have hinv2 : Inv bs st2 := pp.1.inv
          have HNX := Lib.hid (show Inv bs st2 ∧ F ≤ st2.at' + 1 ∧ bs.length < st2.at' + n ∧ (ks ++ [u]).length ≤ st2.at' ∧ Rx.branchLoop sg f bs n (ks ++ [u]) st2 = RES from ⟨hinv2, by have := HBI.out.1; omega, by have := HNP.out; omega, by have := HBI.out.2; rw [List.length_append]; simp; omega, hst⟩)
          have HME := Lib.hid (show st'.at' < st2.at' ∧ st2.at' ≤ bs.length from ⟨hadv, hinv2.1⟩)
          have hks : ks.length ≤ 500 := by have := HBI.out.2; have := HLE.out; omega
          have HMX := Lib.hid (show ks.length + 1 ≤ maxLen ∧ (ks.length + 1) * 8 ≤ 140737488355328 from ⟨by unfold maxLen; omega, by omega⟩)
          clear hD hgo hst hat hco ap pp HI CC AP PP CA hnx hlt hinv1 hsz hadv hinv2 hks
          go_wp2_with fail
          refine CR1.out.mono ?_
          rintro e w1 ⟨rfl, hb⟩
          have K1 := Lib.hid (HK.out.below hb)
          clear hb
          go_wp2_with fail
          refine (CN1.out _ K1.out.went.rd).mono ?_
          rintro e w2 ⟨rfl, hb⟩
          have K2 := Lib.hid (K1.out.below hb)
          clear hb
          go_wp2_with fail
          refine (CA1.out _ K2.out.went.rd (HT.out _ _ K2.out.went)).mono ?_
          rintro e w3 ⟨hw3, v3, rfl, hn3⟩
          obtain ⟨b3, rfl, hm3⟩ := hn3 t rfl
          have K3 := Lib.hid (K2.out.step HRW.out hw3)
          have CC2 := Lib.hid (CC1.out b3 w2.heap.size w3 K3.out.went.rd K2.out.went.lt hw3.only.size hm3)
          unfold ptr at CC2 ⊢
          clear hw3 hn3 hm3 CC1
          simp only [Option.isSome]
          go_wp2_with fail
          refine CC2.out.mono ?_
          rintro e w4 ⟨hw4, v4, rfl, hn4⟩
          obtain ⟨b4, rfl, hm4⟩ := hn4 u rfl
          have K4 := Lib.hid (K3.out.step HRW.out hw4)
          have hb5 : Below w4.heap.size w4 (w4.alloc (.cells #[ptr b4] 60)) := (Below.refl _ _).alloc (Nat.le_refl _) _
          have K5 := Lib.hid (K4.out.below hb5)
          have N5 := (K2.out.slot hm4)
          have N5 : IsN (w4.alloc (.cells #[ptr b4] 60)) (Sx w.heap.size _) u b4 := IsN.keep (fun i hs hl => ⟨hb5.block i hl, hs⟩) _ _ N5
          obtain ⟨cl, hown, hfin⟩ := K5.out.snoc HRW.out N5
          have HOWN := Lib.hid hown
          have HFIN := Lib.hid hfin
          unfold ptr at K5 HOWN HFIN ⊢
          clear hw4 hn4 hm4 hb5 N5 hown hfin CC2 CA1 CN1 CR1
          simp only [Option.isSome]
          go_wp2_with (at_builtin; refine wpList_append_place _ rfl (.tmp 31) (.tmp 33) 69 rfl 60 i0 (.pointer none) 1 8 Tryd.underlying69 hi0 hz0 hz1 hz2 rfl (by decide) (.slice av ks.length cv) ks.length _ rfl HOWN.out ⟨w4.heap.size, 0, none⟩ 1 1 [.pointer (some ⟨b4, 0, none⟩)] rfl rfl (one_new w4 _ 60) (by simp [Value.oneCell']) HMX.out.1 HMX.out.2 ?_; intro v5 w5 h1 h2 h3; have K6 := Lib.hid (HFIN.out v5 w5 h1 h2 h3); clear h1 h2 h3)
          have HPO := Lib.hid (show posOf R w5 = st2.at' from K6.out.went.rd.posOf)
          go_roundw
          case rel =>
            exact ⟨rfl, rfl, st2, ks ++ [u], n, HNX, K6⟩
          case measure =>
            rw [HPO.out, HPQ.out]
            have := HME.out
            omega
end Go.Proofs.YtphighddlfabbaaDoor
namespace Go.Proofs.YtphighddlfabbaaDoor
set_option linter.unusedVariables false
set_option linter.unusedSimpArgs false
open Go.RowKit Go.PlainAid Go.Shelf
open Rx (Set4 RS)
set_option maxHeartbeats 4000000 in
set_option maxRecDepth 100000 in
theorem pattern_any (R : Nat) (bs : List Nat) (f : Rx.PatF) (F : Nat) (CF : PatC R bs f F) (hpf : PFF bs f) (st : RS) (hB : IsB bs) (hl : bs.length ≤ 500) (hi : Inv bs st) (hF : F ≤ st.at' + 1) (w : World) (H : Rd w R bs st) (hT : TabAt w) (hR : 1 ≠ R) :
    Calls Tryd.prog 30 #[.pointer (some ⟨R, 0, none⟩)] w (NRes w R bs (Rx.patLoop sg f bs (bs.length + 1) [] st)) := by
  have HT := Lib.hid (fun (w' : World) (st' : RS) (h : Went w w' R bs st') => h.tab hT hR)
  have HRW := Lib.hid H.lt
  have CB := Lib.hid (fun (st' : RS) (hi : Inv bs st') (hF : F ≤ st'.at' + 1) w H hT => branch_any R bs f F CF hpf st' hB hl hi hF w H hT hR)
  have BP := Lib.hid (fun (st' : RS) (hi : Inv bs st') => branch_pf hl hpf st' hi)
  have SY := Lib.hid (fun (st' : RS) h w H => sign_yes R bs st' 124 hB (by decide) h hl w H)
  have SN := Lib.hid (fun (st' : RS) h (ha : st'.at' ≤ bs.length) w H => sign_no R bs st' 124 hB (by decide) h ha hl w H)
  obtain ⟨RES, hRES⟩ : ∃ r, Rx.patLoop sg f bs (bs.length + 1) [] st = r := ⟨_, rfl⟩
  rw [hRES]
  have HR0 := Lib.hid hRES
  have K0 := Lib.hid (Kb.start H)
  have I0 := Lib.hid (And.intro hi hF)
  have HLE := Lib.hid hl
  obtain ⟨i0, hi0, hz0, hz1, hz2⟩ := info_parts infoP
  clear H hT hRES CF hpf hi hF hl hB
  go_enter Tryd.func30, Tryd.ntmps30
  go_wp2
  go_loopw [2, 3, 4] (fun r2 r3 r4 wr => r2 = .pointer none ∧ r3 = .bool false ∧ ∃ (st' : RS) (ks : List Rx.Node) (n : Nat), Hid (Inv bs st' ∧ F ≤ st'.at' + 1 ∧ bs.length < st'.at' + n ∧ ks.length ≤ st'.at' ∧ Rx.patLoop sg f bs n ks st' = RES) ∧ Hid (Kb w wr R bs st' r4 ks)) (fun _ _ _ wr => bs.length + 1 - posOf R wr)
  case atStart => exact ⟨rfl, rfl, st, [], bs.length + 1, Lib.hid ⟨I0.out.1, I0.out.2, by omega, Nat.zero_le _, HR0.out⟩, K0⟩
  case round =>
    obtain ⟨rfl, rfl, st', ks, n, HI, HK⟩ := hrel
    obtain ⟨av, cv, rfl⟩ := HK.out.kids.shape
    have HPQ := Lib.hid (show posOf R wr = st'.at' from HK.out.went.rd.posOf)
    have hle : st'.at' ≤ bs.length := HI.out.1.1
    have HL := Lib.hid hle
    have hks : ks.length ≤ 500 := by have := HI.out.2.2.2.1; have := HLE.out; omega
    have HNP := Lib.hid HI.out.2.2.1
    have HMX := Lib.hid (show ks.length + 1 ≤ maxLen ∧ (ks.length + 1) * 8 ≤ 140737488355328 from ⟨by unfold maxLen; omega, by omega⟩)
    have HK1 := Lib.hid (show (∀ t : Rx.Node, (ks ++ [t]).length ≤ 1000 ∧ (ks ++ [t]).length = ks.length + 1 ∧ ks ++ [t] ≠ []) from fun t => by rw [List.length_append]; simp; omega)
    clear HR0 K0 hle hks
    cases n with
    | zero => have := HNP.out; have := HL.out; omega
    | succ n =>
      have CB1 := Lib.hid (fun w H hT => CB.out st' HI.out.1 HI.out.2.1 w H hT)
      have bp := BP.out st' HI.out.1
      have hst := HI.out.2.2.2.2
      rw [Rx.patLoop] at hst
      have HBI := Lib.hid (show F ≤ st'.at' + 1 ∧ ks.length ≤ st'.at' from ⟨HI.out.2.1, HI.out.2.2.2.1⟩)
      rcases hbr : Rx.branch sg f bs st' with ⟨_ | t, st1⟩
      · rw [hbr] at hst CB1
        have HRES := Lib.hid (show RES = (none, st1) from hst.symm)
        clear hst hbr bp HI CB BP SY SN
        go_wp2_with fail
        refine (CB1.out _ HK.out.went.rd (HT.out _ _ HK.out.went)).mono ?_
        rintro e w3 ⟨hw3, v3, rfl, hn3⟩
        have W3 := Lib.hid (HK.out.went.trans hw3)
        clear hw3 hn3
        simp only [Option.isSome]
        go_wp2
        go_ret2
        exact ⟨by rw [HRES.out]; exact W3.out, _, by rw [HRES.out]; rfl, fun t ht => by rw [HRES.out] at ht; cases ht⟩
      · rw [hbr] at hst CB1 bp
        simp only at hst
        have hinv1 : Inv bs st1 := bp.inv
        have hge : st'.at' ≤ st1.at' := bp.ge
        have hsl := fun h w H => SY.out st1 h w H
        have hsn := fun h w H => SN.out st1 h hinv1.1 w H
        cases hbar : Rx.isAt bs st1.at' 124 with
        | true =>
          rw [hbar] at hst
          simp only [if_true] at hst
          have hlt := isAt_lt hbar
          have CS1 := Lib.hid (hsl hbar)
          have HNX := Lib.hid (show Inv bs (st1.to (st1.at' + 1)) ∧ F ≤ (st1.to (st1.at' + 1)).at' + 1 ∧ bs.length < (st1.to (st1.at' + 1)).at' + n ∧ (ks ++ [t]).length ≤ (st1.to (st1.at' + 1)).at' ∧ Rx.patLoop sg f bs n (ks ++ [t]) (st1.to (st1.at' + 1)) = RES from ⟨hinv1.to (Nat.le_succ _) hlt, by have := HBI.out.1; show F ≤ st1.at' + 1 + 1; omega, by have := HNP.out; show bs.length < st1.at' + 1 + n; omega, by have := HBI.out.2; have := (HK1.out t).2.1; show (ks ++ [t]).length ≤ st1.at' + 1; omega, hst⟩)
          have HME := Lib.hid (show st'.at' < st1.at' + 1 ∧ st1.at' + 1 ≤ bs.length from ⟨by omega, hlt⟩)
          clear hst hbr bp HI CB BP SY SN hsl hsn hinv1 hge hbar hlt
          go_wp2_with fail
          refine (CB1.out _ HK.out.went.rd (HT.out _ _ HK.out.went)).mono ?_
          rintro e w3 ⟨hw3, v3, rfl, hn3⟩
          obtain ⟨b3, rfl, hm3⟩ := hn3 t rfl
          have K3 := Lib.hid (HK.out.step HRW.out hw3)
          have hb5 : Below w3.heap.size w3 (w3.alloc (.cells #[ptr b3] 60)) := (Below.refl _ _).alloc (Nat.le_refl _) _
          have K5 := Lib.hid (K3.out.below hb5)
          have N5 := (HK.out.slot hm3)
          have N5 : IsN (w3.alloc (.cells #[ptr b3] 60)) (Sx w.heap.size _) t b3 := IsN.keep (fun i hs hl => ⟨hb5.block i hl, hs⟩) _ _ N5
          obtain ⟨cl, hown, hfin⟩ := K5.out.snoc HRW.out N5
          have HOWN := Lib.hid hown
          have HFIN := Lib.hid hfin
          unfold ptr at K5 HOWN HFIN ⊢
          clear hw3 hn3 hm3 hb5 N5 hown hfin CB1
          simp only [Option.isSome]
          go_wp2_with (at_builtin; refine wpList_append_place _ rfl (.tmp 14) (.tmp 16) 69 rfl 60 i0 (.pointer none) 1 8 Tryd.underlying69 hi0 hz0 hz1 hz2 rfl (by decide) (.slice av ks.length cv) ks.length _ rfl HOWN.out ⟨w3.heap.size, 0, none⟩ 1 1 [.pointer (some ⟨b3, 0, none⟩)] rfl rfl (one_new w3 _ 60) (by simp [Value.oneCell']) HMX.out.1 HMX.out.2 ?_; intro v5 w5 h1 h2 h3; have K6 := Lib.hid (HFIN.out v5 w5 h1 h2 h3); clear h1 h2 h3)
          refine (CS1.out _ K6.out.went.rd).mono ?_
          rintro e w7 ⟨rfl, hb⟩
          have K7 := Lib.hid (K6.out.step HRW.out hb)
          have HPO := Lib.hid (show posOf R w7 = st1.at' + 1 from K7.out.went.rd.posOf)
          clear hb
          go_wp2
          go_roundw
          case rel =>
            exact ⟨rfl, rfl, st1.to (st1.at' + 1), ks ++ [t], n, HNX, K7⟩
          case measure =>
            rw [HPO.out, HPQ.out]
            have := HME.out
            omega
        | false =>
          rw [hbar] at hst
          simp only [Bool.false_eq_true, if_false] at hst
          have CS1 := Lib.hid (hsn hbar)
          have HRES := Lib.hid (show RES = (some (.alt (ks ++ [t])), st1) from hst.symm)
          clear hst hbr bp HI CB BP SY SN hsl hsn hinv1 hge hbar
          go_wp2_with fail
          refine (CB1.out _ HK.out.went.rd (HT.out _ _ HK.out.went)).mono ?_
          rintro e w3 ⟨hw3, v3, rfl, hn3⟩
          obtain ⟨b3, rfl, hm3⟩ := hn3 t rfl
          have K3 := Lib.hid (HK.out.step HRW.out hw3)
          have hb5 : Below w3.heap.size w3 (w3.alloc (.cells #[ptr b3] 60)) := (Below.refl _ _).alloc (Nat.le_refl _) _
          have K5 := Lib.hid (K3.out.below hb5)
          have N5 := (HK.out.slot hm3)
          have N5 : IsN (w3.alloc (.cells #[ptr b3] 60)) (Sx w.heap.size _) t b3 := IsN.keep (fun i hs hl => ⟨hb5.block i hl, hs⟩) _ _ N5
          obtain ⟨cl, hown, hfin⟩ := K5.out.snoc HRW.out N5
          have HOWN := Lib.hid hown
          have HFIN := Lib.hid hfin
          unfold ptr at K5 HOWN HFIN ⊢
          clear hw3 hn3 hm3 hb5 N5 hown hfin CB1
          simp only [Option.isSome]
          go_wp2_with (at_builtin; refine wpList_append_place _ rfl (.tmp 14) (.tmp 16) 69 rfl 60 i0 (.pointer none) 1 8 Tryd.underlying69 hi0 hz0 hz1 hz2 rfl (by decide) (.slice av ks.length cv) ks.length _ rfl HOWN.out ⟨w3.heap.size, 0, none⟩ 1 1 [.pointer (some ⟨b3, 0, none⟩)] rfl rfl (one_new w3 _ 60) (by simp [Value.oneCell']) HMX.out.1 HMX.out.2 ?_; intro v5 w5 h1 h2 h3; have K6 := Lib.hid (HFIN.out v5 w5 h1 h2 h3); clear h1 h2 h3)
          refine (CS1.out _ K6.out.went.rd).mono ?_
          rintro e w7 ⟨rfl, hb⟩
          have K7 := Lib.hid (K6.out.step HRW.out hb)
          obtain ⟨a7, c7, hv7⟩ := K6.out.kids.shape
          rw [(HK1.out t).2.1] at hv7
          subst hv7
          have CS2 := Lib.hid (newNode_alt (ks ++ [t]) (HK1.out t).1 (HK1.out t).2.2 _ (Fresh w.heap.size) w7 K7.out.went.only.size K7.out.kids.kidv)
          unfold nodeC nilP Set4.none at CS2
          clear hb
          go_wp2_with fail
          refine CS2.out.mono ?_
          rintro e w8 ⟨b, rfl, hb, hn⟩
          have W8 := Lib.hid (K7.out.went.below hb)
          have HN := Lib.hid hn
          clear hb hn CS2
          unfold ptr
          go_wp2
          go_ret2
          exact ⟨by rw [HRES.out]; exact W8.out, _, by rw [HRES.out]; rfl, fun t ht => ⟨b, rfl, by rw [HRES.out] at ht; cases ht; exact HN.out⟩⟩
theorem pat_any (R : Nat) (bs : List Nat) (hB : IsB bs) (hl : bs.length ≤ 500) (hR : 1 ≠ R) : ∀ n, PatC R bs (Rx.pat sg bs n) (bs.length + 1 - n)
  | 0 => fun st w hi hF H hT => by have := hi.1; omega
  | n + 1 => fun st w hi hF H hT => pattern_any R bs (Rx.pat sg bs n) (bs.length + 1 - n) (pat_any R bs hB hl hR n) (pat_pf hl n) st hB hl hi (by omega) w H hT hR
/-- what 'all' gives -/
def ARes (w : World) (R : Nat) (bs : List Nat) (r : Option Rx.Node × RS) (e : Ending) (w' : World) : Prop :=
  Went w w' R bs r.2 ∧ ∃ v, e = .returned (.tuple #[v, .bool (r.1.isSome && decide (r.2.at' = bs.length))]) ∧ ∀ t, r.1 = some t → ∃ b, v = ptr b ∧ IsN w' (Fresh w.heap.size) t b
theorem inv0 (bs : List Nat) : Inv bs Rx.st0 := ⟨Nat.zero_le _, Nat.le_refl _, Nat.le_refl _, Nat.le_refl _⟩
set_option maxHeartbeats 4000000 in
set_option maxRecDepth 100000 in
theorem all_any (R : Nat) (bs : List Nat) (hB : IsB bs) (hl : bs.length ≤ 500) (w : World) (H : Rd w R bs Rx.st0) (hT : TabAt w) (hR : 1 ≠ R) :
    Calls Tryd.prog 26 #[.pointer (some ⟨R, 0, none⟩)] w (ARes w R bs (Rx.parse sg bs)) := by
  have CP := Lib.hid (pat_any R bs hB hl hR (bs.length + 1) Rx.st0 w (inv0 bs) (by omega) H hT)
  have pf := pat_pf hl (bs.length + 1) Rx.st0 (inv0 bs)
  unfold Rx.parse
  have hinv := pf.inv
  rcases hr : Rx.pat sg bs (bs.length + 1) Rx.st0 with ⟨_ | t, st⟩
  · rw [hr] at CP
    clear H hT pf hinv hr
    go_enter Tryd.func26, Tryd.ntmps26
    go_wp2_with fail
    refine CP.out.mono ?_
    rintro e w1 ⟨h1, v, rfl, h3⟩
    have W1 := Lib.hid h1
    clear h1 h3
    simp only [Option.isSome]
    go_wp2
    go_ret2
    exact ⟨W1.out, _, rfl, fun t ht => by cases ht⟩
  · rw [hr] at CP hinv
    have CR := Lib.hid (fun w H => rest_any R bs st hinv.1 hl w H)
    by_cases he0 : st.at' = bs.length
    · have he : (strOf (bs.drop st.at')).toList.isEmpty = true := by rw [empty_of, List.length_drop]; simp; omega
      have HE := Lib.hid he0
      obtain ⟨D, hD⟩ : ∃ D, strOf (bs.drop st.at') = D := ⟨_, rfl⟩
      rw [hD] at CR he
      clear H hT pf hinv hr hD he0
      go_enter Tryd.func26, Tryd.ntmps26
      go_wp2_with fail
      refine CP.out.mono ?_
      rintro e w1 ⟨h1, v, rfl, h3⟩
      obtain ⟨b, rfl, m3⟩ := h3 t rfl
      have W1 := Lib.hid h1
      have N1 := Lib.hid m3
      clear h1 h3 m3
      simp only [Option.isSome]
      unfold ptr
      go_wp2_with fail
      refine (CR.out _ W1.out.rd).mono ?_
      rintro e w2 ⟨rfl, hb⟩
      have W2 := Lib.hid (W1.out.below hb)
      have N2 := Lib.hid (N1.out.below hb)
      clear hb
      go_wp2
      go_ret2
      exact ⟨W2.out, ptr b, by simp [HE.out, ptr], fun u hu => by cases hu; exact ⟨b, rfl, N2.out⟩⟩
    · have he : (strOf (bs.drop st.at')).toList.isEmpty = false := by rw [empty_of, List.length_drop]; have := hinv.1; simp; simp at this; omega
      have HE := Lib.hid he0
      obtain ⟨D, hD⟩ : ∃ D, strOf (bs.drop st.at') = D := ⟨_, rfl⟩
      rw [hD] at CR he
      clear H hT pf hinv hr hD he0
      go_enter Tryd.func26, Tryd.ntmps26
      go_wp2_with fail
      refine CP.out.mono ?_
      rintro e w1 ⟨h1, v, rfl, h3⟩
      obtain ⟨b, rfl, m3⟩ := h3 t rfl
      have W1 := Lib.hid h1
      have N1 := Lib.hid m3
      clear h1 h3 m3
      simp only [Option.isSome]
      unfold ptr
      go_wp2_with fail
      refine (CR.out _ W1.out.rd).mono ?_
      rintro e w2 ⟨rfl, hb⟩
      have W2 := Lib.hid (W1.out.below hb)
      have N2 := Lib.hid (N1.out.below hb)
      clear hb
      go_wp2
      go_ret2
      exact ⟨W2.out, ptr b, by simp [HE.out, ptr], fun u hu => by cases hu; exact ⟨b, rfl, N2.out⟩⟩
end Go.Proofs.YtphighddlfabbaaDoor
