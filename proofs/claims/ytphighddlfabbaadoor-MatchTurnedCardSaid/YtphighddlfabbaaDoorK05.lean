/-
  PACKED: WaH, WaI
-/
import Derived.Test.YtphighddlfabbaaDoorK04
import Derived.StillTailTactics
namespace Go.Proofs.YtphighddlfabbaaDoor
set_option linter.unusedVariables false
set_option linter.unusedSimpArgs false
open Go.RowKit Go.PlainAid Go.Shelf
open Rx (Set4 RS)
theorem TabAt.only {w w' : World} (h : TabAt w) {R : Nat} (hR : 1 ≠ R) (ho : Only [R] w w') : TabAt w' := fun j hj => (ho.cell (p := ⟨1, j, none⟩) h.lt (by simpa using hR)).trans (h j hj)
/-- a reader that stands there; sets of the call's own that are kept -/
structure Ks (w wk : World) (R : Nat) (bs : List Nat) (st : RS) (L : List (Nat × Set4)) : Prop where
  went : Went w wk R bs st
  lt : R < w.heap.size
  ne : 1 ≠ R
  tab : TabAt w
  sets : ∀ p ∈ L, SetAt wk p.1 p.2 ∧ w.heap.size ≤ p.1
theorem Ks.start {w : World} {R : Nat} {bs : List Nat} {st : RS} (H : Rd w R bs st) (hT : TabAt w) (hR : 1 ≠ R) : Ks w w R bs st [] := ⟨Went.refl H, H.lt, hR, hT, fun p hp => by cases hp⟩
section
variable {w wk : World} {R : Nat} {bs : List Nat} {st : RS} {L : List (Nat × Set4)}
theorem Ks.tabAt (h : Ks w wk R bs st L) : TabAt wk := h.tab.only h.ne h.went.only
theorem Ks.below (h : Ks w wk R bs st L) {w' : World} (hb : Below wk.heap.size wk w') : Ks w w' R bs st L :=
  ⟨h.went.below hb, h.lt, h.ne, h.tab, fun p hp => ⟨(hb.block _ (Array.getElem?_eq_some_iff.1 (h.sets p hp).1).1).trans (h.sets p hp).1, (h.sets p hp).2⟩⟩
theorem Ks.step (h : Ks w wk R bs st L) {w' : World} {st' : RS} (hb : Went wk w' R bs st') : Ks w w' R bs st' L :=
  ⟨h.went.trans hb, h.lt, h.ne, h.tab, fun p hp => ⟨(hb.only.block _ (Array.getElem?_eq_some_iff.1 (h.sets p hp).1).1 (by have := (h.sets p hp).2; have := h.lt; simp; omega)).trans (h.sets p hp).1, (h.sets p hp).2⟩⟩
theorem Ks.alloc (h : Ks w wk R bs st L) (o : Obj) : Ks w (wk.alloc o) R bs st L := h.below ((Below.refl _ _).alloc (Nat.le_refl _) o)
theorem Ks.lay (h : Ks w wk R bs st L) (X : Set4) (b : Nat) (hb : b = wk.heap.size) : Ks w (wk.alloc (.cells (setC X) 65)) R bs st ((b, X) :: L) :=
  ⟨(h.alloc _).went, h.lt, h.ne, h.tab, fun p hp => by
    rcases List.mem_cons.1 hp with rfl | hp
    · exact ⟨by subst hb; exact heap_alloc_new wk _, by subst hb; exact h.went.only.size⟩
    · exact (h.alloc _).sets p hp⟩
theorem Ks.to (h : Ks w wk R bs st L) (q : Nat) : Ks w (wk.setCell ⟨R, 1, none⟩ (.int .i64 ((q : Nat) : Int))) R bs (st.to q) L :=
  ⟨h.went.to q, h.lt, h.ne, h.tab, fun p hp => ⟨by
    have h1 := (h.sets p hp).1
    have h2 : p.1 ≠ R := by have := (h.sets p hp).2; have := h.lt; omega
    exact (heap_setCell_other _ _ _ _ (by first | exact h2 | exact fun k => h2 k.symm)).trans h1, (h.sets p hp).2⟩⟩
theorem Ks.drewN (h : Ks w wk R bs st L) (n : Nat) : Ks w (wk.drewN n) R bs st L := ⟨h.went.drewN n, h.lt, h.ne, h.tab, h.sets⟩
theorem Ks.drew (h : Ks w wk R bs st L) : Ks w wk.drew R bs st L := ⟨⟨h.went.rd, h.went.only.drew⟩, h.lt, h.ne, h.tab, h.sets⟩
theorem Ks.at (h : Ks w wk R bs st L) (b : Nat) (X : Set4) (hm : (b, X) ∈ L) : wk.heap[b]? = some (.cells (setC X) 65 (0, 0)) := (h.sets _ hm).1
/-- one is written anew -/
theorem Ks.row (h : Ks w wk R bs st L) (b : Nat) (hb : w.heap.size ≤ b) (X Y : Set4) (hm : (b, X) ∈ L) : Ks w (wk.setRow b (setC Y)) R bs st ((b, Y) :: L.filter (fun p => p.1 != b)) :=
  ⟨Went.setRow h.went h.lt hb _, h.lt, h.ne, h.tab, fun p hp => by
    rcases List.mem_cons.1 hp with rfl | hp
    · exact ⟨setRow_heap wk b (setC X) (setC Y) 65 (0, 0) (h.at b X hm), hb⟩
    · obtain ⟨h1, h2⟩ := List.mem_filter.1 hp
      have hne : p.1 ≠ b := by simpa using h2
      have h3 := (h.sets p h1).1
      refine ⟨?_, (h.sets p h1).2⟩
      unfold SetAt at h3 ⊢
      unfold World.setRow
      simp only
      rw [Array.getElem?_modify, if_neg (fun k => hne k.symm)]
      exact h3⟩
theorem Ks.c1 (h : Ks w wk R bs st L) : wk.cell? ⟨R, 1, none⟩ = some (.int .i64 ((st.at' : Nat) : Int)) := h.went.rd.c1
theorem Ks.f1 (h : Ks w wk R bs st L) : wk.frozen? ⟨R, 1, none⟩ = false := h.went.rd.fz 1
theorem Ks.rd (h : Ks w wk R bs st L) : Rd wk R bs st := h.went.rd
end
theorem sgV_none {x : Set4} (h : sg x = none) : sgV x = .tuple #[.int .u8 0, .bool false] := by unfold sgV; rw [h]
theorem sgV_some {x : Set4} {c : Nat} (h : sg x = some c) : sgV x = .tuple #[.int .u8 ((c : Nat) : Int), .bool true] := by unfold sgV; rw [h]
theorem sg_lt {x : Set4} {c : Nat} (h : sg x = some c) : c < 256 := by
  unfold sg at h
  split at h
  · cases h
    have : ∀ k, last4 x k < 256 := by
      intro k
      induction k with
      | zero => unfold last4; omega
      | succ k ih => unfold last4; split <;> omega
    exact this 4
  · cases h
theorem setRes_none : setRes none = .tuple #[.agg (setC Set4.none), .bool false] := rfl
theorem setRes_some (x : Set4) : setRes (some x) = .tuple #[.agg (setC x), .bool true] := rfl
-- GEN
set_option maxHeartbeats 4000000 in
set_option maxRecDepth 100000 in
theorem items_stray (R : Nat) (bs : List Nat) (st : RS) (p : Nat) (hB : IsB bs) (hp : p ≤ bs.length) (hl : bs.length ≤ 500) (w : World) (H : Rd w R bs (st.to p)) (hT : TabAt w) (hR : 1 ≠ R) (first : Nat) (hf : first < p) (hd : Rx.dashBetween bs p = true) :
    Calls Tryd.prog 66 #[.pointer (some ⟨R, 0, none⟩), .int .i64 ((first : Nat) : Int)] w fun e w' => e = .returned (setRes none) ∧ Went w w' R bs (st.to (Rx.stray bs p)) := by
  have CD := Lib.hid (fun w H => dash_any R bs (st.to p) hB hp hl w H)
  rw [show (st.to p).at' = p from rfl, hd] at CD
  have CS := Lib.hid (fun w H => stray_any R bs (st.to p) hB hp hl w H)
  rw [setRes_none, show (st.to p).at' = p from rfl] at CS
  have HK0 := Lib.hid ((Ks.start H hT hR).lay Set4.none w.heap.size rfl)
  rw [show setC Set4.none = #[Value.int .u64 0, .int .u64 0, .int .u64 0, .int .u64 0] from rfl] at HK0
  have HO := Lib.hid setC_one
  have HRL := H.lt
  have hc1 : (w.alloc (.cells #[Value.int .u64 0, .int .u64 0, .int .u64 0, .int .u64 0] 65)).cell? ⟨R, 1, none⟩ = some (.int .i64 ((p : Nat) : Int)) := HK0.out.c1
  have hd1 : decide (first < p) = true := by simp; omega
  clear H hT hf
  go_enter Tryd.func66, Tryd.ntmps66
  go_wp2_with fail
  refine (CD.out _ HK0.out.rd).mono ?_
  rintro e w1 ⟨rfl, hb⟩
  have K1 := Lib.hid (HK0.out.below hb)
  clear hb hc1
  go_wp2_with fail
  refine (CS.out _ K1.out.rd).mono ?_
  rintro e w2 ⟨rfl, hb⟩
  have K2 := Lib.hid (K1.out.step (w' := w2) hb)
  clear hb
  have h2 := K2.out.at w.heap.size Set4.none (by simp)
  have K3 := Lib.hid (K2.out.row w.heap.size (Nat.le_refl _) Set4.none Set4.none (by simp))
  go_wp2_with (refine wpList_store_row rfl 65 (.tmp 4) (.tmp 25) rfl w.heap.size (setC Set4.none) rfl rfl 65 (setC Set4.none) h2 (by kernel_rfl) rfl (HO.out Set4.none) ?_)
  refine bodyPost_ret (v := .tuple #[.agg (setC Set4.none), .bool false]) ?_ ?_ ?_
  · exact results_cell_tmp (p := 4) (q := 5) rfl _ _ w.heap.size 65 (setC Set4.none) (0, 0) _ rfl (K3.out.at _ _ (by simp)) Tryd.underlying65 rfl (by kernel_rfl)
  · rfl
  · exact ⟨rfl, K3.out.went⟩
set_option maxHeartbeats 4000000 in
set_option maxRecDepth 100000 in
theorem items_none1 (R : Nat) (bs : List Nat) (st : RS) (p : Nat) (hB : IsB bs) (hp : p ≤ bs.length) (hl : bs.length ≤ 500) (w : World) (H : Rd w R bs (st.to p)) (hT : TabAt w) (hR : 1 ≠ R) (first : Nat) (hf : first < p) (hd : Rx.dashBetween bs p = false) (q : Nat) (hi : Rx.item bs p = (none, q)) :
    Calls Tryd.prog 66 #[.pointer (some ⟨R, 0, none⟩), .int .i64 ((first : Nat) : Int)] w fun e w' => e = .returned (setRes none) ∧ Went w w' R bs (st.to q) := by
  have CD := Lib.hid (fun w H => dash_any R bs (st.to p) hB hp hl w H)
  rw [show (st.to p).at' = p from rfl, hd] at CD
  have CI := Lib.hid (fun w H => item_any R bs (st.to p) hB hp hl w H)
  rw [show (st.to p).at' = p from rfl, hi] at CI
  have hq : q ≤ bs.length := by have := item_le bs p hp; rw [hi] at this; exact this
  rw [setRes_none] at CI
  have CSg := Lib.hid (fun w hT => single_any Set4.none none_ok w hT)
  obtain ⟨vc, vb, hsg⟩ : ∃ (c : Int) (b : Bool), sgV Set4.none = .tuple #[.int .u8 c, .bool b] := by
    unfold sgV; split
    · exact ⟨_, _, rfl⟩
    · exact ⟨_, _, rfl⟩
  rw [hsg] at CSg
  rw [show setV Set4.none = .agg #[.int .u64 0, .int .u64 0, .int .u64 0, .int .u64 0] from rfl] at CSg
  rw [show setC Set4.none = #[.int .u64 0, .int .u64 0, .int .u64 0, .int .u64 0] from rfl] at CI
  clear hi hsg
  have HK0 := Lib.hid ((Ks.start H hT hR).lay Set4.none w.heap.size rfl)
  rw [show setC Set4.none = #[Value.int .u64 0, .int .u64 0, .int .u64 0, .int .u64 0] from rfl] at HK0
  have HO := Lib.hid setC_one
  have HRL := H.lt
  have hc1 : (w.alloc (.cells #[Value.int .u64 0, .int .u64 0, .int .u64 0, .int .u64 0] 65)).cell? ⟨R, 1, none⟩ = some (.int .i64 ((p : Nat) : Int)) := HK0.out.c1
  have hd1 : decide (first < p) = true := by simp; omega
  clear H hT hf
  go_enter Tryd.func66, Tryd.ntmps66
  go_wp2_with fail
  refine (CD.out _ HK0.out.rd).mono ?_
  rintro e w1 ⟨rfl, hb⟩
  have K1 := Lib.hid (HK0.out.below hb)
  clear hb hc1
  go_wp2_with fail
  refine (CI.out _ K1.out.rd).mono ?_
  rintro e w2 ⟨rfl, hb⟩
  have K2 := Lib.hid (K1.out.step (w' := w2) hb)
  clear hb
  have HK3 := Lib.hid (K2.out.lay Set4.none w2.heap.size rfl)
  rw [none_lit] at HK3
  go_wp2_with fail
  refine (CSg.out _ HK3.out.tabAt).mono ?_
  rintro e w4 ⟨rfl, hb⟩
  have K4 := Lib.hid (HK3.out.below hb)
  have h4 := K4.out.at w.heap.size Set4.none (by simp)
  have x4 := K4.out.at w2.heap.size Set4.none (by simp)
  have K5 := Lib.hid (K4.out.row w.heap.size (Nat.le_refl _) Set4.none Set4.none (by simp))
  clear hb
  go_wp2_with (first | (refine wpList_load_row rfl 65 (.tmp 6) rfl w2.heap.size rfl 65 (setC Set4.none) (0, 0) _ x4 Tryd.underlying65 rfl (by kernel_rfl) ?_) | (refine wpList_store_row rfl 65 (.tmp 4) (.tmp 48) rfl w.heap.size (setC Set4.none) rfl rfl 65 (setC Set4.none) h4 (by kernel_rfl) rfl (HO.out Set4.none) ?_))
  refine bodyPost_ret (v := .tuple #[.agg (setC Set4.none), .bool false]) ?_ ?_ ?_
  · exact results_cell_tmp (p := 4) (q := 5) rfl _ _ w.heap.size 65 (setC Set4.none) (0, 0) _ rfl (K5.out.at _ _ (by simp)) Tryd.underlying65 rfl (by kernel_rfl)
  · rfl
  · exact ⟨rfl, K5.out.went⟩
set_option maxHeartbeats 4000000 in
set_option maxRecDepth 100000 in
theorem items_many1 (R : Nat) (bs : List Nat) (st : RS) (p : Nat) (hB : IsB bs) (hp : p ≤ bs.length) (hl : bs.length ≤ 500) (w : World) (H : Rd w R bs (st.to p)) (hT : TabAt w) (hR : 1 ≠ R) (first : Nat) (hf : first < p) (hd : Rx.dashBetween bs p = false) (q : Nat) (x : Set4) (hi : Rx.item bs p = (some x, q)) (hs : sg x = none) :
    Calls Tryd.prog 66 #[.pointer (some ⟨R, 0, none⟩), .int .i64 ((first : Nat) : Int)] w fun e w' => e = .returned (setRes (some x)) ∧ Went w w' R bs (st.to q) := by
  have CD := Lib.hid (fun w H => dash_any R bs (st.to p) hB hp hl w H)
  rw [show (st.to p).at' = p from rfl, hd] at CD
  have CI := Lib.hid (fun w H => item_any R bs (st.to p) hB hp hl w H)
  rw [show (st.to p).at' = p from rfl, hi] at CI
  have hq : q ≤ bs.length := by have := item_le bs p hp; rw [hi] at this; exact this
  have hxok : x.Ok := item_ok bs p x (by rw [hi])
  have CSg := Lib.hid (fun w hT => single_any x hxok w hT)
  rw [sgV_none hs] at CSg
  rw [setRes_some] at CI
  rw [setV_eq] at CSg
  unfold setC at CI
  clear hi hs hxok
  have HK0 := Lib.hid ((Ks.start H hT hR).lay Set4.none w.heap.size rfl)
  rw [show setC Set4.none = #[Value.int .u64 0, .int .u64 0, .int .u64 0, .int .u64 0] from rfl] at HK0
  have HO := Lib.hid setC_one
  have HRL := H.lt
  have hc1 : (w.alloc (.cells #[Value.int .u64 0, .int .u64 0, .int .u64 0, .int .u64 0] 65)).cell? ⟨R, 1, none⟩ = some (.int .i64 ((p : Nat) : Int)) := HK0.out.c1
  have hd1 : decide (first < p) = true := by simp; omega
  clear H hT hf
  go_enter Tryd.func66, Tryd.ntmps66
  go_wp2_with fail
  refine (CD.out _ HK0.out.rd).mono ?_
  rintro e w1 ⟨rfl, hb⟩
  have K1 := Lib.hid (HK0.out.below hb)
  clear hb hc1
  go_wp2_with fail
  refine (CI.out _ K1.out.rd).mono ?_
  rintro e w2 ⟨rfl, hb⟩
  have K2 := Lib.hid (K1.out.step (w' := w2) hb)
  clear hb
  have HK3 := Lib.hid (K2.out.lay x w2.heap.size rfl)
  unfold setC at HK3
  go_wp2_with fail
  refine (CSg.out _ HK3.out.tabAt).mono ?_
  rintro e w4 ⟨rfl, hb⟩
  have K4 := Lib.hid (HK3.out.below hb)
  clear hb
  have h4 := K4.out.at w.heap.size Set4.none (by simp)
  have x4 := K4.out.at w2.heap.size x (by simp)
  have KE := Lib.hid (K4.out.row w.heap.size (Nat.le_refl _) Set4.none x (by simp))
  go_wp2_with (first | (refine wpList_load_row rfl 65 (.tmp 6) rfl w2.heap.size rfl 65 (setC x) (0, 0) _ x4 Tryd.underlying65 rfl (by kernel_rfl) ?_) | (refine wpList_store_row rfl 65 (.tmp 4) (.tmp 48) rfl w.heap.size (setC x) rfl rfl 65 (setC Set4.none) h4 (by kernel_rfl) rfl (HO.out x) ?_))
  refine bodyPost_ret (v := .tuple #[.agg (setC x), .bool true]) ?_ ?_ ?_
  · exact results_cell_tmp (p := 4) (q := 5) rfl _ _ w.heap.size 65 (setC x) (0, 0) _ rfl (KE.out.at _ _ (by simp)) Tryd.underlying65 rfl (by kernel_rfl)
  · rfl
  · exact ⟨rfl, KE.out.went⟩
set_option maxHeartbeats 4000000 in
set_option maxRecDepth 100000 in
theorem items_one1 (R : Nat) (bs : List Nat) (st : RS) (p : Nat) (hB : IsB bs) (hp : p ≤ bs.length) (hl : bs.length ≤ 500) (w : World) (H : Rd w R bs (st.to p)) (hT : TabAt w) (hR : 1 ≠ R) (first : Nat) (hf : first < p) (hd : Rx.dashBetween bs p = false) (q c : Nat) (x : Set4) (hi : Rx.item bs p = (some x, q)) (hs : sg x = some c) (hd2 : Rx.dashBetween bs q = false) :
    Calls Tryd.prog 66 #[.pointer (some ⟨R, 0, none⟩), .int .i64 ((first : Nat) : Int)] w fun e w' => e = .returned (setRes (some x)) ∧ Went w w' R bs (st.to q) := by
  have CD := Lib.hid (fun w H => dash_any R bs (st.to p) hB hp hl w H)
  rw [show (st.to p).at' = p from rfl, hd] at CD
  have CI := Lib.hid (fun w H => item_any R bs (st.to p) hB hp hl w H)
  rw [show (st.to p).at' = p from rfl, hi] at CI
  have hq : q ≤ bs.length := by have := item_le bs p hp; rw [hi] at this; exact this
  have hxok : x.Ok := item_ok bs p x (by rw [hi])
  have CSg := Lib.hid (fun w hT => single_any x hxok w hT)
  rw [sgV_some hs] at CSg
  rw [setRes_some] at CI
  rw [setV_eq] at CSg
  unfold setC at CI
  have CD2 := Lib.hid (fun w H => dash_any R bs (st.to q) hB hq hl w H)
  rw [show (st.to q).at' = q from rfl, hd2] at CD2
  clear hi hs hxok hd2
  have HK0 := Lib.hid ((Ks.start H hT hR).lay Set4.none w.heap.size rfl)
  rw [show setC Set4.none = #[Value.int .u64 0, .int .u64 0, .int .u64 0, .int .u64 0] from rfl] at HK0
  have HO := Lib.hid setC_one
  have HRL := H.lt
  have hc1 : (w.alloc (.cells #[Value.int .u64 0, .int .u64 0, .int .u64 0, .int .u64 0] 65)).cell? ⟨R, 1, none⟩ = some (.int .i64 ((p : Nat) : Int)) := HK0.out.c1
  have hd1 : decide (first < p) = true := by simp; omega
  clear H hT hf
  go_enter Tryd.func66, Tryd.ntmps66
  go_wp2_with fail
  refine (CD.out _ HK0.out.rd).mono ?_
  rintro e w1 ⟨rfl, hb⟩
  have K1 := Lib.hid (HK0.out.below hb)
  clear hb hc1
  go_wp2_with fail
  refine (CI.out _ K1.out.rd).mono ?_
  rintro e w2 ⟨rfl, hb⟩
  have K2 := Lib.hid (K1.out.step (w' := w2) hb)
  clear hb
  have HK3 := Lib.hid (K2.out.lay x w2.heap.size rfl)
  unfold setC at HK3
  go_wp2_with fail
  refine (CSg.out _ HK3.out.tabAt).mono ?_
  rintro e w4 ⟨rfl, hb⟩
  have K4 := Lib.hid (HK3.out.below hb)
  clear hb
  go_wp2_with fail
  refine (CD2.out _ K4.out.rd).mono ?_
  rintro e w5 ⟨rfl, hb⟩
  have K5 := Lib.hid (K4.out.below hb)
  clear hb
  have h5 := K5.out.at w.heap.size Set4.none (by simp)
  have x5 := K5.out.at w2.heap.size x (by simp)
  have KE := Lib.hid (K5.out.row w.heap.size (Nat.le_refl _) Set4.none x (by simp))
  go_wp2_with (first | (refine wpList_load_row rfl 65 (.tmp 6) rfl w2.heap.size rfl 65 (setC x) (0, 0) _ x5 Tryd.underlying65 rfl (by kernel_rfl) ?_) | (refine wpList_store_row rfl 65 (.tmp 4) (.tmp 48) rfl w.heap.size (setC x) rfl rfl 65 (setC Set4.none) h5 (by kernel_rfl) rfl (HO.out x) ?_))
  refine bodyPost_ret (v := .tuple #[.agg (setC x), .bool true]) ?_ ?_ ?_
  · exact results_cell_tmp (p := 4) (q := 5) rfl _ _ w.heap.size 65 (setC x) (0, 0) _ rfl (KE.out.at _ _ (by simp)) Tryd.underlying65 rfl (by kernel_rfl)
  · rfl
  · exact ⟨rfl, KE.out.went⟩
set_option maxHeartbeats 4000000 in
set_option maxRecDepth 100000 in
theorem items_rnone1 (R : Nat) (bs : List Nat) (st : RS) (p : Nat) (hB : IsB bs) (hp : p ≤ bs.length) (hl : bs.length ≤ 500) (w : World) (H : Rd w R bs (st.to p)) (hT : TabAt w) (hR : 1 ≠ R) (first : Nat) (hf : first < p) (hd : Rx.dashBetween bs p = false) (q c : Nat) (x : Set4) (hi : Rx.item bs p = (some x, q)) (hs : sg x = some c) (hd2 : Rx.dashBetween bs q = true) (q2 : Nat) (hi2 : Rx.item bs (q + 1) = (none, q2)) :
    Calls Tryd.prog 66 #[.pointer (some ⟨R, 0, none⟩), .int .i64 ((first : Nat) : Int)] w fun e w' => e = .returned (setRes none) ∧ Went w w' R bs (st.to q2) := by
  have CD := Lib.hid (fun w H => dash_any R bs (st.to p) hB hp hl w H)
  rw [show (st.to p).at' = p from rfl, hd] at CD
  have CI := Lib.hid (fun w H => item_any R bs (st.to p) hB hp hl w H)
  rw [show (st.to p).at' = p from rfl, hi] at CI
  have hq : q ≤ bs.length := by have := item_le bs p hp; rw [hi] at this; exact this
  have hxok : x.Ok := item_ok bs p x (by rw [hi])
  have CSg := Lib.hid (fun w hT => single_any x hxok w hT)
  rw [sgV_some hs] at CSg
  rw [setRes_some] at CI
  rw [setV_eq] at CSg
  unfold setC at CI
  have CD2 := Lib.hid (fun w H => dash_any R bs (st.to q) hB hq hl w H)
  rw [show (st.to q).at' = q from rfl, hd2] at CD2
  have hq1 : q + 1 ≤ bs.length := by
    unfold Rx.dashBetween Rx.isNext at hd2
    rcases hc : bs[q]? with _ | b
    · rw [hc] at hd2; cases hd2
    · exact (List.getElem?_eq_some_iff.1 hc).1
  have CI2 := Lib.hid (fun w H => item_any R bs (st.to (q + 1)) hB hq1 hl w H)
  rw [show (st.to (q + 1)).at' = q + 1 from rfl, hi2] at CI2
  have HQ := Lib.hid (show ((q : Int) + 1) = ((q + 1 : Nat) : Int) by omega)
  have HQ5 := Lib.hid (show q + 1 ≤ 500 by omega)
  rw [setRes_none] at CI2
  rw [none_lit] at CI2
  clear hi hs hxok hd2 hi2
  have HK0 := Lib.hid ((Ks.start H hT hR).lay Set4.none w.heap.size rfl)
  rw [show setC Set4.none = #[Value.int .u64 0, .int .u64 0, .int .u64 0, .int .u64 0] from rfl] at HK0
  have HO := Lib.hid setC_one
  have HRL := H.lt
  have hc1 : (w.alloc (.cells #[Value.int .u64 0, .int .u64 0, .int .u64 0, .int .u64 0] 65)).cell? ⟨R, 1, none⟩ = some (.int .i64 ((p : Nat) : Int)) := HK0.out.c1
  have hd1 : decide (first < p) = true := by simp; omega
  clear H hT hf
  go_enter Tryd.func66, Tryd.ntmps66
  go_wp2_with fail
  refine (CD.out _ HK0.out.rd).mono ?_
  rintro e w1 ⟨rfl, hb⟩
  have K1 := Lib.hid (HK0.out.below hb)
  clear hb hc1
  go_wp2_with fail
  refine (CI.out _ K1.out.rd).mono ?_
  rintro e w2 ⟨rfl, hb⟩
  have K2 := Lib.hid (K1.out.step (w' := w2) hb)
  clear hb
  have HK3 := Lib.hid (K2.out.lay x w2.heap.size rfl)
  unfold setC at HK3
  go_wp2_with fail
  refine (CSg.out _ HK3.out.tabAt).mono ?_
  rintro e w4 ⟨rfl, hb⟩
  have K4 := Lib.hid (HK3.out.below hb)
  clear hb
  go_wp2_with fail
  refine (CD2.out _ K4.out.rd).mono ?_
  rintro e w5 ⟨rfl, hb⟩
  have K5 := Lib.hid (K4.out.below hb)
  have c5 : w5.cell? ⟨R, 1, none⟩ = some (.int .i64 ((q : Nat) : Int)) := K5.out.c1
  have f5 := K5.out.f1
  have K6 := K5.out.to (q + 1)
  rw [← HQ.out] at K6
  have K6 := Lib.hid K6
  have hq5 := HQ5.out
  clear hb
  go_wp2_with fail
  refine (CI2.out _ K6.out.rd).mono ?_
  rintro e w7 ⟨rfl, hb⟩
  have K7 := Lib.hid (K6.out.step (w' := w7) hb)
  clear hb
  have K8 := Lib.hid (K7.out.lay Set4.none w7.heap.size rfl)
  rw [none_lit] at K8
  have h8 := K8.out.at w.heap.size Set4.none (by simp)
  have K9 := Lib.hid (K8.out.row w.heap.size (Nat.le_refl _) Set4.none Set4.none (by simp))
  go_wp2_with (refine wpList_store_row rfl 65 (.tmp 4) (.tmp 68) rfl w.heap.size (setC Set4.none) rfl rfl 65 (setC Set4.none) h8 (by kernel_rfl) rfl (HO.out Set4.none) ?_)
  refine bodyPost_ret (v := .tuple #[.agg (setC Set4.none), .bool false]) ?_ ?_ ?_
  · exact results_cell_tmp (p := 4) (q := 5) rfl _ _ w.heap.size 65 (setC Set4.none) (0, 0) _ rfl (K9.out.at _ _ (by simp)) Tryd.underlying65 rfl (by kernel_rfl)
  · rfl
  · exact ⟨rfl, K9.out.went⟩
set_option maxHeartbeats 4000000 in
set_option maxRecDepth 100000 in
theorem items_rmany1 (R : Nat) (bs : List Nat) (st : RS) (p : Nat) (hB : IsB bs) (hp : p ≤ bs.length) (hl : bs.length ≤ 500) (w : World) (H : Rd w R bs (st.to p)) (hT : TabAt w) (hR : 1 ≠ R) (first : Nat) (hf : first < p) (hd : Rx.dashBetween bs p = false) (q c : Nat) (x : Set4) (hi : Rx.item bs p = (some x, q)) (hs : sg x = some c) (hd2 : Rx.dashBetween bs q = true) (q2 : Nat) (y : Set4) (hi2 : Rx.item bs (q + 1) = (some y, q2)) (hs2 : sg y = none) :
    Calls Tryd.prog 66 #[.pointer (some ⟨R, 0, none⟩), .int .i64 ((first : Nat) : Int)] w fun e w' => e = .returned (setRes none) ∧ Went w w' R bs (st.to (q + 1)) := by
  have CD := Lib.hid (fun w H => dash_any R bs (st.to p) hB hp hl w H)
  rw [show (st.to p).at' = p from rfl, hd] at CD
  have CI := Lib.hid (fun w H => item_any R bs (st.to p) hB hp hl w H)
  rw [show (st.to p).at' = p from rfl, hi] at CI
  have hq : q ≤ bs.length := by have := item_le bs p hp; rw [hi] at this; exact this
  have hxok : x.Ok := item_ok bs p x (by rw [hi])
  have CSg := Lib.hid (fun w hT => single_any x hxok w hT)
  rw [sgV_some hs] at CSg
  rw [setRes_some] at CI
  rw [setV_eq] at CSg
  unfold setC at CI
  have CD2 := Lib.hid (fun w H => dash_any R bs (st.to q) hB hq hl w H)
  rw [show (st.to q).at' = q from rfl, hd2] at CD2
  have hq1 : q + 1 ≤ bs.length := by
    unfold Rx.dashBetween Rx.isNext at hd2
    rcases hc : bs[q]? with _ | b
    · rw [hc] at hd2; cases hd2
    · exact (List.getElem?_eq_some_iff.1 hc).1
  have CI2 := Lib.hid (fun w H => item_any R bs (st.to (q + 1)) hB hq1 hl w H)
  rw [show (st.to (q + 1)).at' = q + 1 from rfl, hi2] at CI2
  have HQ := Lib.hid (show ((q : Int) + 1) = ((q + 1 : Nat) : Int) by omega)
  have HQ5 := Lib.hid (show q + 1 ≤ 500 by omega)
  have hyok : y.Ok := item_ok bs (q + 1) y (by rw [hi2])
  have CSg2 := Lib.hid (fun w hT => single_any y hyok w hT)
  rw [sgV_none hs2] at CSg2
  rw [setRes_some] at CI2
  rw [setV_eq] at CSg2
  unfold setC at CI2
  clear hi hs hxok hd2 hi2 hs2 hyok
  have HK0 := Lib.hid ((Ks.start H hT hR).lay Set4.none w.heap.size rfl)
  rw [show setC Set4.none = #[Value.int .u64 0, .int .u64 0, .int .u64 0, .int .u64 0] from rfl] at HK0
  have HO := Lib.hid setC_one
  have HRL := H.lt
  have hc1 : (w.alloc (.cells #[Value.int .u64 0, .int .u64 0, .int .u64 0, .int .u64 0] 65)).cell? ⟨R, 1, none⟩ = some (.int .i64 ((p : Nat) : Int)) := HK0.out.c1
  have hd1 : decide (first < p) = true := by simp; omega
  clear H hT hf
  go_enter Tryd.func66, Tryd.ntmps66
  go_wp2_with fail
  refine (CD.out _ HK0.out.rd).mono ?_
  rintro e w1 ⟨rfl, hb⟩
  have K1 := Lib.hid (HK0.out.below hb)
  clear hb hc1
  go_wp2_with fail
  refine (CI.out _ K1.out.rd).mono ?_
  rintro e w2 ⟨rfl, hb⟩
  have K2 := Lib.hid (K1.out.step (w' := w2) hb)
  clear hb
  have HK3 := Lib.hid (K2.out.lay x w2.heap.size rfl)
  unfold setC at HK3
  go_wp2_with fail
  refine (CSg.out _ HK3.out.tabAt).mono ?_
  rintro e w4 ⟨rfl, hb⟩
  have K4 := Lib.hid (HK3.out.below hb)
  clear hb
  go_wp2_with fail
  refine (CD2.out _ K4.out.rd).mono ?_
  rintro e w5 ⟨rfl, hb⟩
  have K5 := Lib.hid (K4.out.below hb)
  have c5 : w5.cell? ⟨R, 1, none⟩ = some (.int .i64 ((q : Nat) : Int)) := K5.out.c1
  have f5 := K5.out.f1
  have K6 := K5.out.to (q + 1)
  rw [← HQ.out] at K6
  have K6 := Lib.hid K6
  have hq5 := HQ5.out
  clear hb
  go_wp2_with fail
  refine (CI2.out _ K6.out.rd).mono ?_
  rintro e w7 ⟨rfl, hb⟩
  have K7 := Lib.hid (K6.out.step (w' := w7) hb)
  clear hb
  have HK8 := Lib.hid (K7.out.lay y w7.heap.size rfl)
  unfold setC at HK8
  go_wp2_with fail
  refine (CSg2.out _ HK8.out.tabAt).mono ?_
  rintro e w9 ⟨rfl, hb⟩
  have K9 := Lib.hid (HK8.out.below hb)
  have f9 := K9.out.f1
  have c9 := K9.out.c1
  clear hb
  have KB : Ks w _ R bs (st.to (q + 1)) _ := K9.out.to (q + 1)
  rw [← HQ.out] at KB
  have hB9 := KB.at w.heap.size Set4.none (by simp)
  have KC := Lib.hid (KB.row w.heap.size (Nat.le_refl _) Set4.none Set4.none (by simp))
  clear KB
  go_wp2_with (refine wpList_store_row rfl 65 (.tmp 4) (.tmp 85) rfl w.heap.size (setC Set4.none) rfl rfl 65 (setC Set4.none) hB9 (by kernel_rfl) rfl (HO.out Set4.none) ?_)
  refine bodyPost_ret (v := .tuple #[.agg (setC Set4.none), .bool false]) ?_ ?_ ?_
  · exact results_cell_tmp (p := 4) (q := 5) rfl _ _ w.heap.size 65 (setC Set4.none) (0, 0) _ rfl (KC.out.at _ _ (by simp)) Tryd.underlying65 rfl (by kernel_rfl)
  · rfl
  · exact ⟨rfl, KC.out.went⟩
set_option maxHeartbeats 4000000 in
set_option maxRecDepth 100000 in
theorem items_rfall1 (R : Nat) (bs : List Nat) (st : RS) (p : Nat) (hB : IsB bs) (hp : p ≤ bs.length) (hl : bs.length ≤ 500) (w : World) (H : Rd w R bs (st.to p)) (hT : TabAt w) (hR : 1 ≠ R) (first : Nat) (hf : first < p) (hd : Rx.dashBetween bs p = false) (q c : Nat) (x : Set4) (hi : Rx.item bs p = (some x, q)) (hs : sg x = some c) (hd2 : Rx.dashBetween bs q = true) (q2 t : Nat) (y : Set4) (hi2 : Rx.item bs (q + 1) = (some y, q2)) (hs2 : sg y = some t) (hlt : t < c) :
    Calls Tryd.prog 66 #[.pointer (some ⟨R, 0, none⟩), .int .i64 ((first : Nat) : Int)] w fun e w' => e = .returned (setRes none) ∧ Went w w' R bs (st.to (q + 1)) := by
  have CD := Lib.hid (fun w H => dash_any R bs (st.to p) hB hp hl w H)
  rw [show (st.to p).at' = p from rfl, hd] at CD
  have CI := Lib.hid (fun w H => item_any R bs (st.to p) hB hp hl w H)
  rw [show (st.to p).at' = p from rfl, hi] at CI
  have hq : q ≤ bs.length := by have := item_le bs p hp; rw [hi] at this; exact this
  have hxok : x.Ok := item_ok bs p x (by rw [hi])
  have CSg := Lib.hid (fun w hT => single_any x hxok w hT)
  rw [sgV_some hs] at CSg
  rw [setRes_some] at CI
  rw [setV_eq] at CSg
  unfold setC at CI
  have CD2 := Lib.hid (fun w H => dash_any R bs (st.to q) hB hq hl w H)
  rw [show (st.to q).at' = q from rfl, hd2] at CD2
  have hq1 : q + 1 ≤ bs.length := by
    unfold Rx.dashBetween Rx.isNext at hd2
    rcases hc : bs[q]? with _ | b
    · rw [hc] at hd2; cases hd2
    · exact (List.getElem?_eq_some_iff.1 hc).1
  have CI2 := Lib.hid (fun w H => item_any R bs (st.to (q + 1)) hB hq1 hl w H)
  rw [show (st.to (q + 1)).at' = q + 1 from rfl, hi2] at CI2
  have HQ := Lib.hid (show ((q : Int) + 1) = ((q + 1 : Nat) : Int) by omega)
  have HQ5 := Lib.hid (show q + 1 ≤ 500 by omega)
  have hyok : y.Ok := item_ok bs (q + 1) y (by rw [hi2])
  have CSg2 := Lib.hid (fun w hT => single_any y hyok w hT)
  rw [sgV_some hs2] at CSg2
  rw [setRes_some] at CI2
  rw [setV_eq] at CSg2
  unfold setC at CI2
  have hdt : decide (t < c) = true := decide_eq_true hlt
  clear hi hs hxok hd2 hi2 hs2 hyok hlt
  have HK0 := Lib.hid ((Ks.start H hT hR).lay Set4.none w.heap.size rfl)
  rw [show setC Set4.none = #[Value.int .u64 0, .int .u64 0, .int .u64 0, .int .u64 0] from rfl] at HK0
  have HO := Lib.hid setC_one
  have HRL := H.lt
  have hc1 : (w.alloc (.cells #[Value.int .u64 0, .int .u64 0, .int .u64 0, .int .u64 0] 65)).cell? ⟨R, 1, none⟩ = some (.int .i64 ((p : Nat) : Int)) := HK0.out.c1
  have hd1 : decide (first < p) = true := by simp; omega
  clear H hT hf
  go_enter Tryd.func66, Tryd.ntmps66
  go_wp2_with fail
  refine (CD.out _ HK0.out.rd).mono ?_
  rintro e w1 ⟨rfl, hb⟩
  have K1 := Lib.hid (HK0.out.below hb)
  clear hb hc1
  go_wp2_with fail
  refine (CI.out _ K1.out.rd).mono ?_
  rintro e w2 ⟨rfl, hb⟩
  have K2 := Lib.hid (K1.out.step (w' := w2) hb)
  clear hb
  have HK3 := Lib.hid (K2.out.lay x w2.heap.size rfl)
  unfold setC at HK3
  go_wp2_with fail
  refine (CSg.out _ HK3.out.tabAt).mono ?_
  rintro e w4 ⟨rfl, hb⟩
  have K4 := Lib.hid (HK3.out.below hb)
  clear hb
  go_wp2_with fail
  refine (CD2.out _ K4.out.rd).mono ?_
  rintro e w5 ⟨rfl, hb⟩
  have K5 := Lib.hid (K4.out.below hb)
  have c5 : w5.cell? ⟨R, 1, none⟩ = some (.int .i64 ((q : Nat) : Int)) := K5.out.c1
  have f5 := K5.out.f1
  have K6 := K5.out.to (q + 1)
  rw [← HQ.out] at K6
  have K6 := Lib.hid K6
  have hq5 := HQ5.out
  clear hb
  go_wp2_with fail
  refine (CI2.out _ K6.out.rd).mono ?_
  rintro e w7 ⟨rfl, hb⟩
  have K7 := Lib.hid (K6.out.step (w' := w7) hb)
  clear hb
  have HK8 := Lib.hid (K7.out.lay y w7.heap.size rfl)
  unfold setC at HK8
  go_wp2_with fail
  refine (CSg2.out _ HK8.out.tabAt).mono ?_
  rintro e w9 ⟨rfl, hb⟩
  have K9 := Lib.hid (HK8.out.below hb)
  have f9 := K9.out.f1
  have c9 := K9.out.c1
  clear hb
  have KB : Ks w _ R bs (st.to (q + 1)) _ := K9.out.to (q + 1)
  rw [← HQ.out] at KB
  have hB9 := KB.at w.heap.size Set4.none (by simp)
  have KC := Lib.hid (KB.row w.heap.size (Nat.le_refl _) Set4.none Set4.none (by simp))
  clear KB
  go_wp2_with (refine wpList_store_row rfl 65 (.tmp 4) (.tmp 85) rfl w.heap.size (setC Set4.none) rfl rfl 65 (setC Set4.none) hB9 (by kernel_rfl) rfl (HO.out Set4.none) ?_)
  refine bodyPost_ret (v := .tuple #[.agg (setC Set4.none), .bool false]) ?_ ?_ ?_
  · exact results_cell_tmp (p := 4) (q := 5) rfl _ _ w.heap.size 65 (setC Set4.none) (0, 0) _ rfl (KC.out.at _ _ (by simp)) Tryd.underlying65 rfl (by kernel_rfl)
  · rfl
  · exact ⟨rfl, KC.out.went⟩
set_option maxHeartbeats 4000000 in
set_option maxRecDepth 100000 in
theorem items_range1 (R : Nat) (bs : List Nat) (st : RS) (p : Nat) (hB : IsB bs) (hp : p ≤ bs.length) (hl : bs.length ≤ 500) (w : World) (H : Rd w R bs (st.to p)) (hT : TabAt w) (hR : 1 ≠ R) (first : Nat) (hf : first < p) (hd : Rx.dashBetween bs p = false) (q c : Nat) (x : Set4) (hi : Rx.item bs p = (some x, q)) (hs : sg x = some c) (hd2 : Rx.dashBetween bs q = true) (q2 t : Nat) (y : Set4) (hi2 : Rx.item bs (q + 1) = (some y, q2)) (hs2 : sg y = some t) (hlt : ¬ t < c) :
    Calls Tryd.prog 66 #[.pointer (some ⟨R, 0, none⟩), .int .i64 ((first : Nat) : Int)] w fun e w' => e = .returned (setRes (some (Set4.span c t))) ∧ Went w w' R bs (st.to q2) := by
  have CD := Lib.hid (fun w H => dash_any R bs (st.to p) hB hp hl w H)
  rw [show (st.to p).at' = p from rfl, hd] at CD
  have CI := Lib.hid (fun w H => item_any R bs (st.to p) hB hp hl w H)
  rw [show (st.to p).at' = p from rfl, hi] at CI
  have hq : q ≤ bs.length := by have := item_le bs p hp; rw [hi] at this; exact this
  have hxok : x.Ok := item_ok bs p x (by rw [hi])
  have CSg := Lib.hid (fun w hT => single_any x hxok w hT)
  rw [sgV_some hs] at CSg
  rw [setRes_some] at CI
  rw [setV_eq] at CSg
  unfold setC at CI
  have CD2 := Lib.hid (fun w H => dash_any R bs (st.to q) hB hq hl w H)
  rw [show (st.to q).at' = q from rfl, hd2] at CD2
  have hq1 : q + 1 ≤ bs.length := by
    unfold Rx.dashBetween Rx.isNext at hd2
    rcases hc : bs[q]? with _ | b
    · rw [hc] at hd2; cases hd2
    · exact (List.getElem?_eq_some_iff.1 hc).1
  have CI2 := Lib.hid (fun w H => item_any R bs (st.to (q + 1)) hB hq1 hl w H)
  rw [show (st.to (q + 1)).at' = q + 1 from rfl, hi2] at CI2
  have HQ := Lib.hid (show ((q : Int) + 1) = ((q + 1 : Nat) : Int) by omega)
  have HQ5 := Lib.hid (show q + 1 ≤ 500 by omega)
  have hyok : y.Ok := item_ok bs (q + 1) y (by rw [hi2])
  have CSg2 := Lib.hid (fun w hT => single_any y hyok w hT)
  rw [sgV_some hs2] at CSg2
  rw [setRes_some] at CI2
  rw [setV_eq] at CSg2
  unfold setC at CI2
  have hdt : decide (t < c) = false := decide_eq_false hlt
  have CSp := Lib.hid (fun w => span_any c t (sg_lt hs) (sg_lt hs2) w)
  obtain ⟨Z, hZ⟩ : ∃ Z, Set4.span c t = Z := ⟨_, rfl⟩
  rw [hZ] at CSp ⊢
  unfold setV at CSp
  clear hi hs hxok hd2 hi2 hs2 hyok hlt hZ
  have HK0 := Lib.hid ((Ks.start H hT hR).lay Set4.none w.heap.size rfl)
  rw [show setC Set4.none = #[Value.int .u64 0, .int .u64 0, .int .u64 0, .int .u64 0] from rfl] at HK0
  have HO := Lib.hid setC_one
  have HRL := H.lt
  have hc1 : (w.alloc (.cells #[Value.int .u64 0, .int .u64 0, .int .u64 0, .int .u64 0] 65)).cell? ⟨R, 1, none⟩ = some (.int .i64 ((p : Nat) : Int)) := HK0.out.c1
  have hd1 : decide (first < p) = true := by simp; omega
  clear H hT hf
  go_enter Tryd.func66, Tryd.ntmps66
  go_wp2_with fail
  refine (CD.out _ HK0.out.rd).mono ?_
  rintro e w1 ⟨rfl, hb⟩
  have K1 := Lib.hid (HK0.out.below hb)
  clear hb hc1
  go_wp2_with fail
  refine (CI.out _ K1.out.rd).mono ?_
  rintro e w2 ⟨rfl, hb⟩
  have K2 := Lib.hid (K1.out.step (w' := w2) hb)
  clear hb
  have HK3 := Lib.hid (K2.out.lay x w2.heap.size rfl)
  unfold setC at HK3
  go_wp2_with fail
  refine (CSg.out _ HK3.out.tabAt).mono ?_
  rintro e w4 ⟨rfl, hb⟩
  have K4 := Lib.hid (HK3.out.below hb)
  clear hb
  go_wp2_with fail
  refine (CD2.out _ K4.out.rd).mono ?_
  rintro e w5 ⟨rfl, hb⟩
  have K5 := Lib.hid (K4.out.below hb)
  have c5 : w5.cell? ⟨R, 1, none⟩ = some (.int .i64 ((q : Nat) : Int)) := K5.out.c1
  have f5 := K5.out.f1
  have K6 := K5.out.to (q + 1)
  rw [← HQ.out] at K6
  have K6 := Lib.hid K6
  have hq5 := HQ5.out
  clear hb
  go_wp2_with fail
  refine (CI2.out _ K6.out.rd).mono ?_
  rintro e w7 ⟨rfl, hb⟩
  have K7 := Lib.hid (K6.out.step (w' := w7) hb)
  clear hb
  have HK8 := Lib.hid (K7.out.lay y w7.heap.size rfl)
  unfold setC at HK8
  go_wp2_with fail
  refine (CSg2.out _ HK8.out.tabAt).mono ?_
  rintro e w9 ⟨rfl, hb⟩
  have K9 := Lib.hid (HK8.out.below hb)
  have f9 := K9.out.f1
  have c9 := K9.out.c1
  clear hb
  go_wp2_with fail
  refine (CSp.out _).mono ?_
  rintro e wa ⟨rfl, hb⟩
  have KA := Lib.hid (K9.out.below hb)
  have ha := KA.out.at w.heap.size Set4.none (by simp)
  have KC := Lib.hid (KA.out.row w.heap.size (Nat.le_refl _) Set4.none Z (by simp))
  clear hb
  go_wp2_with (refine wpList_store_row rfl 65 (.tmp 4) (.tmp 88) rfl w.heap.size (setC Z) rfl rfl 65 (setC Set4.none) ha (by kernel_rfl) rfl (HO.out Z) ?_)
  refine bodyPost_ret (v := .tuple #[.agg (setC Z), .bool true]) ?_ ?_ ?_
  · exact results_cell_tmp (p := 4) (q := 5) rfl _ _ w.heap.size 65 (setC Z) (0, 0) _ rfl (KC.out.at _ _ (by simp)) Tryd.underlying65 rfl (by kernel_rfl)
  · rfl
  · exact ⟨rfl, KC.out.went⟩
set_option maxHeartbeats 4000000 in
set_option maxRecDepth 100000 in
theorem items_none0 (R : Nat) (bs : List Nat) (st : RS) (p : Nat) (hB : IsB bs) (hp : p ≤ bs.length) (hl : bs.length ≤ 500) (w : World) (H : Rd w R bs (st.to p)) (hT : TabAt w) (hR : 1 ≠ R) (first : Nat) (hf : ¬ first < p) (q : Nat) (hi : Rx.item bs p = (none, q)) :
    Calls Tryd.prog 66 #[.pointer (some ⟨R, 0, none⟩), .int .i64 ((first : Nat) : Int)] w fun e w' => e = .returned (setRes none) ∧ Went w w' R bs (st.to q) := by
  have CI := Lib.hid (fun w H => item_any R bs (st.to p) hB hp hl w H)
  rw [show (st.to p).at' = p from rfl, hi] at CI
  have hq : q ≤ bs.length := by have := item_le bs p hp; rw [hi] at this; exact this
  rw [setRes_none] at CI
  have CSg := Lib.hid (fun w hT => single_any Set4.none none_ok w hT)
  obtain ⟨vc, vb, hsg⟩ : ∃ (c : Int) (b : Bool), sgV Set4.none = .tuple #[.int .u8 c, .bool b] := by
    unfold sgV; split
    · exact ⟨_, _, rfl⟩
    · exact ⟨_, _, rfl⟩
  rw [hsg] at CSg
  rw [show setV Set4.none = .agg #[.int .u64 0, .int .u64 0, .int .u64 0, .int .u64 0] from rfl] at CSg
  rw [show setC Set4.none = #[.int .u64 0, .int .u64 0, .int .u64 0, .int .u64 0] from rfl] at CI
  clear hi hsg
  have HK0 := Lib.hid ((Ks.start H hT hR).lay Set4.none w.heap.size rfl)
  rw [show setC Set4.none = #[Value.int .u64 0, .int .u64 0, .int .u64 0, .int .u64 0] from rfl] at HK0
  have HO := Lib.hid setC_one
  have HRL := H.lt
  have hc1 : (w.alloc (.cells #[Value.int .u64 0, .int .u64 0, .int .u64 0, .int .u64 0] 65)).cell? ⟨R, 1, none⟩ = some (.int .i64 ((p : Nat) : Int)) := HK0.out.c1
  have hd1 : decide (first < p) = false := by simp; omega
  clear H hT hf
  go_enter Tryd.func66, Tryd.ntmps66
  go_wp2_with fail
  refine (CI.out _ HK0.out.rd).mono ?_
  rintro e w2 ⟨rfl, hb⟩
  have K2 := Lib.hid (HK0.out.step (w' := w2) hb)
  clear hb
  have HK3 := Lib.hid (K2.out.lay Set4.none w2.heap.size rfl)
  rw [none_lit] at HK3
  go_wp2_with fail
  refine (CSg.out _ HK3.out.tabAt).mono ?_
  rintro e w4 ⟨rfl, hb⟩
  have K4 := Lib.hid (HK3.out.below hb)
  have h4 := K4.out.at w.heap.size Set4.none (by simp)
  have x4 := K4.out.at w2.heap.size Set4.none (by simp)
  have K5 := Lib.hid (K4.out.row w.heap.size (Nat.le_refl _) Set4.none Set4.none (by simp))
  clear hb
  go_wp2_with (first | (refine wpList_load_row rfl 65 (.tmp 6) rfl w2.heap.size rfl 65 (setC Set4.none) (0, 0) _ x4 Tryd.underlying65 rfl (by kernel_rfl) ?_) | (refine wpList_store_row rfl 65 (.tmp 4) (.tmp 48) rfl w.heap.size (setC Set4.none) rfl rfl 65 (setC Set4.none) h4 (by kernel_rfl) rfl (HO.out Set4.none) ?_))
  refine bodyPost_ret (v := .tuple #[.agg (setC Set4.none), .bool false]) ?_ ?_ ?_
  · exact results_cell_tmp (p := 4) (q := 5) rfl _ _ w.heap.size 65 (setC Set4.none) (0, 0) _ rfl (K5.out.at _ _ (by simp)) Tryd.underlying65 rfl (by kernel_rfl)
  · rfl
  · exact ⟨rfl, K5.out.went⟩
set_option maxHeartbeats 4000000 in
set_option maxRecDepth 100000 in
theorem items_many0 (R : Nat) (bs : List Nat) (st : RS) (p : Nat) (hB : IsB bs) (hp : p ≤ bs.length) (hl : bs.length ≤ 500) (w : World) (H : Rd w R bs (st.to p)) (hT : TabAt w) (hR : 1 ≠ R) (first : Nat) (hf : ¬ first < p) (q : Nat) (x : Set4) (hi : Rx.item bs p = (some x, q)) (hs : sg x = none) :
    Calls Tryd.prog 66 #[.pointer (some ⟨R, 0, none⟩), .int .i64 ((first : Nat) : Int)] w fun e w' => e = .returned (setRes (some x)) ∧ Went w w' R bs (st.to q) := by
  have CI := Lib.hid (fun w H => item_any R bs (st.to p) hB hp hl w H)
  rw [show (st.to p).at' = p from rfl, hi] at CI
  have hq : q ≤ bs.length := by have := item_le bs p hp; rw [hi] at this; exact this
  have hxok : x.Ok := item_ok bs p x (by rw [hi])
  have CSg := Lib.hid (fun w hT => single_any x hxok w hT)
  rw [sgV_none hs] at CSg
  rw [setRes_some] at CI
  rw [setV_eq] at CSg
  unfold setC at CI
  clear hi hs hxok
  have HK0 := Lib.hid ((Ks.start H hT hR).lay Set4.none w.heap.size rfl)
  rw [show setC Set4.none = #[Value.int .u64 0, .int .u64 0, .int .u64 0, .int .u64 0] from rfl] at HK0
  have HO := Lib.hid setC_one
  have HRL := H.lt
  have hc1 : (w.alloc (.cells #[Value.int .u64 0, .int .u64 0, .int .u64 0, .int .u64 0] 65)).cell? ⟨R, 1, none⟩ = some (.int .i64 ((p : Nat) : Int)) := HK0.out.c1
  have hd1 : decide (first < p) = false := by simp; omega
  clear H hT hf
  go_enter Tryd.func66, Tryd.ntmps66
  go_wp2_with fail
  refine (CI.out _ HK0.out.rd).mono ?_
  rintro e w2 ⟨rfl, hb⟩
  have K2 := Lib.hid (HK0.out.step (w' := w2) hb)
  clear hb
  have HK3 := Lib.hid (K2.out.lay x w2.heap.size rfl)
  unfold setC at HK3
  go_wp2_with fail
  refine (CSg.out _ HK3.out.tabAt).mono ?_
  rintro e w4 ⟨rfl, hb⟩
  have K4 := Lib.hid (HK3.out.below hb)
  clear hb
  have h4 := K4.out.at w.heap.size Set4.none (by simp)
  have x4 := K4.out.at w2.heap.size x (by simp)
  have KE := Lib.hid (K4.out.row w.heap.size (Nat.le_refl _) Set4.none x (by simp))
  go_wp2_with (first | (refine wpList_load_row rfl 65 (.tmp 6) rfl w2.heap.size rfl 65 (setC x) (0, 0) _ x4 Tryd.underlying65 rfl (by kernel_rfl) ?_) | (refine wpList_store_row rfl 65 (.tmp 4) (.tmp 48) rfl w.heap.size (setC x) rfl rfl 65 (setC Set4.none) h4 (by kernel_rfl) rfl (HO.out x) ?_))
  refine bodyPost_ret (v := .tuple #[.agg (setC x), .bool true]) ?_ ?_ ?_
  · exact results_cell_tmp (p := 4) (q := 5) rfl _ _ w.heap.size 65 (setC x) (0, 0) _ rfl (KE.out.at _ _ (by simp)) Tryd.underlying65 rfl (by kernel_rfl)
  · rfl
  · exact ⟨rfl, KE.out.went⟩
set_option maxHeartbeats 4000000 in
set_option maxRecDepth 100000 in
theorem items_one0 (R : Nat) (bs : List Nat) (st : RS) (p : Nat) (hB : IsB bs) (hp : p ≤ bs.length) (hl : bs.length ≤ 500) (w : World) (H : Rd w R bs (st.to p)) (hT : TabAt w) (hR : 1 ≠ R) (first : Nat) (hf : ¬ first < p) (q c : Nat) (x : Set4) (hi : Rx.item bs p = (some x, q)) (hs : sg x = some c) (hd2 : Rx.dashBetween bs q = false) :
    Calls Tryd.prog 66 #[.pointer (some ⟨R, 0, none⟩), .int .i64 ((first : Nat) : Int)] w fun e w' => e = .returned (setRes (some x)) ∧ Went w w' R bs (st.to q) := by
  have CI := Lib.hid (fun w H => item_any R bs (st.to p) hB hp hl w H)
  rw [show (st.to p).at' = p from rfl, hi] at CI
  have hq : q ≤ bs.length := by have := item_le bs p hp; rw [hi] at this; exact this
  have hxok : x.Ok := item_ok bs p x (by rw [hi])
  have CSg := Lib.hid (fun w hT => single_any x hxok w hT)
  rw [sgV_some hs] at CSg
  rw [setRes_some] at CI
  rw [setV_eq] at CSg
  unfold setC at CI
  have CD2 := Lib.hid (fun w H => dash_any R bs (st.to q) hB hq hl w H)
  rw [show (st.to q).at' = q from rfl, hd2] at CD2
  clear hi hs hxok hd2
  have HK0 := Lib.hid ((Ks.start H hT hR).lay Set4.none w.heap.size rfl)
  rw [show setC Set4.none = #[Value.int .u64 0, .int .u64 0, .int .u64 0, .int .u64 0] from rfl] at HK0
  have HO := Lib.hid setC_one
  have HRL := H.lt
  have hc1 : (w.alloc (.cells #[Value.int .u64 0, .int .u64 0, .int .u64 0, .int .u64 0] 65)).cell? ⟨R, 1, none⟩ = some (.int .i64 ((p : Nat) : Int)) := HK0.out.c1
  have hd1 : decide (first < p) = false := by simp; omega
  clear H hT hf
  go_enter Tryd.func66, Tryd.ntmps66
  go_wp2_with fail
  refine (CI.out _ HK0.out.rd).mono ?_
  rintro e w2 ⟨rfl, hb⟩
  have K2 := Lib.hid (HK0.out.step (w' := w2) hb)
  clear hb
  have HK3 := Lib.hid (K2.out.lay x w2.heap.size rfl)
  unfold setC at HK3
  go_wp2_with fail
  refine (CSg.out _ HK3.out.tabAt).mono ?_
  rintro e w4 ⟨rfl, hb⟩
  have K4 := Lib.hid (HK3.out.below hb)
  clear hb
  go_wp2_with fail
  refine (CD2.out _ K4.out.rd).mono ?_
  rintro e w5 ⟨rfl, hb⟩
  have K5 := Lib.hid (K4.out.below hb)
  clear hb
  have h5 := K5.out.at w.heap.size Set4.none (by simp)
  have x5 := K5.out.at w2.heap.size x (by simp)
  have KE := Lib.hid (K5.out.row w.heap.size (Nat.le_refl _) Set4.none x (by simp))
  go_wp2_with (first | (refine wpList_load_row rfl 65 (.tmp 6) rfl w2.heap.size rfl 65 (setC x) (0, 0) _ x5 Tryd.underlying65 rfl (by kernel_rfl) ?_) | (refine wpList_store_row rfl 65 (.tmp 4) (.tmp 48) rfl w.heap.size (setC x) rfl rfl 65 (setC Set4.none) h5 (by kernel_rfl) rfl (HO.out x) ?_))
  refine bodyPost_ret (v := .tuple #[.agg (setC x), .bool true]) ?_ ?_ ?_
  · exact results_cell_tmp (p := 4) (q := 5) rfl _ _ w.heap.size 65 (setC x) (0, 0) _ rfl (KE.out.at _ _ (by simp)) Tryd.underlying65 rfl (by kernel_rfl)
  · rfl
  · exact ⟨rfl, KE.out.went⟩
set_option maxHeartbeats 4000000 in
set_option maxRecDepth 100000 in
theorem items_rnone0 (R : Nat) (bs : List Nat) (st : RS) (p : Nat) (hB : IsB bs) (hp : p ≤ bs.length) (hl : bs.length ≤ 500) (w : World) (H : Rd w R bs (st.to p)) (hT : TabAt w) (hR : 1 ≠ R) (first : Nat) (hf : ¬ first < p) (q c : Nat) (x : Set4) (hi : Rx.item bs p = (some x, q)) (hs : sg x = some c) (hd2 : Rx.dashBetween bs q = true) (q2 : Nat) (hi2 : Rx.item bs (q + 1) = (none, q2)) :
    Calls Tryd.prog 66 #[.pointer (some ⟨R, 0, none⟩), .int .i64 ((first : Nat) : Int)] w fun e w' => e = .returned (setRes none) ∧ Went w w' R bs (st.to q2) := by
  have CI := Lib.hid (fun w H => item_any R bs (st.to p) hB hp hl w H)
  rw [show (st.to p).at' = p from rfl, hi] at CI
  have hq : q ≤ bs.length := by have := item_le bs p hp; rw [hi] at this; exact this
  have hxok : x.Ok := item_ok bs p x (by rw [hi])
  have CSg := Lib.hid (fun w hT => single_any x hxok w hT)
  rw [sgV_some hs] at CSg
  rw [setRes_some] at CI
  rw [setV_eq] at CSg
  unfold setC at CI
  have CD2 := Lib.hid (fun w H => dash_any R bs (st.to q) hB hq hl w H)
  rw [show (st.to q).at' = q from rfl, hd2] at CD2
  have hq1 : q + 1 ≤ bs.length := by
    unfold Rx.dashBetween Rx.isNext at hd2
    rcases hc : bs[q]? with _ | b
    · rw [hc] at hd2; cases hd2
    · exact (List.getElem?_eq_some_iff.1 hc).1
  have CI2 := Lib.hid (fun w H => item_any R bs (st.to (q + 1)) hB hq1 hl w H)
  rw [show (st.to (q + 1)).at' = q + 1 from rfl, hi2] at CI2
  have HQ := Lib.hid (show ((q : Int) + 1) = ((q + 1 : Nat) : Int) by omega)
  have HQ5 := Lib.hid (show q + 1 ≤ 500 by omega)
  rw [setRes_none] at CI2
  rw [none_lit] at CI2
  clear hi hs hxok hd2 hi2
  have HK0 := Lib.hid ((Ks.start H hT hR).lay Set4.none w.heap.size rfl)
  rw [show setC Set4.none = #[Value.int .u64 0, .int .u64 0, .int .u64 0, .int .u64 0] from rfl] at HK0
  have HO := Lib.hid setC_one
  have HRL := H.lt
  have hc1 : (w.alloc (.cells #[Value.int .u64 0, .int .u64 0, .int .u64 0, .int .u64 0] 65)).cell? ⟨R, 1, none⟩ = some (.int .i64 ((p : Nat) : Int)) := HK0.out.c1
  have hd1 : decide (first < p) = false := by simp; omega
  clear H hT hf
  go_enter Tryd.func66, Tryd.ntmps66
  go_wp2_with fail
  refine (CI.out _ HK0.out.rd).mono ?_
  rintro e w2 ⟨rfl, hb⟩
  have K2 := Lib.hid (HK0.out.step (w' := w2) hb)
  clear hb
  have HK3 := Lib.hid (K2.out.lay x w2.heap.size rfl)
  unfold setC at HK3
  go_wp2_with fail
  refine (CSg.out _ HK3.out.tabAt).mono ?_
  rintro e w4 ⟨rfl, hb⟩
  have K4 := Lib.hid (HK3.out.below hb)
  clear hb
  go_wp2_with fail
  refine (CD2.out _ K4.out.rd).mono ?_
  rintro e w5 ⟨rfl, hb⟩
  have K5 := Lib.hid (K4.out.below hb)
  have c5 : w5.cell? ⟨R, 1, none⟩ = some (.int .i64 ((q : Nat) : Int)) := K5.out.c1
  have f5 := K5.out.f1
  have K6 := K5.out.to (q + 1)
  rw [← HQ.out] at K6
  have K6 := Lib.hid K6
  have hq5 := HQ5.out
  clear hb
  go_wp2_with fail
  refine (CI2.out _ K6.out.rd).mono ?_
  rintro e w7 ⟨rfl, hb⟩
  have K7 := Lib.hid (K6.out.step (w' := w7) hb)
  clear hb
  have K8 := Lib.hid (K7.out.lay Set4.none w7.heap.size rfl)
  rw [none_lit] at K8
  have h8 := K8.out.at w.heap.size Set4.none (by simp)
  have K9 := Lib.hid (K8.out.row w.heap.size (Nat.le_refl _) Set4.none Set4.none (by simp))
  go_wp2_with (refine wpList_store_row rfl 65 (.tmp 4) (.tmp 68) rfl w.heap.size (setC Set4.none) rfl rfl 65 (setC Set4.none) h8 (by kernel_rfl) rfl (HO.out Set4.none) ?_)
  refine bodyPost_ret (v := .tuple #[.agg (setC Set4.none), .bool false]) ?_ ?_ ?_
  · exact results_cell_tmp (p := 4) (q := 5) rfl _ _ w.heap.size 65 (setC Set4.none) (0, 0) _ rfl (K9.out.at _ _ (by simp)) Tryd.underlying65 rfl (by kernel_rfl)
  · rfl
  · exact ⟨rfl, K9.out.went⟩
set_option maxHeartbeats 4000000 in
set_option maxRecDepth 100000 in
theorem items_rmany0 (R : Nat) (bs : List Nat) (st : RS) (p : Nat) (hB : IsB bs) (hp : p ≤ bs.length) (hl : bs.length ≤ 500) (w : World) (H : Rd w R bs (st.to p)) (hT : TabAt w) (hR : 1 ≠ R) (first : Nat) (hf : ¬ first < p) (q c : Nat) (x : Set4) (hi : Rx.item bs p = (some x, q)) (hs : sg x = some c) (hd2 : Rx.dashBetween bs q = true) (q2 : Nat) (y : Set4) (hi2 : Rx.item bs (q + 1) = (some y, q2)) (hs2 : sg y = none) :
    Calls Tryd.prog 66 #[.pointer (some ⟨R, 0, none⟩), .int .i64 ((first : Nat) : Int)] w fun e w' => e = .returned (setRes none) ∧ Went w w' R bs (st.to (q + 1)) := by
  have CI := Lib.hid (fun w H => item_any R bs (st.to p) hB hp hl w H)
  rw [show (st.to p).at' = p from rfl, hi] at CI
  have hq : q ≤ bs.length := by have := item_le bs p hp; rw [hi] at this; exact this
  have hxok : x.Ok := item_ok bs p x (by rw [hi])
  have CSg := Lib.hid (fun w hT => single_any x hxok w hT)
  rw [sgV_some hs] at CSg
  rw [setRes_some] at CI
  rw [setV_eq] at CSg
  unfold setC at CI
  have CD2 := Lib.hid (fun w H => dash_any R bs (st.to q) hB hq hl w H)
  rw [show (st.to q).at' = q from rfl, hd2] at CD2
  have hq1 : q + 1 ≤ bs.length := by
    unfold Rx.dashBetween Rx.isNext at hd2
    rcases hc : bs[q]? with _ | b
    · rw [hc] at hd2; cases hd2
    · exact (List.getElem?_eq_some_iff.1 hc).1
  have CI2 := Lib.hid (fun w H => item_any R bs (st.to (q + 1)) hB hq1 hl w H)
  rw [show (st.to (q + 1)).at' = q + 1 from rfl, hi2] at CI2
  have HQ := Lib.hid (show ((q : Int) + 1) = ((q + 1 : Nat) : Int) by omega)
  have HQ5 := Lib.hid (show q + 1 ≤ 500 by omega)
  have hyok : y.Ok := item_ok bs (q + 1) y (by rw [hi2])
  have CSg2 := Lib.hid (fun w hT => single_any y hyok w hT)
  rw [sgV_none hs2] at CSg2
  rw [setRes_some] at CI2
  rw [setV_eq] at CSg2
  unfold setC at CI2
  clear hi hs hxok hd2 hi2 hs2 hyok
  have HK0 := Lib.hid ((Ks.start H hT hR).lay Set4.none w.heap.size rfl)
  rw [show setC Set4.none = #[Value.int .u64 0, .int .u64 0, .int .u64 0, .int .u64 0] from rfl] at HK0
  have HO := Lib.hid setC_one
  have HRL := H.lt
  have hc1 : (w.alloc (.cells #[Value.int .u64 0, .int .u64 0, .int .u64 0, .int .u64 0] 65)).cell? ⟨R, 1, none⟩ = some (.int .i64 ((p : Nat) : Int)) := HK0.out.c1
  have hd1 : decide (first < p) = false := by simp; omega
  clear H hT hf
  go_enter Tryd.func66, Tryd.ntmps66
  go_wp2_with fail
  refine (CI.out _ HK0.out.rd).mono ?_
  rintro e w2 ⟨rfl, hb⟩
  have K2 := Lib.hid (HK0.out.step (w' := w2) hb)
  clear hb
  have HK3 := Lib.hid (K2.out.lay x w2.heap.size rfl)
  unfold setC at HK3
  go_wp2_with fail
  refine (CSg.out _ HK3.out.tabAt).mono ?_
  rintro e w4 ⟨rfl, hb⟩
  have K4 := Lib.hid (HK3.out.below hb)
  clear hb
  go_wp2_with fail
  refine (CD2.out _ K4.out.rd).mono ?_
  rintro e w5 ⟨rfl, hb⟩
  have K5 := Lib.hid (K4.out.below hb)
  have c5 : w5.cell? ⟨R, 1, none⟩ = some (.int .i64 ((q : Nat) : Int)) := K5.out.c1
  have f5 := K5.out.f1
  have K6 := K5.out.to (q + 1)
  rw [← HQ.out] at K6
  have K6 := Lib.hid K6
  have hq5 := HQ5.out
  clear hb
  go_wp2_with fail
  refine (CI2.out _ K6.out.rd).mono ?_
  rintro e w7 ⟨rfl, hb⟩
  have K7 := Lib.hid (K6.out.step (w' := w7) hb)
  clear hb
  have HK8 := Lib.hid (K7.out.lay y w7.heap.size rfl)
  unfold setC at HK8
  go_wp2_with fail
  refine (CSg2.out _ HK8.out.tabAt).mono ?_
  rintro e w9 ⟨rfl, hb⟩
  have K9 := Lib.hid (HK8.out.below hb)
  have f9 := K9.out.f1
  have c9 := K9.out.c1
  clear hb
  have KB : Ks w _ R bs (st.to (q + 1)) _ := K9.out.to (q + 1)
  rw [← HQ.out] at KB
  have hB9 := KB.at w.heap.size Set4.none (by simp)
  have KC := Lib.hid (KB.row w.heap.size (Nat.le_refl _) Set4.none Set4.none (by simp))
  clear KB
  go_wp2_with (refine wpList_store_row rfl 65 (.tmp 4) (.tmp 85) rfl w.heap.size (setC Set4.none) rfl rfl 65 (setC Set4.none) hB9 (by kernel_rfl) rfl (HO.out Set4.none) ?_)
  refine bodyPost_ret (v := .tuple #[.agg (setC Set4.none), .bool false]) ?_ ?_ ?_
  · exact results_cell_tmp (p := 4) (q := 5) rfl _ _ w.heap.size 65 (setC Set4.none) (0, 0) _ rfl (KC.out.at _ _ (by simp)) Tryd.underlying65 rfl (by kernel_rfl)
  · rfl
  · exact ⟨rfl, KC.out.went⟩
set_option maxHeartbeats 4000000 in
set_option maxRecDepth 100000 in
theorem items_rfall0 (R : Nat) (bs : List Nat) (st : RS) (p : Nat) (hB : IsB bs) (hp : p ≤ bs.length) (hl : bs.length ≤ 500) (w : World) (H : Rd w R bs (st.to p)) (hT : TabAt w) (hR : 1 ≠ R) (first : Nat) (hf : ¬ first < p) (q c : Nat) (x : Set4) (hi : Rx.item bs p = (some x, q)) (hs : sg x = some c) (hd2 : Rx.dashBetween bs q = true) (q2 t : Nat) (y : Set4) (hi2 : Rx.item bs (q + 1) = (some y, q2)) (hs2 : sg y = some t) (hlt : t < c) :
    Calls Tryd.prog 66 #[.pointer (some ⟨R, 0, none⟩), .int .i64 ((first : Nat) : Int)] w fun e w' => e = .returned (setRes none) ∧ Went w w' R bs (st.to (q + 1)) := by
  have CI := Lib.hid (fun w H => item_any R bs (st.to p) hB hp hl w H)
  rw [show (st.to p).at' = p from rfl, hi] at CI
  have hq : q ≤ bs.length := by have := item_le bs p hp; rw [hi] at this; exact this
  have hxok : x.Ok := item_ok bs p x (by rw [hi])
  have CSg := Lib.hid (fun w hT => single_any x hxok w hT)
  rw [sgV_some hs] at CSg
  rw [setRes_some] at CI
  rw [setV_eq] at CSg
  unfold setC at CI
  have CD2 := Lib.hid (fun w H => dash_any R bs (st.to q) hB hq hl w H)
  rw [show (st.to q).at' = q from rfl, hd2] at CD2
  have hq1 : q + 1 ≤ bs.length := by
    unfold Rx.dashBetween Rx.isNext at hd2
    rcases hc : bs[q]? with _ | b
    · rw [hc] at hd2; cases hd2
    · exact (List.getElem?_eq_some_iff.1 hc).1
  have CI2 := Lib.hid (fun w H => item_any R bs (st.to (q + 1)) hB hq1 hl w H)
  rw [show (st.to (q + 1)).at' = q + 1 from rfl, hi2] at CI2
  have HQ := Lib.hid (show ((q : Int) + 1) = ((q + 1 : Nat) : Int) by omega)
  have HQ5 := Lib.hid (show q + 1 ≤ 500 by omega)
  have hyok : y.Ok := item_ok bs (q + 1) y (by rw [hi2])
  have CSg2 := Lib.hid (fun w hT => single_any y hyok w hT)
  rw [sgV_some hs2] at CSg2
  rw [setRes_some] at CI2
  rw [setV_eq] at CSg2
  unfold setC at CI2
  have hdt : decide (t < c) = true := decide_eq_true hlt
  clear hi hs hxok hd2 hi2 hs2 hyok hlt
  have HK0 := Lib.hid ((Ks.start H hT hR).lay Set4.none w.heap.size rfl)
  rw [show setC Set4.none = #[Value.int .u64 0, .int .u64 0, .int .u64 0, .int .u64 0] from rfl] at HK0
  have HO := Lib.hid setC_one
  have HRL := H.lt
  have hc1 : (w.alloc (.cells #[Value.int .u64 0, .int .u64 0, .int .u64 0, .int .u64 0] 65)).cell? ⟨R, 1, none⟩ = some (.int .i64 ((p : Nat) : Int)) := HK0.out.c1
  have hd1 : decide (first < p) = false := by simp; omega
  clear H hT hf
  go_enter Tryd.func66, Tryd.ntmps66
  go_wp2_with fail
  refine (CI.out _ HK0.out.rd).mono ?_
  rintro e w2 ⟨rfl, hb⟩
  have K2 := Lib.hid (HK0.out.step (w' := w2) hb)
  clear hb
  have HK3 := Lib.hid (K2.out.lay x w2.heap.size rfl)
  unfold setC at HK3
  go_wp2_with fail
  refine (CSg.out _ HK3.out.tabAt).mono ?_
  rintro e w4 ⟨rfl, hb⟩
  have K4 := Lib.hid (HK3.out.below hb)
  clear hb
  go_wp2_with fail
  refine (CD2.out _ K4.out.rd).mono ?_
  rintro e w5 ⟨rfl, hb⟩
  have K5 := Lib.hid (K4.out.below hb)
  have c5 : w5.cell? ⟨R, 1, none⟩ = some (.int .i64 ((q : Nat) : Int)) := K5.out.c1
  have f5 := K5.out.f1
  have K6 := K5.out.to (q + 1)
  rw [← HQ.out] at K6
  have K6 := Lib.hid K6
  have hq5 := HQ5.out
  clear hb
  go_wp2_with fail
  refine (CI2.out _ K6.out.rd).mono ?_
  rintro e w7 ⟨rfl, hb⟩
  have K7 := Lib.hid (K6.out.step (w' := w7) hb)
  clear hb
  have HK8 := Lib.hid (K7.out.lay y w7.heap.size rfl)
  unfold setC at HK8
  go_wp2_with fail
  refine (CSg2.out _ HK8.out.tabAt).mono ?_
  rintro e w9 ⟨rfl, hb⟩
  have K9 := Lib.hid (HK8.out.below hb)
  have f9 := K9.out.f1
  have c9 := K9.out.c1
  clear hb
  have KB : Ks w _ R bs (st.to (q + 1)) _ := K9.out.to (q + 1)
  rw [← HQ.out] at KB
  have hB9 := KB.at w.heap.size Set4.none (by simp)
  have KC := Lib.hid (KB.row w.heap.size (Nat.le_refl _) Set4.none Set4.none (by simp))
  clear KB
  go_wp2_with (refine wpList_store_row rfl 65 (.tmp 4) (.tmp 85) rfl w.heap.size (setC Set4.none) rfl rfl 65 (setC Set4.none) hB9 (by kernel_rfl) rfl (HO.out Set4.none) ?_)
  refine bodyPost_ret (v := .tuple #[.agg (setC Set4.none), .bool false]) ?_ ?_ ?_
  · exact results_cell_tmp (p := 4) (q := 5) rfl _ _ w.heap.size 65 (setC Set4.none) (0, 0) _ rfl (KC.out.at _ _ (by simp)) Tryd.underlying65 rfl (by kernel_rfl)
  · rfl
  · exact ⟨rfl, KC.out.went⟩
set_option maxHeartbeats 4000000 in
set_option maxRecDepth 100000 in
theorem items_range0 (R : Nat) (bs : List Nat) (st : RS) (p : Nat) (hB : IsB bs) (hp : p ≤ bs.length) (hl : bs.length ≤ 500) (w : World) (H : Rd w R bs (st.to p)) (hT : TabAt w) (hR : 1 ≠ R) (first : Nat) (hf : ¬ first < p) (q c : Nat) (x : Set4) (hi : Rx.item bs p = (some x, q)) (hs : sg x = some c) (hd2 : Rx.dashBetween bs q = true) (q2 t : Nat) (y : Set4) (hi2 : Rx.item bs (q + 1) = (some y, q2)) (hs2 : sg y = some t) (hlt : ¬ t < c) :
    Calls Tryd.prog 66 #[.pointer (some ⟨R, 0, none⟩), .int .i64 ((first : Nat) : Int)] w fun e w' => e = .returned (setRes (some (Set4.span c t))) ∧ Went w w' R bs (st.to q2) := by
  have CI := Lib.hid (fun w H => item_any R bs (st.to p) hB hp hl w H)
  rw [show (st.to p).at' = p from rfl, hi] at CI
  have hq : q ≤ bs.length := by have := item_le bs p hp; rw [hi] at this; exact this
  have hxok : x.Ok := item_ok bs p x (by rw [hi])
  have CSg := Lib.hid (fun w hT => single_any x hxok w hT)
  rw [sgV_some hs] at CSg
  rw [setRes_some] at CI
  rw [setV_eq] at CSg
  unfold setC at CI
  have CD2 := Lib.hid (fun w H => dash_any R bs (st.to q) hB hq hl w H)
  rw [show (st.to q).at' = q from rfl, hd2] at CD2
  have hq1 : q + 1 ≤ bs.length := by
    unfold Rx.dashBetween Rx.isNext at hd2
    rcases hc : bs[q]? with _ | b
    · rw [hc] at hd2; cases hd2
    · exact (List.getElem?_eq_some_iff.1 hc).1
  have CI2 := Lib.hid (fun w H => item_any R bs (st.to (q + 1)) hB hq1 hl w H)
  rw [show (st.to (q + 1)).at' = q + 1 from rfl, hi2] at CI2
  have HQ := Lib.hid (show ((q : Int) + 1) = ((q + 1 : Nat) : Int) by omega)
  have HQ5 := Lib.hid (show q + 1 ≤ 500 by omega)
  have hyok : y.Ok := item_ok bs (q + 1) y (by rw [hi2])
  have CSg2 := Lib.hid (fun w hT => single_any y hyok w hT)
  rw [sgV_some hs2] at CSg2
  rw [setRes_some] at CI2
  rw [setV_eq] at CSg2
  unfold setC at CI2
  have hdt : decide (t < c) = false := decide_eq_false hlt
  have CSp := Lib.hid (fun w => span_any c t (sg_lt hs) (sg_lt hs2) w)
  obtain ⟨Z, hZ⟩ : ∃ Z, Set4.span c t = Z := ⟨_, rfl⟩
  rw [hZ] at CSp ⊢
  unfold setV at CSp
  clear hi hs hxok hd2 hi2 hs2 hyok hlt hZ
  have HK0 := Lib.hid ((Ks.start H hT hR).lay Set4.none w.heap.size rfl)
  rw [show setC Set4.none = #[Value.int .u64 0, .int .u64 0, .int .u64 0, .int .u64 0] from rfl] at HK0
  have HO := Lib.hid setC_one
  have HRL := H.lt
  have hc1 : (w.alloc (.cells #[Value.int .u64 0, .int .u64 0, .int .u64 0, .int .u64 0] 65)).cell? ⟨R, 1, none⟩ = some (.int .i64 ((p : Nat) : Int)) := HK0.out.c1
  have hd1 : decide (first < p) = false := by simp; omega
  clear H hT hf
  go_enter Tryd.func66, Tryd.ntmps66
  go_wp2_with fail
  refine (CI.out _ HK0.out.rd).mono ?_
  rintro e w2 ⟨rfl, hb⟩
  have K2 := Lib.hid (HK0.out.step (w' := w2) hb)
  clear hb
  have HK3 := Lib.hid (K2.out.lay x w2.heap.size rfl)
  unfold setC at HK3
  go_wp2_with fail
  refine (CSg.out _ HK3.out.tabAt).mono ?_
  rintro e w4 ⟨rfl, hb⟩
  have K4 := Lib.hid (HK3.out.below hb)
  clear hb
  go_wp2_with fail
  refine (CD2.out _ K4.out.rd).mono ?_
  rintro e w5 ⟨rfl, hb⟩
  have K5 := Lib.hid (K4.out.below hb)
  have c5 : w5.cell? ⟨R, 1, none⟩ = some (.int .i64 ((q : Nat) : Int)) := K5.out.c1
  have f5 := K5.out.f1
  have K6 := K5.out.to (q + 1)
  rw [← HQ.out] at K6
  have K6 := Lib.hid K6
  have hq5 := HQ5.out
  clear hb
  go_wp2_with fail
  refine (CI2.out _ K6.out.rd).mono ?_
  rintro e w7 ⟨rfl, hb⟩
  have K7 := Lib.hid (K6.out.step (w' := w7) hb)
  clear hb
  have HK8 := Lib.hid (K7.out.lay y w7.heap.size rfl)
  unfold setC at HK8
  go_wp2_with fail
  refine (CSg2.out _ HK8.out.tabAt).mono ?_
  rintro e w9 ⟨rfl, hb⟩
  have K9 := Lib.hid (HK8.out.below hb)
  have f9 := K9.out.f1
  have c9 := K9.out.c1
  clear hb
  go_wp2_with fail
  refine (CSp.out _).mono ?_
  rintro e wa ⟨rfl, hb⟩
  have KA := Lib.hid (K9.out.below hb)
  have ha := KA.out.at w.heap.size Set4.none (by simp)
  have KC := Lib.hid (KA.out.row w.heap.size (Nat.le_refl _) Set4.none Z (by simp))
  clear hb
  go_wp2_with (refine wpList_store_row rfl 65 (.tmp 4) (.tmp 88) rfl w.heap.size (setC Z) rfl rfl 65 (setC Set4.none) ha (by kernel_rfl) rfl (HO.out Z) ?_)
  refine bodyPost_ret (v := .tuple #[.agg (setC Z), .bool true]) ?_ ?_ ?_
  · exact results_cell_tmp (p := 4) (q := 5) rfl _ _ w.heap.size 65 (setC Z) (0, 0) _ rfl (KC.out.at _ _ (by simp)) Tryd.underlying65 rfl (by kernel_rfl)
  · rfl
  · exact ⟨rfl, KC.out.went⟩
theorem items_any (R : Nat) (bs : List Nat) (st : RS) (p : Nat) (hB : IsB bs) (hp : p ≤ bs.length) (hl : bs.length ≤ 500) (w : World) (H : Rd w R bs (st.to p)) (hT : TabAt w) (hR : 1 ≠ R) (first : Nat) :
    Calls Tryd.prog 66 #[.pointer (some ⟨R, 0, none⟩), .int .i64 ((first : Nat) : Int)] w fun e w' => e = .returned (setRes (Rx.items sg bs first p).1) ∧ Went w w' R bs (st.to (Rx.items sg bs first p).2) := by
  unfold Rx.items
  by_cases hf : first < p
  · cases hd : Rx.dashBetween bs p with
    | true =>
      rw [if_pos ⟨hf, rfl⟩]
      exact items_stray R bs st p hB hp hl w H hT hR first hf hd
    | false =>
      rw [if_neg (fun h => by cases h.2)]
      rcases hi : Rx.item bs p with ⟨r, q⟩
      cases r with
      | none => exact items_none1 R bs st p hB hp hl w H hT hR first hf hd q hi
      | some x =>
        simp only
        rcases hs : sg x with _ | c
        · exact items_many1 R bs st p hB hp hl w H hT hR first hf hd q x hi hs
        · simp only
          cases hd2 : Rx.dashBetween bs q with
          | false => simp only [Bool.false_eq_true, if_false]; exact items_one1 R bs st p hB hp hl w H hT hR first hf hd q c x hi hs hd2
          | true =>
            simp only [if_true]
            unfold Rx.range2
            rcases hi2 : Rx.item bs (q + 1) with ⟨r2, q2⟩
            cases r2 with
            | none => exact items_rnone1 R bs st p hB hp hl w H hT hR first hf hd q c x hi hs hd2 q2 hi2
            | some y =>
              simp only
              rcases hs2 : sg y with _ | t
              · exact items_rmany1 R bs st p hB hp hl w H hT hR first hf hd q c x hi hs hd2 q2 y hi2 hs2
              · simp only
                by_cases hlt : t < c
                · rw [if_pos hlt]; exact items_rfall1 R bs st p hB hp hl w H hT hR first hf hd q c x hi hs hd2 q2 t y hi2 hs2 hlt
                · rw [if_neg hlt]; exact items_range1 R bs st p hB hp hl w H hT hR first hf hd q c x hi hs hd2 q2 t y hi2 hs2 hlt
  · rw [if_neg (fun h => hf h.1)]
    rcases hi : Rx.item bs p with ⟨r, q⟩
    cases r with
    | none => exact items_none0 R bs st p hB hp hl w H hT hR first hf q hi
    | some x =>
      simp only
      rcases hs : sg x with _ | c
      · exact items_many0 R bs st p hB hp hl w H hT hR first hf q x hi hs
      · simp only
        cases hd2 : Rx.dashBetween bs q with
        | false => simp only [Bool.false_eq_true, if_false]; exact items_one0 R bs st p hB hp hl w H hT hR first hf q c x hi hs hd2
        | true =>
          simp only [if_true]
          unfold Rx.range2
          rcases hi2 : Rx.item bs (q + 1) with ⟨r2, q2⟩
          cases r2 with
          | none => exact items_rnone0 R bs st p hB hp hl w H hT hR first hf q c x hi hs hd2 q2 hi2
          | some y =>
            simp only
            rcases hs2 : sg y with _ | t
            · exact items_rmany0 R bs st p hB hp hl w H hT hR first hf q c x hi hs hd2 q2 y hi2 hs2
            · simp only
              by_cases hlt : t < c
              · rw [if_pos hlt]; exact items_rfall0 R bs st p hB hp hl w H hT hR first hf q c x hi hs hd2 q2 t y hi2 hs2 hlt
              · rw [if_neg hlt]; exact items_range0 R bs st p hB hp hl w H hT hR first hf q c x hi hs hd2 q2 t y hi2 hs2 hlt
end Go.Proofs.YtphighddlfabbaaDoor
namespace Go.Proofs.YtphighddlfabbaaDoor
set_option linter.unusedVariables false
set_option linter.unusedSimpArgs false
open Go.RowKit Go.PlainAid Go.Shelf
open Rx (Set4 RS)
def nilS : Value := .slice none 0 0
def nilP : Value := .pointer none
def ptr (b : Nat) : Value := .pointer (some ⟨b, 0, none⟩)
def nodeC (k : Nat) (x : Set4) (e n l : Nat) (m : Int) (p z : Bool) (em kv : Value) (s : Nat) : Array Value :=
  #[.int .u8 ((k : Nat) : Int), .int .u64 ((x.a : Nat) : Int), .int .u64 ((x.b : Nat) : Int), .int .u64 ((x.c : Nat) : Int), .int .u64 ((x.d : Nat) : Int), .int .u8 ((e : Nat) : Int), .int .i64 ((n : Nat) : Int), .int .i64 ((l : Nat) : Int), .int .i64 m, .bool p, .bool z, em, kv, .int .i64 ((s : Nat) : Int)]
/-- how the empty text fits, at each kind of place -/
def EmAt (w : World) (S : Nat → Prop) (t : Rx.Node) (em : Value) : Prop := ∃ eb ec, em = ptr eb ∧ S eb ∧ w.heap[eb]? = some (.cells ec 124 (0, 0)) ∧
  ∀ k, k < 4 → ec[2 * k]? = some (.bool (Rx.emptyAt t k).1) ∧ ∃ a c, ec[2 * k + 1]? = some (.slice a (Rx.emptyAt t k).2.length c)
mutual
/-- a tree lies there, in these blocks alone -/
def IsN (w : World) (S : Nat → Prop) : Rx.Node → Nat → Prop
  | .byte x, b => S b ∧ x.Ok ∧ w.heap[b]? = some (.cells (nodeC 0 x 0 0 0 0 false false nilP nilS 1) 71 (0, 0))
  | .edge e, b => S b ∧ e < 256 ∧ w.heap[b]? = some (.cells (nodeC 1 Set4.none e 0 0 0 false false nilP nilS 1) 71 (0, 0))
  | .seq ks, b => S b ∧ ∃ kv, w.heap[b]? = some (.cells (nodeC 2 Set4.none 0 0 0 0 false false nilP kv (Rx.states (.seq ks))) 71 (0, 0)) ∧
      ((ks = [] ∧ kv = nilS) ∨ ∃ g c cur, kv = .slice (some ⟨g, 0, none⟩) ks.length (ks.length + c) ∧ S g ∧ w.heap[g]? = some (.cells cur 60 (0, 0)) ∧ KidsIn w S ks cur 0)
  | .alt ks, b => S b ∧ ∃ kv, w.heap[b]? = some (.cells (nodeC 3 Set4.none 0 0 0 0 false false nilP kv (Rx.states (.alt ks))) 71 (0, 0)) ∧
      (∃ g c cur, kv = .slice (some ⟨g, 0, none⟩) ks.length (ks.length + c) ∧ S g ∧ w.heap[g]? = some (.cells cur 60 (0, 0)) ∧ KidsIn w S ks cur 0)
  | .group n t, b => S b ∧ ∃ g cur i, w.heap[b]? = some (.cells (nodeC 4 Set4.none 0 n 0 0 false false nilP (.slice (some ⟨g, 0, none⟩) 1 1) (Rx.states (.group n t))) 71 (0, 0)) ∧
      S g ∧ w.heap[g]? = some (.cells cur 60 (0, 0)) ∧ cur[0]? = some (ptr i) ∧ IsN w S t i
  | .count l m p z t, b => S b ∧ ∃ em g cur i, w.heap[b]? = some (.cells (nodeC 5 Set4.none 0 0 l (mostI m) p z em (.slice (some ⟨g, 0, none⟩) 1 1) (Rx.states (.count l m p z t))) 71 (0, 0)) ∧
      (if p then EmAt w S t em else em = nilP) ∧ S g ∧ w.heap[g]? = some (.cells cur 60 (0, 0)) ∧ cur[0]? = some (ptr i) ∧ IsN w S t i
def KidsIn (w : World) (S : Nat → Prop) : List Rx.Node → Array Value → Nat → Prop
  | [], _, _ => True
  | t :: ts, cur, i => (∃ c, cur[i]? = some (ptr c) ∧ IsN w S t c) ∧ KidsIn w S ts cur (i + 1)
end
theorem EmAt.keep {w w' : World} {S S' : Nat → Prop} (hw : ∀ k, S k → k < w.heap.size → w'.heap[k]? = w.heap[k]? ∧ S' k) {t : Rx.Node} {em : Value} (h : EmAt w S t em) : EmAt w' S' t em := by
  obtain ⟨eb, ec, h1, h2, h3, h4⟩ := h
  have := hw eb h2 (Array.getElem?_eq_some_iff.1 h3).1
  exact ⟨eb, ec, h1, this.2, this.1.trans h3, h4⟩
theorem IsN.keep {w w' : World} {S S' : Nat → Prop} (hw : ∀ k, S k → k < w.heap.size → w'.heap[k]? = w.heap[k]? ∧ S' k) : ∀ (t : Rx.Node) (b : Nat), IsN w S t b → IsN w' S' t b := by
  have row : ∀ {k : Nat} {o : Obj}, S k → w.heap[k]? = some o → w'.heap[k]? = some o ∧ S' k := fun hs h => by
    have := hw _ hs (Array.getElem?_eq_some_iff.1 h).1
    exact ⟨this.1.trans h, this.2⟩
  have kids : ∀ (ks : List Rx.Node), (∀ t ∈ ks, ∀ b, IsN w S t b → IsN w' S' t b) → ∀ (cur : Array Value) (i : Nat), KidsIn w S ks cur i → KidsIn w' S' ks cur i := by
    intro ks
    induction ks with
    | nil => intro _ _ _ _; unfold KidsIn; trivial
    | cons t ts ih =>
      intro h cur i hk
      unfold KidsIn at hk ⊢
      obtain ⟨⟨c, h1, h2⟩, h3⟩ := hk
      exact ⟨⟨c, h1, h t (by simp) c h2⟩, ih (fun u hu => h u (by simp [hu])) cur (i + 1) h3⟩
  intro t
  induction t using Rx.Node.ind with
  | h1 x => intro b h; unfold IsN at h ⊢; obtain ⟨h1, h2, h3⟩ := h; have := row h1 h3; exact ⟨this.2, h2, this.1⟩
  | h2 e => intro b h; unfold IsN at h ⊢; obtain ⟨h1, h2, h3⟩ := h; have := row h1 h3; exact ⟨this.2, h2, this.1⟩
  | h3 ks ih =>
    intro b h
    unfold IsN at h ⊢
    obtain ⟨h1, kv, h2, h3⟩ := h
    have r := row h1 h2
    refine ⟨r.2, kv, r.1, ?_⟩
    rcases h3 with h3 | ⟨g, c, cur, h4, h5, h6, h7⟩
    · exact .inl h3
    · have r2 := row h5 h6
      exact .inr ⟨g, c, cur, h4, r2.2, r2.1, kids ks ih cur 0 h7⟩
  | h4 ks ih =>
    intro b h
    unfold IsN at h ⊢
    obtain ⟨h1, kv, h2, g, c, cur, h4, h5, h6, h7⟩ := h
    have r := row h1 h2
    have r2 := row h5 h6
    exact ⟨r.2, kv, r.1, g, c, cur, h4, r2.2, r2.1, kids ks ih cur 0 h7⟩
  | h5 n t ih =>
    intro b h
    unfold IsN at h ⊢
    obtain ⟨h1, g, cur, i, h2, h3, h4, h5, h6⟩ := h
    have r := row h1 h2
    have r2 := row h3 h4
    exact ⟨r.2, g, cur, i, r.1, r2.2, r2.1, h5, ih i h6⟩
  | h6 l m p z t ih =>
    intro b h
    unfold IsN at h ⊢
    obtain ⟨h1, em, g, cur, i, h2, he, h3, h4, h5, h6⟩ := h
    have r := row h1 h2
    have r2 := row h3 h4
    refine ⟨r.2, em, g, cur, i, r.1, ?_, r2.2, r2.1, h5, ih i h6⟩
    cases p
    · exact he
    · exact EmAt.keep hw he
theorem KidsIn.keep {w w' : World} {S S' : Nat → Prop} (hw : ∀ k, S k → k < w.heap.size → w'.heap[k]? = w.heap[k]? ∧ S' k) : ∀ (ks : List Rx.Node) (cur : Array Value) (i : Nat), KidsIn w S ks cur i → KidsIn w' S' ks cur i
  | [], _, _, _ => by unfold KidsIn; trivial
  | t :: ts, cur, i, h => by
    unfold KidsIn at h ⊢
    obtain ⟨⟨c, h1, h2⟩, h3⟩ := h
    exact ⟨⟨c, h1, IsN.keep hw t c h2⟩, KidsIn.keep hw ts cur (i + 1) h3⟩
/-- the first cells of any node -/
theorem IsN.head {w : World} {S : Nat → Prop} (t : Rx.Node) (b : Nat) (h : IsN w S t b) : S b ∧ ∃ k x e n l m p z em kv, w.heap[b]? = some (.cells (nodeC k x e n l m p z em kv (Rx.states t)) 71 (0, 0)) := by
  cases t with
  | byte x => unfold IsN at h; exact ⟨h.1, _, _, _, _, _, _, _, _, _, _, h.2.2⟩
  | edge e => unfold IsN at h; exact ⟨h.1, _, _, _, _, _, _, _, _, _, _, h.2.2⟩
  | seq ks => unfold IsN at h; obtain ⟨h1, kv, h2, _⟩ := h; exact ⟨h1, _, _, _, _, _, _, _, _, _, _, h2⟩
  | alt ks => unfold IsN at h; obtain ⟨h1, kv, h2, _⟩ := h; exact ⟨h1, _, _, _, _, _, _, _, _, _, _, h2⟩
  | group n t => unfold IsN at h; obtain ⟨h1, g, cur, i, h2, _⟩ := h; exact ⟨h1, _, _, _, _, _, _, _, _, _, _, h2⟩
  | count l m p z t => unfold IsN at h; obtain ⟨h1, em, g, cur, i, h2, _⟩ := h; exact ⟨h1, _, _, _, _, _, _, _, _, _, _, h2⟩
theorem IsN.st {w : World} {S : Nat → Prop} (t : Rx.Node) (b : Nat) (h : IsN w S t b) : w.cell? ⟨b, 13, none⟩ = some (.int .i64 ((Rx.states t : Nat) : Int)) := by
  obtain ⟨_, k, x, e, n, l, m, p, z, em, kv, h2⟩ := IsN.head t b h
  rw [cell_of_row _ _ 13 _ _ _ h2]
  rfl
theorem states_le : ∀ t, Rx.states t ≤ 1001 := by
  intro t
  cases t with
  | byte x => unfold Rx.states; omega
  | edge e => unfold Rx.states; omega
  | seq ks => unfold Rx.states; omega
  | alt ks => unfold Rx.states; omega
  | group n t => unfold Rx.states; omega
  | count l m p z t => unfold Rx.states; omega
theorem statesAll_le : ∀ (ks : List Rx.Node) (n : Nat), Rx.statesAll ks n ≤ n + 1001 * ks.length
  | [], n => by unfold Rx.statesAll; omega
  | t :: ts, n => by
    unfold Rx.statesAll
    have := statesAll_le ts (n + Rx.states t)
    have := states_le t
    simp only [List.length_cons]
    omega
set_option maxHeartbeats 1000000 in
/-- states with a count -/
theorem statesof_any (l : Nat) (m : Option Nat) (p z : Bool) (x : Nat) (hl : l ≤ 1000) (hm : ∀ M, m = some M → l ≤ M ∧ M ≤ 1000) (hx : x ≤ 1001) (w : World) :
    Calls Tryd.prog 64 #[.agg #[.int .i64 ((l : Nat) : Int), .int .i64 (mostI m), .bool p, .bool z], .int .i64 ((x : Nat) : Int)] w (Gives w (.int .i64 ((Rx.statesOf l m p x : Nat) : Int))) := by
  unfold Rx.statesOf
  cases p with
  | true =>
    go_enter Tryd.func64, Tryd.ntmps64
    go_wp2
    go_ret
    exact ⟨rfl, (Below.refl _ _).alloc (Nat.le_refl _) _⟩
  | false =>
    have hle : l * x ≤ 1000 * 1001 := Nat.mul_le_mul hl hx
    have hc : ((l * x : Nat) : Int) = (l : Int) * (x : Int) := Int.natCast_mul l x
    cases m with
    | none =>
      simp only [Bool.false_eq_true, if_false]
      obtain ⟨q, hq⟩ : ∃ q, l * x = q := ⟨_, rfl⟩
      rw [hq] at hle hc ⊢
      have hc2 := hc.symm
      have e0 : mostI none = -1 := rfl
      rw [e0]
      clear hq hc e0
      go_enter Tryd.func64, Tryd.ntmps64
      go_wp2
      go_ret
      exact ⟨rfl, (Below.refl _ _).alloc (Nat.le_refl _) _⟩
    | some M =>
      obtain ⟨h1, h2⟩ := hm M rfl
      simp only [Bool.false_eq_true, if_false]
      have hle2 : (M - l) * (x + 1) ≤ 1000 * 1002 := Nat.mul_le_mul (by omega) (by omega)
      have hd : (M : Int) - (l : Int) = ((M - l : Nat) : Int) := by omega
      have hx1 : (x : Int) + 1 = ((x + 1 : Nat) : Int) := by omega
      have hc3 : (((M - l) * (x + 1) : Nat) : Int) = ((M - l : Nat) : Int) * ((x + 1 : Nat) : Int) := Int.natCast_mul _ _
      obtain ⟨q, hq⟩ : ∃ q, l * x = q := ⟨_, rfl⟩
      obtain ⟨r, hr⟩ : ∃ q, (M - l) * (x + 1) = q := ⟨_, rfl⟩
      rw [hq] at hle hc ⊢
      rw [hr] at hle2 hc3 ⊢
      have hc2 := hc.symm
      have hc4 := hc3.symm
      have e0 : mostI (some M) = ((M : Nat) : Int) := rfl
      have hn1 : ((M : Int) == -1) = false := by simp
      rw [e0]
      obtain ⟨d, hdd⟩ : ∃ d, M - l = d := ⟨_, rfl⟩
      obtain ⟨y, hy⟩ : ∃ d, x + 1 = d := ⟨_, rfl⟩
      rw [hdd] at hd hc4
      rw [hy] at hx1 hc4
      have hy2 : y ≤ 1002 := by omega
      have hd2 : d ≤ 1000 := by omega
      have hM : M ≤ 1000 := h2
      clear hq hc hc3 e0 hr hdd hy h1 h2 hm
      go_enter Tryd.func64, Tryd.ntmps64
      go_wp2
      go_ret
      exact ⟨rfl, (Below.refl _ _).alloc (Nat.le_refl _) _⟩
theorem KidsIn.get {w : World} {S : Nat → Prop} : ∀ (ks : List Rx.Node) (cur : Array Value) (i : Nat), KidsIn w S ks cur i → ∀ k (hk : k < ks.length), ∃ c, cur[i + k]? = some (ptr c) ∧ IsN w S ks[k] c
  | [], _, _, _, k, hk => by simp at hk
  | t :: ts, cur, i, h, k, hk => by
    unfold KidsIn at h
    obtain ⟨⟨c, h1, h2⟩, h3⟩ := h
    cases k with
    | zero => exact ⟨c, h1, h2⟩
    | succ k =>
      obtain ⟨d, h4, h5⟩ := KidsIn.get ts cur (i + 1) h3 k (by simpa using hk)
      exact ⟨d, by rw [show i + (k + 1) = i + 1 + k by omega]; exact h4, h5⟩
theorem statesAll_ge : ∀ (ks : List Rx.Node) (n : Nat), n ≤ Rx.statesAll ks n
  | [], n => by unfold Rx.statesAll; omega
  | t :: ts, n => by unfold Rx.statesAll; have := statesAll_ge ts (n + Rx.states t); omega
/-- a node's cells -/
structure NodeAt (w : World) (b k : Nat) (x : Set4) (e n l : Nat) (m : Int) (p z : Bool) (em kv : Value) (s : Nat) : Prop where
  row : w.heap[b]? = some (.cells (nodeC k x e n l m p z em kv s) 71 (0, 0))
theorem NodeAt.c {w : World} {b k : Nat} {x : Set4} {e n l : Nat} {m : Int} {p z : Bool} {em kv : Value} {s : Nat} (h : NodeAt w b k x e n l m p z em kv s) (j : Nat) : w.cell? ⟨b, j, none⟩ = (nodeC k x e n l m p z em kv s)[j]? := cell_of_row _ _ _ _ _ _ h.row
set_option maxHeartbeats 1000000 in
theorem cs_one (b k : Nat) (hk : k = 0 ∨ k = 1) (x : Set4) (e n l : Nat) (m : Int) (p z : Bool) (em kv : Value) (s : Nat) (w : World) (H : NodeAt w b k x e n l m p z em kv s) :
    Calls Tryd.prog 52 #[ptr b] w (Gives w (.int .i64 1)) := by
  have c0 : w.cell? ⟨b, 0, none⟩ = some (.int .u8 ((k : Nat) : Int)) := H.c 0
  unfold ptr
  clear H
  rcases hk with rfl | rfl
  · go_enter Tryd.func52, Tryd.ntmps52
    go_wp2
    go_ret
    exact ⟨rfl, Below.refl _ _⟩
  · go_enter Tryd.func52, Tryd.ntmps52
    go_wp2
    go_ret
    exact ⟨rfl, Below.refl _ _⟩
set_option maxHeartbeats 2000000 in
set_option maxRecDepth 100000 in
theorem cs_count (b : Nat) (l : Nat) (m : Option Nat) (p z : Bool) (t : Rx.Node) (em : Value) (s g i : Nat) (cur : Array Value) (S : Nat → Prop) (hl : l ≤ 1000) (hm : ∀ M, m = some M → l ≤ M ∧ M ≤ 1000) (w : World)
    (H : NodeAt w b 5 Set4.none 0 0 l (mostI m) p z em (.slice (some ⟨g, 0, none⟩) 1 1) s) (hg : w.heap[g]? = some (.cells cur 60 (0, 0))) (hc : cur[0]? = some (ptr i)) (hi : IsN w S t i) :
    Calls Tryd.prog 52 #[ptr b] w (Gives w (.int .i64 ((Rx.statesOf l m p (Rx.states t) : Nat) : Int))) := by
  have c0 : w.cell? ⟨b, 0, none⟩ = some (.int .u8 5) := H.c 0
  have c7 : w.cell? ⟨b, 7, none⟩ = some (.int .i64 ((l : Nat) : Int)) := H.c 7
  have c8 : w.cell? ⟨b, 8, none⟩ = some (.int .i64 (mostI m)) := H.c 8
  have c9 : w.cell? ⟨b, 9, none⟩ = some (.bool p) := H.c 9
  have ca : w.cell? ⟨b, 10, none⟩ = some (.bool z) := H.c 10
  have cc : w.cell? ⟨b, 12, none⟩ = some (.slice (some ⟨g, 0, none⟩) 1 1) := H.c 12
  have cg : w.cell? ⟨g, 0, none⟩ = some (ptr i) := (cell_of_row _ _ 0 _ _ _ hg).trans hc
  have cs := hi.st
  have CS := Lib.hid (fun w => statesof_any l m p z (Rx.states t) hl hm (states_le t) w)
  obtain ⟨q, hq⟩ : ∃ q, Rx.states t = q := ⟨_, rfl⟩
  obtain ⟨M, hM⟩ : ∃ M, mostI m = M := ⟨_, rfl⟩
  rw [hq] at cs CS ⊢
  rw [hM] at c8 CS
  obtain ⟨N, hN⟩ : ∃ N, Rx.statesOf l m p q = N := ⟨_, rfl⟩
  rw [hN] at CS ⊢
  unfold ptr at cg ⊢
  clear H hg hc hi hl hm hq hM hN
  go_enter Tryd.func52, Tryd.ntmps52
  go_wp2_with fail
  refine wp_region_still_tail 13 (by kernel_rfl) (by kernel_rfl) ?_
  change wpStill _ _ w.drew (fun a' => wpList _ _ _ _ a' w.drew) _ _
  simp only [List.take_succ_cons, List.take_zero, List.drop_succ_cons, List.drop_zero]
  repeat still_step
  refine wpStill_nil ?_
  go_wp2_with fail
  refine (CS.out _).mono ?_
  rintro e w1 ⟨rfl, hb⟩
  have B1 := Lib.hid ((below_drew (Below.refl w.heap.size w)).trans hb)
  clear hb
  go_wp2
  go_ret
  exact ⟨rfl, B1.out⟩
/-- the kids of a node, in their row -/
def KidV (w : World) (S : Nat → Prop) (ks : List Rx.Node) (kv : Value) : Prop := (ks = [] ∧ kv = nilS) ∨ ∃ g c cur, kv = .slice (some ⟨g, 0, none⟩) ks.length (ks.length + c) ∧ S g ∧ w.heap[g]? = some (.cells cur 60 (0, 0)) ∧ KidsIn w S ks cur 0
theorem KidV.shape {w : World} {S : Nat → Prop} {ks : List Rx.Node} {kv : Value} (h : KidV w S ks kv) : ∃ a c, kv = .slice a ks.length c ∧ ∀ k (hk : k < ks.length), ∃ g i, a = some ⟨g, 0, none⟩ ∧ w.cell? ⟨g, k, none⟩ = some (ptr i) ∧ IsN w S ks[k] i := by
  rcases h with ⟨rfl, rfl⟩ | ⟨g, c, cur, rfl, h1, h2, h3⟩
  · exact ⟨none, 0, rfl, fun k hk => by simp at hk⟩
  · refine ⟨_, _, rfl, fun k hk => ?_⟩
    obtain ⟨i, h4, h5⟩ := KidsIn.get ks cur 0 h3 k hk
    rw [Nat.zero_add] at h4
    exact ⟨g, i, rfl, (cell_of_row _ _ k _ _ _ h2).trans h4, h5⟩
theorem statesAll_drop (ks : List Rx.Node) (k : Nat) (hk : k < ks.length) (m : Nat) : Rx.statesAll (ks.drop k) m = Rx.statesAll (ks.drop (k + 1)) (m + Rx.states ks[k]) := by
  rw [List.drop_eq_getElem_cons hk]
  conv => lhs; unfold Rx.statesAll
set_option maxHeartbeats 2000000 in
set_option maxRecDepth 100000 in
theorem cs_list2 (b : Nat) (ks : List Rx.Node) (hlen : ks.length ≤ 1000) (x : Set4) (e n l : Nat) (m : Int) (p z : Bool) (em kv : Value) (s : Nat) (S : Nat → Prop) (w : World) (H : NodeAt w b 2 x e n l m p z em kv s) (hkv : KidV w S ks kv) :
    Calls Tryd.prog 52 #[ptr b] w (Gives w (.int .i64 ((Rx.statesAll ks (0) : Nat) : Int))) := by
  obtain ⟨a, c, rfl, HK⟩ := hkv.shape
  have c0 : w.cell? ⟨b, 0, none⟩ = some (.int .u8 2) := H.c 0
  have cc : w.cell? ⟨b, 12, none⟩ = some (.slice a ks.length c) := H.c 12
  have HC0 := Lib.hid (fun k hk => HK k hk)
  obtain ⟨n0, hn0⟩ : ∃ n0, (0) = n0 := ⟨_, rfl⟩
  have hle := statesAll_le ks n0
  have hge := statesAll_ge ks n0
  have hn1 : n0 ≤ 2002 := by omega
  rw [hn0]

  obtain ⟨N, hN⟩ : ∃ N, Rx.statesAll ks n0 = N := ⟨_, rfl⟩
  have H0 := Lib.hid (show Rx.statesAll (ks.drop 0) n0 = N from hN)
  have HST := Lib.hid (fun k hk m => statesAll_drop ks k hk m)
  have HGE := Lib.hid (fun k m => statesAll_ge (ks.drop k) m)
  have HEND := Lib.hid (show ∀ m, Rx.statesAll (ks.drop ks.length) m = m by intro m; rw [List.drop_length]; rfl)
  rw [hN] at hle hge ⊢
  have HKS := Lib.hid (fun k (hk : k < ks.length) => states_le ks[k])
  have HN0 := Lib.hid (show ((n0 : Nat) : Int) = 0 by omega)
  obtain ⟨L, hL⟩ : ∃ L, ks.length = L := ⟨_, rfl⟩
  have HL := Lib.hid hL
  rw [hL] at cc hle hlen HEND
  have hNb : N ≤ 1003003 := by omega
  unfold ptr
  clear H hkv HK hn0 hN hle hge hn1 hL
  go_enter Tryd.func52, Tryd.ntmps52
  go_wp2
  go_loop [3, 5, 45] (fun n _ i => ∃ k q : Nat, k ≤ L ∧ i = .int .i64 ((k : Nat) : Int) ∧ n = .int .i64 ((q : Nat) : Int) ∧ q ≤ N ∧ Hid (Rx.statesAll (ks.drop k) q = N)) (fun _ _ i => L - (intOf i).toNat)
  case atStart => exact ⟨0, n0, Nat.zero_le _, rfl, by first | rfl | rw [HN0.out], by have := HGE.out 0 n0; rw [H0.out] at this; exact this, H0⟩
  case round =>
    obtain ⟨k, q, hk, rfl, rfl, hqN, HS⟩ := hrel
    by_cases hlt : k < L
    · have hd : decide (k < L) = true := decide_eq_true hlt
      have hlt' : k < ks.length := by have := HL.out; omega
      obtain ⟨g, i, rfl, h1, h2⟩ := HC0.out k hlt'
      have h3 := h2.st
      have h4 := HKS.out k hlt'
      have h5 := HST.out k hlt' q
      rw [HS.out] at h5
      obtain ⟨v, hv⟩ : ∃ v, Rx.states ks[k] = v := ⟨_, rfl⟩
      rw [hv] at h3 h4 h5
      have H5 := Lib.hid h5.symm
      have H6 := Lib.hid (show q + v ≤ N by have := HGE.out (k + 1) (q + v); rw [← h5] at this; exact this)
      unfold ptr at h1
      clear h2 h5 hv HS hlt'
      go_wp2
      go_round
      case rel => exact ⟨k + 1, q + v, by omega, by go_num, by go_num, H6.out, H5⟩
      case measure => simp [intOf]; omega
    · obtain rfl : k = L := by omega
      have hd : decide (k < k) = false := decide_eq_false (by omega)
      have hqq : q = N := by have := HS.out; rw [← HL.out] at this; rw [List.drop_length] at this; exact this
      subst hqq
      go_wp2
      go_ret
      exact ⟨rfl, Below.refl _ _⟩
set_option maxHeartbeats 2000000 in
set_option maxRecDepth 100000 in
theorem cs_list3 (b : Nat) (ks : List Rx.Node) (hlen : ks.length ≤ 1000) (hne : 0 < ks.length) (x : Set4) (e n l : Nat) (m : Int) (p z : Bool) (em kv : Value) (s : Nat) (S : Nat → Prop) (w : World) (H : NodeAt w b 3 x e n l m p z em kv s) (hkv : KidV w S ks kv) :
    Calls Tryd.prog 52 #[ptr b] w (Gives w (.int .i64 ((Rx.statesAll ks (2 * (ks.length - 1)) : Nat) : Int))) := by
  obtain ⟨a, c, rfl, HK⟩ := hkv.shape
  have c0 : w.cell? ⟨b, 0, none⟩ = some (.int .u8 3) := H.c 0
  have cc : w.cell? ⟨b, 12, none⟩ = some (.slice a ks.length c) := H.c 12
  have HC0 := Lib.hid (fun k hk => HK k hk)
  obtain ⟨n0, hn0⟩ : ∃ n0, (2 * (ks.length - 1)) = n0 := ⟨_, rfl⟩
  have hle := statesAll_le ks n0
  have hge := statesAll_ge ks n0
  have hn1 : n0 ≤ 2002 := by omega
  rw [hn0]
  have hq : (2 : Int) * ((ks.length : Int) - 1) = ((n0 : Nat) : Int) := by omega
  obtain ⟨N, hN⟩ : ∃ N, Rx.statesAll ks n0 = N := ⟨_, rfl⟩
  have H0 := Lib.hid (show Rx.statesAll (ks.drop 0) n0 = N from hN)
  have HST := Lib.hid (fun k hk m => statesAll_drop ks k hk m)
  have HGE := Lib.hid (fun k m => statesAll_ge (ks.drop k) m)
  have HEND := Lib.hid (show ∀ m, Rx.statesAll (ks.drop ks.length) m = m by intro m; rw [List.drop_length]; rfl)
  rw [hN] at hle hge ⊢
  have HKS := Lib.hid (fun k (hk : k < ks.length) => states_le ks[k])
  have HN0 := Lib.hid (show ((n0 : Nat) : Int) = 2 * ((ks.length : Int) - 1) by omega)
  obtain ⟨L, hL⟩ : ∃ L, ks.length = L := ⟨_, rfl⟩
  have HL := Lib.hid hL
  rw [hL] at cc hle hlen hq HEND HN0
  have hNb : N ≤ 1003003 := by omega
  unfold ptr
  clear H hkv HK hn0 hN hle hge hn1 hL
  go_enter Tryd.func52, Tryd.ntmps52
  go_wp2
  go_loop [3, 5, 45] (fun n _ i => ∃ k q : Nat, k ≤ L ∧ i = .int .i64 ((k : Nat) : Int) ∧ n = .int .i64 ((q : Nat) : Int) ∧ q ≤ N ∧ Hid (Rx.statesAll (ks.drop k) q = N)) (fun _ _ i => L - (intOf i).toNat)
  case atStart => exact ⟨0, n0, Nat.zero_le _, rfl, by first | rfl | rw [HN0.out], by have := HGE.out 0 n0; rw [H0.out] at this; exact this, H0⟩
  case round =>
    obtain ⟨k, q, hk, rfl, rfl, hqN, HS⟩ := hrel
    by_cases hlt : k < L
    · have hd : decide (k < L) = true := decide_eq_true hlt
      have hlt' : k < ks.length := by have := HL.out; omega
      obtain ⟨g, i, rfl, h1, h2⟩ := HC0.out k hlt'
      have h3 := h2.st
      have h4 := HKS.out k hlt'
      have h5 := HST.out k hlt' q
      rw [HS.out] at h5
      obtain ⟨v, hv⟩ : ∃ v, Rx.states ks[k] = v := ⟨_, rfl⟩
      rw [hv] at h3 h4 h5
      have H5 := Lib.hid h5.symm
      have H6 := Lib.hid (show q + v ≤ N by have := HGE.out (k + 1) (q + v); rw [← h5] at this; exact this)
      unfold ptr at h1
      clear h2 h5 hv HS hlt'
      go_wp2
      go_round
      case rel => exact ⟨k + 1, q + v, by omega, by go_num, by go_num, H6.out, H5⟩
      case measure => simp [intOf]; omega
    · obtain rfl : k = L := by omega
      have hd : decide (k < k) = false := decide_eq_false (by omega)
      have hqq : q = N := by have := HS.out; rw [← HL.out] at this; rw [List.drop_length] at this; exact this
      subst hqq
      go_wp2
      go_ret
      exact ⟨rfl, Below.refl _ _⟩
set_option maxHeartbeats 2000000 in
set_option maxRecDepth 100000 in
theorem cs_list4 (b : Nat) (ks : List Rx.Node) (hlen : ks.length ≤ 1000) (x : Set4) (e n l : Nat) (m : Int) (p z : Bool) (em kv : Value) (s : Nat) (S : Nat → Prop) (w : World) (H : NodeAt w b 4 x e n l m p z em kv s) (hkv : KidV w S ks kv) :
    Calls Tryd.prog 52 #[ptr b] w (Gives w (.int .i64 ((Rx.statesAll ks (2) : Nat) : Int))) := by
  obtain ⟨a, c, rfl, HK⟩ := hkv.shape
  have c0 : w.cell? ⟨b, 0, none⟩ = some (.int .u8 4) := H.c 0
  have cc : w.cell? ⟨b, 12, none⟩ = some (.slice a ks.length c) := H.c 12
  have HC0 := Lib.hid (fun k hk => HK k hk)
  obtain ⟨n0, hn0⟩ : ∃ n0, (2) = n0 := ⟨_, rfl⟩
  have hle := statesAll_le ks n0
  have hge := statesAll_ge ks n0
  have hn1 : n0 ≤ 2002 := by omega
  rw [hn0]

  obtain ⟨N, hN⟩ : ∃ N, Rx.statesAll ks n0 = N := ⟨_, rfl⟩
  have H0 := Lib.hid (show Rx.statesAll (ks.drop 0) n0 = N from hN)
  have HST := Lib.hid (fun k hk m => statesAll_drop ks k hk m)
  have HGE := Lib.hid (fun k m => statesAll_ge (ks.drop k) m)
  have HEND := Lib.hid (show ∀ m, Rx.statesAll (ks.drop ks.length) m = m by intro m; rw [List.drop_length]; rfl)
  rw [hN] at hle hge ⊢
  have HKS := Lib.hid (fun k (hk : k < ks.length) => states_le ks[k])
  have HN0 := Lib.hid (show ((n0 : Nat) : Int) = 2 by omega)
  obtain ⟨L, hL⟩ : ∃ L, ks.length = L := ⟨_, rfl⟩
  have HL := Lib.hid hL
  rw [hL] at cc hle hlen HEND
  have hNb : N ≤ 1003003 := by omega
  unfold ptr
  clear H hkv HK hn0 hN hle hge hn1 hL
  go_enter Tryd.func52, Tryd.ntmps52
  go_wp2
  go_loop [3, 5, 45] (fun n _ i => ∃ k q : Nat, k ≤ L ∧ i = .int .i64 ((k : Nat) : Int) ∧ n = .int .i64 ((q : Nat) : Int) ∧ q ≤ N ∧ Hid (Rx.statesAll (ks.drop k) q = N)) (fun _ _ i => L - (intOf i).toNat)
  case atStart => exact ⟨0, n0, Nat.zero_le _, rfl, by first | rfl | rw [HN0.out], by have := HGE.out 0 n0; rw [H0.out] at this; exact this, H0⟩
  case round =>
    obtain ⟨k, q, hk, rfl, rfl, hqN, HS⟩ := hrel
    by_cases hlt : k < L
    · have hd : decide (k < L) = true := decide_eq_true hlt
      have hlt' : k < ks.length := by have := HL.out; omega
      obtain ⟨g, i, rfl, h1, h2⟩ := HC0.out k hlt'
      have h3 := h2.st
      have h4 := HKS.out k hlt'
      have h5 := HST.out k hlt' q
      rw [HS.out] at h5
      obtain ⟨v, hv⟩ : ∃ v, Rx.states ks[k] = v := ⟨_, rfl⟩
      rw [hv] at h3 h4 h5
      have H5 := Lib.hid h5.symm
      have H6 := Lib.hid (show q + v ≤ N by have := HGE.out (k + 1) (q + v); rw [← h5] at this; exact this)
      unfold ptr at h1
      clear h2 h5 hv HS hlt'
      go_wp2
      go_round
      case rel => exact ⟨k + 1, q + v, by omega, by go_num, by go_num, H6.out, H5⟩
      case measure => simp [intOf]; omega
    · obtain rfl : k = L := by omega
      have hd : decide (k < k) = false := decide_eq_false (by omega)
      have hqq : q = N := by have := HS.out; rw [← HL.out] at this; rw [List.drop_length] at this; exact this
      subst hqq
      go_wp2
      go_ret
      exact ⟨rfl, Below.refl _ _⟩
set_option maxHeartbeats 2000000 in
set_option maxRecDepth 100000 in
/-- a node is made -/
theorem new_any (k : Nat) (x : Set4) (e n l : Nat) (m : Int) (p z : Bool) (em kv : Value) (N : Nat) (hN : N ≤ 2000000000) (w : World)
    (HC : ∀ w1, Below w.heap.size w w1 → NodeAt w1 w.heap.size k x e n l m p z em kv 0 → Calls Tryd.prog 52 #[ptr w.heap.size] w1 (Gives w1 (.int .i64 ((N : Nat) : Int)))) :
    Calls Tryd.prog 38 #[.agg (nodeC k x e n l m p z em kv 0)] w fun e' w' => e' = .returned (ptr w.heap.size) ∧ Below w.heap.size w w' ∧ NodeAt w' w.heap.size k x e n l m p z em kv (min N 1001) := by
  have HC1 := Lib.hid (HC (w.alloc (.cells (nodeC k x e n l m p z em kv 0) 71)) ((Below.refl _ _).alloc (Nat.le_refl _) _) ⟨heap_alloc_new w _⟩)
  have HR := Lib.hid (show NodeAt (w.alloc (.cells (nodeC k x e n l m p z em kv 0) 71)) w.heap.size k x e n l m p z em kv 0 from ⟨heap_alloc_new w _⟩)
  clear HC
  unfold nodeC ptr at HC1
  unfold nodeC at HR ⊢
  unfold ptr
  have hm1 : (if (N : Int) ≤ 1001 then ((N : Nat) : Int) else 1001) = ((min N 1001 : Nat) : Int) := by split <;> omega
  have hm2 : (if (1001 : Int) < ((N : Nat) : Int) then (1001 : Int) else ((N : Nat) : Int)) = ((min N 1001 : Nat) : Int) := by split <;> omega
  have HM := Lib.hid (And.intro hm1 hm2)
  clear hm1 hm2
  go_enter Tryd.func38, Tryd.ntmps38
  go_wp2_with fail
  refine HC1.out.mono ?_
  rintro e w1 ⟨rfl, hb⟩
  have h1 := (hb.block w.heap.size (by simp)).trans HR.out.row
  have B1 := Lib.hid (((Below.refl w.heap.size w).alloc (Nat.le_refl _) (.cells (nodeC k x e n l m p z em kv 0) 71)).trans (hb.mono (by simp)))
  have c13 : w1.cell? ⟨w.heap.size, 13, none⟩ = some (.int .i64 ((0 : Nat) : Int)) := by rw [cell_of_row _ _ 13 _ _ _ h1]; rfl
  have f13 : w1.frozen? ⟨w.heap.size, 13, none⟩ = false := frozen_of_row _ _ _ _ _ h1
  have H1 := Lib.hid h1
  obtain ⟨r, hr⟩ : ∃ r, min N 1001 = r := ⟨_, rfl⟩
  have hm1 := HM.out.1
  have hm2 := HM.out.2
  have HRR := Lib.hid hr
  rw [hr] at hm1 hm2
  clear hb h1 hr
  go_wp2
  go_ret
  refine ⟨rfl, B1.out.setCell (Nat.le_refl _) _, ?_⟩
  constructor
  have hh := heap_setCell_same w1 w.heap.size 13 _ _ (.int .i64 ((r : Nat) : Int)) H1.out
  rw [show min (N : Int) 1001 = ((r : Nat) : Int) by have := HRR.out; omega, HRR.out]
  exact hh
/-- the blocks of a call's own -/
def Fresh (B : Nat) (k : Nat) : Prop := B ≤ k
theorem newNode_byte (x : Set4) (hx : x.Ok) (w : World) :
    Calls Tryd.prog 38 #[.agg (nodeC 0 x 0 0 0 0 false false nilP nilS 0)] w fun e' w' => ∃ b, e' = .returned (ptr b) ∧ Below w.heap.size w w' ∧ IsN w' (Fresh w.heap.size) (.byte x) b :=
  (new_any 0 x 0 0 0 0 false false nilP nilS 1 (by decide) w (fun w1 _ h => cs_one _ 0 (.inl rfl) _ _ _ _ _ _ _ _ _ _ w1 h)).mono fun e' w' ⟨h1, h2, h3⟩ => ⟨_, h1, h2, by unfold IsN; exact ⟨Nat.le_refl _, hx, h3.row⟩⟩
theorem newNode_edge (e : Nat) (he : e < 256) (w : World) :
    Calls Tryd.prog 38 #[.agg (nodeC 1 Set4.none e 0 0 0 false false nilP nilS 0)] w fun e' w' => ∃ b, e' = .returned (ptr b) ∧ Below w.heap.size w w' ∧ IsN w' (Fresh w.heap.size) (.edge e) b :=
  (new_any 1 Set4.none e 0 0 0 false false nilP nilS 1 (by decide) w (fun w1 _ h => cs_one _ 1 (.inr rfl) _ _ _ _ _ _ _ _ _ _ w1 h)).mono fun e' w' ⟨h1, h2, h3⟩ => ⟨_, h1, h2, by unfold IsN; exact ⟨Nat.le_refl _, he, h3.row⟩⟩
theorem KidV.keep {w w' : World} {S S' : Nat → Prop} (hw : ∀ k, S k → k < w.heap.size → w'.heap[k]? = w.heap[k]? ∧ S' k) {ks : List Rx.Node} {kv : Value} (h : KidV w S ks kv) : KidV w' S' ks kv := by
  rcases h with h | ⟨g, c, cur, h1, h2, h3, h4⟩
  · exact .inl h
  · have := hw g h2 (Array.getElem?_eq_some_iff.1 h3).1
    exact .inr ⟨g, c, cur, h1, this.2, this.1.trans h3, KidsIn.keep hw ks cur 0 h4⟩
theorem newNode_seq (ks : List Rx.Node) (hlen : ks.length ≤ 1000) (kv : Value) (S : Nat → Prop) (w : World) (hS : S w.heap.size) (hk : KidV w S ks kv) :
    Calls Tryd.prog 38 #[.agg (nodeC 2 Set4.none 0 0 0 0 false false nilP kv 0)] w fun e' w' => ∃ b, e' = .returned (ptr b) ∧ Below w.heap.size w w' ∧ IsN w' S (.seq ks) b :=
  (new_any 2 Set4.none 0 0 0 0 false false nilP kv (Rx.statesAll ks 0) (by have := statesAll_le ks 0; omega) w
    (fun w1 hb h => cs_list2 _ ks hlen _ _ _ _ _ _ _ _ _ _ S w1 h (hk.keep fun k hs hl => ⟨hb.block k hl, hs⟩))).mono fun e' w' ⟨h1, h2, h3⟩ => ⟨_, h1, h2, by
      unfold IsN
      refine ⟨hS, kv, by unfold Rx.states; exact h3.row, ?_⟩
      have := hk.keep (S' := S) (w' := w') fun k hs hl => ⟨h2.block k hl, hs⟩
      exact this⟩
theorem newNode_alt (ks : List Rx.Node) (hlen : ks.length ≤ 1000) (hne : ks ≠ []) (kv : Value) (S : Nat → Prop) (w : World) (hS : S w.heap.size) (hk : KidV w S ks kv) :
    Calls Tryd.prog 38 #[.agg (nodeC 3 Set4.none 0 0 0 0 false false nilP kv 0)] w fun e' w' => ∃ b, e' = .returned (ptr b) ∧ Below w.heap.size w w' ∧ IsN w' S (.alt ks) b :=
  (new_any 3 Set4.none 0 0 0 0 false false nilP kv (Rx.statesAll ks (2 * (ks.length - 1))) (by have := statesAll_le ks (2 * (ks.length - 1)); omega) w
    (fun w1 hb h => cs_list3 _ ks hlen (List.length_pos_iff.2 hne) _ _ _ _ _ _ _ _ _ _ S w1 h (hk.keep fun k hs hl => ⟨hb.block k hl, hs⟩))).mono fun e' w' ⟨h1, h2, h3⟩ => ⟨_, h1, h2, by
      unfold IsN
      refine ⟨hS, kv, by unfold Rx.states; exact h3.row, ?_⟩
      have := hk.keep (S' := S) (w' := w') fun k hs hl => ⟨h2.block k hl, hs⟩
      rcases this with ⟨h, _⟩ | h
      · exact absurd h hne
      · exact h⟩
theorem newNode_group (n : Nat) (t : Rx.Node) (g i : Nat) (cur : Array Value) (S : Nat → Prop) (w : World) (hS : S w.heap.size) (hg : S g) (h1 : w.heap[g]? = some (.cells cur 60 (0, 0))) (h2 : cur[0]? = some (ptr i)) (h3 : IsN w S t i) :
    Calls Tryd.prog 38 #[.agg (nodeC 4 Set4.none 0 n 0 0 false false nilP (.slice (some ⟨g, 0, none⟩) 1 1) 0)] w fun e' w' => ∃ b, e' = .returned (ptr b) ∧ Below w.heap.size w w' ∧ IsN w' S (.group n t) b := by
  have hk : KidV w S [t] (.slice (some ⟨g, 0, none⟩) 1 1) := .inr ⟨g, 0, cur, rfl, hg, h1, by unfold KidsIn KidsIn; exact ⟨⟨i, h2, h3⟩, trivial⟩⟩
  have hst : Rx.statesAll [t] 2 = 2 + Rx.states t := by unfold Rx.statesAll Rx.statesAll; rfl
  refine (new_any 4 Set4.none 0 n 0 0 false false nilP (.slice (some ⟨g, 0, none⟩) 1 1) (Rx.statesAll [t] 2) (by have := states_le t; omega) w
    (fun w1 hb h => cs_list4 _ [t] (by simp) _ _ _ _ _ _ _ _ _ _ S w1 h (hk.keep fun k hs hl => ⟨hb.block k hl, hs⟩))).mono fun e' w' ⟨k1, k2, k3⟩ => ⟨_, k1, k2, ?_⟩
  unfold IsN
  have hg' := k2.block g (Array.getElem?_eq_some_iff.1 h1).1
  refine ⟨hS, g, cur, i, ?_, hg, hg'.trans h1, h2, IsN.keep (fun k hs hl => ⟨k2.block k hl, hs⟩) t i h3⟩
  have := k3.row
  rw [hst] at this
  rw [Rx.states]
  exact this
theorem newNode_count (l : Nat) (m : Option Nat) (p z : Bool) (t : Rx.Node) (hl : l ≤ 1000) (hm : ∀ M, m = some M → l ≤ M ∧ M ≤ 1000) (em : Value) (g i : Nat) (cur : Array Value) (S : Nat → Prop) (w : World) (hS : S w.heap.size) (hg : S g)
    (h1 : w.heap[g]? = some (.cells cur 60 (0, 0))) (h2 : cur[0]? = some (ptr i)) (h3 : IsN w S t i) (h4 : if p then EmAt w S t em else em = nilP) :
    Calls Tryd.prog 38 #[.agg (nodeC 5 Set4.none 0 0 l (mostI m) p z em (.slice (some ⟨g, 0, none⟩) 1 1) 0)] w fun e' w' => ∃ b, e' = .returned (ptr b) ∧ Below w.heap.size w w' ∧ IsN w' S (.count l m p z t) b := by
  have hb2 : Rx.statesOf l m p (Rx.states t) ≤ 2000000000 := by
    have hx := states_le t
    have hle : l * Rx.states t ≤ 1000 * 1001 := Nat.mul_le_mul hl hx
    unfold Rx.statesOf
    split
    · omega
    · split
      · omega
      · rename_i M
        have := hm M rfl
        have hle2 : (M - l) * (Rx.states t + 1) ≤ 1000 * 1002 := Nat.mul_le_mul (by omega) (by omega)
        omega
  refine (new_any 5 Set4.none 0 0 l (mostI m) p z em (.slice (some ⟨g, 0, none⟩) 1 1) (Rx.statesOf l m p (Rx.states t)) hb2 w
    (fun w1 hb h => cs_count _ l m p z t em _ g i cur S hl hm w1 h ((hb.block g (Array.getElem?_eq_some_iff.1 h1).1).trans h1) h2 (IsN.keep (fun k hs hl => ⟨hb.block k hl, hs⟩) t i h3))).mono fun e' w' ⟨k1, k2, k3⟩ => ⟨_, k1, k2, ?_⟩
  unfold IsN
  have hg' := k2.block g (Array.getElem?_eq_some_iff.1 h1).1
  refine ⟨hS, em, g, cur, i, ?_, ?_, hg, hg'.trans h1, h2, IsN.keep (fun k hs hl => ⟨k2.block k hl, hs⟩) t i h3⟩
  · rw [Rx.states]
    exact k3.row
  · cases p
    · exact h4
    · exact EmAt.keep (fun k hs hl => ⟨k2.block k hl, hs⟩) h4
/-- a node was made -/
def Made (w : World) (S : Nat → Prop) (t : Rx.Node) (e : Ending) (w' : World) : Prop := ∃ b, e = .returned (ptr b) ∧ Below w.heap.size w w' ∧ IsN w' S t b
set_option maxHeartbeats 2000000 in
set_option maxRecDepth 100000 in
theorem oneOf_any (x : Set4) (hx : x.Ok) (w : World) : Calls Tryd.prog 58 #[setV x] w (Made w (Fresh w.heap.size) (.byte x)) := by
  have CN := Lib.hid (fun w => newNode_byte x hx w)
  have HB := Lib.hid (fun o => (Below.refl w.heap.size w).alloc (Nat.le_refl _) o)
  unfold nodeC nilP nilS at CN
  rw [setV_eq]
  go_enter Tryd.func58, Tryd.ntmps58
  go_wp2_with fail
  refine (CN.out _).mono ?_
  rintro e w1 ⟨b, rfl, hb, hn⟩
  have B1 := Lib.hid ((HB.out _).trans (hb.mono (by simp)))
  have HN := Lib.hid (IsN.keep (S' := Fresh w.heap.size) (w' := w1) (fun k hk _ => ⟨rfl, by unfold Fresh at hk ⊢; simp at hk; omega⟩) _ _ hn)
  clear hb hn
  unfold ptr
  go_wp2
  go_ret
  exact ⟨b, rfl, B1.out, HN.out⟩
end Go.Proofs.YtphighddlfabbaaDoor
