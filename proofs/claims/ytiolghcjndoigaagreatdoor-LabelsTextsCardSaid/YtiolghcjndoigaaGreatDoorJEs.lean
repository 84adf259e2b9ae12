/-
  WALKS: the document's own Unquote.
-/
import Derived.Test.YtiolghcjndoigaaGreatDoorEsD
import Derived.Test.YtiolghcjndoigaaGreatDoorUnC
import Derived.Test.YtiolghcjndoigaaGreatDoorAsE
import Derived.Test.YtiolghcjndoigaaGreatDoorAsC
import Derived.Test.YtiolghcjndoigaaGreatDoorEsB
import Derived.Test.YtiolghcjndoigaaGreatDoorEsC
import Derived.Handy
namespace Go.Proofs.YtiolghcjndoigaaGreatDoor
set_option linter.unusedVariables false
set_option linter.unusedSimpArgs false
open Go.RowKit Go.PlainAid Go.Extern.Stop Go.Stop Go.Extern
theorem RunQ.isB {q : Nat} {bs : List Nat} (hB : IsB bs) {p : Nat} {es : List Nat} {r : QR} (h : RunQ q bs p es r) : IsB es → ∀ xs p', r = .ok xs p' → IsB xs ∧ p' ≤ bs.length := by
  induction h with
  | stop p es hc => intro _ xs p' hr; cases hr
  | close p es hc => intro he xs p' hr; cases hr; exact ⟨he, (List.getElem?_eq_some_iff.1 hc).1⟩
  | raw p c es r _ hc _ _ ih => intro he; exact ih (IsB.app he (IsB.cons (at_isB hB hc) IsB.nil))
  | line p es _ _ hc => intro _ xs p' hr; cases hr
  | plain p c es r _ hc _ _ _ _ ih => intro he; exact ih (IsB.app he (IsB.cons (at_isB hB hc) IsB.nil))
  | esc p p' es xs r _ _ hc hesc _ ih => intro he; exact ih (IsB.app he (escF_far hesc).2.2.2)
  | escbad p es _ _ hc he => intro _ xs p' hr; cases hr
  | escend p es _ _ hc he => intro _ xs p' hr; cases hr
theorem RunQ.at {q : Nat} {bs : List Nat} {p : Nat} {es : List Nat} {r : QR} (h : RunQ q bs p es r) : ∀ a, r = .fault a → a < bs.length := by
  induction h with
  | stop p es hc => intro a hr; cases hr
  | close p es hc => intro a hr; cases hr
  | raw p c es r _ hc _ _ ih => exact ih
  | line p es _ _ hc => intro a hr; cases hr; exact (List.getElem?_eq_some_iff.1 hc).1
  | plain p c es r _ hc _ _ _ _ ih => exact ih
  | esc p p' es xs r _ _ hc hesc _ ih => exact ih
  | escbad p es _ _ hc he => intro a hr; cases hr; exact (List.getElem?_eq_some_iff.1 hc).1
  | escend p es _ _ hc he => intro a hr; cases hr
theorem isQ_all (bs : List Nat) : ∃ r, IsQ bs r := by
  unfold IsQ
  cases hc : bs[0]? with
  | none => exact ⟨_, rfl⟩
  | some q =>
    by_cases hq : q = 34 ∨ q = 39 ∨ q = 96
    · obtain ⟨r, hr⟩ := run_all (q := q) (by omega) bs bs.length 1 [] (by omega)
      exact ⟨r, by simp only [if_pos hq]; exact hr⟩
    · exact ⟨.fault 0, by simp only [if_neg hq]⟩
def uStr : QR → List Nat
  | .ok xs _ => xs
  | _ => []
def uErr : QR → Nat
  | .ok _ _ => 0
  | _ => 42
def uPos (bs : List Nat) : QR → Nat
  | .ok _ p => p
  | .fault a => a
  | .ended => bs.length
set_option maxRecDepth 100000 in
set_option maxHeartbeats 1000000 in
theorem quoted_any (R B : Nat) (bs : List Nat) (r : QR) (hB : IsB bs) (hl : bs.length ≤ 30000) (hr : IsQ bs r) (w : World) (hBs : w.heap.size = B) (H : Rd w R bs 0) :
    Calls Tryz.prog 167 #[.pointer (some ⟨R, 0, none⟩)] w (QPost R B bs w r) := by
  unfold IsQ at hr
  cases hc : bs[0]? with
  | none =>
    rw [hc] at hr
    have h0 : 0 = bs.length := by have := List.getElem?_eq_none_iff.1 hc; omega
    rw [h0] at H
    have CN := Lib.hid (next_end R bs w H)
    have hr2 : r = .ended := hr
    subst hr2
    clear hr hc h0 H hB hl
    subst hBs
    go_enter Tryz.func167, Tryz.ntmps167
    go_wp2_with fail
    refine CN.out.mono ?_
    rintro e w1 ⟨x, rfl, hb, he⟩
    obtain ⟨q, rfl⟩ := endErr_ne he
    have HE := Lib.hid he
    have HB1 := Lib.hid hb
    clear he hb
    go_wp2
    go_ret2
    exact ⟨_, _, rfl, Kept.of_below HB1.out, .inl HE.out⟩
  | some q =>
    rw [hc] at hr
    by_cases hq : q = 34 ∨ q = 39 ∨ q = 96
    · simp only [if_pos hq] at hr
      exact quoted_run R B bs q r hB hl hq hc hr w hBs H
    · simp only [if_neg hq] at hr
      subst hr
      have CN := Lib.hid (next_at R bs 0 q hB hc (by omega) w H)
      have HR := Lib.hid H.lt
      have m34 : ((q : Int) != 34) = true := by simp; omega
      have m39 : ((q : Int) != 39) = true := by simp; omega
      have m96 : ((q : Int) != 96) = true := by simp; omega
      clear hc hq H hB hl
      subst hBs
      go_enter Tryz.func167, Tryz.ntmps167
      go_wp2_with fail
      refine CN.out.mono ?_
      rintro e w1 ⟨rfl, ho, hr⟩
      have K1 := Lib.hid (Kept.of_only (B := w.heap.size) ho (Nat.le_refl _))
      have S1 := Lib.hid ho.size
      clear ho hr
      go_wp2
      go_ret2
      exact ⟨_, _, rfl, K1.out.trans (Kept.of_below ((Below.refl _ w1).alloc S1.out _)), _, _, rfl, heap_alloc_new _ _, S1.out, .inl rfl⟩
/-- a cell of a block -/
theorem cellAt {w : World} {q : Nat} {arr : Array Value} {t : TypeId} (h : w.heap[q]? = some (.cells arr t (0, 0))) (k : Nat) : w.cell? ⟨q, k, none⟩ = arr[k]? := by
  rw [cell_of_row _ _ _ _ _ _ h]
def uval (bs : List Nat) (r : QR) : Value := .tuple #[.string (strOf (uStr r)), .int .u16 ((uErr r : Nat) : Int), .int .i64 ((uPos bs r : Nat) : Int)]
theorem blk_lt {w : World} {q : Nat} {o : Obj} (h : w.heap[q]? = some o) : q < w.heap.size := (Array.getElem?_eq_some_iff.1 h).1
set_option maxRecDepth 100000 in
set_option maxHeartbeats 2000000 in
theorem unquote_fine (bs xs : List Nat) (p : Nat) (hB : IsB bs) (hl : bs.length ≤ 30000) (hr : IsQ bs (.ok xs p)) (hO : IsB xs) (w : World) :
    Calls Tryz.prog 150 #[.string (strOf bs)] w (Gives w (uval bs (.ok xs p))) := by
  have CQ := Lib.hid (fun (R : Nat) (w1 : World) (H : Rd w1 R bs 0) => quoted_any R w1.heap.size bs (.ok xs p) hB hl hr w1 rfl H)
  have CA := Lib.hid as_nil
  have HO := Lib.hid hO
  clear hB hO hr hl
  show Calls Tryz.prog 150 #[.string (strOf bs)] w (Gives w (.tuple #[.string (strOf xs), .int .u16 ((0 : Nat) : Int), .int .i64 ((p : Nat) : Int)]))
  go_enter Tryz.func150, Tryz.ntmps150
  go_wp2_with fail
  have HRD := Rd.laid w bs
  refine (CQ.out _ _ HRD).mono ?_
  rintro e w1 ⟨v, rfl, g1, g2, g3⟩
  have KO : ∀ o1 o2 : Obj, Below w1.heap.size w1 ((w1.alloc o1).alloc o2) := fun o1 o2 => ((Below.refl w1.heap.size w1).alloc (Nat.le_refl _) o1).alloc (by simp) o2
  have hcv : ∀ o1 o2 : Obj, (convert 83 9 v).run Tryz.prog ((w1.alloc o1).alloc o2) = .ok (.string (strOf xs)) ((w1.alloc o1).alloc o2) := fun o1 o2 => conv_own (g1.below (KO o1 o2)) HO.out
  have hcv2 : ∀ (o1 o2 : Obj) (k : Nat), (convert 83 9 v).run Tryz.prog (((w1.alloc o1).alloc o2).drewN k) = .ok (.string (strOf xs)) (((w1.alloc o1).alloc o2).drewN k) := fun o1 o2 k => conv_own (Own.below (w := w1) g1 (below_drewN (KO o1 o2) k)) HO.out
  have hcl : ∀ o1 o2 : Obj, ((w1.alloc o1).alloc o2).cell? ⟨w.heap.size, 1, none⟩ = some (.int .i64 ((p : Nat) : Int)) := fun o1 o2 => (g3.stay (KO o1 o2)).c1
  have BB := Lib.hid (Below.trans ((Below.refl w.heap.size w).alloc (Nat.le_refl _) _) (g2.below (B0 := w.heap.size) (by simp) (Nat.le_refl _)))
  have BK := Lib.hid KO
  clear g1 g2 g3 KO HRD
  go_wp2_with fail
  refine (CA.out _ _).mono ?_
  rintro e w2 ⟨rfl, rfl⟩
  go_wp2_with fail
  refine (CA.out _ _).mono ?_
  rintro e w3 ⟨rfl, rfl⟩
  go_wp2_with fail
  go_quiet (fail)
  go_wp2
  go_returns
  exact ⟨rfl, below_drewN (BB.out.trans ((BK.out _ _).mono BB.out.size)) nq⟩
theorem fresh_cell (w : World) (v : Value) (t : TypeId) : (w.alloc (.cells #[v] t)).cell? ⟨w.heap.size, 0, none⟩ = some v := by
  rw [World.cell?_alloc_at _ _ _ _ (by simp)]; rfl
theorem fresh_thaw (w : World) (v : Value) (t : TypeId) : (w.alloc (.cells #[v] t)).frozen? ⟨w.heap.size, 0, none⟩ = false := frozen_of_row _ _ _ _ _ (heap_alloc_new w _)
theorem zero_lt {w : World} {v : Value} (h : w.cell? ⟨1, 0, none⟩ = some v) : 1 < w.heap.size := by
  rcases Nat.lt_or_ge 1 w.heap.size with h1 | h1
  · exact h1
  · simp [World.cell?, Array.getElem?_eq_none h1] at h
theorem zero_alloc {w : World} {v : Value} (h : w.cell? ⟨1, 0, none⟩ = some v) (o : Obj) : (w.alloc o).cell? ⟨1, 0, none⟩ = some v :=
  (((Below.refl w.heap.size w).alloc (Nat.le_refl _) o).cell (p := ⟨1, 0, none⟩) (zero_lt h)).trans h
theorem alloc_stay (w : World) (o : Obj) : Below w.heap.size w (w.alloc o) := (Below.refl w.heap.size w).alloc (Nat.le_refl _) o
theorem FaultErr.stay {N a : Nat} {w w' : World} {x : Value} (h : FaultErr N w x a) (hb : Below w.heap.size w w') : FaultErr N w' x a := by
  obtain ⟨q, y, h1, h2, h3, h4⟩ := h
  exact ⟨q, y, h1, (hb.block q (blk_lt h2)).trans h2, h3, h4.imp id (fun k => k.stay hb)⟩
/-- what errors.As finds: an error that tells the end -/
theorem as_stop (n N : Nat) (x : Value) (w : World) (hg : w.cell? ⟨1, 0, none⟩ = some (rt 244)) (hx : StopErr N w x n) :
    Calls Tryz.prog 168 #[x, .iface 291 (.pointer (some ⟨w.heap.size, 0, none⟩))] (w.alloc (.cells #[.pointer none] 289)) fun ev w' => ev = .returned (.bool true) ∧ Below w.heap.size w w' ∧ ∃ q : Nat, w'.cell? ⟨w.heap.size, 0, none⟩ = some (.pointer (some ⟨q, 0, none⟩)) ∧ w'.cell? ⟨q, 0, none⟩ = some (.int .i64 ((n : Nat) : Int)) := by
  have low : ∀ w' : World, Only [w.heap.size] (w.alloc (.cells #[.pointer none] 289)) w' → Below w.heap.size w w' := fun w' ho => (alloc_stay w _).trans (ho.below (by simp) (by simp))
  have key : ∀ (q : Nat) (w' : World), Only [w.heap.size] (w.alloc (.cells #[.pointer none] 289)) w' → w.heap[q]? = some (.cells #[.int .i64 ((n : Nat) : Int)] 293 (0, 0)) → w'.cell? ⟨q, 0, none⟩ = some (.int .i64 ((n : Nat) : Int)) := by
    intro q w' ho hh
    exact (cellAt (((low w' ho).block q (blk_lt hh)).trans hh) 0).trans rfl
  rcases hx with ⟨q, rfl, hh, hq⟩ | ⟨p, y, a, rfl, hp, _, q, rfl, hh, hq⟩
  · refine (as_hit91 ⟨q, 0, none⟩ ⟨w.heap.size, 0, none⟩ (.pointer none) _ (zero_alloc hg _) (fresh_cell ..) (fresh_thaw ..)).mono ?_
    rintro e w' ⟨h1, h2, h3⟩
    exact ⟨h1, low w' h2, q, h3, key q w' h2 hh⟩
  · have hp2 := ((alloc_stay w (.cells #[.pointer none] 289)).block p (blk_lt hp)).trans hp
    refine (as_round6391 ⟨q, 0, none⟩ ⟨w.heap.size, 0, none⟩ p (.pointer none) _ ((cellAt hp2 2).trans rfl) (zero_alloc hg _) (fresh_cell ..) (fresh_thaw ..)).mono ?_
    rintro e w' ⟨h1, h2, h3⟩
    exact ⟨h1, low w' h2, q, h3, key q w' h2 hh⟩
/-- .. not an error that tells what is wrong -/
theorem as_fault (a N : Nat) (x : Value) (w : World) (hg : w.cell? ⟨1, 0, none⟩ = some (rt 244)) (hx : FaultErr N w x a) :
    Calls Tryz.prog 168 #[x, .iface 291 (.pointer (some ⟨w.heap.size, 0, none⟩))] (w.alloc (.cells #[.pointer none] 289)) fun ev w' => ev = .returned (.bool false) ∧ Below (w.alloc (.cells #[.pointer none] 289)).heap.size (w.alloc (.cells #[.pointer none] 289)) w' := by
  obtain ⟨p, y, rfl, hp, _, hy⟩ := hx
  have hp2 := ((alloc_stay w (.cells #[.pointer none] 289)).block p (blk_lt hp)).trans hp
  rcases hy with rfl | rfl | ⟨q, b, rfl, hq, _⟩
  · exact as_round63 _ p _ (zero_alloc hg _) ((cellAt hp2 2).trans rfl) (fresh_cell ..)
  · exact as_round28 _ p _ (zero_alloc hg _) 42 ((cellAt hp2 2).trans rfl) (fresh_cell ..)
  · have hq2 := ((alloc_stay w (.cells #[.pointer none] 289)).block q (blk_lt hq)).trans hq
    exact as_round6363 _ p q _ (zero_alloc hg _) ((cellAt hp2 2).trans rfl) ((cellAt hq2 2).trans rfl) (fresh_cell ..)
/-- .. and this one finds it -/
theorem as_found (a N : Nat) (x : Value) (w : World) (hg : w.cell? ⟨1, 0, none⟩ = some (rt 244)) (hx : FaultErr N w x a) :
    Calls Tryz.prog 168 #[x, .iface 295 (.pointer (some ⟨w.heap.size, 0, none⟩))] (w.alloc (.cells #[.pointer none] 294)) fun ev w' => ev = .returned (.bool true) ∧ Below w.heap.size w w' ∧ ∃ q : Nat, w'.cell? ⟨w.heap.size, 0, none⟩ = some (.pointer (some ⟨q, 0, none⟩)) ∧ w'.cell? ⟨q, 0, none⟩ = some (.int .u16 42) ∧ w'.cell? ⟨q, 1, none⟩ = some (.int .i64 ((a : Nat) : Int)) := by
  obtain ⟨p, y, rfl, hp, _, hy⟩ := hx
  have low : ∀ w' : World, Only [w.heap.size] (w.alloc (.cells #[.pointer none] 294)) w' → Below w.heap.size w w' := fun w' ho => (alloc_stay w _).trans (ho.below (by simp) (by simp))
  refine (as_hit63 ⟨p, 0, none⟩ ⟨w.heap.size, 0, none⟩ (.pointer none) _ (zero_alloc hg _) (fresh_cell ..) (fresh_thaw ..)).mono ?_
  rintro e w' ⟨h1, h2, h3⟩
  have hh := ((low w' h2).block p (blk_lt hp)).trans hp
  exact ⟨h1, low w' h2, p, h3, (cellAt hh 0).trans rfl, (cellAt hh 1).trans rfl⟩
theorem stop_iface {N n : Nat} {w : World} {x : Value} (h : StopErr N w x n) : ∃ t p, x = .iface t p := by
  rcases h with ⟨q, h1, _⟩ | ⟨q, y, a, h1, _⟩
  · exact ⟨_, _, h1⟩
  · exact ⟨_, _, h1⟩
set_option maxRecDepth 100000 in
set_option maxHeartbeats 2000000 in
theorem unquote_stop (bs : List Nat) (hB : IsB bs) (hl : bs.length ≤ 30000) (hr : IsQ bs .ended) (w : World) (hg : w.cell? ⟨1, 0, none⟩ = some (rt 244)) :
    Calls Tryz.prog 150 #[.string (strOf bs)] w (Gives w (uval bs .ended)) := by
  have CQ := Lib.hid (fun (w1 : World) (h1 : w1.heap.size = w.heap.size + 1) (H : Rd w1 w.heap.size bs 0) => quoted_any w.heap.size (w.heap.size + 1) bs .ended hB hl hr w1 h1 H)
  have hg0 : 1 < w.heap.size := by
    rcases Nat.lt_or_ge 1 w.heap.size with h | h
    · exact h
    · simp [World.cell?, Array.getElem?_eq_none h] at hg
  have HG := Lib.hid hg
  have HG0 := Lib.hid hg0
  clear hB hr hl hg hg0
  show Calls Tryz.prog 150 #[.string (strOf bs)] w (Gives w (.tuple #[.string { data := #[] }, .int .u16 ((42 : Nat) : Int), .int .i64 ((bs.length : Nat) : Int)]))
  obtain ⟨L, hL⟩ : ∃ L, bs.length = L := ⟨_, rfl⟩
  have HL := Lib.hid hL
  rw [hL]
  clear hL
  go_enter Tryz.func150, Tryz.ntmps150
  go_wp2_with fail
  refine (CQ.out _ (by simp) (Rd.laid w bs)).mono ?_
  rintro e w1 ⟨v, x, rfl, g2, g3⟩
  rw [HL.out] at g3
  have BB := Lib.hid (Below.trans (alloc_stay w _) (g2.below (B0 := w.heap.size) (by simp) (Nat.le_refl _)))
  have hg1 : w1.cell? ⟨1, 0, none⟩ = some (rt 244) := (BB.out.cell (p := ⟨1, 0, none⟩) HG0.out).trans HG.out
  have CA := Lib.hid (as_stop L _ x w1 hg1 g3)
  clear g2 g3 hg1
  go_wp2_with fail
  refine CA.out.mono ?_
  rintro e w2 ⟨rfl, hb, q, h1, h2⟩
  have B2 := Lib.hid (BB.out.trans (hb.mono BB.out.size))
  clear hb
  go_wp2_with fail
  go_quiet (fail)
  go_wp2
  go_returns
  exact ⟨rfl, below_drewN B2.out nq⟩
set_option maxRecDepth 100000 in
set_option maxHeartbeats 2000000 in
theorem unquote_fault (bs : List Nat) (a : Nat) (hB : IsB bs) (hl : bs.length ≤ 30000) (hr : IsQ bs (.fault a)) (w : World) (hg : w.cell? ⟨1, 0, none⟩ = some (rt 244)) :
    Calls Tryz.prog 150 #[.string (strOf bs)] w (Gives w (uval bs (.fault a))) := by
  have CQ := Lib.hid (fun (w1 : World) (h1 : w1.heap.size = w.heap.size + 1) (H : Rd w1 w.heap.size bs 0) => quoted_any w.heap.size (w.heap.size + 1) bs (.fault a) hB hl hr w1 h1 H)
  have hg0 : 1 < w.heap.size := by
    rcases Nat.lt_or_ge 1 w.heap.size with h | h
    · exact h
    · simp [World.cell?, Array.getElem?_eq_none h] at hg
  have HG := Lib.hid hg
  have HG0 := Lib.hid hg0
  clear hB hr hl hg hg0
  show Calls Tryz.prog 150 #[.string (strOf bs)] w (Gives w (.tuple #[.string { data := #[] }, .int .u16 ((42 : Nat) : Int), .int .i64 ((a : Nat) : Int)]))
  go_enter Tryz.func150, Tryz.ntmps150
  go_wp2_with fail
  refine (CQ.out _ (by simp) (Rd.laid w bs)).mono ?_
  rintro e w1 ⟨v, x, rfl, g2, g3⟩
  have BB := Lib.hid (Below.trans (alloc_stay w _) (g2.below (B0 := w.heap.size) (by simp) (Nat.le_refl _)))
  have hg1 : w1.cell? ⟨1, 0, none⟩ = some (rt 244) := (BB.out.cell (p := ⟨1, 0, none⟩) HG0.out).trans HG.out
  have CA := Lib.hid (as_fault a _ x w1 hg1 g3)
  have G3 := Lib.hid (g3.stay (alloc_stay w1 (.cells #[.pointer none] 289)))
  have HG1 := Lib.hid hg1
  clear g2 g3 hg1
  go_wp2_with fail
  refine CA.out.mono ?_
  rintro e w2 ⟨rfl, hb⟩
  have B2 := Lib.hid (BB.out.trans (((alloc_stay w1 _).trans (hb.mono (by simp))).mono BB.out.size))
  have hg2 : w2.cell? ⟨1, 0, none⟩ = some (rt 244) := (B2.out.cell (p := ⟨1, 0, none⟩) HG0.out).trans HG.out
  have CF := Lib.hid (as_found a _ x w2 hg2 (G3.out.stay hb))
  clear hb hg2
  go_wp2_with fail
  refine CF.out.mono ?_
  rintro e w3 ⟨rfl, hb, q, h1, h2, h3⟩
  have B3 := Lib.hid (B2.out.trans (hb.mono B2.out.size))
  clear hb
  go_wp2_with fail
  go_quiet (fail)
  go_wp2
  go_returns
  exact ⟨rfl, below_drewN B3.out nq⟩
theorem unquote_any (bs : List Nat) (r : QR) (hB : IsB bs) (hl : bs.length ≤ 30000) (hr : IsQ bs r) (w : World) (hg : w.cell? ⟨1, 0, none⟩ = some (rt 244)) :
    Calls Tryz.prog 150 #[.string (strOf bs)] w (Gives w (uval bs r)) := by
  cases r with
  | ok xs p =>
    refine unquote_fine bs xs p hB hl hr ?_ w
    unfold IsQ at hr
    cases hc : bs[0]? with
    | none => rw [hc] at hr; cases hr
    | some q =>
      rw [hc] at hr
      by_cases hq : q = 34 ∨ q = 39 ∨ q = 96
      · simp only [if_pos hq] at hr
        exact (hr.isB hB IsB.nil xs p rfl).1
      · simp only [if_neg hq] at hr
        cases hr
  | fault a => exact unquote_fault bs a hB hl hr w hg
  | ended => exact unquote_stop bs hB hl hr w hg
end Go.Proofs.YtiolghcjndoigaaGreatDoor
namespace Go.Proofs.YtiolghcjndoigaaGreatDoor
set_option linter.unusedVariables false
set_option linter.unusedSimpArgs false
open Go.RowKit Go.PlainAid
theorem rdigit_any (c : Nat) (hc : c < 256) (w : World) : Calls Tryz.prog 185 #[.int .u8 (c : Int)] w fun e w' => e = .returned (.bool (decide (48 ≤ c) && decide (c ≤ 57))) ∧ w' = w := by
  have d1 : decide ((c : Int) ≥ 48) = decide (48 ≤ c) := by congr 1; exact propext (by omega)
  have d3 : decide ((48 : Int) ≤ (c : Int)) = decide (48 ≤ c) := d1
  have d2 : decide ((c : Int) ≤ 57) = decide (c ≤ 57) := by congr 1; exact propext (by omega)
  obtain ⟨x, hx⟩ : ∃ x, decide (48 ≤ c) = x := ⟨_, rfl⟩
  obtain ⟨y, hy⟩ : ∃ y, decide (c ≤ 57) = y := ⟨_, rfl⟩
  rw [hx] at d1 d3 ⊢
  rw [hy] at d2 ⊢
  clear hx hy
  cases x
  · go_enter Tryz.func185, Tryz.ntmps185
    go_wp2
    go_ret
    exact ⟨rfl, rfl⟩
  · cases y
    · go_enter Tryz.func185, Tryz.ntmps185
      go_wp2
      go_ret
      exact ⟨rfl, rfl⟩
    · go_enter Tryz.func185, Tryz.ntmps185
      go_wp2
      go_ret
      exact ⟨rfl, rfl⟩
/-- a hex digit's value; -1 -/
def hexI (c : Nat) : Int := if hexV c < 16 then (hexV c : Int) else -1
set_option maxHeartbeats 1000000 in
theorem rhex_any (c : Nat) (hc : c < 256) (w : World) : Calls Tryz.prog 170 #[.int .u8 (c : Int)] w fun e w' => e = .returned (.int .i64 (hexI c)) ∧ w' = w := by
  have CD := Lib.hid (fun w => rdigit_any c hc w)
  unfold hexI
  by_cases h1 : 48 ≤ c ∧ c ≤ 57
  · have hv : hexV c = c - 48 := by unfold hexV; rw [if_pos h1]
    rw [hv, if_pos (by omega)]
    rw [decide_eq_true h1.1, decide_eq_true h1.2] at CD
    have e1 : IntKind.u8.wrap ((c : Int) - 48) = ((c - 48 : Nat) : Int) := by rw [IntKind.wrap_u8]; omega
    have e2 : IntKind.i64.wrap ((c - 48 : Nat) : Int) = ((c - 48 : Nat) : Int) := by rw [IntKind.wrap_i64]; omega
    obtain ⟨d, hd⟩ : ∃ d, c - 48 = d := ⟨_, rfl⟩
    rw [hd] at e1 e2 ⊢
    clear h1 hd hv
    go_enter Tryz.func170, Tryz.ntmps170
    go_wp2_with fail
    refine (CD.out _).mono ?_
    rintro e w1 ⟨rfl, rfl⟩
    go_wp2
    go_ret
    exact ⟨rfl, rfl⟩
  · have hf : (decide (48 ≤ c) && decide (c ≤ 57)) = false := by simp; omega
    rw [hf] at CD
    by_cases h2 : 97 ≤ c ∧ c ≤ 102
    · have hv : hexV c = c - 87 := by unfold hexV; rw [if_neg h1, if_pos h2]
      rw [hv, if_pos (by omega)]
      have d1a : decide ((c : Int) ≥ 97) = true := decide_eq_true (by omega)
      have d1b : decide ((97 : Int) ≤ (c : Int)) = true := decide_eq_true (by omega)
      have d1c : decide (97 ≤ c) = true := decide_eq_true (by omega)
      have d2a : decide ((c : Int) ≤ 102) = true := decide_eq_true (by omega)
      have d2c : decide (c ≤ 102) = true := decide_eq_true (by omega)
      have e1 : IntKind.u8.wrap ((c : Int) - 97) = ((c - 97 : Nat) : Int) := by rw [IntKind.wrap_u8]; omega
      have e2 : IntKind.i64.wrap ((c - 97 : Nat) : Int) = ((c - 97 : Nat) : Int) := by rw [IntKind.wrap_i64]; omega
      have e3 : IntKind.i64.wrap (((c - 97 : Nat) : Int) + 10) = ((c - 87 : Nat) : Int) := by rw [IntKind.wrap_i64]; omega
      obtain ⟨d, hd⟩ : ∃ d, c - 97 = d := ⟨_, rfl⟩
      obtain ⟨f, hf⟩ : ∃ d, c - 87 = d := ⟨_, rfl⟩
      rw [hd] at e1 e2 e3
      rw [hf] at e3 ⊢
      clear h1 hd hf h2 hv
      go_enter Tryz.func170, Tryz.ntmps170
      go_wp2_with fail
      refine (CD.out _).mono ?_
      rintro e w1 ⟨rfl, rfl⟩
      go_wp2
      go_ret
      exact ⟨rfl, rfl⟩
    · by_cases h3 : 65 ≤ c ∧ c ≤ 70
      · have hv : hexV c = c - 55 := by unfold hexV; rw [if_neg h1, if_neg h2, if_pos h3]
        rw [hv, if_pos (by omega)]
        have d1a : decide ((c : Int) ≥ 97) = false := decide_eq_false (by omega)
        have d1b : decide ((97 : Int) ≤ (c : Int)) = false := decide_eq_false (by omega)
        have d1c : decide (97 ≤ c) = false := decide_eq_false (by omega)
        have d3a : decide ((c : Int) ≥ 65) = true := decide_eq_true (by omega)
        have d3b : decide ((65 : Int) ≤ (c : Int)) = true := decide_eq_true (by omega)
        have d3c : decide (65 ≤ c) = true := decide_eq_true (by omega)
        have d4a : decide ((c : Int) ≤ 70) = true := decide_eq_true (by omega)
        have d4c : decide (c ≤ 70) = true := decide_eq_true (by omega)
        have e1 : IntKind.u8.wrap ((c : Int) - 65) = ((c - 65 : Nat) : Int) := by rw [IntKind.wrap_u8]; omega
        have e2 : IntKind.i64.wrap ((c - 65 : Nat) : Int) = ((c - 65 : Nat) : Int) := by rw [IntKind.wrap_i64]; omega
        have e3 : IntKind.i64.wrap (((c - 65 : Nat) : Int) + 10) = ((c - 55 : Nat) : Int) := by rw [IntKind.wrap_i64]; omega
        obtain ⟨d, hd⟩ : ∃ d, c - 65 = d := ⟨_, rfl⟩
        obtain ⟨f, hf⟩ : ∃ d, c - 55 = d := ⟨_, rfl⟩
        rw [hd] at e1 e2 e3
        rw [hf] at e3 ⊢
        clear h1 hd hf h2 h3 hv
        go_enter Tryz.func170, Tryz.ntmps170
        go_wp2_with fail
        refine (CD.out _).mono ?_
        rintro e w1 ⟨rfl, rfl⟩
        go_wp2
        go_ret
        exact ⟨rfl, rfl⟩
      · have hv : hexV c = 16 := by unfold hexV; rw [if_neg h1, if_neg h2, if_neg h3]
        rw [hv, if_neg (by decide)]
        clear h1 hv
        by_cases g1 : 97 ≤ c
        · have d1a : decide ((c : Int) ≥ 97) = true := decide_eq_true (by omega)
          have d1b : decide ((97 : Int) ≤ (c : Int)) = true := decide_eq_true (by omega)
          have d1c : decide (97 ≤ c) = true := decide_eq_true (by omega)
          have d2a : decide ((c : Int) ≤ 102) = false := decide_eq_false (by omega)
          have d2c : decide (c ≤ 102) = false := decide_eq_false (by omega)
          have d3a : decide ((c : Int) ≥ 65) = true := decide_eq_true (by omega)
          have d3b : decide ((65 : Int) ≤ (c : Int)) = true := decide_eq_true (by omega)
          have d3c : decide (65 ≤ c) = true := decide_eq_true (by omega)
          have d4a : decide ((c : Int) ≤ 70) = false := decide_eq_false (by omega)
          have d4c : decide (c ≤ 70) = false := decide_eq_false (by omega)
          clear h2 h3 g1
          go_enter Tryz.func170, Tryz.ntmps170
          go_wp2_with fail
          refine (CD.out _).mono ?_
          rintro e w1 ⟨rfl, rfl⟩
          go_wp2
          go_ret
          exact ⟨rfl, rfl⟩
        · by_cases g3 : 65 ≤ c
          · have d1a : decide ((c : Int) ≥ 97) = false := decide_eq_false (by omega)
            have d1b : decide ((97 : Int) ≤ (c : Int)) = false := decide_eq_false (by omega)
            have d1c : decide (97 ≤ c) = false := decide_eq_false (by omega)
            have d3a : decide ((c : Int) ≥ 65) = true := decide_eq_true (by omega)
            have d3b : decide ((65 : Int) ≤ (c : Int)) = true := decide_eq_true (by omega)
            have d3c : decide (65 ≤ c) = true := decide_eq_true (by omega)
            have d4a : decide ((c : Int) ≤ 70) = false := decide_eq_false (by omega)
            have d4c : decide (c ≤ 70) = false := decide_eq_false (by omega)
            clear h2 h3 g1 g3
            go_enter Tryz.func170, Tryz.ntmps170
            go_wp2_with fail
            refine (CD.out _).mono ?_
            rintro e w1 ⟨rfl, rfl⟩
            go_wp2
            go_ret
            exact ⟨rfl, rfl⟩
          · have d1a : decide ((c : Int) ≥ 97) = false := decide_eq_false (by omega)
            have d1b : decide ((97 : Int) ≤ (c : Int)) = false := decide_eq_false (by omega)
            have d1c : decide (97 ≤ c) = false := decide_eq_false (by omega)
            have d3a : decide ((c : Int) ≥ 65) = false := decide_eq_false (by omega)
            have d3b : decide ((65 : Int) ≤ (c : Int)) = false := decide_eq_false (by omega)
            have d3c : decide (65 ≤ c) = false := decide_eq_false (by omega)
            clear h2 h3 g1 g3
            go_enter Tryz.func170, Tryz.ntmps170
            go_wp2_with fail
            refine (CD.out _).mono ?_
            rintro e w1 ⟨rfl, rfl⟩
            go_wp2
            go_ret
            exact ⟨rfl, rfl⟩
def simpleI (c : Nat) : Int := match simpleV c with | some v => (v : Int) | none => -1
set_option maxHeartbeats 1000000 in
theorem rsimple_any (c : Nat) (hc : c < 256) (w : World) : Calls Tryz.prog 169 #[.int .u8 (c : Int)] w fun e w' => e = .returned (.int .i64 (simpleI c)) ∧ w' = w := by
  unfold simpleI
  cases hs : simpleV c with
  | some v =>
    have hcs := simple_cases hs
    clear hs hc
    rcases hcs with ⟨rfl, rfl⟩ | ⟨rfl, rfl⟩ | ⟨rfl, rfl⟩ | ⟨rfl, rfl⟩ | ⟨rfl, rfl⟩ | ⟨rfl, rfl⟩ | ⟨rfl, rfl⟩ | ⟨rfl, rfl⟩ | ⟨rfl, rfl⟩ | ⟨rfl, rfl⟩
    all_goals
      go_enter Tryz.func169, Tryz.ntmps169
      go_wp2
      go_ret
      exact ⟨rfl, rfl⟩
  | none =>
    have hsn : c ≠ 92 ∧ c ≠ 39 ∧ c ≠ 34 ∧ c ≠ 97 ∧ c ≠ 98 ∧ c ≠ 102 ∧ c ≠ 110 ∧ c ≠ 114 ∧ c ≠ 116 ∧ c ≠ 118 := by
      unfold simpleV at hs
      repeat' split at hs
      all_goals (try cases hs)
      all_goals omega
    have t92 : ((c : Int) == 92) = false := by simp; omega
    have t39 : ((c : Int) == 39) = false := by simp; omega
    have t34 : ((c : Int) == 34) = false := by simp; omega
    have t97 : ((c : Int) == 97) = false := by simp; omega
    have t98 : ((c : Int) == 98) = false := by simp; omega
    have t102 : ((c : Int) == 102) = false := by simp; omega
    have t110 : ((c : Int) == 110) = false := by simp; omega
    have t114 : ((c : Int) == 114) = false := by simp; omega
    have t116 : ((c : Int) == 116) = false := by simp; omega
    have t118 : ((c : Int) == 118) = false := by simp; omega
    clear hs hsn hc
    go_enter Tryz.func169, Tryz.ntmps169
    go_wp2
    go_ret
    exact ⟨rfl, rfl⟩
theorem laid_own (W : World) (ds : List Nat) (hl : ds.length ≤ 100) : Own (W.alloc (.cells (cellsOf ds).toArray 5)) W.heap.size (.slice (some ⟨W.heap.size, 0, none⟩) ds.length ds.length) ds :=
  Own.laid W ds (by unfold maxLen; omega) W.heap.size (Nat.le_refl _)
set_option maxHeartbeats 1000000 in
theorem rutf8_any (n : Nat) (hn : n ≤ 1114111) (w : World) : Calls Tryz.prog 171 #[.int .i64 (n : Int)] w fun e w' => ∃ v, e = .returned v ∧ Own w' w.heap.size v (utf8L n) ∧ Below w.heap.size w w' := by
  have BB := fun o : Obj => (Below.refl w.heap.size w).alloc (Nat.le_refl _) o
  by_cases h0 : n < 128
  · have c128a : decide ((n : Int) < 128) = true := decide_eq_true (by omega)
    have c128b : decide (n < 128) = true := decide_eq_true (by omega)
    have hu : utf8L n = [n] := by unfold utf8L; rw [if_pos h0]
    rw [hu]
    have e1 : IntKind.u8.wrap (n : Int) = (n : Int) := by rw [IntKind.wrap_u8]; omega
    have HW := Lib.hid (laid_own w [n] (by simp))
    have HBB := Lib.hid BB
    clear hu BB h0
    go_enter Tryz.func171, Tryz.ntmps171
    go_wp2
    go_ret
    exact ⟨_, rfl, HW.out, HBB.out _⟩
  by_cases h1 : n < 2048
  · have c128a : decide ((n : Int) < 128) = false := decide_eq_false (by omega)
    have c128b : decide (n < 128) = false := decide_eq_false (by omega)
    have c2048a : decide ((n : Int) < 2048) = true := decide_eq_true (by omega)
    have c2048b : decide (n < 2048) = true := decide_eq_true (by omega)
    obtain ⟨d0, hd0⟩ : ∃ d, n / 64 = d := ⟨_, rfl⟩
    have q0 : (n : Int) / 64 = (d0 : Int) := by omega
    have w0 : IntKind.i64.wrap (d0 : Int) = (d0 : Int) := by rw [IntKind.wrap_i64]; omega
    obtain ⟨p0, hp0⟩ : ∃ d, 192 + d0 = d := ⟨_, rfl⟩
    have a0 : IntKind.i64.wrap (192 + (d0 : Int)) = (p0 : Int) := by rw [IntKind.wrap_i64]; omega
    have b0 : IntKind.u8.wrap (p0 : Int) = (p0 : Int) := by rw [IntKind.wrap_u8]; omega
    obtain ⟨r1, hr1⟩ : ∃ d, n % 64 = d := ⟨_, rfl⟩
    have z1 : (n : Int) % 64 = (r1 : Int) := by omega
    obtain ⟨p1, hp1⟩ : ∃ d, 128 + r1 = d := ⟨_, rfl⟩
    have a1 : IntKind.i64.wrap (128 + (r1 : Int)) = (p1 : Int) := by rw [IntKind.wrap_i64]; omega
    have b1 : IntKind.u8.wrap (p1 : Int) = (p1 : Int) := by rw [IntKind.wrap_u8]; omega
    have hu : utf8L n = [p0, p1] := by unfold utf8L; rw [if_neg h0, if_pos h1]; subst hp1 hr1 hp0 hd0; rfl
    rw [hu]
    have HW := Lib.hid (laid_own w [p0, p1] (by simp))
    have HBB := Lib.hid BB
    clear hu hd0 hp0 hr1 hp1 BB h0 h1
    go_enter Tryz.func171, Tryz.ntmps171
    go_wp2
    go_ret
    exact ⟨_, rfl, HW.out, HBB.out _⟩
  by_cases h2 : n < 65536
  · have c128a : decide ((n : Int) < 128) = false := decide_eq_false (by omega)
    have c128b : decide (n < 128) = false := decide_eq_false (by omega)
    have c2048a : decide ((n : Int) < 2048) = false := decide_eq_false (by omega)
    have c2048b : decide (n < 2048) = false := decide_eq_false (by omega)
    have c65536a : decide ((n : Int) < 65536) = true := decide_eq_true (by omega)
    have c65536b : decide (n < 65536) = true := decide_eq_true (by omega)
    obtain ⟨d0, hd0⟩ : ∃ d, n / 4096 = d := ⟨_, rfl⟩
    have q0 : (n : Int) / 4096 = (d0 : Int) := by omega
    have w0 : IntKind.i64.wrap (d0 : Int) = (d0 : Int) := by rw [IntKind.wrap_i64]; omega
    obtain ⟨p0, hp0⟩ : ∃ d, 224 + d0 = d := ⟨_, rfl⟩
    have a0 : IntKind.i64.wrap (224 + (d0 : Int)) = (p0 : Int) := by rw [IntKind.wrap_i64]; omega
    have b0 : IntKind.u8.wrap (p0 : Int) = (p0 : Int) := by rw [IntKind.wrap_u8]; omega
    obtain ⟨d1, hd1⟩ : ∃ d, n / 64 = d := ⟨_, rfl⟩
    have q1 : (n : Int) / 64 = (d1 : Int) := by omega
    have w1 : IntKind.i64.wrap (d1 : Int) = (d1 : Int) := by rw [IntKind.wrap_i64]; omega
    obtain ⟨r1, hr1⟩ : ∃ d, d1 % 64 = d := ⟨_, rfl⟩
    have z1 : (d1 : Int) % 64 = (r1 : Int) := by omega
    obtain ⟨p1, hp1⟩ : ∃ d, 128 + r1 = d := ⟨_, rfl⟩
    have a1 : IntKind.i64.wrap (128 + (r1 : Int)) = (p1 : Int) := by rw [IntKind.wrap_i64]; omega
    have b1 : IntKind.u8.wrap (p1 : Int) = (p1 : Int) := by rw [IntKind.wrap_u8]; omega
    obtain ⟨r2, hr2⟩ : ∃ d, n % 64 = d := ⟨_, rfl⟩
    have z2 : (n : Int) % 64 = (r2 : Int) := by omega
    obtain ⟨p2, hp2⟩ : ∃ d, 128 + r2 = d := ⟨_, rfl⟩
    have a2 : IntKind.i64.wrap (128 + (r2 : Int)) = (p2 : Int) := by rw [IntKind.wrap_i64]; omega
    have b2 : IntKind.u8.wrap (p2 : Int) = (p2 : Int) := by rw [IntKind.wrap_u8]; omega
    have hu : utf8L n = [p0, p1, p2] := by unfold utf8L; rw [if_neg h0, if_neg h1, if_pos h2]; subst hp2 hr2 hp1 hr1 hd1 hp0 hd0; rfl
    rw [hu]
    have HW := Lib.hid (laid_own w [p0, p1, p2] (by simp))
    have HBB := Lib.hid BB
    clear hu hd0 hp0 hd1 hr1 hp1 hr2 hp2 BB h0 h1 h2
    go_enter Tryz.func171, Tryz.ntmps171
    go_wp2
    go_ret
    exact ⟨_, rfl, HW.out, HBB.out _⟩
  · have c128a : decide ((n : Int) < 128) = false := decide_eq_false (by omega)
    have c128b : decide (n < 128) = false := decide_eq_false (by omega)
    have c2048a : decide ((n : Int) < 2048) = false := decide_eq_false (by omega)
    have c2048b : decide (n < 2048) = false := decide_eq_false (by omega)
    have c65536a : decide ((n : Int) < 65536) = false := decide_eq_false (by omega)
    have c65536b : decide (n < 65536) = false := decide_eq_false (by omega)
    obtain ⟨d0, hd0⟩ : ∃ d, n / 262144 = d := ⟨_, rfl⟩
    have q0 : (n : Int) / 262144 = (d0 : Int) := by omega
    have w0 : IntKind.i64.wrap (d0 : Int) = (d0 : Int) := by rw [IntKind.wrap_i64]; omega
    obtain ⟨p0, hp0⟩ : ∃ d, 240 + d0 = d := ⟨_, rfl⟩
    have a0 : IntKind.i64.wrap (240 + (d0 : Int)) = (p0 : Int) := by rw [IntKind.wrap_i64]; omega
    have b0 : IntKind.u8.wrap (p0 : Int) = (p0 : Int) := by rw [IntKind.wrap_u8]; omega
    obtain ⟨d1, hd1⟩ : ∃ d, n / 4096 = d := ⟨_, rfl⟩
    have q1 : (n : Int) / 4096 = (d1 : Int) := by omega
    have w1 : IntKind.i64.wrap (d1 : Int) = (d1 : Int) := by rw [IntKind.wrap_i64]; omega
    obtain ⟨r1, hr1⟩ : ∃ d, d1 % 64 = d := ⟨_, rfl⟩
    have z1 : (d1 : Int) % 64 = (r1 : Int) := by omega
    obtain ⟨p1, hp1⟩ : ∃ d, 128 + r1 = d := ⟨_, rfl⟩
    have a1 : IntKind.i64.wrap (128 + (r1 : Int)) = (p1 : Int) := by rw [IntKind.wrap_i64]; omega
    have b1 : IntKind.u8.wrap (p1 : Int) = (p1 : Int) := by rw [IntKind.wrap_u8]; omega
    obtain ⟨d2, hd2⟩ : ∃ d, n / 64 = d := ⟨_, rfl⟩
    have q2 : (n : Int) / 64 = (d2 : Int) := by omega
    have w2 : IntKind.i64.wrap (d2 : Int) = (d2 : Int) := by rw [IntKind.wrap_i64]; omega
    obtain ⟨r2, hr2⟩ : ∃ d, d2 % 64 = d := ⟨_, rfl⟩
    have z2 : (d2 : Int) % 64 = (r2 : Int) := by omega
    obtain ⟨p2, hp2⟩ : ∃ d, 128 + r2 = d := ⟨_, rfl⟩
    have a2 : IntKind.i64.wrap (128 + (r2 : Int)) = (p2 : Int) := by rw [IntKind.wrap_i64]; omega
    have b2 : IntKind.u8.wrap (p2 : Int) = (p2 : Int) := by rw [IntKind.wrap_u8]; omega
    obtain ⟨r3, hr3⟩ : ∃ d, n % 64 = d := ⟨_, rfl⟩
    have z3 : (n : Int) % 64 = (r3 : Int) := by omega
    obtain ⟨p3, hp3⟩ : ∃ d, 128 + r3 = d := ⟨_, rfl⟩
    have a3 : IntKind.i64.wrap (128 + (r3 : Int)) = (p3 : Int) := by rw [IntKind.wrap_i64]; omega
    have b3 : IntKind.u8.wrap (p3 : Int) = (p3 : Int) := by rw [IntKind.wrap_u8]; omega
    have hu : utf8L n = [p0, p1, p2, p3] := by unfold utf8L; rw [if_neg h0, if_neg h1, if_neg h2]; subst hp3 hr3 hp2 hr2 hd2 hp1 hr1 hd1 hp0 hd0; rfl
    rw [hu]
    have HW := Lib.hid (laid_own w [p0, p1, p2, p3] (by simp))
    have HBB := Lib.hid BB
    clear hu hd0 hp0 hd1 hr1 hp1 hd2 hr2 hp2 hr3 hp3 BB h0 h1 h2
    go_enter Tryz.func171, Tryz.ntmps171
    go_wp2
    go_ret
    exact ⟨_, rfl, HW.out, HBB.out _⟩
end Go.Proofs.YtiolghcjndoigaaGreatDoor
namespace Go.Proofs.YtiolghcjndoigaaGreatDoor
set_option linter.unusedVariables false
set_option linter.unusedSimpArgs false
open Go.RowKit Go.PlainAid
def RescPost (p : Nat) (w : World) : EscR → Ending → World → Prop
  | .ok xs p', e, w' => ∃ (v : Value) (d : Nat), e = .returned (.tuple #[v, .int .i64 ((d : Nat) : Int), .int .i64 0]) ∧ p + d = p' ∧ Own w' w.heap.size v xs ∧ Below w.heap.size w w'
  | .bad, e, w' => e = .returned (.tuple #[.slice none 0 0, .int .i64 0, .int .i64 1]) ∧ Below w.heap.size w w'
  | .ends, e, w' => e = .returned (.tuple #[.slice none 0 0, .int .i64 0, .int .i64 2]) ∧ Below w.heap.size w w'
theorem digsN_none {bs : List Nat} {base n p v : Nat} (h : bs[p]? = none) : digsN bs base (n + 1) p v = .ends := by rw [digsN, h]
theorem digsN_some {bs : List Nat} {base n p v c : Nat} (h : bs[p]? = some c) : digsN bs base (n + 1) p v = if hexV c < base then digsN bs base n (p + 1) (v * base + hexV c) else .bad := by rw [digsN, h]
theorem hexI_good {c h : Nat} (hh : hexV c = h) (hlt : h < 16) : hexI c = (h : Int) := by unfold hexI; rw [hh, if_pos hlt]
theorem hexI_none {c : Nat} (hh : ¬ hexV c < 16) : hexI c = -1 := by unfold hexI; rw [if_neg hh]
theorem simpleI_none {c : Nat} (h : simpleV c = none) : simpleI c = -1 := by unfold simpleI; rw [h]
theorem simpleI_some {c v : Nat} (h : simpleV c = some v) : simpleI c = (v : Int) := by unfold simpleI; rw [h]
set_option maxHeartbeats 1000000 in
theorem resc_none (bs : List Nat) (p : Nat) (hl : bs.length ≤ 30000) (hp : p ≤ 30001) (hc : bs[p]? = none) (w : World) : Calls Tryz.prog 151 #[.string (strOf bs), .int .i64 (p : Int)] w (RescPost p w .ends) := by
  have hsz := strOf_size bs
  have hge := List.getElem?_eq_none_iff.1 hc
  obtain ⟨L, hL⟩ : ∃ L, bs.length = L := ⟨_, rfl⟩
  rw [hL] at hsz hl hge
  have d1 : decide ((p : Int) ≥ (L : Int)) = true := decide_eq_true (by omega)
  have d2 : decide ((L : Int) ≤ (p : Int)) = true := decide_eq_true (by omega)
  have d3 : decide (L ≤ p) = true := decide_eq_true (by omega)
  clear hL hc hge
  go_enter Tryz.func151, Tryz.ntmps151
  go_wp2
  go_returns
  exact ⟨rfl, Below.refl _ _⟩
set_option maxHeartbeats 1000000 in
theorem resc_simple (bs : List Nat) (p c v : Nat) (hB : IsB bs) (hl : bs.length ≤ 30000) (hc : bs[p]? = some c) (hs : simpleV c = some v) (w : World) : Calls Tryz.prog 151 #[.string (strOf bs), .int .i64 (p : Int)] w (RescPost p w (.ok [v] (p + 1))) := by
  have hsz := strOf_size bs
  have hbt := get_bt (strOf bs)
  obtain ⟨hlt, hce⟩ := List.getElem?_eq_some_iff.1 hc
  have hb0 := strOf_bt bs hB p hlt
  rw [hce] at hb0
  have hc256 := at_isB hB hc
  have CS := Lib.hid (fun w => rsimple_any c hc256 w)
  have HLe := Lib.hid hlt
  obtain ⟨L, hL⟩ : ∃ L, bs.length = L := ⟨_, rfl⟩
  have HL := Lib.hid hL
  rw [hL] at hsz hl hlt
  have hpi : (p : Int) < (L : Int) := by omega
  have d1 : decide ((p : Int) ≥ (L : Int)) = false := decide_eq_false (by omega)
  have d2 : decide ((L : Int) ≤ (p : Int)) = false := decide_eq_false (by omega)
  have d3 : decide (L ≤ p) = false := decide_eq_false (by omega)
  rw [simpleI_some hs] at CS
  have hv : v < 256 := by have := simple_cases hs; omega
  have e1 : IntKind.u8.wrap (v : Int) = (v : Int) := by rw [IntKind.wrap_u8]; omega
  have g1 : decide ((v : Int) ≥ 0) = true := decide_eq_true (by omega)
  have g2 : decide ((0 : Int) ≤ (v : Int)) = true := decide_eq_true (by omega)
  have HW := Lib.hid (laid_own w [v] (by simp))
  have HBB := Lib.hid (fun o : Obj => (Below.refl w.heap.size w).alloc (Nat.le_refl _) o)
  clear hL HL hc hce hc256 hs hv hB hlt HLe
  go_enter Tryz.func151, Tryz.ntmps151
  go_wp2_with fail
  refine (CS.out _).mono ?_
  rintro e w1 ⟨rfl, rfl⟩
  go_wp2
  go_returns
  exact ⟨_, 1, rfl, rfl, HW.out, HBB.out _⟩
set_option maxRecDepth 100000 in
set_option maxHeartbeats 4000000 in
theorem resc_x (bs : List Nat) (p c : Nat) (hB : IsB bs) (hl : bs.length ≤ 30000) (hc : bs[p]? = some c) (hs : simpleV c = none) (hcc : c = 120) (w : World) : Calls Tryz.prog 151 #[.string (strOf bs), .int .i64 (p : Int)] w (RescPost p w (byteR (p + 1 + 2) (digsN bs 16 2 (p + 1) 0))) := by
  have hsz := strOf_size bs
  have hbt := get_bt (strOf bs)
  obtain ⟨hlt, hce⟩ := List.getElem?_eq_some_iff.1 hc
  have hb0 := strOf_bt bs hB p hlt
  rw [hce] at hb0
  have hc256 := at_isB hB hc
  have CS := Lib.hid (fun w => rsimple_any c hc256 w)
  have HLe := Lib.hid hlt
  obtain ⟨L, hL⟩ : ∃ L, bs.length = L := ⟨_, rfl⟩
  have HL := Lib.hid hL
  rw [hL] at hsz hl hlt
  have hpi : (p : Int) < (L : Int) := by omega
  have d1 : decide ((p : Int) ≥ (L : Int)) = false := decide_eq_false (by omega)
  have d2 : decide ((L : Int) ≤ (p : Int)) = false := decide_eq_false (by omega)
  have d3 : decide (L ≤ p) = false := decide_eq_false (by omega)
  rw [simpleI_none hs] at CS
  have t120 : ((c : Int) == 120) = true := by simp; omega
  have eF : IntKind.i64.wrap ((p : Int) + 1) = ((p + 1 : Nat) : Int) := by rw [IntKind.wrap_i64]; omega
  obtain ⟨T, hT⟩ : ∃ T, digsN bs 16 2 (p + 1) 0 = T := ⟨_, rfl⟩
  have HT := Lib.hid hT
  rw [hT]
  have HS := Lib.hid (fun k hk => strOf_bt bs hB k hk)
  have HB := Lib.hid hB
  have HLB := Lib.hid hl
  obtain ⟨F, hF⟩ : ∃ F, p + 1 = F := ⟨_, rfl⟩
  have HF := Lib.hid hF
  have HFL := Lib.hid (show F ≤ L by omega)
  rw [hF] at HT
  rw [hF] at eF
  have eG : IntKind.i64.wrap ((F : Int) - (p : Int)) = 1 := by rw [IntKind.wrap_i64]; omega
  clear hL hc hce hc256 hs hB HLe hcc hT hF hlt
  go_enter Tryz.func151, Tryz.ntmps151
  go_wp2_with fail
  refine (CS.out _).mono ?_
  rintro e w1 ⟨rfl, rfl⟩
  go_wp2
  go_loopw [12, 13] (fun a i wr => ∃ (k n : Nat), k ≤ 2 ∧ i = .int .i64 k ∧ a = .int .i64 ((n : Nat) : Int) ∧ Hid (n + 1 ≤ 16 ^ k) ∧ Hid (digsN bs 16 (2 - k) (F + k) n = T) ∧ Hid (Below w1.heap.size w1 wr)) (fun _ i _ => (2 - intOf i).toNat)
  case atStart => exact ⟨0, 0, by omega, rfl, rfl, Lib.hid (by decide), HT, Lib.hid (Below.refl _ _)⟩
  case round =>
    obtain ⟨k, n, hk, rfl, rfl, HA, HD, HBL⟩ := hrel
    by_cases hkn : k < 2
    · have da : decide ((k : Int) < 2) = true := decide_eq_true (by omega)
      have da2 : decide (k < 2) = true := decide_eq_true hkn
      have hstep := HD.out
      obtain ⟨m, hm⟩ : ∃ m, 2 - k = m + 1 := ⟨2 - k - 1, by omega⟩
      have HMm := Lib.hid (show 2 - (k + 1) = m by omega)
      rw [hm] at hstep
      clear hm
      have eq0 : IntKind.i64.wrap ((F : Int) + (k : Int)) = ((F + k : Nat) : Int) := by have := HFL.out; have := HLB.out; rw [IntKind.wrap_i64]; omega
      obtain ⟨Q, hQ⟩ : ∃ Q, F + k = Q := ⟨_, rfl⟩
      rw [hQ] at eq0 hstep
      have HQ := Lib.hid hQ
      cases hcq : bs[Q]? with
      | none =>
        have hqe := List.getElem?_eq_none_iff.1 hcq
        rw [HL.out] at hqe
        rw [digsN_none hcq] at hstep
        have HSt := Lib.hid hstep
        have q1 : decide ((Q : Int) ≥ (L : Int)) = true := decide_eq_true (by omega)
        have q2 : decide ((L : Int) ≤ (Q : Int)) = true := decide_eq_true (by omega)
        have q3 : decide (L ≤ Q) = true := decide_eq_true (by omega)
        clear hstep hcq hqe hQ hkn
        go_wp2
        go_returns
        rw [← HSt.out]
        exact ⟨rfl, HBL.out⟩
      | some c2 =>
        obtain ⟨hql, hqe⟩ := List.getElem?_eq_some_iff.1 hcq
        have hbq := HS.out Q hql
        rw [hqe] at hbq
        rw [HL.out] at hql
        rw [digsN_some hcq] at hstep
        have h256 := at_isB HB.out hcq
        have hqi : (Q : Int) < (L : Int) := by omega
        have q1 : decide ((Q : Int) ≥ (L : Int)) = false := decide_eq_false (by omega)
        have q2 : decide ((L : Int) ≤ (Q : Int)) = false := decide_eq_false (by omega)
        have q3 : decide (L ≤ Q) = false := decide_eq_false (by omega)
        have CV := Lib.hid (fun w => rhex_any c2 h256 w)
        obtain ⟨h, hh⟩ : ∃ h, hexV c2 = h := ⟨_, rfl⟩
        by_cases h16 : h < 16
        · rw [hexI_good hh h16] at CV
          rw [hh] at hstep
          have z1 : decide ((h : Int) < 0) = false := decide_eq_false (by omega)
          by_cases hv : h < 16
          · simp only [if_pos hv] at hstep
            have hpow : 16 ^ (k + 1) ≤ 16 ^ 8 := Nat.pow_le_pow_right (by decide) (by omega)
            have hA2 : (n + 1) * 16 ≤ 16 ^ (k + 1) := by rw [Nat.pow_succ]; exact Nat.mul_le_mul_right _ HA.out
            have HAA := Lib.hid (show n * 16 + h + 1 ≤ 16 ^ (k + 1) by omega)
            obtain ⟨m2, hm2⟩ : ∃ m, n * 16 = m := ⟨_, rfl⟩
            rw [hm2] at HAA hstep
            have em : ((16 : Int) * (n : Int)) = (m2 : Int) := by omega
            have em2 : ((n : Int) * (16 : Int)) = (m2 : Int) := by omega
            have HAA2 := HAA.out
            have e1 : IntKind.i64.wrap (m2 : Int) = (m2 : Int) := by rw [IntKind.wrap_i64]; omega
            have e2 : IntKind.i64.wrap ((m2 : Int) + (h : Int)) = ((m2 + h : Nat) : Int) := by rw [IntKind.wrap_i64]; omega
            have ya : decide ((h : Int) ≥ 16) = false := decide_eq_false (by omega)
            have yb : decide ((16 : Int) ≤ (h : Int)) = false := decide_eq_false (by omega)
            have yc : decide (16 ≤ h) = false := decide_eq_false (by omega)
            have HSt := Lib.hid hstep
            have HK1 := Lib.hid (show k + 1 ≤ 2 by omega)
            clear hh hm2 h256 hcq hpow hA2 hstep hv h16 HAA2 hqe hQ hkn
            go_wp2_with fail
            refine (CV.out _).mono ?_
            rintro e w2 ⟨rfl, rfl⟩
            go_wp2
            go_roundw
            case rel => exact ⟨k + 1, m2 + h, HK1.out, rfl, rfl, HAA, Lib.hid (by rw [HMm.out, ← Nat.add_assoc, HQ.out]; exact HSt.out), HBL⟩
            case measure => have := HK1.out; simp [intOf]; omega
          · simp only [if_neg hv] at hstep
            have ya : decide ((h : Int) ≥ 16) = true := decide_eq_true (by omega)
            have yb : decide ((16 : Int) ≤ (h : Int)) = true := decide_eq_true (by omega)
            have yc : decide (16 ≤ h) = true := decide_eq_true (by omega)
            have HSt := Lib.hid hstep
            clear hh h256 hcq hstep hv h16 hqe hQ hkn
            go_wp2_with fail
            refine (CV.out _).mono ?_
            rintro e w2 ⟨rfl, rfl⟩
            go_wp2
            go_returns
            rw [← HSt.out]
            exact ⟨rfl, HBL.out⟩
        · rw [hexI_none (by rw [hh]; exact h16)] at CV
          rw [hh, if_neg (show ¬ h < 16 by omega)] at hstep
          have HSt := Lib.hid hstep
          clear hh h256 hcq hstep h16 hqe hQ hkn
          go_wp2_with fail
          refine (CV.out _).mono ?_
          rintro e w2 ⟨rfl, rfl⟩
          go_wp2
          go_returns
          rw [← HSt.out]
          exact ⟨rfl, HBL.out⟩
    · obtain rfl : k = 2 := by omega
      have da : decide (((2 : Nat) : Int) < 2) = false := decide_eq_false (by omega)
      have hstep := HD.out
      rw [Nat.sub_self] at hstep
      unfold digsN at hstep
      have HSt := Lib.hid hstep
      have hlim : n + 1 ≤ 16 ^ 2 := HA.out
      clear hstep
      by_cases hv : n ≤ 255
      · have HRT := Lib.hid (show byteR (p + 1 + 2) T = .ok [n] (p + 1 + 2) by rw [← HSt.out]; exact if_pos hv)
        have va : decide ((n : Int) > 255) = false := decide_eq_false (by omega)
        have vb : decide ((255 : Int) < (n : Int)) = false := decide_eq_false (by omega)
        have vc : decide (255 < n) = false := decide_eq_false (by omega)
        have e8 : IntKind.u8.wrap (n : Int) = (n : Int) := by rw [IntKind.wrap_u8]; omega
        have HW := Lib.hid ((laid_own wr [n] (by simp)).lower (b2 := w1.heap.size) HBL.out.size)
        have HBB := Lib.hid (fun o : Obj => HBL.out.alloc HBL.out.size o)
        clear hv hlim
        go_wp2
        go_returns
        rw [HRT.out]
        exact ⟨_, 3, rfl, rfl, HW.out, HBB.out _⟩
      · have HRT := Lib.hid (show byteR (p + 1 + 2) T = .bad by rw [← HSt.out]; exact if_neg hv)
        have va : decide ((n : Int) > 255) = true := decide_eq_true (by omega)
        have vb : decide ((255 : Int) < (n : Int)) = true := decide_eq_true (by omega)
        have vc : decide (255 < n) = true := decide_eq_true (by omega)
        clear hv hlim
        go_wp2
        go_returns
        rw [HRT.out]
        exact ⟨rfl, HBL.out⟩
set_option maxRecDepth 100000 in
set_option maxHeartbeats 4000000 in
theorem resc_u (bs : List Nat) (p c : Nat) (hB : IsB bs) (hl : bs.length ≤ 30000) (hc : bs[p]? = some c) (hs : simpleV c = none) (hcc : c = 117) (w : World) : Calls Tryz.prog 151 #[.string (strOf bs), .int .i64 (p : Int)] w (RescPost p w (runeR (p + 1 + 4) (digsN bs 16 4 (p + 1) 0))) := by
  have hsz := strOf_size bs
  have hbt := get_bt (strOf bs)
  obtain ⟨hlt, hce⟩ := List.getElem?_eq_some_iff.1 hc
  have hb0 := strOf_bt bs hB p hlt
  rw [hce] at hb0
  have hc256 := at_isB hB hc
  have CS := Lib.hid (fun w => rsimple_any c hc256 w)
  have HLe := Lib.hid hlt
  obtain ⟨L, hL⟩ : ∃ L, bs.length = L := ⟨_, rfl⟩
  have HL := Lib.hid hL
  rw [hL] at hsz hl hlt
  have hpi : (p : Int) < (L : Int) := by omega
  have d1 : decide ((p : Int) ≥ (L : Int)) = false := decide_eq_false (by omega)
  have d2 : decide ((L : Int) ≤ (p : Int)) = false := decide_eq_false (by omega)
  have d3 : decide (L ≤ p) = false := decide_eq_false (by omega)
  rw [simpleI_none hs] at CS
  have t120 : ((c : Int) == 120) = false := by simp; omega
  have t117 : ((c : Int) == 117) = true := by simp; omega
  have eF : IntKind.i64.wrap ((p : Int) + 1) = ((p + 1 : Nat) : Int) := by rw [IntKind.wrap_i64]; omega
  obtain ⟨T, hT⟩ : ∃ T, digsN bs 16 4 (p + 1) 0 = T := ⟨_, rfl⟩
  have HT := Lib.hid hT
  rw [hT]
  have HS := Lib.hid (fun k hk => strOf_bt bs hB k hk)
  have HB := Lib.hid hB
  have HLB := Lib.hid hl
  obtain ⟨F, hF⟩ : ∃ F, p + 1 = F := ⟨_, rfl⟩
  have HF := Lib.hid hF
  have HFL := Lib.hid (show F ≤ L by omega)
  rw [hF] at HT
  rw [hF] at eF
  have eG : IntKind.i64.wrap ((F : Int) - (p : Int)) = 1 := by rw [IntKind.wrap_i64]; omega
  clear hL hc hce hc256 hs hB HLe hcc hT hF hlt
  go_enter Tryz.func151, Tryz.ntmps151
  go_wp2_with fail
  refine (CS.out _).mono ?_
  rintro e w1 ⟨rfl, rfl⟩
  go_wp2
  go_loopw [12, 13] (fun a i wr => ∃ (k n : Nat), k ≤ 4 ∧ i = .int .i64 k ∧ a = .int .i64 ((n : Nat) : Int) ∧ Hid (n + 1 ≤ 16 ^ k) ∧ Hid (digsN bs 16 (4 - k) (F + k) n = T) ∧ Hid (Below w1.heap.size w1 wr)) (fun _ i _ => (4 - intOf i).toNat)
  case atStart => exact ⟨0, 0, by omega, rfl, rfl, Lib.hid (by decide), HT, Lib.hid (Below.refl _ _)⟩
  case round =>
    obtain ⟨k, n, hk, rfl, rfl, HA, HD, HBL⟩ := hrel
    by_cases hkn : k < 4
    · have da : decide ((k : Int) < 4) = true := decide_eq_true (by omega)
      have da2 : decide (k < 4) = true := decide_eq_true hkn
      have hstep := HD.out
      obtain ⟨m, hm⟩ : ∃ m, 4 - k = m + 1 := ⟨4 - k - 1, by omega⟩
      have HMm := Lib.hid (show 4 - (k + 1) = m by omega)
      rw [hm] at hstep
      clear hm
      have eq0 : IntKind.i64.wrap ((F : Int) + (k : Int)) = ((F + k : Nat) : Int) := by have := HFL.out; have := HLB.out; rw [IntKind.wrap_i64]; omega
      obtain ⟨Q, hQ⟩ : ∃ Q, F + k = Q := ⟨_, rfl⟩
      rw [hQ] at eq0 hstep
      have HQ := Lib.hid hQ
      cases hcq : bs[Q]? with
      | none =>
        have hqe := List.getElem?_eq_none_iff.1 hcq
        rw [HL.out] at hqe
        rw [digsN_none hcq] at hstep
        have HSt := Lib.hid hstep
        have q1 : decide ((Q : Int) ≥ (L : Int)) = true := decide_eq_true (by omega)
        have q2 : decide ((L : Int) ≤ (Q : Int)) = true := decide_eq_true (by omega)
        have q3 : decide (L ≤ Q) = true := decide_eq_true (by omega)
        clear hstep hcq hqe hQ hkn
        go_wp2
        go_returns
        rw [← HSt.out]
        exact ⟨rfl, HBL.out⟩
      | some c2 =>
        obtain ⟨hql, hqe⟩ := List.getElem?_eq_some_iff.1 hcq
        have hbq := HS.out Q hql
        rw [hqe] at hbq
        rw [HL.out] at hql
        rw [digsN_some hcq] at hstep
        have h256 := at_isB HB.out hcq
        have hqi : (Q : Int) < (L : Int) := by omega
        have q1 : decide ((Q : Int) ≥ (L : Int)) = false := decide_eq_false (by omega)
        have q2 : decide ((L : Int) ≤ (Q : Int)) = false := decide_eq_false (by omega)
        have q3 : decide (L ≤ Q) = false := decide_eq_false (by omega)
        have CV := Lib.hid (fun w => rhex_any c2 h256 w)
        obtain ⟨h, hh⟩ : ∃ h, hexV c2 = h := ⟨_, rfl⟩
        by_cases h16 : h < 16
        · rw [hexI_good hh h16] at CV
          rw [hh] at hstep
          have z1 : decide ((h : Int) < 0) = false := decide_eq_false (by omega)
          by_cases hv : h < 16
          · simp only [if_pos hv] at hstep
            have hpow : 16 ^ (k + 1) ≤ 16 ^ 8 := Nat.pow_le_pow_right (by decide) (by omega)
            have hA2 : (n + 1) * 16 ≤ 16 ^ (k + 1) := by rw [Nat.pow_succ]; exact Nat.mul_le_mul_right _ HA.out
            have HAA := Lib.hid (show n * 16 + h + 1 ≤ 16 ^ (k + 1) by omega)
            obtain ⟨m2, hm2⟩ : ∃ m, n * 16 = m := ⟨_, rfl⟩
            rw [hm2] at HAA hstep
            have em : ((16 : Int) * (n : Int)) = (m2 : Int) := by omega
            have em2 : ((n : Int) * (16 : Int)) = (m2 : Int) := by omega
            have HAA2 := HAA.out
            have e1 : IntKind.i64.wrap (m2 : Int) = (m2 : Int) := by rw [IntKind.wrap_i64]; omega
            have e2 : IntKind.i64.wrap ((m2 : Int) + (h : Int)) = ((m2 + h : Nat) : Int) := by rw [IntKind.wrap_i64]; omega
            have ya : decide ((h : Int) ≥ 16) = false := decide_eq_false (by omega)
            have yb : decide ((16 : Int) ≤ (h : Int)) = false := decide_eq_false (by omega)
            have yc : decide (16 ≤ h) = false := decide_eq_false (by omega)
            have HSt := Lib.hid hstep
            have HK1 := Lib.hid (show k + 1 ≤ 4 by omega)
            clear hh hm2 h256 hcq hpow hA2 hstep hv h16 HAA2 hqe hQ hkn
            go_wp2_with fail
            refine (CV.out _).mono ?_
            rintro e w2 ⟨rfl, rfl⟩
            go_wp2
            go_roundw
            case rel => exact ⟨k + 1, m2 + h, HK1.out, rfl, rfl, HAA, Lib.hid (by rw [HMm.out, ← Nat.add_assoc, HQ.out]; exact HSt.out), HBL⟩
            case measure => have := HK1.out; simp [intOf]; omega
          · simp only [if_neg hv] at hstep
            have ya : decide ((h : Int) ≥ 16) = true := decide_eq_true (by omega)
            have yb : decide ((16 : Int) ≤ (h : Int)) = true := decide_eq_true (by omega)
            have yc : decide (16 ≤ h) = true := decide_eq_true (by omega)
            have HSt := Lib.hid hstep
            clear hh h256 hcq hstep hv h16 hqe hQ hkn
            go_wp2_with fail
            refine (CV.out _).mono ?_
            rintro e w2 ⟨rfl, rfl⟩
            go_wp2
            go_returns
            rw [← HSt.out]
            exact ⟨rfl, HBL.out⟩
        · rw [hexI_none (by rw [hh]; exact h16)] at CV
          rw [hh, if_neg (show ¬ h < 16 by omega)] at hstep
          have HSt := Lib.hid hstep
          clear hh h256 hcq hstep h16 hqe hQ hkn
          go_wp2_with fail
          refine (CV.out _).mono ?_
          rintro e w2 ⟨rfl, rfl⟩
          go_wp2
          go_returns
          rw [← HSt.out]
          exact ⟨rfl, HBL.out⟩
    · obtain rfl : k = 4 := by omega
      have da : decide (((4 : Nat) : Int) < 4) = false := decide_eq_false (by omega)
      have hstep := HD.out
      rw [Nat.sub_self] at hstep
      unfold digsN at hstep
      have HSt := Lib.hid hstep
      have hlim : n + 1 ≤ 16 ^ 4 := HA.out
      clear hstep
      by_cases hv : n < 55296 ∨ (57343 < n ∧ n ≤ 1114111)
      · have HRT := Lib.hid (show runeR (p + 1 + 4) T = .ok (utf8L n) (p + 1 + 4) by rw [← HSt.out]; exact if_pos hv)
        have va : decide ((n : Int) > 1114111) = false := decide_eq_false (by omega)
        have vb : decide ((1114111 : Int) < (n : Int)) = false := decide_eq_false (by omega)
        have vc : decide (1114111 < n) = false := decide_eq_false (by omega)
        have CU := Lib.hid (fun w => rutf8_any n (by omega) w)
        by_cases h5 : n < 55296
        · 
          have sa : decide ((n : Int) ≥ 55296) = false := decide_eq_false (by omega)
          have sb : decide ((55296 : Int) ≤ (n : Int)) = false := decide_eq_false (by omega)
          have sc : decide (55296 ≤ n) = false := decide_eq_false (by omega)
          clear hv hlim h5
          go_wp2_with fail
          refine (CU.out _).mono ?_
          rintro e w2 ⟨v, rfl, g1, g2⟩
          have G1 := Lib.hid (g1.lower (b2 := w1.heap.size) HBL.out.size)
          have G2 := Lib.hid (HBL.out.trans (g2.mono HBL.out.size))
          clear g1 g2
          go_wp2
          go_returns
          rw [HRT.out]
          exact ⟨_, 5, rfl, rfl, G1.out, G2.out⟩
        · 
          have sa : decide ((n : Int) ≥ 55296) = true := decide_eq_true (by omega)
          have sb : decide ((55296 : Int) ≤ (n : Int)) = true := decide_eq_true (by omega)
          have sc : decide (55296 ≤ n) = true := decide_eq_true (by omega)
          have ra : decide ((n : Int) ≤ 57343) = false := decide_eq_false (by omega)
          have rc : decide (n ≤ 57343) = false := decide_eq_false (by omega)
          clear hv hlim h5
          go_wp2_with fail
          refine (CU.out _).mono ?_
          rintro e w2 ⟨v, rfl, g1, g2⟩
          have G1 := Lib.hid (g1.lower (b2 := w1.heap.size) HBL.out.size)
          have G2 := Lib.hid (HBL.out.trans (g2.mono HBL.out.size))
          clear g1 g2
          go_wp2
          go_returns
          rw [HRT.out]
          exact ⟨_, 5, rfl, rfl, G1.out, G2.out⟩
      · have HRT := Lib.hid (show runeR (p + 1 + 4) T = .bad by rw [← HSt.out]; exact if_neg hv)
        by_cases h5 : n ≤ 57343
        · 
          have va : decide ((n : Int) > 1114111) = false := decide_eq_false (by omega)
          have vb : decide ((1114111 : Int) < (n : Int)) = false := decide_eq_false (by omega)
          have vc : decide (1114111 < n) = false := decide_eq_false (by omega)
          have sa : decide ((n : Int) ≥ 55296) = true := decide_eq_true (by omega)
          have sb : decide ((55296 : Int) ≤ (n : Int)) = true := decide_eq_true (by omega)
          have sc : decide (55296 ≤ n) = true := decide_eq_true (by omega)
          have ra : decide ((n : Int) ≤ 57343) = true := decide_eq_true (by omega)
          have rc : decide (n ≤ 57343) = true := decide_eq_true (by omega)
          clear hv hlim h5
          go_wp2
          go_returns
          rw [HRT.out]
          exact ⟨rfl, HBL.out⟩
        · 
          have va : decide ((n : Int) > 1114111) = true := decide_eq_true (by omega)
          have vb : decide ((1114111 : Int) < (n : Int)) = true := decide_eq_true (by omega)
          have vc : decide (1114111 < n) = true := decide_eq_true (by omega)
          clear hv hlim h5
          go_wp2
          go_returns
          rw [HRT.out]
          exact ⟨rfl, HBL.out⟩
set_option maxRecDepth 100000 in
set_option maxHeartbeats 4000000 in
theorem resc_v (bs : List Nat) (p c : Nat) (hB : IsB bs) (hl : bs.length ≤ 30000) (hc : bs[p]? = some c) (hs : simpleV c = none) (hcc : c = 85) (w : World) : Calls Tryz.prog 151 #[.string (strOf bs), .int .i64 (p : Int)] w (RescPost p w (runeR (p + 1 + 8) (digsN bs 16 8 (p + 1) 0))) := by
  have hsz := strOf_size bs
  have hbt := get_bt (strOf bs)
  obtain ⟨hlt, hce⟩ := List.getElem?_eq_some_iff.1 hc
  have hb0 := strOf_bt bs hB p hlt
  rw [hce] at hb0
  have hc256 := at_isB hB hc
  have CS := Lib.hid (fun w => rsimple_any c hc256 w)
  have HLe := Lib.hid hlt
  obtain ⟨L, hL⟩ : ∃ L, bs.length = L := ⟨_, rfl⟩
  have HL := Lib.hid hL
  rw [hL] at hsz hl hlt
  have hpi : (p : Int) < (L : Int) := by omega
  have d1 : decide ((p : Int) ≥ (L : Int)) = false := decide_eq_false (by omega)
  have d2 : decide ((L : Int) ≤ (p : Int)) = false := decide_eq_false (by omega)
  have d3 : decide (L ≤ p) = false := decide_eq_false (by omega)
  rw [simpleI_none hs] at CS
  have t120 : ((c : Int) == 120) = false := by simp; omega
  have t117 : ((c : Int) == 117) = false := by simp; omega
  have t85 : ((c : Int) == 85) = true := by simp; omega
  have eF : IntKind.i64.wrap ((p : Int) + 1) = ((p + 1 : Nat) : Int) := by rw [IntKind.wrap_i64]; omega
  obtain ⟨T, hT⟩ : ∃ T, digsN bs 16 8 (p + 1) 0 = T := ⟨_, rfl⟩
  have HT := Lib.hid hT
  rw [hT]
  have HS := Lib.hid (fun k hk => strOf_bt bs hB k hk)
  have HB := Lib.hid hB
  have HLB := Lib.hid hl
  obtain ⟨F, hF⟩ : ∃ F, p + 1 = F := ⟨_, rfl⟩
  have HF := Lib.hid hF
  have HFL := Lib.hid (show F ≤ L by omega)
  rw [hF] at HT
  rw [hF] at eF
  have eG : IntKind.i64.wrap ((F : Int) - (p : Int)) = 1 := by rw [IntKind.wrap_i64]; omega
  clear hL hc hce hc256 hs hB HLe hcc hT hF hlt
  go_enter Tryz.func151, Tryz.ntmps151
  go_wp2_with fail
  refine (CS.out _).mono ?_
  rintro e w1 ⟨rfl, rfl⟩
  go_wp2
  go_loopw [12, 13] (fun a i wr => ∃ (k n : Nat), k ≤ 8 ∧ i = .int .i64 k ∧ a = .int .i64 ((n : Nat) : Int) ∧ Hid (n + 1 ≤ 16 ^ k) ∧ Hid (digsN bs 16 (8 - k) (F + k) n = T) ∧ Hid (Below w1.heap.size w1 wr)) (fun _ i _ => (8 - intOf i).toNat)
  case atStart => exact ⟨0, 0, by omega, rfl, rfl, Lib.hid (by decide), HT, Lib.hid (Below.refl _ _)⟩
  case round =>
    obtain ⟨k, n, hk, rfl, rfl, HA, HD, HBL⟩ := hrel
    by_cases hkn : k < 8
    · have da : decide ((k : Int) < 8) = true := decide_eq_true (by omega)
      have da2 : decide (k < 8) = true := decide_eq_true hkn
      have hstep := HD.out
      obtain ⟨m, hm⟩ : ∃ m, 8 - k = m + 1 := ⟨8 - k - 1, by omega⟩
      have HMm := Lib.hid (show 8 - (k + 1) = m by omega)
      rw [hm] at hstep
      clear hm
      have eq0 : IntKind.i64.wrap ((F : Int) + (k : Int)) = ((F + k : Nat) : Int) := by have := HFL.out; have := HLB.out; rw [IntKind.wrap_i64]; omega
      obtain ⟨Q, hQ⟩ : ∃ Q, F + k = Q := ⟨_, rfl⟩
      rw [hQ] at eq0 hstep
      have HQ := Lib.hid hQ
      cases hcq : bs[Q]? with
      | none =>
        have hqe := List.getElem?_eq_none_iff.1 hcq
        rw [HL.out] at hqe
        rw [digsN_none hcq] at hstep
        have HSt := Lib.hid hstep
        have q1 : decide ((Q : Int) ≥ (L : Int)) = true := decide_eq_true (by omega)
        have q2 : decide ((L : Int) ≤ (Q : Int)) = true := decide_eq_true (by omega)
        have q3 : decide (L ≤ Q) = true := decide_eq_true (by omega)
        clear hstep hcq hqe hQ hkn
        go_wp2
        go_returns
        rw [← HSt.out]
        exact ⟨rfl, HBL.out⟩
      | some c2 =>
        obtain ⟨hql, hqe⟩ := List.getElem?_eq_some_iff.1 hcq
        have hbq := HS.out Q hql
        rw [hqe] at hbq
        rw [HL.out] at hql
        rw [digsN_some hcq] at hstep
        have h256 := at_isB HB.out hcq
        have hqi : (Q : Int) < (L : Int) := by omega
        have q1 : decide ((Q : Int) ≥ (L : Int)) = false := decide_eq_false (by omega)
        have q2 : decide ((L : Int) ≤ (Q : Int)) = false := decide_eq_false (by omega)
        have q3 : decide (L ≤ Q) = false := decide_eq_false (by omega)
        have CV := Lib.hid (fun w => rhex_any c2 h256 w)
        obtain ⟨h, hh⟩ : ∃ h, hexV c2 = h := ⟨_, rfl⟩
        by_cases h16 : h < 16
        · rw [hexI_good hh h16] at CV
          rw [hh] at hstep
          have z1 : decide ((h : Int) < 0) = false := decide_eq_false (by omega)
          by_cases hv : h < 16
          · simp only [if_pos hv] at hstep
            have hpow : 16 ^ (k + 1) ≤ 16 ^ 8 := Nat.pow_le_pow_right (by decide) (by omega)
            have hA2 : (n + 1) * 16 ≤ 16 ^ (k + 1) := by rw [Nat.pow_succ]; exact Nat.mul_le_mul_right _ HA.out
            have HAA := Lib.hid (show n * 16 + h + 1 ≤ 16 ^ (k + 1) by omega)
            obtain ⟨m2, hm2⟩ : ∃ m, n * 16 = m := ⟨_, rfl⟩
            rw [hm2] at HAA hstep
            have em : ((16 : Int) * (n : Int)) = (m2 : Int) := by omega
            have em2 : ((n : Int) * (16 : Int)) = (m2 : Int) := by omega
            have HAA2 := HAA.out
            have e1 : IntKind.i64.wrap (m2 : Int) = (m2 : Int) := by rw [IntKind.wrap_i64]; omega
            have e2 : IntKind.i64.wrap ((m2 : Int) + (h : Int)) = ((m2 + h : Nat) : Int) := by rw [IntKind.wrap_i64]; omega
            have ya : decide ((h : Int) ≥ 16) = false := decide_eq_false (by omega)
            have yb : decide ((16 : Int) ≤ (h : Int)) = false := decide_eq_false (by omega)
            have yc : decide (16 ≤ h) = false := decide_eq_false (by omega)
            have HSt := Lib.hid hstep
            have HK1 := Lib.hid (show k + 1 ≤ 8 by omega)
            clear hh hm2 h256 hcq hpow hA2 hstep hv h16 HAA2 hqe hQ hkn
            go_wp2_with fail
            refine (CV.out _).mono ?_
            rintro e w2 ⟨rfl, rfl⟩
            go_wp2
            go_roundw
            case rel => exact ⟨k + 1, m2 + h, HK1.out, rfl, rfl, HAA, Lib.hid (by rw [HMm.out, ← Nat.add_assoc, HQ.out]; exact HSt.out), HBL⟩
            case measure => have := HK1.out; simp [intOf]; omega
          · simp only [if_neg hv] at hstep
            have ya : decide ((h : Int) ≥ 16) = true := decide_eq_true (by omega)
            have yb : decide ((16 : Int) ≤ (h : Int)) = true := decide_eq_true (by omega)
            have yc : decide (16 ≤ h) = true := decide_eq_true (by omega)
            have HSt := Lib.hid hstep
            clear hh h256 hcq hstep hv h16 hqe hQ hkn
            go_wp2_with fail
            refine (CV.out _).mono ?_
            rintro e w2 ⟨rfl, rfl⟩
            go_wp2
            go_returns
            rw [← HSt.out]
            exact ⟨rfl, HBL.out⟩
        · rw [hexI_none (by rw [hh]; exact h16)] at CV
          rw [hh, if_neg (show ¬ h < 16 by omega)] at hstep
          have HSt := Lib.hid hstep
          clear hh h256 hcq hstep h16 hqe hQ hkn
          go_wp2_with fail
          refine (CV.out _).mono ?_
          rintro e w2 ⟨rfl, rfl⟩
          go_wp2
          go_returns
          rw [← HSt.out]
          exact ⟨rfl, HBL.out⟩
    · obtain rfl : k = 8 := by omega
      have da : decide (((8 : Nat) : Int) < 8) = false := decide_eq_false (by omega)
      have hstep := HD.out
      rw [Nat.sub_self] at hstep
      unfold digsN at hstep
      have HSt := Lib.hid hstep
      have hlim : n + 1 ≤ 16 ^ 8 := HA.out
      clear hstep
      by_cases hv : n < 55296 ∨ (57343 < n ∧ n ≤ 1114111)
      · have HRT := Lib.hid (show runeR (p + 1 + 8) T = .ok (utf8L n) (p + 1 + 8) by rw [← HSt.out]; exact if_pos hv)
        have va : decide ((n : Int) > 1114111) = false := decide_eq_false (by omega)
        have vb : decide ((1114111 : Int) < (n : Int)) = false := decide_eq_false (by omega)
        have vc : decide (1114111 < n) = false := decide_eq_false (by omega)
        have CU := Lib.hid (fun w => rutf8_any n (by omega) w)
        by_cases h5 : n < 55296
        · 
          have sa : decide ((n : Int) ≥ 55296) = false := decide_eq_false (by omega)
          have sb : decide ((55296 : Int) ≤ (n : Int)) = false := decide_eq_false (by omega)
          have sc : decide (55296 ≤ n) = false := decide_eq_false (by omega)
          clear hv hlim h5
          go_wp2_with fail
          refine (CU.out _).mono ?_
          rintro e w2 ⟨v, rfl, g1, g2⟩
          have G1 := Lib.hid (g1.lower (b2 := w1.heap.size) HBL.out.size)
          have G2 := Lib.hid (HBL.out.trans (g2.mono HBL.out.size))
          clear g1 g2
          go_wp2
          go_returns
          rw [HRT.out]
          exact ⟨_, 9, rfl, rfl, G1.out, G2.out⟩
        · 
          have sa : decide ((n : Int) ≥ 55296) = true := decide_eq_true (by omega)
          have sb : decide ((55296 : Int) ≤ (n : Int)) = true := decide_eq_true (by omega)
          have sc : decide (55296 ≤ n) = true := decide_eq_true (by omega)
          have ra : decide ((n : Int) ≤ 57343) = false := decide_eq_false (by omega)
          have rc : decide (n ≤ 57343) = false := decide_eq_false (by omega)
          clear hv hlim h5
          go_wp2_with fail
          refine (CU.out _).mono ?_
          rintro e w2 ⟨v, rfl, g1, g2⟩
          have G1 := Lib.hid (g1.lower (b2 := w1.heap.size) HBL.out.size)
          have G2 := Lib.hid (HBL.out.trans (g2.mono HBL.out.size))
          clear g1 g2
          go_wp2
          go_returns
          rw [HRT.out]
          exact ⟨_, 9, rfl, rfl, G1.out, G2.out⟩
      · have HRT := Lib.hid (show runeR (p + 1 + 8) T = .bad by rw [← HSt.out]; exact if_neg hv)
        by_cases h5 : n ≤ 57343
        · 
          have va : decide ((n : Int) > 1114111) = false := decide_eq_false (by omega)
          have vb : decide ((1114111 : Int) < (n : Int)) = false := decide_eq_false (by omega)
          have vc : decide (1114111 < n) = false := decide_eq_false (by omega)
          have sa : decide ((n : Int) ≥ 55296) = true := decide_eq_true (by omega)
          have sb : decide ((55296 : Int) ≤ (n : Int)) = true := decide_eq_true (by omega)
          have sc : decide (55296 ≤ n) = true := decide_eq_true (by omega)
          have ra : decide ((n : Int) ≤ 57343) = true := decide_eq_true (by omega)
          have rc : decide (n ≤ 57343) = true := decide_eq_true (by omega)
          clear hv hlim h5
          go_wp2
          go_returns
          rw [HRT.out]
          exact ⟨rfl, HBL.out⟩
        · 
          have va : decide ((n : Int) > 1114111) = true := decide_eq_true (by omega)
          have vb : decide ((1114111 : Int) < (n : Int)) = true := decide_eq_true (by omega)
          have vc : decide (1114111 < n) = true := decide_eq_true (by omega)
          clear hv hlim h5
          go_wp2
          go_returns
          rw [HRT.out]
          exact ⟨rfl, HBL.out⟩
set_option maxRecDepth 100000 in
set_option maxHeartbeats 4000000 in
theorem resc_o (bs : List Nat) (p c : Nat) (hB : IsB bs) (hl : bs.length ≤ 30000) (hc : bs[p]? = some c) (hs : simpleV c = none) (hcc : 48 ≤ c ∧ c ≤ 55) (w : World) : Calls Tryz.prog 151 #[.string (strOf bs), .int .i64 (p : Int)] w (RescPost p w (byteR (p + 3) (digsN bs 8 3 (p) 0))) := by
  have hsz := strOf_size bs
  have hbt := get_bt (strOf bs)
  obtain ⟨hlt, hce⟩ := List.getElem?_eq_some_iff.1 hc
  have hb0 := strOf_bt bs hB p hlt
  rw [hce] at hb0
  have hc256 := at_isB hB hc
  have CS := Lib.hid (fun w => rsimple_any c hc256 w)
  have HLe := Lib.hid hlt
  obtain ⟨L, hL⟩ : ∃ L, bs.length = L := ⟨_, rfl⟩
  have HL := Lib.hid hL
  rw [hL] at hsz hl hlt
  have hpi : (p : Int) < (L : Int) := by omega
  have d1 : decide ((p : Int) ≥ (L : Int)) = false := decide_eq_false (by omega)
  have d2 : decide ((L : Int) ≤ (p : Int)) = false := decide_eq_false (by omega)
  have d3 : decide (L ≤ p) = false := decide_eq_false (by omega)
  rw [simpleI_none hs] at CS
  have t120 : ((c : Int) == 120) = false := by simp; omega
  have t117 : ((c : Int) == 117) = false := by simp; omega
  have t85 : ((c : Int) == 85) = false := by simp; omega
  have ga : decide ((c : Int) ≥ 48) = true := decide_eq_true (by omega)
  have gb : decide ((48 : Int) ≤ (c : Int)) = true := decide_eq_true (by omega)
  have gc : decide (48 ≤ c) = true := decide_eq_true (by omega)
  have la : decide ((c : Int) ≤ 55) = true := decide_eq_true (by omega)
  have lc : decide (c ≤ 55) = true := decide_eq_true (by omega)
  have eF : IntKind.i64.wrap ((p : Int) + 1) = ((p + 1 : Nat) : Int) := by rw [IntKind.wrap_i64]; omega
  obtain ⟨T, hT⟩ : ∃ T, digsN bs 8 3 (p) 0 = T := ⟨_, rfl⟩
  have HT := Lib.hid hT
  rw [hT]
  have HS := Lib.hid (fun k hk => strOf_bt bs hB k hk)
  have HB := Lib.hid hB
  have HLB := Lib.hid hl
  obtain ⟨F, hF⟩ : ∃ F, p = F := ⟨_, rfl⟩
  have HF := Lib.hid hF
  have HFL := Lib.hid (show F ≤ L by omega)
  rw [hF] at HT
  clear eF
  subst hF
  have eG : IntKind.i64.wrap ((p : Int) - (p : Int)) = 0 := by rw [IntKind.wrap_i64]; omega
  clear hL hc hce hc256 hs hB HLe hcc hT  hlt
  go_enter Tryz.func151, Tryz.ntmps151
  go_wp2_with fail
  refine (CS.out _).mono ?_
  rintro e w1 ⟨rfl, rfl⟩
  go_wp2
  go_loopw [12, 13] (fun a i wr => ∃ (k n : Nat), k ≤ 3 ∧ i = .int .i64 k ∧ a = .int .i64 ((n : Nat) : Int) ∧ Hid (n + 1 ≤ 16 ^ k) ∧ Hid (digsN bs 8 (3 - k) (p + k) n = T) ∧ Hid (Below w1.heap.size w1 wr)) (fun _ i _ => (3 - intOf i).toNat)
  case atStart => exact ⟨0, 0, by omega, rfl, rfl, Lib.hid (by decide), HT, Lib.hid (Below.refl _ _)⟩
  case round =>
    obtain ⟨k, n, hk, rfl, rfl, HA, HD, HBL⟩ := hrel
    by_cases hkn : k < 3
    · have da : decide ((k : Int) < 3) = true := decide_eq_true (by omega)
      have da2 : decide (k < 3) = true := decide_eq_true hkn
      have hstep := HD.out
      obtain ⟨m, hm⟩ : ∃ m, 3 - k = m + 1 := ⟨3 - k - 1, by omega⟩
      have HMm := Lib.hid (show 3 - (k + 1) = m by omega)
      rw [hm] at hstep
      clear hm
      have eq0 : IntKind.i64.wrap ((p : Int) + (k : Int)) = ((p + k : Nat) : Int) := by have := HFL.out; have := HLB.out; rw [IntKind.wrap_i64]; omega
      obtain ⟨Q, hQ⟩ : ∃ Q, p + k = Q := ⟨_, rfl⟩
      rw [hQ] at eq0 hstep
      have HQ := Lib.hid hQ
      cases hcq : bs[Q]? with
      | none =>
        have hqe := List.getElem?_eq_none_iff.1 hcq
        rw [HL.out] at hqe
        rw [digsN_none hcq] at hstep
        have HSt := Lib.hid hstep
        have q1 : decide ((Q : Int) ≥ (L : Int)) = true := decide_eq_true (by omega)
        have q2 : decide ((L : Int) ≤ (Q : Int)) = true := decide_eq_true (by omega)
        have q3 : decide (L ≤ Q) = true := decide_eq_true (by omega)
        clear hstep hcq hqe hQ hkn
        go_wp2
        go_returns
        rw [← HSt.out]
        exact ⟨rfl, HBL.out⟩
      | some c2 =>
        obtain ⟨hql, hqe⟩ := List.getElem?_eq_some_iff.1 hcq
        have hbq := HS.out Q hql
        rw [hqe] at hbq
        rw [HL.out] at hql
        rw [digsN_some hcq] at hstep
        have h256 := at_isB HB.out hcq
        have hqi : (Q : Int) < (L : Int) := by omega
        have q1 : decide ((Q : Int) ≥ (L : Int)) = false := decide_eq_false (by omega)
        have q2 : decide ((L : Int) ≤ (Q : Int)) = false := decide_eq_false (by omega)
        have q3 : decide (L ≤ Q) = false := decide_eq_false (by omega)
        have CV := Lib.hid (fun w => rhex_any c2 h256 w)
        obtain ⟨h, hh⟩ : ∃ h, hexV c2 = h := ⟨_, rfl⟩
        by_cases h16 : h < 16
        · rw [hexI_good hh h16] at CV
          rw [hh] at hstep
          have z1 : decide ((h : Int) < 0) = false := decide_eq_false (by omega)
          by_cases hv : h < 8
          · simp only [if_pos hv] at hstep
            have hpow : 16 ^ (k + 1) ≤ 16 ^ 8 := Nat.pow_le_pow_right (by decide) (by omega)
            have hA2 : (n + 1) * 16 ≤ 16 ^ (k + 1) := by rw [Nat.pow_succ]; exact Nat.mul_le_mul_right _ HA.out
            have HAA := Lib.hid (show n * 8 + h + 1 ≤ 16 ^ (k + 1) by omega)
            obtain ⟨m2, hm2⟩ : ∃ m, n * 8 = m := ⟨_, rfl⟩
            rw [hm2] at HAA hstep
            have em : ((8 : Int) * (n : Int)) = (m2 : Int) := by omega
            have em2 : ((n : Int) * (8 : Int)) = (m2 : Int) := by omega
            have HAA2 := HAA.out
            have e1 : IntKind.i64.wrap (m2 : Int) = (m2 : Int) := by rw [IntKind.wrap_i64]; omega
            have e2 : IntKind.i64.wrap ((m2 : Int) + (h : Int)) = ((m2 + h : Nat) : Int) := by rw [IntKind.wrap_i64]; omega
            have ya : decide ((h : Int) ≥ 8) = false := decide_eq_false (by omega)
            have yb : decide ((8 : Int) ≤ (h : Int)) = false := decide_eq_false (by omega)
            have yc : decide (8 ≤ h) = false := decide_eq_false (by omega)
            have HSt := Lib.hid hstep
            have HK1 := Lib.hid (show k + 1 ≤ 3 by omega)
            clear hh hm2 h256 hcq hpow hA2 hstep hv h16 HAA2 hqe hQ hkn
            go_wp2_with fail
            refine (CV.out _).mono ?_
            rintro e w2 ⟨rfl, rfl⟩
            go_wp2
            go_roundw
            case rel => exact ⟨k + 1, m2 + h, HK1.out, rfl, rfl, HAA, Lib.hid (by rw [HMm.out, ← Nat.add_assoc, HQ.out]; exact HSt.out), HBL⟩
            case measure => have := HK1.out; simp [intOf]; omega
          · simp only [if_neg hv] at hstep
            have ya : decide ((h : Int) ≥ 8) = true := decide_eq_true (by omega)
            have yb : decide ((8 : Int) ≤ (h : Int)) = true := decide_eq_true (by omega)
            have yc : decide (8 ≤ h) = true := decide_eq_true (by omega)
            have HSt := Lib.hid hstep
            clear hh h256 hcq hstep hv h16 hqe hQ hkn
            go_wp2_with fail
            refine (CV.out _).mono ?_
            rintro e w2 ⟨rfl, rfl⟩
            go_wp2
            go_returns
            rw [← HSt.out]
            exact ⟨rfl, HBL.out⟩
        · rw [hexI_none (by rw [hh]; exact h16)] at CV
          rw [hh, if_neg (show ¬ h < 8 by omega)] at hstep
          have HSt := Lib.hid hstep
          clear hh h256 hcq hstep h16 hqe hQ hkn
          go_wp2_with fail
          refine (CV.out _).mono ?_
          rintro e w2 ⟨rfl, rfl⟩
          go_wp2
          go_returns
          rw [← HSt.out]
          exact ⟨rfl, HBL.out⟩
    · obtain rfl : k = 3 := by omega
      have da : decide (((3 : Nat) : Int) < 3) = false := decide_eq_false (by omega)
      have hstep := HD.out
      rw [Nat.sub_self] at hstep
      unfold digsN at hstep
      have HSt := Lib.hid hstep
      have hlim : n + 1 ≤ 16 ^ 3 := HA.out
      clear hstep
      by_cases hv : n ≤ 255
      · have HRT := Lib.hid (show byteR (p + 3) T = .ok [n] (p + 3) by rw [← HSt.out]; exact if_pos hv)
        have va : decide ((n : Int) > 255) = false := decide_eq_false (by omega)
        have vb : decide ((255 : Int) < (n : Int)) = false := decide_eq_false (by omega)
        have vc : decide (255 < n) = false := decide_eq_false (by omega)
        have e8 : IntKind.u8.wrap (n : Int) = (n : Int) := by rw [IntKind.wrap_u8]; omega
        have HW := Lib.hid ((laid_own wr [n] (by simp)).lower (b2 := w1.heap.size) HBL.out.size)
        have HBB := Lib.hid (fun o : Obj => HBL.out.alloc HBL.out.size o)
        clear hv hlim
        go_wp2
        go_returns
        rw [HRT.out]
        exact ⟨_, 3, rfl, rfl, HW.out, HBB.out _⟩
      · have HRT := Lib.hid (show byteR (p + 3) T = .bad by rw [← HSt.out]; exact if_neg hv)
        have va : decide ((n : Int) > 255) = true := decide_eq_true (by omega)
        have vb : decide ((255 : Int) < (n : Int)) = true := decide_eq_true (by omega)
        have vc : decide (255 < n) = true := decide_eq_true (by omega)
        clear hv hlim
        go_wp2
        go_returns
        rw [HRT.out]
        exact ⟨rfl, HBL.out⟩
set_option maxHeartbeats 1000000 in
theorem resc_other (bs : List Nat) (p c : Nat) (hB : IsB bs) (hl : bs.length ≤ 30000) (hc : bs[p]? = some c) (hs : simpleV c = none) (h1 : c ≠ 120) (h2 : c ≠ 117) (h3 : c ≠ 85) (h4 : ¬ (48 ≤ c ∧ c ≤ 55)) (w : World) : Calls Tryz.prog 151 #[.string (strOf bs), .int .i64 (p : Int)] w (RescPost p w .bad) := by
  have hsz := strOf_size bs
  have hbt := get_bt (strOf bs)
  obtain ⟨hlt, hce⟩ := List.getElem?_eq_some_iff.1 hc
  have hb0 := strOf_bt bs hB p hlt
  rw [hce] at hb0
  have hc256 := at_isB hB hc
  have CS := Lib.hid (fun w => rsimple_any c hc256 w)
  have HLe := Lib.hid hlt
  obtain ⟨L, hL⟩ : ∃ L, bs.length = L := ⟨_, rfl⟩
  have HL := Lib.hid hL
  rw [hL] at hsz hl hlt
  have hpi : (p : Int) < (L : Int) := by omega
  have d1 : decide ((p : Int) ≥ (L : Int)) = false := decide_eq_false (by omega)
  have d2 : decide ((L : Int) ≤ (p : Int)) = false := decide_eq_false (by omega)
  have d3 : decide (L ≤ p) = false := decide_eq_false (by omega)
  rw [simpleI_none hs] at CS
  have t120 : ((c : Int) == 120) = false := by simp; omega
  have t117 : ((c : Int) == 117) = false := by simp; omega
  have t85 : ((c : Int) == 85) = false := by simp; omega
  have eF : IntKind.i64.wrap ((p : Int) + 1) = ((p + 1 : Nat) : Int) := by rw [IntKind.wrap_i64]; omega
  obtain ⟨F, hF⟩ : ∃ F, p + 1 = F := ⟨_, rfl⟩
  rw [hF] at eF
  by_cases h5 : 48 ≤ c
  · 
    have ga : decide ((c : Int) ≥ 48) = true := decide_eq_true (by omega)
    have gb : decide ((48 : Int) ≤ (c : Int)) = true := decide_eq_true (by omega)
    have gc : decide (48 ≤ c) = true := decide_eq_true (by omega)
    have la : decide ((c : Int) ≤ 55) = false := decide_eq_false (by omega)
    have lc : decide (c ≤ 55) = false := decide_eq_false (by omega)
    clear hL HL hc hce hc256 hs hB hlt HLe h1 h2 h3 h4 h5 hF
    go_enter Tryz.func151, Tryz.ntmps151
    go_wp2_with fail
    refine (CS.out _).mono ?_
    rintro e w1 ⟨rfl, rfl⟩
    go_wp2
    go_returns
    exact ⟨rfl, Below.refl _ _⟩
  · 
    have ga : decide ((c : Int) ≥ 48) = false := decide_eq_false (by omega)
    have gb : decide ((48 : Int) ≤ (c : Int)) = false := decide_eq_false (by omega)
    have gc : decide (48 ≤ c) = false := decide_eq_false (by omega)
    clear hL HL hc hce hc256 hs hB hlt HLe h1 h2 h3 h4 h5 hF
    go_enter Tryz.func151, Tryz.ntmps151
    go_wp2_with fail
    refine (CS.out _).mono ?_
    rintro e w1 ⟨rfl, rfl⟩
    go_wp2
    go_returns
    exact ⟨rfl, Below.refl _ _⟩
theorem resc_any (bs : List Nat) (p : Nat) (hB : IsB bs) (hl : bs.length ≤ 30000) (hp : p ≤ 30001) (w : World) : Calls Tryz.prog 151 #[.string (strOf bs), .int .i64 (p : Int)] w (RescPost p w (escF bs p)) := by
  cases hc : bs[p]? with
  | none => rw [escF_none hc]; exact resc_none bs p hl hp hc w
  | some c =>
    cases hs : simpleV c with
    | some v => rw [escF_simple hc hs]; exact resc_simple bs p c v hB hl hc hs w
    | none =>
      rw [escF_other hc hs]
      by_cases h1 : c = 120
      · rw [if_pos h1]; exact resc_x bs p c hB hl hc hs h1 w
      rw [if_neg h1]
      by_cases h2 : c = 117
      · rw [if_pos h2]; exact resc_u bs p c hB hl hc hs h2 w
      rw [if_neg h2]
      by_cases h3 : c = 85
      · rw [if_pos h3]; exact resc_v bs p c hB hl hc hs h3 w
      rw [if_neg h3]
      by_cases h4 : 48 ≤ c ∧ c ≤ 55
      · rw [if_pos h4]; exact resc_o bs p c hB hl hc hs h4 w
      rw [if_neg h4]; exact resc_other bs p c hB hl hc hs h1 h2 h3 h4 w
end Go.Proofs.YtiolghcjndoigaaGreatDoor
namespace Go.Proofs.YtiolghcjndoigaaGreatDoor
set_option linter.unusedVariables false
set_option linter.unusedSimpArgs false
open Go.RowKit Go.PlainAid
theorem utf8L_pos (v : Nat) : 0 < (utf8L v).length := by
  unfold utf8L
  repeat' split
  all_goals simp
theorem byteR_pos {T : DigR} {q p' : Nat} {xs : List Nat} (h : byteR q T = .ok xs p') : 0 < xs.length := by
  cases T with
  | val v =>
    unfold byteR at h
    by_cases hv : v ≤ 255
    · simp only [if_pos hv] at h; cases h; simp
    · simp only [if_neg hv] at h; cases h
  | bad => cases h
  | ends => cases h
theorem runeR_pos {T : DigR} {q p' : Nat} {xs : List Nat} (h : runeR q T = .ok xs p') : 0 < xs.length := by
  cases T with
  | val v =>
    unfold runeR at h
    by_cases hv : v < 55296 ∨ (57343 < v ∧ v ≤ 1114111)
    · simp only [if_pos hv] at h; cases h; exact utf8L_pos v
    · simp only [if_neg hv] at h; cases h
  | bad => cases h
  | ends => cases h
theorem escF_pos {bs : List Nat} {p p' : Nat} {xs : List Nat} (h : escF bs p = .ok xs p') : 0 < xs.length := by
  cases hc : bs[p]? with
  | none => rw [escF_none hc] at h; cases h
  | some c =>
    cases hs : simpleV c with
    | some v => rw [escF_simple hc hs] at h; cases h; simp
    | none =>
      rw [escF_other hc hs] at h
      by_cases h1 : c = 120
      · rw [if_pos h1] at h; exact byteR_pos h
      rw [if_neg h1] at h
      by_cases h2 : c = 117
      · rw [if_pos h2] at h; exact runeR_pos h
      rw [if_neg h2] at h
      by_cases h3 : c = 85
      · rw [if_pos h3] at h; exact runeR_pos h
      rw [if_neg h3] at h
      by_cases h4 : 48 ≤ c ∧ c ≤ 55
      · rw [if_pos h4] at h; exact byteR_pos h
      rw [if_neg h4] at h; cases h
theorem own_src {w : World} {base : Nat} {v : Value} {ds : List Nat} (h : Own w base v ds) (hp : 0 < ds.length) : ∃ b cap, v = .slice (some ⟨b, 0, none⟩) ds.length cap ∧ ∀ j u, (cellsOf ds)[j]? = some u → w.cell? ((⟨b, 0, none⟩ : Addr).add j) = some u := by
  obtain ⟨a, cap, rfl, hc, hcell⟩ := h.cells
  obtain ⟨b, rfl, _⟩ := hcell 0 hp
  refine ⟨b, cap, rfl, fun j u hu => ?_⟩
  have hj : j < ds.length := by have := (List.getElem?_eq_some_iff.1 hu).1; rwa [cellsOf_length] at this
  obtain ⟨b2, hb2, hcj⟩ := hcell j hj
  cases hb2
  rw [add_here, hcj, ← cellsOf_get ds j hj, hu]
def uvalR (bs : List Nat) (r : QR) : Value := .tuple #[.string (strOf (uStr r)), .int .i64 ((uErr r : Nat) : Int), .int .i64 ((uPos bs r : Nat) : Int)]
set_option maxRecDepth 100000 in
set_option maxHeartbeats 4000000 in
theorem runquote_run (bs : List Nat) (q : Nat) (r : QR) (hB : IsB bs) (hl : bs.length ≤ 30000) (hq : q = 34 ∨ q = 39 ∨ q = 96) (h0 : bs[0]? = some q) (hr : RunQ q bs 1 [] r) (w : World) :
    Calls Tryz.prog 136 #[.string (strOf bs)] w (Gives w (uvalR bs r)) := by
  obtain ⟨i0, hi, hz0, hz1, hz2⟩ := info_parts info5
  have hsz := strOf_size bs
  have hbt := get_bt (strOf bs)
  obtain ⟨hlt, hce0⟩ := List.getElem?_eq_some_iff.1 h0
  have hb0 := strOf_bt bs hB 0 hlt
  rw [hce0] at hb0
  have CE := Lib.hid (fun (p : Nat) (hp : p ≤ 30001) (w : World) => resc_any bs p hB hl hp w)
  have HB := Lib.hid hB
  have HI := Lib.hid (hr.isB hB IsB.nil)
  have HS := Lib.hid (fun (k c : Nat) (hk : bs[k]? = some c) => show bt (strOf bs) k = (c : Int) ∧ k < bs.length ∧ c < 256 by
    obtain ⟨h1, h2⟩ := List.getElem?_eq_some_iff.1 hk
    have := strOf_bt bs hB k h1
    rw [h2] at this
    exact ⟨this, h1, at_isB hB hk⟩)
  have HT := Lib.hid hr
  have HN := Lib.hid (fun (k : Nat) (hk : bs[k]? = none) => List.getElem?_eq_none_iff.1 hk)
  obtain ⟨L, hL⟩ : ∃ L, bs.length = L := ⟨_, rfl⟩
  rw [hL] at hsz hl hlt HN HS
  have HLL := Lib.hid hL
  have hpi : (0 : Int) < (L : Int) := by omega
  have hl0 : ((L : Int) == 0) = false := by simp; omega
  have HP0 := Lib.hid (show 1 ≤ L by omega)
  have HL := Lib.hid hl
  have HI2 := Lib.hid (show ∀ xs p', r = .ok xs p' → IsB xs ∧ p' ≤ L by rw [← hL]; exact HI.out)
  clear h0 hr hB hl hL HI hce0
  rcases hq with hqe | hqe | hqe
  · have hqf : ((q : Int) == 96) = false := by subst hqe; rfl
    have hqg : ((q : Int) != 96) = true := by subst hqe; rfl
    have m34 : ((q : Int) != 34) = false := by subst hqe; rfl
    have m39 : ((q : Int) != 39) = true := by subst hqe; rfl
    have HQE := Lib.hid hqe
    clear hqe hlt
    go_enter Tryz.func136, Tryz.ntmps136
    go_wp2
    go_loopw [6, 7] (fun b i wr => ∃ (p : Nat) (es : List Nat), Hid (RunQ q bs p es r) ∧ p ≤ L ∧ i = .int .i64 ((p : Nat) : Int) ∧ Hid (es.length ≤ 4 * p) ∧ Hid (Own wr w.heap.size b es) ∧ Hid (Below w.heap.size w wr)) (fun _ i wr => (L + 1 - intOf i).toNat)
    case atStart => exact ⟨1, [], HT, HP0.out, rfl, Lib.hid (by simp), Lib.hid (Own.nil _ _), Lib.hid (Below.refl _ _)⟩
    case round =>
      obtain ⟨p, es, HTK, hp, rfl, HE, HO, HBL⟩ := hrel
      have HW := Lib.hid HBL.out.size
      obtain ⟨ao, co, rfl⟩ := own_shape HO.out
      have hes : es.length ≤ 200000 := by have h1 := HE.out; have h3 := HL.out; omega
      obtain ⟨m, hm⟩ : ∃ m, es.length = m := ⟨_, rfl⟩
      have HM := Lib.hid hm
      rw [hm] at HO hes ⊢
      clear hm
      cases HTK.out with
      | stop _ _ hce =>
        have hge := HN.out p hce
        have d1 : decide ((p : Int) < (L : Int)) = false := decide_eq_false (by omega)
        have d2 : decide (p < L) = false := decide_eq_false (by omega)
        have d3 : decide ((p : Int) ≥ (L : Int)) = true := decide_eq_true (by omega)
        have d4 : decide ((L : Int) ≤ (p : Int)) = true := decide_eq_true (by omega)
        have d5 : decide (L ≤ p) = true := decide_eq_true (by omega)
        clear hge hce hp
        go_wp2
        go_returns
        exact ⟨by unfold uvalR uPos; rw [HLL.out]; rfl, HBL.out⟩
      | close _ _ hce =>
        obtain ⟨hbp, hpl, hc256⟩ := HS.out p q hce
        have hpi2 : (p : Int) < (L : Int) := by omega
        have d1 : decide ((p : Int) < (L : Int)) = true := decide_eq_true (by omega)
        have d2 : decide (p < L) = true := decide_eq_true (by omega)
        have d3 : decide ((p : Int) ≥ (L : Int)) = false := decide_eq_false (by omega)
        have d4 : decide ((L : Int) ≤ (p : Int)) = false := decide_eq_false (by omega)
        have d5 : decide (L ≤ p) = false := decide_eq_false (by omega)
        have n1 : ((q : Int) != (q : Int)) = false := by simp
        have e1 : IntKind.i64.wrap ((p : Int) + 1) = ((p + 1 : Nat) : Int) := by have := HL.out; rw [IntKind.wrap_i64]; omega
        obtain ⟨P1, hP1⟩ : ∃ P1, p + 1 = P1 := ⟨_, rfl⟩
        rw [hP1] at e1
        have HP1 := Lib.hid hP1
        have hcv := conv_own HO.out (HI2.out es (p + 1) rfl).1
        clear hce hpl hc256 hP1 hp
        go_wp2
        go_returns
        exact ⟨by unfold uvalR uPos; rw [← HP1.out]; rfl, HBL.out⟩
      | raw _ c _ _ hq96 hce hcq hrun =>
        exact absurd HQE.out (by omega)
      | plain _ c _ _ hq96 hce hcq hc10 hc92 hrun =>
        obtain ⟨hbp, hpl, hc256⟩ := HS.out p c hce
        have hpi2 : (p : Int) < (L : Int) := by omega
        have d1 : decide ((p : Int) < (L : Int)) = true := decide_eq_true (by omega)
        have d2 : decide (p < L) = true := decide_eq_true (by omega)
        have e1 : IntKind.i64.wrap ((p : Int) + 1) = ((p + 1 : Nat) : Int) := by have := HL.out; rw [IntKind.wrap_i64]; omega
        have n1 : ((c : Int) != (q : Int)) = true := by simp; omega
        have n2 : ((c : Int) == 10) = false := by simp; omega
        have n3 : ((c : Int) != 92) = true := by simp; omega
        clear hc10 hc92
        obtain ⟨P1, hP1⟩ : ∃ P1, p + 1 = P1 := ⟨_, rfl⟩
        rw [hP1] at e1
        have HP1 := Lib.hid hP1
        have HRN := Lib.hid hrun
        have HPL := Lib.hid hpl
        clear hce hcq hrun hP1 hpl hp
        go_wp2_with (at_builtin; refine wpList_append_own _ rfl (.tmp 59) (.tmp 63) 83 rfl w.heap.size 5 i0 (.int .u8 0) 1 1 Tryz.underlying83 hi hz0 hz1 hz2 rfl (by decide) (.slice ao m co) m (cellsOf es) rfl (own_with HO.out HM.out _) ⟨wr.heap.size, 0, none⟩ 1 1 (cellsOf [c]) rfl rfl (alloc_row _ [c]) (cellsOf_one _) (by unfold maxLen; omega) (by omega) (by have := HW.out; simp; omega) ?_; intro v2 w2 hown2 hgr2 hne2)
        obtain ⟨g1, g2⟩ := put_one (c := c) hown2 HM.out HO.out hgr2 HW.out
        have G1 := Lib.hid g1
        have G2 := Lib.hid (HBL.out.trans g2)
        clear hown2 hgr2 hne2 g1 g2
        go_wp2
        go_roundw
        case rel => exact ⟨p + 1, es ++ [c], HRN, HPL.out, by rw [HP1.out], Lib.hid (by have := HE.out; rw [List.length_append, List.length_singleton]; omega), G1, G2⟩
        case measure => have h1 := HP1.out; have h2 := HPL.out; simp [intOf]; omega
      | line _ _ hq96 hq10 hce =>
        obtain ⟨c, hc⟩ : ∃ c, c = 10 := ⟨_, rfl⟩
        rw [← hc] at hce
        obtain ⟨hbp, hpl, hc256⟩ := HS.out p c hce
        have hpi2 : (p : Int) < (L : Int) := by omega
        have d1 : decide ((p : Int) < (L : Int)) = true := decide_eq_true (by omega)
        have d2 : decide (p < L) = true := decide_eq_true (by omega)
        have e1 : IntKind.i64.wrap ((p : Int) + 1) = ((p + 1 : Nat) : Int) := by have := HL.out; rw [IntKind.wrap_i64]; omega
        have n1 : ((c : Int) != (q : Int)) = true := by simp; omega
        have n2 : ((c : Int) == 10) = true := by simp; omega
        have n3 : ((c : Int) != 92) = true := by simp; omega
        clear hce hc hq10 hpl hp
        go_wp2
        go_returns
        exact ⟨rfl, HBL.out⟩
      | esc _ p' _ xs _ hq96 hq92 hce hesc hrun =>
        have HRN := Lib.hid hrun
        have hfar := escF_far hesc
        have HPX := Lib.hid (escF_pos hesc)
        have HF1 := Lib.hid (show p < p' ∧ p' ≤ L by rw [← HLL.out]; omega)
        have HF2 := Lib.hid (show m + xs.length ≤ 4 * p' by have h1 := HE.out; have h2 := HM.out; omega)
        have HXL := Lib.hid hfar.2.2.1
        clear hrun hfar
        obtain ⟨c, hc⟩ : ∃ c, c = 92 := ⟨_, rfl⟩
        rw [← hc] at hce
        obtain ⟨hbp, hpl, hc256⟩ := HS.out p c hce
        have hpi2 : (p : Int) < (L : Int) := by omega
        have d1 : decide ((p : Int) < (L : Int)) = true := decide_eq_true (by omega)
        have d2 : decide (p < L) = true := decide_eq_true (by omega)
        have e1 : IntKind.i64.wrap ((p : Int) + 1) = ((p + 1 : Nat) : Int) := by have := HL.out; rw [IntKind.wrap_i64]; omega
        have n1 : ((c : Int) != (q : Int)) = true := by simp; omega
        have n2 : ((c : Int) == 10) = false := by simp; omega
        have n3 : ((c : Int) != 92) = false := by simp; omega
        have CE1 := CE.out (p + 1) (by have := HL.out; omega) wr
        rw [hesc] at CE1
        obtain ⟨P1, hP1⟩ : ∃ P1, p + 1 = P1 := ⟨_, rfl⟩
        rw [hP1] at e1 CE1
        have HP1 := Lib.hid hP1
        have CEE := Lib.hid CE1
        have HPL := Lib.hid hpl
        clear hce hc hq92 CE1 hP1 hpl hp
        go_wp2_with fail
        refine CEE.out.mono ?_
        rintro e w1 ⟨v, d, rfl, hd, g1, g2⟩
        have O1 := Lib.hid (HO.out.below g2)
        obtain ⟨b1, cap1, rfl, hsrc⟩ := own_src g1 HPX.out
        have HSR := Lib.hid hsrc
        have B1 := Lib.hid (HBL.out.trans (g2.mono HW.out))
        have S1 := Lib.hid (Nat.le_trans HW.out g2.size)
        obtain ⟨xl, hxl⟩ : ∃ n, xs.length = n := ⟨_, rfl⟩
        have HXE := Lib.hid hxl
        have hxb : xl ≤ 4 := by have := HXL.out; omega
        rw [hxl]
        have e2 : IntKind.i64.wrap ((P1 : Int) + (d : Int)) = ((p' : Nat) : Int) := by have h1 := HL.out; have h2 := HF1.out; rw [IntKind.wrap_i64]; omega
        clear g1 g2 hsrc hxl hd
        go_wp2_with (at_builtin; refine wpList_append_own _ rfl (.tmp 82) (.tmp 83) 83 rfl w.heap.size 5 i0 (.int .u8 0) 1 1 Tryz.underlying83 hi hz0 hz1 hz2 rfl (by decide) (.slice ao m co) m (cellsOf es) rfl (by have h := O1.out; unfold Own at h; rw [HM.out] at h; exact h) ⟨b1, 0, none⟩ xl cap1 (cellsOf xs) rfl (by rw [cellsOf_length, HXE.out, Nat.mul_one]) HSR.out (cellsOf_one _) (by unfold maxLen; omega) (by omega) S1.out ?_; intro v2 w2 hown2 hgr2 hne2)
        obtain ⟨g1, g2⟩ := own_grow (ds := es) (es := xs) hown2 (by rw [HM.out, HXE.out]) (own_block O1.out) hgr2 B1.out S1.out
        have G1 := Lib.hid g1
        have G2 := Lib.hid g2
        clear hown2 hgr2 hne2 g1 g2
        go_wp2
        go_roundw
        case rel => exact ⟨p', es ++ xs, HRN, HF1.out.2, rfl, Lib.hid (by rw [List.length_append, HM.out]; exact HF2.out), G1, G2⟩
        case measure => have := HF1.out; simp [intOf]; omega
      | escbad _ _ hq96 hq92 hce hesc =>
        obtain ⟨c, hc⟩ : ∃ c, c = 92 := ⟨_, rfl⟩
        rw [← hc] at hce
        obtain ⟨hbp, hpl, hc256⟩ := HS.out p c hce
        have hpi2 : (p : Int) < (L : Int) := by omega
        have d1 : decide ((p : Int) < (L : Int)) = true := decide_eq_true (by omega)
        have d2 : decide (p < L) = true := decide_eq_true (by omega)
        have e1 : IntKind.i64.wrap ((p : Int) + 1) = ((p + 1 : Nat) : Int) := by have := HL.out; rw [IntKind.wrap_i64]; omega
        have n1 : ((c : Int) != (q : Int)) = true := by simp; omega
        have n2 : ((c : Int) == 10) = false := by simp; omega
        have n3 : ((c : Int) != 92) = false := by simp; omega
        have CE1 := CE.out (p + 1) (by have := HL.out; omega) wr
        rw [hesc] at CE1
        obtain ⟨P1, hP1⟩ : ∃ P1, p + 1 = P1 := ⟨_, rfl⟩
        rw [hP1] at e1 CE1
        have HP1 := Lib.hid hP1
        have CEE := Lib.hid CE1
        have HPL := Lib.hid hpl
        clear hce hc hq92 CE1 hP1 hpl hp
        go_wp2_with fail
        refine CEE.out.mono ?_
        rintro e w1 ⟨rfl, g2⟩
        have B1 := Lib.hid (HBL.out.trans (g2.mono HW.out))
        clear g2
        go_wp2
        go_returns
        exact ⟨rfl, B1.out⟩
      | escend _ _ hq96 hq92 hce hesc =>
        obtain ⟨c, hc⟩ : ∃ c, c = 92 := ⟨_, rfl⟩
        rw [← hc] at hce
        obtain ⟨hbp, hpl, hc256⟩ := HS.out p c hce
        have hpi2 : (p : Int) < (L : Int) := by omega
        have d1 : decide ((p : Int) < (L : Int)) = true := decide_eq_true (by omega)
        have d2 : decide (p < L) = true := decide_eq_true (by omega)
        have e1 : IntKind.i64.wrap ((p : Int) + 1) = ((p + 1 : Nat) : Int) := by have := HL.out; rw [IntKind.wrap_i64]; omega
        have n1 : ((c : Int) != (q : Int)) = true := by simp; omega
        have n2 : ((c : Int) == 10) = false := by simp; omega
        have n3 : ((c : Int) != 92) = false := by simp; omega
        have CE1 := CE.out (p + 1) (by have := HL.out; omega) wr
        rw [hesc] at CE1
        obtain ⟨P1, hP1⟩ : ∃ P1, p + 1 = P1 := ⟨_, rfl⟩
        rw [hP1] at e1 CE1
        have HP1 := Lib.hid hP1
        have CEE := Lib.hid CE1
        have HPL := Lib.hid hpl
        clear hce hc hq92 CE1 hP1 hpl hp
        go_wp2_with fail
        refine CEE.out.mono ?_
        rintro e w1 ⟨rfl, g2⟩
        have B1 := Lib.hid (HBL.out.trans (g2.mono HW.out))
        clear g2
        go_wp2
        go_returns
        exact ⟨by unfold uvalR uPos; rw [HLL.out]; rfl, B1.out⟩
  · have hqf : ((q : Int) == 96) = false := by subst hqe; rfl
    have hqg : ((q : Int) != 96) = true := by subst hqe; rfl
    have m34 : ((q : Int) != 34) = true := by subst hqe; rfl
    have m39 : ((q : Int) != 39) = false := by subst hqe; rfl
    have HQE := Lib.hid hqe
    clear hqe hlt
    go_enter Tryz.func136, Tryz.ntmps136
    go_wp2
    go_loopw [6, 7] (fun b i wr => ∃ (p : Nat) (es : List Nat), Hid (RunQ q bs p es r) ∧ p ≤ L ∧ i = .int .i64 ((p : Nat) : Int) ∧ Hid (es.length ≤ 4 * p) ∧ Hid (Own wr w.heap.size b es) ∧ Hid (Below w.heap.size w wr)) (fun _ i wr => (L + 1 - intOf i).toNat)
    case atStart => exact ⟨1, [], HT, HP0.out, rfl, Lib.hid (by simp), Lib.hid (Own.nil _ _), Lib.hid (Below.refl _ _)⟩
    case round =>
      obtain ⟨p, es, HTK, hp, rfl, HE, HO, HBL⟩ := hrel
      have HW := Lib.hid HBL.out.size
      obtain ⟨ao, co, rfl⟩ := own_shape HO.out
      have hes : es.length ≤ 200000 := by have h1 := HE.out; have h3 := HL.out; omega
      obtain ⟨m, hm⟩ : ∃ m, es.length = m := ⟨_, rfl⟩
      have HM := Lib.hid hm
      rw [hm] at HO hes ⊢
      clear hm
      cases HTK.out with
      | stop _ _ hce =>
        have hge := HN.out p hce
        have d1 : decide ((p : Int) < (L : Int)) = false := decide_eq_false (by omega)
        have d2 : decide (p < L) = false := decide_eq_false (by omega)
        have d3 : decide ((p : Int) ≥ (L : Int)) = true := decide_eq_true (by omega)
        have d4 : decide ((L : Int) ≤ (p : Int)) = true := decide_eq_true (by omega)
        have d5 : decide (L ≤ p) = true := decide_eq_true (by omega)
        clear hge hce hp
        go_wp2
        go_returns
        exact ⟨by unfold uvalR uPos; rw [HLL.out]; rfl, HBL.out⟩
      | close _ _ hce =>
        obtain ⟨hbp, hpl, hc256⟩ := HS.out p q hce
        have hpi2 : (p : Int) < (L : Int) := by omega
        have d1 : decide ((p : Int) < (L : Int)) = true := decide_eq_true (by omega)
        have d2 : decide (p < L) = true := decide_eq_true (by omega)
        have d3 : decide ((p : Int) ≥ (L : Int)) = false := decide_eq_false (by omega)
        have d4 : decide ((L : Int) ≤ (p : Int)) = false := decide_eq_false (by omega)
        have d5 : decide (L ≤ p) = false := decide_eq_false (by omega)
        have n1 : ((q : Int) != (q : Int)) = false := by simp
        have e1 : IntKind.i64.wrap ((p : Int) + 1) = ((p + 1 : Nat) : Int) := by have := HL.out; rw [IntKind.wrap_i64]; omega
        obtain ⟨P1, hP1⟩ : ∃ P1, p + 1 = P1 := ⟨_, rfl⟩
        rw [hP1] at e1
        have HP1 := Lib.hid hP1
        have hcv := conv_own HO.out (HI2.out es (p + 1) rfl).1
        clear hce hpl hc256 hP1 hp
        go_wp2
        go_returns
        exact ⟨by unfold uvalR uPos; rw [← HP1.out]; rfl, HBL.out⟩
      | raw _ c _ _ hq96 hce hcq hrun =>
        exact absurd HQE.out (by omega)
      | plain _ c _ _ hq96 hce hcq hc10 hc92 hrun =>
        obtain ⟨hbp, hpl, hc256⟩ := HS.out p c hce
        have hpi2 : (p : Int) < (L : Int) := by omega
        have d1 : decide ((p : Int) < (L : Int)) = true := decide_eq_true (by omega)
        have d2 : decide (p < L) = true := decide_eq_true (by omega)
        have e1 : IntKind.i64.wrap ((p : Int) + 1) = ((p + 1 : Nat) : Int) := by have := HL.out; rw [IntKind.wrap_i64]; omega
        have n1 : ((c : Int) != (q : Int)) = true := by simp; omega
        have n2 : ((c : Int) == 10) = false := by simp; omega
        have n3 : ((c : Int) != 92) = true := by simp; omega
        clear hc10 hc92
        obtain ⟨P1, hP1⟩ : ∃ P1, p + 1 = P1 := ⟨_, rfl⟩
        rw [hP1] at e1
        have HP1 := Lib.hid hP1
        have HRN := Lib.hid hrun
        have HPL := Lib.hid hpl
        clear hce hcq hrun hP1 hpl hp
        go_wp2_with (at_builtin; refine wpList_append_own _ rfl (.tmp 59) (.tmp 63) 83 rfl w.heap.size 5 i0 (.int .u8 0) 1 1 Tryz.underlying83 hi hz0 hz1 hz2 rfl (by decide) (.slice ao m co) m (cellsOf es) rfl (own_with HO.out HM.out _) ⟨wr.heap.size, 0, none⟩ 1 1 (cellsOf [c]) rfl rfl (alloc_row _ [c]) (cellsOf_one _) (by unfold maxLen; omega) (by omega) (by have := HW.out; simp; omega) ?_; intro v2 w2 hown2 hgr2 hne2)
        obtain ⟨g1, g2⟩ := put_one (c := c) hown2 HM.out HO.out hgr2 HW.out
        have G1 := Lib.hid g1
        have G2 := Lib.hid (HBL.out.trans g2)
        clear hown2 hgr2 hne2 g1 g2
        go_wp2
        go_roundw
        case rel => exact ⟨p + 1, es ++ [c], HRN, HPL.out, by rw [HP1.out], Lib.hid (by have := HE.out; rw [List.length_append, List.length_singleton]; omega), G1, G2⟩
        case measure => have h1 := HP1.out; have h2 := HPL.out; simp [intOf]; omega
      | line _ _ hq96 hq10 hce =>
        obtain ⟨c, hc⟩ : ∃ c, c = 10 := ⟨_, rfl⟩
        rw [← hc] at hce
        obtain ⟨hbp, hpl, hc256⟩ := HS.out p c hce
        have hpi2 : (p : Int) < (L : Int) := by omega
        have d1 : decide ((p : Int) < (L : Int)) = true := decide_eq_true (by omega)
        have d2 : decide (p < L) = true := decide_eq_true (by omega)
        have e1 : IntKind.i64.wrap ((p : Int) + 1) = ((p + 1 : Nat) : Int) := by have := HL.out; rw [IntKind.wrap_i64]; omega
        have n1 : ((c : Int) != (q : Int)) = true := by simp; omega
        have n2 : ((c : Int) == 10) = true := by simp; omega
        have n3 : ((c : Int) != 92) = true := by simp; omega
        clear hce hc hq10 hpl hp
        go_wp2
        go_returns
        exact ⟨rfl, HBL.out⟩
      | esc _ p' _ xs _ hq96 hq92 hce hesc hrun =>
        have HRN := Lib.hid hrun
        have hfar := escF_far hesc
        have HPX := Lib.hid (escF_pos hesc)
        have HF1 := Lib.hid (show p < p' ∧ p' ≤ L by rw [← HLL.out]; omega)
        have HF2 := Lib.hid (show m + xs.length ≤ 4 * p' by have h1 := HE.out; have h2 := HM.out; omega)
        have HXL := Lib.hid hfar.2.2.1
        clear hrun hfar
        obtain ⟨c, hc⟩ : ∃ c, c = 92 := ⟨_, rfl⟩
        rw [← hc] at hce
        obtain ⟨hbp, hpl, hc256⟩ := HS.out p c hce
        have hpi2 : (p : Int) < (L : Int) := by omega
        have d1 : decide ((p : Int) < (L : Int)) = true := decide_eq_true (by omega)
        have d2 : decide (p < L) = true := decide_eq_true (by omega)
        have e1 : IntKind.i64.wrap ((p : Int) + 1) = ((p + 1 : Nat) : Int) := by have := HL.out; rw [IntKind.wrap_i64]; omega
        have n1 : ((c : Int) != (q : Int)) = true := by simp; omega
        have n2 : ((c : Int) == 10) = false := by simp; omega
        have n3 : ((c : Int) != 92) = false := by simp; omega
        have CE1 := CE.out (p + 1) (by have := HL.out; omega) wr
        rw [hesc] at CE1
        obtain ⟨P1, hP1⟩ : ∃ P1, p + 1 = P1 := ⟨_, rfl⟩
        rw [hP1] at e1 CE1
        have HP1 := Lib.hid hP1
        have CEE := Lib.hid CE1
        have HPL := Lib.hid hpl
        clear hce hc hq92 CE1 hP1 hpl hp
        go_wp2_with fail
        refine CEE.out.mono ?_
        rintro e w1 ⟨v, d, rfl, hd, g1, g2⟩
        have O1 := Lib.hid (HO.out.below g2)
        obtain ⟨b1, cap1, rfl, hsrc⟩ := own_src g1 HPX.out
        have HSR := Lib.hid hsrc
        have B1 := Lib.hid (HBL.out.trans (g2.mono HW.out))
        have S1 := Lib.hid (Nat.le_trans HW.out g2.size)
        obtain ⟨xl, hxl⟩ : ∃ n, xs.length = n := ⟨_, rfl⟩
        have HXE := Lib.hid hxl
        have hxb : xl ≤ 4 := by have := HXL.out; omega
        rw [hxl]
        have e2 : IntKind.i64.wrap ((P1 : Int) + (d : Int)) = ((p' : Nat) : Int) := by have h1 := HL.out; have h2 := HF1.out; rw [IntKind.wrap_i64]; omega
        clear g1 g2 hsrc hxl hd
        go_wp2_with (at_builtin; refine wpList_append_own _ rfl (.tmp 82) (.tmp 83) 83 rfl w.heap.size 5 i0 (.int .u8 0) 1 1 Tryz.underlying83 hi hz0 hz1 hz2 rfl (by decide) (.slice ao m co) m (cellsOf es) rfl (by have h := O1.out; unfold Own at h; rw [HM.out] at h; exact h) ⟨b1, 0, none⟩ xl cap1 (cellsOf xs) rfl (by rw [cellsOf_length, HXE.out, Nat.mul_one]) HSR.out (cellsOf_one _) (by unfold maxLen; omega) (by omega) S1.out ?_; intro v2 w2 hown2 hgr2 hne2)
        obtain ⟨g1, g2⟩ := own_grow (ds := es) (es := xs) hown2 (by rw [HM.out, HXE.out]) (own_block O1.out) hgr2 B1.out S1.out
        have G1 := Lib.hid g1
        have G2 := Lib.hid g2
        clear hown2 hgr2 hne2 g1 g2
        go_wp2
        go_roundw
        case rel => exact ⟨p', es ++ xs, HRN, HF1.out.2, rfl, Lib.hid (by rw [List.length_append, HM.out]; exact HF2.out), G1, G2⟩
        case measure => have := HF1.out; simp [intOf]; omega
      | escbad _ _ hq96 hq92 hce hesc =>
        obtain ⟨c, hc⟩ : ∃ c, c = 92 := ⟨_, rfl⟩
        rw [← hc] at hce
        obtain ⟨hbp, hpl, hc256⟩ := HS.out p c hce
        have hpi2 : (p : Int) < (L : Int) := by omega
        have d1 : decide ((p : Int) < (L : Int)) = true := decide_eq_true (by omega)
        have d2 : decide (p < L) = true := decide_eq_true (by omega)
        have e1 : IntKind.i64.wrap ((p : Int) + 1) = ((p + 1 : Nat) : Int) := by have := HL.out; rw [IntKind.wrap_i64]; omega
        have n1 : ((c : Int) != (q : Int)) = true := by simp; omega
        have n2 : ((c : Int) == 10) = false := by simp; omega
        have n3 : ((c : Int) != 92) = false := by simp; omega
        have CE1 := CE.out (p + 1) (by have := HL.out; omega) wr
        rw [hesc] at CE1
        obtain ⟨P1, hP1⟩ : ∃ P1, p + 1 = P1 := ⟨_, rfl⟩
        rw [hP1] at e1 CE1
        have HP1 := Lib.hid hP1
        have CEE := Lib.hid CE1
        have HPL := Lib.hid hpl
        clear hce hc hq92 CE1 hP1 hpl hp
        go_wp2_with fail
        refine CEE.out.mono ?_
        rintro e w1 ⟨rfl, g2⟩
        have B1 := Lib.hid (HBL.out.trans (g2.mono HW.out))
        clear g2
        go_wp2
        go_returns
        exact ⟨rfl, B1.out⟩
      | escend _ _ hq96 hq92 hce hesc =>
        obtain ⟨c, hc⟩ : ∃ c, c = 92 := ⟨_, rfl⟩
        rw [← hc] at hce
        obtain ⟨hbp, hpl, hc256⟩ := HS.out p c hce
        have hpi2 : (p : Int) < (L : Int) := by omega
        have d1 : decide ((p : Int) < (L : Int)) = true := decide_eq_true (by omega)
        have d2 : decide (p < L) = true := decide_eq_true (by omega)
        have e1 : IntKind.i64.wrap ((p : Int) + 1) = ((p + 1 : Nat) : Int) := by have := HL.out; rw [IntKind.wrap_i64]; omega
        have n1 : ((c : Int) != (q : Int)) = true := by simp; omega
        have n2 : ((c : Int) == 10) = false := by simp; omega
        have n3 : ((c : Int) != 92) = false := by simp; omega
        have CE1 := CE.out (p + 1) (by have := HL.out; omega) wr
        rw [hesc] at CE1
        obtain ⟨P1, hP1⟩ : ∃ P1, p + 1 = P1 := ⟨_, rfl⟩
        rw [hP1] at e1 CE1
        have HP1 := Lib.hid hP1
        have CEE := Lib.hid CE1
        have HPL := Lib.hid hpl
        clear hce hc hq92 CE1 hP1 hpl hp
        go_wp2_with fail
        refine CEE.out.mono ?_
        rintro e w1 ⟨rfl, g2⟩
        have B1 := Lib.hid (HBL.out.trans (g2.mono HW.out))
        clear g2
        go_wp2
        go_returns
        exact ⟨by unfold uvalR uPos; rw [HLL.out]; rfl, B1.out⟩
  · subst hqe
    clear hlt
    go_enter Tryz.func136, Tryz.ntmps136
    go_wp2
    go_loopw [6, 7] (fun b i wr => ∃ (p : Nat) (es : List Nat), Hid (RunQ 96 bs p es r) ∧ p ≤ L ∧ i = .int .i64 ((p : Nat) : Int) ∧ Hid (es.length ≤ 4 * p) ∧ Hid (Own wr w.heap.size b es) ∧ Hid (Below w.heap.size w wr)) (fun _ i wr => (L + 1 - intOf i).toNat)
    case atStart => exact ⟨1, [], HT, HP0.out, rfl, Lib.hid (by simp), Lib.hid (Own.nil _ _), Lib.hid (Below.refl _ _)⟩
    case round =>
      obtain ⟨p, es, HTK, hp, rfl, HE, HO, HBL⟩ := hrel
      have HW := Lib.hid HBL.out.size
      obtain ⟨ao, co, rfl⟩ := own_shape HO.out
      have hes : es.length ≤ 200000 := by have h1 := HE.out; have h3 := HL.out; omega
      obtain ⟨m, hm⟩ : ∃ m, es.length = m := ⟨_, rfl⟩
      have HM := Lib.hid hm
      rw [hm] at HO hes ⊢
      clear hm
      cases HTK.out with
      | stop _ _ hce =>
        have hge := HN.out p hce
        have d1 : decide ((p : Int) < (L : Int)) = false := decide_eq_false (by omega)
        have d2 : decide (p < L) = false := decide_eq_false (by omega)
        have d3 : decide ((p : Int) ≥ (L : Int)) = true := decide_eq_true (by omega)
        have d4 : decide ((L : Int) ≤ (p : Int)) = true := decide_eq_true (by omega)
        have d5 : decide (L ≤ p) = true := decide_eq_true (by omega)
        clear hge hce hp
        go_wp2
        go_returns
        exact ⟨by unfold uvalR uPos; rw [HLL.out]; rfl, HBL.out⟩
      | close _ _ hce =>
        obtain ⟨hbp, hpl, hc256⟩ := HS.out p 96 hce
        have hpi2 : (p : Int) < (L : Int) := by omega
        have d1 : decide ((p : Int) < (L : Int)) = true := decide_eq_true (by omega)
        have d2 : decide (p < L) = true := decide_eq_true (by omega)
        have d3 : decide ((p : Int) ≥ (L : Int)) = false := decide_eq_false (by omega)
        have d4 : decide ((L : Int) ≤ (p : Int)) = false := decide_eq_false (by omega)
        have d5 : decide (L ≤ p) = false := decide_eq_false (by omega)
        have n1 : ((96 : Int) != 96) = false := by simp
        have e1 : IntKind.i64.wrap ((p : Int) + 1) = ((p + 1 : Nat) : Int) := by have := HL.out; rw [IntKind.wrap_i64]; omega
        obtain ⟨P1, hP1⟩ : ∃ P1, p + 1 = P1 := ⟨_, rfl⟩
        rw [hP1] at e1
        have HP1 := Lib.hid hP1
        have hcv := conv_own HO.out (HI2.out es (p + 1) rfl).1
        clear hce hpl hc256 hP1 hp
        go_wp2
        go_returns
        exact ⟨by unfold uvalR uPos; rw [← HP1.out]; rfl, HBL.out⟩
      | raw _ c _ _ hq96 hce hcq hrun =>
        obtain ⟨hbp, hpl, hc256⟩ := HS.out p c hce
        have hpi2 : (p : Int) < (L : Int) := by omega
        have d1 : decide ((p : Int) < (L : Int)) = true := decide_eq_true (by omega)
        have d2 : decide (p < L) = true := decide_eq_true (by omega)
        have e1 : IntKind.i64.wrap ((p : Int) + 1) = ((p + 1 : Nat) : Int) := by have := HL.out; rw [IntKind.wrap_i64]; omega
        have n1 : ((c : Int) != 96) = true := by simp; omega
        obtain ⟨P1, hP1⟩ : ∃ P1, p + 1 = P1 := ⟨_, rfl⟩
        rw [hP1] at e1
        have HP1 := Lib.hid hP1
        have HRN := Lib.hid hrun
        have HPL := Lib.hid hpl
        clear hce hcq hrun hP1 hpl hp
        go_wp2_with (at_builtin; refine wpList_append_own _ rfl (.tmp 59) (.tmp 63) 83 rfl w.heap.size 5 i0 (.int .u8 0) 1 1 Tryz.underlying83 hi hz0 hz1 hz2 rfl (by decide) (.slice ao m co) m (cellsOf es) rfl (own_with HO.out HM.out _) ⟨wr.heap.size, 0, none⟩ 1 1 (cellsOf [c]) rfl rfl (alloc_row _ [c]) (cellsOf_one _) (by unfold maxLen; omega) (by omega) (by have := HW.out; simp; omega) ?_; intro v2 w2 hown2 hgr2 hne2)
        obtain ⟨g1, g2⟩ := put_one (c := c) hown2 HM.out HO.out hgr2 HW.out
        have G1 := Lib.hid g1
        have G2 := Lib.hid (HBL.out.trans g2)
        clear hown2 hgr2 hne2 g1 g2
        go_wp2
        go_roundw
        case rel => exact ⟨p + 1, es ++ [c], HRN, HPL.out, by rw [HP1.out], Lib.hid (by have := HE.out; rw [List.length_append, List.length_singleton]; omega), G1, G2⟩
        case measure => have h1 := HP1.out; have h2 := HPL.out; simp [intOf]; omega
      | plain _ c _ _ hq96 hce hcq hc10 hc92 hrun =>
        exact absurd rfl hq96
      | line _ _ hq96 hq10 hce =>
        exact absurd rfl hq96
      | esc _ p' _ xs _ hq96 hq92 hce hesc hrun =>
        exact absurd rfl hq96
      | escbad _ _ hq96 hq92 hce hesc =>
        exact absurd rfl hq96
      | escend _ _ hq96 hq92 hce hesc =>
        exact absurd rfl hq96
set_option maxHeartbeats 1000000 in
theorem runquote_any (bs : List Nat) (r : QR) (hB : IsB bs) (hl : bs.length ≤ 30000) (hr : IsQ bs r) (w : World) :
    Calls Tryz.prog 136 #[.string (strOf bs)] w (Gives w (uvalR bs r)) := by
  unfold IsQ at hr
  have hsz := strOf_size bs
  have hbt := get_bt (strOf bs)
  cases hc : bs[0]? with
  | none =>
    rw [hc] at hr
    have hr2 : r = .ended := hr
    have h0 : bs.length = 0 := by have := List.getElem?_eq_none_iff.1 hc; omega
    subst hr2
    rw [h0] at hsz
    have HV := Lib.hid (show uvalR bs .ended = .tuple #[.string { data := #[] }, .int .i64 42, .int .i64 0] by unfold uvalR uPos; rw [h0]; rfl)
    clear hr hc h0 hB hl hbt
    rw [HV.out]
    go_enter Tryz.func136, Tryz.ntmps136
    go_wp2
    go_returns
    exact ⟨rfl, Below.refl _ _⟩
  | some q =>
    rw [hc] at hr
    by_cases hq : q = 34 ∨ q = 39 ∨ q = 96
    · simp only [if_pos hq] at hr
      exact runquote_run bs q r hB hl hq hc hr w
    · simp only [if_neg hq] at hr
      subst hr
      obtain ⟨hlt, hce0⟩ := List.getElem?_eq_some_iff.1 hc
      have hb0 := strOf_bt bs hB 0 hlt
      rw [hce0] at hb0
      have HV := Lib.hid (show uvalR bs (.fault 0) = .tuple #[.string { data := #[] }, .int .i64 42, .int .i64 0] by rfl)
      have m34 : ((q : Int) != 34) = true := by simp; omega
      have m39 : ((q : Int) != 39) = true := by simp; omega
      have m96 : ((q : Int) != 96) = true := by simp; omega
      obtain ⟨L, hL⟩ : ∃ L, bs.length = L := ⟨_, rfl⟩
      rw [hL] at hsz hlt
      have hpi : (0 : Int) < (L : Int) := by omega
      have hl0 : ((L : Int) == 0) = false := by simp; omega
      clear hc hq hB hl hL hce0 hlt
      rw [HV.out]
      go_enter Tryz.func136, Tryz.ntmps136
      go_wp2
      go_returns
      exact ⟨rfl, Below.refl _ _⟩
end Go.Proofs.YtiolghcjndoigaaGreatDoor
