/-
  WALKS: Unquote of any text.
-/
import Derived.Test.YthhlhiighgnkmaaGreatDoorEsD
import Derived.Test.YthhlhiighgnkmaaGreatDoorUnC
import Derived.Test.YthhlhiighgnkmaaGreatDoorAsE
import Derived.Test.YthhlhiighgnkmaaGreatDoorAsC
import Derived.Handy
namespace Go.Proofs.YthhlhiighgnkmaaGreatDoor
set_option linter.unusedVariables false
set_option linter.unusedSimpArgs false
open Go.RowKit Go.PlainAid Go.Extern.Stop Go.Stop Go.Extern
theorem Run.isB {q : Nat} {bs : List Nat} (hB : IsB bs) {p : Nat} {es : List Nat} {r : QR} (h : Run q bs p es r) : IsB es → ∀ xs p', r = .ok xs p' → IsB xs ∧ p' ≤ bs.length := by
  induction h with
  | stop p es hc => intro _ xs p' hr; cases hr
  | close p es hc => intro he xs p' hr; cases hr; exact ⟨he, (List.getElem?_eq_some_iff.1 hc).1⟩
  | raw p c es r _ hc _ _ ih => intro he; exact ih (IsB.app he (IsB.cons (at_isB hB hc) IsB.nil))
  | line p es _ _ hc => intro _ xs p' hr; cases hr
  | plain p c es r _ hc _ _ _ _ ih => intro he; exact ih (IsB.app he (IsB.cons (at_isB hB hc) IsB.nil))
  | esc p p' es xs r _ _ hc hesc _ ih => intro he; exact ih (IsB.app he (escF_far hesc).2.2.2)
  | escbad p es _ _ hc he => intro _ xs p' hr; cases hr
  | escend p es _ _ hc he => intro _ xs p' hr; cases hr
theorem Run.at {q : Nat} {bs : List Nat} {p : Nat} {es : List Nat} {r : QR} (h : Run q bs p es r) : ∀ a, r = .fault a → a < bs.length := by
  induction h with
  | stop p es hc => intro a hr; cases hr
  | close p es hc => intro a hr; cases hr
  | raw p c es r _ hc _ _ ih => exact ih
  | line p es _ _ hc => intro a hr; cases hr; exact (List.getElem?_eq_some_iff.1 hc).1
  | plain p c es r _ hc _ _ _ _ ih => exact ih
  | esc p p' es xs r _ _ hc hesc _ ih => exact ih
  | escbad p es _ _ hc he => intro a hr; cases hr; exact (List.getElem?_eq_some_iff.1 hc).1
  | escend p es _ _ hc he => intro a hr; cases hr
theorem isQ_all (bs : List Nat) : ∃ r, IsQ bs r := by
  unfold IsQ
  cases hc : bs[0]? with
  | none => exact ⟨_, rfl⟩
  | some q =>
    by_cases hq : q = 34 ∨ q = 39 ∨ q = 96
    · obtain ⟨r, hr⟩ := run_all (q := q) (by omega) bs bs.length 1 [] (by omega)
      exact ⟨r, by simp only [if_pos hq]; exact hr⟩
    · exact ⟨.fault 0, by simp only [if_neg hq]⟩
def uStr : QR → List Nat
  | .ok xs _ => xs
  | _ => []
def uErr : QR → Nat
  | .ok _ _ => 0
  | _ => 42
def uPos (bs : List Nat) : QR → Nat
  | .ok _ p => p
  | .fault a => a
  | .ended => bs.length
set_option maxRecDepth 100000 in
set_option maxHeartbeats 1000000 in
theorem quoted_any (R B : Nat) (bs : List Nat) (r : QR) (hB : IsB bs) (hl : bs.length ≤ 30000) (hr : IsQ bs r) (w : World) (hBs : w.heap.size = B) (H : Rd w R bs 0) :
    Calls Tryz.prog 60 #[.pointer (some ⟨R, 0, none⟩)] w (QPost R B bs w r) := by
  unfold IsQ at hr
  cases hc : bs[0]? with
  | none =>
    rw [hc] at hr
    have h0 : 0 = bs.length := by have := List.getElem?_eq_none_iff.1 hc; omega
    rw [h0] at H
    have CN := Lib.hid (next_end R bs w H)
    have hr2 : r = .ended := hr
    subst hr2
    clear hr hc h0 H hB hl
    subst hBs
    go_enter Tryz.func60, Tryz.ntmps60
    go_wp2_with fail
    refine CN.out.mono ?_
    rintro e w1 ⟨x, rfl, hb, he⟩
    obtain ⟨q, rfl⟩ := endErr_ne he
    have HE := Lib.hid he
    have HB1 := Lib.hid hb
    clear he hb
    go_wp2
    go_ret2
    exact ⟨_, _, rfl, Kept.of_below HB1.out, .inl HE.out⟩
  | some q =>
    rw [hc] at hr
    by_cases hq : q = 34 ∨ q = 39 ∨ q = 96
    · simp only [if_pos hq] at hr
      exact quoted_run R B bs q r hB hl hq hc hr w hBs H
    · simp only [if_neg hq] at hr
      subst hr
      have CN := Lib.hid (next_at R bs 0 q hB hc (by omega) w H)
      have HR := Lib.hid H.lt
      have m34 : ((q : Int) != 34) = true := by simp; omega
      have m39 : ((q : Int) != 39) = true := by simp; omega
      have m96 : ((q : Int) != 96) = true := by simp; omega
      clear hc hq H hB hl
      subst hBs
      go_enter Tryz.func60, Tryz.ntmps60
      go_wp2_with fail
      refine CN.out.mono ?_
      rintro e w1 ⟨rfl, ho, hr⟩
      have K1 := Lib.hid (Kept.of_only (B := w.heap.size) ho (Nat.le_refl _))
      have S1 := Lib.hid ho.size
      clear ho hr
      go_wp2
      go_ret2
      exact ⟨_, _, rfl, K1.out.trans (Kept.of_below ((Below.refl _ w1).alloc S1.out _)), _, _, rfl, heap_alloc_new _ _, S1.out, .inl rfl⟩
/-- a cell of a block -/
theorem cellAt {w : World} {q : Nat} {arr : Array Value} {t : TypeId} (h : w.heap[q]? = some (.cells arr t (0, 0))) (k : Nat) : w.cell? ⟨q, k, none⟩ = arr[k]? := by
  rw [cell_of_row _ _ _ _ _ _ h]
def uval (bs : List Nat) (r : QR) : Value := .tuple #[.string (strOf (uStr r)), .int .u16 ((uErr r : Nat) : Int), .int .i64 ((uPos bs r : Nat) : Int)]
theorem blk_lt {w : World} {q : Nat} {o : Obj} (h : w.heap[q]? = some o) : q < w.heap.size := (Array.getElem?_eq_some_iff.1 h).1
set_option maxRecDepth 100000 in
set_option maxHeartbeats 2000000 in
theorem unquote_fine (bs xs : List Nat) (p : Nat) (hB : IsB bs) (hl : bs.length ≤ 30000) (hr : IsQ bs (.ok xs p)) (hO : IsB xs) (w : World) :
    Calls Tryz.prog 27 #[.string (strOf bs)] w (Gives w (uval bs (.ok xs p))) := by
  have CQ := Lib.hid (fun (R : Nat) (w1 : World) (H : Rd w1 R bs 0) => quoted_any R w1.heap.size bs (.ok xs p) hB hl hr w1 rfl H)
  have CA := Lib.hid as_nil
  have HO := Lib.hid hO
  clear hB hO hr hl
  show Calls Tryz.prog 27 #[.string (strOf bs)] w (Gives w (.tuple #[.string (strOf xs), .int .u16 ((0 : Nat) : Int), .int .i64 ((p : Nat) : Int)]))
  go_enter Tryz.func27, Tryz.ntmps27
  go_wp2_with fail
  have HRD := Rd.laid w bs
  refine (CQ.out _ _ HRD).mono ?_
  rintro e w1 ⟨v, rfl, g1, g2, g3⟩
  have KO : ∀ o1 o2 : Obj, Below w1.heap.size w1 ((w1.alloc o1).alloc o2) := fun o1 o2 => ((Below.refl w1.heap.size w1).alloc (Nat.le_refl _) o1).alloc (by simp) o2
  have hcv : ∀ o1 o2 : Obj, (convert 87 9 v).run Tryz.prog ((w1.alloc o1).alloc o2) = .ok (.string (strOf xs)) ((w1.alloc o1).alloc o2) := fun o1 o2 => conv_own (g1.below (KO o1 o2)) HO.out
  have hcv2 : ∀ (o1 o2 : Obj) (k : Nat), (convert 87 9 v).run Tryz.prog (((w1.alloc o1).alloc o2).drewN k) = .ok (.string (strOf xs)) (((w1.alloc o1).alloc o2).drewN k) := fun o1 o2 k => conv_own (Own.below (w := w1) g1 (below_drewN (KO o1 o2) k)) HO.out
  have hcl : ∀ o1 o2 : Obj, ((w1.alloc o1).alloc o2).cell? ⟨w.heap.size, 1, none⟩ = some (.int .i64 ((p : Nat) : Int)) := fun o1 o2 => (g3.stay (KO o1 o2)).c1
  have BB := Lib.hid (Below.trans ((Below.refl w.heap.size w).alloc (Nat.le_refl _) _) (g2.below (B0 := w.heap.size) (by simp) (Nat.le_refl _)))
  have BK := Lib.hid KO
  clear g1 g2 g3 KO HRD
  go_wp2_with fail
  refine (CA.out _ _).mono ?_
  rintro e w2 ⟨rfl, rfl⟩
  go_wp2_with fail
  refine (CA.out _ _).mono ?_
  rintro e w3 ⟨rfl, rfl⟩
  go_wp2_with fail
  go_quiet (fail)
  go_wp2
  go_returns
  exact ⟨rfl, below_drewN (BB.out.trans ((BK.out _ _).mono BB.out.size)) nq⟩
theorem fresh_cell (w : World) (v : Value) (t : TypeId) : (w.alloc (.cells #[v] t)).cell? ⟨w.heap.size, 0, none⟩ = some v := by
  rw [World.cell?_alloc_at _ _ _ _ (by simp)]; rfl
theorem fresh_thaw (w : World) (v : Value) (t : TypeId) : (w.alloc (.cells #[v] t)).frozen? ⟨w.heap.size, 0, none⟩ = false := frozen_of_row _ _ _ _ _ (heap_alloc_new w _)
theorem zero_lt {w : World} {v : Value} (h : w.cell? ⟨0, 0, none⟩ = some v) : 0 < w.heap.size := by
  rcases Nat.eq_zero_or_pos w.heap.size with h0 | h1
  · simp [World.cell?, h0] at h
  · exact h1
theorem zero_alloc {w : World} {v : Value} (h : w.cell? ⟨0, 0, none⟩ = some v) (o : Obj) : (w.alloc o).cell? ⟨0, 0, none⟩ = some v :=
  (((Below.refl w.heap.size w).alloc (Nat.le_refl _) o).cell (p := ⟨0, 0, none⟩) (zero_lt h)).trans h
theorem alloc_stay (w : World) (o : Obj) : Below w.heap.size w (w.alloc o) := (Below.refl w.heap.size w).alloc (Nat.le_refl _) o
theorem FaultErr.stay {N a : Nat} {w w' : World} {x : Value} (h : FaultErr N w x a) (hb : Below w.heap.size w w') : FaultErr N w' x a := by
  obtain ⟨q, y, h1, h2, h3, h4⟩ := h
  exact ⟨q, y, h1, (hb.block q (blk_lt h2)).trans h2, h3, h4.imp id (fun k => k.stay hb)⟩
/-- what errors.As finds: an error that tells the end -/
theorem as_stop (n N : Nat) (x : Value) (w : World) (hg : w.cell? ⟨0, 0, none⟩ = some (rt 60)) (hx : StopErr N w x n) :
    Calls Tryz.prog 44 #[x, .iface 92 (.pointer (some ⟨w.heap.size, 0, none⟩))] (w.alloc (.cells #[.pointer none] 91)) fun ev w' => ev = .returned (.bool true) ∧ Below w.heap.size w w' ∧ ∃ q : Nat, w'.cell? ⟨w.heap.size, 0, none⟩ = some (.pointer (some ⟨q, 0, none⟩)) ∧ w'.cell? ⟨q, 0, none⟩ = some (.int .i64 ((n : Nat) : Int)) := by
  have low : ∀ w' : World, Only [w.heap.size] (w.alloc (.cells #[.pointer none] 91)) w' → Below w.heap.size w w' := fun w' ho => (alloc_stay w _).trans (ho.below (by simp) (by simp))
  have key : ∀ (q : Nat) (w' : World), Only [w.heap.size] (w.alloc (.cells #[.pointer none] 91)) w' → w.heap[q]? = some (.cells #[.int .i64 ((n : Nat) : Int)] 94 (0, 0)) → w'.cell? ⟨q, 0, none⟩ = some (.int .i64 ((n : Nat) : Int)) := by
    intro q w' ho hh
    exact (cellAt (((low w' ho).block q (blk_lt hh)).trans hh) 0).trans rfl
  rcases hx with ⟨q, rfl, hh, hq⟩ | ⟨p, y, a, rfl, hp, _, q, rfl, hh, hq⟩
  · refine (as_hit91 ⟨q, 0, none⟩ ⟨w.heap.size, 0, none⟩ (.pointer none) _ (zero_alloc hg _) (fresh_cell ..) (fresh_thaw ..)).mono ?_
    rintro e w' ⟨h1, h2, h3⟩
    exact ⟨h1, low w' h2, q, h3, key q w' h2 hh⟩
  · have hp2 := ((alloc_stay w (.cells #[.pointer none] 91)).block p (blk_lt hp)).trans hp
    refine (as_round6391 ⟨q, 0, none⟩ ⟨w.heap.size, 0, none⟩ p (.pointer none) _ ((cellAt hp2 2).trans rfl) (zero_alloc hg _) (fresh_cell ..) (fresh_thaw ..)).mono ?_
    rintro e w' ⟨h1, h2, h3⟩
    exact ⟨h1, low w' h2, q, h3, key q w' h2 hh⟩
/-- .. not an error that tells what is wrong -/
theorem as_fault (a N : Nat) (x : Value) (w : World) (hg : w.cell? ⟨0, 0, none⟩ = some (rt 60)) (hx : FaultErr N w x a) :
    Calls Tryz.prog 44 #[x, .iface 92 (.pointer (some ⟨w.heap.size, 0, none⟩))] (w.alloc (.cells #[.pointer none] 91)) fun ev w' => ev = .returned (.bool false) ∧ Below (w.alloc (.cells #[.pointer none] 91)).heap.size (w.alloc (.cells #[.pointer none] 91)) w' := by
  obtain ⟨p, y, rfl, hp, _, hy⟩ := hx
  have hp2 := ((alloc_stay w (.cells #[.pointer none] 91)).block p (blk_lt hp)).trans hp
  rcases hy with rfl | rfl | ⟨q, b, rfl, hq, _⟩
  · exact as_round63 _ p _ (zero_alloc hg _) ((cellAt hp2 2).trans rfl) (fresh_cell ..)
  · exact as_round28 _ p _ (zero_alloc hg _) 42 ((cellAt hp2 2).trans rfl) (fresh_cell ..)
  · have hq2 := ((alloc_stay w (.cells #[.pointer none] 91)).block q (blk_lt hq)).trans hq
    exact as_round6363 _ p q _ (zero_alloc hg _) ((cellAt hp2 2).trans rfl) ((cellAt hq2 2).trans rfl) (fresh_cell ..)
/-- .. and this one finds it -/
theorem as_found (a N : Nat) (x : Value) (w : World) (hg : w.cell? ⟨0, 0, none⟩ = some (rt 60)) (hx : FaultErr N w x a) :
    Calls Tryz.prog 44 #[x, .iface 65 (.pointer (some ⟨w.heap.size, 0, none⟩))] (w.alloc (.cells #[.pointer none] 63)) fun ev w' => ev = .returned (.bool true) ∧ Below w.heap.size w w' ∧ ∃ q : Nat, w'.cell? ⟨w.heap.size, 0, none⟩ = some (.pointer (some ⟨q, 0, none⟩)) ∧ w'.cell? ⟨q, 0, none⟩ = some (.int .u16 42) ∧ w'.cell? ⟨q, 1, none⟩ = some (.int .i64 ((a : Nat) : Int)) := by
  obtain ⟨p, y, rfl, hp, _, hy⟩ := hx
  have low : ∀ w' : World, Only [w.heap.size] (w.alloc (.cells #[.pointer none] 63)) w' → Below w.heap.size w w' := fun w' ho => (alloc_stay w _).trans (ho.below (by simp) (by simp))
  refine (as_hit63 ⟨p, 0, none⟩ ⟨w.heap.size, 0, none⟩ (.pointer none) _ (zero_alloc hg _) (fresh_cell ..) (fresh_thaw ..)).mono ?_
  rintro e w' ⟨h1, h2, h3⟩
  have hh := ((low w' h2).block p (blk_lt hp)).trans hp
  exact ⟨h1, low w' h2, p, h3, (cellAt hh 0).trans rfl, (cellAt hh 1).trans rfl⟩
theorem stop_iface {N n : Nat} {w : World} {x : Value} (h : StopErr N w x n) : ∃ t p, x = .iface t p := by
  rcases h with ⟨q, h1, _⟩ | ⟨q, y, a, h1, _⟩
  · exact ⟨_, _, h1⟩
  · exact ⟨_, _, h1⟩
set_option maxRecDepth 100000 in
set_option maxHeartbeats 2000000 in
theorem unquote_stop (bs : List Nat) (hB : IsB bs) (hl : bs.length ≤ 30000) (hr : IsQ bs .ended) (w : World) (hg : w.cell? ⟨0, 0, none⟩ = some (rt 60)) :
    Calls Tryz.prog 27 #[.string (strOf bs)] w (Gives w (uval bs .ended)) := by
  have CQ := Lib.hid (fun (w1 : World) (h1 : w1.heap.size = w.heap.size + 1) (H : Rd w1 w.heap.size bs 0) => quoted_any w.heap.size (w.heap.size + 1) bs .ended hB hl hr w1 h1 H)
  have hg0 : 0 < w.heap.size := by
    rcases Nat.eq_zero_or_pos w.heap.size with h0 | h
    · simp [World.cell?, h0] at hg
    · exact h
  have HG := Lib.hid hg
  have HG0 := Lib.hid hg0
  clear hB hr hl hg hg0
  show Calls Tryz.prog 27 #[.string (strOf bs)] w (Gives w (.tuple #[.string { data := #[] }, .int .u16 ((42 : Nat) : Int), .int .i64 ((bs.length : Nat) : Int)]))
  obtain ⟨L, hL⟩ : ∃ L, bs.length = L := ⟨_, rfl⟩
  have HL := Lib.hid hL
  rw [hL]
  clear hL
  go_enter Tryz.func27, Tryz.ntmps27
  go_wp2_with fail
  refine (CQ.out _ (by simp) (Rd.laid w bs)).mono ?_
  rintro e w1 ⟨v, x, rfl, g2, g3⟩
  rw [HL.out] at g3
  have BB := Lib.hid (Below.trans (alloc_stay w _) (g2.below (B0 := w.heap.size) (by simp) (Nat.le_refl _)))
  have hg1 : w1.cell? ⟨0, 0, none⟩ = some (rt 60) := (BB.out.cell (p := ⟨0, 0, none⟩) HG0.out).trans HG.out
  have CA := Lib.hid (as_stop L _ x w1 hg1 g3)
  clear g2 g3 hg1
  go_wp2_with fail
  refine CA.out.mono ?_
  rintro e w2 ⟨rfl, hb, q, h1, h2⟩
  have B2 := Lib.hid (BB.out.trans (hb.mono BB.out.size))
  clear hb
  go_wp2_with fail
  go_quiet (fail)
  go_wp2
  go_returns
  exact ⟨rfl, below_drewN B2.out nq⟩
set_option maxRecDepth 100000 in
set_option maxHeartbeats 2000000 in
theorem unquote_fault (bs : List Nat) (a : Nat) (hB : IsB bs) (hl : bs.length ≤ 30000) (hr : IsQ bs (.fault a)) (w : World) (hg : w.cell? ⟨0, 0, none⟩ = some (rt 60)) :
    Calls Tryz.prog 27 #[.string (strOf bs)] w (Gives w (uval bs (.fault a))) := by
  have CQ := Lib.hid (fun (w1 : World) (h1 : w1.heap.size = w.heap.size + 1) (H : Rd w1 w.heap.size bs 0) => quoted_any w.heap.size (w.heap.size + 1) bs (.fault a) hB hl hr w1 h1 H)
  have hg0 : 0 < w.heap.size := by
    rcases Nat.eq_zero_or_pos w.heap.size with h0 | h
    · simp [World.cell?, h0] at hg
    · exact h
  have HG := Lib.hid hg
  have HG0 := Lib.hid hg0
  clear hB hr hl hg hg0
  show Calls Tryz.prog 27 #[.string (strOf bs)] w (Gives w (.tuple #[.string { data := #[] }, .int .u16 ((42 : Nat) : Int), .int .i64 ((a : Nat) : Int)]))
  go_enter Tryz.func27, Tryz.ntmps27
  go_wp2_with fail
  refine (CQ.out _ (by simp) (Rd.laid w bs)).mono ?_
  rintro e w1 ⟨v, x, rfl, g2, g3⟩
  have BB := Lib.hid (Below.trans (alloc_stay w _) (g2.below (B0 := w.heap.size) (by simp) (Nat.le_refl _)))
  have hg1 : w1.cell? ⟨0, 0, none⟩ = some (rt 60) := (BB.out.cell (p := ⟨0, 0, none⟩) HG0.out).trans HG.out
  have CA := Lib.hid (as_fault a _ x w1 hg1 g3)
  have G3 := Lib.hid (g3.stay (alloc_stay w1 (.cells #[.pointer none] 91)))
  have HG1 := Lib.hid hg1
  clear g2 g3 hg1
  go_wp2_with fail
  refine CA.out.mono ?_
  rintro e w2 ⟨rfl, hb⟩
  have B2 := Lib.hid (BB.out.trans (((alloc_stay w1 _).trans (hb.mono (by simp))).mono BB.out.size))
  have hg2 : w2.cell? ⟨0, 0, none⟩ = some (rt 60) := (B2.out.cell (p := ⟨0, 0, none⟩) HG0.out).trans HG.out
  have CF := Lib.hid (as_found a _ x w2 hg2 (G3.out.stay hb))
  clear hb hg2
  go_wp2_with fail
  refine CF.out.mono ?_
  rintro e w3 ⟨rfl, hb, q, h1, h2, h3⟩
  have B3 := Lib.hid (B2.out.trans (hb.mono B2.out.size))
  clear hb
  go_wp2_with fail
  go_quiet (fail)
  go_wp2
  go_returns
  exact ⟨rfl, below_drewN B3.out nq⟩
theorem unquote_any (bs : List Nat) (r : QR) (hB : IsB bs) (hl : bs.length ≤ 30000) (hr : IsQ bs r) (w : World) (hg : w.cell? ⟨0, 0, none⟩ = some (rt 60)) :
    Calls Tryz.prog 27 #[.string (strOf bs)] w (Gives w (uval bs r)) := by
  cases r with
  | ok xs p =>
    refine unquote_fine bs xs p hB hl hr ?_ w
    unfold IsQ at hr
    cases hc : bs[0]? with
    | none => rw [hc] at hr; cases hr
    | some q =>
      rw [hc] at hr
      by_cases hq : q = 34 ∨ q = 39 ∨ q = 96
      · simp only [if_pos hq] at hr
        exact (hr.isB hB IsB.nil xs p rfl).1
      · simp only [if_neg hq] at hr
        cases hr
  | fault a => exact unquote_fault bs a hB hl hr w hg
  | ended => exact unquote_stop bs hB hl hr w hg
end Go.Proofs.YthhlhiighgnkmaaGreatDoor
