/-
  PACKED: WbQ, WbR, Door, Start, Laid
-/
import Derived.Test.YtgjdeilclimpdaaDoorK10
import Derived.Test.YtgjdeilclimpdaaDoorRows
import Derived.Test.YtgjdeilclimpdaaDoorK02
import Derived.WalkKit
import Derived.ProofKit
import Derived.LaidMore
import Derived.LaidHandle
import Derived.Lay
import Derived.Lib.LaidIn
import Derived.Stop.Joined
import Derived.LaidLaws
import Derived.LaidSub
import Derived.MakeChecks
import Derived.Lib.LaidTab
import Derived.OpenShut
import Derived.Shelf.Vars
namespace Go.Proofs.YtgjdeilclimpdaaDoor
set_option linter.unusedVariables false
set_option linter.unusedSimpArgs false
open Go.RowKit Go.PlainAid Go.Shelf
open Rx (Set4 RS Instr Rec MS)
def patK : List Nat := [97, 40, 98, 124, 99, 41, 42, 100]
def treeK : Rx.Node := .alt [.seq [.byte (Set4.only 97), .count 0 none false false (.group 1 (.alt [.seq [.byte (Set4.only 98)], .seq [.byte (Set4.only 99)]])), .byte (Set4.only 100)]]
set_option maxRecDepth 100000 in
theorem compileK : Rx.compile sg patK = .ok (treeK, 1) := by kernel_rfl
theorem compileN : Rx.compile sg [97, 123, 50, 44, 49, 125] = .error (80, 5) := by kernel_rfl
theorem statesK : Rx.states treeK + 1 = 11 := by kernel_rfl
theorem pathK : (Rx.runM (Rx.prog treeK) [97, 98, 99, 100] true).path = [.mark 3 3, .mark 2 2, .mark 3 2, .mark 2 1] := by kernel_rfl
theorem fitK : (Rx.runM (Rx.prog treeK) [97, 98, 99, 100] true).fits = true := by kernel_rfl
theorem fitK1 : fitB treeK [97, 100] = true := by kernel_rfl
theorem fitK2 : fitB treeK [97, 98, 99] = false := by kernel_rfl
theorem fitK3 : fitB treeK [120, 97, 100] = false := by kernel_rfl
theorem hmf : ∀ (fn : Fn) (first cap : Array Value) (w : World), (Go.Instr.makeFunc fn first cap).run Tryd.prog w = .ok (.func fn first cap) w := fun _ _ _ _ => rfl
/-- four slots -/
structure Sl (w : World) (Bx G : Nat) (a b c d : Int) : Prop where
  box : w.heap[Bx]? = some (.cells #[.slice (some ⟨G, 0, none⟩) 4 4] 65 (0, 0))
  row : w.heap[G]? = some (.cells #[.int .i64 a, .int .i64 b, .int .i64 c, .int .i64 d] 3 (0, 0))
set_option maxHeartbeats 4000000 in
set_option maxRecDepth 100000 in
theorem tell_new (Bx G k : Nat) (cs : Array Value) (at1 : Nat) (hk : k < 4) (w : World) (c0 : w.cell? ⟨Bx, 0, none⟩ = some (.slice (some ⟨G, 0, none⟩) 4 4)) (c1 : w.cell? ⟨G, k, none⟩ = some (.int .i64 (-1))) (f1 : w.frozen? ⟨G, k, none⟩ = false) :
    Calls Tryd.prog 28 #[.int .i64 ((k : Nat) : Int), .int .i64 ((at1 : Nat) : Int), ptr Bx] w fun e w' => e = .returned (.tuple #[]) ∧ w' = w.setCell ⟨G, k, none⟩ (.int .i64 ((at1 : Nat) : Int)) := by
  have hk4 : ((k : Nat) : Int) < 4 := by omega
  unfold ptr
  go_enter Tryd.func28, Tryd.ntmps28
  go_wp2
  exact bodyPost_end (results_none rfl _ _ _) rfl ⟨rfl, rfl⟩
set_option maxHeartbeats 4000000 in
set_option maxRecDepth 100000 in
theorem tell_old (Bx G k : Nat) (at1 at2 : Nat) (hk : k < 4) (w : World) (c0 : w.cell? ⟨Bx, 0, none⟩ = some (.slice (some ⟨G, 0, none⟩) 4 4)) (c1 : w.cell? ⟨G, k, none⟩ = some (.int .i64 ((at2 : Nat) : Int))) :
    Calls Tryd.prog 28 #[.int .i64 ((k : Nat) : Int), .int .i64 ((at1 : Nat) : Int), ptr Bx] w fun e w' => e = .returned (.tuple #[]) ∧ w' = w := by
  have hk4 : ((k : Nat) : Int) < 4 := by omega
  have hne : (((at2 : Nat) : Int) == -1) = false := by simp
  unfold ptr
  go_enter Tryd.func28, Tryd.ntmps28
  go_wp2
  exact bodyPost_end (results_none rfl _ _ _) rfl ⟨rfl, rfl⟩
theorem infoS : (Tryd.prog.info? 9).map (fun i => (i.zero, i.size, i.bytes)) = some (some (.string ⟨#[]⟩), 1, 16) := by kernel_rfl
theorem made_rep (z : Value) (n : Nat) : madeCells #[z] n = Array.replicate n z := by
  apply Array.ext'
  apply List.ext_getElem?
  intro i
  by_cases hi : i < n
  · simp [madeCells, hi, Nat.mod_one, List.getElem?_replicate]
  · have h1 : (madeCells #[z] n).toList.length = n := by simp [madeCells]
    have h2 : (Array.replicate n z).toList.length = n := by simp
    rw [List.getElem?_eq_none (by omega), List.getElem?_eq_none (by omega)]
theorem make4 (W : World) : (Go.Instr.makeSlice 65 (.int .i64 4) (.int .i64 4)).run Tryd.prog W = .ok (.slice (some ⟨W.heap.size, 0, none⟩) 4 4) (W.alloc (.cells #[.int .i64 0, .int .i64 0, .int .i64 0, .int .i64 0] 3)) := by
  have h := run_make_row' (P := Tryd.prog) 65 3 (.int .i64 0) 8 Tryd.underlying65 infoI rfl .i64 .i64 4 (by omega) (by omega) W
  rw [show ((4 : Nat) : Int) = 4 from rfl, made_rep] at h
  exact h
theorem make2 (W : World) : (Go.Instr.makeSlice 36 (.int .i64 2) (.int .i64 2)).run Tryd.prog W = .ok (.slice (some ⟨W.heap.size, 0, none⟩) 2 2) (W.alloc (.cells #[.string ⟨#[]⟩, .string ⟨#[]⟩] 9)) := by
  have h := run_make_row' (P := Tryd.prog) 36 9 (.string ⟨#[]⟩) 16 Tryd.underlying36 infoS rfl .i64 .i64 2 (by omega) (by omega) W
  rw [show ((2 : Nat) : Int) = 2 from rfl, made_rep] at h
  exact h
/-- four records, the last one first -/
structure Rc (w : World) (b1 b2 b3 b4 : Nat) : Prop where
  r1 : w.heap[b1]? = some (.cells #[.int .i64 3, nilP, .int .i64 3, ptr b2] 85 (0, 0))
  r2 : w.heap[b2]? = some (.cells #[.int .i64 2, nilP, .int .i64 2, ptr b3] 85 (0, 0))
  r3 : w.heap[b3]? = some (.cells #[.int .i64 3, nilP, .int .i64 2, ptr b4] 85 (0, 0))
  r4 : w.heap[b4]? = some (.cells #[.int .i64 2, nilP, .int .i64 1, nilP] 85 (0, 0))
theorem Rc.keep {w w' : World} {b1 b2 b3 b4 : Nat} (h : Rc w b1 b2 b3 b4) (k : K85 w w') : Rc w' b1 b2 b3 b4 := ⟨k.rows _ _ h.r1, k.rows _ _ h.r2, k.rows _ _ h.r3, k.rows _ _ h.r4⟩
theorem rc_of {w : World} {v : Value} (h : RecAt w [.mark 3 3, .mark 2 2, .mark 3 2, .mark 2 1] v) : ∃ b1 b2 b3 b4, v = ptr b1 ∧ Rc w b1 b2 b3 b4 := by
  obtain ⟨b1, u1, rfl, h1, b2, u2, rfl, h2, b3, u3, rfl, h3, b4, u4, rfl, h4, rfl⟩ := h
  exact ⟨b1, b2, b3, b4, rfl, h1, h2, h3, h4⟩
/-- how it stands while the slots are told -/
structure Tl (w0 w : World) (Bx G b1 b2 b3 b4 : Nat) (a b c d : Int) : Prop where
  below : Below w0.heap.size w0 w
  ge : w0.heap.size ≤ G
  sl : Sl w Bx G a b c d
  rc : Rc w b1 b2 b3 b4
theorem Tl.drew {w0 w : World} {Bx G b1 b2 b3 b4 : Nat} {a b c d : Int} (h : Tl w0 w Bx G b1 b2 b3 b4 a b c d) : Tl w0 w.drew Bx G b1 b2 b3 b4 a b c d := ⟨h.below.drew, h.ge, ⟨h.sl.box, h.sl.row⟩, h.rc.keep ⟨Nat.le_refl _, fun _ _ h => h⟩⟩
theorem Tl.put {w0 w : World} {Bx G b1 b2 b3 b4 : Nat} {a b c d : Int} (h : Tl w0 w Bx G b1 b2 b3 b4 a b c d) (k : Nat) (v a' b' c' d' : Int) (hc : (#[Value.int .i64 a, .int .i64 b, .int .i64 c, .int .i64 d] : Array Value).setIfInBounds k (.int .i64 v) = #[.int .i64 a', .int .i64 b', .int .i64 c', .int .i64 d']) : Tl w0 (w.setCell ⟨G, k, none⟩ (.int .i64 v)) Bx G b1 b2 b3 b4 a' b' c' d' := by
  refine ⟨h.below.setCell h.ge _, h.ge, ⟨?_, by rw [heap_setCell_same _ _ _ _ _ _ h.sl.row, hc]⟩, h.rc.keep (K85.set h.sl.row (by decide) k _)⟩
  rw [heap_setCell_other _ _ _ _ (by
    intro e
    have h1 := h.sl.box
    rw [show Bx = G from e, h.sl.row] at h1
    cases h1)]
  exact h.sl.box
theorem tellT_new {w0 w : World} {Bx G b1 b2 b3 b4 : Nat} {a b c d : Int} (h : Tl w0 w Bx G b1 b2 b3 b4 a b c d) (k at1 : Nat) (a' b' c' d' : Int) (hk : k < 4) (hm : (#[Value.int .i64 a, .int .i64 b, .int .i64 c, .int .i64 d] : Array Value)[k]? = some (.int .i64 (-1)))
    (hc : (#[Value.int .i64 a, .int .i64 b, .int .i64 c, .int .i64 d] : Array Value).setIfInBounds k (.int .i64 ((at1 : Nat) : Int)) = #[.int .i64 a', .int .i64 b', .int .i64 c', .int .i64 d']) :
    Calls Tryd.prog 28 #[.int .i64 ((k : Nat) : Int), .int .i64 ((at1 : Nat) : Int), .pointer (some ⟨Bx, 0, none⟩)] w fun e w' => e = .returned (.tuple #[]) ∧ Tl w0 w' Bx G b1 b2 b3 b4 a' b' c' d' := by
  refine (tell_new Bx G k #[] at1 hk w (cell_of_row _ _ 0 _ _ _ h.sl.box) ((cell_of_row _ _ k _ _ _ h.sl.row).trans hm) (frozen_of_row _ _ _ _ _ h.sl.row)).mono ?_
  rintro e w' ⟨rfl, rfl⟩
  exact ⟨rfl, h.put k _ _ _ _ _ hc⟩
theorem tellT_old {w0 w : World} {Bx G b1 b2 b3 b4 : Nat} {a b c d : Int} (h : Tl w0 w Bx G b1 b2 b3 b4 a b c d) (k at1 at2 : Nat) (hk : k < 4) (hm : (#[Value.int .i64 a, .int .i64 b, .int .i64 c, .int .i64 d] : Array Value)[k]? = some (.int .i64 ((at2 : Nat) : Int))) :
    Calls Tryd.prog 28 #[.int .i64 ((k : Nat) : Int), .int .i64 ((at1 : Nat) : Int), .pointer (some ⟨Bx, 0, none⟩)] w fun e w' => e = .returned (.tuple #[]) ∧ Tl w0 w' Bx G b1 b2 b3 b4 a b c d := by
  refine (tell_old Bx G k at1 at2 hk w (cell_of_row _ _ 0 _ _ _ h.sl.box) ((cell_of_row _ _ k _ _ _ h.sl.row).trans hm)).mono ?_
  rintro e w' ⟨rfl, rfl⟩
  exact ⟨rfl, h⟩
set_option maxHeartbeats 16000000 in
set_option maxRecDepth 100000 in
theorem parts_known (b1 b2 b3 b4 : Nat) (w : World) (H : Rc w b1 b2 b3 b4) :
    Calls Tryd.prog 20 #[ptr b1, .string (strOf [97, 98, 99, 100]), .int .i64 1] w fun e w' => ∃ g, e = .returned (.slice (some ⟨g, 0, none⟩) 2 2) ∧ w'.heap[g]? = some (.cells #[.string (strOf [97, 98, 99, 100]), .string (strOf [99])] 9 (0, 0)) ∧ Below w.heap.size w w' := by
  have CO := Lib.hid (fun w => opening_any 2 (by decide) w)
  have hmf := hmf
  have hm4 := make4
  have hm2 := make2
  unfold ptr
  go_enter Tryd.func20, Tryd.ntmps20
  go_wp2_with fail
  refine (CO.out w).mono ?_
  rintro e w1 ⟨rfl, rfl⟩
  go_wp2
  refine wp_loop_rounds 5 ?_
  rw [rounds_succ]
  go_wp2
  rw [rounds_succ]
  go_wp2
  rw [rounds_succ]
  go_wp2
  rw [rounds_succ]
  go_wp2
  rw [rounds_succ]
  go_wp2
  have T1 := Lib.hid (show Tl w1 ((w1.alloc (.cells #[.int .i64 (-1), .int .i64 (-1), .int .i64 (-1), .int .i64 (-1)] 3)).alloc (.cells #[.slice (some ⟨w1.heap.size, 0, none⟩) 4 4] 65)) (w1.heap.size + 1) w1.heap.size b1 b2 b3 b4 (-1) (-1) (-1) (-1) from by
    have hb : Below w1.heap.size w1 ((w1.alloc (.cells #[.int .i64 (-1), .int .i64 (-1), .int .i64 (-1), .int .i64 (-1)] 3)).alloc (.cells #[.slice (some ⟨w1.heap.size, 0, none⟩) 4 4] 65)) := ((Below.refl _ w1).alloc (Nat.le_refl _) _).alloc (by simp) _
    refine ⟨hb, Nat.le_refl _, ⟨?_, ?_⟩, H.keep (K85.below hb)⟩
    · have := heap_alloc_new (w1.alloc (.cells #[.int .i64 (-1), .int .i64 (-1), .int .i64 (-1), .int .i64 (-1)] 3)) (.cells #[.slice (some ⟨w1.heap.size, 0, none⟩) 4 4] 65)
      simpa using this
    · rw [Below.heap_alloc _ _ _ (by simp)]
      exact heap_alloc_new w1 _)
  generalize ((w1.alloc (.cells #[.int .i64 (-1), .int .i64 (-1), .int .i64 (-1), .int .i64 (-1)] 3)).alloc (.cells #[.slice (some ⟨w1.heap.size, 0, none⟩) 4 4] 65)) = wT at T1 ⊢
  obtain ⟨G, hG⟩ : ∃ G, w1.heap.size = G := ⟨_, rfl⟩
  rw [hG] at T1 ⊢
  obtain ⟨Bx, hBx⟩ : ∃ B, G + 1 = B := ⟨_, rfl⟩
  rw [hBx] at T1 ⊢
  clear H hBx CO
  refine wp_loop_rounds 5 ?_
  have p0 := cell_of_row _ _ 0 _ _ _ T1.out.rc.r1
  have p1 := cell_of_row _ _ 1 _ _ _ T1.out.rc.r1
  have p2 := cell_of_row _ _ 2 _ _ _ T1.out.rc.r1
  simp only [List.getElem?_toArray, List.getElem?_cons_zero, List.getElem?_cons_succ, nilP] at p0 p1 p2
  rw [rounds_succ]
  go_upto_region 11 with (fail)
  go_still_tail 9, (by kernel_rfl)
  change wpList _ _ _ _ _ (World.drew _)
  have TD := Lib.hid T1.out.drew
  clear p0 p1 p2
  generalize World.drew _ = wd at TD ⊢
  have CT := Lib.hid (tellT_new TD.out 3 3 (-1) (-1) (-1) 3 (by decide) rfl rfl)
  go_wp2_with fail
  refine CT.out.mono ?_
  rintro e w3 ⟨rfl, ht⟩
  have T2 := Lib.hid ht
  have q3 := cell_of_row _ _ 3 _ _ _ ht.rc.r1
  simp only [List.getElem?_toArray, List.getElem?_cons_zero, List.getElem?_cons_succ, ptr, nilP] at q3
  clear ht TD CT
  go_wp2
  clear q3
  have p0 := cell_of_row _ _ 0 _ _ _ T2.out.rc.r2
  have p1 := cell_of_row _ _ 1 _ _ _ T2.out.rc.r2
  have p2 := cell_of_row _ _ 2 _ _ _ T2.out.rc.r2
  simp only [List.getElem?_toArray, List.getElem?_cons_zero, List.getElem?_cons_succ, nilP] at p0 p1 p2
  rw [rounds_succ]
  go_upto_region 11 with (fail)
  go_still_tail 9, (by kernel_rfl)
  change wpList _ _ _ _ _ (World.drew _)
  have TD := Lib.hid T2.out.drew
  clear p0 p1 p2
  generalize World.drew _ = wd at TD ⊢
  have CT := Lib.hid (tellT_new TD.out 2 2 (-1) (-1) 2 3 (by decide) rfl rfl)
  go_wp2_with fail
  refine CT.out.mono ?_
  rintro e w4 ⟨rfl, ht⟩
  have T3 := Lib.hid ht
  have q3 := cell_of_row _ _ 3 _ _ _ ht.rc.r2
  simp only [List.getElem?_toArray, List.getElem?_cons_zero, List.getElem?_cons_succ, ptr, nilP] at q3
  clear ht TD CT
  go_wp2
  clear q3
  have p0 := cell_of_row _ _ 0 _ _ _ T3.out.rc.r3
  have p1 := cell_of_row _ _ 1 _ _ _ T3.out.rc.r3
  have p2 := cell_of_row _ _ 2 _ _ _ T3.out.rc.r3
  simp only [List.getElem?_toArray, List.getElem?_cons_zero, List.getElem?_cons_succ, nilP] at p0 p1 p2
  rw [rounds_succ]
  go_upto_region 11 with (fail)
  go_still_tail 9, (by kernel_rfl)
  change wpList _ _ _ _ _ (World.drew _)
  have TD := Lib.hid T3.out.drew
  clear p0 p1 p2
  generalize World.drew _ = wd at TD ⊢
  have CT := Lib.hid (tellT_old TD.out 3 2 3 (by decide) rfl)
  go_wp2_with fail
  refine CT.out.mono ?_
  rintro e w5 ⟨rfl, ht⟩
  have T4 := Lib.hid ht
  have q3 := cell_of_row _ _ 3 _ _ _ ht.rc.r3
  simp only [List.getElem?_toArray, List.getElem?_cons_zero, List.getElem?_cons_succ, ptr, nilP] at q3
  clear ht TD CT
  go_wp2
  clear q3
  have p0 := cell_of_row _ _ 0 _ _ _ T4.out.rc.r4
  have p1 := cell_of_row _ _ 1 _ _ _ T4.out.rc.r4
  have p2 := cell_of_row _ _ 2 _ _ _ T4.out.rc.r4
  simp only [List.getElem?_toArray, List.getElem?_cons_zero, List.getElem?_cons_succ, nilP] at p0 p1 p2
  rw [rounds_succ]
  go_upto_region 11 with (fail)
  go_still_tail 9, (by kernel_rfl)
  change wpList _ _ _ _ _ (World.drew _)
  have TD := Lib.hid T4.out.drew
  clear p0 p1 p2
  generalize World.drew _ = wd at TD ⊢
  have CT := Lib.hid (tellT_old TD.out 2 1 2 (by decide) rfl)
  go_wp2_with fail
  refine CT.out.mono ?_
  rintro e w6 ⟨rfl, ht⟩
  have T5 := Lib.hid ht
  have q3 := cell_of_row _ _ 3 _ _ _ ht.rc.r4
  simp only [List.getElem?_toArray, List.getElem?_cons_zero, List.getElem?_cons_succ, ptr, nilP] at q3
  clear ht TD CT
  go_wp2
  clear q3
  rw [rounds_succ]
  go_wp2
  have T6 := T5
  have hbA : Below w6.heap.size w6 (w6.alloc (.cells #[.string (strOf [97, 98, 99, 100]), .string ⟨#[]⟩] 9)) := (Below.refl _ _).alloc (Nat.le_refl _) _
  have hrA := heap_alloc_new w6 (.cells #[.string (strOf [97, 98, 99, 100]), .string ⟨#[]⟩] 9)
  have x0 : (w6.alloc (.cells #[.string (strOf [97, 98, 99, 100]), .string ⟨#[]⟩] 9)).cell? ⟨Bx, 0, none⟩ = some (.slice (some ⟨G, 0, none⟩) 4 4) := (hbA.cell (p := ⟨Bx, 0, none⟩) (lt_of_row T6.out.sl.box)).trans (cell_of_row _ _ 0 _ _ _ T6.out.sl.box)
  have x2 : (w6.alloc (.cells #[.string (strOf [97, 98, 99, 100]), .string ⟨#[]⟩] 9)).cell? ⟨G, 2, none⟩ = some (.int .i64 2) := (hbA.cell (p := ⟨G, 2, none⟩) (lt_of_row T6.out.sl.row)).trans (cell_of_row _ _ 2 _ _ _ T6.out.sl.row)
  have x3 : (w6.alloc (.cells #[.string (strOf [97, 98, 99, 100]), .string ⟨#[]⟩] 9)).cell? ⟨G, 3, none⟩ = some (.int .i64 3) := (hbA.cell (p := ⟨G, 3, none⟩) (lt_of_row T6.out.sl.row)).trans (cell_of_row _ _ 3 _ _ _ T6.out.sl.row)
  have y0 := cell_of_row _ _ 1 _ _ _ hrA
  have y1 := frozen_of_row _ _ 1 _ _ hrA
  simp only [List.getElem?_toArray, List.getElem?_cons_zero, List.getElem?_cons_succ] at y0
  have HBA := Lib.hid (T6.out.below.trans (hbA.mono T6.out.below.size))
  have HGE := Lib.hid (show w1.heap.size ≤ w6.heap.size from T6.out.below.size)
  have hGw : G < w6.heap.size := lt_of_row T6.out.sl.row
  have hBw : Bx < w6.heap.size := lt_of_row T6.out.sl.box
  have HRA := Lib.hid hrA
  obtain ⟨R, hR⟩ : ∃ R, w6.heap.size = R := ⟨_, rfl⟩
  generalize hwA : w6.alloc (.cells #[.string (strOf [97, 98, 99, 100]), .string ⟨#[]⟩] 9) = wA at *
  rw [hR] at y0 y1 HRA HGE hGw hBw ⊢
  have hex : (strOf [97, 98, 99, 100]).extract 2 3 = strOf [99] := by rw [strOf_extract _ 2 3 (by decide) (by decide)]; rfl
  have hsz : (strOf [97, 98, 99, 100]).size = 4 := by rw [strOf_size]; rfl
  obtain ⟨D, hD⟩ : ∃ D, strOf [97, 98, 99, 100] = D := ⟨_, rfl⟩
  obtain ⟨E, hE⟩ : ∃ D, strOf [99] = D := ⟨_, rfl⟩
  rw [hD] at hex hsz HRA ⊢
  rw [hE] at hex
  have HDD := Lib.hid hD
  have HEE := Lib.hid hE
  have CO1 := Lib.hid (fun w => opening_any 1 (by decide) w)
  have CC1 := Lib.hid (fun w => closing_any 1 (by decide) w)
  clear T1 T2 T3 T4 T5 T6 hbA hrA hwA hD hE
  refine wp_loop_rounds 2 ?_
  rw [rounds_succ]
  go_wp2
  go_quiet ((go_at_call 27; exact Calls.quiet_of_same (CO1.out _)))
  go_wp2
  go_region_law (go_simp; go_at_call 29; refine (CC1.out _).mono ?_; rintro e w3 ⟨rfl, rfl⟩; go_simp)
  all_goals
    go_wp2
    rw [rounds_succ]
    go_wp2
    go_ret
    refine ⟨R, rfl, ?_, (HBA.out.trans ((below_drewM wA (nq + 1)).mono HBA.out.size)).setCell HGE.out _⟩
    have hfin := heap_setCell_same (wA.drewN (nq + 1)) R 1 _ 9 (.string E) (show (wA.drewN (nq + 1)).heap[R]? = some _ from HRA.out)
    rw [hfin, HDD.out, HEE.out]
    rfl
end Go.Proofs.YtgjdeilclimpdaaDoor
namespace Go.Proofs.YtgjdeilclimpdaaDoor
set_option linter.unusedVariables false
set_option linter.unusedSimpArgs false
open Go.RowKit Go.PlainAid Go.Shelf
open Rx (Set4 RS Instr Rec MS)
theorem Mc.keepsTrue {W1 w : World} {M n : Nat} {pv : Value} {T : List Nat} (h : Mc W1 w M n pv T false 0 nilS [] Rx.start0) : Mc W1 (w.setCell ⟨M, 8, none⟩ (.bool true)) M n pv T true 0 nilS [] Rx.start0 := by
  obtain ⟨g, xv, fv, h⟩ := h
  have k := K85.set h.cell (by decide) 8 (.bool true)
  have ne : ∀ {x : Nat} {cs : Array Value} {t : TypeId}, w.heap[x]? = some (.cells cs t (0, 0)) → t ≠ 69 → x ≠ M := by
    intro x cs t hx ht e
    subst e
    rw [h.cell] at hx
    cases hx
    exact ht rfl
  have mv : ∀ {x : Nat}, x ≠ M → (w.setCell ⟨M, 8, none⟩ (.bool true)).heap[x]? = w.heap[x]? := fun hx => heap_setCell_other _ _ _ _ hx
  exact ⟨g, xv, fv, h.below.setCell h.ge _, h.ge, by rw [heap_setCell_same _ _ _ _ _ _ h.cell]; rfl, h.path.keep k, fun b hb => ⟨(h.row b hb).1, (mv (ne (h.row b hb).2 (by decide))).trans (h.row b hb).2⟩, h.apart,
    h.next.move k (fun x hx2 => by obtain ⟨_, cur, hc⟩ := h.next.block x hx2; exact mv (ne hc (by decide))), h.now.move k (fun x hx2 => by obtain ⟨_, cur, hc⟩ := h.now.block x hx2; exact mv (ne hc (by decide))), h.two⟩
set_option maxHeartbeats 4000000 in
set_option maxRecDepth 100000 in
theorem groups_known (b : Nat) (w : World) (H : Rgx w b treeK 1) :
    Calls Tryd.prog 11 #[ptr b, .string (strOf [97, 98, 99, 100])] w fun e w' => ∃ g, e = .returned (.tuple #[.slice (some ⟨g, 0, none⟩) 2 2, .bool true]) ∧ w'.heap[g]? = some (.cells #[.string (strOf [97, 98, 99, 100]), .string (strOf [99])] 9 (0, 0)) ∧ Below w.heap.size w w' := by
  obtain ⟨⟨pv, gp, cap, hrow, hpg⟩, hwf, hfew⟩ := H
  have hG := Rx.prog_good treeK hwf
  have hpl := Rx.prog_length treeK hwf
  have hv := hpg.val
  subst hv
  have c0 : w.cell? ⟨b, 0, none⟩ = some (.slice (some ⟨gp, 0, none⟩) (Rx.prog treeK).length cap) := cell_of_row _ _ 0 _ _ _ hrow
  have hbl := lt_of_row hrow
  have HC1 := Lib.hid (fun w1 (hb : Below w.heap.size w w1) => show w1.cell? ⟨b, 1, none⟩ = some (.int .i64 1) from (hb.cell (p := ⟨b, 1, none⟩) hbl).trans (cell_of_row _ _ 1 _ _ _ hrow))
  have hTB : IsB [97, 98, 99, 100] := by unfold IsB; decide
  have CN := Lib.hid (newMachine_any gp (Rx.prog treeK).length cap [97, 98, 99, 100] hfew w)
  have CR := Lib.hid (fun (M : Nat) (w1 : World) (H : Mc w w1 M (Rx.prog treeK).length (.slice (some ⟨gp, 0, none⟩) (Rx.prog treeK).length cap) [97, 98, 99, 100] true 0 nilS [] Rx.start0) => run_any (T := [97, 98, 99, 100]) (keeps := true) hpg hG (by omega) hfew hTB (by decide) w1 H)
  rw [fitK] at CR
  obtain ⟨N, hN⟩ : ∃ N, (Rx.prog treeK).length = N := ⟨_, rfl⟩
  rw [hN] at c0 CN CR
  obtain ⟨RU, hRU⟩ : ∃ r, Rx.runM (Rx.prog treeK) [97, 98, 99, 100] true = r := ⟨_, rfl⟩
  have hpa := pathK
  rw [hRU] at CR hpa
  have HPA := Lib.hid hpa
  have CP := Lib.hid (fun (b1 b2 b3 b4 : Nat) (w : World) (H : Rc w b1 b2 b3 b4) => parts_known b1 b2 b3 b4 w H)
  obtain ⟨D, hD⟩ : ∃ D, strOf [97, 98, 99, 100] = D := ⟨_, rfl⟩
  rw [hD] at CN CP ⊢
  unfold ptr at CN CR CP ⊢
  clear hrow hpg hwf hG hpl hfew hbl hTB hN hRU hpa hD
  go_enter Tryd.func11, Tryd.ntmps11
  go_wp2_with fail
  refine CN.out.mono ?_
  rintro e w1 ⟨M, rfl, h1⟩
  have M2 := Lib.hid h1.keepsTrue
  obtain ⟨g, xv, fv, hv1⟩ := h1
  have c8 : w1.cell? ⟨M, 8, none⟩ = some (.bool false) := hv1.c 8
  have f8 := hv1.fz 8
  have CR2 := Lib.hid (CR.out M _ M2.out)
  clear hv1 CR CN
  go_wp2_with fail
  refine CR2.out.mono ?_
  rintro e w2 ⟨rfl, i2, nv, nl, h2⟩
  obtain ⟨g2, xv2, fv2, hv2⟩ := h2
  have hp := hv2.path
  rw [HPA.out] at hp
  obtain ⟨b1, b2, b3, b4, rfl, hrc⟩ := rc_of hp
  have m10 : w2.cell? ⟨M, 10, none⟩ = some (ptr b1) := hv2.c 10
  have x1 := HC1.out w2 hv2.below
  have HB2 := Lib.hid hv2.below
  have CP2 := Lib.hid (CP.out b1 b2 b3 b4 w2.drew (hrc.keep ⟨Nat.le_refl _, fun _ _ h => h⟩))
  unfold ptr at m10
  clear hv2 hp hrc CP HC1 M2 CR2 c8 f8
  go_upto_region 5 with (fail)
  go_still_tail 9, (by kernel_rfl)
  change wpList _ _ _ _ _ (World.drew _)
  go_wp2_with fail
  refine CP2.out.mono ?_
  rintro e w3 ⟨gr, rfl, hr, hb⟩
  have HB3 := Lib.hid (HB2.out.drew.trans (hb.mono HB2.out.size))
  have HR := Lib.hid hr
  clear hb hr
  go_wp2
  go_ret2
  exact ⟨gr, rfl, HR.out, HB3.out⟩
set_option maxHeartbeats 4000000 in
set_option maxRecDepth 100000 in
theorem same_known (g h : Nat) (A B : ByteArray) (w : World) (hg : w.heap[g]? = some (.cells #[.string A, .string B] 9 (0, 0))) (hh : w.heap[h]? = some (.cells #[.string A, .string B] 9 (0, 0))) :
    Calls Tryd.prog 15 #[.slice (some ⟨g, 0, none⟩) 2 2, .slice (some ⟨h, 0, none⟩) 2 2] w fun e w' => e = .returned (.bool true) ∧ Below w.heap.size w w' := by
  have g0 := cell_of_row _ _ 0 _ _ _ hg
  have g1 := cell_of_row _ _ 1 _ _ _ hg
  have h0 := cell_of_row _ _ 0 _ _ _ hh
  have h1 := cell_of_row _ _ 1 _ _ _ hh
  simp only [List.getElem?_toArray, List.getElem?_cons_zero, List.getElem?_cons_succ] at g0 g1 h0 h1
  clear hg hh
  go_enter Tryd.func15, Tryd.ntmps15
  go_wp2
  refine wp_loop_rounds 3 ?_
  rw [rounds_succ]
  go_wp2
  go_quiet (fail)
  go_wp2
  rw [rounds_succ]
  go_wp2
  go_quiet (fail)
  go_wp2
  rw [rounds_succ]
  go_wp2
  go_ret
  first | exact ⟨rfl, below_drewM w _⟩ | exact ⟨rfl, below_drewN (below_drewN (Below.refl _ _) _) _⟩
set_option maxHeartbeats 4000000 in
set_option maxRecDepth 100000 in
theorem known_any (w : World) (hT : TabAt w) : Calls Tryd.prog 6 #[] w fun e w' => e = .returned (.bool true) ∧ Below w.heap.size w w' := by
  have HT := Lib.hid (fun w1 (hb : Below w.heap.size w w1) => hT.below hb hT.lt)
  have hB1 : IsB patK := by unfold IsB patK; decide
  have hB2 : IsB [97, 123, 50, 44, 49, 125] := by unfold IsB; decide
  have C1 := compile_any patK hB1 w hT (by decide)
  rw [compileK] at C1
  have C2 := fun w1 hb => compile_any [97, 123, 50, 44, 49, 125] hB2 w1 (HT.out w1 hb) (by decide)
  rw [compileN] at C2
  unfold Cmp at C1 C2
  simp only at C1 C2
  rw [show ((80 : Nat) : Int) = 80 from rfl, show ((5 : Nat) : Int) = 5 from rfl] at C2
  have C1 := Lib.hid C1
  have C2 := Lib.hid C2
  have CG := Lib.hid (fun b w H => groups_known b w H)
  have CM1 := fun b w (H : Rgx w b treeK 1) => match_any b treeK 1 [97, 100] (by unfold IsB; decide) (by decide) w H
  have CM2 := fun b w (H : Rgx w b treeK 1) => match_any b treeK 1 [97, 98, 99] (by unfold IsB; decide) (by decide) w H
  have CM3 := fun b w (H : Rgx w b treeK 1) => match_any b treeK 1 [120, 97, 100] (by unfold IsB; decide) (by decide) w H
  rw [fitK1] at CM1
  rw [fitK2] at CM2
  rw [fitK3] at CM3
  have CM1 := Lib.hid CM1
  have CM2 := Lib.hid CM2
  have CM3 := Lib.hid CM3
  have CS := fun b w (H : Rgx w b treeK 1) => states_any b treeK 1 w H
  have CY := fun b w (H : Rgx w b treeK 1) => many_any b treeK 1 w H
  rw [statesK, show ((11 : Nat) : Int) = 11 from rfl] at CS
  rw [show ((1 : Nat) : Int) = 1 from rfl] at CY
  have CS := Lib.hid CS
  have CY := Lib.hid CY
  have CT := Lib.hid (fun g h A B w hg hh => same_known g h A B w hg hh)
  clear hT hB1 hB2
  unfold patK at C1
  unfold ptr at C1 CG CM1 CM2 CM3 CS CY
  have s1 : (ByteArray.mk #[97, 40, 98, 124, 99, 41, 42, 100]) = strOf [97, 40, 98, 124, 99, 41, 42, 100] := rfl
  have s2 : (ByteArray.mk #[97, 123, 50, 44, 49, 125]) = strOf [97, 123, 50, 44, 49, 125] := rfl
  have s3 : (ByteArray.mk #[97, 98, 99, 100]) = strOf [97, 98, 99, 100] := rfl
  have s4 : (ByteArray.mk #[97, 100]) = strOf [97, 100] := rfl
  have s5 : (ByteArray.mk #[97, 98, 99]) = strOf [97, 98, 99] := rfl
  have s6 : (ByteArray.mk #[120, 97, 100]) = strOf [120, 97, 100] := rfl
  have s7 : (ByteArray.mk #[99]) = strOf [99] := rfl
  rw [← s1] at C1
  rw [← s2] at C2
  rw [← s3, ← s7] at CG
  rw [← s4] at CM1
  rw [← s5] at CM2
  rw [← s6] at CM3
  clear s1 s2 s3 s4 s5 s6 s7
  go_enter Tryd.func6, Tryd.ntmps6
  go_wp2_with fail
  refine C1.out.mono ?_
  rintro e w1 ⟨hb, b, rfl, hx⟩
  have B1 := Lib.hid hb
  have X1 := Lib.hid hx
  have C2' := Lib.hid (C2.out w1 hb)
  clear hb hx C1 C2
  go_wp2_with fail
  refine C2'.out.mono ?_
  rintro e w2 ⟨hb, rfl⟩
  have B2 := Lib.hid (B1.out.trans (hb.mono B1.out.size))
  have X2 := Lib.hid (X1.out.below hb)
  clear hb
  go_wp2_with fail
  refine (CG.out b w2 X2.out).mono ?_
  rintro e w3 ⟨gr, rfl, hr, hb⟩
  have B3 := Lib.hid (B2.out.trans (hb.mono B2.out.size))
  have X3 := Lib.hid (X2.out.below hb)
  have R3 := Lib.hid hr
  clear hb hr
  go_wp2_with fail
  refine (CM1.out b w3 X3.out).mono ?_
  rintro e w4 ⟨rfl, hb⟩
  have B4 := Lib.hid (B3.out.trans (hb.mono B3.out.size))
  have X4 := Lib.hid (X3.out.below hb)
  have R4 := Lib.hid ((hb.block gr (lt_of_row R3.out)).trans R3.out)
  clear hb
  go_wp2_with fail
  refine (CM2.out b w4 X4.out).mono ?_
  rintro e w5 ⟨rfl, hb⟩
  have B5 := Lib.hid (B4.out.trans (hb.mono B4.out.size))
  have X5 := Lib.hid (X4.out.below hb)
  have R5 := Lib.hid ((hb.block gr (lt_of_row R4.out)).trans R4.out)
  clear hb
  go_wp2_with fail
  refine (CM3.out b w5 X5.out).mono ?_
  rintro e w6 ⟨rfl, hb⟩
  have B6 := Lib.hid (B5.out.trans (hb.mono B5.out.size))
  have X6 := Lib.hid (X5.out.below hb)
  have R6 := Lib.hid ((hb.block gr (lt_of_row R5.out)).trans R5.out)
  clear hb
  go_wp2_with fail
  refine (CS.out b w6 X6.out).mono ?_
  rintro e w7 ⟨rfl, rfl⟩
  go_wp2_with fail
  refine (CY.out b w7 X6.out).mono ?_
  rintro e w8 ⟨rfl, rfl⟩
  have hbA : Below w8.heap.size w8 (w8.alloc (.cells #[.string ⟨#[97, 98, 99, 100]⟩, .string ⟨#[99]⟩] 9)) := (Below.refl _ _).alloc (Nat.le_refl _) _
  have CT' := Lib.hid (CT.out gr w8.heap.size ⟨#[97, 98, 99, 100]⟩ ⟨#[99]⟩ _ ((hbA.block gr (lt_of_row R6.out)).trans R6.out) (heap_alloc_new w8 _))
  have B7 := Lib.hid (B6.out.trans (hbA.mono B6.out.size))
  clear hbA
  go_wp2_with fail
  refine CT'.out.mono ?_
  rintro e w9 ⟨rfl, hb⟩
  have B8 := Lib.hid (B7.out.trans (hb.mono B7.out.size))
  clear hb
  go_wp2
  go_ret
  exact ⟨rfl, B8.out⟩
end Go.Proofs.YtgjdeilclimpdaaDoor
namespace Go.Proofs.YtgjdeilclimpdaaDoor
open Go.RowKit
abbrev laid1 : List (String × DataW Unit) := Rows.regexWordRow.laid
def great1 : List String := []
noncomputable def startWorld (os : Os) : World := (World.doorLaid Tryd.prog 26 os).layVars Tryd.prog ((laid1.filter fun x => x.2.handleName?.isNone).filter fun x => great1.contains x.1)
theorem startWorld_os (os : Os) : (startWorld os).os = os := World.layVars_os _ _ _
set_option maxRecDepth 100000
noncomputable def apartBlocks (os : Os) : List Nat := (List.range (World.doorLaid Tryd.prog 26 os).heap.size).filter fun b => !(([] : List Nat).contains b)
theorem start_fits (os : Os) : (World.doorLaid Tryd.prog 26 os).layFits Tryd.prog ((laid1.filter fun x => x.2.handleName?.isNone).filter fun x => great1.contains x.1) (apartBlocks os) = true := by kernel_rfl
theorem start_ifaces (os : Os) : (World.doorLaid Tryd.prog 26 os).layIfaces Tryd.prog ((laid1.filter fun x => x.2.handleName?.isNone).filter fun x => great1.contains x.1) (startWorld os) = true := by kernel_rfl
theorem start_others (os : Os) : LaidIn Tryd.prog (startWorld os) ((laid1.filter fun x => x.2.handleName?.isNone).filter fun x => !great1.contains x.1) (apartBlocks os) :=
  LaidIn.of_run (apartBlocks os) 8 (by kernel_rfl) (by kernel_rfl) (by kernel_rfl) (by kernel_rfl)
theorem start_met (os : Os) : laidMetH Tryd.prog laid1 (startWorld os) :=
  laidMetH_of_parts3 (fuel := 8) (laidMet_layVars (w0 := World.doorLaid Tryd.prog 26 os) great1 (apartBlocks os) rfl (start_fits os) (start_ifaces os) (start_others os)) (by kernel_rfl) (by kernel_rfl)
theorem door_met (os : Os) (args : Array Value) : laidMetH Tryd.prog laid1 ((startWorld os).forCall (fun _ _ => 0) ⟨#[], args, []⟩).memory :=
  laidMetH.of_heap (by simp [World.memory, World.forCall, Input.heap]) (start_met os)
#print axioms door_met
end Go.Proofs.YtgjdeilclimpdaaDoor
namespace Go.Proofs.YtgjdeilclimpdaaDoor
open Go.RowKit
set_option maxRecDepth 100000
theorem start_shaped (os : Os) (args : Array Value) : ((startWorld os).forCall (fun _ _ => 0) ⟨#[], args, []⟩).Shaped Tryd.prog := World.shaped_of_ZipB (by kernel_rfl) (by kernel_rfl)
end Go.Proofs.YtgjdeilclimpdaaDoor
namespace Go.Proofs.YtgjdeilclimpdaaDoor
set_option linter.unusedVariables false
set_option linter.unusedSimpArgs false
open Go.RowKit Go.ChangeShapes Go.WideShapes Go.ChangeAt Go.WideMaps Go.WideElems
theorem one_laid {W : World} (h : laidMetH Tryd.prog laid1 W) (n : String) (d : DataW Unit) (he : laid1.filter (fun x => x.1 == n) = [(n, d)]) (hp : ([(n, d)].all fun x => x.2.handleName?.isNone) = true) : laidMet Tryd.prog [(n, d)] W := by
  have h1 := h.filter (fun x => x.1 == n)
  rw [he, MakeChecks.laidMetH_plain _ _ _ hp] at h1
  exact h1
set_option maxRecDepth 100000 in
theorem laid_tab {W : World} (h : laidMetH Tryd.prog laid1 W) : TabAt W := by
  obtain ⟨ps, ⟨g', t', cs, fuel, p, q, hg', ht', hv, hd, _, _⟩, _⟩ := one_laid h "math/bits.deBruijn64tab" Rows.laid_math_bits_deBruijn64tab (by kernel_rfl) (by kernel_rfl)
  have hg : Tryd.prog.globalNamed "math/bits.deBruijn64tab" = some 1 := by kernel_rfl
  obtain rfl := Option.some.inj (hg.symm.trans hg')
  obtain rfl := Option.some.inj ((show (Tryd.prog.globals[1]?).map (·.type) = some 118 by kernel_rfl).symm.trans ht')
  have e := Lib.cells_of_tab (t := 118) (e := 5) (n := 64) (k := .u8) (zs := Lib.deBruijn64tab.map fun (x : Nat) => (x : Int)) (by kernel_rfl) (by kernel_rfl) (by kernel_rfl) (by kernel_rfl) (show DataW.trod (fun _ => ()) Tryd.prog W 0 (fun _ => true) false fuel 118 cs.toList = some (Lib.tabData .u8 (Lib.deBruijn64tab.map fun (x : Nat) => (x : Int)), p) from hd)
  intro j hj
  rw [World.var?_cell hg hv j, ← Array.getElem?_toList, e]
  simp [List.getElem?_map, List.getD, List.getElem?_eq_getElem hj]
end Go.Proofs.YtgjdeilclimpdaaDoor
