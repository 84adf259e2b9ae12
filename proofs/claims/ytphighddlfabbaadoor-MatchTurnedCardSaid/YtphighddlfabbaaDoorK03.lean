/-
  PACKED: WaC, ShA, WaD, WaE
-/
import Derived.Test.YtphighddlfabbaaDoorK02
import Derived.Test.YtphighddlfabbaaDoorProg
import Derived.Shelf.Small.Strs
import Derived.Shelf.Strings.Search1
import Derived.Shelf.Strings.Prefix
import Derived.Lib.IndexAny
namespace Go.Proofs.YtphighddlfabbaaDoor
set_option linter.unusedVariables false
set_option linter.unusedSimpArgs false
open Go.RowKit Go.PlainAid
open Rx (Set4)
theorem setV_eq (x : Set4) : setV x = .agg #[.int .u64 ((x.a : Nat) : Int), .int .u64 ((x.b : Nat) : Int), .int .u64 ((x.c : Nat) : Int), .int .u64 ((x.d : Nat) : Int)] := rfl
theorem lay_set (w : World) (x : Set4) : (w.alloc (.cells #[.int .u64 ((x.a : Nat) : Int), .int .u64 ((x.b : Nat) : Int), .int .u64 ((x.c : Nat) : Int), .int .u64 ((x.d : Nat) : Int)] 65)).heap[w.heap.size]? = some (.cells (setC x) 65 (0, 0)) := heap_alloc_new w _
set_option maxHeartbeats 4000000 in
set_option maxRecDepth 100000 in
theorem meaning_110 (w : World) : Calls Tryd.prog 69 #[.int .u8 110] w fun e w' => e = .returned (setV (Rx.meaning 110)) ∧ Below w.heap.size w w' := by
  have CS := Lib.hid (fun f t hf ht w1 => span_any f t hf ht w1)
  have CJ := Lib.hid (fun x y hx hy w1 => join_any x y hx hy w1)
  have CO := Lib.hid (fun c hc w1 => only_any c hc w1)
  have CH := Lib.hid (fun x hx c hc w1 => has_any x hx c hc w1)
  have HL := Lib.hid (laid_none w)
  have HY := Lib.hid (fun w x => lay_set w x)
  have HZ := Lib.hid (fun X => show (setC Set4.none).size = (setC X).size from rfl)
  have HO := Lib.hid setC_one
  go_enter Tryd.func69, Tryd.ntmps69
  go_wp2_with fail
  refine (CS.out 48 57 (by decide) (by decide) _).mono ?_
  rintro e w1 ⟨rfl, hb1⟩
  rw [setV_eq]
  have h1 := (hb1.block _ (by simp)).trans HL.out
  have B1 := Lib.hid (((Below.refl _ w).alloc (Nat.le_refl _) _).trans (hb1.mono (by simp)))
  have z1 : w.heap.size < w1.heap.size := by have := hb1.size; simp at this; omega
  clear hb1
  go_wp2_with fail
  refine (CS.out 97 122 (by decide) (by decide) _).mono ?_
  rintro e w2 ⟨rfl, hb2⟩
  have h2 := (hb2.block w.heap.size (by simp; omega)).trans ((Below.heap_alloc _ _ _ z1).trans h1)
  have d2 := (hb2.block w1.heap.size (by simp)).trans (HY.out w1 Rx.setD)
  have B2 := Lib.hid (B1.out.trans ((((Below.refl _ w1).alloc (Nat.le_refl _) _).trans (hb2.mono (by simp))).mono (Nat.le_of_lt z1)))
  have z2 : w1.heap.size < w2.heap.size := by have := hb2.size; simp at this; omega
  clear hb2
  clear h1 B1
  go_wp2_with fail
  refine (CS.out 65 90 (by decide) (by decide) _).mono ?_
  rintro e w3 ⟨rfl, hb3⟩
  go_wp2_with fail
  refine (CJ.out _ _ (span_ok _ _) (span_ok _ _) _).mono ?_
  rintro e w4 ⟨rfl, hb4⟩
  have hb := hb3.trans (hb4.mono hb3.size)
  rw [setV_eq]
  have h4 := (hb.block w.heap.size (by omega)).trans h2
  have d4 := (hb.block w1.heap.size (by omega)).trans d2
  have z4 : w2.heap.size ≤ w4.heap.size := hb.size
  have B4 := Lib.hid (B2.out.trans (hb.mono (by omega)))
  clear hb hb3 hb4 h2 d2 B2
  have HD : (Set4.span 97 122).join (Set4.span 65 90) = Rx.setL := rfl
  rw [HD]
  clear HD
  have hw5 : ∀ o, Below w4.heap.size w4 (w4.alloc o) := fun o => (Below.refl _ w4).alloc (Nat.le_refl _) o
  have HY4 := Lib.hid (HY.out w4 Rx.setL)
  have h5 := Lib.hid (fun o => ((hw5 o).block w.heap.size (by omega)).trans h4)
  have d5 := Lib.hid (fun o => ((hw5 o).block w1.heap.size (by omega)).trans d4)
  have B5 := Lib.hid (fun o => B4.out.trans ((hw5 o).mono (by omega)))
  clear hw5 h4 d4 B4
  go_wp2_with fail
  refine (CO.out 10 (by decide) _).mono ?_
  rintro e w6 ⟨rfl, hb6⟩
  have h6 := (hb6.block w.heap.size (by simp; omega)).trans (h5.out _)
  have B6 := Lib.hid ((B5.out _).trans (hb6.mono (by simp; omega)))
  clear hb6
  obtain ⟨X, hX⟩ : ∃ X, Set4.only 10 = X := ⟨_, rfl⟩
  have HE := Lib.hid (show setV (Rx.meaning 110) = .agg (setC X) by rw [← hX]; rfl)
  rw [hX]
  clear hX
  unfold setV
  have hn := setRow_heap w6 w.heap.size (setC Set4.none) (setC X) 65 (0, 0) h6
  have h2' := h6
  go_wp2_with (refine wpList_store_row rfl 65 (.tmp 2) (.tmp 12) rfl w.heap.size (setC X) rfl rfl 65 (setC Set4.none) h2' (by kernel_rfl) (HZ.out X) (HO.out X) ?_)
  refine bodyPost_ret (v := .agg (setC X)) ?_ ?_ ?_
  · exact results_cell_row rfl _ _ w.heap.size 65 (setC X) (0, 0) _ rfl hn Tryd.underlying65 rfl (by kernel_rfl)
  · rfl
  · exact ⟨by rw [HE.out], below_setRow (B6.out) (Nat.le_refl _) (setC X)⟩
set_option maxHeartbeats 4000000 in
set_option maxRecDepth 100000 in
theorem meaning_116 (w : World) : Calls Tryd.prog 69 #[.int .u8 116] w fun e w' => e = .returned (setV (Rx.meaning 116)) ∧ Below w.heap.size w w' := by
  have CS := Lib.hid (fun f t hf ht w1 => span_any f t hf ht w1)
  have CJ := Lib.hid (fun x y hx hy w1 => join_any x y hx hy w1)
  have CO := Lib.hid (fun c hc w1 => only_any c hc w1)
  have CH := Lib.hid (fun x hx c hc w1 => has_any x hx c hc w1)
  have HL := Lib.hid (laid_none w)
  have HY := Lib.hid (fun w x => lay_set w x)
  have HZ := Lib.hid (fun X => show (setC Set4.none).size = (setC X).size from rfl)
  have HO := Lib.hid setC_one
  go_enter Tryd.func69, Tryd.ntmps69
  go_wp2_with fail
  refine (CS.out 48 57 (by decide) (by decide) _).mono ?_
  rintro e w1 ⟨rfl, hb1⟩
  rw [setV_eq]
  have h1 := (hb1.block _ (by simp)).trans HL.out
  have B1 := Lib.hid (((Below.refl _ w).alloc (Nat.le_refl _) _).trans (hb1.mono (by simp)))
  have z1 : w.heap.size < w1.heap.size := by have := hb1.size; simp at this; omega
  clear hb1
  go_wp2_with fail
  refine (CS.out 97 122 (by decide) (by decide) _).mono ?_
  rintro e w2 ⟨rfl, hb2⟩
  have h2 := (hb2.block w.heap.size (by simp; omega)).trans ((Below.heap_alloc _ _ _ z1).trans h1)
  have d2 := (hb2.block w1.heap.size (by simp)).trans (HY.out w1 Rx.setD)
  have B2 := Lib.hid (B1.out.trans ((((Below.refl _ w1).alloc (Nat.le_refl _) _).trans (hb2.mono (by simp))).mono (Nat.le_of_lt z1)))
  have z2 : w1.heap.size < w2.heap.size := by have := hb2.size; simp at this; omega
  clear hb2
  clear h1 B1
  go_wp2_with fail
  refine (CS.out 65 90 (by decide) (by decide) _).mono ?_
  rintro e w3 ⟨rfl, hb3⟩
  go_wp2_with fail
  refine (CJ.out _ _ (span_ok _ _) (span_ok _ _) _).mono ?_
  rintro e w4 ⟨rfl, hb4⟩
  have hb := hb3.trans (hb4.mono hb3.size)
  rw [setV_eq]
  have h4 := (hb.block w.heap.size (by omega)).trans h2
  have d4 := (hb.block w1.heap.size (by omega)).trans d2
  have z4 : w2.heap.size ≤ w4.heap.size := hb.size
  have B4 := Lib.hid (B2.out.trans (hb.mono (by omega)))
  clear hb hb3 hb4 h2 d2 B2
  have HD : (Set4.span 97 122).join (Set4.span 65 90) = Rx.setL := rfl
  rw [HD]
  clear HD
  have hw5 : ∀ o, Below w4.heap.size w4 (w4.alloc o) := fun o => (Below.refl _ w4).alloc (Nat.le_refl _) o
  have HY4 := Lib.hid (HY.out w4 Rx.setL)
  have h5 := Lib.hid (fun o => ((hw5 o).block w.heap.size (by omega)).trans h4)
  have d5 := Lib.hid (fun o => ((hw5 o).block w1.heap.size (by omega)).trans d4)
  have B5 := Lib.hid (fun o => B4.out.trans ((hw5 o).mono (by omega)))
  clear hw5 h4 d4 B4
  go_wp2_with fail
  refine (CO.out 9 (by decide) _).mono ?_
  rintro e w6 ⟨rfl, hb6⟩
  have h6 := (hb6.block w.heap.size (by simp; omega)).trans (h5.out _)
  have B6 := Lib.hid ((B5.out _).trans (hb6.mono (by simp; omega)))
  clear hb6
  obtain ⟨X, hX⟩ : ∃ X, Set4.only 9 = X := ⟨_, rfl⟩
  have HE := Lib.hid (show setV (Rx.meaning 116) = .agg (setC X) by rw [← hX]; rfl)
  rw [hX]
  clear hX
  unfold setV
  have hn := setRow_heap w6 w.heap.size (setC Set4.none) (setC X) 65 (0, 0) h6
  have h2' := h6
  go_wp2_with (refine wpList_store_row rfl 65 (.tmp 2) (.tmp 15) rfl w.heap.size (setC X) rfl rfl 65 (setC Set4.none) h2' (by kernel_rfl) (HZ.out X) (HO.out X) ?_)
  refine bodyPost_ret (v := .agg (setC X)) ?_ ?_ ?_
  · exact results_cell_row rfl _ _ w.heap.size 65 (setC X) (0, 0) _ rfl hn Tryd.underlying65 rfl (by kernel_rfl)
  · rfl
  · exact ⟨by rw [HE.out], below_setRow (B6.out) (Nat.le_refl _) (setC X)⟩
set_option maxHeartbeats 4000000 in
set_option maxRecDepth 100000 in
theorem meaning_114 (w : World) : Calls Tryd.prog 69 #[.int .u8 114] w fun e w' => e = .returned (setV (Rx.meaning 114)) ∧ Below w.heap.size w w' := by
  have CS := Lib.hid (fun f t hf ht w1 => span_any f t hf ht w1)
  have CJ := Lib.hid (fun x y hx hy w1 => join_any x y hx hy w1)
  have CO := Lib.hid (fun c hc w1 => only_any c hc w1)
  have CH := Lib.hid (fun x hx c hc w1 => has_any x hx c hc w1)
  have HL := Lib.hid (laid_none w)
  have HY := Lib.hid (fun w x => lay_set w x)
  have HZ := Lib.hid (fun X => show (setC Set4.none).size = (setC X).size from rfl)
  have HO := Lib.hid setC_one
  go_enter Tryd.func69, Tryd.ntmps69
  go_wp2_with fail
  refine (CS.out 48 57 (by decide) (by decide) _).mono ?_
  rintro e w1 ⟨rfl, hb1⟩
  rw [setV_eq]
  have h1 := (hb1.block _ (by simp)).trans HL.out
  have B1 := Lib.hid (((Below.refl _ w).alloc (Nat.le_refl _) _).trans (hb1.mono (by simp)))
  have z1 : w.heap.size < w1.heap.size := by have := hb1.size; simp at this; omega
  clear hb1
  go_wp2_with fail
  refine (CS.out 97 122 (by decide) (by decide) _).mono ?_
  rintro e w2 ⟨rfl, hb2⟩
  have h2 := (hb2.block w.heap.size (by simp; omega)).trans ((Below.heap_alloc _ _ _ z1).trans h1)
  have d2 := (hb2.block w1.heap.size (by simp)).trans (HY.out w1 Rx.setD)
  have B2 := Lib.hid (B1.out.trans ((((Below.refl _ w1).alloc (Nat.le_refl _) _).trans (hb2.mono (by simp))).mono (Nat.le_of_lt z1)))
  have z2 : w1.heap.size < w2.heap.size := by have := hb2.size; simp at this; omega
  clear hb2
  clear h1 B1
  go_wp2_with fail
  refine (CS.out 65 90 (by decide) (by decide) _).mono ?_
  rintro e w3 ⟨rfl, hb3⟩
  go_wp2_with fail
  refine (CJ.out _ _ (span_ok _ _) (span_ok _ _) _).mono ?_
  rintro e w4 ⟨rfl, hb4⟩
  have hb := hb3.trans (hb4.mono hb3.size)
  rw [setV_eq]
  have h4 := (hb.block w.heap.size (by omega)).trans h2
  have d4 := (hb.block w1.heap.size (by omega)).trans d2
  have z4 : w2.heap.size ≤ w4.heap.size := hb.size
  have B4 := Lib.hid (B2.out.trans (hb.mono (by omega)))
  clear hb hb3 hb4 h2 d2 B2
  have HD : (Set4.span 97 122).join (Set4.span 65 90) = Rx.setL := rfl
  rw [HD]
  clear HD
  have hw5 : ∀ o, Below w4.heap.size w4 (w4.alloc o) := fun o => (Below.refl _ w4).alloc (Nat.le_refl _) o
  have HY4 := Lib.hid (HY.out w4 Rx.setL)
  have h5 := Lib.hid (fun o => ((hw5 o).block w.heap.size (by omega)).trans h4)
  have d5 := Lib.hid (fun o => ((hw5 o).block w1.heap.size (by omega)).trans d4)
  have B5 := Lib.hid (fun o => B4.out.trans ((hw5 o).mono (by omega)))
  clear hw5 h4 d4 B4
  go_wp2_with fail
  refine (CO.out 13 (by decide) _).mono ?_
  rintro e w6 ⟨rfl, hb6⟩
  have h6 := (hb6.block w.heap.size (by simp; omega)).trans (h5.out _)
  have B6 := Lib.hid ((B5.out _).trans (hb6.mono (by simp; omega)))
  clear hb6
  obtain ⟨X, hX⟩ : ∃ X, Set4.only 13 = X := ⟨_, rfl⟩
  have HE := Lib.hid (show setV (Rx.meaning 114) = .agg (setC X) by rw [← hX]; rfl)
  rw [hX]
  clear hX
  unfold setV
  have hn := setRow_heap w6 w.heap.size (setC Set4.none) (setC X) 65 (0, 0) h6
  have h2' := h6
  go_wp2_with (refine wpList_store_row rfl 65 (.tmp 2) (.tmp 18) rfl w.heap.size (setC X) rfl rfl 65 (setC Set4.none) h2' (by kernel_rfl) (HZ.out X) (HO.out X) ?_)
  refine bodyPost_ret (v := .agg (setC X)) ?_ ?_ ?_
  · exact results_cell_row rfl _ _ w.heap.size 65 (setC X) (0, 0) _ rfl hn Tryd.underlying65 rfl (by kernel_rfl)
  · rfl
  · exact ⟨by rw [HE.out], below_setRow (B6.out) (Nat.le_refl _) (setC X)⟩
set_option maxHeartbeats 4000000 in
set_option maxRecDepth 100000 in
theorem meaning_100 (w : World) : Calls Tryd.prog 69 #[.int .u8 100] w fun e w' => e = .returned (setV (Rx.meaning 100)) ∧ Below w.heap.size w w' := by
  have CS := Lib.hid (fun f t hf ht w1 => span_any f t hf ht w1)
  have CJ := Lib.hid (fun x y hx hy w1 => join_any x y hx hy w1)
  have CO := Lib.hid (fun c hc w1 => only_any c hc w1)
  have CH := Lib.hid (fun x hx c hc w1 => has_any x hx c hc w1)
  have HL := Lib.hid (laid_none w)
  have HY := Lib.hid (fun w x => lay_set w x)
  have HZ := Lib.hid (fun X => show (setC Set4.none).size = (setC X).size from rfl)
  have HO := Lib.hid setC_one
  go_enter Tryd.func69, Tryd.ntmps69
  go_wp2_with fail
  refine (CS.out 48 57 (by decide) (by decide) _).mono ?_
  rintro e w1 ⟨rfl, hb1⟩
  rw [setV_eq]
  have h1 := (hb1.block _ (by simp)).trans HL.out
  have B1 := Lib.hid (((Below.refl _ w).alloc (Nat.le_refl _) _).trans (hb1.mono (by simp)))
  have z1 : w.heap.size < w1.heap.size := by have := hb1.size; simp at this; omega
  clear hb1
  go_wp2_with fail
  refine (CS.out 97 122 (by decide) (by decide) _).mono ?_
  rintro e w2 ⟨rfl, hb2⟩
  have h2 := (hb2.block w.heap.size (by simp; omega)).trans ((Below.heap_alloc _ _ _ z1).trans h1)
  have d2 := (hb2.block w1.heap.size (by simp)).trans (HY.out w1 Rx.setD)
  have B2 := Lib.hid (B1.out.trans ((((Below.refl _ w1).alloc (Nat.le_refl _) _).trans (hb2.mono (by simp))).mono (Nat.le_of_lt z1)))
  have z2 : w1.heap.size < w2.heap.size := by have := hb2.size; simp at this; omega
  clear hb2
  clear h1 B1
  go_wp2_with fail
  refine (CS.out 65 90 (by decide) (by decide) _).mono ?_
  rintro e w3 ⟨rfl, hb3⟩
  go_wp2_with fail
  refine (CJ.out _ _ (span_ok _ _) (span_ok _ _) _).mono ?_
  rintro e w4 ⟨rfl, hb4⟩
  have hb := hb3.trans (hb4.mono hb3.size)
  rw [setV_eq]
  have h4 := (hb.block w.heap.size (by omega)).trans h2
  have d4 := (hb.block w1.heap.size (by omega)).trans d2
  have z4 : w2.heap.size ≤ w4.heap.size := hb.size
  have B4 := Lib.hid (B2.out.trans (hb.mono (by omega)))
  clear hb hb3 hb4 h2 d2 B2
  have HD : (Set4.span 97 122).join (Set4.span 65 90) = Rx.setL := rfl
  rw [HD]
  clear HD
  have hw5 : ∀ o, Below w4.heap.size w4 (w4.alloc o) := fun o => (Below.refl _ w4).alloc (Nat.le_refl _) o
  have HY4 := Lib.hid (HY.out w4 Rx.setL)
  have h5 := Lib.hid (fun o => ((hw5 o).block w.heap.size (by omega)).trans h4)
  have d5 := Lib.hid (fun o => ((hw5 o).block w1.heap.size (by omega)).trans d4)
  have B5 := Lib.hid (fun o => B4.out.trans ((hw5 o).mono (by omega)))
  clear hw5 h4 d4 B4
  have h6 := h5.out (.cells #[Value.int .u64 ((Rx.setL.a : Nat) : Int), .int .u64 ((Rx.setL.b : Nat) : Int), .int .u64 ((Rx.setL.c : Nat) : Int), .int .u64 ((Rx.setL.d : Nat) : Int)] 65)
  have d6 := d5.out (.cells #[Value.int .u64 ((Rx.setL.a : Nat) : Int), .int .u64 ((Rx.setL.b : Nat) : Int), .int .u64 ((Rx.setL.c : Nat) : Int), .int .u64 ((Rx.setL.d : Nat) : Int)] 65)
  have B6 := Lib.hid (B5.out (.cells #[Value.int .u64 ((Rx.setL.a : Nat) : Int), .int .u64 ((Rx.setL.b : Nat) : Int), .int .u64 ((Rx.setL.c : Nat) : Int), .int .u64 ((Rx.setL.d : Nat) : Int)] 65))
  have hn := setRow_heap (w4.alloc (.cells #[Value.int .u64 ((Rx.setL.a : Nat) : Int), .int .u64 ((Rx.setL.b : Nat) : Int), .int .u64 ((Rx.setL.c : Nat) : Int), .int .u64 ((Rx.setL.d : Nat) : Int)] 65)) w.heap.size (setC Set4.none) (setC Rx.setD) 65 (0, 0) h6
  go_wp2_with (first | (refine wpList_load_row rfl 65 (.tmp 3) rfl (w1.heap.size) rfl 65 (setC Rx.setD) (0, 0) _ d6 Tryd.underlying65 rfl (by kernel_rfl) ?_) | (refine wpList_store_row rfl 65 (.tmp 2) (.tmp 21) rfl w.heap.size (setC Rx.setD) rfl rfl 65 (setC Set4.none) h6 (by kernel_rfl) (HZ.out Rx.setD) (HO.out Rx.setD) ?_))
  refine bodyPost_ret (v := .agg (setC Rx.setD)) ?_ ?_ ?_
  · exact results_cell_row rfl _ _ w.heap.size 65 (setC Rx.setD) (0, 0) _ rfl hn Tryd.underlying65 rfl (by kernel_rfl)
  · rfl
  · exact ⟨rfl, below_setRow (B6.out) (Nat.le_refl _) (setC Rx.setD)⟩
set_option maxHeartbeats 4000000 in
set_option maxRecDepth 100000 in
theorem meaning_119 (w : World) : Calls Tryd.prog 69 #[.int .u8 119] w fun e w' => e = .returned (setV (Rx.meaning 119)) ∧ Below w.heap.size w w' := by
  have CS := Lib.hid (fun f t hf ht w1 => span_any f t hf ht w1)
  have CJ := Lib.hid (fun x y hx hy w1 => join_any x y hx hy w1)
  have CO := Lib.hid (fun c hc w1 => only_any c hc w1)
  have CH := Lib.hid (fun x hx c hc w1 => has_any x hx c hc w1)
  have HL := Lib.hid (laid_none w)
  have HY := Lib.hid (fun w x => lay_set w x)
  have HZ := Lib.hid (fun X => show (setC Set4.none).size = (setC X).size from rfl)
  have HO := Lib.hid setC_one
  go_enter Tryd.func69, Tryd.ntmps69
  go_wp2_with fail
  refine (CS.out 48 57 (by decide) (by decide) _).mono ?_
  rintro e w1 ⟨rfl, hb1⟩
  rw [setV_eq]
  have h1 := (hb1.block _ (by simp)).trans HL.out
  have B1 := Lib.hid (((Below.refl _ w).alloc (Nat.le_refl _) _).trans (hb1.mono (by simp)))
  have z1 : w.heap.size < w1.heap.size := by have := hb1.size; simp at this; omega
  clear hb1
  go_wp2_with fail
  refine (CS.out 97 122 (by decide) (by decide) _).mono ?_
  rintro e w2 ⟨rfl, hb2⟩
  have h2 := (hb2.block w.heap.size (by simp; omega)).trans ((Below.heap_alloc _ _ _ z1).trans h1)
  have d2 := (hb2.block w1.heap.size (by simp)).trans (HY.out w1 Rx.setD)
  have B2 := Lib.hid (B1.out.trans ((((Below.refl _ w1).alloc (Nat.le_refl _) _).trans (hb2.mono (by simp))).mono (Nat.le_of_lt z1)))
  have z2 : w1.heap.size < w2.heap.size := by have := hb2.size; simp at this; omega
  clear hb2
  clear h1 B1
  go_wp2_with fail
  refine (CS.out 65 90 (by decide) (by decide) _).mono ?_
  rintro e w3 ⟨rfl, hb3⟩
  go_wp2_with fail
  refine (CJ.out _ _ (span_ok _ _) (span_ok _ _) _).mono ?_
  rintro e w4 ⟨rfl, hb4⟩
  have hb := hb3.trans (hb4.mono hb3.size)
  rw [setV_eq]
  have h4 := (hb.block w.heap.size (by omega)).trans h2
  have d4 := (hb.block w1.heap.size (by omega)).trans d2
  have z4 : w2.heap.size ≤ w4.heap.size := hb.size
  have B4 := Lib.hid (B2.out.trans (hb.mono (by omega)))
  clear hb hb3 hb4 h2 d2 B2
  have HD : (Set4.span 97 122).join (Set4.span 65 90) = Rx.setL := rfl
  rw [HD]
  clear HD
  have hw5 : ∀ o, Below w4.heap.size w4 (w4.alloc o) := fun o => (Below.refl _ w4).alloc (Nat.le_refl _) o
  have HY4 := Lib.hid (HY.out w4 Rx.setL)
  have h5 := Lib.hid (fun o => ((hw5 o).block w.heap.size (by omega)).trans h4)
  have d5 := Lib.hid (fun o => ((hw5 o).block w1.heap.size (by omega)).trans d4)
  have B5 := Lib.hid (fun o => B4.out.trans ((hw5 o).mono (by omega)))
  clear hw5 h4 d4 B4
  have h6 := h5.out (.cells #[Value.int .u64 ((Rx.setL.a : Nat) : Int), .int .u64 ((Rx.setL.b : Nat) : Int), .int .u64 ((Rx.setL.c : Nat) : Int), .int .u64 ((Rx.setL.d : Nat) : Int)] 65)
  have d6 := d5.out (.cells #[Value.int .u64 ((Rx.setL.a : Nat) : Int), .int .u64 ((Rx.setL.b : Nat) : Int), .int .u64 ((Rx.setL.c : Nat) : Int), .int .u64 ((Rx.setL.d : Nat) : Int)] 65)
  have l6 := HY4.out
  have B6 := Lib.hid (B5.out (.cells #[Value.int .u64 ((Rx.setL.a : Nat) : Int), .int .u64 ((Rx.setL.b : Nat) : Int), .int .u64 ((Rx.setL.c : Nat) : Int), .int .u64 ((Rx.setL.d : Nat) : Int)] 65))
  go_wp2_with (first | (refine wpList_load_row rfl 65 (.tmp 4) rfl (w4.heap.size) rfl 65 (setC Rx.setL) (0, 0) _ l6 Tryd.underlying65 rfl (by kernel_rfl) ?_) | (refine wpList_load_row rfl 65 (.tmp 3) rfl (w1.heap.size) rfl 65 (setC Rx.setD) (0, 0) _ d6 Tryd.underlying65 rfl (by kernel_rfl) ?_))
  refine (CJ.out Rx.setL Rx.setD (join_ok (span_ok _ _) (span_ok _ _)) (span_ok _ _) _).mono ?_
  rintro e w6 ⟨rfl, hb6⟩
  go_wp2_with fail
  refine (CO.out 95 (by decide) _).mono ?_
  rintro e w7 ⟨rfl, hb7⟩
  go_wp2_with fail
  refine (CJ.out (Rx.setL.join Rx.setD) (Set4.only 95) (join_ok (join_ok (span_ok _ _) (span_ok _ _)) (span_ok _ _)) (only_ok _) _).mono ?_
  rintro e w8 ⟨rfl, hb8⟩
  have hb := (hb6.trans (hb7.mono hb6.size)).trans (hb8.mono (Nat.le_trans hb6.size hb7.size))
  have h8 := (hb.block w.heap.size (by simp; omega)).trans h6
  have B8 := Lib.hid (B6.out.trans (hb.mono (by simp; omega)))
  clear hb hb6 hb7 hb8
  obtain ⟨X, hX⟩ : ∃ X, (Rx.setL.join Rx.setD).join (Set4.only 95) = X := ⟨_, rfl⟩
  have HE := Lib.hid (show setV (Rx.meaning 119) = .agg (setC X) by rw [← hX]; rfl)
  rw [hX]
  clear hX
  unfold setV
  have hn := setRow_heap w8 w.heap.size (setC Set4.none) (setC X) 65 (0, 0) h8
  have h2' := h8
  go_wp2_with (refine wpList_store_row rfl 65 (.tmp 2) (.tmp 28) rfl w.heap.size (setC X) rfl rfl 65 (setC Set4.none) h2' (by kernel_rfl) (HZ.out X) (HO.out X) ?_)
  refine bodyPost_ret (v := .agg (setC X)) ?_ ?_ ?_
  · exact results_cell_row rfl _ _ w.heap.size 65 (setC X) (0, 0) _ rfl hn Tryd.underlying65 rfl (by kernel_rfl)
  · rfl
  · exact ⟨by rw [HE.out], below_setRow (B8.out) (Nat.le_refl _) (setC X)⟩
set_option maxHeartbeats 4000000 in
set_option maxRecDepth 100000 in
theorem meaning_115 (w : World) : Calls Tryd.prog 69 #[.int .u8 115] w fun e w' => e = .returned (setV (Rx.meaning 115)) ∧ Below w.heap.size w w' := by
  have CS := Lib.hid (fun f t hf ht w1 => span_any f t hf ht w1)
  have CJ := Lib.hid (fun x y hx hy w1 => join_any x y hx hy w1)
  have CO := Lib.hid (fun c hc w1 => only_any c hc w1)
  have CH := Lib.hid (fun x hx c hc w1 => has_any x hx c hc w1)
  have HL := Lib.hid (laid_none w)
  have HY := Lib.hid (fun w x => lay_set w x)
  have HZ := Lib.hid (fun X => show (setC Set4.none).size = (setC X).size from rfl)
  have HO := Lib.hid setC_one
  go_enter Tryd.func69, Tryd.ntmps69
  go_wp2_with fail
  refine (CS.out 48 57 (by decide) (by decide) _).mono ?_
  rintro e w1 ⟨rfl, hb1⟩
  rw [setV_eq]
  have h1 := (hb1.block _ (by simp)).trans HL.out
  have B1 := Lib.hid (((Below.refl _ w).alloc (Nat.le_refl _) _).trans (hb1.mono (by simp)))
  have z1 : w.heap.size < w1.heap.size := by have := hb1.size; simp at this; omega
  clear hb1
  go_wp2_with fail
  refine (CS.out 97 122 (by decide) (by decide) _).mono ?_
  rintro e w2 ⟨rfl, hb2⟩
  have h2 := (hb2.block w.heap.size (by simp; omega)).trans ((Below.heap_alloc _ _ _ z1).trans h1)
  have d2 := (hb2.block w1.heap.size (by simp)).trans (HY.out w1 Rx.setD)
  have B2 := Lib.hid (B1.out.trans ((((Below.refl _ w1).alloc (Nat.le_refl _) _).trans (hb2.mono (by simp))).mono (Nat.le_of_lt z1)))
  have z2 : w1.heap.size < w2.heap.size := by have := hb2.size; simp at this; omega
  clear hb2
  clear h1 B1
  go_wp2_with fail
  refine (CS.out 65 90 (by decide) (by decide) _).mono ?_
  rintro e w3 ⟨rfl, hb3⟩
  go_wp2_with fail
  refine (CJ.out _ _ (span_ok _ _) (span_ok _ _) _).mono ?_
  rintro e w4 ⟨rfl, hb4⟩
  have hb := hb3.trans (hb4.mono hb3.size)
  rw [setV_eq]
  have h4 := (hb.block w.heap.size (by omega)).trans h2
  have d4 := (hb.block w1.heap.size (by omega)).trans d2
  have z4 : w2.heap.size ≤ w4.heap.size := hb.size
  have B4 := Lib.hid (B2.out.trans (hb.mono (by omega)))
  clear hb hb3 hb4 h2 d2 B2
  have HD : (Set4.span 97 122).join (Set4.span 65 90) = Rx.setL := rfl
  rw [HD]
  clear HD
  have hw5 : ∀ o, Below w4.heap.size w4 (w4.alloc o) := fun o => (Below.refl _ w4).alloc (Nat.le_refl _) o
  have HY4 := Lib.hid (HY.out w4 Rx.setL)
  have h5 := Lib.hid (fun o => ((hw5 o).block w.heap.size (by omega)).trans h4)
  have d5 := Lib.hid (fun o => ((hw5 o).block w1.heap.size (by omega)).trans d4)
  have B5 := Lib.hid (fun o => B4.out.trans ((hw5 o).mono (by omega)))
  clear hw5 h4 d4 B4
  go_wp2_with fail
  refine (CO.out 32 (by decide) _).mono ?_
  rintro e w6 ⟨rfl, hb6⟩
  have h6 := (hb6.block w.heap.size (by simp; omega)).trans (h5.out _)
  have B6 := Lib.hid ((B5.out _).trans (hb6.mono (by simp; omega)))
  have z6 : w4.heap.size < w6.heap.size := by have := hb6.size; simp at this; omega
  clear hb6
  go_wp2_with fail
  refine (CS.out 9 10 (by decide) (by decide) _).mono ?_
  rintro e w7 ⟨rfl, hb7⟩
  go_wp2_with fail
  refine (CJ.out _ _ (only_ok _) (span_ok _ _) _).mono ?_
  rintro e w8 ⟨rfl, hb8⟩
  go_wp2_with fail
  refine (CS.out 12 13 (by decide) (by decide) _).mono ?_
  rintro e w9 ⟨rfl, hb9⟩
  go_wp2_with fail
  refine (CJ.out _ _ (join_ok (only_ok _) (span_ok _ _)) (span_ok _ _) _).mono ?_
  rintro e wa ⟨rfl, hba⟩
  have hb := ((hb7.trans (hb8.mono hb7.size)).trans (hb9.mono (Nat.le_trans hb7.size hb8.size))).trans (hba.mono (Nat.le_trans (Nat.le_trans hb7.size hb8.size) hb9.size))
  have ha := (hb.block w.heap.size (by omega)).trans h6
  have BA := Lib.hid (B6.out.trans (hb.mono (by omega)))
  clear hb hb7 hb8 hb9 hba
  obtain ⟨X, hX⟩ : ∃ X, ((Set4.only 32).join (Set4.span 9 10)).join (Set4.span 12 13) = X := ⟨_, rfl⟩
  have HE := Lib.hid (show setV (Rx.meaning 115) = .agg (setC X) by rw [← hX]; rfl)
  rw [hX]
  clear hX
  unfold setV
  have hn := setRow_heap wa w.heap.size (setC Set4.none) (setC X) 65 (0, 0) ha
  have h2' := ha
  go_wp2_with (refine wpList_store_row rfl 65 (.tmp 2) (.tmp 35) rfl w.heap.size (setC X) rfl rfl 65 (setC Set4.none) h2' (by kernel_rfl) (HZ.out X) (HO.out X) ?_)
  refine bodyPost_ret (v := .agg (setC X)) ?_ ?_ ?_
  · exact results_cell_row rfl _ _ w.heap.size 65 (setC X) (0, 0) _ rfl hn Tryd.underlying65 rfl (by kernel_rfl)
  · rfl
  · exact ⟨by rw [HE.out], below_setRow (BA.out) (Nat.le_refl _) (setC X)⟩
set_option maxHeartbeats 4000000 in
set_option maxRecDepth 100000 in
theorem meaning_68 (w : World) : Calls Tryd.prog 69 #[.int .u8 68] w fun e w' => e = .returned (setV (Rx.meaning 68)) ∧ Below w.heap.size w w' := by
  have CS := Lib.hid (fun f t hf ht w1 => span_any f t hf ht w1)
  have CJ := Lib.hid (fun x y hx hy w1 => join_any x y hx hy w1)
  have CO := Lib.hid (fun c hc w1 => only_any c hc w1)
  have CH := Lib.hid (fun x hx c hc w1 => has_any x hx c hc w1)
  have HL := Lib.hid (laid_none w)
  have HY := Lib.hid (fun w x => lay_set w x)
  have HZ := Lib.hid (fun X => show (setC Set4.none).size = (setC X).size from rfl)
  have HO := Lib.hid setC_one
  have CR := Lib.hid (fun w1 => meaning_100 w1)
  have CX := Lib.hid (fun x hx w1 => others_any x hx w1)
  have HOK := Lib.hid (show (Rx.meaning 100).Ok from span_ok _ _)
  go_enter Tryd.func69, Tryd.ntmps69
  go_wp2_with fail
  refine (CS.out 48 57 (by decide) (by decide) _).mono ?_
  rintro e w1 ⟨rfl, hb1⟩
  rw [setV_eq]
  have h1 := (hb1.block _ (by simp)).trans HL.out
  have B1 := Lib.hid (((Below.refl _ w).alloc (Nat.le_refl _) _).trans (hb1.mono (by simp)))
  have z1 : w.heap.size < w1.heap.size := by have := hb1.size; simp at this; omega
  clear hb1
  go_wp2_with fail
  refine (CS.out 97 122 (by decide) (by decide) _).mono ?_
  rintro e w2 ⟨rfl, hb2⟩
  have h2 := (hb2.block w.heap.size (by simp; omega)).trans ((Below.heap_alloc _ _ _ z1).trans h1)
  have d2 := (hb2.block w1.heap.size (by simp)).trans (HY.out w1 Rx.setD)
  have B2 := Lib.hid (B1.out.trans ((((Below.refl _ w1).alloc (Nat.le_refl _) _).trans (hb2.mono (by simp))).mono (Nat.le_of_lt z1)))
  have z2 : w1.heap.size < w2.heap.size := by have := hb2.size; simp at this; omega
  clear hb2
  clear h1 B1
  go_wp2_with fail
  refine (CS.out 65 90 (by decide) (by decide) _).mono ?_
  rintro e w3 ⟨rfl, hb3⟩
  go_wp2_with fail
  refine (CJ.out _ _ (span_ok _ _) (span_ok _ _) _).mono ?_
  rintro e w4 ⟨rfl, hb4⟩
  have hb := hb3.trans (hb4.mono hb3.size)
  rw [setV_eq]
  have h4 := (hb.block w.heap.size (by omega)).trans h2
  have d4 := (hb.block w1.heap.size (by omega)).trans d2
  have z4 : w2.heap.size ≤ w4.heap.size := hb.size
  have B4 := Lib.hid (B2.out.trans (hb.mono (by omega)))
  clear hb hb3 hb4 h2 d2 B2
  have HD : (Set4.span 97 122).join (Set4.span 65 90) = Rx.setL := rfl
  rw [HD]
  clear HD
  have hw5 : ∀ o, Below w4.heap.size w4 (w4.alloc o) := fun o => (Below.refl _ w4).alloc (Nat.le_refl _) o
  have HY4 := Lib.hid (HY.out w4 Rx.setL)
  have h5 := Lib.hid (fun o => ((hw5 o).block w.heap.size (by omega)).trans h4)
  have d5 := Lib.hid (fun o => ((hw5 o).block w1.heap.size (by omega)).trans d4)
  have B5 := Lib.hid (fun o => B4.out.trans ((hw5 o).mono (by omega)))
  clear hw5 h4 d4 B4
  go_wp2_with fail
  refine (CR.out _).mono ?_
  rintro e w6 ⟨rfl, hb6⟩
  have h6 := (hb6.block w.heap.size (by simp; omega)).trans (h5.out _)
  have B6 := Lib.hid ((B5.out _).trans (hb6.mono (by simp; omega)))
  have z6 : w4.heap.size < w6.heap.size := by have := hb6.size; simp at this; omega
  clear hb6
  go_wp2_with fail
  refine (CX.out _ HOK.out _).mono ?_
  rintro e w7 ⟨rfl, hb7⟩
  have h7 := (hb7.block w.heap.size (by omega)).trans h6
  have B7 := Lib.hid (B6.out.trans (hb7.mono (by omega)))
  clear hb7
  obtain ⟨X, hX⟩ : ∃ X, (Rx.meaning 100).others = X := ⟨_, rfl⟩
  have HE := Lib.hid (show setV (Rx.meaning 68) = .agg (setC X) by rw [← hX]; rfl)
  rw [hX]
  clear hX
  unfold setV
  have hn := setRow_heap w7 w.heap.size (setC Set4.none) (setC X) 65 (0, 0) h7
  have h2' := h7
  go_wp2_with (refine wpList_store_row rfl 65 (.tmp 2) (.tmp 44) rfl w.heap.size (setC X) rfl rfl 65 (setC Set4.none) h2' (by kernel_rfl) (HZ.out X) (HO.out X) ?_)
  refine bodyPost_ret (v := .agg (setC X)) ?_ ?_ ?_
  · exact results_cell_row rfl _ _ w.heap.size 65 (setC X) (0, 0) _ rfl hn Tryd.underlying65 rfl (by kernel_rfl)
  · rfl
  · exact ⟨by rw [HE.out], below_setRow (B7.out) (Nat.le_refl _) (setC X)⟩
set_option maxHeartbeats 4000000 in
set_option maxRecDepth 100000 in
theorem meaning_87 (w : World) : Calls Tryd.prog 69 #[.int .u8 87] w fun e w' => e = .returned (setV (Rx.meaning 87)) ∧ Below w.heap.size w w' := by
  have CS := Lib.hid (fun f t hf ht w1 => span_any f t hf ht w1)
  have CJ := Lib.hid (fun x y hx hy w1 => join_any x y hx hy w1)
  have CO := Lib.hid (fun c hc w1 => only_any c hc w1)
  have CH := Lib.hid (fun x hx c hc w1 => has_any x hx c hc w1)
  have HL := Lib.hid (laid_none w)
  have HY := Lib.hid (fun w x => lay_set w x)
  have HZ := Lib.hid (fun X => show (setC Set4.none).size = (setC X).size from rfl)
  have HO := Lib.hid setC_one
  have CR := Lib.hid (fun w1 => meaning_119 w1)
  have CX := Lib.hid (fun x hx w1 => others_any x hx w1)
  have HOK := Lib.hid (show (Rx.meaning 119).Ok from join_ok (join_ok (join_ok (span_ok _ _) (span_ok _ _)) (span_ok _ _)) (only_ok _))
  go_enter Tryd.func69, Tryd.ntmps69
  go_wp2_with fail
  refine (CS.out 48 57 (by decide) (by decide) _).mono ?_
  rintro e w1 ⟨rfl, hb1⟩
  rw [setV_eq]
  have h1 := (hb1.block _ (by simp)).trans HL.out
  have B1 := Lib.hid (((Below.refl _ w).alloc (Nat.le_refl _) _).trans (hb1.mono (by simp)))
  have z1 : w.heap.size < w1.heap.size := by have := hb1.size; simp at this; omega
  clear hb1
  go_wp2_with fail
  refine (CS.out 97 122 (by decide) (by decide) _).mono ?_
  rintro e w2 ⟨rfl, hb2⟩
  have h2 := (hb2.block w.heap.size (by simp; omega)).trans ((Below.heap_alloc _ _ _ z1).trans h1)
  have d2 := (hb2.block w1.heap.size (by simp)).trans (HY.out w1 Rx.setD)
  have B2 := Lib.hid (B1.out.trans ((((Below.refl _ w1).alloc (Nat.le_refl _) _).trans (hb2.mono (by simp))).mono (Nat.le_of_lt z1)))
  have z2 : w1.heap.size < w2.heap.size := by have := hb2.size; simp at this; omega
  clear hb2
  clear h1 B1
  go_wp2_with fail
  refine (CS.out 65 90 (by decide) (by decide) _).mono ?_
  rintro e w3 ⟨rfl, hb3⟩
  go_wp2_with fail
  refine (CJ.out _ _ (span_ok _ _) (span_ok _ _) _).mono ?_
  rintro e w4 ⟨rfl, hb4⟩
  have hb := hb3.trans (hb4.mono hb3.size)
  rw [setV_eq]
  have h4 := (hb.block w.heap.size (by omega)).trans h2
  have d4 := (hb.block w1.heap.size (by omega)).trans d2
  have z4 : w2.heap.size ≤ w4.heap.size := hb.size
  have B4 := Lib.hid (B2.out.trans (hb.mono (by omega)))
  clear hb hb3 hb4 h2 d2 B2
  have HD : (Set4.span 97 122).join (Set4.span 65 90) = Rx.setL := rfl
  rw [HD]
  clear HD
  have hw5 : ∀ o, Below w4.heap.size w4 (w4.alloc o) := fun o => (Below.refl _ w4).alloc (Nat.le_refl _) o
  have HY4 := Lib.hid (HY.out w4 Rx.setL)
  have h5 := Lib.hid (fun o => ((hw5 o).block w.heap.size (by omega)).trans h4)
  have d5 := Lib.hid (fun o => ((hw5 o).block w1.heap.size (by omega)).trans d4)
  have B5 := Lib.hid (fun o => B4.out.trans ((hw5 o).mono (by omega)))
  clear hw5 h4 d4 B4
  go_wp2_with fail
  refine (CR.out _).mono ?_
  rintro e w6 ⟨rfl, hb6⟩
  have h6 := (hb6.block w.heap.size (by simp; omega)).trans (h5.out _)
  have B6 := Lib.hid ((B5.out _).trans (hb6.mono (by simp; omega)))
  have z6 : w4.heap.size < w6.heap.size := by have := hb6.size; simp at this; omega
  clear hb6
  go_wp2_with fail
  refine (CX.out _ HOK.out _).mono ?_
  rintro e w7 ⟨rfl, hb7⟩
  have h7 := (hb7.block w.heap.size (by omega)).trans h6
  have B7 := Lib.hid (B6.out.trans (hb7.mono (by omega)))
  clear hb7
  obtain ⟨X, hX⟩ : ∃ X, (Rx.meaning 119).others = X := ⟨_, rfl⟩
  have HE := Lib.hid (show setV (Rx.meaning 87) = .agg (setC X) by rw [← hX]; rfl)
  rw [hX]
  clear hX
  unfold setV
  have hn := setRow_heap w7 w.heap.size (setC Set4.none) (setC X) 65 (0, 0) h7
  have h2' := h7
  go_wp2_with (refine wpList_store_row rfl 65 (.tmp 2) (.tmp 44) rfl w.heap.size (setC X) rfl rfl 65 (setC Set4.none) h2' (by kernel_rfl) (HZ.out X) (HO.out X) ?_)
  refine bodyPost_ret (v := .agg (setC X)) ?_ ?_ ?_
  · exact results_cell_row rfl _ _ w.heap.size 65 (setC X) (0, 0) _ rfl hn Tryd.underlying65 rfl (by kernel_rfl)
  · rfl
  · exact ⟨by rw [HE.out], below_setRow (B7.out) (Nat.le_refl _) (setC X)⟩
set_option maxHeartbeats 4000000 in
set_option maxRecDepth 100000 in
theorem meaning_83 (w : World) : Calls Tryd.prog 69 #[.int .u8 83] w fun e w' => e = .returned (setV (Rx.meaning 83)) ∧ Below w.heap.size w w' := by
  have CS := Lib.hid (fun f t hf ht w1 => span_any f t hf ht w1)
  have CJ := Lib.hid (fun x y hx hy w1 => join_any x y hx hy w1)
  have CO := Lib.hid (fun c hc w1 => only_any c hc w1)
  have CH := Lib.hid (fun x hx c hc w1 => has_any x hx c hc w1)
  have HL := Lib.hid (laid_none w)
  have HY := Lib.hid (fun w x => lay_set w x)
  have HZ := Lib.hid (fun X => show (setC Set4.none).size = (setC X).size from rfl)
  have HO := Lib.hid setC_one
  have CR := Lib.hid (fun w1 => meaning_115 w1)
  have CX := Lib.hid (fun x hx w1 => others_any x hx w1)
  have HOK := Lib.hid (show (Rx.meaning 115).Ok from join_ok (join_ok (only_ok _) (span_ok _ _)) (span_ok _ _))
  go_enter Tryd.func69, Tryd.ntmps69
  go_wp2_with fail
  refine (CS.out 48 57 (by decide) (by decide) _).mono ?_
  rintro e w1 ⟨rfl, hb1⟩
  rw [setV_eq]
  have h1 := (hb1.block _ (by simp)).trans HL.out
  have B1 := Lib.hid (((Below.refl _ w).alloc (Nat.le_refl _) _).trans (hb1.mono (by simp)))
  have z1 : w.heap.size < w1.heap.size := by have := hb1.size; simp at this; omega
  clear hb1
  go_wp2_with fail
  refine (CS.out 97 122 (by decide) (by decide) _).mono ?_
  rintro e w2 ⟨rfl, hb2⟩
  have h2 := (hb2.block w.heap.size (by simp; omega)).trans ((Below.heap_alloc _ _ _ z1).trans h1)
  have d2 := (hb2.block w1.heap.size (by simp)).trans (HY.out w1 Rx.setD)
  have B2 := Lib.hid (B1.out.trans ((((Below.refl _ w1).alloc (Nat.le_refl _) _).trans (hb2.mono (by simp))).mono (Nat.le_of_lt z1)))
  have z2 : w1.heap.size < w2.heap.size := by have := hb2.size; simp at this; omega
  clear hb2
  clear h1 B1
  go_wp2_with fail
  refine (CS.out 65 90 (by decide) (by decide) _).mono ?_
  rintro e w3 ⟨rfl, hb3⟩
  go_wp2_with fail
  refine (CJ.out _ _ (span_ok _ _) (span_ok _ _) _).mono ?_
  rintro e w4 ⟨rfl, hb4⟩
  have hb := hb3.trans (hb4.mono hb3.size)
  rw [setV_eq]
  have h4 := (hb.block w.heap.size (by omega)).trans h2
  have d4 := (hb.block w1.heap.size (by omega)).trans d2
  have z4 : w2.heap.size ≤ w4.heap.size := hb.size
  have B4 := Lib.hid (B2.out.trans (hb.mono (by omega)))
  clear hb hb3 hb4 h2 d2 B2
  have HD : (Set4.span 97 122).join (Set4.span 65 90) = Rx.setL := rfl
  rw [HD]
  clear HD
  have hw5 : ∀ o, Below w4.heap.size w4 (w4.alloc o) := fun o => (Below.refl _ w4).alloc (Nat.le_refl _) o
  have HY4 := Lib.hid (HY.out w4 Rx.setL)
  have h5 := Lib.hid (fun o => ((hw5 o).block w.heap.size (by omega)).trans h4)
  have d5 := Lib.hid (fun o => ((hw5 o).block w1.heap.size (by omega)).trans d4)
  have B5 := Lib.hid (fun o => B4.out.trans ((hw5 o).mono (by omega)))
  clear hw5 h4 d4 B4
  go_wp2_with fail
  refine (CR.out _).mono ?_
  rintro e w6 ⟨rfl, hb6⟩
  have h6 := (hb6.block w.heap.size (by simp; omega)).trans (h5.out _)
  have B6 := Lib.hid ((B5.out _).trans (hb6.mono (by simp; omega)))
  have z6 : w4.heap.size < w6.heap.size := by have := hb6.size; simp at this; omega
  clear hb6
  go_wp2_with fail
  refine (CX.out _ HOK.out _).mono ?_
  rintro e w7 ⟨rfl, hb7⟩
  have h7 := (hb7.block w.heap.size (by omega)).trans h6
  have B7 := Lib.hid (B6.out.trans (hb7.mono (by omega)))
  clear hb7
  obtain ⟨X, hX⟩ : ∃ X, (Rx.meaning 115).others = X := ⟨_, rfl⟩
  have HE := Lib.hid (show setV (Rx.meaning 83) = .agg (setC X) by rw [← hX]; rfl)
  rw [hX]
  clear hX
  unfold setV
  have hn := setRow_heap w7 w.heap.size (setC Set4.none) (setC X) 65 (0, 0) h7
  have h2' := h7
  go_wp2_with (refine wpList_store_row rfl 65 (.tmp 2) (.tmp 44) rfl w.heap.size (setC X) rfl rfl 65 (setC Set4.none) h2' (by kernel_rfl) (HZ.out X) (HO.out X) ?_)
  refine bodyPost_ret (v := .agg (setC X)) ?_ ?_ ?_
  · exact results_cell_row rfl _ _ w.heap.size 65 (setC X) (0, 0) _ rfl hn Tryd.underlying65 rfl (by kernel_rfl)
  · rfl
  · exact ⟨by rw [HE.out], below_setRow (B7.out) (Nat.le_refl _) (setC X)⟩
def Rare (c : Nat) : Prop := c ≠ 110 ∧ c ≠ 116 ∧ c ≠ 114 ∧ c ≠ 100 ∧ c ≠ 119 ∧ c ≠ 115 ∧ c ≠ 68 ∧ c ≠ 87 ∧ c ≠ 83
theorem mean_rare (c : Nat) (h : Rare c) : Rx.meaning c = if c < 33 ∨ 126 < c ∨ Rx.setLD.has c then Set4.none else Set4.only c := by
  obtain ⟨h1, h2, h3, h4, h5, h6, h7, h8, h9⟩ := h
  unfold Rx.meaning Rx.meanLow
  simp only [h1, h2, h3, h4, h5, h6, h7, h8, h9, if_false, or_self]
set_option maxHeartbeats 4000000 in
set_option maxRecDepth 100000 in
theorem meaning_low (c : Nat) (hc : c < 256) (hR : Rare c) (h1 : c < 33) (w : World) : Calls Tryd.prog 69 #[.int .u8 (c : Int)] w fun e w' => e = .returned (setV (Rx.meaning c)) ∧ Below w.heap.size w w' := by
  have CS := Lib.hid (fun f t hf ht w1 => span_any f t hf ht w1)
  have CJ := Lib.hid (fun x y hx hy w1 => join_any x y hx hy w1)
  have CO := Lib.hid (fun c hc w1 => only_any c hc w1)
  have CH := Lib.hid (fun x hx c hc w1 => has_any x hx c hc w1)
  have HL := Lib.hid (laid_none w)
  have HY := Lib.hid (fun w x => lay_set w x)
  have HZ := Lib.hid (fun X => show (setC Set4.none).size = (setC X).size from rfl)
  have HO := Lib.hid setC_one
  obtain ⟨r1, r2, r3, r4, r5, r6, r7, r8, r9⟩ := hR
  have n110 : ((c : Int) == 110) = false := by simp; omega
  have n116 : ((c : Int) == 116) = false := by simp; omega
  have n114 : ((c : Int) == 114) = false := by simp; omega
  have n100 : ((c : Int) == 100) = false := by simp; omega
  have n119 : ((c : Int) == 119) = false := by simp; omega
  have n115 : ((c : Int) == 115) = false := by simp; omega
  have n68 : ((c : Int) == 68) = false := by simp; omega
  have n87 : ((c : Int) == 87) = false := by simp; omega
  have n83 : ((c : Int) == 83) = false := by simp; omega
  have HE := Lib.hid (show Rx.meaning c = Set4.none by rw [mean_rare c ⟨r1, r2, r3, r4, r5, r6, r7, r8, r9⟩, if_pos (.inl h1)])
  have d1 : decide ((c : Int) < 33) = true := by simp; omega
  clear r1 r2 r3 r4 r5 r6 r7 r8 r9
  go_enter Tryd.func69, Tryd.ntmps69
  go_wp2_with fail
  refine (CS.out 48 57 (by decide) (by decide) _).mono ?_
  rintro e w1 ⟨rfl, hb1⟩
  rw [setV_eq]
  have h1 := (hb1.block _ (by simp)).trans HL.out
  have B1 := Lib.hid (((Below.refl _ w).alloc (Nat.le_refl _) _).trans (hb1.mono (by simp)))
  have z1 : w.heap.size < w1.heap.size := by have := hb1.size; simp at this; omega
  clear hb1
  go_wp2_with fail
  refine (CS.out 97 122 (by decide) (by decide) _).mono ?_
  rintro e w2 ⟨rfl, hb2⟩
  have h2 := (hb2.block w.heap.size (by simp; omega)).trans ((Below.heap_alloc _ _ _ z1).trans h1)
  have d2 := (hb2.block w1.heap.size (by simp)).trans (HY.out w1 Rx.setD)
  have B2 := Lib.hid (B1.out.trans ((((Below.refl _ w1).alloc (Nat.le_refl _) _).trans (hb2.mono (by simp))).mono (Nat.le_of_lt z1)))
  have z2 : w1.heap.size < w2.heap.size := by have := hb2.size; simp at this; omega
  clear hb2
  clear h1 B1
  go_wp2_with fail
  refine (CS.out 65 90 (by decide) (by decide) _).mono ?_
  rintro e w3 ⟨rfl, hb3⟩
  go_wp2_with fail
  refine (CJ.out _ _ (span_ok _ _) (span_ok _ _) _).mono ?_
  rintro e w4 ⟨rfl, hb4⟩
  have hb := hb3.trans (hb4.mono hb3.size)
  rw [setV_eq]
  have h4 := (hb.block w.heap.size (by omega)).trans h2
  have d4 := (hb.block w1.heap.size (by omega)).trans d2
  have z4 : w2.heap.size ≤ w4.heap.size := hb.size
  have B4 := Lib.hid (B2.out.trans (hb.mono (by omega)))
  clear hb hb3 hb4 h2 d2 B2
  have HD : (Set4.span 97 122).join (Set4.span 65 90) = Rx.setL := rfl
  rw [HD]
  clear HD
  have hw5 : ∀ o, Below w4.heap.size w4 (w4.alloc o) := fun o => (Below.refl _ w4).alloc (Nat.le_refl _) o
  have HY4 := Lib.hid (HY.out w4 Rx.setL)
  have h5 := Lib.hid (fun o => ((hw5 o).block w.heap.size (by omega)).trans h4)
  have d5 := Lib.hid (fun o => ((hw5 o).block w1.heap.size (by omega)).trans d4)
  have B5 := Lib.hid (fun o => B4.out.trans ((hw5 o).mono (by omega)))
  clear hw5 h4 d4 B4
  have h6 := h5.out (.cells #[Value.int .u64 ((Rx.setL.a : Nat) : Int), .int .u64 ((Rx.setL.b : Nat) : Int), .int .u64 ((Rx.setL.c : Nat) : Int), .int .u64 ((Rx.setL.d : Nat) : Int)] 65)
  have B6 := Lib.hid (B5.out (.cells #[Value.int .u64 ((Rx.setL.a : Nat) : Int), .int .u64 ((Rx.setL.b : Nat) : Int), .int .u64 ((Rx.setL.c : Nat) : Int), .int .u64 ((Rx.setL.d : Nat) : Int)] 65))
  have hn := setRow_heap (w4.alloc (.cells #[Value.int .u64 ((Rx.setL.a : Nat) : Int), .int .u64 ((Rx.setL.b : Nat) : Int), .int .u64 ((Rx.setL.c : Nat) : Int), .int .u64 ((Rx.setL.d : Nat) : Int)] 65)) w.heap.size (setC Set4.none) (setC Set4.none) 65 (0, 0) h6
  go_wp2_with (refine wpList_store_row rfl 65 (.tmp 2) (.tmp 58) rfl w.heap.size (setC Set4.none) rfl rfl 65 (setC Set4.none) h6 (by kernel_rfl) (HZ.out Set4.none) (HO.out Set4.none) ?_)
  refine bodyPost_ret (v := .agg (setC Set4.none)) ?_ ?_ ?_
  · exact results_cell_row rfl _ _ w.heap.size 65 (setC Set4.none) (0, 0) _ rfl hn Tryd.underlying65 rfl (by kernel_rfl)
  · rfl
  · exact ⟨by rw [HE.out]; rfl, below_setRow (B6.out) (Nat.le_refl _) (setC Set4.none)⟩
set_option maxHeartbeats 4000000 in
set_option maxRecDepth 100000 in
theorem meaning_high (c : Nat) (hc : c < 256) (hR : Rare c) (h1 : 126 < c) (w : World) : Calls Tryd.prog 69 #[.int .u8 (c : Int)] w fun e w' => e = .returned (setV (Rx.meaning c)) ∧ Below w.heap.size w w' := by
  have CS := Lib.hid (fun f t hf ht w1 => span_any f t hf ht w1)
  have CJ := Lib.hid (fun x y hx hy w1 => join_any x y hx hy w1)
  have CO := Lib.hid (fun c hc w1 => only_any c hc w1)
  have CH := Lib.hid (fun x hx c hc w1 => has_any x hx c hc w1)
  have HL := Lib.hid (laid_none w)
  have HY := Lib.hid (fun w x => lay_set w x)
  have HZ := Lib.hid (fun X => show (setC Set4.none).size = (setC X).size from rfl)
  have HO := Lib.hid setC_one
  obtain ⟨r1, r2, r3, r4, r5, r6, r7, r8, r9⟩ := hR
  have n110 : ((c : Int) == 110) = false := by simp; omega
  have n116 : ((c : Int) == 116) = false := by simp; omega
  have n114 : ((c : Int) == 114) = false := by simp; omega
  have n100 : ((c : Int) == 100) = false := by simp; omega
  have n119 : ((c : Int) == 119) = false := by simp; omega
  have n115 : ((c : Int) == 115) = false := by simp; omega
  have n68 : ((c : Int) == 68) = false := by simp; omega
  have n87 : ((c : Int) == 87) = false := by simp; omega
  have n83 : ((c : Int) == 83) = false := by simp; omega
  have HE := Lib.hid (show Rx.meaning c = Set4.none by rw [mean_rare c ⟨r1, r2, r3, r4, r5, r6, r7, r8, r9⟩, if_pos (.inr (.inl h1))])
  have d1 : decide ((c : Int) < 33) = false := by simp; omega
  have d2 : decide ((126 : Int) < (c : Int)) = true := by simp; omega
  clear r1 r2 r3 r4 r5 r6 r7 r8 r9
  go_enter Tryd.func69, Tryd.ntmps69
  go_wp2_with fail
  refine (CS.out 48 57 (by decide) (by decide) _).mono ?_
  rintro e w1 ⟨rfl, hb1⟩
  rw [setV_eq]
  have h1 := (hb1.block _ (by simp)).trans HL.out
  have B1 := Lib.hid (((Below.refl _ w).alloc (Nat.le_refl _) _).trans (hb1.mono (by simp)))
  have z1 : w.heap.size < w1.heap.size := by have := hb1.size; simp at this; omega
  clear hb1
  go_wp2_with fail
  refine (CS.out 97 122 (by decide) (by decide) _).mono ?_
  rintro e w2 ⟨rfl, hb2⟩
  have h2 := (hb2.block w.heap.size (by simp; omega)).trans ((Below.heap_alloc _ _ _ z1).trans h1)
  have d2 := (hb2.block w1.heap.size (by simp)).trans (HY.out w1 Rx.setD)
  have B2 := Lib.hid (B1.out.trans ((((Below.refl _ w1).alloc (Nat.le_refl _) _).trans (hb2.mono (by simp))).mono (Nat.le_of_lt z1)))
  have z2 : w1.heap.size < w2.heap.size := by have := hb2.size; simp at this; omega
  clear hb2
  clear h1 B1
  go_wp2_with fail
  refine (CS.out 65 90 (by decide) (by decide) _).mono ?_
  rintro e w3 ⟨rfl, hb3⟩
  go_wp2_with fail
  refine (CJ.out _ _ (span_ok _ _) (span_ok _ _) _).mono ?_
  rintro e w4 ⟨rfl, hb4⟩
  have hb := hb3.trans (hb4.mono hb3.size)
  rw [setV_eq]
  have h4 := (hb.block w.heap.size (by omega)).trans h2
  have d4 := (hb.block w1.heap.size (by omega)).trans d2
  have z4 : w2.heap.size ≤ w4.heap.size := hb.size
  have B4 := Lib.hid (B2.out.trans (hb.mono (by omega)))
  clear hb hb3 hb4 h2 d2 B2
  have HD : (Set4.span 97 122).join (Set4.span 65 90) = Rx.setL := rfl
  rw [HD]
  clear HD
  have hw5 : ∀ o, Below w4.heap.size w4 (w4.alloc o) := fun o => (Below.refl _ w4).alloc (Nat.le_refl _) o
  have HY4 := Lib.hid (HY.out w4 Rx.setL)
  have h5 := Lib.hid (fun o => ((hw5 o).block w.heap.size (by omega)).trans h4)
  have d5 := Lib.hid (fun o => ((hw5 o).block w1.heap.size (by omega)).trans d4)
  have B5 := Lib.hid (fun o => B4.out.trans ((hw5 o).mono (by omega)))
  clear hw5 h4 d4 B4
  have h6 := h5.out (.cells #[Value.int .u64 ((Rx.setL.a : Nat) : Int), .int .u64 ((Rx.setL.b : Nat) : Int), .int .u64 ((Rx.setL.c : Nat) : Int), .int .u64 ((Rx.setL.d : Nat) : Int)] 65)
  have B6 := Lib.hid (B5.out (.cells #[Value.int .u64 ((Rx.setL.a : Nat) : Int), .int .u64 ((Rx.setL.b : Nat) : Int), .int .u64 ((Rx.setL.c : Nat) : Int), .int .u64 ((Rx.setL.d : Nat) : Int)] 65))
  have hn := setRow_heap (w4.alloc (.cells #[Value.int .u64 ((Rx.setL.a : Nat) : Int), .int .u64 ((Rx.setL.b : Nat) : Int), .int .u64 ((Rx.setL.c : Nat) : Int), .int .u64 ((Rx.setL.d : Nat) : Int)] 65)) w.heap.size (setC Set4.none) (setC Set4.none) 65 (0, 0) h6
  go_wp2_with (refine wpList_store_row rfl 65 (.tmp 2) (.tmp 58) rfl w.heap.size (setC Set4.none) rfl rfl 65 (setC Set4.none) h6 (by kernel_rfl) (HZ.out Set4.none) (HO.out Set4.none) ?_)
  refine bodyPost_ret (v := .agg (setC Set4.none)) ?_ ?_ ?_
  · exact results_cell_row rfl _ _ w.heap.size 65 (setC Set4.none) (0, 0) _ rfl hn Tryd.underlying65 rfl (by kernel_rfl)
  · rfl
  · exact ⟨by rw [HE.out]; rfl, below_setRow (B6.out) (Nat.le_refl _) (setC Set4.none)⟩
set_option maxHeartbeats 4000000 in
set_option maxRecDepth 100000 in
theorem meaning_letter (c : Nat) (hc : c < 256) (hR : Rare c) (h1 : ¬ c < 33) (h2 : ¬ 126 < c) (h3 : (Rx.setL.join Rx.setD).has c = true) (w : World) : Calls Tryd.prog 69 #[.int .u8 (c : Int)] w fun e w' => e = .returned (setV (Rx.meaning c)) ∧ Below w.heap.size w w' := by
  have CS := Lib.hid (fun f t hf ht w1 => span_any f t hf ht w1)
  have CJ := Lib.hid (fun x y hx hy w1 => join_any x y hx hy w1)
  have CO := Lib.hid (fun c hc w1 => only_any c hc w1)
  have CH := Lib.hid (fun x hx c hc w1 => has_any x hx c hc w1)
  have HL := Lib.hid (laid_none w)
  have HY := Lib.hid (fun w x => lay_set w x)
  have HZ := Lib.hid (fun X => show (setC Set4.none).size = (setC X).size from rfl)
  have HO := Lib.hid setC_one
  obtain ⟨r1, r2, r3, r4, r5, r6, r7, r8, r9⟩ := hR
  have n110 : ((c : Int) == 110) = false := by simp; omega
  have n116 : ((c : Int) == 116) = false := by simp; omega
  have n114 : ((c : Int) == 114) = false := by simp; omega
  have n100 : ((c : Int) == 100) = false := by simp; omega
  have n119 : ((c : Int) == 119) = false := by simp; omega
  have n115 : ((c : Int) == 115) = false := by simp; omega
  have n68 : ((c : Int) == 68) = false := by simp; omega
  have n87 : ((c : Int) == 87) = false := by simp; omega
  have n83 : ((c : Int) == 83) = false := by simp; omega
  have HE := Lib.hid (show Rx.meaning c = Set4.none by rw [mean_rare c ⟨r1, r2, r3, r4, r5, r6, r7, r8, r9⟩, if_pos (.inr (.inr h3))])
  have d1 : decide ((c : Int) < 33) = false := by simp; omega
  have d2 : decide ((126 : Int) < (c : Int)) = false := by simp; omega
  have HH := Lib.hid h3
  clear r1 r2 r3 r4 r5 r6 r7 r8 r9 h3
  go_enter Tryd.func69, Tryd.ntmps69
  go_wp2_with fail
  refine (CS.out 48 57 (by decide) (by decide) _).mono ?_
  rintro e w1 ⟨rfl, hb1⟩
  rw [setV_eq]
  have h1 := (hb1.block _ (by simp)).trans HL.out
  have B1 := Lib.hid (((Below.refl _ w).alloc (Nat.le_refl _) _).trans (hb1.mono (by simp)))
  have z1 : w.heap.size < w1.heap.size := by have := hb1.size; simp at this; omega
  clear hb1
  go_wp2_with fail
  refine (CS.out 97 122 (by decide) (by decide) _).mono ?_
  rintro e w2 ⟨rfl, hb2⟩
  have h2 := (hb2.block w.heap.size (by simp; omega)).trans ((Below.heap_alloc _ _ _ z1).trans h1)
  have d2 := (hb2.block w1.heap.size (by simp)).trans (HY.out w1 Rx.setD)
  have B2 := Lib.hid (B1.out.trans ((((Below.refl _ w1).alloc (Nat.le_refl _) _).trans (hb2.mono (by simp))).mono (Nat.le_of_lt z1)))
  have z2 : w1.heap.size < w2.heap.size := by have := hb2.size; simp at this; omega
  clear hb2
  clear h1 B1
  go_wp2_with fail
  refine (CS.out 65 90 (by decide) (by decide) _).mono ?_
  rintro e w3 ⟨rfl, hb3⟩
  go_wp2_with fail
  refine (CJ.out _ _ (span_ok _ _) (span_ok _ _) _).mono ?_
  rintro e w4 ⟨rfl, hb4⟩
  have hb := hb3.trans (hb4.mono hb3.size)
  rw [setV_eq]
  have h4 := (hb.block w.heap.size (by omega)).trans h2
  have d4 := (hb.block w1.heap.size (by omega)).trans d2
  have z4 : w2.heap.size ≤ w4.heap.size := hb.size
  have B4 := Lib.hid (B2.out.trans (hb.mono (by omega)))
  clear hb hb3 hb4 h2 d2 B2
  have HD : (Set4.span 97 122).join (Set4.span 65 90) = Rx.setL := rfl
  rw [HD]
  clear HD
  have hw5 : ∀ o, Below w4.heap.size w4 (w4.alloc o) := fun o => (Below.refl _ w4).alloc (Nat.le_refl _) o
  have HY4 := Lib.hid (HY.out w4 Rx.setL)
  have h5 := Lib.hid (fun o => ((hw5 o).block w.heap.size (by omega)).trans h4)
  have d5 := Lib.hid (fun o => ((hw5 o).block w1.heap.size (by omega)).trans d4)
  have B5 := Lib.hid (fun o => B4.out.trans ((hw5 o).mono (by omega)))
  clear hw5 h4 d4 B4
  have h6 := h5.out (.cells #[Value.int .u64 ((Rx.setL.a : Nat) : Int), .int .u64 ((Rx.setL.b : Nat) : Int), .int .u64 ((Rx.setL.c : Nat) : Int), .int .u64 ((Rx.setL.d : Nat) : Int)] 65)
  have d6 := d5.out (.cells #[Value.int .u64 ((Rx.setL.a : Nat) : Int), .int .u64 ((Rx.setL.b : Nat) : Int), .int .u64 ((Rx.setL.c : Nat) : Int), .int .u64 ((Rx.setL.d : Nat) : Int)] 65)
  have l6 := HY4.out
  have B6 := Lib.hid (B5.out (.cells #[Value.int .u64 ((Rx.setL.a : Nat) : Int), .int .u64 ((Rx.setL.b : Nat) : Int), .int .u64 ((Rx.setL.c : Nat) : Int), .int .u64 ((Rx.setL.d : Nat) : Int)] 65))
  have q0 := (cell_of_row _ _ 0 _ _ _ d6).trans (setC_get Rx.setD 0 (by decide))
  have q1 := (cell_of_row _ _ 1 _ _ _ d6).trans (setC_get Rx.setD 1 (by decide))
  have q2 := (cell_of_row _ _ 2 _ _ _ d6).trans (setC_get Rx.setD 2 (by decide))
  have q3 := (cell_of_row _ _ 3 _ _ _ d6).trans (setC_get Rx.setD 3 (by decide))
  have HS1 : setV Rx.setL = .agg #[.int .u64 ((Rx.setL.a : Nat) : Int), .int .u64 ((Rx.setL.b : Nat) : Int), .int .u64 ((Rx.setL.c : Nat) : Int), .int .u64 ((Rx.setL.d : Nat) : Int)] := rfl
  have HS2 : setV Rx.setD = .agg #[.int .u64 ((Rx.setD.word 0 : Nat) : Int), .int .u64 ((Rx.setD.word 1 : Nat) : Int), .int .u64 ((Rx.setD.word 2 : Nat) : Int), .int .u64 ((Rx.setD.word 3 : Nat) : Int)] := rfl
  have CJ2 := Lib.hid (fun w1 => by have := CJ.out Rx.setL Rx.setD (join_ok (span_ok _ _) (span_ok _ _)) (span_ok _ _) w1; rw [HS1, HS2] at this; exact this)
  clear HS1 HS2
  have HK : (Rx.setL.join Rx.setD).Ok := join_ok (join_ok (span_ok _ _) (span_ok _ _)) (span_ok _ _)
  have HH' := HH.out
  obtain ⟨Y, hY⟩ : ∃ Y, Rx.setL.join Rx.setD = Y := ⟨_, rfl⟩
  rw [hY] at CJ2 HH' HK
  have CH2 := Lib.hid (fun w1 => CH.out Y HK c hc w1)
  rw [HH'] at CH2
  clear hY HH HH' CH HK
  go_wp2_with fail
  refine (CJ2.out _).mono ?_
  rintro e w6 ⟨rfl, hb6⟩
  clear q0 q1 q2 q3
  go_wp2_with fail
  refine (CH2.out _).mono ?_
  rintro e w7 ⟨rfl, hb7⟩
  have hb := hb6.trans (hb7.mono hb6.size)
  have h7 := (hb.block w.heap.size (by simp; omega)).trans h6
  have B7 := Lib.hid (B6.out.trans (hb.mono (by simp; omega)))
  have z7 : w4.heap.size < w7.heap.size := by have := hb.size; simp at this; omega
  clear hb hb6 hb7 h6 d6 l6
  have hn := setRow_heap w7 w.heap.size (setC Set4.none) (setC Set4.none) 65 (0, 0) h7
  go_wp2_with (refine wpList_store_row rfl 65 (.tmp 2) (.tmp 58) rfl w.heap.size (setC Set4.none) rfl rfl 65 (setC Set4.none) h7 (by kernel_rfl) (HZ.out Set4.none) (HO.out Set4.none) ?_)
  refine bodyPost_ret (v := .agg (setC Set4.none)) ?_ ?_ ?_
  · exact results_cell_row rfl _ _ w.heap.size 65 (setC Set4.none) (0, 0) _ rfl hn Tryd.underlying65 rfl (by kernel_rfl)
  · rfl
  · exact ⟨by rw [HE.out]; rfl, below_setRow (B7.out) (Nat.le_refl _) (setC Set4.none)⟩
set_option maxHeartbeats 4000000 in
set_option maxRecDepth 100000 in
theorem meaning_sign (c : Nat) (hc : c < 256) (hR : Rare c) (h1 : ¬ c < 33) (h2 : ¬ 126 < c) (h3 : (Rx.setL.join Rx.setD).has c = false) (w : World) : Calls Tryd.prog 69 #[.int .u8 (c : Int)] w fun e w' => e = .returned (setV (Rx.meaning c)) ∧ Below w.heap.size w w' := by
  have CS := Lib.hid (fun f t hf ht w1 => span_any f t hf ht w1)
  have CJ := Lib.hid (fun x y hx hy w1 => join_any x y hx hy w1)
  have CO := Lib.hid (fun c hc w1 => only_any c hc w1)
  have CH := Lib.hid (fun x hx c hc w1 => has_any x hx c hc w1)
  have HL := Lib.hid (laid_none w)
  have HY := Lib.hid (fun w x => lay_set w x)
  have HZ := Lib.hid (fun X => show (setC Set4.none).size = (setC X).size from rfl)
  have HO := Lib.hid setC_one
  obtain ⟨r1, r2, r3, r4, r5, r6, r7, r8, r9⟩ := hR
  have n110 : ((c : Int) == 110) = false := by simp; omega
  have n116 : ((c : Int) == 116) = false := by simp; omega
  have n114 : ((c : Int) == 114) = false := by simp; omega
  have n100 : ((c : Int) == 100) = false := by simp; omega
  have n119 : ((c : Int) == 119) = false := by simp; omega
  have n115 : ((c : Int) == 115) = false := by simp; omega
  have n68 : ((c : Int) == 68) = false := by simp; omega
  have n87 : ((c : Int) == 87) = false := by simp; omega
  have n83 : ((c : Int) == 83) = false := by simp; omega
  have HE := Lib.hid (show Rx.meaning c = Set4.only c by rw [mean_rare c ⟨r1, r2, r3, r4, r5, r6, r7, r8, r9⟩, if_neg (by rintro (h | h | h); exact h1 h; exact h2 h; (rw [show Rx.setLD.has c = false from h3] at h; cases h))])
  have d1 : decide ((c : Int) < 33) = false := by simp; omega
  have d2 : decide ((126 : Int) < (c : Int)) = false := by simp; omega
  have HH := Lib.hid h3
  clear r1 r2 r3 r4 r5 r6 r7 r8 r9 h3
  go_enter Tryd.func69, Tryd.ntmps69
  go_wp2_with fail
  refine (CS.out 48 57 (by decide) (by decide) _).mono ?_
  rintro e w1 ⟨rfl, hb1⟩
  rw [setV_eq]
  have h1 := (hb1.block _ (by simp)).trans HL.out
  have B1 := Lib.hid (((Below.refl _ w).alloc (Nat.le_refl _) _).trans (hb1.mono (by simp)))
  have z1 : w.heap.size < w1.heap.size := by have := hb1.size; simp at this; omega
  clear hb1
  go_wp2_with fail
  refine (CS.out 97 122 (by decide) (by decide) _).mono ?_
  rintro e w2 ⟨rfl, hb2⟩
  have h2 := (hb2.block w.heap.size (by simp; omega)).trans ((Below.heap_alloc _ _ _ z1).trans h1)
  have d2 := (hb2.block w1.heap.size (by simp)).trans (HY.out w1 Rx.setD)
  have B2 := Lib.hid (B1.out.trans ((((Below.refl _ w1).alloc (Nat.le_refl _) _).trans (hb2.mono (by simp))).mono (Nat.le_of_lt z1)))
  have z2 : w1.heap.size < w2.heap.size := by have := hb2.size; simp at this; omega
  clear hb2
  clear h1 B1
  go_wp2_with fail
  refine (CS.out 65 90 (by decide) (by decide) _).mono ?_
  rintro e w3 ⟨rfl, hb3⟩
  go_wp2_with fail
  refine (CJ.out _ _ (span_ok _ _) (span_ok _ _) _).mono ?_
  rintro e w4 ⟨rfl, hb4⟩
  have hb := hb3.trans (hb4.mono hb3.size)
  rw [setV_eq]
  have h4 := (hb.block w.heap.size (by omega)).trans h2
  have d4 := (hb.block w1.heap.size (by omega)).trans d2
  have z4 : w2.heap.size ≤ w4.heap.size := hb.size
  have B4 := Lib.hid (B2.out.trans (hb.mono (by omega)))
  clear hb hb3 hb4 h2 d2 B2
  have HD : (Set4.span 97 122).join (Set4.span 65 90) = Rx.setL := rfl
  rw [HD]
  clear HD
  have hw5 : ∀ o, Below w4.heap.size w4 (w4.alloc o) := fun o => (Below.refl _ w4).alloc (Nat.le_refl _) o
  have HY4 := Lib.hid (HY.out w4 Rx.setL)
  have h5 := Lib.hid (fun o => ((hw5 o).block w.heap.size (by omega)).trans h4)
  have d5 := Lib.hid (fun o => ((hw5 o).block w1.heap.size (by omega)).trans d4)
  have B5 := Lib.hid (fun o => B4.out.trans ((hw5 o).mono (by omega)))
  clear hw5 h4 d4 B4
  have h6 := h5.out (.cells #[Value.int .u64 ((Rx.setL.a : Nat) : Int), .int .u64 ((Rx.setL.b : Nat) : Int), .int .u64 ((Rx.setL.c : Nat) : Int), .int .u64 ((Rx.setL.d : Nat) : Int)] 65)
  have d6 := d5.out (.cells #[Value.int .u64 ((Rx.setL.a : Nat) : Int), .int .u64 ((Rx.setL.b : Nat) : Int), .int .u64 ((Rx.setL.c : Nat) : Int), .int .u64 ((Rx.setL.d : Nat) : Int)] 65)
  have l6 := HY4.out
  have B6 := Lib.hid (B5.out (.cells #[Value.int .u64 ((Rx.setL.a : Nat) : Int), .int .u64 ((Rx.setL.b : Nat) : Int), .int .u64 ((Rx.setL.c : Nat) : Int), .int .u64 ((Rx.setL.d : Nat) : Int)] 65))
  have q0 := (cell_of_row _ _ 0 _ _ _ d6).trans (setC_get Rx.setD 0 (by decide))
  have q1 := (cell_of_row _ _ 1 _ _ _ d6).trans (setC_get Rx.setD 1 (by decide))
  have q2 := (cell_of_row _ _ 2 _ _ _ d6).trans (setC_get Rx.setD 2 (by decide))
  have q3 := (cell_of_row _ _ 3 _ _ _ d6).trans (setC_get Rx.setD 3 (by decide))
  have HS1 : setV Rx.setL = .agg #[.int .u64 ((Rx.setL.a : Nat) : Int), .int .u64 ((Rx.setL.b : Nat) : Int), .int .u64 ((Rx.setL.c : Nat) : Int), .int .u64 ((Rx.setL.d : Nat) : Int)] := rfl
  have HS2 : setV Rx.setD = .agg #[.int .u64 ((Rx.setD.word 0 : Nat) : Int), .int .u64 ((Rx.setD.word 1 : Nat) : Int), .int .u64 ((Rx.setD.word 2 : Nat) : Int), .int .u64 ((Rx.setD.word 3 : Nat) : Int)] := rfl
  have CJ2 := Lib.hid (fun w1 => by have := CJ.out Rx.setL Rx.setD (join_ok (span_ok _ _) (span_ok _ _)) (span_ok _ _) w1; rw [HS1, HS2] at this; exact this)
  clear HS1 HS2
  have HK : (Rx.setL.join Rx.setD).Ok := join_ok (join_ok (span_ok _ _) (span_ok _ _)) (span_ok _ _)
  have HH' := HH.out
  obtain ⟨Y, hY⟩ : ∃ Y, Rx.setL.join Rx.setD = Y := ⟨_, rfl⟩
  rw [hY] at CJ2 HH' HK
  have CH2 := Lib.hid (fun w1 => CH.out Y HK c hc w1)
  rw [HH'] at CH2
  clear hY HH HH' CH HK
  go_wp2_with fail
  refine (CJ2.out _).mono ?_
  rintro e w6 ⟨rfl, hb6⟩
  clear q0 q1 q2 q3
  go_wp2_with fail
  refine (CH2.out _).mono ?_
  rintro e w7 ⟨rfl, hb7⟩
  have hb := hb6.trans (hb7.mono hb6.size)
  have h7 := (hb.block w.heap.size (by simp; omega)).trans h6
  have B7 := Lib.hid (B6.out.trans (hb.mono (by simp; omega)))
  have z7 : w4.heap.size < w7.heap.size := by have := hb.size; simp at this; omega
  clear hb hb6 hb7 h6 d6 l6
  go_wp2_with fail
  refine (CO.out c hc _).mono ?_
  rintro e w8 ⟨rfl, hb8⟩
  have h8 := (hb8.block w.heap.size (by omega)).trans h7
  have B8 := Lib.hid (B7.out.trans (hb8.mono (by omega)))
  clear hb8
  obtain ⟨X, hX⟩ : ∃ X, Set4.only c = X := ⟨_, rfl⟩
  have HE2 := Lib.hid (show setV (Rx.meaning c) = .agg (setC X) by rw [HE.out, hX]; rfl)
  rw [hX]
  clear hX
  unfold setV
  have hn := setRow_heap w8 w.heap.size (setC Set4.none) (setC X) 65 (0, 0) h8
  have h2' := h8
  go_wp2_with (refine wpList_store_row rfl 65 (.tmp 2) (.tmp 60) rfl w.heap.size (setC X) rfl rfl 65 (setC Set4.none) h2' (by kernel_rfl) (HZ.out X) (HO.out X) ?_)
  refine bodyPost_ret (v := .agg (setC X)) ?_ ?_ ?_
  · exact results_cell_row rfl _ _ w.heap.size 65 (setC X) (0, 0) _ rfl hn Tryd.underlying65 rfl (by kernel_rfl)
  · rfl
  · exact ⟨by rw [HE2.out], below_setRow (B8.out) (Nat.le_refl _) (setC X)⟩
theorem meaning_any (c : Nat) (hc : c < 256) (w : World) : Calls Tryd.prog 69 #[.int .u8 (c : Int)] w fun e w' => e = .returned (setV (Rx.meaning c)) ∧ Below w.heap.size w w' := by
  by_cases e110 : c = 110
  · subst e110; exact meaning_110 w
  by_cases e116 : c = 116
  · subst e116; exact meaning_116 w
  by_cases e114 : c = 114
  · subst e114; exact meaning_114 w
  by_cases e100 : c = 100
  · subst e100; exact meaning_100 w
  by_cases e119 : c = 119
  · subst e119; exact meaning_119 w
  by_cases e115 : c = 115
  · subst e115; exact meaning_115 w
  by_cases e68 : c = 68
  · subst e68; exact meaning_68 w
  by_cases e87 : c = 87
  · subst e87; exact meaning_87 w
  by_cases e83 : c = 83
  · subst e83; exact meaning_83 w
  have hR : Rare c := ⟨e110, e116, e114, e100, e119, e115, e68, e87, e83⟩
  by_cases h1 : c < 33
  · exact meaning_low c hc hR h1 w
  by_cases h2 : 126 < c
  · exact meaning_high c hc hR h2 w
  cases h3 : (Rx.setL.join Rx.setD).has c with
  | true => exact meaning_letter c hc hR h1 h2 h3 w
  | false => exact meaning_sign c hc hR h1 h2 h3 w
theorem meaning_ok (c : Nat) : (Rx.meaning c).Ok := by
  unfold Rx.meaning
  split
  · rename_i x h
    unfold Rx.meanLow at h
    split at h
    · cases h; exact only_ok _
    split at h
    · cases h; exact only_ok _
    split at h
    · cases h; exact only_ok _
    split at h
    · cases h; exact span_ok _ _
    split at h
    · cases h; exact join_ok (join_ok (join_ok (span_ok _ _) (span_ok _ _)) (span_ok _ _)) (only_ok _)
    split at h
    · cases h; exact join_ok (join_ok (only_ok _) (span_ok _ _)) (span_ok _ _)
    · cases h
  · split
    · exact others_ok _
    · split
      · exact none_ok
      · exact only_ok _
end Go.Proofs.YtphighddlfabbaaDoor
namespace Go.Proofs
open Go.Shelf
def Tryd.lays137_ren : Go.Shelf.Ren := ⟨fun | 137 => 55 | 217 => 65 | 266 => 72 | n => n, fun | 9 => 9 | 5 => 5 | 3 => 3 | n => n, fun | n => n⟩
theorem Tryd.lays137 : Go.Proofs.Lays.n137 Tryd.prog Tryd.lays137_ren := {
  mixed := by kernel_rfl
  f137 := Tryd.func55.trans (congrArg some (by kernel_rfl))
  f217 := Tryd.func65.trans (congrArg some (by kernel_rfl))
  f266 := Tryd.func72.trans (congrArg some (by kernel_rfl))
  t3 := Tryd.underlying3
  a3 := Tryd.isAgg3
  z3 := Tryd.sizeOf3
  v3 := Tryd.zeroValue3
  t5 := Tryd.underlying5
  a5 := Tryd.isAgg5
  z5 := Tryd.sizeOf5
  v5 := Tryd.zeroValue5
  t9 := Tryd.underlying9
  a9 := Tryd.isAgg9
  z9 := Tryd.sizeOf9
  v9 := Tryd.zeroValue9 }
open Go.RowKit in
/-- strings.IndexByte: "IndexByte returns the index of the first instance of c in s, or -1 if c is not present in s.": IT RETURNS 'Lib.indexByte s c'; the world is as it was. (LAID: no walk: one application.) -/
theorem Tryd.strings_IndexByte (s : ByteArray) (c : Int) (w : World) :
    Calls Tryd.prog 55 #[.string s, .int .u8 c] w fun e w' => e = .returned (.int .i64 (Lib.indexByte s.data.toList c.toNat.toUInt8)) ∧ w' = w := Any.strings_IndexByte Tryd.lays137 s c w
def Tryd.lays217_ren : Go.Shelf.Ren := ⟨fun | 217 => 65 | 266 => 72 | n => n, fun | 9 => 9 | 5 => 5 | 3 => 3 | n => n, fun | n => n⟩
theorem Tryd.lays217 : Go.Proofs.Lays.n217 Tryd.prog Tryd.lays217_ren := {
  mixed := by kernel_rfl
  f217 := Tryd.func65.trans (congrArg some (by kernel_rfl))
  f266 := Tryd.func72.trans (congrArg some (by kernel_rfl))
  t3 := Tryd.underlying3
  a3 := Tryd.isAgg3
  z3 := Tryd.sizeOf3
  v3 := Tryd.zeroValue3
  t5 := Tryd.underlying5
  a5 := Tryd.isAgg5
  z5 := Tryd.sizeOf5
  v5 := Tryd.zeroValue5
  t9 := Tryd.underlying9
  a9 := Tryd.isAgg9
  z9 := Tryd.sizeOf9
  v9 := Tryd.zeroValue9 }
open Go.RowKit Go.Lib in
/-- internal/stringslite.IndexByte (what strings.IndexByte calls): IT RETURNS 'Lib.indexByte s c'; the world is as it was. (LAID: no walk: one application.) -/
theorem Tryd.stringslite_IndexByte (s : ByteArray) (c : Int) (w : World) :
    Calls Tryd.prog 65 #[.string s, .int .u8 c] w fun e w' => e = .returned (.int .i64 (Lib.indexByte s.data.toList c.toNat.toUInt8)) ∧ w' = w := Any.stringslite_IndexByte Tryd.lays217 s c w
def Tryd.lays206_ren : Go.Shelf.Ren := ⟨fun | 206 => 63 | n => n, fun | 9 => 9 | 4 => 4 | 3 => 3 | n => n, fun | n => n⟩
theorem Tryd.lays206 : Go.Proofs.Lays.n206 Tryd.prog Tryd.lays206_ren := {
  mixed := by kernel_rfl
  f206 := Tryd.func63.trans (congrArg some (by kernel_rfl))
  t3 := Tryd.underlying3
  a3 := Tryd.isAgg3
  z3 := Tryd.sizeOf3
  v3 := Tryd.zeroValue3
  t4 := Tryd.underlying4
  a4 := Tryd.isAgg4
  z4 := Tryd.sizeOf4
  v4 := Tryd.zeroValue4
  t9 := Tryd.underlying9
  a9 := Tryd.isAgg9
  z9 := Tryd.sizeOf9
  v9 := Tryd.zeroValue9 }
open Go.RowKit Go.Lib in
/-- internal/stringslite.HasPrefix (what strings.HasPrefix calls). (LAID: no walk: one application.) -/
theorem Tryd.stringslite_HasPrefix (s p : ByteArray) (w : World) :
    Calls Tryd.prog 63 #[.string s, .string p] w fun e w' => e = .returned (.bool (Lib.hasPrefix s.data.toList p.data.toList)) ∧ w' = w := Any.stringslite_HasPrefix Tryd.lays206 s p w
def Tryd.lays99_ren : Go.Shelf.Ren := ⟨fun | 99 => 51 | 206 => 63 | n => n, fun | 9 => 9 | 4 => 4 | 3 => 3 | n => n, fun | n => n⟩
theorem Tryd.lays99 : Go.Proofs.Lays.n99 Tryd.prog Tryd.lays99_ren := {
  mixed := by kernel_rfl
  f99 := Tryd.func51.trans (congrArg some (by kernel_rfl))
  f206 := Tryd.func63.trans (congrArg some (by kernel_rfl))
  t3 := Tryd.underlying3
  a3 := Tryd.isAgg3
  z3 := Tryd.sizeOf3
  v3 := Tryd.zeroValue3
  t4 := Tryd.underlying4
  a4 := Tryd.isAgg4
  z4 := Tryd.sizeOf4
  v4 := Tryd.zeroValue4
  t9 := Tryd.underlying9
  a9 := Tryd.isAgg9
  z9 := Tryd.sizeOf9
  v9 := Tryd.zeroValue9 }
open Go.RowKit Go.Lib in
/-- strings.HasPrefix: "HasPrefix reports whether the string s begins with prefix.": IT RETURNS 'Lib.hasPrefix s prefix'; the world is as it was. (LAID: no walk: one application.) -/
theorem Tryd.strings_HasPrefix (s p : ByteArray) (w : World) :
    Calls Tryd.prog 51 #[.string s, .string p] w fun e w' => e = .returned (.bool (Lib.hasPrefix s.data.toList p.data.toList)) ∧ w' = w := Any.strings_HasPrefix Tryd.lays99 s p w
end Go.Proofs
namespace Go.Proofs.YtphighddlfabbaaDoor
set_option linter.unusedVariables false
set_option linter.unusedSimpArgs false
open Go.RowKit Go.PlainAid Go.Shelf
open Rx (Set4 RS)
def rdCells (bs : List Nat) (st : RS) : Array Value := #[.string (strOf bs), .int .i64 ((st.at' : Nat) : Int), .int .i64 ((st.groups : Nat) : Int), .int .i64 ((st.nested : Nat) : Int), .int .i64 ((st.deepest : Nat) : Int)]
/-- a reader of these bytes that stands there -/
def Rd (w : World) (R : Nat) (bs : List Nat) (st : RS) : Prop := w.heap[R]? = some (.cells (rdCells bs st) 59 (0, 0))
theorem Rd.lt {w : World} {R : Nat} {bs : List Nat} {st : RS} (h : Rd w R bs st) : R < w.heap.size := (Array.getElem?_eq_some_iff.1 h).1
theorem Rd.only {w w' : World} {R : Nat} {bs : List Nat} {st : RS} (h : Rd w R bs st) {S : List Nat} (ho : Only S w w') (hS : R ∉ S) : Rd w' R bs st := (ho.block R h.lt hS).trans h
theorem Rd.below {w w' : World} {R : Nat} {bs : List Nat} {st : RS} (h : Rd w R bs st) {B : Nat} (ho : Below B w w') (hB : R < B) : Rd w' R bs st := (ho.block R hB).trans h
theorem Rd.stay {w w' : World} {R : Nat} {bs : List Nat} {st : RS} (h : Rd w R bs st) (ho : Below w.heap.size w w') : Rd w' R bs st := h.below ho h.lt
theorem Rd.c {w : World} {R : Nat} {bs : List Nat} {st : RS} (h : Rd w R bs st) (k : Nat) : w.cell? ⟨R, k, none⟩ = (rdCells bs st)[k]? := cell_of_row _ _ _ _ _ _ h
theorem Rd.c0 {w : World} {R : Nat} {bs : List Nat} {st : RS} (h : Rd w R bs st) : w.cell? ⟨R, 0, none⟩ = some (.string (strOf bs)) := h.c 0
theorem Rd.c1 {w : World} {R : Nat} {bs : List Nat} {st : RS} (h : Rd w R bs st) : w.cell? ⟨R, 1, none⟩ = some (.int .i64 ((st.at' : Nat) : Int)) := h.c 1
theorem Rd.c2 {w : World} {R : Nat} {bs : List Nat} {st : RS} (h : Rd w R bs st) : w.cell? ⟨R, 2, none⟩ = some (.int .i64 ((st.groups : Nat) : Int)) := h.c 2
theorem Rd.c3 {w : World} {R : Nat} {bs : List Nat} {st : RS} (h : Rd w R bs st) : w.cell? ⟨R, 3, none⟩ = some (.int .i64 ((st.nested : Nat) : Int)) := h.c 3
theorem Rd.c4 {w : World} {R : Nat} {bs : List Nat} {st : RS} (h : Rd w R bs st) : w.cell? ⟨R, 4, none⟩ = some (.int .i64 ((st.deepest : Nat) : Int)) := h.c 4
theorem Rd.fz {w : World} {R : Nat} {bs : List Nat} {st : RS} (h : Rd w R bs st) (k : Nat) : w.frozen? ⟨R, k, none⟩ = false := frozen_of_row _ _ _ _ _ h
theorem Rd.set1 {w : World} {R : Nat} {bs : List Nat} {st : RS} (h : Rd w R bs st) (p : Nat) : Rd (w.setCell ⟨R, 1, none⟩ (.int .i64 ((p : Nat) : Int))) R bs (st.to p) := heap_setCell_same _ _ _ _ _ _ h
theorem only_set {w : World} {R : Nat} (j : Nat) (v : Value) : Only [R] w (w.setCell ⟨R, j, none⟩ v) := (Only.refl [R] w).setCell (p := ⟨R, j, none⟩) (.inl List.mem_cons_self) v
theorem only_trans {R : Nat} {a b c : World} (h : Only [R] a b) (k : Only [R] b c) : Only [R] a c := h.trans k (fun x hx => .inl hx)
theorem strOf_list (bs : List Nat) : (strOf bs).data.toList = bs.map UInt8.ofNat := by simp [strOf]
theorem isB_drop {bs : List Nat} (h : IsB bs) (k : Nat) : IsB (bs.drop k) := fun c hc => h c (List.mem_of_mem_drop hc)
theorem strOf_extract (bs : List Nat) (a b : Nat) (h : a ≤ b) (hb : b ≤ bs.length) : (strOf bs).extract a b = strOf ((bs.drop a).take (b - a)) := by
  apply ByteArray.ext
  apply Array.ext'
  rw [ByteArray.data_extract, strOf_list]
  simp [strOf, List.map_drop, List.map_take]
theorem ofNat_inj {a b : Nat} (ha : a < 256) (hb : b < 256) (h : UInt8.ofNat a = UInt8.ofNat b) : a = b := by
  have := congrArg UInt8.toNat h
  rw [UInt8.toNat_ofNat', UInt8.toNat_ofNat', Nat.mod_eq_of_lt ha, Nat.mod_eq_of_lt hb] at this
  exact this
theorem drop_head (bs : List Nat) (p : Nat) : (bs.drop p)[0]? = bs[p]? := by rw [List.getElem?_drop, Nat.add_zero]
theorem rest_any (R : Nat) (bs : List Nat) (st : RS) (hp : st.at' ≤ bs.length) (hl : bs.length ≤ 500) (w : World) (H : Rd w R bs st) : Calls Tryd.prog 31 #[.pointer (some ⟨R, 0, none⟩)] w (Gives w (.string (strOf (bs.drop st.at')))) := by
  have h0 := H.c0
  have h1 := H.c1
  have hsz := strOf_size bs
  have hx := strOf_extract bs st.at' bs.length hp (Nat.le_refl _)
  rw [List.take_of_length_le (by rw [List.length_drop]; omega)] at hx
  obtain ⟨S, hS⟩ : ∃ S, strOf bs = S := ⟨_, rfl⟩
  obtain ⟨D, hD⟩ : ∃ D, strOf (bs.drop st.at') = D := ⟨_, rfl⟩
  obtain ⟨p, hpp⟩ : ∃ p, st.at' = p := ⟨_, rfl⟩
  rw [hD] at hx ⊢
  rw [hpp] at h1 hp hx
  rw [hS] at h0 hsz hx
  obtain ⟨L, hL⟩ : ∃ L, bs.length = L := ⟨_, rfl⟩
  rw [hL] at hsz hx hp hl
  have g0 := H.fz 0
  clear hS hD hL H hpp
  go_enter Tryd.func31, Tryd.ntmps31
  go_wp2_with (go_quiet (fail))
  go_ret
  exact ⟨rfl, below_drewN (Below.refl _ _) nq⟩
theorem prefix_list (ds l : List Nat) (hB : IsB ds) (hl : IsB l) : Lib.hasPrefix (strOf ds).data.toList (strOf l).data.toList = l.isPrefixOf ds := by
  rw [strOf_list, strOf_list]
  show (l.map UInt8.ofNat).isPrefixOf (ds.map UInt8.ofNat) = _
  induction l generalizing ds with
  | nil => cases ds <;> rfl
  | cons c l ih =>
    cases ds with
    | nil => rfl
    | cons d ds =>
      have hc : c < 256 := hl c List.mem_cons_self
      have hd : d < 256 := hB d List.mem_cons_self
      simp only [List.map_cons, List.isPrefixOf]
      rw [ih ds (fun x hx => hB x (List.mem_cons_of_mem _ hx)) (fun x hx => hl x (List.mem_cons_of_mem _ hx))]
      congr 1
      by_cases e : c = d
      · subst e; simp
      · have : ¬ UInt8.ofNat c = UInt8.ofNat d := fun h => e (ofNat_inj hc hd h)
        rw [beq_eq_false_iff_ne.2 this, beq_eq_false_iff_ne.2 e]
theorem prefix_one (bs : List Nat) (p c : Nat) : [c].isPrefixOf (bs.drop p) = Rx.isAt bs p c := by
  unfold Rx.isAt
  rw [← drop_head bs p]
  cases bs.drop p with
  | nil => simp
  | cons d ds =>
    by_cases e : c = d
    · subst e; simp
    · have e2 : ¬ d = c := fun h => e h.symm
      simp [List.isPrefixOf, e, e2]
theorem prefix_two (bs : List Nat) (p c d : Nat) : [c, d].isPrefixOf (bs.drop p) = (Rx.isAt bs p c && Rx.isAt bs (p + 1) d) := by
  unfold Rx.isAt
  have h1 : bs[p + 1]? = (bs.drop p)[1]? := by rw [List.getElem?_drop]
  rw [← drop_head bs p, h1]
  match bs.drop p with
  | [] => simp
  | [x] =>
    by_cases e : c = x
    · subst e; simp [List.isPrefixOf]
    · simp [List.isPrefixOf, e]
  | x :: y :: zs =>
    by_cases e : c = x <;> by_cases f : d = y
    · subst e; subst f; simp [List.isPrefixOf]
    · subst e; have f2 : ¬ y = d := fun h => f h.symm; simp [List.isPrefixOf, f, f2]
    · subst f; have e2 : ¬ x = c := fun h => e h.symm; simp [List.isPrefixOf, e, e2]
    · have e2 : ¬ x = c := fun h => e h.symm; simp [List.isPrefixOf, e, e2]
theorem prefix_any (ds l : List Nat) (hB : IsB ds) (hl : IsB l) (w : World) : Calls Tryd.prog 51 #[.string (strOf ds), .string (strOf l)] w fun e w' => e = .returned (.bool (l.isPrefixOf ds)) ∧ w' = w := by
  have h := Tryd.strings_HasPrefix (strOf ds) (strOf l) w
  rw [prefix_list ds l hB hl] at h
  exact h
set_option maxHeartbeats 1000000 in
theorem sign_any (R : Nat) (bs : List Nat) (st : RS) (c : Nat) (hB : IsB bs) (hc : c < 256) (hp : st.at' ≤ bs.length) (hl : bs.length ≤ 500) (w : World) (H : Rd w R bs st) :
    Calls Tryd.prog 37 #[.pointer (some ⟨R, 0, none⟩), .string (strOf [c])] w fun e w' => e = .returned (.bool (Rx.isAt bs st.at' c)) ∧ Only [R] w w' ∧ Rd w' R bs (if Rx.isAt bs st.at' c then st.to (st.at' + 1) else st) := by
  have CR := Lib.hid (rest_any R bs st hp hl w H)
  have CP := Lib.hid (fun w => prefix_any (bs.drop st.at') [c] (isB_drop hB _) (IsB.cons hc IsB.nil) w)
  rw [prefix_one] at CP
  have HR := Lib.hid H
  have hs : (strOf [c]).size = 1 := strOf_size [c]
  have hpl : Rx.isAt bs st.at' c = true → st.at' < bs.length := fun h => by
    have h2 : bs[st.at']? = some c := of_decide_eq_true h
    exact (List.getElem?_eq_some_iff.1 h2).1
  obtain ⟨D, hD⟩ : ∃ D, strOf (bs.drop st.at') = D := ⟨_, rfl⟩
  obtain ⟨C, hC⟩ : ∃ C, strOf [c] = C := ⟨_, rfl⟩
  rw [hD] at CR CP
  rw [hC] at CP hs ⊢
  cases hb : Rx.isAt bs st.at' c with
  | true =>
    rw [hb] at CP
    have hlt := hpl hb
    clear hD hC hB H hpl hb
    go_enter Tryd.func37, Tryd.ntmps37
    go_wp2_with fail
    refine CR.out.mono ?_
    rintro e w1 ⟨rfl, hb⟩
    have R1 := HR.out.stay hb
    have B1 := Lib.hid hb
    have h1 := R1.c1
    have f1 := R1.fz 1
    have HR1 := Lib.hid R1
    have HN := Lib.hid (R1.set1 (st.at' + 1))
    clear hb R1 HR
    go_wp2_with fail
    refine (CP.out _).mono ?_
    rintro e w2 ⟨rfl, rfl⟩
    obtain ⟨p, hpp⟩ : ∃ p, st.at' = p := ⟨_, rfl⟩
    rw [hpp] at h1 HN hlt hp
    have e1 : ((p : Int) + 1) = ((p + 1 : Nat) : Int) := by omega
    have E1 := Lib.hid e1
    have HP := Lib.hid hpp
    clear e1 hpp
    go_wp2
    go_ret
    refine ⟨rfl, only_trans (Only.of_below B1.out [R]) (only_set 1 _), ?_⟩
    rw [HP.out]
    exact HN.out
  | false =>
    rw [hb] at CP
    clear hD hC hB H hpl hb
    go_enter Tryd.func37, Tryd.ntmps37
    go_wp2_with fail
    refine CR.out.mono ?_
    rintro e w1 ⟨rfl, hb⟩
    have R1 := HR.out.stay hb
    have HR1 := Lib.hid R1
    have B1 := Lib.hid hb
    clear hb R1 HR
    go_wp2_with fail
    refine (CP.out _).mono ?_
    rintro e w2 ⟨rfl, rfl⟩
    go_wp2
    go_ret
    exact ⟨rfl, Only.of_below B1.out [R], HR1.out⟩
theorem empty_of (ds : List Nat) : (strOf ds).toList.isEmpty = decide (ds.length = 0) := by
  rw [Lib.toList_data, strOf_list]
  cases ds <;> simp
theorem index_any (l : List Nat) (hl : IsB l) (c : Nat) (hc : c < 256) (w : World) : Calls Tryd.prog 55 #[.string (strOf l), .int .u8 ((c : Nat) : Int)] w fun e w' => e = .returned (.int .i64 (Lib.indexByte (l.map UInt8.ofNat) (UInt8.ofNat c))) ∧ w' = w := by
  have h := Tryd.strings_IndexByte (strOf l) c w
  rw [strOf_list] at h
  exact h
theorem contains_map (l : List Nat) (hl : IsB l) (c : Nat) (hc : c < 256) : (l.map UInt8.ofNat).contains (UInt8.ofNat c) = l.contains c := by
  induction l with
  | nil => rfl
  | cons d l ih =>
    have hd : d < 256 := hl d List.mem_cons_self
    rw [List.map_cons, List.contains_cons, List.contains_cons, ih (fun x hx => hl x (List.mem_cons_of_mem _ hx))]
    congr 1
    by_cases e : c = d
    · subst e; simp
    · have : ¬ UInt8.ofNat c = UInt8.ofNat d := fun h => e (ofNat_inj hc hd h)
      rw [beq_eq_false_iff_ne.2 this, beq_eq_false_iff_ne.2 e]
theorem index_contains (l : List Nat) (hl : IsB l) (c : Nat) (hc : c < 256) : decide ((0 : Int) ≤ Lib.indexByte (l.map UInt8.ofNat) (UInt8.ofNat c)) = l.contains c := by
  rw [← Lib.contains_iff_indexByte, contains_map l hl c hc]
set_option maxHeartbeats 1000000 in
theorem isNext_any (R : Nat) (bs : List Nat) (st : RS) (l : List Nat) (hB : IsB bs) (hlB : IsB l) (hp : st.at' ≤ bs.length) (hl : bs.length ≤ 500) (w : World) (H : Rd w R bs st) :
    Calls Tryd.prog 48 #[.pointer (some ⟨R, 0, none⟩), .string (strOf l)] w (Gives w (.bool (Rx.isNext bs st.at' l))) := by
  have CR := Lib.hid (fun w (H : Rd w R bs st) => rest_any R bs st hp hl w H)
  have HR := Lib.hid H
  have hDl : (strOf (bs.drop st.at')).size = bs.length - st.at' := by rw [strOf_size, List.length_drop]
  by_cases hlt : st.at' < bs.length
  · have hg : bs[st.at']? = some bs[st.at'] := List.getElem?_eq_getElem hlt
    have hv : Rx.isNext bs st.at' l = l.contains bs[st.at'] := by unfold Rx.isNext; rw [hg]
    have hc : bs[st.at'] < 256 := hB.at _ hlt
    have hds : 0 < (bs.drop st.at').length := by rw [List.length_drop]; omega
    have hb0 := strOf_bt (bs.drop st.at') (isB_drop hB _) 0 hds
    rw [show (bs.drop st.at')[0] = bs[st.at'] by rw [List.getElem_drop]; rfl] at hb0
    have hbt := get_bt (strOf (bs.drop st.at'))
    have CI := Lib.hid (fun w => index_any l hlB bs[st.at'] hc w)
    have hic := index_contains l hlB bs[st.at'] hc
    rw [hv, ← hic]
    obtain ⟨c, hcc⟩ : ∃ c, bs[st.at'] = c := ⟨_, rfl⟩
    obtain ⟨q, hq⟩ : ∃ q, Lib.indexByte (l.map UInt8.ofNat) (UInt8.ofNat c) = q := ⟨_, rfl⟩
    rw [hcc] at hb0 CI ⊢
    rw [hq] at CI ⊢
    obtain ⟨D, hD⟩ : ∃ D, strOf (bs.drop st.at') = D := ⟨_, rfl⟩
    obtain ⟨C, hC⟩ : ∃ C, strOf l = C := ⟨_, rfl⟩
    rw [hD] at CR hb0 hbt hDl
    rw [hC] at CI ⊢
    have hs0 : 0 < D.size := by omega
    have he : D.toList.isEmpty = false := by rw [← hD, empty_of]; simp; omega
    clear hic hcc hq hD hC hg hv hds hDl
    go_enter Tryd.func48, Tryd.ntmps48
    go_wp2_with fail
    refine (CR.out _ HR.out).mono ?_
    rintro e w1 ⟨rfl, hb⟩
    have R1 := Lib.hid (HR.out.stay hb)
    have B1 := Lib.hid hb
    clear hb
    go_wp2_with fail
    refine (CR.out _ R1.out).mono ?_
    rintro e w2 ⟨rfl, hb⟩
    have B2 := Lib.hid (B1.out.trans (hb.mono B1.out.size))
    clear hb
    go_wp2_with fail
    refine (CI.out _).mono ?_
    rintro e w3 ⟨rfl, rfl⟩
    go_wp2
    go_ret
    exact ⟨rfl, B2.out⟩
  · have hv : Rx.isNext bs st.at' l = false := by
      unfold Rx.isNext
      rw [List.getElem?_eq_none (by omega)]
    rw [hv]
    have he : (strOf (bs.drop st.at')).toList.isEmpty = true := by rw [empty_of, List.length_drop]; simp; omega
    obtain ⟨D, hD⟩ : ∃ D, strOf (bs.drop st.at') = D := ⟨_, rfl⟩
    rw [hD] at CR he
    clear hD hDl hv
    go_enter Tryd.func48, Tryd.ntmps48
    go_wp2_with fail
    refine (CR.out _ HR.out).mono ?_
    rintro e w1 ⟨rfl, hb⟩
    have B1 := Lib.hid hb
    clear hb
    go_wp2
    go_ret
    exact ⟨rfl, B1.out⟩
end Go.Proofs.YtphighddlfabbaaDoor
namespace Go.Proofs.YtphighddlfabbaaDoor
set_option linter.unusedVariables false
set_option linter.unusedSimpArgs false
open Go.RowKit Go.PlainAid Go.Shelf
open Rx (Set4 RS)
def tenB : List Nat := [48, 49, 50, 51, 52, 53, 54, 55, 56, 57]
theorem tenB_ok : IsB tenB := by unfold IsB tenB; decide
theorem tenB_has (c : Nat) : tenB.contains c = decide (48 ≤ c ∧ c ≤ 57) := by
  by_cases h : 48 ≤ c ∧ c ≤ 57
  · rw [decide_eq_true h]
    rcases (by omega : c = 48 ∨ c = 49 ∨ c = 50 ∨ c = 51 ∨ c = 52 ∨ c = 53 ∨ c = 54 ∨ c = 55 ∨ c = 56 ∨ c = 57) with h | h | h | h | h | h | h | h | h | h <;> subst h <;> rfl
  · rw [decide_eq_false h]
    unfold tenB
    simp
    omega
theorem digs_yes (bs : List Nat) (k p n : Nat) (h : Rx.isNext bs p tenB = true) : ∃ c, bs[p]? = some c ∧ 48 ≤ c ∧ c ≤ 57 ∧ Rx.digs bs (k + 1) p n = Rx.digs bs k (p + 1) (10 * n + (c - 48)) := by
  unfold Rx.isNext at h
  split at h
  · cases h
  · rename_i c hc
    rw [tenB_has] at h
    have h2 := of_decide_eq_true h
    refine ⟨c, hc, h2.1, h2.2, ?_⟩
    rw [Rx.digs, hc]
    simp only
    rw [if_pos h2]
theorem digs_no (bs : List Nat) (k p n : Nat) (h : Rx.isNext bs p tenB = false) : Rx.digs bs k p n = (p, n) := by
  cases k with
  | zero => rfl
  | succ k =>
    unfold Rx.isNext at h
    rw [Rx.digs]
    split at h
    · rename_i hc; simp only
    · rename_i c hc
      rw [tenB_has] at h
      rw [if_neg (of_decide_eq_false h)]
theorem digs_le (bs : List Nat) : ∀ k p n, p ≤ bs.length → (Rx.digs bs k p n).1 ≤ bs.length
  | 0, p, n, h => h
  | k + 1, p, n, h => by
    rw [Rx.digs]
    split
    · exact h
    · rename_i c hc
      have := (List.getElem?_eq_some_iff.1 hc).1
      split
      · exact digs_le bs k _ _ this
      · exact h
theorem digs_ge (bs : List Nat) : ∀ k p n, p ≤ (Rx.digs bs k p n).1
  | 0, p, n => Nat.le_refl _
  | k + 1, p, n => by
    rw [Rx.digs]
    split
    · exact Nat.le_refl _
    · split
      · have := digs_ge bs k (p + 1) (10 * n + (‹Nat› - 48)); omega
      · exact Nat.le_refl _
theorem digs_lt (bs : List Nat) : ∀ k p n, n < 10 ^ (4 - k) → k ≤ 4 → (Rx.digs bs k p n).2 < 10000
  | 0, p, n, h, hk => h
  | k + 1, p, n, h, hk => by
    have hq : 10 ^ (4 - k) = 10 * 10 ^ (4 - (k + 1)) := by rw [show 4 - k = (4 - (k + 1)) + 1 by omega, Nat.pow_succ]; omega
    have hm : 10 ^ (4 - (k + 1)) ≤ 10 ^ 4 := Nat.pow_le_pow_right (by decide) (by omega)
    rw [Rx.digs]
    split
    · show n < 10000; omega
    · split
      · rename_i hc; refine digs_lt bs k _ _ ?_ (by omega); omega
      · show n < 10000; omega
def posOf (R : Nat) (w : World) : Nat := match w.cell? ⟨R, 1, none⟩ with | some v => (intOf v).toNat | none => 0
theorem Rd.posOf {w : World} {R : Nat} {bs : List Nat} {st : RS} (h : Rd w R bs st) : posOf R w = st.at' := by
  unfold YtphighddlfabbaaDoor.posOf
  rw [h.c1]
  simp [intOf]
structure NumAt (w wr : World) (R : Nat) (bs : List Nat) (st : RS) : Prop where
  rd : Rd wr R bs st
  only : Only [R] w wr
set_option maxHeartbeats 4000000 in
set_option maxRecDepth 100000 in
theorem number_any (R : Nat) (bs : List Nat) (st : RS) (hB : IsB bs) (hp : st.at' ≤ bs.length) (hl : bs.length ≤ 500) (w : World) (H : Rd w R bs st) :
    Calls Tryd.prog 71 #[.pointer (some ⟨R, 0, none⟩)] w fun e w' => e = .returned (.tuple #[.int .i64 (((Rx.number bs st.at').1 : Nat) : Int), .bool (Rx.number bs st.at').2.1]) ∧ Only [R] w w' ∧ Rd w' R bs (st.to (Rx.number bs st.at').2.2) := by
  have CN := Lib.hid (fun w st (H : Rd w R bs st) hp => isNext_any R bs st tenB hB tenB_ok hp hl w H)
  have h1 := H.c1
  have HA := Lib.hid (show NumAt w w R bs (st.to st.at') from ⟨H, Only.refl _ _⟩)
  have hsz := strOf_size bs
  have hdl := digs_lt bs 4 st.at' 0 (by decide) (by decide)
  have hdg := digs_ge bs 4 st.at' 0
  have hdL := digs_le bs 4 st.at' 0 hp
  unfold Rx.number
  obtain ⟨p0, hp0⟩ : ∃ p, st.at' = p := ⟨_, rfl⟩
  have HST := Lib.hid (show ∀ p, (st.to p).at' = p from fun p => rfl)
  have HT2 := Lib.hid (show ∀ p q, (st.to p).to q = st.to q from fun p q => rfl)
  rw [hp0] at h1 hp HA hdl hdg hdL ⊢
  obtain ⟨DR, hDR⟩ : ∃ d, Rx.digs bs 4 p0 0 = d := ⟨_, rfl⟩
  rw [hDR] at hdl hdg hdL ⊢
  obtain ⟨pe, ne⟩ := DR
  simp only at hdl hdg hdL ⊢
  have HD := Lib.hid hDR
  clear H hp0 hDR
  go_enter Tryd.func71, Tryd.ntmps71
  go_wp2
  go_loopw [2] (fun n wr => ∃ k p m : Nat, k ≤ 4 ∧ p = p0 + k ∧ p ≤ bs.length ∧ m < 10000 ∧ n = .int .i64 ((m : Nat) : Int) ∧ Hid (Rx.digs bs (4 - k) p m = (pe, ne)) ∧ m < 10 ^ k ∧ Hid (NumAt w wr R bs (st.to p))) (fun n wr => bs.length - posOf R wr)
  case atStart => exact ⟨0, p0, 0, by omega, rfl, hp, by omega, rfl, HD, by decide, HA⟩
  case round =>
    obtain ⟨k, p, m, hk, hpk, hpl, hm, rfl, HDg, hmk, HT⟩ := hrel
    have c1 : wr.cell? ⟨R, 1, none⟩ = some (.int .i64 ((p : Nat) : Int)) := HT.out.rd.c1
    have HPO := Lib.hid HT.out.rd.posOf
    have hw : (p : Int) - (p0 : Int) = ((k : Nat) : Int) := by omega
    by_cases hk4 : k < 4
    · have hkd : decide ((k : Int) < 4) = true := by simp; omega
      cases hin : Rx.isNext bs p tenB with
      | true =>
        obtain ⟨c, hc, hc1, hc2, hcd⟩ := digs_yes bs (3 - k) p m hin
        rw [show 3 - k + 1 = 4 - k by omega] at hcd
        have HN := Lib.hid (hcd.symm.trans HDg.out)
        have CN1 := Lib.hid (CN.out wr (st.to p) HT.out.rd hpl)
        rw [show (st.to p).at' = p from rfl, hin] at CN1
        have hplt : p < bs.length := (List.getElem?_eq_some_iff.1 hc).1
        have hcv : bs[p] = c := (List.getElem?_eq_some_iff.1 hc).2
        have hbt := get_bt (strOf bs)
        have hb0 := strOf_bt bs hB p hplt
        rw [hcv] at hb0
        have HRD := Lib.hid HT.out.rd
        have HON := Lib.hid HT.out.only
        obtain ⟨S, hS⟩ : ∃ S, strOf bs = S := ⟨_, rfl⟩
        obtain ⟨L, hL⟩ : ∃ L, bs.length = L := ⟨_, rfl⟩
        have HSC := Lib.hid (fun (w1 : World) (h : Rd w1 R bs (st.to p)) => h.c0)
        rw [hS] at hsz hbt hb0 HSC
        have HPL := Lib.hid hplt
        rw [hL] at hsz hplt
        have e1 : IntKind.u8.wrap ((c : Int) - 48) = ((c - 48 : Nat) : Int) := by rw [IntKind.wrap_u8]; omega
        have e2 : (10 : Int) * (m : Int) + ((c - 48 : Nat) : Int) = ((10 * m + (c - 48) : Nat) : Int) := by omega
        have E2 := Lib.hid e2
        have hmb : 10 * m + (c - 48) < 10 ^ (k + 1) := by rw [Nat.pow_succ]; omega
        have hmb2 : 10 ^ (k + 1) ≤ 10 ^ 4 := Nat.pow_le_pow_right (by decide) (by omega)
        have hm4 : 10 * m + (c - 48) < 10000 := by omega
        have HM := Lib.hid (And.intro hmb hm4)
        obtain ⟨d, hd⟩ : ∃ d, c - 48 = d := ⟨_, rfl⟩
        have hd9 : d ≤ 9 := by omega
        rw [hd] at e1 E2 HM HN
        have HDD := Lib.hid hd
        have HPK := Lib.hid (show p + 1 = p0 + (k + 1) ∧ p + 1 ≤ bs.length by omega)
        have hL5 : L ≤ 500 := by omega
        clear hS hc hcv hL hl hin hmb hmb2 hm4 hmk e2 HDg HT hd CN HT2 HST
        clear hdl hdg hdL HA h1 hpk
        go_wp2_with fail
        refine CN1.out.mono ?_
        rintro e w1 ⟨rfl, hb⟩
        have R1 := Lib.hid (HRD.out.stay hb)
        have O1 := Lib.hid (only_trans HON.out (Only.of_below hb [R]))
        have c0' := HSC.out w1 R1.out
        have c1' : w1.cell? ⟨R, 1, none⟩ = some (.int .i64 ((p : Nat) : Int)) := R1.out.c1
        have f1' := R1.out.fz 1
        clear hb c1
        go_wp2_with fail
        go_quiet (fail)
        go_wp2
        go_roundw
        case rel => exact ⟨k + 1, p + 1, 10 * m + d, by omega, HPK.out.1, HPK.out.2, HM.out.2, by rw [E2.out], Lib.hid (by rw [show 4 - (k + 1) = 3 - k by omega]; exact HN.out), HM.out.1, Lib.hid ⟨Rd.set1 (w := w1.drewN nq) R1.out (p + 1), (only_trans (O1.out.drewN nq) (only_set 1 _))⟩⟩
        case measure =>
          have hpo := (Rd.set1 (w := w1.drewN nq) R1.out (p + 1)).posOf
          rw [show ((p + 1 : Nat) : Int) = (p : Int) + 1 by omega] at hpo
          rw [HPO.out, hpo]
          show bs.length - (p + 1) < bs.length - p
          have := HPL.out
          omega
      | false =>
        have HN := HDg.out
        rw [digs_no bs _ p m hin] at HN
        obtain ⟨rfl, rfl⟩ : p = pe ∧ m = ne := by cases HN; exact ⟨rfl, rfl⟩
        have CN1 := Lib.hid (CN.out wr (st.to p) HT.out.rd hpl)
        rw [show (st.to p).at' = p from rfl, hin] at CN1
        have HRD := Lib.hid HT.out.rd
        have HON := Lib.hid HT.out.only
        clear HN hin HDg HT CN HT2 HST hdl hdg hdL HA h1 hpk hmk hsz
        go_wp2_with fail
        refine CN1.out.mono ?_
        rintro e w1 ⟨rfl, hb⟩
        have R1 := Lib.hid (HRD.out.stay hb)
        have O1 := Lib.hid (only_trans HON.out (Only.of_below hb [R]))
        have c1' : w1.cell? ⟨R, 1, none⟩ = some (.int .i64 ((p : Nat) : Int)) := R1.out.c1
        clear hb c1
        by_cases hgt : p0 < p
        · have d1 : decide (p0 < p) = true := decide_eq_true hgt
          go_wp2
          go_ret2
          refine ⟨?_, O1.out, R1.out⟩
          rw [d1, Bool.true_and]
          show Ending.returned (.tuple #[.int .i64 ((m : Nat) : Int), .bool (decide ((m : Int) ≤ 1000))]) = _
          rw [show decide ((m : Int) ≤ 1000) = decide (m ≤ 1000) from decide_eq_decide.2 (by omega)]
        · have d1 : decide (p0 < p) = false := decide_eq_false hgt
          go_wp2
          go_ret2
          refine ⟨?_, O1.out, R1.out⟩
          rw [d1, Bool.false_and]
          rfl
    · obtain rfl : k = 4 := by omega
      have hkd : decide (((4 : Nat) : Int) < 4) = false := rfl
      rw [show ((4 : Nat) : Int) = 4 from rfl] at hw
      have HN := HDg.out
      obtain ⟨rfl, rfl⟩ : p = pe ∧ m = ne := by
        have : (p, m) = (pe, ne) := HN
        cases this
        exact ⟨rfl, rfl⟩
      have R1 := Lib.hid HT.out.rd
      have O1 := Lib.hid HT.out.only
      have hgt : p0 < p := by omega
      clear HN HDg HT CN HT2 HST hdl hdg hdL HA h1 hpk hmk hsz
      have d1 : decide (p0 < p) = true := decide_eq_true hgt
      go_wp2
      go_ret2
      refine ⟨?_, O1.out, R1.out⟩
      rw [d1, Bool.true_and]
      show Ending.returned (.tuple #[.int .i64 ((m : Nat) : Int), .bool (decide ((m : Int) ≤ 1000))]) = _
      rw [show decide ((m : Int) ≤ 1000) = decide (m ≤ 1000) from decide_eq_decide.2 (by omega)]
end Go.Proofs.YtphighddlfabbaaDoor
