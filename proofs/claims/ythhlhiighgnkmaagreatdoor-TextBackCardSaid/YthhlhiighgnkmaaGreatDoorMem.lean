/-
  CELLS: where a reader stands; new blocks; the document's own digits.
-/
import Derived.Test.YthhlhiighgnkmaaGreatDoorRd
namespace Go.Proofs.YthhlhiighgnkmaaGreatDoor
set_option linter.unusedVariables false
set_option linter.unusedSimpArgs false
open Go.RowKit Go.PlainAid
/-- where a reader stands -/
def posOf (R : Nat) (w : World) : Nat := match w.cell? ⟨R, 1, none⟩ with | some v => (intOf v).toNat | none => 0
theorem Rd.posOf {w : World} {R : Nat} {bs : List Nat} {p : Nat} (h : Rd w R bs p) : posOf R w = p := by
  unfold YthhlhiighgnkmaaGreatDoor.posOf
  rw [h.c1]
  simp [intOf]
/-- a cell of a block -/
theorem cellAt {w : World} {q : Nat} {arr : Array Value} {t : TypeId} (h : w.heap[q]? = some (.cells arr t (0, 0))) (k : Nat) : w.cell? ⟨q, k, none⟩ = arr[k]? := by
  rw [cell_of_row _ _ _ _ _ _ h]
theorem blk_lt {w : World} {q : Nat} {o : Obj} (h : w.heap[q]? = some o) : q < w.heap.size := (Array.getElem?_eq_some_iff.1 h).1
theorem fresh_cell (w : World) (v : Value) (t : TypeId) : (w.alloc (.cells #[v] t)).cell? ⟨w.heap.size, 0, none⟩ = some v := by
  rw [World.cell?_alloc_at _ _ _ _ (by simp)]; rfl
theorem fresh_thaw (w : World) (v : Value) (t : TypeId) : (w.alloc (.cells #[v] t)).frozen? ⟨w.heap.size, 0, none⟩ = false := frozen_of_row _ _ _ _ _ (heap_alloc_new w _)
theorem zero_lt {w : World} {v : Value} (h : w.cell? ⟨0, 0, none⟩ = some v) : 0 < w.heap.size := by
  rcases Nat.eq_zero_or_pos w.heap.size with h0 | h1
  · simp [World.cell?, h0] at h
  · exact h1
theorem zero_alloc {w : World} {v : Value} (h : w.cell? ⟨0, 0, none⟩ = some v) (o : Obj) : (w.alloc o).cell? ⟨0, 0, none⟩ = some v :=
  (((Below.refl w.heap.size w).alloc (Nat.le_refl _) o).cell (p := ⟨0, 0, none⟩) (zero_lt h)).trans h
theorem alloc_stay (w : World) (o : Obj) : Below w.heap.size w (w.alloc o) := (Below.refl w.heap.size w).alloc (Nat.le_refl _) o
theorem rdigit_any (c : Nat) (hc : c < 256) (w : World) : Calls Tryz.prog 59 #[.int .u8 (c : Int)] w fun e w' => e = .returned (.bool (decide (48 ≤ c) && decide (c ≤ 57))) ∧ w' = w := by
  have d1 : decide ((c : Int) ≥ 48) = decide (48 ≤ c) := by congr 1; exact propext (by omega)
  have d3 : decide ((48 : Int) ≤ (c : Int)) = decide (48 ≤ c) := d1
  have d2 : decide ((c : Int) ≤ 57) = decide (c ≤ 57) := by congr 1; exact propext (by omega)
  obtain ⟨x, hx⟩ : ∃ x, decide (48 ≤ c) = x := ⟨_, rfl⟩
  obtain ⟨y, hy⟩ : ∃ y, decide (c ≤ 57) = y := ⟨_, rfl⟩
  rw [hx] at d1 d3 ⊢
  rw [hy] at d2 ⊢
  clear hx hy
  cases x
  · go_enter Tryz.func59, Tryz.ntmps59
    go_wp2
    go_ret
    exact ⟨rfl, rfl⟩
  · cases y
    · go_enter Tryz.func59, Tryz.ntmps59
      go_wp2
      go_ret
      exact ⟨rfl, rfl⟩
    · go_enter Tryz.func59, Tryz.ntmps59
      go_wp2
      go_ret
      exact ⟨rfl, rfl⟩
end Go.Proofs.YthhlhiighgnkmaaGreatDoor
