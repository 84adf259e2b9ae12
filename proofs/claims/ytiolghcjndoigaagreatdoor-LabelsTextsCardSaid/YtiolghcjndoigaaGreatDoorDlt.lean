/-
  WALKS: labels struck out of a list of the call's own.
-/
import Derived.Test.YtiolghcjndoigaaGreatDoorRis
import Derived.Lib.SliceRun
namespace Go.Proofs.YtiolghcjndoigaaGreatDoor
set_option linter.unusedVariables false
set_option linter.unusedSimpArgs false
open Go.RowKit Go.PlainAid Go.Shelf
def zstr : Value := .string ⟨#[]⟩
theorem zero94 (w : World) : (zeroValue 94).run Tryz.prog w = .ok (.agg #[zstr, zstr]) w := Tryz.zeroValue94 w
theorem clear_two (w : World) (ty : TypeId) (b o n c : Nat) (hn : 0 < n) (hc : ∀ j, j < n * 2 → (w.cell? ⟨b, o + j, none⟩).isSome = true) (hf : ∀ j, w.frozen? ⟨b, j, none⟩ = false) :
    (Builtin.clear_ #[22] ty #[.slice (some ⟨b, o, none⟩) n c]).run Tryz.prog w = .ok (.tuple #[]) (w.setCells b o (List.replicate (n * 2) zstr)) := by
  have hzc : (Builtin.zeroCells #[zstr, zstr] n).toList = List.replicate (n * 2) zstr := by
    simp [Builtin.zeroCells]
    apply List.ext_getElem
    · simp
    · intro i h1 h2
      have : i % 2 = 0 ∨ i % 2 = 1 := by omega
      rcases this with h | h <;> simp [h]
  have hst := run_storeCells_cells (P := Tryz.prog) b o (List.replicate (n * 2) zstr) 0 w (by simpa using hc) (fun j _ => hf _) (by intro v hv'; rw [List.eq_of_mem_replicate hv']; rfl)
  simp only [Nat.add_zero] at hst
  obtain ⟨m, rfl⟩ : ∃ m, n = m + 1 := ⟨n - 1, by omega⟩
  have hz : (Value.agg #[Value.string ⟨#[]⟩, Value.string ⟨#[]⟩]).cells = #[zstr, zstr] := rfl
  simp [Builtin.clear_, run_underlying Tryz.underlying22, zero94, hz, hzc, hst]
/-- a block of labels -/
def RowG (w : World) (g cap : Nat) : Prop := ∃ cur, w.heap[g]? = some (.cells cur 94 (0, 0)) ∧ cur.size = cap * 2
theorem RowG.lt {w : World} {g cap : Nat} (h : RowG w g cap) : g < w.heap.size := by
  obtain ⟨cur, hc, _⟩ := h
  exact (Array.getElem?_eq_some_iff.1 hc).1
theorem RowG.fz {w : World} {g cap : Nat} (h : RowG w g cap) (j : Nat) : w.frozen? ⟨g, j, none⟩ = false := by
  obtain ⟨cur, hc, _⟩ := h
  exact frozen_of_row _ _ _ _ _ hc
theorem RowG.some {w : World} {g cap : Nat} (h : RowG w g cap) (j : Nat) (hj : j < cap * 2) : (w.cell? ⟨g, j, none⟩).isSome = true := by
  obtain ⟨cur, hc, hs⟩ := h
  rw [cell_of_row _ _ _ _ _ _ hc, Array.getElem?_eq_getElem (by omega)]
  rfl
theorem RowG.below {w w' : World} {g cap : Nat} (h : RowG w g cap) {B : Nat} (hb : Below B w w') (hg : g < B) : RowG w' g cap := by
  obtain ⟨cur, hc, hs⟩ := h
  exact ⟨cur, (hb.block g hg).trans hc, hs⟩
theorem RowG.set {w : World} {g cap : Nat} (h : RowG w g cap) (j : Nat) (v : Value) : RowG (w.setCell ⟨g, j, none⟩ v) g cap := by
  obtain ⟨cur, hc, hs⟩ := h
  exact ⟨_, heap_setCell_same _ _ _ _ _ _ hc, by simpa using hs⟩
theorem RowG.sets {g cap : Nat} : ∀ (vs : List Value) (o : Nat) {w : World}, RowG w g cap → RowG (w.setCells g o vs) g cap
  | [], _, _, h => h
  | v :: vs, o, w, h => RowG.sets vs (o + 1) (h.set o v)
theorem below_sets {base g : Nat} (hg : base ≤ g) {w0 : World} : ∀ (vs : List Value) (o : Nat) {w : World}, Below base w0 w → Below base w0 (w.setCells g o vs)
  | [], _, _, h => h
  | v :: vs, o, w, h => below_sets hg vs (o + 1) (h.setCell (p := ⟨g, o, none⟩) hg v)
/-- the labels that stand at the front of a block -/
def Front (w : World) (g : Nat) (F : List Lm.Lb) : Prop := ∀ t (h : t < F.length), w.cell? ⟨g, t * 2, none⟩ = some (.string F[t].1) ∧ w.cell? ⟨g, t * 2 + 1, none⟩ = some (.string F[t].2)
theorem own_front {w : World} {base g cap : Nat} {F : List Lm.Lb} (hr : RowG w g cap) (hf : Front w g F) (hb : base ≤ g) (hc : F.length ≤ cap) (hm : cap ≤ maxLen) : OwnL w base (.slice (some ⟨g, 0, none⟩) F.length cap) F := by
  obtain ⟨cur, h1, h2⟩ := hr
  refine ⟨by rw [flat_length], .inr ⟨g, cap, cur, rfl, hb, h1, hc, hm, h2, ?_⟩⟩
  apply List.ext_getElem?
  intro t
  rw [List.getElem?_take]
  by_cases ht : t < F.length * 2
  · rw [if_pos ht, Array.getElem?_toList]
    have hi : t / 2 < F.length := by omega
    obtain ⟨e1, e2⟩ := flat_get F (t / 2) hi
    obtain ⟨c1, c2⟩ := hf (t / 2) hi
    rw [cell_of_row _ _ _ _ _ _ h1] at c1 c2
    rcases Nat.mod_two_eq_zero_or_one t with h | h
    · have : t / 2 * 2 = t := by omega
      rw [this] at e1 c1
      rw [e1, c1]
    · have : t / 2 * 2 + 1 = t := by omega
      rw [this] at e2 c2
      rw [e2, c2]
  · rw [if_neg ht, List.getElem?_eq_none (by rw [flat_length]; omega)]
theorem cell_other (w : World) (g i j : Nat) (v : Value) (h : i ≠ j) : (w.setCell ⟨g, i, none⟩ v).cell? ⟨g, j, none⟩ = w.cell? ⟨g, j, none⟩ := World.cell?_setCell_other w _ _ v (by intro e; cases e; exact h rfl)
theorem idx_spec (p : Lm.Lb → Bool) (l : List Lm.Lb) : (firstL p l = -1 ∧ ∀ x ∈ l, p x = false) ∨ ∃ k, ∃ h : k < l.length, firstL p l = (k : Int) ∧ p l[k] = true ∧ ∀ x ∈ l.take k, p x = false := by
  have key : ∀ (l : List Lm.Lb) (i : Nat), (Lib.idxByFrom (fun _ y => p y) default l i = -1 ∧ ∀ x ∈ l, p x = false) ∨ ∃ k, ∃ h : k < l.length, Lib.idxByFrom (fun _ y => p y) default l i = ((i + k : Nat) : Int) ∧ p l[k] = true ∧ ∀ x ∈ l.take k, p x = false := by
    intro l
    induction l with
    | nil => intro i; exact .inl ⟨rfl, fun x hx => by cases hx⟩
    | cons y r ih =>
      intro i
      cases h : p y with
      | true => exact .inr ⟨0, by simp, by simp [Lib.idxByFrom, h], by simpa using h, fun x hx => by simp at hx⟩
      | false =>
        rcases ih (i + 1) with ⟨e, ha⟩ | ⟨k, hk, e, ht, ha⟩
        · refine .inl ⟨by simp [Lib.idxByFrom, h, e], fun x hx => ?_⟩
          rcases List.mem_cons.1 hx with rfl | hx
          · exact h
          · exact ha x hx
        · refine .inr ⟨k + 1, by simpa using hk, ?_, by simpa using ht, fun x hx => ?_⟩
          · simp only [Lib.idxByFrom, h]
            rw [show (if false = true then (i : Int) else Lib.idxByFrom (fun _ y => p y) default r (i + 1)) = Lib.idxByFrom (fun _ y => p y) default r (i + 1) from rfl, e]
            congr 1
            omega
          · rw [List.take_succ_cons] at hx
            rcases List.mem_cons.1 hx with rfl | hx
            · exact h
            · exact ha x hx
  unfold firstL Lib.idxBy
  have := key l 0
  simpa using this
end Go.Proofs.YtiolghcjndoigaaGreatDoor
