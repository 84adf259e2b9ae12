/-
  A LIST OF ITS OWN AS THE ROW THAT THE LIBRARY's SORT TURNS.
-/
import Derived.Test.YtiolghcjndoigaaGreatDoorCol
import Derived.Shelf.SlSortCmp.InsertionK
namespace Go.Proofs.YtiolghcjndoigaaGreatDoor
set_option linter.unusedVariables false
set_option linter.unusedSimpArgs false
open Go.RowKit Go.PlainAid Go.Shelf
theorem enc2_len (x : Lm.Lb) : (enc2 x).length = 2 := rfl
theorem flat_length (l : List Lm.Lb) : (l.flatMap enc2).length = l.length * 2 := by
  induction l with
  | nil => rfl
  | cons x l ih => simp only [List.flatMap_cons, List.length_append, ih, enc2_len, List.length_cons]; omega
theorem flat_get (l : List Lm.Lb) : ∀ (i : Nat) (h : i < l.length), (l.flatMap enc2)[i * 2]? = some (.string l[i].1) ∧ (l.flatMap enc2)[i * 2 + 1]? = some (.string l[i].2) := by
  induction l with
  | nil => intro i h; simp at h
  | cons x l ih =>
    intro i h
    cases i with
    | zero => exact ⟨rfl, rfl⟩
    | succ i =>
      have := ih i (by simpa using h)
      simp only [List.flatMap_cons, List.getElem_cons_succ]
      rw [List.getElem?_append_right (by rw [enc2_len]; omega), List.getElem?_append_right (by rw [enc2_len]; omega)]
      have e1 : (i + 1) * 2 - (enc2 x).length = i * 2 := by rw [enc2_len]; omega
      have e2 : (i + 1) * 2 + 1 - (enc2 x).length = i * 2 + 1 := by rw [enc2_len]; omega
      rw [e1, e2]
      exact this
/-- the cells of a list of its own -/
theorem OwnL.labs {w : World} {base : Nat} {v : Value} {l : List Lm.Lb} (h : OwnL w base v l) : ∃ a cap, v = .slice a l.length cap ∧ Labs w a l ∧ (l ≠ [] → ∃ g, a = some ⟨g, 0, none⟩ ∧ base ≤ g) := by
  obtain ⟨h1, h2⟩ := h
  rcases h2 with ⟨rfl, h0⟩ | ⟨g, cap, cur, rfl, hg, hc, h3, h4, h5, h6⟩
  · have : l = [] := List.eq_nil_of_length_eq_zero h0
    subst this
    exact ⟨none, 0, rfl, fun h => absurd rfl h, fun h => absurd rfl h⟩
  · refine ⟨_, cap, rfl, fun hn => ⟨g, 0, rfl, (Array.getElem?_eq_some_iff.1 hc).1, fun i hi => ?_⟩, fun _ => ⟨g, rfl, hg⟩⟩
    obtain ⟨e1, e2⟩ := flat_get l i hi
    have t1 := congrArg (fun l => l[i * 2]?) h6
    have t2 := congrArg (fun l => l[i * 2 + 1]?) h6
    simp only [List.getElem?_take] at t1 t2
    rw [if_pos (by omega), e1] at t1
    rw [if_pos (by omega), e2] at t2
    rw [cell_of_row _ _ _ _ _ _ hc, cell_of_row _ _ _ _ _ _ hc, ← Array.getElem?_toList, ← Array.getElem?_toList, Nat.zero_add]
    exact ⟨t1, t2⟩
theorem OwnL.below {w w' : World} {base : Nat} {v : Value} {l : List Lm.Lb} (h : OwnL w base v l) (hb : Below w.heap.size w w') : OwnL w' base v l := by
  obtain ⟨h1, h2⟩ := h
  refine ⟨h1, ?_⟩
  rcases h2 with h2 | ⟨g, cap, cur, hv, hg, hc, h3, h4, h5, h6⟩
  · exact .inl h2
  · exact .inr ⟨g, cap, cur, hv, hg, (hb.block g (Array.getElem?_eq_some_iff.1 hc).1).trans hc, h3, h4, h5, h6⟩
theorem OwnL.lower {w : World} {base b2 : Nat} {v : Value} {l : List Lm.Lb} (h : OwnL w base v l) (hb : b2 ≤ base) : OwnL w b2 v l := by
  obtain ⟨h1, h2⟩ := h
  refine ⟨h1, ?_⟩
  rcases h2 with h2 | ⟨g, cap, cur, hv, hg, hc, h3⟩
  · exact .inl h2
  · exact .inr ⟨g, cap, cur, hv, Nat.le_trans hb hg, hc, h3⟩
theorem flatK_list (l : List Lm.Lb) : (Sort.flatK enc2 2 l.toArray).toList = l.flatMap enc2 := by
  apply List.ext_getElem?
  intro t
  rw [Array.getElem?_toList]
  by_cases ht : t < l.length * 2
  · have hsz : t < (Sort.flatK enc2 2 l.toArray).size := by rw [Sort.size_flatK]; simpa using ht
    have h1 := Sort.get_flatK enc2 2 l.toArray t (by simpa using ht)
    rw [getElem!_pos _ t hsz] at h1
    rw [Array.getElem?_eq_getElem hsz, h1]
    have hi : t / 2 < l.length := by omega
    obtain ⟨e1, e2⟩ := flat_get l (t / 2) hi
    have e0 : l.toArray[t / 2]! = l[t / 2] := by rw [getElem!_pos _ _ (by simpa using hi)]; simp
    rw [e0]
    rcases Nat.mod_two_eq_zero_or_one t with h | h
    · rw [h]
      have : t / 2 * 2 = t := by omega
      rw [this] at e1
      rw [e1]; rfl
    · rw [h]
      have : t / 2 * 2 + 1 = t := by omega
      rw [this] at e2
      rw [e2]; rfl
  · rw [Array.getElem?_eq_none (by rw [Sort.size_flatK]; simp; omega), List.getElem?_eq_none (by rw [flat_length]; omega)]
theorem own_holds {w : World} {base g cap : Nat} {l : List Lm.Lb} (h : OwnL w base (.slice (some ⟨g, 0, none⟩) l.length cap) l) : Sort.HoldsK enc2 2 w g 0 l.toArray ∧ g < w.heap.size ∧ base ≤ g := by
  obtain ⟨h1, h2⟩ := h
  rcases h2 with ⟨hv, _⟩ | ⟨g', cap', cur, hv, hg, hc, h3, h4, h5, h6⟩
  · cases hv
  · cases hv
    refine ⟨fun j hj => ?_, (Array.getElem?_eq_some_iff.1 hc).1, hg⟩
    rw [Sort.size_flatK] at hj
    have hj2 : j < l.length * 2 := by simpa using hj
    rw [Nat.zero_add]
    refine ⟨?_, frozen_of_row _ _ _ _ _ hc⟩
    rw [cell_of_row _ _ _ _ _ _ hc, ← Array.getElem?_toList]
    have t1 := congrArg (fun l => l[j]?) h6
    simp only [List.getElem?_take] at t1
    rw [if_pos hj2] at t1
    rw [t1, ← flatK_list, Array.getElem?_toList]
    have hsz : j < (Sort.flatK enc2 2 l.toArray).size := by rw [Sort.size_flatK]; exact hj
    rw [Array.getElem?_eq_getElem hsz, getElem!_pos _ j hsz]
    rfl
theorem own_sorted {w : World} {base g cap : Nat} {l l' : List Lm.Lb} (h : OwnL w base (.slice (some ⟨g, 0, none⟩) l.length cap) l) (hl : l'.length = l.length) (m : Nat) (os : Array Obj) :
    OwnL (sortWorldK enc2 2 w g 0 m l'.toArray os) base (.slice (some ⟨g, 0, none⟩) l'.length cap) l' ∧ Go.RowKit.Below base w (sortWorldK enc2 2 w g 0 m l'.toArray os) := by
  obtain ⟨h1, h2⟩ := h
  rcases h2 with ⟨hv, _⟩ | ⟨g', cap', cur, hv, hg, hc, h3, h4, h5, h6⟩
  · cases hv
  · cases hv
    have hlt := (Array.getElem?_eq_some_iff.1 hc).1
    have hF : (Sort.flatK enc2 2 l'.toArray).size = l'.length * 2 := by rw [Sort.size_flatK]; simp
    have hblk : (sortWorldK enc2 2 w g 0 m l'.toArray os).heap[g]? = some (.cells (Sort.putCells id 0 (Sort.flatK enc2 2 l'.toArray) cur) 94 (0, 0)) := by
      unfold sortWorldK Sort.putRowK Sort.putRow Sort.mapBlock Sort.grow Sort.ahead
      simp only
      rw [Array.getElem?_append_left (by rw [Array.size_modify]; exact hlt), Array.getElem?_modify, if_pos rfl, hc]
      rfl
    have hsz : (Sort.putCells id 0 (Sort.flatK enc2 2 l'.toArray) cur).size = cur.size := by unfold Sort.putCells; simp
    constructor
    · refine ⟨by rw [flat_length], .inr ⟨g, cap, _, rfl, hg, hblk, by omega, h4, by rw [hsz]; exact h5, ?_⟩⟩
      apply List.ext_getElem?
      intro t
      rw [List.getElem?_take]
      by_cases ht : t < l'.length * 2
      · rw [if_pos ht, Array.getElem?_toList]
        unfold Sort.putCells
        have hc2 : t < cur.size := by
          rw [h5]
          have : l.length * 2 ≤ cap * 2 := Nat.mul_le_mul_right 2 h3
          omega
        rw [Array.getElem?_mapIdx, Array.getElem?_eq_getElem hc2, Option.map_some, if_pos ⟨Nat.zero_le _, by omega⟩, ← flatK_list, Array.getElem?_toList, Nat.sub_zero]
        have hs2 : t < (Sort.flatK enc2 2 l'.toArray).size := by omega
        rw [Array.getElem?_eq_getElem hs2, getElem!_pos _ t hs2]
        rfl
      · rw [if_neg ht, List.getElem?_eq_none (by rw [flat_length]; omega)]
    · refine ⟨rfl, rfl, rfl, ?_, fun k hk => ?_⟩
      · unfold sortWorldK Sort.putRowK Sort.putRow Sort.mapBlock Sort.grow Sort.ahead
        simp only [Array.size_append, Array.size_modify]
        omega
      · unfold sortWorldK Sort.putRowK Sort.putRow Sort.mapBlock Sort.grow Sort.ahead
        have hkl : k < w.heap.size := by omega
        simp only
        rw [Array.getElem?_append_left (by rw [Array.size_modify]; exact hkl), Array.getElem?_modify, if_neg (by omega)]
end Go.Proofs.YtiolghcjndoigaaGreatDoor
