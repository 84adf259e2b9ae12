/-
  WHAT THE LISTED VARIABLES GIVE THE WALKS: the sentinel of a number that is out of range.
-/
import Derived.Test.YthhlhiighgnkmaaGreatDoorLaid
namespace Go.Proofs.YthhlhiighgnkmaaGreatDoor
open Go.RowKit
/-- the cell of the sentinel -/
def ErrR (w : World) : Prop := ∃ ev, w.cell? ⟨6, 0, none⟩ = some ev ∧ (ev = .nilIface ∨ ∃ te pe, ev = .iface te pe)
theorem laid_range {W : World} (h : laidMetH Tryz.prog laid16 W) : ErrR W := by
  obtain ⟨cs, fuel, p, hc, hd⟩ := one_cells h "strconv.ErrRange" Rows.laid_strconv_ErrRange 6 60 (by kernel_rfl) (by kernel_rfl) (by kernel_rfl) (by kernel_rfl)
  obtain ⟨_, u, v, hcs, _⟩ := Go.iface_of_trod Tryz.underlying60 hd
  refine ⟨.iface u v, ?_, .inr ⟨u, v, rfl⟩⟩
  rw [hc 0, Array.eq_one_of_toList hcs]
  rfl
theorem ErrR.lt {w : World} (h : ErrR w) : 6 < w.heap.size := by
  obtain ⟨ev, h1, _⟩ := h
  exact cell_lt h1
theorem ErrR.below {w w' : World} (h : ErrR w) (hb : Below w.heap.size w w') : ErrR w' := by
  obtain ⟨ev, h1, h2⟩ := h
  exact ⟨ev, (hb.cell (p := ⟨6, 0, none⟩) (cell_lt h1)).trans h1, h2⟩
theorem ErrR.only {w w' : World} {R : Nat} (h : ErrR w) (hb : Only [R] w w') (hR : R ≠ 6) : ErrR w' := by
  obtain ⟨ev, h1, h2⟩ := h
  exact ⟨ev, (hb.cell (p := ⟨6, 0, none⟩) (cell_lt h1) (by simpa using fun e => hR e.symm)).trans h1, h2⟩
end Go.Proofs.YthhlhiighgnkmaaGreatDoor
