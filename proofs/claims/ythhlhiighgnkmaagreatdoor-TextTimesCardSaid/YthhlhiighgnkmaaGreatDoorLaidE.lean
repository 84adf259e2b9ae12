/-
  WHAT THE LISTED VARIABLES GIVE THE WALKS: the handle that errors.As reads.
-/
import Derived.Test.YthhlhiighgnkmaaGreatDoorLaid
import Derived.Test.YthhlhiighgnkmaaGreatDoorAsA
namespace Go.Proofs.YthhlhiighgnkmaaGreatDoor
open Go.RowKit
theorem types_size : Tryz.prog.types.size = 335 := by kernel_rfl
theorem error_row : ((List.range 335).filter fun t => Tryz.prog.rowNamed t [101, 114, 114, 111, 114]) = [60] := by kernel_rfl
theorem laid_error {W : World} (h : laidMetH Tryz.prog laid16 W) : W.cell? ⟨0, 0, none⟩ = some (rt 60) := by
  obtain ⟨_, h2⟩ := laidMetH_iff.1 h
  obtain ⟨name, u, ty, e1, e2, e3, e4, e5⟩ := h2 ("errors.errorType", Rows.laid_errors_errorType) (List.mem_filter.2 ⟨by simp [laid16, Rows.textQuotesRow], by kernel_rfl⟩)
  have en : name = [101, 114, 114, 111, 114] := (Option.some.inj e1).symm
  subst en
  obtain rfl := Option.some.inj ((show (Tryz.prog.cutTypes.find? (·.1 == "internal/reflectlite.rtype")).map (·.2) = some 168 by kernel_rfl).symm.trans e2)
  have hm : ty ∈ (List.range 335).filter fun t => Tryz.prog.rowNamed t [101, 114, 114, 111, 114] := List.mem_filter.2 ⟨List.mem_range.2 (by rw [← types_size]; exact e3), e4⟩
  rw [error_row] at hm
  obtain rfl := List.mem_singleton.1 hm
  have hh : typeHandle Tryz.prog 60 = hd 60 := by kernel_rfl
  rw [hh] at e5
  simpa using World.var?_cell (show Tryz.prog.globalNamed "errors.errorType" = some 0 by kernel_rfl) e5 0
end Go.Proofs.YthhlhiighgnkmaaGreatDoor
