/-
  CLOSED FACTS, in parts (A).
-/
import Derived.Test.YthhlhiighgnkmaaGreatDoorStart
import Derived.Deep.DeepHandedRow
namespace Go.Proofs.YthhlhiighgnkmaaGreatDoor.textBack
set_option maxRecDepth 100000
theorem g0 : (Rows.textBackRow.wf (OpenSpec.ofChange (OpenSpec.ofChange Rows.textBackSpec).bare)) = true := by kernel_rfl
theorem g1 : (laidOutB Tryz.pinned.checked.prog) = true := by kernel_rfl
theorem g2 : (mapsRowed Tryz.pinned.checked.prog) = true := by kernel_rfl
theorem g3 : (Tryz.f5.params.all (Tryz.pinned.checked.prog.readableRec ·)) = true := by kernel_rfl
theorem g4 : (namedTie Tryz.pinned.checked.prog Rows.textBackRow.named ((OpenSpec.ofChange Rows.textBackSpec).bare).vars) = true := by kernel_rfl
theorem g5 : ((Rows.textBackRow.stops == [])) = true := by kernel_rfl
theorem g6 : ((Tryz.pinned.checked.prog.stops == [])) = true := by kernel_rfl
theorem g7 : ((Rows.textBackRow.knobs == [])) = true := by kernel_rfl
theorem g8 : ((Tryz.pinned.checked.prog.stopKnobs == [])) = true := by kernel_rfl
theorem g9 : ((Rows.textBackRow.inPlace == Tryz.pinned.checked.prog.inPlace 5)) = true := by kernel_rfl
end Go.Proofs.YthhlhiighgnkmaaGreatDoor.textBack
