/-
  CLOSED FACTS, in parts (A).
-/
import Derived.Test.YtiolghcjndoigaaGreatDoorStart
import Derived.Deep.DeepHandedRow
namespace Go.Proofs.YtiolghcjndoigaaGreatDoor.labelsOrder
set_option maxRecDepth 100000
theorem g0 : (Rows.labelsOrderRow.wf (OpenSpec.ofChange (OpenSpec.ofChange Rows.labelsOrderSpec).bare)) = true := by kernel_rfl
theorem g1 : (laidOutB Tryz.pinned.checked.prog) = true := by kernel_rfl
theorem g2 : (mapsRowed Tryz.pinned.checked.prog) = true := by kernel_rfl
theorem g3 : (Tryz.f8.params.all (Tryz.pinned.checked.prog.readableRec ·)) = true := by kernel_rfl
theorem g4 : (namedTie Tryz.pinned.checked.prog Rows.labelsOrderRow.named ((OpenSpec.ofChange Rows.labelsOrderSpec).bare).vars) = true := by kernel_rfl
theorem g5 : ((Rows.labelsOrderRow.stops == [])) = true := by kernel_rfl
theorem g6 : ((Tryz.pinned.checked.prog.stops == [])) = true := by kernel_rfl
theorem g7 : ((Rows.labelsOrderRow.knobs == [])) = true := by kernel_rfl
theorem g8 : ((Tryz.pinned.checked.prog.stopKnobs == [])) = true := by kernel_rfl
theorem g9 : ((Rows.labelsOrderRow.inPlace == Tryz.pinned.checked.prog.inPlace 8)) = true := by kernel_rfl
end Go.Proofs.YtiolghcjndoigaaGreatDoor.labelsOrder
