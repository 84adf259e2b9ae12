/-
  CLOSED FACTS, in parts (A).
-/
import Derived.Test.YtiolghcjndoigaaGreatDoorStart
import Derived.Deep.DeepHandedRow
namespace Go.Proofs.YtiolghcjndoigaaGreatDoor.labelsBack
set_option maxRecDepth 100000
theorem g0 : (Rows.labelsBackRow.wf (OpenSpec.ofChange (OpenSpec.ofChange Rows.labelsBackSpec).bare)) = true := by kernel_rfl
theorem g1 : (laidOutB Tryz.pinned.checked.prog) = true := by kernel_rfl
theorem g2 : (mapsRowed Tryz.pinned.checked.prog) = true := by kernel_rfl
theorem g3 : (Tryz.f7.params.all (Tryz.pinned.checked.prog.readableRec ·)) = true := by kernel_rfl
theorem g4 : (namedTie Tryz.pinned.checked.prog Rows.labelsBackRow.named ((OpenSpec.ofChange Rows.labelsBackSpec).bare).vars) = true := by kernel_rfl
theorem g5 : ((Rows.labelsBackRow.stops == [])) = true := by kernel_rfl
theorem g6 : ((Tryz.pinned.checked.prog.stops == [])) = true := by kernel_rfl
theorem g7 : ((Rows.labelsBackRow.knobs == [])) = true := by kernel_rfl
theorem g8 : ((Tryz.pinned.checked.prog.stopKnobs == [])) = true := by kernel_rfl
theorem g9 : ((Rows.labelsBackRow.inPlace == Tryz.pinned.checked.prog.inPlace 7)) = true := by kernel_rfl
end Go.Proofs.YtiolghcjndoigaaGreatDoor.labelsBack
