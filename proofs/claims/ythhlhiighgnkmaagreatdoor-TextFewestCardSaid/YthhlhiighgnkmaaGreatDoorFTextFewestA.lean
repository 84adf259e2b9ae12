/-
  CLOSED FACTS, in parts (A).
-/
import Derived.Test.YthhlhiighgnkmaaGreatDoorStart
import Derived.Deep.DeepHandedRow
namespace Go.Proofs.YthhlhiighgnkmaaGreatDoor.textFewest
set_option maxRecDepth 100000
theorem g0 : (Rows.textFewestRow.wf (OpenSpec.ofChange (OpenSpec.ofChange Rows.textFewestSpec).bare)) = true := by kernel_rfl
theorem g1 : (laidOutB Tryz.pinned.checked.prog) = true := by kernel_rfl
theorem g2 : (mapsRowed Tryz.pinned.checked.prog) = true := by kernel_rfl
theorem g3 : (Tryz.f6.params.all (Tryz.pinned.checked.prog.readableRec ·)) = true := by kernel_rfl
theorem g4 : (namedTie Tryz.pinned.checked.prog Rows.textFewestRow.named ((OpenSpec.ofChange Rows.textFewestSpec).bare).vars) = true := by kernel_rfl
theorem g5 : ((Rows.textFewestRow.stops == [])) = true := by kernel_rfl
theorem g6 : ((Tryz.pinned.checked.prog.stops == [])) = true := by kernel_rfl
theorem g7 : ((Rows.textFewestRow.knobs == [])) = true := by kernel_rfl
theorem g8 : ((Tryz.pinned.checked.prog.stopKnobs == [])) = true := by kernel_rfl
theorem g9 : ((Rows.textFewestRow.inPlace == Tryz.pinned.checked.prog.inPlace 6)) = true := by kernel_rfl
end Go.Proofs.YthhlhiighgnkmaaGreatDoor.textFewest
