/-
  CLOSED FACTS, in parts (B).
-/
import Derived.Test.YtiolghcjndoigaaGreatDoorStart
import Derived.Deep.DeepHandedRow
namespace Go.Proofs.YtiolghcjndoigaaGreatDoor.labelsOrder
set_option maxRecDepth 100000
theorem g10 : ((Rows.labelsOrderRow.unfollowed == Tryz.pinned.checked.prog.unfollowed 8)) = true := by kernel_rfl
theorem g12 : ((Rows.labelsOrderRow.named == Tryz.pinned.checked.prog.varsNamed 8)) = true := by kernel_rfl
end Go.Proofs.YtiolghcjndoigaaGreatDoor.labelsOrder
