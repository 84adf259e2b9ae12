/-
  CLOSED FACTS, in parts (B).
-/
import Derived.Test.YthhlhiighgnkmaaGreatDoorStart
import Derived.Deep.DeepHandedRow
namespace Go.Proofs.YthhlhiighgnkmaaGreatDoor.textTimes
set_option maxRecDepth 100000
theorem g10 : ((Rows.textTimesRow.unfollowed == Tryz.pinned.checked.prog.unfollowed 7)) = true := by kernel_rfl
theorem g12 : ((Rows.textTimesRow.named == Tryz.pinned.checked.prog.varsNamed 7)) = true := by kernel_rfl
end Go.Proofs.YthhlhiighgnkmaaGreatDoor.textTimes
