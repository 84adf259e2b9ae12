/-
  CLOSED FACTS, in parts (B).
-/
import Derived.Test.YthhlhiighgnkmaaGreatDoorStart
import Derived.Deep.DeepHandedRow
namespace Go.Proofs.YthhlhiighgnkmaaGreatDoor.textFewest
set_option maxRecDepth 100000
theorem g10 : ((Rows.textFewestRow.unfollowed == Tryz.pinned.checked.prog.unfollowed 6)) = true := by kernel_rfl
theorem g12 : ((Rows.textFewestRow.named == Tryz.pinned.checked.prog.varsNamed 6)) = true := by kernel_rfl
end Go.Proofs.YthhlhiighgnkmaaGreatDoor.textFewest
