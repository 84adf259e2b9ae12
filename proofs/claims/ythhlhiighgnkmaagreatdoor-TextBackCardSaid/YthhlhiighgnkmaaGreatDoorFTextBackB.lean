/-
  CLOSED FACTS, in parts (B).
-/
import Derived.Test.YthhlhiighgnkmaaGreatDoorStart
import Derived.Deep.DeepHandedRow
namespace Go.Proofs.YthhlhiighgnkmaaGreatDoor.textBack
set_option maxRecDepth 100000
theorem g10 : ((Rows.textBackRow.unfollowed == Tryz.pinned.checked.prog.unfollowed 5)) = true := by kernel_rfl
theorem g12 : ((Rows.textBackRow.named == Tryz.pinned.checked.prog.varsNamed 5)) = true := by kernel_rfl
end Go.Proofs.YthhlhiighgnkmaaGreatDoor.textBack
