/-
  CLOSED FACTS, in parts (B).
-/
import Derived.Test.YthhlhiighgnkmaaGreatDoorStart
import Derived.Deep.DeepHandedRow
namespace Go.Proofs.YthhlhiighgnkmaaGreatDoor.textShows
set_option maxRecDepth 100000
theorem g10 : ((Rows.textShowsRow.unfollowed == Tryz.pinned.checked.prog.unfollowed 3)) = true := by kernel_rfl
theorem g12 : ((Rows.textShowsRow.named == Tryz.pinned.checked.prog.varsNamed 3)) = true := by kernel_rfl
end Go.Proofs.YthhlhiighgnkmaaGreatDoor.textShows
