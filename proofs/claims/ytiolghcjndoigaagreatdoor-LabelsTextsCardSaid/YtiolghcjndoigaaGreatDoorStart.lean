/-
  THE START IS SHAPED AS THE FORM ASKS.
-/
import Derived.Test.YtiolghcjndoigaaGreatDoorDoor
import Derived.LaidLaws
import Derived.Lay
namespace Go.Proofs.YtiolghcjndoigaaGreatDoor
open Go.RowKit
set_option maxRecDepth 100000
theorem start_shaped (os : Os) (args : Array Value) : ((startWorld os).forCall (fun _ _ => 0) ⟨#[], args, []⟩).Shaped Tryz.prog := World.shaped_of_ZipB (by kernel_rfl) (by kernel_rfl)
end Go.Proofs.YtiolghcjndoigaaGreatDoor
