/-
  A START IN WHICH THE LISTED VARIABLES LIE AS THE PROGRAM's TEXT LAYS THEM: the door's own run, and the great table.
-/
import Derived.Test.YtiolghcjndoigaaGreatDoorRows
import Derived.WalkKit
import Derived.ProofKit
import Derived.LaidMore
import Derived.LaidHandle
import Derived.Lay
import Derived.Lib.LaidIn
import Derived.Stop.Joined
namespace Go.Proofs.YtiolghcjndoigaaGreatDoor
open Go.RowKit
abbrev laid3 : List (String × DataW Unit) := Rows.labelsOrderRow.laid
def great1 : List String := ["unicode/utf8.first"]
noncomputable def startWorld (os : Os) : World := (World.doorLaid Tryz.prog 26 os).layVars Tryz.prog ((laid3.filter fun x => x.2.handleName?.isNone).filter fun x => great1.contains x.1)
theorem startWorld_os (os : Os) : (startWorld os).os = os := World.layVars_os _ _ _
set_option maxRecDepth 100000
noncomputable def apartBlocks (os : Os) : List Nat := (List.range (World.doorLaid Tryz.prog 26 os).heap.size).filter fun b => !([2].contains b)
theorem start_fits (os : Os) : (World.doorLaid Tryz.prog 26 os).layFits Tryz.prog ((laid3.filter fun x => x.2.handleName?.isNone).filter fun x => great1.contains x.1) (apartBlocks os) = true := by kernel_rfl
theorem start_ifaces (os : Os) : (World.doorLaid Tryz.prog 26 os).layIfaces Tryz.prog ((laid3.filter fun x => x.2.handleName?.isNone).filter fun x => great1.contains x.1) (startWorld os) = true := by kernel_rfl
theorem start_others (os : Os) : LaidIn Tryz.prog (startWorld os) ((laid3.filter fun x => x.2.handleName?.isNone).filter fun x => !great1.contains x.1) (apartBlocks os) :=
  LaidIn.of_run (apartBlocks os) 8 (by kernel_rfl) (by kernel_rfl) (by kernel_rfl) (by kernel_rfl)
theorem start_met (os : Os) : laidMetH Tryz.prog laid3 (startWorld os) :=
  laidMetH_of_parts3 (fuel := 8) (laidMet_layVars (w0 := World.doorLaid Tryz.prog 26 os) great1 (apartBlocks os) rfl (start_fits os) (start_ifaces os) (start_others os)) (by kernel_rfl) (by kernel_rfl)
theorem door_met (os : Os) (args : Array Value) : laidMetH Tryz.prog laid3 ((startWorld os).forCall (fun _ _ => 0) ⟨#[], args, []⟩).memory :=
  laidMetH.of_heap (by simp [World.memory, World.forCall, Input.heap]) (start_met os)
#print axioms door_met
end Go.Proofs.YtiolghcjndoigaaGreatDoor
