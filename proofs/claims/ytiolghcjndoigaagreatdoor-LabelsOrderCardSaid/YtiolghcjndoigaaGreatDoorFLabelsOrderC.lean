/-
  CLOSED FACTS, in parts (C).
-/
import Derived.Test.YtiolghcjndoigaaGreatDoorStart
import Derived.Deep.DeepHandedRow
namespace Go.Proofs.YtiolghcjndoigaaGreatDoor.labelsOrder
set_option maxRecDepth 100000
theorem g13 : ((Rows.labelsOrderRow.maps == (Tryz.f8.params.toList ++ ((OpenSpec.ofChange Rows.labelsOrderSpec).bare).plain.varTypes Tryz.pinned.checked.prog).any (Tryz.pinned.checked.prog.mapsRec ·))) = true := by kernel_rfl
theorem g14 : ((Rows.labelsOrderRow.ifaces == (Tryz.f8.params.toList ++ ((OpenSpec.ofChange Rows.labelsOrderSpec).bare).plain.varTypes Tryz.pinned.checked.prog).any (Tryz.pinned.checked.prog.ifacesRec ·))) = true := by kernel_rfl
theorem g15 : ((Rows.labelsOrderRow.mapsOut == Tryz.pinned.checked.prog.mapsAmong Tryz.f8.resultTypes.toList)) = true := by kernel_rfl
theorem g16 : ((Rows.labelsOrderRow.loops == (Tryz.f8.params.toList ++ ((OpenSpec.ofChange Rows.labelsOrderSpec).bare).plain.varTypes Tryz.pinned.checked.prog).any (Tryz.pinned.checked.prog.loopsFrom ·))) = true := by kernel_rfl
theorem g17 : ((Rows.labelsOrderRow.wideKeys == (Tryz.f8.params.toList ++ ((OpenSpec.ofChange Rows.labelsOrderSpec).bare).plain.varTypes Tryz.pinned.checked.prog ++ Tryz.f8.resultTypes.toList).any (Tryz.pinned.checked.prog.wideKeysFrom ·))) = true := by kernel_rfl
theorem g18 : (((OpenSpec.ofChange Rows.labelsOrderSpec).bare).vars.all (Tryz.pinned.checked.prog.varReadable ·)) = true := by kernel_rfl
theorem g19 : (Tryz.f8.resultTypes.all (fun t => Tryz.pinned.checked.prog.readableRec t && decide (t < Tryz.pinned.checked.prog.types.size))) = true := by kernel_rfl
theorem g20 : ((Rows.labelsOrderRow.ifacesOut == Tryz.f8.resultTypes.toList.any (Tryz.pinned.checked.prog.ifacesRec ·))) = true := by kernel_rfl
theorem g21 : ((Rows.labelsOrderRow.loopsOut == Tryz.f8.resultTypes.toList.any (Tryz.pinned.checked.prog.loopsFrom ·))) = true := by kernel_rfl
theorem g22 : ((Rows.labelsOrderRow.plainKeys == Tryz.pinned.checked.prog.plainKeys)) = true := by kernel_rfl
theorem g23 : (Rows.labelsOrderRow.shortTexts.isNone) = true := by kernel_rfl
theorem g24 : (Tryz.pinned.checked.prog.stopsHeard) = true := by kernel_rfl
theorem g25 : (Tryz.pinned.checked.prog.mayEnter) = true := by kernel_rfl
theorem g26 : ((Rows.labelsOrderRow.lifted == Tryz.pinned.checked.prog.liftsFinal)) = true := by kernel_rfl
theorem g27 : ((Tryz.pinned.checked.prog.make == some Rows.labelsOrderRow.make)) = true := by kernel_rfl
theorem g28 : ((Rows.labelsOrderRow.kinds == (if Rows.labelsOrderRow.domain.isEmpty then [] else Tryz.f8.params.toList.map fun t => match Tryz.pinned.checked.prog.underlying t with | some (.int k) => some k | _ => none))) = true := by kernel_rfl
theorem g29 : ((Rows.labelsOrderRow.pinned == Rows.labelsOrderRow.pinnedBy)) = true := by kernel_rfl
theorem g30 : ((Rows.labelsOrderRow.veiled == (Tryz.f8.params.toList ++ ((OpenSpec.ofChange Rows.labelsOrderSpec).bare).plain.varTypes Tryz.pinned.checked.prog ++ Tryz.f8.resultTypes.toList).any (Tryz.pinned.checked.prog.veiledRec ·))) = true := by kernel_rfl
theorem g31 : (Rows.labelsOrderRow.veiledFits Tryz.pinned.checked.prog Tryz.f8.params.toList (Tryz.f8.params.toList ++ ((OpenSpec.ofChange Rows.labelsOrderSpec).bare).plain.varTypes Tryz.pinned.checked.prog ++ Tryz.f8.resultTypes.toList)) = true := by kernel_rfl
end Go.Proofs.YtiolghcjndoigaaGreatDoor.labelsOrder
