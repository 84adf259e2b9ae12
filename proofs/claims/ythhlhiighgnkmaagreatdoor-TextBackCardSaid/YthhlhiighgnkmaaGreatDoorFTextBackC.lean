/-
  CLOSED FACTS, in parts (C).
-/
import Derived.Test.YthhlhiighgnkmaaGreatDoorStart
import Derived.Deep.DeepHandedRow
namespace Go.Proofs.YthhlhiighgnkmaaGreatDoor.textBack
set_option maxRecDepth 100000
theorem g13 : ((Rows.textBackRow.maps == (Tryz.f5.params.toList ++ ((OpenSpec.ofChange Rows.textBackSpec).bare).plain.varTypes Tryz.pinned.checked.prog).any (Tryz.pinned.checked.prog.mapsRec ·))) = true := by kernel_rfl
theorem g14 : ((Rows.textBackRow.ifaces == (Tryz.f5.params.toList ++ ((OpenSpec.ofChange Rows.textBackSpec).bare).plain.varTypes Tryz.pinned.checked.prog).any (Tryz.pinned.checked.prog.ifacesRec ·))) = true := by kernel_rfl
theorem g15 : ((Rows.textBackRow.mapsOut == Tryz.pinned.checked.prog.mapsAmong Tryz.f5.resultTypes.toList)) = true := by kernel_rfl
theorem g16 : ((Rows.textBackRow.loops == (Tryz.f5.params.toList ++ ((OpenSpec.ofChange Rows.textBackSpec).bare).plain.varTypes Tryz.pinned.checked.prog).any (Tryz.pinned.checked.prog.loopsFrom ·))) = true := by kernel_rfl
theorem g17 : ((Rows.textBackRow.wideKeys == (Tryz.f5.params.toList ++ ((OpenSpec.ofChange Rows.textBackSpec).bare).plain.varTypes Tryz.pinned.checked.prog ++ Tryz.f5.resultTypes.toList).any (Tryz.pinned.checked.prog.wideKeysFrom ·))) = true := by kernel_rfl
theorem g18 : (((OpenSpec.ofChange Rows.textBackSpec).bare).vars.all (Tryz.pinned.checked.prog.varReadable ·)) = true := by kernel_rfl
theorem g19 : (Tryz.f5.resultTypes.all (fun t => Tryz.pinned.checked.prog.readableRec t && decide (t < Tryz.pinned.checked.prog.types.size))) = true := by kernel_rfl
theorem g20 : ((Rows.textBackRow.ifacesOut == Tryz.f5.resultTypes.toList.any (Tryz.pinned.checked.prog.ifacesRec ·))) = true := by kernel_rfl
theorem g21 : ((Rows.textBackRow.loopsOut == Tryz.f5.resultTypes.toList.any (Tryz.pinned.checked.prog.loopsFrom ·))) = true := by kernel_rfl
theorem g22 : ((Rows.textBackRow.plainKeys == Tryz.pinned.checked.prog.plainKeys)) = true := by kernel_rfl
theorem g23 : (Rows.textBackRow.shortTexts.isNone) = true := by kernel_rfl
theorem g24 : (Tryz.pinned.checked.prog.stopsHeard) = true := by kernel_rfl
theorem g25 : (Tryz.pinned.checked.prog.mayEnter) = true := by kernel_rfl
theorem g26 : ((Rows.textBackRow.lifted == Tryz.pinned.checked.prog.liftsFinal)) = true := by kernel_rfl
theorem g27 : ((Tryz.pinned.checked.prog.make == some Rows.textBackRow.make)) = true := by kernel_rfl
theorem g28 : ((Rows.textBackRow.kinds == (if Rows.textBackRow.domain.isEmpty then [] else Tryz.f5.params.toList.map fun t => match Tryz.pinned.checked.prog.underlying t with | some (.int k) => some k | _ => none))) = true := by kernel_rfl
theorem g29 : ((Rows.textBackRow.pinned == Rows.textBackRow.pinnedBy)) = true := by kernel_rfl
theorem g30 : ((Rows.textBackRow.veiled == (Tryz.f5.params.toList ++ ((OpenSpec.ofChange Rows.textBackSpec).bare).plain.varTypes Tryz.pinned.checked.prog ++ Tryz.f5.resultTypes.toList).any (Tryz.pinned.checked.prog.veiledRec ·))) = true := by kernel_rfl
theorem g31 : (Rows.textBackRow.veiledFits Tryz.pinned.checked.prog Tryz.f5.params.toList (Tryz.f5.params.toList ++ ((OpenSpec.ofChange Rows.textBackSpec).bare).plain.varTypes Tryz.pinned.checked.prog ++ Tryz.f5.resultTypes.toList)) = true := by kernel_rfl
end Go.Proofs.YthhlhiighgnkmaaGreatDoor.textBack
