/-
  CLOSED FACTS, in parts (C).
-/
import Derived.Test.YthhlhiighgnkmaaGreatDoorStart
import Derived.Deep.DeepHandedRow
namespace Go.Proofs.YthhlhiighgnkmaaGreatDoor.textFewest
set_option maxRecDepth 100000
theorem g13 : ((Rows.textFewestRow.maps == (Tryz.f6.params.toList ++ ((OpenSpec.ofChange Rows.textFewestSpec).bare).plain.varTypes Tryz.pinned.checked.prog).any (Tryz.pinned.checked.prog.mapsRec ·))) = true := by kernel_rfl
theorem g14 : ((Rows.textFewestRow.ifaces == (Tryz.f6.params.toList ++ ((OpenSpec.ofChange Rows.textFewestSpec).bare).plain.varTypes Tryz.pinned.checked.prog).any (Tryz.pinned.checked.prog.ifacesRec ·))) = true := by kernel_rfl
theorem g15 : ((Rows.textFewestRow.mapsOut == Tryz.pinned.checked.prog.mapsAmong Tryz.f6.resultTypes.toList)) = true := by kernel_rfl
theorem g16 : ((Rows.textFewestRow.loops == (Tryz.f6.params.toList ++ ((OpenSpec.ofChange Rows.textFewestSpec).bare).plain.varTypes Tryz.pinned.checked.prog).any (Tryz.pinned.checked.prog.loopsFrom ·))) = true := by kernel_rfl
theorem g17 : ((Rows.textFewestRow.wideKeys == (Tryz.f6.params.toList ++ ((OpenSpec.ofChange Rows.textFewestSpec).bare).plain.varTypes Tryz.pinned.checked.prog ++ Tryz.f6.resultTypes.toList).any (Tryz.pinned.checked.prog.wideKeysFrom ·))) = true := by kernel_rfl
theorem g18 : (((OpenSpec.ofChange Rows.textFewestSpec).bare).vars.all (Tryz.pinned.checked.prog.varReadable ·)) = true := by kernel_rfl
theorem g19 : (Tryz.f6.resultTypes.all (fun t => Tryz.pinned.checked.prog.readableRec t && decide (t < Tryz.pinned.checked.prog.types.size))) = true := by kernel_rfl
theorem g20 : ((Rows.textFewestRow.ifacesOut == Tryz.f6.resultTypes.toList.any (Tryz.pinned.checked.prog.ifacesRec ·))) = true := by kernel_rfl
theorem g21 : ((Rows.textFewestRow.loopsOut == Tryz.f6.resultTypes.toList.any (Tryz.pinned.checked.prog.loopsFrom ·))) = true := by kernel_rfl
theorem g22 : ((Rows.textFewestRow.plainKeys == Tryz.pinned.checked.prog.plainKeys)) = true := by kernel_rfl
theorem g23 : (Rows.textFewestRow.shortTexts.isNone) = true := by kernel_rfl
theorem g24 : (Tryz.pinned.checked.prog.stopsHeard) = true := by kernel_rfl
theorem g25 : (Tryz.pinned.checked.prog.mayEnter) = true := by kernel_rfl
theorem g26 : ((Rows.textFewestRow.lifted == Tryz.pinned.checked.prog.liftsFinal)) = true := by kernel_rfl
theorem g27 : ((Tryz.pinned.checked.prog.make == some Rows.textFewestRow.make)) = true := by kernel_rfl
theorem g28 : ((Rows.textFewestRow.kinds == (if Rows.textFewestRow.domain.isEmpty then [] else Tryz.f6.params.toList.map fun t => match Tryz.pinned.checked.prog.underlying t with | some (.int k) => some k | _ => none))) = true := by kernel_rfl
theorem g29 : ((Rows.textFewestRow.pinned == Rows.textFewestRow.pinnedBy)) = true := by kernel_rfl
theorem g30 : ((Rows.textFewestRow.veiled == (Tryz.f6.params.toList ++ ((OpenSpec.ofChange Rows.textFewestSpec).bare).plain.varTypes Tryz.pinned.checked.prog ++ Tryz.f6.resultTypes.toList).any (Tryz.pinned.checked.prog.veiledRec ·))) = true := by kernel_rfl
theorem g31 : (Rows.textFewestRow.veiledFits Tryz.pinned.checked.prog Tryz.f6.params.toList (Tryz.f6.params.toList ++ ((OpenSpec.ofChange Rows.textFewestSpec).bare).plain.varTypes Tryz.pinned.checked.prog ++ Tryz.f6.resultTypes.toList)) = true := by kernel_rfl
end Go.Proofs.YthhlhiighgnkmaaGreatDoor.textFewest
