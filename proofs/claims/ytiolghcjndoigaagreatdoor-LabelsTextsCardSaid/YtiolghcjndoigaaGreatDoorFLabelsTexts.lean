/-
  CLOSED FACTS.
-/
import Derived.Test.YtiolghcjndoigaaGreatDoorStart
import Derived.Deep.DeepHandedRow
namespace Go.Proofs.YtiolghcjndoigaaGreatDoor.labelsTexts
set_option maxRecDepth 100000
theorem g0 : (Rows.labelsTextsRow.wf (OpenSpec.ofChange (OpenSpec.ofChange Rows.labelsTextsSpec).bare)) = true := by kernel_rfl
theorem g1 : (laidOutB Tryz.pinned.checked.prog) = true := by kernel_rfl
theorem g2 : (mapsRowed Tryz.pinned.checked.prog) = true := by kernel_rfl
theorem g3 : (Tryz.f5.params.all (Tryz.pinned.checked.prog.readableRec ·)) = true := by kernel_rfl
theorem g4 : (namedTie Tryz.pinned.checked.prog Rows.labelsTextsRow.named ((OpenSpec.ofChange Rows.labelsTextsSpec).bare).vars) = true := by kernel_rfl
theorem g5 : ((Rows.labelsTextsRow.stops == [])) = true := by kernel_rfl
theorem g6 : ((Tryz.pinned.checked.prog.stops == [])) = true := by kernel_rfl
theorem g7 : ((Rows.labelsTextsRow.knobs == [])) = true := by kernel_rfl
theorem g8 : ((Tryz.pinned.checked.prog.stopKnobs == [])) = true := by kernel_rfl
theorem g9 : ((Rows.labelsTextsRow.inPlace == Tryz.pinned.checked.prog.inPlace 5)) = true := by kernel_rfl
theorem g10 : ((Rows.labelsTextsRow.unfollowed == Tryz.pinned.checked.prog.unfollowed 5)) = true := by kernel_rfl
theorem g12 : ((Rows.labelsTextsRow.named == Tryz.pinned.checked.prog.varsNamed 5)) = true := by kernel_rfl
end Go.Proofs.YtiolghcjndoigaaGreatDoor.labelsTexts
namespace Go.Proofs.YtiolghcjndoigaaGreatDoor.labelsTexts
set_option maxRecDepth 100000
theorem g13 : ((Rows.labelsTextsRow.maps == (Tryz.f5.params.toList ++ ((OpenSpec.ofChange Rows.labelsTextsSpec).bare).plain.varTypes Tryz.pinned.checked.prog).any (Tryz.pinned.checked.prog.mapsRec ·))) = true := by kernel_rfl
theorem g14 : ((Rows.labelsTextsRow.ifaces == (Tryz.f5.params.toList ++ ((OpenSpec.ofChange Rows.labelsTextsSpec).bare).plain.varTypes Tryz.pinned.checked.prog).any (Tryz.pinned.checked.prog.ifacesRec ·))) = true := by kernel_rfl
theorem g15 : ((Rows.labelsTextsRow.mapsOut == Tryz.pinned.checked.prog.mapsAmong Tryz.f5.resultTypes.toList)) = true := by kernel_rfl
theorem g16 : ((Rows.labelsTextsRow.loops == (Tryz.f5.params.toList ++ ((OpenSpec.ofChange Rows.labelsTextsSpec).bare).plain.varTypes Tryz.pinned.checked.prog).any (Tryz.pinned.checked.prog.loopsFrom ·))) = true := by kernel_rfl
theorem g17 : ((Rows.labelsTextsRow.wideKeys == (Tryz.f5.params.toList ++ ((OpenSpec.ofChange Rows.labelsTextsSpec).bare).plain.varTypes Tryz.pinned.checked.prog ++ Tryz.f5.resultTypes.toList).any (Tryz.pinned.checked.prog.wideKeysFrom ·))) = true := by kernel_rfl
theorem g18 : (((OpenSpec.ofChange Rows.labelsTextsSpec).bare).vars.all (Tryz.pinned.checked.prog.varReadable ·)) = true := by kernel_rfl
theorem g19 : (Tryz.f5.resultTypes.all (fun t => Tryz.pinned.checked.prog.readableRec t && decide (t < Tryz.pinned.checked.prog.types.size))) = true := by kernel_rfl
theorem g20 : ((Rows.labelsTextsRow.ifacesOut == Tryz.f5.resultTypes.toList.any (Tryz.pinned.checked.prog.ifacesRec ·))) = true := by kernel_rfl
theorem g21 : ((Rows.labelsTextsRow.loopsOut == Tryz.f5.resultTypes.toList.any (Tryz.pinned.checked.prog.loopsFrom ·))) = true := by kernel_rfl
theorem g22 : ((Rows.labelsTextsRow.plainKeys == Tryz.pinned.checked.prog.plainKeys)) = true := by kernel_rfl
theorem g23 : (Rows.labelsTextsRow.shortTexts.isNone) = true := by kernel_rfl
theorem g24 : (Tryz.pinned.checked.prog.stopsHeard) = true := by kernel_rfl
theorem g25 : (Tryz.pinned.checked.prog.mayEnter) = true := by kernel_rfl
theorem g26 : ((Rows.labelsTextsRow.lifted == Tryz.pinned.checked.prog.liftsFinal)) = true := by kernel_rfl
theorem g27 : ((Tryz.pinned.checked.prog.make == some Rows.labelsTextsRow.make)) = true := by kernel_rfl
theorem g28 : ((Rows.labelsTextsRow.kinds == (if Rows.labelsTextsRow.domain.isEmpty then [] else Tryz.f5.params.toList.map fun t => match Tryz.pinned.checked.prog.underlying t with | some (.int k) => some k | _ => none))) = true := by kernel_rfl
theorem g29 : ((Rows.labelsTextsRow.pinned == Rows.labelsTextsRow.pinnedBy)) = true := by kernel_rfl
theorem g30 : ((Rows.labelsTextsRow.veiled == (Tryz.f5.params.toList ++ ((OpenSpec.ofChange Rows.labelsTextsSpec).bare).plain.varTypes Tryz.pinned.checked.prog ++ Tryz.f5.resultTypes.toList).any (Tryz.pinned.checked.prog.veiledRec ·))) = true := by kernel_rfl
theorem g31 : (Rows.labelsTextsRow.veiledFits Tryz.pinned.checked.prog Tryz.f5.params.toList (Tryz.f5.params.toList ++ ((OpenSpec.ofChange Rows.labelsTextsSpec).bare).plain.varTypes Tryz.pinned.checked.prog ++ Tryz.f5.resultTypes.toList)) = true := by kernel_rfl
end Go.Proofs.YtiolghcjndoigaaGreatDoor.labelsTexts
namespace Go.Proofs.YtiolghcjndoigaaGreatDoor.labelsTexts
set_option maxRecDepth 100000
theorem f1 : Tryz.pinned.checked.prog.funcNamed Rows.labelsTextsRow.func = some 5 := by kernel_rfl
theorem f3 : Tryz.f5.isInstance Tryz.pinned.checked.prog Rows.labelsTextsRow.origin Rows.labelsTextsRow.targs := of_decide_eq_true (by kernel_rfl)
theorem f4 : Tryz.f5.isWrapper Tryz.pinned.checked.prog Rows.labelsTextsRow.wrapper Rows.labelsTextsRow.mainSum := by unfold Func.isWrapper; first | (rw [if_pos (by decide +kernel)]; kernel_rfl) | (rw [if_neg (by decide +kernel)]; exact ⟨rfl, rfl⟩)
theorem band {a b : Bool} (ha : a = true) (hb : b = true) : (a && b) = true := by rw [ha, hb]; rfl
theorem u0 : Rows.labelsTextsRow.unfollowed = true := by kernel_rfl
theorem u1 : Tryz.pinned.checked.prog.unfollowed 5 = true := (eq_of_beq g10).symm.trans u0
theorem g11 : (Rows.labelsTextsRow.recurses == Tryz.pinned.checked.prog.recurses 5) = true := by
  unfold Program.recurses; rw [u1, Bool.true_or]; kernel_rfl
theorem f2 : joinedFacts Tryz.pinned.checked.prog 5 Tryz.f5 ((OpenSpec.ofChange Rows.labelsTextsSpec).bare) Rows.labelsTextsRow = true := by
  unfold joinedFacts
  exact (band (band (band (band (band (band (band (band (band (band (band (band (band (band (band (band (band (band (band (band (band (band (band (band (band (band (band (band (band (band (band g0 g1) g2) g3) g4) g5) g6) g7) g8) g9) g10) g11) g12) g13) g14) g15) g16) g17) g18) g19) g20) g21) g22) g23) g24) g25) g26) g27) g28) g29) g30) g31)
end Go.Proofs.YtiolghcjndoigaaGreatDoor.labelsTexts
