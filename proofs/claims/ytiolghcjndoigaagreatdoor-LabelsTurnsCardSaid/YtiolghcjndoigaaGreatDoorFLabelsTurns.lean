/-
  CLOSED FACTS.
-/
import Derived.Test.YtiolghcjndoigaaGreatDoorStart
import Derived.Deep.DeepHandedRow
namespace Go.Proofs.YtiolghcjndoigaaGreatDoor.labelsTurns
set_option maxRecDepth 100000
theorem g0 : (Rows.labelsTurnsRow.wf (OpenSpec.ofChange (OpenSpec.ofChange Rows.labelsTurnsSpec).bare)) = true := by kernel_rfl
theorem g1 : (laidOutB Tryz.pinned.checked.prog) = true := by kernel_rfl
theorem g2 : (mapsRowed Tryz.pinned.checked.prog) = true := by kernel_rfl
theorem g3 : (Tryz.f4.params.all (Tryz.pinned.checked.prog.readableRec ·)) = true := by kernel_rfl
theorem g4 : (namedTie Tryz.pinned.checked.prog Rows.labelsTurnsRow.named ((OpenSpec.ofChange Rows.labelsTurnsSpec).bare).vars) = true := by kernel_rfl
theorem g5 : ((Rows.labelsTurnsRow.stops == [])) = true := by kernel_rfl
theorem g6 : ((Tryz.pinned.checked.prog.stops == [])) = true := by kernel_rfl
theorem g7 : ((Rows.labelsTurnsRow.knobs == [])) = true := by kernel_rfl
theorem g8 : ((Tryz.pinned.checked.prog.stopKnobs == [])) = true := by kernel_rfl
theorem g9 : ((Rows.labelsTurnsRow.inPlace == Tryz.pinned.checked.prog.inPlace 4)) = true := by kernel_rfl
theorem g10 : ((Rows.labelsTurnsRow.unfollowed == Tryz.pinned.checked.prog.unfollowed 4)) = true := by kernel_rfl
theorem g12 : ((Rows.labelsTurnsRow.named == Tryz.pinned.checked.prog.varsNamed 4)) = true := by kernel_rfl
end Go.Proofs.YtiolghcjndoigaaGreatDoor.labelsTurns
namespace Go.Proofs.YtiolghcjndoigaaGreatDoor.labelsTurns
set_option maxRecDepth 100000
theorem g13 : ((Rows.labelsTurnsRow.maps == (Tryz.f4.params.toList ++ ((OpenSpec.ofChange Rows.labelsTurnsSpec).bare).plain.varTypes Tryz.pinned.checked.prog).any (Tryz.pinned.checked.prog.mapsRec ·))) = true := by kernel_rfl
theorem g14 : ((Rows.labelsTurnsRow.ifaces == (Tryz.f4.params.toList ++ ((OpenSpec.ofChange Rows.labelsTurnsSpec).bare).plain.varTypes Tryz.pinned.checked.prog).any (Tryz.pinned.checked.prog.ifacesRec ·))) = true := by kernel_rfl
theorem g15 : ((Rows.labelsTurnsRow.mapsOut == Tryz.pinned.checked.prog.mapsAmong Tryz.f4.resultTypes.toList)) = true := by kernel_rfl
theorem g16 : ((Rows.labelsTurnsRow.loops == (Tryz.f4.params.toList ++ ((OpenSpec.ofChange Rows.labelsTurnsSpec).bare).plain.varTypes Tryz.pinned.checked.prog).any (Tryz.pinned.checked.prog.loopsFrom ·))) = true := by kernel_rfl
theorem g17 : ((Rows.labelsTurnsRow.wideKeys == (Tryz.f4.params.toList ++ ((OpenSpec.ofChange Rows.labelsTurnsSpec).bare).plain.varTypes Tryz.pinned.checked.prog ++ Tryz.f4.resultTypes.toList).any (Tryz.pinned.checked.prog.wideKeysFrom ·))) = true := by kernel_rfl
theorem g18 : (((OpenSpec.ofChange Rows.labelsTurnsSpec).bare).vars.all (Tryz.pinned.checked.prog.varReadable ·)) = true := by kernel_rfl
theorem g19 : (Tryz.f4.resultTypes.all (fun t => Tryz.pinned.checked.prog.readableRec t && decide (t < Tryz.pinned.checked.prog.types.size))) = true := by kernel_rfl
theorem g20 : ((Rows.labelsTurnsRow.ifacesOut == Tryz.f4.resultTypes.toList.any (Tryz.pinned.checked.prog.ifacesRec ·))) = true := by kernel_rfl
theorem g21 : ((Rows.labelsTurnsRow.loopsOut == Tryz.f4.resultTypes.toList.any (Tryz.pinned.checked.prog.loopsFrom ·))) = true := by kernel_rfl
theorem g22 : ((Rows.labelsTurnsRow.plainKeys == Tryz.pinned.checked.prog.plainKeys)) = true := by kernel_rfl
theorem g23 : (Rows.labelsTurnsRow.shortTexts.isNone) = true := by kernel_rfl
theorem g24 : (Tryz.pinned.checked.prog.stopsHeard) = true := by kernel_rfl
theorem g25 : (Tryz.pinned.checked.prog.mayEnter) = true := by kernel_rfl
theorem g26 : ((Rows.labelsTurnsRow.lifted == Tryz.pinned.checked.prog.liftsFinal)) = true := by kernel_rfl
theorem g27 : ((Tryz.pinned.checked.prog.make == some Rows.labelsTurnsRow.make)) = true := by kernel_rfl
theorem g28 : ((Rows.labelsTurnsRow.kinds == (if Rows.labelsTurnsRow.domain.isEmpty then [] else Tryz.f4.params.toList.map fun t => match Tryz.pinned.checked.prog.underlying t with | some (.int k) => some k | _ => none))) = true := by kernel_rfl
theorem g29 : ((Rows.labelsTurnsRow.pinned == Rows.labelsTurnsRow.pinnedBy)) = true := by kernel_rfl
theorem g30 : ((Rows.labelsTurnsRow.veiled == (Tryz.f4.params.toList ++ ((OpenSpec.ofChange Rows.labelsTurnsSpec).bare).plain.varTypes Tryz.pinned.checked.prog ++ Tryz.f4.resultTypes.toList).any (Tryz.pinned.checked.prog.veiledRec ·))) = true := by kernel_rfl
theorem g31 : (Rows.labelsTurnsRow.veiledFits Tryz.pinned.checked.prog Tryz.f4.params.toList (Tryz.f4.params.toList ++ ((OpenSpec.ofChange Rows.labelsTurnsSpec).bare).plain.varTypes Tryz.pinned.checked.prog ++ Tryz.f4.resultTypes.toList)) = true := by kernel_rfl
end Go.Proofs.YtiolghcjndoigaaGreatDoor.labelsTurns
namespace Go.Proofs.YtiolghcjndoigaaGreatDoor.labelsTurns
set_option maxRecDepth 100000
theorem f1 : Tryz.pinned.checked.prog.funcNamed Rows.labelsTurnsRow.func = some 4 := by kernel_rfl
theorem f3 : Tryz.f4.isInstance Tryz.pinned.checked.prog Rows.labelsTurnsRow.origin Rows.labelsTurnsRow.targs := of_decide_eq_true (by kernel_rfl)
theorem f4 : Tryz.f4.isWrapper Tryz.pinned.checked.prog Rows.labelsTurnsRow.wrapper Rows.labelsTurnsRow.mainSum := by unfold Func.isWrapper; first | (rw [if_pos (by decide +kernel)]; kernel_rfl) | (rw [if_neg (by decide +kernel)]; exact ⟨rfl, rfl⟩)
theorem band {a b : Bool} (ha : a = true) (hb : b = true) : (a && b) = true := by rw [ha, hb]; rfl
theorem u0 : Rows.labelsTurnsRow.unfollowed = true := by kernel_rfl
theorem u1 : Tryz.pinned.checked.prog.unfollowed 4 = true := (eq_of_beq g10).symm.trans u0
theorem g11 : (Rows.labelsTurnsRow.recurses == Tryz.pinned.checked.prog.recurses 4) = true := by
  unfold Program.recurses; rw [u1, Bool.true_or]; kernel_rfl
theorem f2 : joinedFacts Tryz.pinned.checked.prog 4 Tryz.f4 ((OpenSpec.ofChange Rows.labelsTurnsSpec).bare) Rows.labelsTurnsRow = true := by
  unfold joinedFacts
  exact (band (band (band (band (band (band (band (band (band (band (band (band (band (band (band (band (band (band (band (band (band (band (band (band (band (band (band (band (band (band (band g0 g1) g2) g3) g4) g5) g6) g7) g8) g9) g10) g11) g12) g13) g14) g15) g16) g17) g18) g19) g20) g21) g22) g23) g24) g25) g26) g27) g28) g29) g30) g31)
end Go.Proofs.YtiolghcjndoigaaGreatDoor.labelsTurns
