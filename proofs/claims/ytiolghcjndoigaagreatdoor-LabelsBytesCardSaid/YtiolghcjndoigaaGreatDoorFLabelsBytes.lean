/-
  CLOSED FACTS.
-/
import Derived.Test.YtiolghcjndoigaaGreatDoorFLabelsBytesA
import Derived.Test.YtiolghcjndoigaaGreatDoorFLabelsBytesC
namespace Go.Proofs.YtiolghcjndoigaaGreatDoor.labelsBytes
set_option maxRecDepth 100000
theorem f1 : Tryz.pinned.checked.prog.funcNamed Rows.labelsBytesRow.func = some 6 := by kernel_rfl
theorem f3 : Tryz.f6.isInstance Tryz.pinned.checked.prog Rows.labelsBytesRow.origin Rows.labelsBytesRow.targs := of_decide_eq_true (by kernel_rfl)
theorem f4 : Tryz.f6.isWrapper Tryz.pinned.checked.prog Rows.labelsBytesRow.wrapper Rows.labelsBytesRow.mainSum := by unfold Func.isWrapper; first | (rw [if_pos (by decide +kernel)]; kernel_rfl) | (rw [if_neg (by decide +kernel)]; exact ⟨rfl, rfl⟩)
theorem band {a b : Bool} (ha : a = true) (hb : b = true) : (a && b) = true := by rw [ha, hb]; rfl
theorem u0 : Rows.labelsBytesRow.unfollowed = true := by kernel_rfl
theorem u1 : Tryz.pinned.checked.prog.unfollowed 6 = true := (eq_of_beq g10).symm.trans u0
theorem g11 : (Rows.labelsBytesRow.recurses == Tryz.pinned.checked.prog.recurses 6) = true := by
  unfold Program.recurses; rw [u1, Bool.true_or]; kernel_rfl
theorem f2 : joinedFacts Tryz.pinned.checked.prog 6 Tryz.f6 ((OpenSpec.ofChange Rows.labelsBytesSpec).bare) Rows.labelsBytesRow = true := by
  unfold joinedFacts
  exact (band (band (band (band (band (band (band (band (band (band (band (band (band (band (band (band (band (band (band (band (band (band (band (band (band (band (band (band (band (band (band g0 g1) g2) g3) g4) g5) g6) g7) g8) g9) g10) g11) g12) g13) g14) g15) g16) g17) g18) g19) g20) g21) g22) g23) g24) g25) g26) g27) g28) g29) g30) g31)
end Go.Proofs.YtiolghcjndoigaaGreatDoor.labelsBytes
