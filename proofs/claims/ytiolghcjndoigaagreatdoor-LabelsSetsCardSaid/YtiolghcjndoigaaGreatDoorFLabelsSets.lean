/-
  CLOSED FACTS.
-/
import Derived.Test.YtiolghcjndoigaaGreatDoorFLabelsSetsA
import Derived.Test.YtiolghcjndoigaaGreatDoorFLabelsSetsC
namespace Go.Proofs.YtiolghcjndoigaaGreatDoor.labelsSets
set_option maxRecDepth 100000
theorem f1 : Tryz.pinned.checked.prog.funcNamed Rows.labelsSetsRow.func = some 3 := by kernel_rfl
theorem f3 : Tryz.f3.isInstance Tryz.pinned.checked.prog Rows.labelsSetsRow.origin Rows.labelsSetsRow.targs := of_decide_eq_true (by kernel_rfl)
theorem f4 : Tryz.f3.isWrapper Tryz.pinned.checked.prog Rows.labelsSetsRow.wrapper Rows.labelsSetsRow.mainSum := by unfold Func.isWrapper; first | (rw [if_pos (by decide +kernel)]; kernel_rfl) | (rw [if_neg (by decide +kernel)]; exact ⟨rfl, rfl⟩)
theorem band {a b : Bool} (ha : a = true) (hb : b = true) : (a && b) = true := by rw [ha, hb]; rfl
theorem u0 : Rows.labelsSetsRow.unfollowed = true := by kernel_rfl
theorem u1 : Tryz.pinned.checked.prog.unfollowed 3 = true := (eq_of_beq g10).symm.trans u0
theorem g11 : (Rows.labelsSetsRow.recurses == Tryz.pinned.checked.prog.recurses 3) = true := by
  unfold Program.recurses; rw [u1, Bool.true_or]; kernel_rfl
theorem f2 : joinedFacts Tryz.pinned.checked.prog 3 Tryz.f3 ((OpenSpec.ofChange Rows.labelsSetsSpec).bare) Rows.labelsSetsRow = true := by
  unfold joinedFacts
  exact (band (band (band (band (band (band (band (band (band (band (band (band (band (band (band (band (band (band (band (band (band (band (band (band (band (band (band (band (band (band (band g0 g1) g2) g3) g4) g5) g6) g7) g8) g9) g10) g11) g12) g13) g14) g15) g16) g17) g18) g19) g20) g21) g22) g23) g24) g25) g26) g27) g28) g29) g30) g31)
end Go.Proofs.YtiolghcjndoigaaGreatDoor.labelsSets
