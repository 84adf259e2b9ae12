/-
  CLOSED FACTS.
-/
import Derived.Test.YtphighddlfabbaaDoorK12
import Derived.Deep.DeepHandedRow
namespace Go.Proofs.YtphighddlfabbaaDoor.matchTurned
set_option maxRecDepth 100000
theorem f1 : Tryd.pinned.checked.prog.funcNamed Rows.matchTurnedRow.func = some 3 := by kernel_rfl
theorem f3 : Tryd.f3.isInstance Tryd.pinned.checked.prog Rows.matchTurnedRow.origin Rows.matchTurnedRow.targs := of_decide_eq_true (by kernel_rfl)
theorem f4 : Tryd.f3.isWrapper Tryd.pinned.checked.prog Rows.matchTurnedRow.wrapper Rows.matchTurnedRow.mainSum := by unfold Func.isWrapper; first | (rw [if_pos (by decide +kernel)]; kernel_rfl) | (rw [if_neg (by decide +kernel)]; exact ⟨rfl, rfl⟩)
theorem f2 : joinedFacts Tryd.pinned.checked.prog 3 Tryd.f3 (OpenSpec.ofChange Rows.matchTurnedSpec).bare Rows.matchTurnedRow = true := by kernel_rfl
end Go.Proofs.YtphighddlfabbaaDoor.matchTurned
