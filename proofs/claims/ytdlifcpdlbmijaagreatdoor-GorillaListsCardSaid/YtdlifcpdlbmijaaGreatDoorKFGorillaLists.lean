/-
  CLOSED FACTS.
-/
import Derived.Test.YtdlifcpdlbmijaaGreatDoorK12
import Derived.Deep.DeepHandedRow
set_option linter.unusedVariables false
set_option linter.unusedSimpArgs false
namespace Go.Proofs.YtdlifcpdlbmijaaGreatDoor.gorillaLists
set_option maxRecDepth 100000
theorem f1 : Tryz.pinned.checked.prog.funcNamed Rows.gorillaListsRow.func = some 3 := by kernel_rfl
theorem f3 : Tryz.f3.isInstance Tryz.pinned.checked.prog Rows.gorillaListsRow.origin Rows.gorillaListsRow.targs := of_decide_eq_true (by kernel_rfl)
theorem f4 : Tryz.f3.isWrapper Tryz.pinned.checked.prog Rows.gorillaListsRow.wrapper Rows.gorillaListsRow.mainSum := by unfold Func.isWrapper; first | (rw [if_pos (by decide +kernel)]; kernel_rfl) | (rw [if_neg (by decide +kernel)]; exact ⟨rfl, rfl⟩)
theorem f2 : joinedFacts Tryz.pinned.checked.prog 3 Tryz.f3 (OpenSpec.ofChange Rows.gorillaListsSpec).bare Rows.gorillaListsRow = true := by kernel_rfl
end Go.Proofs.YtdlifcpdlbmijaaGreatDoor.gorillaLists
