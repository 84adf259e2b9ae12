/-
  CLOSED FACTS.
-/
import Derived.Test.YtdlifcpdlbmijaaDoorK09
import Derived.Deep.DeepHandedRow
set_option linter.unusedVariables false
set_option linter.unusedSimpArgs false
namespace Go.Proofs.YtdlifcpdlbmijaaDoor.gorillaReads
set_option maxRecDepth 100000
theorem f1 : Tryd.pinned.checked.prog.funcNamed Rows.gorillaReadsRow.func = some 4 := by kernel_rfl
theorem f3 : Tryd.f4.isInstance Tryd.pinned.checked.prog Rows.gorillaReadsRow.origin Rows.gorillaReadsRow.targs := of_decide_eq_true (by kernel_rfl)
theorem f4 : Tryd.f4.isWrapper Tryd.pinned.checked.prog Rows.gorillaReadsRow.wrapper Rows.gorillaReadsRow.mainSum := by unfold Func.isWrapper; first | (rw [if_pos (by decide +kernel)]; kernel_rfl) | (rw [if_neg (by decide +kernel)]; exact ⟨rfl, rfl⟩)
theorem f2 : joinedFacts Tryd.pinned.checked.prog 4 Tryd.f4 (OpenSpec.ofChange Rows.gorillaReadsSpec).bare Rows.gorillaReadsRow = true := by kernel_rfl
end Go.Proofs.YtdlifcpdlbmijaaDoor.gorillaReads
