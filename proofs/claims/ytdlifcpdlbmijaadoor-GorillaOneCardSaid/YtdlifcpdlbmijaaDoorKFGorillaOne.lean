/-
  CLOSED FACTS.
-/
import Derived.Test.YtdlifcpdlbmijaaDoorK05
import Derived.Deep.DeepHandedRow
namespace Go.Proofs.YtdlifcpdlbmijaaDoor.gorillaOne
set_option maxRecDepth 100000
theorem f1 : Tryd.pinned.checked.prog.funcNamed Rows.gorillaOneRow.func = some 6 := by kernel_rfl
theorem f3 : Tryd.f6.isInstance Tryd.pinned.checked.prog Rows.gorillaOneRow.origin Rows.gorillaOneRow.targs := of_decide_eq_true (by kernel_rfl)
theorem f4 : Tryd.f6.isWrapper Tryd.pinned.checked.prog Rows.gorillaOneRow.wrapper Rows.gorillaOneRow.mainSum := by unfold Func.isWrapper; first | (rw [if_pos (by decide +kernel)]; kernel_rfl) | (rw [if_neg (by decide +kernel)]; exact ⟨rfl, rfl⟩)
theorem f2 : joinedFacts Tryd.pinned.checked.prog 6 Tryd.f6 (OpenSpec.ofChange Rows.gorillaOneSpec).bare Rows.gorillaOneRow = true := by kernel_rfl
end Go.Proofs.YtdlifcpdlbmijaaDoor.gorillaOne
