/-
  CLOSED FACTS.
-/
import Derived.Test.YtdlifcpdlbmijaaDoorK08
import Derived.Deep.DeepHandedRow
namespace Go.Proofs.YtdlifcpdlbmijaaDoor.gorillaBack
set_option maxRecDepth 100000
theorem f1 : Tryd.pinned.checked.prog.funcNamed Rows.gorillaBackRow.func = some 5 := by kernel_rfl
theorem f3 : Tryd.f5.isInstance Tryd.pinned.checked.prog Rows.gorillaBackRow.origin Rows.gorillaBackRow.targs := of_decide_eq_true (by kernel_rfl)
theorem f4 : Tryd.f5.isWrapper Tryd.pinned.checked.prog Rows.gorillaBackRow.wrapper Rows.gorillaBackRow.mainSum := by unfold Func.isWrapper; first | (rw [if_pos (by decide +kernel)]; kernel_rfl) | (rw [if_neg (by decide +kernel)]; exact ⟨rfl, rfl⟩)
theorem f2 : joinedFacts Tryd.pinned.checked.prog 5 Tryd.f5 (OpenSpec.ofChange Rows.gorillaBackSpec).bare Rows.gorillaBackRow = true := by kernel_rfl
end Go.Proofs.YtdlifcpdlbmijaaDoor.gorillaBack
