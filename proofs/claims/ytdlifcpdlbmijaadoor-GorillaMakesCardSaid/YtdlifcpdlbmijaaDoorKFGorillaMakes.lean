/-
  CLOSED FACTS.
-/
import Derived.Test.YtdlifcpdlbmijaaDoorK06
import Derived.Deep.DeepHandedRow
namespace Go.Proofs.YtdlifcpdlbmijaaDoor.gorillaMakes
set_option maxRecDepth 100000
theorem f1 : Tryd.pinned.checked.prog.funcNamed Rows.gorillaMakesRow.func = some 3 := by kernel_rfl
theorem f3 : Tryd.f3.isInstance Tryd.pinned.checked.prog Rows.gorillaMakesRow.origin Rows.gorillaMakesRow.targs := of_decide_eq_true (by kernel_rfl)
theorem f4 : Tryd.f3.isWrapper Tryd.pinned.checked.prog Rows.gorillaMakesRow.wrapper Rows.gorillaMakesRow.mainSum := by unfold Func.isWrapper; first | (rw [if_pos (by decide +kernel)]; kernel_rfl) | (rw [if_neg (by decide +kernel)]; exact ⟨rfl, rfl⟩)
theorem f2 : joinedFacts Tryd.pinned.checked.prog 3 Tryd.f3 (OpenSpec.ofChange Rows.gorillaMakesSpec).bare Rows.gorillaMakesRow = true := by kernel_rfl
end Go.Proofs.YtdlifcpdlbmijaaDoor.gorillaMakes
