/-
  CLOSED FACTS.
-/
import Derived.Test.YtgjdeilclimpdaaDoorK11
import Derived.Deep.DeepHandedRow
namespace Go.Proofs.YtgjdeilclimpdaaDoor.regexTimes
set_option maxRecDepth 100000
theorem f1 : Tryd.pinned.checked.prog.funcNamed Rows.regexTimesRow.func = some 5 := by kernel_rfl
theorem f3 : Tryd.f5.isInstance Tryd.pinned.checked.prog Rows.regexTimesRow.origin Rows.regexTimesRow.targs := of_decide_eq_true (by kernel_rfl)
theorem f4 : Tryd.f5.isWrapper Tryd.pinned.checked.prog Rows.regexTimesRow.wrapper Rows.regexTimesRow.mainSum := by unfold Func.isWrapper; first | (rw [if_pos (by decide +kernel)]; kernel_rfl) | (rw [if_neg (by decide +kernel)]; exact ⟨rfl, rfl⟩)
theorem f2 : joinedFacts Tryd.pinned.checked.prog 5 Tryd.f5 (OpenSpec.ofChange Rows.regexTimesSpec).bare Rows.regexTimesRow = true := by kernel_rfl
end Go.Proofs.YtgjdeilclimpdaaDoor.regexTimes
