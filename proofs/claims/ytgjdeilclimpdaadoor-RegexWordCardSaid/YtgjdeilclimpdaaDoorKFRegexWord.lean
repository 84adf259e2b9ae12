/-
  CLOSED FACTS.
-/
import Derived.Test.YtgjdeilclimpdaaDoorK11
import Derived.Deep.DeepHandedRow
namespace Go.Proofs.YtgjdeilclimpdaaDoor.regexWord
set_option maxRecDepth 100000
theorem f1 : Tryd.pinned.checked.prog.funcNamed Rows.regexWordRow.func = some 4 := by kernel_rfl
theorem f3 : Tryd.f4.isInstance Tryd.pinned.checked.prog Rows.regexWordRow.origin Rows.regexWordRow.targs := of_decide_eq_true (by kernel_rfl)
theorem f4 : Tryd.f4.isWrapper Tryd.pinned.checked.prog Rows.regexWordRow.wrapper Rows.regexWordRow.mainSum := by unfold Func.isWrapper; first | (rw [if_pos (by decide +kernel)]; kernel_rfl) | (rw [if_neg (by decide +kernel)]; exact ⟨rfl, rfl⟩)
theorem f2 : joinedFacts Tryd.pinned.checked.prog 4 Tryd.f4 (OpenSpec.ofChange Rows.regexWordSpec).bare Rows.regexWordRow = true := by kernel_rfl
end Go.Proofs.YtgjdeilclimpdaaDoor.regexWord
