/-
  CLOSED FACTS.
-/
import Derived.Test.YtgjdeilclimpdaaDoorK11
import Derived.Deep.DeepHandedRow
namespace Go.Proofs.YtgjdeilclimpdaaDoor.regexParts
set_option maxRecDepth 100000
theorem f1 : Tryd.pinned.checked.prog.funcNamed Rows.regexPartsRow.func = some 3 := by kernel_rfl
theorem f3 : Tryd.f3.isInstance Tryd.pinned.checked.prog Rows.regexPartsRow.origin Rows.regexPartsRow.targs := of_decide_eq_true (by kernel_rfl)
theorem f4 : Tryd.f3.isWrapper Tryd.pinned.checked.prog Rows.regexPartsRow.wrapper Rows.regexPartsRow.mainSum := by unfold Func.isWrapper; first | (rw [if_pos (by decide +kernel)]; kernel_rfl) | (rw [if_neg (by decide +kernel)]; exact ⟨rfl, rfl⟩)
theorem f2 : joinedFacts Tryd.pinned.checked.prog 3 Tryd.f3 (OpenSpec.ofChange Rows.regexPartsSpec).bare Rows.regexPartsRow = true := by kernel_rfl
end Go.Proofs.YtgjdeilclimpdaaDoor.regexParts
