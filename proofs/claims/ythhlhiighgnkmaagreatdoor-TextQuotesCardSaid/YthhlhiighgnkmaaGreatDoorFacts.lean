/-
  CLOSED FACTS.
-/
import Derived.Test.YthhlhiighgnkmaaGreatDoorStart
import Derived.Deep.DeepHandedRow
namespace Go.Proofs.YthhlhiighgnkmaaGreatDoor.textQuotes
set_option maxRecDepth 100000
theorem f1 : Tryz.pinned.checked.prog.funcNamed Rows.textQuotesRow.func = some 9 := by kernel_rfl
theorem f3 : Tryz.f9.isInstance Tryz.pinned.checked.prog Rows.textQuotesRow.origin Rows.textQuotesRow.targs := of_decide_eq_true (by kernel_rfl)
theorem f4 : Tryz.f9.isWrapper Tryz.pinned.checked.prog Rows.textQuotesRow.wrapper Rows.textQuotesRow.mainSum := by unfold Func.isWrapper; first | (rw [if_pos (by decide +kernel)]; kernel_rfl) | (rw [if_neg (by decide +kernel)]; exact ⟨rfl, rfl⟩)
theorem f2 : joinedFacts Tryz.pinned.checked.prog 9 Tryz.f9 (OpenSpec.ofChange Rows.textQuotesSpec).bare Rows.textQuotesRow = true := by kernel_rfl
end Go.Proofs.YthhlhiighgnkmaaGreatDoor.textQuotes
