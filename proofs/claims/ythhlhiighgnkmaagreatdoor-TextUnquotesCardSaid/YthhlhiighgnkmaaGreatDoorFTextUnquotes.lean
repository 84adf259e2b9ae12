/-
  CLOSED FACTS.
-/
import Derived.Test.YthhlhiighgnkmaaGreatDoorStart
import Derived.Deep.DeepHandedRow
namespace Go.Proofs.YthhlhiighgnkmaaGreatDoor.textUnquotes
set_option maxRecDepth 100000
theorem f1 : Tryz.pinned.checked.prog.funcNamed Rows.textUnquotesRow.func = some 10 := by kernel_rfl
theorem f3 : Tryz.f10.isInstance Tryz.pinned.checked.prog Rows.textUnquotesRow.origin Rows.textUnquotesRow.targs := of_decide_eq_true (by kernel_rfl)
theorem f4 : Tryz.f10.isWrapper Tryz.pinned.checked.prog Rows.textUnquotesRow.wrapper Rows.textUnquotesRow.mainSum := by unfold Func.isWrapper; first | (rw [if_pos (by decide +kernel)]; kernel_rfl) | (rw [if_neg (by decide +kernel)]; exact ⟨rfl, rfl⟩)
theorem f2 : joinedFacts Tryz.pinned.checked.prog 10 Tryz.f10 (OpenSpec.ofChange Rows.textUnquotesSpec).bare Rows.textUnquotesRow = true := by kernel_rfl
end Go.Proofs.YthhlhiighgnkmaaGreatDoor.textUnquotes
