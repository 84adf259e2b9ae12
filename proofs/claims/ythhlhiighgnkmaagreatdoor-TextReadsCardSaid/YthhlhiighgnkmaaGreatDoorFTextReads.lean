/-
  CLOSED FACTS.
-/
import Derived.Test.YthhlhiighgnkmaaGreatDoorStart
import Derived.Deep.DeepHandedRow
namespace Go.Proofs.YthhlhiighgnkmaaGreatDoor.textReads
set_option maxRecDepth 100000
theorem f1 : Tryz.pinned.checked.prog.funcNamed Rows.textReadsRow.func = some 8 := by kernel_rfl
theorem f3 : Tryz.f8.isInstance Tryz.pinned.checked.prog Rows.textReadsRow.origin Rows.textReadsRow.targs := of_decide_eq_true (by kernel_rfl)
theorem f4 : Tryz.f8.isWrapper Tryz.pinned.checked.prog Rows.textReadsRow.wrapper Rows.textReadsRow.mainSum := by unfold Func.isWrapper; first | (rw [if_pos (by decide +kernel)]; kernel_rfl) | (rw [if_neg (by decide +kernel)]; exact ⟨rfl, rfl⟩)
theorem f2 : joinedFacts Tryz.pinned.checked.prog 8 Tryz.f8 (OpenSpec.ofChange Rows.textReadsSpec).bare Rows.textReadsRow = true := by kernel_rfl
end Go.Proofs.YthhlhiighgnkmaaGreatDoor.textReads
