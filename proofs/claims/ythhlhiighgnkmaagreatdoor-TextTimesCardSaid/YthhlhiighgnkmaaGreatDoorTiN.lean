/-
  WALKS: the document's own reading of a time.
-/
import Derived.Test.YthhlhiighgnkmaaGreatDoorTiL
import Derived.Test.YthhlhiighgnkmaaGreatDoorTiM
namespace Go.Proofs.YthhlhiighgnkmaaGreatDoor
set_option linter.unusedVariables false
set_option linter.unusedSimpArgs false
open Go.RowKit Go.PlainAid
theorem rreadtime_any (bs : List Nat) (hB : IsB bs) (hl : bs.length ≤ 30000) (w : World) : Calls Tryz.prog 25 #[.string (strOf bs)] w (Gives w (tvalR (timeR bs))) := by
  by_cases h45 : bs[0]? = some 45
  · have h : timeR bs = refT (bs.drop 1) true bs.length := by
      unfold timeR refT
      by_cases hL : 100 < bs.length
      · rw [if_pos hL, if_pos hL]
      · rw [if_neg hL, if_neg hL, if_pos h45, decide_eq_true h45]
        exact endR_drop bs true 1 (by have := (List.getElem?_eq_some_iff.1 h45).1; omega)
    rw [h]
    exact rtime_neg bs hB hl h45 w
  · have h : timeR bs = refT bs false bs.length := by
      unfold timeR refT
      by_cases hL : 100 < bs.length
      · rw [if_pos hL, if_pos hL]
      · rw [if_neg hL, if_neg hL, if_neg h45, decide_eq_false h45]
    rw [h]
    rcases Nat.eq_zero_or_pos bs.length with h0 | h0
    · obtain rfl := List.length_eq_zero_iff.1 h0
      exact rtime_empty w
    · exact rtime_plain bs hB hl h45 h0 w
end Go.Proofs.YthhlhiighgnkmaaGreatDoor
