/-
  WALKS: the sign of a number; angles told in degrees: the code's and the document's.
-/
import Derived.Test.YtffohkpohgkglaaGreatRefB
import Derived.Test.YtffohkpohgkglaaGreatRefC
import Derived.Test.YtffohkpohgkglaaGreatRefD
namespace Go.Proofs.YtffohkpohgkglaaGreat
set_option linter.unusedVariables false
set_option linter.unusedSimpArgs false
open Go.RowKit
def dSgn (a : Nat) : Nat := if Nm.isNaN a then Nm.nan else if Nm.nought a then a else if Nm.neg a then 13830554455654793216 else 4607182418800017408
theorem int_m1 : dInt (-1) = 13830554455654793216 := by decide +kernel
theorem int_p1 : dInt 1 = 4607182418800017408 := by decide +kernel
theorem int_180 : dInt 180 = 4640537203540230144 := by decide +kernel
end Go.Proofs.YtffohkpohgkglaaGreat
