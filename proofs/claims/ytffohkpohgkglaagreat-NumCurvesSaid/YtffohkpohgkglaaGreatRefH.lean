/-
  WALKS: the order of all bits by the document; the least, the greatest, the nearest multiple: the code's and the document's.
-/
import Derived.Test.YtffohkpohgkglaaGreatRefG
namespace Go.Proofs.YtffohkpohgkglaaGreat
set_option linter.unusedVariables false
set_option linter.unusedSimpArgs false
open Go.RowKit
def dNearest (a b : Nat) : Nat := Nm.dDiv (Nm.dFloor (Nm.dAdd (Nm.dMul a (Nm.dDiv 4607182418800017408 b)) 4602678819172646912)) (Nm.dDiv 4607182418800017408 b)
end Go.Proofs.YtffohkpohgkglaaGreat
