/-
  The contract of the reader's method stamp: three numbers, each of its kind.
-/
import Derived.Test.YtnchbndgdkhldaaZSpans02
namespace Go.Proofs.Ytnchbndgdkhldaa
open Go.ChangeShapes Go.WideShapes Go.ChangeAt Go.RowKit

/-- Numbers that an int64 can be. -/
def I64 (x : Int) : Prop := -9223372036854775808 ≤ x ∧ x ≤ 9223372036854775807

end Go.Proofs.Ytnchbndgdkhldaa
