/-
  Contracts of Covers, of the model and of the program.
-/
import Derived.Test.YtjgcjopijblpkaaDoorZSegmentOf35
namespace Go.Proofs.YtjgcjopijblpkaaDoor
open Go.ChangeShapes Go.WideShapes Go.ChangeAt Go.RowKit

/-- What Covers answers. -/
def covP (a b : List (Int × Int)) : Bool := M1.vecOk a && M1.vecOk b && M1.covB a b

end Go.Proofs.YtjgcjopijblpkaaDoor
