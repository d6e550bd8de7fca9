/-
  Contracts of l1Of and of VecOf, of the model and of the program.
-/
import Derived.Test.YtjgcjopijblpkaaDoorZSegmentOf33
import Derived.Test.YtjgcjopijblpkaaDoorZSegmentOf34
namespace Go.Proofs.YtjgcjopijblpkaaDoor
open Go.ChangeShapes Go.WideShapes Go.ChangeAt Go.RowKit

/-- What VecOf answers. -/
def ofP (ds : List (Int × Int)) (r : Int) : Int := if M1.vecOk ds = true then M1.lk ds r else -1

end Go.Proofs.YtjgcjopijblpkaaDoor
