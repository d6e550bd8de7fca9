/-
  The contract of the program's dotsOf: of an array of five numbers the dots that are above 0.
-/
import Derived.Test.YtjgcjopijblpkaaDoorZSegmentOf36
import Derived.Test.YtjgcjopijblpkaaDoorZSegmentOf19
namespace Go.Proofs.YtjgcjopijblpkaaDoor
open Go.ChangeShapes Go.WideShapes Go.ChangeAt Go.RowKit

/-- What a call that makes a vector leaves: a row of its own. -/
def Joined (w w' : World) (e : Ending) (ds : List (Int × Int)) : Prop := ∃ v, e = .returned v ∧ w'.ownsRow w.heap.size 25 2 v ds.length (dcs ds)

end Go.Proofs.YtjgcjopijblpkaaDoor
