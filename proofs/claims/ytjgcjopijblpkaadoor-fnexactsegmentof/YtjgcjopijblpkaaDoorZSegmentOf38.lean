/-
  Contracts of the program's lastOf and VectorOf, of the model's l3Vector and VectorOf.
-/
import Derived.Test.YtjgcjopijblpkaaDoorZSegmentOf28
import Derived.Test.YtjgcjopijblpkaaDoorZSegmentOf31
import Derived.Test.YtjgcjopijblpkaaDoorZSegmentOf32
import Derived.Test.YtjgcjopijblpkaaDoorZSegmentOf37
namespace Go.Proofs.YtjgcjopijblpkaaDoor
open Go.ChangeShapes Go.WideShapes Go.ChangeAt Go.RowKit
set_option linter.unusedSimpArgs false

end Go.Proofs.YtjgcjopijblpkaaDoor
