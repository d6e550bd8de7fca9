/-
  Contracts of the program's follows and SetOk.
-/
import Derived.Test.YtjgcjopijblpkaaDoorZSegmentOf29
import Derived.Test.YtjgcjopijblpkaaDoorZSegmentOf22
namespace Go.Proofs.YtjgcjopijblpkaaDoor
open Go.ChangeShapes Go.WideShapes Go.ChangeAt Go.RowKit
set_option linter.unusedSimpArgs false

end Go.Proofs.YtjgcjopijblpkaaDoor
