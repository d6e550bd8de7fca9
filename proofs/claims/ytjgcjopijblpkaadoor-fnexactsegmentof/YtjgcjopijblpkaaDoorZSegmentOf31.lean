/-
  The contract of the model's SetOk.
-/
import Derived.Test.YtjgcjopijblpkaaDoorZSegmentOf29
import Derived.Test.YtjgcjopijblpkaaDoorZSegmentOf16
import Derived.Test.YtjgcjopijblpkaaDoorZSegmentOf30
namespace Go.Proofs.YtjgcjopijblpkaaDoor
open Go.ChangeShapes Go.WideShapes Go.ChangeAt Go.RowKit
set_option linter.unusedSimpArgs false

end Go.Proofs.YtjgcjopijblpkaaDoor
