/-
  The contract of the model's VecOk.
-/
import Derived.Test.YtjgcjopijblpkaaDoorZSegmentOf13
namespace Go.Proofs.YtjgcjopijblpkaaDoor
open Go.ChangeShapes Go.WideShapes Go.ChangeAt Go.RowKit
set_option linter.unusedSimpArgs false

end Go.Proofs.YtjgcjopijblpkaaDoor
