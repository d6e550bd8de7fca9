/-
  Contracts of the order of dots: cmp.Compare, cmp.Or, dotOrder, DotAhead.
-/
import Derived.Test.YtjgcjopijblpkaaDoorVec1
import Derived.Test.YtjgcjopijblpkaaDoorMath5
namespace Go.Proofs.YtjgcjopijblpkaaDoor
open Go.ChangeShapes Go.WideShapes Go.ChangeAt Go.RowKit
set_option linter.unusedSimpArgs false

end Go.Proofs.YtjgcjopijblpkaaDoor
