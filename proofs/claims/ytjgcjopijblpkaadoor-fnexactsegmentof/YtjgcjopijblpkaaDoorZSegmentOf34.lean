/-
  The contract of the program's vectorFrom: a list of dots as an array of five numbers.
-/
import Derived.Test.YtjgcjopijblpkaaDoorZSegmentOf13
import Derived.Test.YtjgcjopijblpkaaDoorZSegmentOf17
namespace Go.Proofs.YtjgcjopijblpkaaDoor
open Go.ChangeShapes Go.WideShapes Go.ChangeAt Go.RowKit
set_option linter.unusedSimpArgs false

end Go.Proofs.YtjgcjopijblpkaaDoor
