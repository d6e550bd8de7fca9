/-
  The contract of the program's vectorFrom: a list of dots as an array of five numbers.
-/
import Derived.Test.YtkdmkgpjcbignaaVec1
import Derived.Test.YtkdmkgpjcbignaaRow
namespace Go.Proofs.Ytkdmkgpjcbignaa
open Go.ChangeShapes Go.WideShapes Go.ChangeAt Go.RowKit
set_option linter.unusedSimpArgs false

end Go.Proofs.Ytkdmkgpjcbignaa
