/-
  The contract of the model's VecOk.
-/
import Derived.Test.YtkdmkgpjcbignaaVec1
namespace Go.Proofs.Ytkdmkgpjcbignaa
open Go.ChangeShapes Go.WideShapes Go.ChangeAt Go.RowKit
set_option linter.unusedSimpArgs false

end Go.Proofs.Ytkdmkgpjcbignaa