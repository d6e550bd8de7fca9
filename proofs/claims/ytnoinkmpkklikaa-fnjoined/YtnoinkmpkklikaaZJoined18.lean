/-
  The contract of the model's VecOk.
-/
import Derived.Test.YtnoinkmpkklikaaZJoined07
namespace Go.Proofs.Ytnoinkmpkklikaa
open Go.ChangeShapes Go.WideShapes Go.ChangeAt Go.RowKit
set_option linter.unusedSimpArgs false

end Go.Proofs.Ytnoinkmpkklikaa
