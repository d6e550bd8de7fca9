/-
  The contract of the model's SpansOf.
-/
import Derived.Test.YtnchbndgdkhldaaGreatZFound30
namespace M1
/-- The spans of a trace, as updates, by rising number. -/
def sps (us : List Upd) (tr : Int) : List Upd := if setOk us = true then spTo us tr us.length else []
theorem sps_len (us : List Upd) (tr : Int) : (sps us tr).length ≤ us.length := by
  unfold sps
  split
  · exact spTo_len us tr us.length
  · simp
end M1
namespace Go.Proofs.YtnchbndgdkhldaaGreat
open Go.ChangeShapes Go.WideShapes Go.ChangeAt Go.RowKit
set_option linter.unusedSimpArgs false
set_option linter.unusedVariables false

/-- A list of spans in memory of one's own. -/
def SpW (w w' : World) (e : Ending) (r : List M1.Upd) : Prop := ∃ (a : Option Addr) (c : Nat), e = .returned (.slice a r.length c) ∧ MG w' a r.length c w.heap.size w'.heap.size (scell r)

end Go.Proofs.YtnchbndgdkhldaaGreat
