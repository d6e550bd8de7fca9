/-
  No cell of these rows narrows 'for every input' (looked for: loops, veiled, ifaces, maps, wideKeys, modest, calm, conditions, laid).
  DERIVED. THE GIVEN ROWS OF THIS SEAT. 6 by the template 'for every input the law returns true; each argument reads behind the call as it read before'; 0 by the template 'total and deterministic' (their statements: YtekmmkibpekkpaaTotals.lean).
  GIVEN WITH THE SEED: the statements are not yours to turn. If you find one false, say at which input.
  Laid BY PROGRAM, IN A SANDBOX (cutbox-rows.mjs): the forced cells as the released guide's own fill.sh prints them over the translation 1f47634376ab5bcd… (all of the seat's roots in one cut). By AI agents, Wed Nov 11 2026. No macro, syntax, notation, axiom, sorry.
-/
import Derived.Test.YtekmmkibpekkpaaChecked
import GoSem.Claim
import GoSem.ClaimJoined
import GoSem.ClaimMapViews
import Derived.JoinedTies
import Derived.KernelRfl
namespace Go.Proofs.Ytekmmkibpekkpaa
/- THE CELL 'sum', in the pinned program and in every row, IS THE sha256 OF THE DUMP (.gsa) THAT YtekmmkibpekkpaaProg.lean LOADS. Nothing in Lean hashes anything: it is a label: what it is worth is what the hold of that sum in a sandbox is worth. -/
noncomputable def Try.pinned : Pinned := { name := "ytekmmkibpekkpaa", sum := "1f47634376ab5bcd46371ebf9261d7966f49b50bdd1ebb30dc4aa8f02dab69bd", checked := Try.checked }
namespace Rows
def none {H : Type} : Left H := { results := [], args := [] }

/-- 'laws.FnVector': WHATEVER THE INPUT: true; the input reads as it did. -/
def fnVectorSpec : ChangeSpec := { name := "fnVector", fn := fun _ => fun
  | [d] => { results := [.lit (.bool true)], args := [d] }
  | _ => none }
def fnVectorRow : OpenClaim := { program := "ytekmmkibpekkpaa", sum := "1f47634376ab5bcd46371ebf9261d7966f49b50bdd1ebb30dc4aa8f02dab69bd", func := "loop.example/g00368/laws.FnVector", spec := "fnVector", unfollowed := true, recurses := true, apart := false }
def FnVectorSaid : Prop := fnVectorRow.holds Try.pinned (OpenSpec.ofChange fnVectorSpec)

/-- ITS FALSE NEIGHBOUR: 'it returns false'. Refute it at one input. -/
def fnVectorWrong : ChangeSpec := { name := "fnVector", fn := fun _ => fun
  | [d] => { results := [.lit (.bool false)], args := [d] }
  | _ => none }
def FnVectorWrongFalsely : Prop := fnVectorRow.holds Try.pinned (OpenSpec.ofChange fnVectorWrong)

/-- 'laws.FnSince': WHATEVER THE INPUT: true; the input reads as it did. -/
def fnSinceSpec : ChangeSpec := { name := "fnSince", fn := fun _ => fun
  | [d] => { results := [.lit (.bool true)], args := [d] }
  | _ => none }
def fnSinceRow : OpenClaim := { program := "ytekmmkibpekkpaa", sum := "1f47634376ab5bcd46371ebf9261d7966f49b50bdd1ebb30dc4aa8f02dab69bd", func := "loop.example/g00368/laws.FnSince", spec := "fnSince", unfollowed := true, recurses := true, apart := false }
def FnSinceSaid : Prop := fnSinceRow.holds Try.pinned (OpenSpec.ofChange fnSinceSpec)

/-- ITS FALSE NEIGHBOUR: 'it returns false'. Refute it at one input. -/
def fnSinceWrong : ChangeSpec := { name := "fnSince", fn := fun _ => fun
  | [d] => { results := [.lit (.bool false)], args := [d] }
  | _ => none }
def FnSinceWrongFalsely : Prop := fnSinceRow.holds Try.pinned (OpenSpec.ofChange fnSinceWrong)

/-- 'laws.FnRegionNew': WHATEVER THE INPUT: true; the input reads as it did. -/
def fnRegionNewSpec : ChangeSpec := { name := "fnRegionNew", fn := fun _ => fun
  | [d] => { results := [.lit (.bool true)], args := [d] }
  | _ => none }
def fnRegionNewRow : OpenClaim := { program := "ytekmmkibpekkpaa", sum := "1f47634376ab5bcd46371ebf9261d7966f49b50bdd1ebb30dc4aa8f02dab69bd", func := "loop.example/g00368/laws.FnRegionNew", spec := "fnRegionNew", unfollowed := true, recurses := true, apart := false }
def FnRegionNewSaid : Prop := fnRegionNewRow.holds Try.pinned (OpenSpec.ofChange fnRegionNewSpec)

/-- ITS FALSE NEIGHBOUR: 'it returns false'. Refute it at one input. -/
def fnRegionNewWrong : ChangeSpec := { name := "fnRegionNew", fn := fun _ => fun
  | [d] => { results := [.lit (.bool false)], args := [d] }
  | _ => none }
def FnRegionNewWrongFalsely : Prop := fnRegionNewRow.holds Try.pinned (OpenSpec.ofChange fnRegionNewWrong)

/-- 'laws.FnExactVectorOf': WHATEVER THE INPUT: true; the input reads as it did. -/
def fnExactVectorOfSpec : ChangeSpec := { name := "fnExactVectorOf", fn := fun _ => fun
  | [d] => { results := [.lit (.bool true)], args := [d] }
  | _ => none }
def fnExactVectorOfRow : OpenClaim := { program := "ytekmmkibpekkpaa", sum := "1f47634376ab5bcd46371ebf9261d7966f49b50bdd1ebb30dc4aa8f02dab69bd", func := "loop.example/g00368/laws.FnExactVectorOf", spec := "fnExactVectorOf", unfollowed := true, recurses := true, apart := false }
def FnExactVectorOfSaid : Prop := fnExactVectorOfRow.holds Try.pinned (OpenSpec.ofChange fnExactVectorOfSpec)

/-- ITS FALSE NEIGHBOUR: 'it returns false'. Refute it at one input. -/
def fnExactVectorOfWrong : ChangeSpec := { name := "fnExactVectorOf", fn := fun _ => fun
  | [d] => { results := [.lit (.bool false)], args := [d] }
  | _ => none }
def FnExactVectorOfWrongFalsely : Prop := fnExactVectorOfRow.holds Try.pinned (OpenSpec.ofChange fnExactVectorOfWrong)

/-- 'laws.FnExactRegionOk': WHATEVER THE INPUT: true; the input reads as it did. -/
def fnExactRegionOkSpec : ChangeSpec := { name := "fnExactRegionOk", fn := fun _ => fun
  | [d] => { results := [.lit (.bool true)], args := [d] }
  | _ => none }
def fnExactRegionOkRow : OpenClaim := { program := "ytekmmkibpekkpaa", sum := "1f47634376ab5bcd46371ebf9261d7966f49b50bdd1ebb30dc4aa8f02dab69bd", func := "loop.example/g00368/laws.FnExactRegionOk", spec := "fnExactRegionOk", unfollowed := true, recurses := true, apart := false }
def FnExactRegionOkSaid : Prop := fnExactRegionOkRow.holds Try.pinned (OpenSpec.ofChange fnExactRegionOkSpec)

/-- ITS FALSE NEIGHBOUR: 'it returns false'. Refute it at one input. -/
def fnExactRegionOkWrong : ChangeSpec := { name := "fnExactRegionOk", fn := fun _ => fun
  | [d] => { results := [.lit (.bool false)], args := [d] }
  | _ => none }
def FnExactRegionOkWrongFalsely : Prop := fnExactRegionOkRow.holds Try.pinned (OpenSpec.ofChange fnExactRegionOkWrong)

/-- 'laws.FnExactRegionNew': WHATEVER THE INPUT: true; the input reads as it did. -/
def fnExactRegionNewSpec : ChangeSpec := { name := "fnExactRegionNew", fn := fun _ => fun
  | [d] => { results := [.lit (.bool true)], args := [d] }
  | _ => none }
def fnExactRegionNewRow : OpenClaim := { program := "ytekmmkibpekkpaa", sum := "1f47634376ab5bcd46371ebf9261d7966f49b50bdd1ebb30dc4aa8f02dab69bd", func := "loop.example/g00368/laws.FnExactRegionNew", spec := "fnExactRegionNew", apart := false }
def FnExactRegionNewSaid : Prop := fnExactRegionNewRow.holds Try.pinned (OpenSpec.ofChange fnExactRegionNewSpec)

/-- ITS FALSE NEIGHBOUR: 'it returns false'. Refute it at one input. -/
def fnExactRegionNewWrong : ChangeSpec := { name := "fnExactRegionNew", fn := fun _ => fun
  | [d] => { results := [.lit (.bool false)], args := [d] }
  | _ => none }
def FnExactRegionNewWrongFalsely : Prop := fnExactRegionNewRow.holds Try.pinned (OpenSpec.ofChange fnExactRegionNewWrong)

/- THE SECOND FORM. 'bulk': how many values and letters a reading holds, each counted each time it is reached (what is shared counts as often as it is met; a slice's spare places count too). A statement '..UptoSaid' is the law's where the arguments, and the package variables that the reading takes, are together of bulk at most 1048576: NARROWER than '..Said'. Prove '..Said' where nothing that the law and all that it calls make is longer than what came in: it says more and counts as full. Else prove '..UptoSaid'. A law counts once. -/
mutual
def uptoBulk {H : Type} : DataW H → Nat
  | .lit (.string bytes) => bytes.length + 1
  | .lit _ => 1
  | .nil => 1
  | .ptr d => uptoBulk d + 1
  | .slice elems spare => uptoBulkAll elems + uptoBulkAll spare + 1
  | .agg parts => uptoBulkAll parts + 1
  | .iface _ d => uptoBulk d + 1
  | .map entries => uptoBulkEntries entries + 1
  | .held _ => 1
def uptoBulkAll {H : Type} : List (DataW H) → Nat
  | [] => 0
  | d :: r => uptoBulk d + uptoBulkAll r
def uptoBulkEntries {H : Type} : List (Lit × DataW H) → Nat
  | [] => 0
  | x :: r => uptoBulkEntry x + uptoBulkEntries r
def uptoBulkEntry {H : Type} : Lit × DataW H → Nat
  | (.string bytes, d) => bytes.length + uptoBulk d + 1
  | (_, d) => uptoBulk d + 1
 end
def uptoSmall : (H : Type) → List (DataW H) → Bool := fun _ ds => decide (uptoBulkAll ds ≤ 1048576)
def OpenSpec.upto (s : _root_.Go.ChangeSpec) : _root_.Go.OpenSpec := { _root_.Go.OpenSpec.ofChange s with cond := some uptoSmall }

/-- 'laws.FnVector', WHERE WHAT IT READS IS OF BULK AT MOST 1048576: true; the input reads as it did. -/
def fnVectorUptoRow : OpenClaim := { program := "ytekmmkibpekkpaa", sum := "1f47634376ab5bcd46371ebf9261d7966f49b50bdd1ebb30dc4aa8f02dab69bd", func := "loop.example/g00368/laws.FnVector", spec := "fnVector", unfollowed := true, recurses := true, apart := false, narrowed := true }
def FnVectorUptoSaid : Prop := fnVectorUptoRow.holds Try.pinned (OpenSpec.upto fnVectorSpec)

/-- 'laws.FnSince', WHERE WHAT IT READS IS OF BULK AT MOST 1048576: true; the input reads as it did. -/
def fnSinceUptoRow : OpenClaim := { program := "ytekmmkibpekkpaa", sum := "1f47634376ab5bcd46371ebf9261d7966f49b50bdd1ebb30dc4aa8f02dab69bd", func := "loop.example/g00368/laws.FnSince", spec := "fnSince", unfollowed := true, recurses := true, apart := false, narrowed := true }
def FnSinceUptoSaid : Prop := fnSinceUptoRow.holds Try.pinned (OpenSpec.upto fnSinceSpec)

/-- 'laws.FnRegionNew', WHERE WHAT IT READS IS OF BULK AT MOST 1048576: true; the input reads as it did. -/
def fnRegionNewUptoRow : OpenClaim := { program := "ytekmmkibpekkpaa", sum := "1f47634376ab5bcd46371ebf9261d7966f49b50bdd1ebb30dc4aa8f02dab69bd", func := "loop.example/g00368/laws.FnRegionNew", spec := "fnRegionNew", unfollowed := true, recurses := true, apart := false, narrowed := true }
def FnRegionNewUptoSaid : Prop := fnRegionNewUptoRow.holds Try.pinned (OpenSpec.upto fnRegionNewSpec)

/-- 'laws.FnExactVectorOf', WHERE WHAT IT READS IS OF BULK AT MOST 1048576: true; the input reads as it did. -/
def fnExactVectorOfUptoRow : OpenClaim := { program := "ytekmmkibpekkpaa", sum := "1f47634376ab5bcd46371ebf9261d7966f49b50bdd1ebb30dc4aa8f02dab69bd", func := "loop.example/g00368/laws.FnExactVectorOf", spec := "fnExactVectorOf", unfollowed := true, recurses := true, apart := false, narrowed := true }
def FnExactVectorOfUptoSaid : Prop := fnExactVectorOfUptoRow.holds Try.pinned (OpenSpec.upto fnExactVectorOfSpec)

/-- 'laws.FnExactRegionOk', WHERE WHAT IT READS IS OF BULK AT MOST 1048576: true; the input reads as it did. -/
def fnExactRegionOkUptoRow : OpenClaim := { program := "ytekmmkibpekkpaa", sum := "1f47634376ab5bcd46371ebf9261d7966f49b50bdd1ebb30dc4aa8f02dab69bd", func := "loop.example/g00368/laws.FnExactRegionOk", spec := "fnExactRegionOk", unfollowed := true, recurses := true, apart := false, narrowed := true }
def FnExactRegionOkUptoSaid : Prop := fnExactRegionOkUptoRow.holds Try.pinned (OpenSpec.upto fnExactRegionOkSpec)

/-- 'laws.FnExactRegionNew', WHERE WHAT IT READS IS OF BULK AT MOST 1048576: true; the input reads as it did. -/
def fnExactRegionNewUptoRow : OpenClaim := { program := "ytekmmkibpekkpaa", sum := "1f47634376ab5bcd46371ebf9261d7966f49b50bdd1ebb30dc4aa8f02dab69bd", func := "loop.example/g00368/laws.FnExactRegionNew", spec := "fnExactRegionNew", apart := false, narrowed := true }
def FnExactRegionNewUptoSaid : Prop := fnExactRegionNewUptoRow.holds Try.pinned (OpenSpec.upto fnExactRegionNewSpec)

end Rows
end Go.Proofs.Ytekmmkibpekkpaa
