/-
  No cell of these rows narrows 'for every input' (looked for: loops, veiled, ifaces, maps, wideKeys, modest, calm, conditions, laid).
  DERIVED. THE GIVEN ROWS OF THIS SEAT. 6 by the template 'for every input the law returns true; each argument reads behind the call as it read before'; 0 by the template 'total and deterministic' (their statements: YtlfjgdgaocahmaaTotals.lean).
  GIVEN WITH THE SEED: the statements are not yours to turn. If you find one false, say at which input.
  Laid BY PROGRAM, IN A SANDBOX (cutbox-rows.mjs): the forced cells as the released guide's own fill.sh prints them over the translation 3f1adcb1cc38e748… (all of the seat's roots in one cut). By AI agents, Wed Nov 11 2026. No macro, syntax, notation, axiom, sorry.
-/
import Derived.Test.YtlfjgdgaocahmaaChecked
import GoSem.Claim
import GoSem.ClaimJoined
import GoSem.ClaimMapViews
import Derived.JoinedTies
import Derived.KernelRfl
namespace Go.Proofs.Ytlfjgdgaocahmaa
/- THE CELL 'sum', in the pinned program and in every row, IS THE sha256 OF THE DUMP (.gsa) THAT YtlfjgdgaocahmaaProg.lean LOADS. Nothing in Lean hashes anything: it is a label: what it is worth is what the hold of that sum in a sandbox is worth. -/
noncomputable def Try.pinned : Pinned := { name := "ytlfjgdgaocahmaa", sum := "3f1adcb1cc38e7482b703a42340f214c59105a2837beb6500aa8afca5df4705d", checked := Try.checked }
namespace Rows
def none {H : Type} : Left H := { results := [], args := [] }

/-- 'laws.FnExactUpdateOk': WHATEVER THE INPUT: true; the input reads as it did. -/
def fnExactUpdateOkSpec : ChangeSpec := { name := "fnExactUpdateOk", fn := fun _ => fun
  | [d] => { results := [.lit (.bool true)], args := [d] }
  | _ => none }
def fnExactUpdateOkRow : OpenClaim := { program := "ytlfjgdgaocahmaa", sum := "3f1adcb1cc38e7482b703a42340f214c59105a2837beb6500aa8afca5df4705d", func := "loop.example/g00368/laws.FnExactUpdateOk", spec := "fnExactUpdateOk", unfollowed := true, recurses := true, apart := false }
def FnExactUpdateOkSaid : Prop := fnExactUpdateOkRow.holds Try.pinned (OpenSpec.ofChange fnExactUpdateOkSpec)

/-- ITS FALSE NEIGHBOUR: 'it returns false'. Refute it at one input. -/
def fnExactUpdateOkWrong : ChangeSpec := { name := "fnExactUpdateOk", fn := fun _ => fun
  | [d] => { results := [.lit (.bool false)], args := [d] }
  | _ => none }
def FnExactUpdateOkWrongFalsely : Prop := fnExactUpdateOkRow.holds Try.pinned (OpenSpec.ofChange fnExactUpdateOkWrong)

/-- 'laws.FnExactDotAhead': WHATEVER THE INPUT: true; the input reads as it did. -/
def fnExactDotAheadSpec : ChangeSpec := { name := "fnExactDotAhead", fn := fun _ => fun
  | [d1, d2] => { results := [.lit (.bool true)], args := [d1, d2] }
  | _ => none }
def fnExactDotAheadRow : OpenClaim := { program := "ytlfjgdgaocahmaa", sum := "3f1adcb1cc38e7482b703a42340f214c59105a2837beb6500aa8afca5df4705d", func := "loop.example/g00368/laws.FnExactDotAhead", spec := "fnExactDotAhead", apart := false }
def FnExactDotAheadSaid : Prop := fnExactDotAheadRow.holds Try.pinned (OpenSpec.ofChange fnExactDotAheadSpec)

/-- ITS FALSE NEIGHBOUR: 'it returns false'. Refute it at one input. -/
def fnExactDotAheadWrong : ChangeSpec := { name := "fnExactDotAhead", fn := fun _ => fun
  | [d1, d2] => { results := [.lit (.bool false)], args := [d1, d2] }
  | _ => none }
def FnExactDotAheadWrongFalsely : Prop := fnExactDotAheadRow.holds Try.pinned (OpenSpec.ofChange fnExactDotAheadWrong)

/-- 'laws.FnExactSetOk': WHATEVER THE INPUT: true; the input reads as it did. -/
def fnExactSetOkSpec : ChangeSpec := { name := "fnExactSetOk", fn := fun _ => fun
  | [d] => { results := [.lit (.bool true)], args := [d] }
  | _ => none }
def fnExactSetOkRow : OpenClaim := { program := "ytlfjgdgaocahmaa", sum := "3f1adcb1cc38e7482b703a42340f214c59105a2837beb6500aa8afca5df4705d", func := "loop.example/g00368/laws.FnExactSetOk", spec := "fnExactSetOk", unfollowed := true, recurses := true, apart := false }
def FnExactSetOkSaid : Prop := fnExactSetOkRow.holds Try.pinned (OpenSpec.ofChange fnExactSetOkSpec)

/-- ITS FALSE NEIGHBOUR: 'it returns false'. Refute it at one input. -/
def fnExactSetOkWrong : ChangeSpec := { name := "fnExactSetOk", fn := fun _ => fun
  | [d] => { results := [.lit (.bool false)], args := [d] }
  | _ => none }
def FnExactSetOkWrongFalsely : Prop := fnExactSetOkRow.holds Try.pinned (OpenSpec.ofChange fnExactSetOkWrong)

/-- 'laws.FnExactLevelOf': WHATEVER THE INPUT: true; the input reads as it did. -/
def fnExactLevelOfSpec : ChangeSpec := { name := "fnExactLevelOf", fn := fun _ => fun
  | [d1, d2] => { results := [.lit (.bool true)], args := [d1, d2] }
  | _ => none }
def fnExactLevelOfRow : OpenClaim := { program := "ytlfjgdgaocahmaa", sum := "3f1adcb1cc38e7482b703a42340f214c59105a2837beb6500aa8afca5df4705d", func := "loop.example/g00368/laws.FnExactLevelOf", spec := "fnExactLevelOf", unfollowed := true, recurses := true, apart := false }
def FnExactLevelOfSaid : Prop := fnExactLevelOfRow.holds Try.pinned (OpenSpec.ofChange fnExactLevelOfSpec)

/-- ITS FALSE NEIGHBOUR: 'it returns false'. Refute it at one input. -/
def fnExactLevelOfWrong : ChangeSpec := { name := "fnExactLevelOf", fn := fun _ => fun
  | [d1, d2] => { results := [.lit (.bool false)], args := [d1, d2] }
  | _ => none }
def FnExactLevelOfWrongFalsely : Prop := fnExactLevelOfRow.holds Try.pinned (OpenSpec.ofChange fnExactLevelOfWrong)

/-- 'laws.FnExactVisible': WHATEVER THE INPUT: true; the input reads as it did. -/
def fnExactVisibleSpec : ChangeSpec := { name := "fnExactVisible", fn := fun _ => fun
  | [d1, d2] => { results := [.lit (.bool true)], args := [d1, d2] }
  | _ => none }
def fnExactVisibleRow : OpenClaim := { program := "ytlfjgdgaocahmaa", sum := "3f1adcb1cc38e7482b703a42340f214c59105a2837beb6500aa8afca5df4705d", func := "loop.example/g00368/laws.FnExactVisible", spec := "fnExactVisible", unfollowed := true, recurses := true, apart := false }
def FnExactVisibleSaid : Prop := fnExactVisibleRow.holds Try.pinned (OpenSpec.ofChange fnExactVisibleSpec)

/-- ITS FALSE NEIGHBOUR: 'it returns false'. Refute it at one input. -/
def fnExactVisibleWrong : ChangeSpec := { name := "fnExactVisible", fn := fun _ => fun
  | [d1, d2] => { results := [.lit (.bool false)], args := [d1, d2] }
  | _ => none }
def FnExactVisibleWrongFalsely : Prop := fnExactVisibleRow.holds Try.pinned (OpenSpec.ofChange fnExactVisibleWrong)

/-- 'laws.FnExactKept': WHATEVER THE INPUT: true; the input reads as it did. -/
def fnExactKeptSpec : ChangeSpec := { name := "fnExactKept", fn := fun _ => fun
  | [d1, d2] => { results := [.lit (.bool true)], args := [d1, d2] }
  | _ => none }
def fnExactKeptRow : OpenClaim := { program := "ytlfjgdgaocahmaa", sum := "3f1adcb1cc38e7482b703a42340f214c59105a2837beb6500aa8afca5df4705d", func := "loop.example/g00368/laws.FnExactKept", spec := "fnExactKept", unfollowed := true, recurses := true, apart := false }
def FnExactKeptSaid : Prop := fnExactKeptRow.holds Try.pinned (OpenSpec.ofChange fnExactKeptSpec)

/-- ITS FALSE NEIGHBOUR: 'it returns false'. Refute it at one input. -/
def fnExactKeptWrong : ChangeSpec := { name := "fnExactKept", fn := fun _ => fun
  | [d1, d2] => { results := [.lit (.bool false)], args := [d1, d2] }
  | _ => none }
def FnExactKeptWrongFalsely : Prop := fnExactKeptRow.holds Try.pinned (OpenSpec.ofChange fnExactKeptWrong)

/- THE SECOND FORM. 'bulk': how many values and letters a reading holds, each counted each time it is reached (what is shared counts as often as it is met; a slice's spare places count too). A statement '..UptoSaid' is the law's where the arguments, and the package variables that the reading takes, are together of bulk at most 1048576: NARROWER than '..Said'. Prove '..Said' where nothing that the law and all that it calls make is longer than what came in: it says more and counts as full. Else prove '..UptoSaid'. A law counts once. -/
mutual
def uptoBulk {H : Type} : DataW H → Nat
  | .lit (.string bytes) => bytes.length + 1
  | .lit _ => 1
  | .nil => 1
  | .ptr d => uptoBulk d + 1
  | .slice elems spare => uptoBulkAll elems + uptoBulkAll spare + 1
  | .agg parts => uptoBulkAll parts + 1
  | .iface _ d => uptoBulk d + 1
  | .map entries => uptoBulkEntries entries + 1
  | .held _ => 1
def uptoBulkAll {H : Type} : List (DataW H) → Nat
  | [] => 0
  | d :: r => uptoBulk d + uptoBulkAll r
def uptoBulkEntries {H : Type} : List (Lit × DataW H) → Nat
  | [] => 0
  | x :: r => uptoBulkEntry x + uptoBulkEntries r
def uptoBulkEntry {H : Type} : Lit × DataW H → Nat
  | (.string bytes, d) => bytes.length + uptoBulk d + 1
  | (_, d) => uptoBulk d + 1
 end
def uptoSmall : (H : Type) → List (DataW H) → Bool := fun _ ds => decide (uptoBulkAll ds ≤ 1048576)
def OpenSpec.upto (s : _root_.Go.ChangeSpec) : _root_.Go.OpenSpec := { _root_.Go.OpenSpec.ofChange s with cond := some uptoSmall }

/-- 'laws.FnExactUpdateOk', WHERE WHAT IT READS IS OF BULK AT MOST 1048576: true; the input reads as it did. -/
def fnExactUpdateOkUptoRow : OpenClaim := { program := "ytlfjgdgaocahmaa", sum := "3f1adcb1cc38e7482b703a42340f214c59105a2837beb6500aa8afca5df4705d", func := "loop.example/g00368/laws.FnExactUpdateOk", spec := "fnExactUpdateOk", unfollowed := true, recurses := true, apart := false, narrowed := true }
def FnExactUpdateOkUptoSaid : Prop := fnExactUpdateOkUptoRow.holds Try.pinned (OpenSpec.upto fnExactUpdateOkSpec)

/-- 'laws.FnExactDotAhead', WHERE WHAT IT READS IS OF BULK AT MOST 1048576: true; the input reads as it did. -/
def fnExactDotAheadUptoRow : OpenClaim := { program := "ytlfjgdgaocahmaa", sum := "3f1adcb1cc38e7482b703a42340f214c59105a2837beb6500aa8afca5df4705d", func := "loop.example/g00368/laws.FnExactDotAhead", spec := "fnExactDotAhead", apart := false, narrowed := true }
def FnExactDotAheadUptoSaid : Prop := fnExactDotAheadUptoRow.holds Try.pinned (OpenSpec.upto fnExactDotAheadSpec)

/-- 'laws.FnExactSetOk', WHERE WHAT IT READS IS OF BULK AT MOST 1048576: true; the input reads as it did. -/
def fnExactSetOkUptoRow : OpenClaim := { program := "ytlfjgdgaocahmaa", sum := "3f1adcb1cc38e7482b703a42340f214c59105a2837beb6500aa8afca5df4705d", func := "loop.example/g00368/laws.FnExactSetOk", spec := "fnExactSetOk", unfollowed := true, recurses := true, apart := false, narrowed := true }
def FnExactSetOkUptoSaid : Prop := fnExactSetOkUptoRow.holds Try.pinned (OpenSpec.upto fnExactSetOkSpec)

/-- 'laws.FnExactLevelOf', WHERE WHAT IT READS IS OF BULK AT MOST 1048576: true; the input reads as it did. -/
def fnExactLevelOfUptoRow : OpenClaim := { program := "ytlfjgdgaocahmaa", sum := "3f1adcb1cc38e7482b703a42340f214c59105a2837beb6500aa8afca5df4705d", func := "loop.example/g00368/laws.FnExactLevelOf", spec := "fnExactLevelOf", unfollowed := true, recurses := true, apart := false, narrowed := true }
def FnExactLevelOfUptoSaid : Prop := fnExactLevelOfUptoRow.holds Try.pinned (OpenSpec.upto fnExactLevelOfSpec)

/-- 'laws.FnExactVisible', WHERE WHAT IT READS IS OF BULK AT MOST 1048576: true; the input reads as it did. -/
def fnExactVisibleUptoRow : OpenClaim := { program := "ytlfjgdgaocahmaa", sum := "3f1adcb1cc38e7482b703a42340f214c59105a2837beb6500aa8afca5df4705d", func := "loop.example/g00368/laws.FnExactVisible", spec := "fnExactVisible", unfollowed := true, recurses := true, apart := false, narrowed := true }
def FnExactVisibleUptoSaid : Prop := fnExactVisibleUptoRow.holds Try.pinned (OpenSpec.upto fnExactVisibleSpec)

/-- 'laws.FnExactKept', WHERE WHAT IT READS IS OF BULK AT MOST 1048576: true; the input reads as it did. -/
def fnExactKeptUptoRow : OpenClaim := { program := "ytlfjgdgaocahmaa", sum := "3f1adcb1cc38e7482b703a42340f214c59105a2837beb6500aa8afca5df4705d", func := "loop.example/g00368/laws.FnExactKept", spec := "fnExactKept", unfollowed := true, recurses := true, apart := false, narrowed := true }
def FnExactKeptUptoSaid : Prop := fnExactKeptUptoRow.holds Try.pinned (OpenSpec.upto fnExactKeptSpec)

end Rows
end Go.Proofs.Ytlfjgdgaocahmaa
