/-
  No cell of these rows narrows 'for every input' (looked for: loops, veiled, ifaces, maps, wideKeys, modest, calm, conditions, laid).
  DERIVED. THE GIVEN ROWS OF THIS SEAT. 6 by the template 'for every input the law returns true; each argument reads behind the call as it read before'; 0 by the template 'total and deterministic' (their statements: YtmldlpmjdfomfafTotals.lean).
  GIVEN WITH THE SEED: the statements are not yours to turn. If you find one false, say at which input.
  Laid BY PROGRAM, IN A SANDBOX (cutbox-rows.mjs): the forced cells as the released guide's own fill.sh prints them over the translation 7c39702dfdd422d5… (all of the seat's roots in one cut). By AI agents, Wed Nov 11 2026. No macro, syntax, notation, axiom, sorry.
-/
import Derived.Test.YtmldlpmjdfomfafChecked
import GoSem.Claim
import GoSem.ClaimJoined
import GoSem.ClaimMapViews
import Derived.JoinedTies
import Derived.KernelRfl
namespace Go.Proofs.Ytmldlpmjdfomfaf
/- THE CELL 'sum', in the pinned program and in every row, IS THE sha256 OF THE DUMP (.gsa) THAT YtmldlpmjdfomfafProg.lean LOADS. Nothing in Lean hashes anything: it is a label: what it is worth is what the hold of that sum in a sandbox is worth. -/
noncomputable def Try.pinned : Pinned := { name := "ytmldlpmjdfomfaf", sum := "7c39702dfdd422d5c6b92d81a68b239649e002d9aa7766ceeacaddef85534504", checked := Try.checked }
namespace Rows
def none {H : Type} : Left H := { results := [], args := [] }

/-- 'laws.FnExactMet': WHATEVER THE INPUT: true; the input reads as it did. -/
def fnExactMetSpec : ChangeSpec := { name := "fnExactMet", fn := fun _ => fun
  | [d1, d2, d3] => { results := [.lit (.bool true)], args := [d1, d2, d3] }
  | _ => none }
def fnExactMetRow : OpenClaim := { program := "ytmldlpmjdfomfaf", sum := "7c39702dfdd422d5c6b92d81a68b239649e002d9aa7766ceeacaddef85534504", func := "loop.example/g00368/laws.FnExactMet", spec := "fnExactMet", apart := false }
def FnExactMetSaid : Prop := fnExactMetRow.holds Try.pinned (OpenSpec.ofChange fnExactMetSpec)

/-- ITS FALSE NEIGHBOUR: 'it returns false'. Refute it at one input. -/
def fnExactMetWrong : ChangeSpec := { name := "fnExactMet", fn := fun _ => fun
  | [d1, d2, d3] => { results := [.lit (.bool false)], args := [d1, d2, d3] }
  | _ => none }
def FnExactMetWrongFalsely : Prop := fnExactMetRow.holds Try.pinned (OpenSpec.ofChange fnExactMetWrong)

/-- 'laws.FnExactVecOk': WHATEVER THE INPUT: true; the input reads as it did. -/
def fnExactVecOkSpec : ChangeSpec := { name := "fnExactVecOk", fn := fun _ => fun
  | [d] => { results := [.lit (.bool true)], args := [d] }
  | _ => none }
def fnExactVecOkRow : OpenClaim := { program := "ytmldlpmjdfomfaf", sum := "7c39702dfdd422d5c6b92d81a68b239649e002d9aa7766ceeacaddef85534504", func := "loop.example/g00368/laws.FnExactVecOk", spec := "fnExactVecOk", apart := false }
def FnExactVecOkSaid : Prop := fnExactVecOkRow.holds Try.pinned (OpenSpec.ofChange fnExactVecOkSpec)

/-- ITS FALSE NEIGHBOUR: 'it returns false'. Refute it at one input. -/
def fnExactVecOkWrong : ChangeSpec := { name := "fnExactVecOk", fn := fun _ => fun
  | [d] => { results := [.lit (.bool false)], args := [d] }
  | _ => none }
def FnExactVecOkWrongFalsely : Prop := fnExactVecOkRow.holds Try.pinned (OpenSpec.ofChange fnExactVecOkWrong)

/-- 'laws.FnExactVecOf': WHATEVER THE INPUT: true; the input reads as it did. -/
def fnExactVecOfSpec : ChangeSpec := { name := "fnExactVecOf", fn := fun _ => fun
  | [d1, d2] => { results := [.lit (.bool true)], args := [d1, d2] }
  | _ => none }
def fnExactVecOfRow : OpenClaim := { program := "ytmldlpmjdfomfaf", sum := "7c39702dfdd422d5c6b92d81a68b239649e002d9aa7766ceeacaddef85534504", func := "loop.example/g00368/laws.FnExactVecOf", spec := "fnExactVecOf", apart := false }
def FnExactVecOfSaid : Prop := fnExactVecOfRow.holds Try.pinned (OpenSpec.ofChange fnExactVecOfSpec)

/-- ITS FALSE NEIGHBOUR: 'it returns false'. Refute it at one input. -/
def fnExactVecOfWrong : ChangeSpec := { name := "fnExactVecOf", fn := fun _ => fun
  | [d1, d2] => { results := [.lit (.bool false)], args := [d1, d2] }
  | _ => none }
def FnExactVecOfWrongFalsely : Prop := fnExactVecOfRow.holds Try.pinned (OpenSpec.ofChange fnExactVecOfWrong)

/-- 'laws.FnExactVecJoin': WHATEVER THE INPUT: true; the input reads as it did. -/
def fnExactVecJoinSpec : ChangeSpec := { name := "fnExactVecJoin", fn := fun _ => fun
  | [d1, d2] => { results := [.lit (.bool true)], args := [d1, d2] }
  | _ => none }
def fnExactVecJoinRow : OpenClaim := { program := "ytmldlpmjdfomfaf", sum := "7c39702dfdd422d5c6b92d81a68b239649e002d9aa7766ceeacaddef85534504", func := "loop.example/g00368/laws.FnExactVecJoin", spec := "fnExactVecJoin", apart := false }
def FnExactVecJoinSaid : Prop := fnExactVecJoinRow.holds Try.pinned (OpenSpec.ofChange fnExactVecJoinSpec)

/-- ITS FALSE NEIGHBOUR: 'it returns false'. Refute it at one input. -/
def fnExactVecJoinWrong : ChangeSpec := { name := "fnExactVecJoin", fn := fun _ => fun
  | [d1, d2] => { results := [.lit (.bool false)], args := [d1, d2] }
  | _ => none }
def FnExactVecJoinWrongFalsely : Prop := fnExactVecJoinRow.holds Try.pinned (OpenSpec.ofChange fnExactVecJoinWrong)

/-- 'laws.FnExactCovers': WHATEVER THE INPUT: true; the input reads as it did. -/
def fnExactCoversSpec : ChangeSpec := { name := "fnExactCovers", fn := fun _ => fun
  | [d1, d2] => { results := [.lit (.bool true)], args := [d1, d2] }
  | _ => none }
def fnExactCoversRow : OpenClaim := { program := "ytmldlpmjdfomfaf", sum := "7c39702dfdd422d5c6b92d81a68b239649e002d9aa7766ceeacaddef85534504", func := "loop.example/g00368/laws.FnExactCovers", spec := "fnExactCovers", apart := false }
def FnExactCoversSaid : Prop := fnExactCoversRow.holds Try.pinned (OpenSpec.ofChange fnExactCoversSpec)

/-- ITS FALSE NEIGHBOUR: 'it returns false'. Refute it at one input. -/
def fnExactCoversWrong : ChangeSpec := { name := "fnExactCovers", fn := fun _ => fun
  | [d1, d2] => { results := [.lit (.bool false)], args := [d1, d2] }
  | _ => none }
def FnExactCoversWrongFalsely : Prop := fnExactCoversRow.holds Try.pinned (OpenSpec.ofChange fnExactCoversWrong)

/-- 'laws.FnExactSpanOk': WHATEVER THE INPUT: true; the input reads as it did. -/
def fnExactSpanOkSpec : ChangeSpec := { name := "fnExactSpanOk", fn := fun _ => fun
  | [d] => { results := [.lit (.bool true)], args := [d] }
  | _ => none }
def fnExactSpanOkRow : OpenClaim := { program := "ytmldlpmjdfomfaf", sum := "7c39702dfdd422d5c6b92d81a68b239649e002d9aa7766ceeacaddef85534504", func := "loop.example/g00368/laws.FnExactSpanOk", spec := "fnExactSpanOk", apart := false }
def FnExactSpanOkSaid : Prop := fnExactSpanOkRow.holds Try.pinned (OpenSpec.ofChange fnExactSpanOkSpec)

/-- ITS FALSE NEIGHBOUR: 'it returns false'. Refute it at one input. -/
def fnExactSpanOkWrong : ChangeSpec := { name := "fnExactSpanOk", fn := fun _ => fun
  | [d] => { results := [.lit (.bool false)], args := [d] }
  | _ => none }
def FnExactSpanOkWrongFalsely : Prop := fnExactSpanOkRow.holds Try.pinned (OpenSpec.ofChange fnExactSpanOkWrong)

/- THE SECOND FORM. 'bulk': how many values and letters a reading holds, each counted each time it is reached (what is shared counts as often as it is met; a slice's spare places count too). A statement '..UptoSaid' is the law's where the arguments, and the package variables that the reading takes, are together of bulk at most 1048576: NARROWER than '..Said'. Prove '..Said' where nothing that the law and all that it calls make is longer than what came in: it says more and counts as full. Else prove '..UptoSaid'. A law counts once. -/
mutual
def uptoBulk {H : Type} : DataW H → Nat
  | .lit (.string bytes) => bytes.length + 1
  | .lit _ => 1
  | .nil => 1
  | .ptr d => uptoBulk d + 1
  | .slice elems spare => uptoBulkAll elems + uptoBulkAll spare + 1
  | .agg parts => uptoBulkAll parts + 1
  | .iface _ d => uptoBulk d + 1
  | .map entries => uptoBulkEntries entries + 1
  | .held _ => 1
def uptoBulkAll {H : Type} : List (DataW H) → Nat
  | [] => 0
  | d :: r => uptoBulk d + uptoBulkAll r
def uptoBulkEntries {H : Type} : List (Lit × DataW H) → Nat
  | [] => 0
  | x :: r => uptoBulkEntry x + uptoBulkEntries r
def uptoBulkEntry {H : Type} : Lit × DataW H → Nat
  | (.string bytes, d) => bytes.length + uptoBulk d + 1
  | (_, d) => uptoBulk d + 1
 end
def uptoSmall : (H : Type) → List (DataW H) → Bool := fun _ ds => decide (uptoBulkAll ds ≤ 1048576)
def OpenSpec.upto (s : _root_.Go.ChangeSpec) : _root_.Go.OpenSpec := { _root_.Go.OpenSpec.ofChange s with cond := some uptoSmall }

/-- 'laws.FnExactMet', WHERE WHAT IT READS IS OF BULK AT MOST 1048576: true; the input reads as it did. -/
def fnExactMetUptoRow : OpenClaim := { program := "ytmldlpmjdfomfaf", sum := "7c39702dfdd422d5c6b92d81a68b239649e002d9aa7766ceeacaddef85534504", func := "loop.example/g00368/laws.FnExactMet", spec := "fnExactMet", apart := false, narrowed := true }
def FnExactMetUptoSaid : Prop := fnExactMetUptoRow.holds Try.pinned (OpenSpec.upto fnExactMetSpec)

/-- 'laws.FnExactVecOk', WHERE WHAT IT READS IS OF BULK AT MOST 1048576: true; the input reads as it did. -/
def fnExactVecOkUptoRow : OpenClaim := { program := "ytmldlpmjdfomfaf", sum := "7c39702dfdd422d5c6b92d81a68b239649e002d9aa7766ceeacaddef85534504", func := "loop.example/g00368/laws.FnExactVecOk", spec := "fnExactVecOk", apart := false, narrowed := true }
def FnExactVecOkUptoSaid : Prop := fnExactVecOkUptoRow.holds Try.pinned (OpenSpec.upto fnExactVecOkSpec)

/-- 'laws.FnExactVecOf', WHERE WHAT IT READS IS OF BULK AT MOST 1048576: true; the input reads as it did. -/
def fnExactVecOfUptoRow : OpenClaim := { program := "ytmldlpmjdfomfaf", sum := "7c39702dfdd422d5c6b92d81a68b239649e002d9aa7766ceeacaddef85534504", func := "loop.example/g00368/laws.FnExactVecOf", spec := "fnExactVecOf", apart := false, narrowed := true }
def FnExactVecOfUptoSaid : Prop := fnExactVecOfUptoRow.holds Try.pinned (OpenSpec.upto fnExactVecOfSpec)

/-- 'laws.FnExactVecJoin', WHERE WHAT IT READS IS OF BULK AT MOST 1048576: true; the input reads as it did. -/
def fnExactVecJoinUptoRow : OpenClaim := { program := "ytmldlpmjdfomfaf", sum := "7c39702dfdd422d5c6b92d81a68b239649e002d9aa7766ceeacaddef85534504", func := "loop.example/g00368/laws.FnExactVecJoin", spec := "fnExactVecJoin", apart := false, narrowed := true }
def FnExactVecJoinUptoSaid : Prop := fnExactVecJoinUptoRow.holds Try.pinned (OpenSpec.upto fnExactVecJoinSpec)

/-- 'laws.FnExactCovers', WHERE WHAT IT READS IS OF BULK AT MOST 1048576: true; the input reads as it did. -/
def fnExactCoversUptoRow : OpenClaim := { program := "ytmldlpmjdfomfaf", sum := "7c39702dfdd422d5c6b92d81a68b239649e002d9aa7766ceeacaddef85534504", func := "loop.example/g00368/laws.FnExactCovers", spec := "fnExactCovers", apart := false, narrowed := true }
def FnExactCoversUptoSaid : Prop := fnExactCoversUptoRow.holds Try.pinned (OpenSpec.upto fnExactCoversSpec)

/-- 'laws.FnExactSpanOk', WHERE WHAT IT READS IS OF BULK AT MOST 1048576: true; the input reads as it did. -/
def fnExactSpanOkUptoRow : OpenClaim := { program := "ytmldlpmjdfomfaf", sum := "7c39702dfdd422d5c6b92d81a68b239649e002d9aa7766ceeacaddef85534504", func := "loop.example/g00368/laws.FnExactSpanOk", spec := "fnExactSpanOk", apart := false, narrowed := true }
def FnExactSpanOkUptoSaid : Prop := fnExactSpanOkUptoRow.holds Try.pinned (OpenSpec.upto fnExactSpanOkSpec)

end Rows
end Go.Proofs.Ytmldlpmjdfomfaf
