/-
  NARROWER THAN 'FOR EVERY INPUT', by the rows' own cells (each row's printed sentence says how): FnIssued: ifaces, laid · FnReceived: ifaces, laid · FnSameOps: ifaces, laid · FnExactIssued: ifaces, laid · FnExactReceived: ifaces, laid.
  DERIVED. THE GIVEN ROWS OF THIS SEAT. 5 by the template 'for every input the law returns true; each argument reads behind the call as it read before'; 0 by the template 'total and deterministic' (their statements: YtccendmoeelniaaGreatDoorTotals.lean).
  GIVEN WITH THE SEED: the statements are not yours to turn. If you find one false, say at which input.
  Laid BY PROGRAM, IN A SANDBOX (cutbox-rows.mjs): the forced cells as the released guide's own fill.sh prints them over the translation e6b5e181ea0c6d15… (all of the seat's roots in one cut). By AI agents, Wed Nov 11 2026. No macro, syntax, notation, axiom, sorry.
-/
import Derived.Test.YtccendmoeelniaaGreatDoorChecked
import GoSem.Claim
import GoSem.ClaimJoined
import GoSem.ClaimMapViews
import Derived.JoinedTies
import Derived.KernelRfl
namespace Go.Proofs.YtccendmoeelniaaGreatDoor
/- THE CELL 'sum', in the pinned program and in every row, IS THE sha256 OF THE DUMP (.gsa) THAT YtccendmoeelniaaGreatDoorProg.lean LOADS. Nothing in Lean hashes anything: it is a label: what it is worth is what the hold of that sum in a sandbox is worth. -/
noncomputable def Tryz.pinned : Pinned := { name := "ytccendmoeelniaagreatdoor", sum := "e6b5e181ea0c6d15479a06d9fff5ce066c89d8527dde88bc29e4228993cdf774", checked := Tryz.checked }
namespace Rows
def none {H : Type} : Left H := { results := [], args := [] }

/- WHAT THE LISTED PACKAGE-LEVEL VARIABLES READ AS WHEN THE CALL BEGINS. Each datum BY PROGRAM (the guide's laid-datum.mjs) off the statement by which the dump's own 'gosem.cut.vars' lays the variable. In a bare row this is a premise. The card (YtccendmoeelniaaGreatDoorCards.lean) ties it to the program's text. -/
def laid_errors_errorType {H : Type} : DataW H := .iface "internal/reflectlite.rtype" (.agg [.ptr (.lit (.string [101, 114, 114, 111, 114]))])
def laid_loop_example_g00368_impl_errWrong {H : Type} : DataW H := .iface "*errors.errorString" (.ptr (.agg [.lit (.string [116, 104, 101, 32, 114, 101, 103, 105, 111, 110, 32, 105, 115, 32, 110, 111, 116, 32, 114, 105, 103, 104, 116])]))
def laid_loop_example_g00368_impl_errForm {H : Type} : DataW H := .iface "*errors.errorString" (.ptr (.agg [.lit (.string [119, 104, 97, 116, 32, 105, 115, 32, 104, 97, 110, 100, 101, 100, 32, 105, 110, 32, 104, 97, 115, 32, 110, 111, 116, 32, 105, 116, 115, 32, 102, 111, 114, 109])]))
def laid_loop_example_g00368_impl_errFull {H : Type} : DataW H := .iface "*errors.errorString" (.ptr (.agg [.lit (.string [116, 104, 101, 32, 114, 101, 103, 105, 111, 110, 32, 119, 111, 117, 108, 100, 32, 110, 111, 116, 32, 98, 101, 32, 114, 105, 103, 104, 116])]))
def laid_loop_example_g00368_impl_errClock {H : Type} : DataW H := .iface "*errors.errorString" (.ptr (.agg [.lit (.string [116, 104, 101, 32, 99, 108, 111, 99, 107, 32, 99, 97, 110, 39, 116, 32, 103, 111, 32, 111, 110])]))
def laid_loop_example_g00368_impl_errNot {H : Type} : DataW H := .iface "*errors.errorString" (.ptr (.agg [.lit (.string [116, 104, 101, 32, 116, 114, 97, 99, 101, 32, 105, 115, 32, 115, 111, 32, 97, 108, 114, 101, 97, 100, 121])]))

/-- 'laws.FnIssued': WHATEVER THE INPUT: true; the input reads as it did. -/
def fnIssuedSpec : ChangeSpec := { name := "fnIssued", vars := ["loop.example/g00368/impl.errWrong", "loop.example/g00368/impl.errForm", "loop.example/g00368/impl.errNot", "loop.example/g00368/impl.errClock", "loop.example/g00368/impl.errFull"], fn := fun _ => fun
  | [d, g1, g2, g3, g4, g5] => { results := [.lit (.bool true)], args := [d], vars := [g1, g2, g3, g4, g5] }
  | _ => none }
def fnIssuedRow : OpenClaim := { program := "ytccendmoeelniaagreatdoor", sum := "e6b5e181ea0c6d15479a06d9fff5ce066c89d8527dde88bc29e4228993cdf774", func := "loop.example/g00368/laws.FnIssued", spec := "fnIssued", inPlace := ["internal/reflectlite.ValueOf", "(internal/reflectlite.Value).Type", "(internal/reflectlite.Value).IsNil", "internal/reflectlite.TypeOf", "(internal/reflectlite.Value).Elem", "(internal/reflectlite.Value).Set"], unfollowed := true, recurses := true, named := ["loop.example/g00368/impl.errWrong", "loop.example/g00368/impl.errForm", "loop.example/g00368/impl.errNot", "loop.example/g00368/impl.errClock", "loop.example/g00368/impl.errFull", "errors.errorType"], ifaces := true, plainKeys := false, apart := false, laid := [("errors.errorType", laid_errors_errorType), ("loop.example/g00368/impl.errWrong", laid_loop_example_g00368_impl_errWrong), ("loop.example/g00368/impl.errForm", laid_loop_example_g00368_impl_errForm), ("loop.example/g00368/impl.errFull", laid_loop_example_g00368_impl_errFull), ("loop.example/g00368/impl.errClock", laid_loop_example_g00368_impl_errClock), ("loop.example/g00368/impl.errNot", laid_loop_example_g00368_impl_errNot)] }
def FnIssuedSaid : Prop := fnIssuedRow.holds Tryz.pinned (OpenSpec.ofChange fnIssuedSpec)

/-- ITS FALSE NEIGHBOUR: 'it returns false'. Refute it at one input. -/
def fnIssuedWrong : ChangeSpec := { name := "fnIssued", vars := ["loop.example/g00368/impl.errWrong", "loop.example/g00368/impl.errForm", "loop.example/g00368/impl.errNot", "loop.example/g00368/impl.errClock", "loop.example/g00368/impl.errFull"], fn := fun _ => fun
  | [d, g1, g2, g3, g4, g5] => { results := [.lit (.bool false)], args := [d], vars := [g1, g2, g3, g4, g5] }
  | _ => none }
def FnIssuedWrongFalsely : Prop := fnIssuedRow.holds Tryz.pinned (OpenSpec.ofChange fnIssuedWrong)

/-- 'laws.FnReceived': WHATEVER THE INPUT: true; the input reads as it did. -/
def fnReceivedSpec : ChangeSpec := { name := "fnReceived", vars := ["loop.example/g00368/impl.errWrong", "loop.example/g00368/impl.errForm", "loop.example/g00368/impl.errFull", "loop.example/g00368/impl.errClock", "loop.example/g00368/impl.errNot"], fn := fun _ => fun
  | [d, g1, g2, g3, g4, g5] => { results := [.lit (.bool true)], args := [d], vars := [g1, g2, g3, g4, g5] }
  | _ => none }
def fnReceivedRow : OpenClaim := { program := "ytccendmoeelniaagreatdoor", sum := "e6b5e181ea0c6d15479a06d9fff5ce066c89d8527dde88bc29e4228993cdf774", func := "loop.example/g00368/laws.FnReceived", spec := "fnReceived", inPlace := ["internal/reflectlite.ValueOf", "(internal/reflectlite.Value).Type", "(internal/reflectlite.Value).IsNil", "internal/reflectlite.TypeOf", "(internal/reflectlite.Value).Elem", "(internal/reflectlite.Value).Set"], unfollowed := true, recurses := true, named := ["loop.example/g00368/impl.errWrong", "loop.example/g00368/impl.errForm", "loop.example/g00368/impl.errFull", "loop.example/g00368/impl.errClock", "errors.errorType", "loop.example/g00368/impl.errNot"], ifaces := true, plainKeys := false, apart := false, laid := [("errors.errorType", laid_errors_errorType), ("loop.example/g00368/impl.errWrong", laid_loop_example_g00368_impl_errWrong), ("loop.example/g00368/impl.errForm", laid_loop_example_g00368_impl_errForm), ("loop.example/g00368/impl.errFull", laid_loop_example_g00368_impl_errFull), ("loop.example/g00368/impl.errClock", laid_loop_example_g00368_impl_errClock), ("loop.example/g00368/impl.errNot", laid_loop_example_g00368_impl_errNot)] }
def FnReceivedSaid : Prop := fnReceivedRow.holds Tryz.pinned (OpenSpec.ofChange fnReceivedSpec)

/-- ITS FALSE NEIGHBOUR: 'it returns false'. Refute it at one input. -/
def fnReceivedWrong : ChangeSpec := { name := "fnReceived", vars := ["loop.example/g00368/impl.errWrong", "loop.example/g00368/impl.errForm", "loop.example/g00368/impl.errFull", "loop.example/g00368/impl.errClock", "loop.example/g00368/impl.errNot"], fn := fun _ => fun
  | [d, g1, g2, g3, g4, g5] => { results := [.lit (.bool false)], args := [d], vars := [g1, g2, g3, g4, g5] }
  | _ => none }
def FnReceivedWrongFalsely : Prop := fnReceivedRow.holds Tryz.pinned (OpenSpec.ofChange fnReceivedWrong)

/-- 'laws.FnSameOps': WHATEVER THE INPUT: true; the input reads as it did. -/
def fnSameOpsSpec : ChangeSpec := { name := "fnSameOps", vars := ["loop.example/g00368/impl.errWrong", "loop.example/g00368/impl.errForm", "loop.example/g00368/impl.errNot", "loop.example/g00368/impl.errClock", "loop.example/g00368/impl.errFull"], fn := fun _ => fun
  | [d, g1, g2, g3, g4, g5] => { results := [.lit (.bool true)], args := [d], vars := [g1, g2, g3, g4, g5] }
  | _ => none }
def fnSameOpsRow : OpenClaim := { program := "ytccendmoeelniaagreatdoor", sum := "e6b5e181ea0c6d15479a06d9fff5ce066c89d8527dde88bc29e4228993cdf774", func := "loop.example/g00368/laws.FnSameOps", spec := "fnSameOps", inPlace := ["internal/reflectlite.ValueOf", "(internal/reflectlite.Value).Type", "(internal/reflectlite.Value).IsNil", "internal/reflectlite.TypeOf", "(internal/reflectlite.Value).Elem", "(internal/reflectlite.Value).Set"], unfollowed := true, recurses := true, named := ["loop.example/g00368/impl.errWrong", "loop.example/g00368/impl.errForm", "loop.example/g00368/impl.errNot", "loop.example/g00368/impl.errClock", "loop.example/g00368/impl.errFull", "errors.errorType"], ifaces := true, plainKeys := false, apart := false, laid := [("errors.errorType", laid_errors_errorType), ("loop.example/g00368/impl.errWrong", laid_loop_example_g00368_impl_errWrong), ("loop.example/g00368/impl.errForm", laid_loop_example_g00368_impl_errForm), ("loop.example/g00368/impl.errFull", laid_loop_example_g00368_impl_errFull), ("loop.example/g00368/impl.errClock", laid_loop_example_g00368_impl_errClock), ("loop.example/g00368/impl.errNot", laid_loop_example_g00368_impl_errNot)] }
def FnSameOpsSaid : Prop := fnSameOpsRow.holds Tryz.pinned (OpenSpec.ofChange fnSameOpsSpec)

/-- ITS FALSE NEIGHBOUR: 'it returns false'. Refute it at one input. -/
def fnSameOpsWrong : ChangeSpec := { name := "fnSameOps", vars := ["loop.example/g00368/impl.errWrong", "loop.example/g00368/impl.errForm", "loop.example/g00368/impl.errNot", "loop.example/g00368/impl.errClock", "loop.example/g00368/impl.errFull"], fn := fun _ => fun
  | [d, g1, g2, g3, g4, g5] => { results := [.lit (.bool false)], args := [d], vars := [g1, g2, g3, g4, g5] }
  | _ => none }
def FnSameOpsWrongFalsely : Prop := fnSameOpsRow.holds Tryz.pinned (OpenSpec.ofChange fnSameOpsWrong)

/-- 'laws.FnExactIssued': WHATEVER THE INPUT: true; the input reads as it did. -/
def fnExactIssuedSpec : ChangeSpec := { name := "fnExactIssued", vars := ["loop.example/g00368/impl.errWrong", "loop.example/g00368/impl.errForm", "loop.example/g00368/impl.errNot", "loop.example/g00368/impl.errClock", "loop.example/g00368/impl.errFull"], fn := fun _ => fun
  | [d1, d2, d3, g1, g2, g3, g4, g5] => { results := [.lit (.bool true)], args := [d1, d2, d3], vars := [g1, g2, g3, g4, g5] }
  | _ => none }
def fnExactIssuedRow : OpenClaim := { program := "ytccendmoeelniaagreatdoor", sum := "e6b5e181ea0c6d15479a06d9fff5ce066c89d8527dde88bc29e4228993cdf774", func := "loop.example/g00368/laws.FnExactIssued", spec := "fnExactIssued", inPlace := ["internal/reflectlite.ValueOf", "(internal/reflectlite.Value).Type", "(internal/reflectlite.Value).IsNil", "internal/reflectlite.TypeOf", "(internal/reflectlite.Value).Elem", "(internal/reflectlite.Value).Set"], unfollowed := true, recurses := true, named := ["loop.example/g00368/impl.errWrong", "loop.example/g00368/impl.errForm", "loop.example/g00368/impl.errNot", "loop.example/g00368/impl.errClock", "loop.example/g00368/impl.errFull", "errors.errorType"], ifaces := true, plainKeys := false, apart := false, laid := [("errors.errorType", laid_errors_errorType), ("loop.example/g00368/impl.errWrong", laid_loop_example_g00368_impl_errWrong), ("loop.example/g00368/impl.errForm", laid_loop_example_g00368_impl_errForm), ("loop.example/g00368/impl.errFull", laid_loop_example_g00368_impl_errFull), ("loop.example/g00368/impl.errClock", laid_loop_example_g00368_impl_errClock), ("loop.example/g00368/impl.errNot", laid_loop_example_g00368_impl_errNot)] }
def FnExactIssuedSaid : Prop := fnExactIssuedRow.holds Tryz.pinned (OpenSpec.ofChange fnExactIssuedSpec)

/-- ITS FALSE NEIGHBOUR: 'it returns false'. Refute it at one input. -/
def fnExactIssuedWrong : ChangeSpec := { name := "fnExactIssued", vars := ["loop.example/g00368/impl.errWrong", "loop.example/g00368/impl.errForm", "loop.example/g00368/impl.errNot", "loop.example/g00368/impl.errClock", "loop.example/g00368/impl.errFull"], fn := fun _ => fun
  | [d1, d2, d3, g1, g2, g3, g4, g5] => { results := [.lit (.bool false)], args := [d1, d2, d3], vars := [g1, g2, g3, g4, g5] }
  | _ => none }
def FnExactIssuedWrongFalsely : Prop := fnExactIssuedRow.holds Tryz.pinned (OpenSpec.ofChange fnExactIssuedWrong)

/-- 'laws.FnExactReceived': WHATEVER THE INPUT: true; the input reads as it did. -/
def fnExactReceivedSpec : ChangeSpec := { name := "fnExactReceived", vars := ["loop.example/g00368/impl.errWrong", "loop.example/g00368/impl.errForm", "loop.example/g00368/impl.errFull", "loop.example/g00368/impl.errClock", "loop.example/g00368/impl.errNot"], fn := fun _ => fun
  | [d1, d2, d3, g1, g2, g3, g4, g5] => { results := [.lit (.bool true)], args := [d1, d2, d3], vars := [g1, g2, g3, g4, g5] }
  | _ => none }
def fnExactReceivedRow : OpenClaim := { program := "ytccendmoeelniaagreatdoor", sum := "e6b5e181ea0c6d15479a06d9fff5ce066c89d8527dde88bc29e4228993cdf774", func := "loop.example/g00368/laws.FnExactReceived", spec := "fnExactReceived", inPlace := ["internal/reflectlite.ValueOf", "(internal/reflectlite.Value).Type", "(internal/reflectlite.Value).IsNil", "internal/reflectlite.TypeOf", "(internal/reflectlite.Value).Elem", "(internal/reflectlite.Value).Set"], unfollowed := true, recurses := true, named := ["loop.example/g00368/impl.errWrong", "loop.example/g00368/impl.errForm", "loop.example/g00368/impl.errFull", "loop.example/g00368/impl.errClock", "errors.errorType", "loop.example/g00368/impl.errNot"], ifaces := true, plainKeys := false, apart := false, laid := [("errors.errorType", laid_errors_errorType), ("loop.example/g00368/impl.errWrong", laid_loop_example_g00368_impl_errWrong), ("loop.example/g00368/impl.errForm", laid_loop_example_g00368_impl_errForm), ("loop.example/g00368/impl.errFull", laid_loop_example_g00368_impl_errFull), ("loop.example/g00368/impl.errClock", laid_loop_example_g00368_impl_errClock), ("loop.example/g00368/impl.errNot", laid_loop_example_g00368_impl_errNot)] }
def FnExactReceivedSaid : Prop := fnExactReceivedRow.holds Tryz.pinned (OpenSpec.ofChange fnExactReceivedSpec)

/-- ITS FALSE NEIGHBOUR: 'it returns false'. Refute it at one input. -/
def fnExactReceivedWrong : ChangeSpec := { name := "fnExactReceived", vars := ["loop.example/g00368/impl.errWrong", "loop.example/g00368/impl.errForm", "loop.example/g00368/impl.errFull", "loop.example/g00368/impl.errClock", "loop.example/g00368/impl.errNot"], fn := fun _ => fun
  | [d1, d2, d3, g1, g2, g3, g4, g5] => { results := [.lit (.bool false)], args := [d1, d2, d3], vars := [g1, g2, g3, g4, g5] }
  | _ => none }
def FnExactReceivedWrongFalsely : Prop := fnExactReceivedRow.holds Tryz.pinned (OpenSpec.ofChange fnExactReceivedWrong)

/- THE SECOND FORM. 'bulk': how many values and letters a reading holds, each counted each time it is reached (what is shared counts as often as it is met; a slice's spare places count too). A statement '..UptoSaid' is the law's where the arguments, and the package variables that the reading takes, are together of bulk at most 1048576: NARROWER than '..Said'. Prove '..Said' where nothing that the law and all that it calls make is longer than what came in: it says more and counts as full. Else prove '..UptoSaid'. A law counts once. -/
mutual
def uptoBulk {H : Type} : DataW H → Nat
  | .lit (.string bytes) => bytes.length + 1
  | .lit _ => 1
  | .nil => 1
  | .ptr d => uptoBulk d + 1
  | .slice elems spare => uptoBulkAll elems + uptoBulkAll spare + 1
  | .agg parts => uptoBulkAll parts + 1
  | .iface _ d => uptoBulk d + 1
  | .map entries => uptoBulkEntries entries + 1
  | .held _ => 1
def uptoBulkAll {H : Type} : List (DataW H) → Nat
  | [] => 0
  | d :: r => uptoBulk d + uptoBulkAll r
def uptoBulkEntries {H : Type} : List (Lit × DataW H) → Nat
  | [] => 0
  | x :: r => uptoBulkEntry x + uptoBulkEntries r
def uptoBulkEntry {H : Type} : Lit × DataW H → Nat
  | (.string bytes, d) => bytes.length + uptoBulk d + 1
  | (_, d) => uptoBulk d + 1
 end
def uptoSmall : (H : Type) → List (DataW H) → Bool := fun _ ds => decide (uptoBulkAll ds ≤ 1048576)
def OpenSpec.upto (s : _root_.Go.ChangeSpec) : _root_.Go.OpenSpec := { _root_.Go.OpenSpec.ofChange s with cond := some uptoSmall }

/-- 'laws.FnIssued', WHERE WHAT IT READS IS OF BULK AT MOST 1048576: true; the input reads as it did. -/
def fnIssuedUptoRow : OpenClaim := { program := "ytccendmoeelniaagreatdoor", sum := "e6b5e181ea0c6d15479a06d9fff5ce066c89d8527dde88bc29e4228993cdf774", func := "loop.example/g00368/laws.FnIssued", spec := "fnIssued", inPlace := ["internal/reflectlite.ValueOf", "(internal/reflectlite.Value).Type", "(internal/reflectlite.Value).IsNil", "internal/reflectlite.TypeOf", "(internal/reflectlite.Value).Elem", "(internal/reflectlite.Value).Set"], unfollowed := true, recurses := true, named := ["loop.example/g00368/impl.errWrong", "loop.example/g00368/impl.errForm", "loop.example/g00368/impl.errNot", "loop.example/g00368/impl.errClock", "loop.example/g00368/impl.errFull", "errors.errorType"], ifaces := true, plainKeys := false, apart := false, laid := [("errors.errorType", laid_errors_errorType), ("loop.example/g00368/impl.errWrong", laid_loop_example_g00368_impl_errWrong), ("loop.example/g00368/impl.errForm", laid_loop_example_g00368_impl_errForm), ("loop.example/g00368/impl.errFull", laid_loop_example_g00368_impl_errFull), ("loop.example/g00368/impl.errClock", laid_loop_example_g00368_impl_errClock), ("loop.example/g00368/impl.errNot", laid_loop_example_g00368_impl_errNot)], narrowed := true }
def FnIssuedUptoSaid : Prop := fnIssuedUptoRow.holds Tryz.pinned (OpenSpec.upto fnIssuedSpec)

/-- 'laws.FnReceived', WHERE WHAT IT READS IS OF BULK AT MOST 1048576: true; the input reads as it did. -/
def fnReceivedUptoRow : OpenClaim := { program := "ytccendmoeelniaagreatdoor", sum := "e6b5e181ea0c6d15479a06d9fff5ce066c89d8527dde88bc29e4228993cdf774", func := "loop.example/g00368/laws.FnReceived", spec := "fnReceived", inPlace := ["internal/reflectlite.ValueOf", "(internal/reflectlite.Value).Type", "(internal/reflectlite.Value).IsNil", "internal/reflectlite.TypeOf", "(internal/reflectlite.Value).Elem", "(internal/reflectlite.Value).Set"], unfollowed := true, recurses := true, named := ["loop.example/g00368/impl.errWrong", "loop.example/g00368/impl.errForm", "loop.example/g00368/impl.errFull", "loop.example/g00368/impl.errClock", "errors.errorType", "loop.example/g00368/impl.errNot"], ifaces := true, plainKeys := false, apart := false, laid := [("errors.errorType", laid_errors_errorType), ("loop.example/g00368/impl.errWrong", laid_loop_example_g00368_impl_errWrong), ("loop.example/g00368/impl.errForm", laid_loop_example_g00368_impl_errForm), ("loop.example/g00368/impl.errFull", laid_loop_example_g00368_impl_errFull), ("loop.example/g00368/impl.errClock", laid_loop_example_g00368_impl_errClock), ("loop.example/g00368/impl.errNot", laid_loop_example_g00368_impl_errNot)], narrowed := true }
def FnReceivedUptoSaid : Prop := fnReceivedUptoRow.holds Tryz.pinned (OpenSpec.upto fnReceivedSpec)

/-- 'laws.FnSameOps', WHERE WHAT IT READS IS OF BULK AT MOST 1048576: true; the input reads as it did. -/
def fnSameOpsUptoRow : OpenClaim := { program := "ytccendmoeelniaagreatdoor", sum := "e6b5e181ea0c6d15479a06d9fff5ce066c89d8527dde88bc29e4228993cdf774", func := "loop.example/g00368/laws.FnSameOps", spec := "fnSameOps", inPlace := ["internal/reflectlite.ValueOf", "(internal/reflectlite.Value).Type", "(internal/reflectlite.Value).IsNil", "internal/reflectlite.TypeOf", "(internal/reflectlite.Value).Elem", "(internal/reflectlite.Value).Set"], unfollowed := true, recurses := true, named := ["loop.example/g00368/impl.errWrong", "loop.example/g00368/impl.errForm", "loop.example/g00368/impl.errNot", "loop.example/g00368/impl.errClock", "loop.example/g00368/impl.errFull", "errors.errorType"], ifaces := true, plainKeys := false, apart := false, laid := [("errors.errorType", laid_errors_errorType), ("loop.example/g00368/impl.errWrong", laid_loop_example_g00368_impl_errWrong), ("loop.example/g00368/impl.errForm", laid_loop_example_g00368_impl_errForm), ("loop.example/g00368/impl.errFull", laid_loop_example_g00368_impl_errFull), ("loop.example/g00368/impl.errClock", laid_loop_example_g00368_impl_errClock), ("loop.example/g00368/impl.errNot", laid_loop_example_g00368_impl_errNot)], narrowed := true }
def FnSameOpsUptoSaid : Prop := fnSameOpsUptoRow.holds Tryz.pinned (OpenSpec.upto fnSameOpsSpec)

/-- 'laws.FnExactIssued', WHERE WHAT IT READS IS OF BULK AT MOST 1048576: true; the input reads as it did. -/
def fnExactIssuedUptoRow : OpenClaim := { program := "ytccendmoeelniaagreatdoor", sum := "e6b5e181ea0c6d15479a06d9fff5ce066c89d8527dde88bc29e4228993cdf774", func := "loop.example/g00368/laws.FnExactIssued", spec := "fnExactIssued", inPlace := ["internal/reflectlite.ValueOf", "(internal/reflectlite.Value).Type", "(internal/reflectlite.Value).IsNil", "internal/reflectlite.TypeOf", "(internal/reflectlite.Value).Elem", "(internal/reflectlite.Value).Set"], unfollowed := true, recurses := true, named := ["loop.example/g00368/impl.errWrong", "loop.example/g00368/impl.errForm", "loop.example/g00368/impl.errNot", "loop.example/g00368/impl.errClock", "loop.example/g00368/impl.errFull", "errors.errorType"], ifaces := true, plainKeys := false, apart := false, laid := [("errors.errorType", laid_errors_errorType), ("loop.example/g00368/impl.errWrong", laid_loop_example_g00368_impl_errWrong), ("loop.example/g00368/impl.errForm", laid_loop_example_g00368_impl_errForm), ("loop.example/g00368/impl.errFull", laid_loop_example_g00368_impl_errFull), ("loop.example/g00368/impl.errClock", laid_loop_example_g00368_impl_errClock), ("loop.example/g00368/impl.errNot", laid_loop_example_g00368_impl_errNot)], narrowed := true }
def FnExactIssuedUptoSaid : Prop := fnExactIssuedUptoRow.holds Tryz.pinned (OpenSpec.upto fnExactIssuedSpec)

/-- 'laws.FnExactReceived', WHERE WHAT IT READS IS OF BULK AT MOST 1048576: true; the input reads as it did. -/
def fnExactReceivedUptoRow : OpenClaim := { program := "ytccendmoeelniaagreatdoor", sum := "e6b5e181ea0c6d15479a06d9fff5ce066c89d8527dde88bc29e4228993cdf774", func := "loop.example/g00368/laws.FnExactReceived", spec := "fnExactReceived", inPlace := ["internal/reflectlite.ValueOf", "(internal/reflectlite.Value).Type", "(internal/reflectlite.Value).IsNil", "internal/reflectlite.TypeOf", "(internal/reflectlite.Value).Elem", "(internal/reflectlite.Value).Set"], unfollowed := true, recurses := true, named := ["loop.example/g00368/impl.errWrong", "loop.example/g00368/impl.errForm", "loop.example/g00368/impl.errFull", "loop.example/g00368/impl.errClock", "errors.errorType", "loop.example/g00368/impl.errNot"], ifaces := true, plainKeys := false, apart := false, laid := [("errors.errorType", laid_errors_errorType), ("loop.example/g00368/impl.errWrong", laid_loop_example_g00368_impl_errWrong), ("loop.example/g00368/impl.errForm", laid_loop_example_g00368_impl_errForm), ("loop.example/g00368/impl.errFull", laid_loop_example_g00368_impl_errFull), ("loop.example/g00368/impl.errClock", laid_loop_example_g00368_impl_errClock), ("loop.example/g00368/impl.errNot", laid_loop_example_g00368_impl_errNot)], narrowed := true }
def FnExactReceivedUptoSaid : Prop := fnExactReceivedUptoRow.holds Tryz.pinned (OpenSpec.upto fnExactReceivedSpec)

end Rows
end Go.Proofs.YtccendmoeelniaaGreatDoor
