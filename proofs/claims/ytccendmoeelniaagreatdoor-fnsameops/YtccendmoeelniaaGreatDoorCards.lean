/-
  DERIVED. GIVEN WITH THE SEED: THE CARDS: each row of YtccendmoeelniaaGreatDoorRows.lean that lists a variable, with what it lists TIED to the program's text (the seventh form; the later family's looks); each row that meets fmt, with fmt's text TOLD by the authors' own Lean function (tested against real Go, not proved from fmt's source: count such statements apart). THE CARD IS WHAT COUNTS. Prove the row's statement (the work); the ties are given (YtccendmoeelniaaGreatDoorTie.lean); close each card by the builder's one call (the guide's Derived/Test/ToyasCard.lean, 'card_holds'). Laid BY PROGRAM, IN A SANDBOX (cutbox-door.mjs). By AI agents, Wed Nov 11 2026. No macro, syntax, notation, axiom, sorry.
-/
import Derived.Test.YtccendmoeelniaaGreatDoorRows
import GoSem.ClaimSeven
namespace Go.Proofs.YtccendmoeelniaaGreatDoor
namespace Rows

/-- THE TIED CARD OF 'laws.FnIssued'. -/
def fnIssuedCard : Claim7 := { stood := { row := fnIssuedRow, standIns := [], harness := (true, "d847580c0baf8cb44f53c281aef2f508ffd1520f54dc402e0f6ffdcf892a1bba"), looks := true }, kinds := [], alts := [], laidByText := true, laidKinds := [.handle, .sentinel, .sentinel, .sentinel, .sentinel, .sentinel], laidTests := true, laidLooks := .later }
def FnIssuedCardSaid : Prop := Claim7.holds Tryz.pinned (.plain (OpenSpec.ofChange fnIssuedSpec)) fnIssuedCard

/-- THE TIED CARD OF 'laws.FnReceived'. -/
def fnReceivedCard : Claim7 := { stood := { row := fnReceivedRow, standIns := [], harness := (true, "d847580c0baf8cb44f53c281aef2f508ffd1520f54dc402e0f6ffdcf892a1bba"), looks := true }, kinds := [], alts := [], laidByText := true, laidKinds := [.handle, .sentinel, .sentinel, .sentinel, .sentinel, .sentinel], laidTests := true, laidLooks := .later }
def FnReceivedCardSaid : Prop := Claim7.holds Tryz.pinned (.plain (OpenSpec.ofChange fnReceivedSpec)) fnReceivedCard

/-- THE TIED CARD OF 'laws.FnSameOps'. -/
def fnSameOpsCard : Claim7 := { stood := { row := fnSameOpsRow, standIns := [], harness := (true, "d847580c0baf8cb44f53c281aef2f508ffd1520f54dc402e0f6ffdcf892a1bba"), looks := true }, kinds := [], alts := [], laidByText := true, laidKinds := [.handle, .sentinel, .sentinel, .sentinel, .sentinel, .sentinel], laidTests := true, laidLooks := .later }
def FnSameOpsCardSaid : Prop := Claim7.holds Tryz.pinned (.plain (OpenSpec.ofChange fnSameOpsSpec)) fnSameOpsCard

/-- THE TIED CARD OF 'laws.FnExactIssued'. -/
def fnExactIssuedCard : Claim7 := { stood := { row := fnExactIssuedRow, standIns := [], harness := (true, "d847580c0baf8cb44f53c281aef2f508ffd1520f54dc402e0f6ffdcf892a1bba"), looks := true }, kinds := [], alts := [], laidByText := true, laidKinds := [.handle, .sentinel, .sentinel, .sentinel, .sentinel, .sentinel], laidTests := true, laidLooks := .later }
def FnExactIssuedCardSaid : Prop := Claim7.holds Tryz.pinned (.plain (OpenSpec.ofChange fnExactIssuedSpec)) fnExactIssuedCard

/-- THE TIED CARD OF 'laws.FnExactReceived'. -/
def fnExactReceivedCard : Claim7 := { stood := { row := fnExactReceivedRow, standIns := [], harness := (true, "d847580c0baf8cb44f53c281aef2f508ffd1520f54dc402e0f6ffdcf892a1bba"), looks := true }, kinds := [], alts := [], laidByText := true, laidKinds := [.handle, .sentinel, .sentinel, .sentinel, .sentinel, .sentinel], laidTests := true, laidLooks := .later }
def FnExactReceivedCardSaid : Prop := Claim7.holds Tryz.pinned (.plain (OpenSpec.ofChange fnExactReceivedSpec)) fnExactReceivedCard

/-- THE SECOND FORM's CARD OF 'laws.FnIssued'. -/
def fnIssuedUptoCard : Claim7 := { stood := { row := fnIssuedUptoRow, standIns := [], harness := (true, "d847580c0baf8cb44f53c281aef2f508ffd1520f54dc402e0f6ffdcf892a1bba"), looks := true }, kinds := [], alts := [], laidByText := true, laidKinds := [.handle, .sentinel, .sentinel, .sentinel, .sentinel, .sentinel], laidTests := true, laidLooks := .later }
def FnIssuedUptoCardSaid : Prop := Claim7.holds Tryz.pinned (.plain (OpenSpec.upto fnIssuedSpec)) fnIssuedUptoCard

/-- THE SECOND FORM's CARD OF 'laws.FnReceived'. -/
def fnReceivedUptoCard : Claim7 := { stood := { row := fnReceivedUptoRow, standIns := [], harness := (true, "d847580c0baf8cb44f53c281aef2f508ffd1520f54dc402e0f6ffdcf892a1bba"), looks := true }, kinds := [], alts := [], laidByText := true, laidKinds := [.handle, .sentinel, .sentinel, .sentinel, .sentinel, .sentinel], laidTests := true, laidLooks := .later }
def FnReceivedUptoCardSaid : Prop := Claim7.holds Tryz.pinned (.plain (OpenSpec.upto fnReceivedSpec)) fnReceivedUptoCard

/-- THE SECOND FORM's CARD OF 'laws.FnSameOps'. -/
def fnSameOpsUptoCard : Claim7 := { stood := { row := fnSameOpsUptoRow, standIns := [], harness := (true, "d847580c0baf8cb44f53c281aef2f508ffd1520f54dc402e0f6ffdcf892a1bba"), looks := true }, kinds := [], alts := [], laidByText := true, laidKinds := [.handle, .sentinel, .sentinel, .sentinel, .sentinel, .sentinel], laidTests := true, laidLooks := .later }
def FnSameOpsUptoCardSaid : Prop := Claim7.holds Tryz.pinned (.plain (OpenSpec.upto fnSameOpsSpec)) fnSameOpsUptoCard

/-- THE SECOND FORM's CARD OF 'laws.FnExactIssued'. -/
def fnExactIssuedUptoCard : Claim7 := { stood := { row := fnExactIssuedUptoRow, standIns := [], harness := (true, "d847580c0baf8cb44f53c281aef2f508ffd1520f54dc402e0f6ffdcf892a1bba"), looks := true }, kinds := [], alts := [], laidByText := true, laidKinds := [.handle, .sentinel, .sentinel, .sentinel, .sentinel, .sentinel], laidTests := true, laidLooks := .later }
def FnExactIssuedUptoCardSaid : Prop := Claim7.holds Tryz.pinned (.plain (OpenSpec.upto fnExactIssuedSpec)) fnExactIssuedUptoCard

/-- THE SECOND FORM's CARD OF 'laws.FnExactReceived'. -/
def fnExactReceivedUptoCard : Claim7 := { stood := { row := fnExactReceivedUptoRow, standIns := [], harness := (true, "d847580c0baf8cb44f53c281aef2f508ffd1520f54dc402e0f6ffdcf892a1bba"), looks := true }, kinds := [], alts := [], laidByText := true, laidKinds := [.handle, .sentinel, .sentinel, .sentinel, .sentinel, .sentinel], laidTests := true, laidLooks := .later }
def FnExactReceivedUptoCardSaid : Prop := Claim7.holds Tryz.pinned (.plain (OpenSpec.upto fnExactReceivedSpec)) fnExactReceivedUptoCard
end Rows
end Go.Proofs.YtccendmoeelniaaGreatDoor
