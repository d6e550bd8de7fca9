/-
  DERIVED. GIVEN WITH THE SEED: THE CARDS: each row of YtbhidjagmonnaaaGreatDoorRows.lean that lists a variable, with what it lists TIED to the program's text (the seventh form; the later family's looks); each row that meets fmt, with fmt's text TOLD by the authors' own Lean function (tested against real Go, not proved from fmt's source: count such statements apart). THE CARD IS WHAT COUNTS. Prove the row's statement (the work); the ties are given (YtbhidjagmonnaaaGreatDoorTie.lean); close each card by the builder's one call (the guide's Derived/Test/ToyasCard.lean, 'card_holds'). Laid BY PROGRAM, IN A SANDBOX (cutbox-door.mjs). By AI agents, Wed Nov 11 2026. No macro, syntax, notation, axiom, sorry.
-/
import Derived.Test.YtbhidjagmonnaaaGreatDoorRows
import GoSem.ClaimSeven
namespace Go.Proofs.YtbhidjagmonnaaaGreatDoor
namespace Rows

/-- THE TIED CARD OF 'laws.FnSegments'. -/
def fnSegmentsCard : Claim7 := { stood := { row := fnSegmentsRow, standIns := [], harness := (true, "fb5dfe0266bfcff00cd570500e22cc13f36fdb954310a2fe6eadeb6fecce0375"), looks := true }, kinds := [], alts := [], laidByText := true, laidKinds := [.data, .data, .data, .data, .pinned], laidTests := true, laidLooks := .later }
def FnSegmentsCardSaid : Prop := Claim7.holds Tryz.pinned (.plain (OpenSpec.ofChange fnSegmentsSpec)) fnSegmentsCard

/-- THE TIED CARD OF 'laws.FnRecovered'. -/
def fnRecoveredCard : Claim7 := { stood := { row := fnRecoveredRow, standIns := [], harness := (true, "fb5dfe0266bfcff00cd570500e22cc13f36fdb954310a2fe6eadeb6fecce0375"), looks := true }, kinds := [], alts := [], laidByText := true, laidKinds := [.data, .pinned], laidTests := true, laidLooks := .later }
def FnRecoveredCardSaid : Prop := Claim7.holds Tryz.pinned (.plain (OpenSpec.ofChange fnRecoveredSpec)) fnRecoveredCard

/-- THE TIED CARD OF 'laws.FnExactRecoveredFrom'. -/
def fnExactRecoveredFromCard : Claim7 := { stood := { row := fnExactRecoveredFromRow, standIns := [], harness := (true, "fb5dfe0266bfcff00cd570500e22cc13f36fdb954310a2fe6eadeb6fecce0375"), looks := true }, kinds := [], alts := [], laidByText := true, laidKinds := [.data, .pinned], laidTests := true, laidLooks := .later }
def FnExactRecoveredFromCardSaid : Prop := Claim7.holds Tryz.pinned (.plain (OpenSpec.ofChange fnExactRecoveredFromSpec)) fnExactRecoveredFromCard

/-- THE SECOND FORM's CARD OF 'laws.FnSegments'. -/
def fnSegmentsUptoCard : Claim7 := { stood := { row := fnSegmentsUptoRow, standIns := [], harness := (true, "fb5dfe0266bfcff00cd570500e22cc13f36fdb954310a2fe6eadeb6fecce0375"), looks := true }, kinds := [], alts := [], laidByText := true, laidKinds := [.data, .data, .data, .data, .pinned], laidTests := true, laidLooks := .later }
def FnSegmentsUptoCardSaid : Prop := Claim7.holds Tryz.pinned (.plain (OpenSpec.upto fnSegmentsSpec)) fnSegmentsUptoCard

/-- THE SECOND FORM's CARD OF 'laws.FnRecovered'. -/
def fnRecoveredUptoCard : Claim7 := { stood := { row := fnRecoveredUptoRow, standIns := [], harness := (true, "fb5dfe0266bfcff00cd570500e22cc13f36fdb954310a2fe6eadeb6fecce0375"), looks := true }, kinds := [], alts := [], laidByText := true, laidKinds := [.data, .pinned], laidTests := true, laidLooks := .later }
def FnRecoveredUptoCardSaid : Prop := Claim7.holds Tryz.pinned (.plain (OpenSpec.upto fnRecoveredSpec)) fnRecoveredUptoCard

/-- THE SECOND FORM's CARD OF 'laws.FnExactRecoveredFrom'. -/
def fnExactRecoveredFromUptoCard : Claim7 := { stood := { row := fnExactRecoveredFromUptoRow, standIns := [], harness := (true, "fb5dfe0266bfcff00cd570500e22cc13f36fdb954310a2fe6eadeb6fecce0375"), looks := true }, kinds := [], alts := [], laidByText := true, laidKinds := [.data, .pinned], laidTests := true, laidLooks := .later }
def FnExactRecoveredFromUptoCardSaid : Prop := Claim7.holds Tryz.pinned (.plain (OpenSpec.upto fnExactRecoveredFromSpec)) fnExactRecoveredFromUptoCard
end Rows
end Go.Proofs.YtbhidjagmonnaaaGreatDoor
