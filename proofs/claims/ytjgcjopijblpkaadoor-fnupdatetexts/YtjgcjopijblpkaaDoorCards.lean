/-
  DERIVED. GIVEN WITH THE SEED: THE CARDS: each row of YtjgcjopijblpkaaDoorRows.lean that lists a variable, with what it lists TIED to the program's text (the seventh form; the later family's looks); each row that meets fmt, with fmt's text TOLD by the authors' own Lean function (tested against real Go, not proved from fmt's source: count such statements apart). THE CARD IS WHAT COUNTS. Prove the row's statement (the work); the ties are given (YtjgcjopijblpkaaDoorTie.lean); close each card by the builder's one call (the guide's Derived/Test/ToyasCard.lean, 'card_holds'). Laid BY PROGRAM, IN A SANDBOX (cutbox-door.mjs). By AI agents, Wed Nov 11 2026. No macro, syntax, notation, axiom, sorry.
-/
import Derived.Test.YtjgcjopijblpkaaDoorRows
import GoSem.ClaimSeven
namespace Go.Proofs.YtjgcjopijblpkaaDoor
namespace Rows

/-- THE TIED CARD OF 'laws.FnUpdateTexts'. -/
def fnUpdateTextsCard : Claim7 := { stood := { row := fnUpdateTextsRow, standIns := [], harness := (true, "c6af120a7bbcce473cf4f4960bd49cdc13718dfeedafa9d4aa841a82a0c18a08"), looks := true }, kinds := [], alts := [], laidByText := true, laidKinds := [.data, .data, .data, .data, .pinned], laidTests := true, laidLooks := .later }
def FnUpdateTextsCardSaid : Prop := Claim7.holds Tryd.pinned (.plain (OpenSpec.ofChange fnUpdateTextsSpec)) fnUpdateTextsCard

/-- THE TIED CARD OF 'laws.FnExactUpdateText'. -/
def fnExactUpdateTextCard : Claim7 := { stood := { row := fnExactUpdateTextRow, standIns := [], harness := (true, "c6af120a7bbcce473cf4f4960bd49cdc13718dfeedafa9d4aa841a82a0c18a08"), looks := true }, kinds := [], alts := [], laidByText := true, laidKinds := [.data, .data, .data], laidTests := true, laidLooks := .later }
def FnExactUpdateTextCardSaid : Prop := Claim7.holds Tryd.pinned (.plain (OpenSpec.ofChange fnExactUpdateTextSpec)) fnExactUpdateTextCard

/-- THE TIED CARD OF 'laws.FnExactReadUpdate'. -/
def fnExactReadUpdateCard : Claim7 := { stood := { row := fnExactReadUpdateRow, standIns := [], harness := (true, "c6af120a7bbcce473cf4f4960bd49cdc13718dfeedafa9d4aa841a82a0c18a08"), looks := true }, kinds := [], alts := [], laidByText := true, laidKinds := [.data, .pinned], laidTests := true, laidLooks := .later }
def FnExactReadUpdateCardSaid : Prop := Claim7.holds Tryd.pinned (.plain (OpenSpec.ofChange fnExactReadUpdateSpec)) fnExactReadUpdateCard

/-- THE TIED CARD OF 'laws.FnExactSegmentOf'. -/
def fnExactSegmentOfCard : Claim7 := { stood := { row := fnExactSegmentOfRow, standIns := [], harness := (true, "c6af120a7bbcce473cf4f4960bd49cdc13718dfeedafa9d4aa841a82a0c18a08"), looks := true }, kinds := [], alts := [], laidByText := true, laidKinds := [.data, .data, .data], laidTests := true, laidLooks := .later }
def FnExactSegmentOfCardSaid : Prop := Claim7.holds Tryd.pinned (.plain (OpenSpec.ofChange fnExactSegmentOfSpec)) fnExactSegmentOfCard

/-- THE SECOND FORM's CARD OF 'laws.FnUpdateTexts'. -/
def fnUpdateTextsUptoCard : Claim7 := { stood := { row := fnUpdateTextsUptoRow, standIns := [], harness := (true, "c6af120a7bbcce473cf4f4960bd49cdc13718dfeedafa9d4aa841a82a0c18a08"), looks := true }, kinds := [], alts := [], laidByText := true, laidKinds := [.data, .data, .data, .data, .pinned], laidTests := true, laidLooks := .later }
def FnUpdateTextsUptoCardSaid : Prop := Claim7.holds Tryd.pinned (.plain (OpenSpec.upto fnUpdateTextsSpec)) fnUpdateTextsUptoCard

/-- THE SECOND FORM's CARD OF 'laws.FnExactUpdateText'. -/
def fnExactUpdateTextUptoCard : Claim7 := { stood := { row := fnExactUpdateTextUptoRow, standIns := [], harness := (true, "c6af120a7bbcce473cf4f4960bd49cdc13718dfeedafa9d4aa841a82a0c18a08"), looks := true }, kinds := [], alts := [], laidByText := true, laidKinds := [.data, .data, .data], laidTests := true, laidLooks := .later }
def FnExactUpdateTextUptoCardSaid : Prop := Claim7.holds Tryd.pinned (.plain (OpenSpec.upto fnExactUpdateTextSpec)) fnExactUpdateTextUptoCard

/-- THE SECOND FORM's CARD OF 'laws.FnExactReadUpdate'. -/
def fnExactReadUpdateUptoCard : Claim7 := { stood := { row := fnExactReadUpdateUptoRow, standIns := [], harness := (true, "c6af120a7bbcce473cf4f4960bd49cdc13718dfeedafa9d4aa841a82a0c18a08"), looks := true }, kinds := [], alts := [], laidByText := true, laidKinds := [.data, .pinned], laidTests := true, laidLooks := .later }
def FnExactReadUpdateUptoCardSaid : Prop := Claim7.holds Tryd.pinned (.plain (OpenSpec.upto fnExactReadUpdateSpec)) fnExactReadUpdateUptoCard

/-- THE SECOND FORM's CARD OF 'laws.FnExactSegmentOf'. -/
def fnExactSegmentOfUptoCard : Claim7 := { stood := { row := fnExactSegmentOfUptoRow, standIns := [], harness := (true, "c6af120a7bbcce473cf4f4960bd49cdc13718dfeedafa9d4aa841a82a0c18a08"), looks := true }, kinds := [], alts := [], laidByText := true, laidKinds := [.data, .data, .data], laidTests := true, laidLooks := .later }
def FnExactSegmentOfUptoCardSaid : Prop := Claim7.holds Tryd.pinned (.plain (OpenSpec.upto fnExactSegmentOfSpec)) fnExactSegmentOfUptoCard
end Rows
end Go.Proofs.YtjgcjopijblpkaaDoor
