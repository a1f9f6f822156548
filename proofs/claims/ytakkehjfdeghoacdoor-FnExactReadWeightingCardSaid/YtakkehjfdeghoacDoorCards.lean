/-
  DERIVED. GIVEN WITH THE SEED: THE CARDS: each row of YtakkehjfdeghoacDoorRows.lean that lists a variable, with what it lists TIED to the program's text (the seventh form; the later family's looks); each row that meets fmt, with fmt's text TOLD by the authors' own Lean function (tested against real Go, not proved from fmt's source: count such statements apart). THE CARD IS WHAT COUNTS. Prove the row's statement (the work); the ties are given (YtakkehjfdeghoacDoorTie.lean); close each card by the builder's one call (the guide's Derived/Test/ToyasCard.lean, 'card_holds'). Laid BY PROGRAM, IN A SANDBOX (cutbox-door.mjs). By AI agents, Wed Nov 11 2026. No macro, syntax, notation, axiom, sorry.
-/
import Derived.Test.YtakkehjfdeghoacDoorRows
import GoSem.ClaimSeven
namespace Go.Proofs.YtakkehjfdeghoacDoor
namespace Rows

/-- THE TIED CARD OF 'laws.FnExactWeightingText'. -/
def fnExactWeightingTextCard : Claim7 := { stood := { row := fnExactWeightingTextRow, standIns := [], harness := (true, "20b589f6aa654ea4d51763f5f44e76b847d919850e4e8bae0aaa74143767b4f2"), looks := true }, kinds := [], alts := [], laidByText := true, laidKinds := [.data, .data, .data, .sentinel], laidTests := true, laidLooks := .later }
def FnExactWeightingTextCardSaid : Prop := Claim7.holds Tryd.pinned (.plain (OpenSpec.ofChange fnExactWeightingTextSpec)) fnExactWeightingTextCard

/-- THE TIED CARD OF 'laws.FnExactReadWeighting'. -/
def fnExactReadWeightingCard : Claim7 := { stood := { row := fnExactReadWeightingRow, standIns := [], harness := (true, "20b589f6aa654ea4d51763f5f44e76b847d919850e4e8bae0aaa74143767b4f2"), looks := true }, kinds := [], alts := [], laidByText := true, laidKinds := [.data, .data, .data, .data, .sentinel, .sentinel, .pinned], laidTests := true, laidLooks := .later }
def FnExactReadWeightingCardSaid : Prop := Claim7.holds Tryd.pinned (.plain (OpenSpec.ofChange fnExactReadWeightingSpec)) fnExactReadWeightingCard

/-- THE SECOND FORM's CARD OF 'laws.FnExactWeightingText'. -/
def fnExactWeightingTextUptoCard : Claim7 := { stood := { row := fnExactWeightingTextUptoRow, standIns := [], harness := (true, "20b589f6aa654ea4d51763f5f44e76b847d919850e4e8bae0aaa74143767b4f2"), looks := true }, kinds := [], alts := [], laidByText := true, laidKinds := [.data, .data, .data, .sentinel], laidTests := true, laidLooks := .later }
def FnExactWeightingTextUptoCardSaid : Prop := Claim7.holds Tryd.pinned (.plain (OpenSpec.upto fnExactWeightingTextSpec)) fnExactWeightingTextUptoCard

/-- THE SECOND FORM's CARD OF 'laws.FnExactReadWeighting'. -/
def fnExactReadWeightingUptoCard : Claim7 := { stood := { row := fnExactReadWeightingUptoRow, standIns := [], harness := (true, "20b589f6aa654ea4d51763f5f44e76b847d919850e4e8bae0aaa74143767b4f2"), looks := true }, kinds := [], alts := [], laidByText := true, laidKinds := [.data, .data, .data, .data, .sentinel, .sentinel, .pinned], laidTests := true, laidLooks := .later }
def FnExactReadWeightingUptoCardSaid : Prop := Claim7.holds Tryd.pinned (.plain (OpenSpec.upto fnExactReadWeightingSpec)) fnExactReadWeightingUptoCard
end Rows
end Go.Proofs.YtakkehjfdeghoacDoor
