/-
  DERIVED. GIVEN WITH THE SEED: THE CARDS: each row of YtfmlmgebomapjabDoorRows.lean that lists a variable, with what it lists TIED to the program's text (the seventh form; the later family's looks); each row that meets fmt, with fmt's text TOLD by the authors' own Lean function (tested against real Go, not proved from fmt's source: count such statements apart). THE CARD IS WHAT COUNTS. Prove the row's statement (the work); the ties are given (YtfmlmgebomapjabDoorTie.lean); close each card by the builder's one call (the guide's Derived/Test/ToyasCard.lean, 'card_holds'). Laid BY PROGRAM, IN A SANDBOX (cutbox-door.mjs). By AI agents, Wed Nov 11 2026. No macro, syntax, notation, axiom, sorry.
-/
import Derived.Test.YtfmlmgebomapjabDoorRows
import GoSem.ClaimSeven
namespace Go.Proofs.YtfmlmgebomapjabDoor
namespace Rows

/-- THE TIED CARD OF 'laws.FnExactUngroupWord'. -/
def fnExactUngroupWordCard : Claim7 := { stood := { row := fnExactUngroupWordRow, standIns := [], harness := (true, "0a5923dbf6a4b42cab6bd92045371a36897e34a4e35f4c231ea28fb345540873"), looks := false }, kinds := [], alts := [], laidByText := true, laidKinds := [.data, .pinned], laidTests := true, laidLooks := .later }
def FnExactUngroupWordCardSaid : Prop := Claim7.holds Tryd.pinned (.plain (OpenSpec.ofChange fnExactUngroupWordSpec)) fnExactUngroupWordCard

/-- THE SECOND FORM's CARD OF 'laws.FnExactUngroupWord'. -/
def fnExactUngroupWordUptoCard : Claim7 := { stood := { row := fnExactUngroupWordUptoRow, standIns := [], harness := (true, "0a5923dbf6a4b42cab6bd92045371a36897e34a4e35f4c231ea28fb345540873"), looks := false }, kinds := [], alts := [], laidByText := true, laidKinds := [.data, .pinned], laidTests := true, laidLooks := .later }
def FnExactUngroupWordUptoCardSaid : Prop := Claim7.holds Tryd.pinned (.plain (OpenSpec.upto fnExactUngroupWordSpec)) fnExactUngroupWordUptoCard
end Rows
end Go.Proofs.YtfmlmgebomapjabDoor
