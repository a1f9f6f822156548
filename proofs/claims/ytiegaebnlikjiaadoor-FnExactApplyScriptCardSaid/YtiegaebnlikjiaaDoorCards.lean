/-
  DERIVED. GIVEN WITH THE SEED: THE CARDS: each row of YtiegaebnlikjiaaDoorRows.lean that lists a variable, with what it lists TIED to the program's text (the seventh form; the later family's looks); each row that meets fmt, with fmt's text TOLD by the authors' own Lean function (tested against real Go, not proved from fmt's source: count such statements apart). THE CARD IS WHAT COUNTS. Prove the row's statement (the work); the ties are given (YtiegaebnlikjiaaDoorTie.lean); close each card by the builder's one call (the guide's Derived/Test/ToyasCard.lean, 'card_holds'). Laid BY PROGRAM, IN A SANDBOX (cutbox-door.mjs). By AI agents, Wed Nov 11 2026. No macro, syntax, notation, axiom, sorry.
-/
import Derived.Test.YtiegaebnlikjiaaDoorRows
import GoSem.ClaimSeven
namespace Go.Proofs.YtiegaebnlikjiaaDoor
namespace Rows

/-- THE TIED CARD OF 'laws.FnEdits'. -/
def fnEditsCard : Claim7 := { stood := { row := fnEditsRow, standIns := [], harness := (true, "1df83a3f1d26bf30cb4139f0c80d2d7a11ae63b07e99ec695736b073466fdb5a"), looks := false }, kinds := [], alts := [], laidByText := true, laidKinds := [.data], laidTests := true, laidLooks := .later }
def FnEditsCardSaid : Prop := Claim7.holds Tryd.pinned (.plain (OpenSpec.ofChange fnEditsSpec)) fnEditsCard

/-- THE TIED CARD OF 'laws.FnExactTypingDistance'. -/
def fnExactTypingDistanceCard : Claim7 := { stood := { row := fnExactTypingDistanceRow, standIns := [], harness := (true, "1df83a3f1d26bf30cb4139f0c80d2d7a11ae63b07e99ec695736b073466fdb5a"), looks := false }, kinds := [], alts := [], laidByText := true, laidKinds := [.data], laidTests := true, laidLooks := .later }
def FnExactTypingDistanceCardSaid : Prop := Claim7.holds Tryd.pinned (.plain (OpenSpec.ofChange fnExactTypingDistanceSpec)) fnExactTypingDistanceCard

/-- THE TIED CARD OF 'laws.FnExactScriptOf'. -/
def fnExactScriptOfCard : Claim7 := { stood := { row := fnExactScriptOfRow, standIns := [], harness := (true, "1df83a3f1d26bf30cb4139f0c80d2d7a11ae63b07e99ec695736b073466fdb5a"), looks := false }, kinds := [], alts := [], laidByText := true, laidKinds := [.data], laidTests := true, laidLooks := .later }
def FnExactScriptOfCardSaid : Prop := Claim7.holds Tryd.pinned (.plain (OpenSpec.ofChange fnExactScriptOfSpec)) fnExactScriptOfCard

/-- THE TIED CARD OF 'laws.FnExactApplyScript'. -/
def fnExactApplyScriptCard : Claim7 := { stood := { row := fnExactApplyScriptRow, standIns := [], harness := (true, "1df83a3f1d26bf30cb4139f0c80d2d7a11ae63b07e99ec695736b073466fdb5a"), looks := false }, kinds := [], alts := [], laidByText := true, laidKinds := [.data], laidTests := true, laidLooks := .later }
def FnExactApplyScriptCardSaid : Prop := Claim7.holds Tryd.pinned (.plain (OpenSpec.ofChange fnExactApplyScriptSpec)) fnExactApplyScriptCard

/-- THE TIED CARD OF 'laws.FnExactLeastTyping'. -/
def fnExactLeastTypingCard : Claim7 := { stood := { row := fnExactLeastTypingRow, standIns := [], harness := (true, "1df83a3f1d26bf30cb4139f0c80d2d7a11ae63b07e99ec695736b073466fdb5a"), looks := false }, kinds := [], alts := [], laidByText := true, laidKinds := [.data], laidTests := true, laidLooks := .later }
def FnExactLeastTypingCardSaid : Prop := Claim7.holds Tryd.pinned (.plain (OpenSpec.ofChange fnExactLeastTypingSpec)) fnExactLeastTypingCard

/-- THE SECOND FORM's CARD OF 'laws.FnEdits'. -/
def fnEditsUptoCard : Claim7 := { stood := { row := fnEditsUptoRow, standIns := [], harness := (true, "1df83a3f1d26bf30cb4139f0c80d2d7a11ae63b07e99ec695736b073466fdb5a"), looks := false }, kinds := [], alts := [], laidByText := true, laidKinds := [.data], laidTests := true, laidLooks := .later }
def FnEditsUptoCardSaid : Prop := Claim7.holds Tryd.pinned (.plain (OpenSpec.upto fnEditsSpec)) fnEditsUptoCard

/-- THE SECOND FORM's CARD OF 'laws.FnExactTypingDistance'. -/
def fnExactTypingDistanceUptoCard : Claim7 := { stood := { row := fnExactTypingDistanceUptoRow, standIns := [], harness := (true, "1df83a3f1d26bf30cb4139f0c80d2d7a11ae63b07e99ec695736b073466fdb5a"), looks := false }, kinds := [], alts := [], laidByText := true, laidKinds := [.data], laidTests := true, laidLooks := .later }
def FnExactTypingDistanceUptoCardSaid : Prop := Claim7.holds Tryd.pinned (.plain (OpenSpec.upto fnExactTypingDistanceSpec)) fnExactTypingDistanceUptoCard

/-- THE SECOND FORM's CARD OF 'laws.FnExactScriptOf'. -/
def fnExactScriptOfUptoCard : Claim7 := { stood := { row := fnExactScriptOfUptoRow, standIns := [], harness := (true, "1df83a3f1d26bf30cb4139f0c80d2d7a11ae63b07e99ec695736b073466fdb5a"), looks := false }, kinds := [], alts := [], laidByText := true, laidKinds := [.data], laidTests := true, laidLooks := .later }
def FnExactScriptOfUptoCardSaid : Prop := Claim7.holds Tryd.pinned (.plain (OpenSpec.upto fnExactScriptOfSpec)) fnExactScriptOfUptoCard

/-- THE SECOND FORM's CARD OF 'laws.FnExactApplyScript'. -/
def fnExactApplyScriptUptoCard : Claim7 := { stood := { row := fnExactApplyScriptUptoRow, standIns := [], harness := (true, "1df83a3f1d26bf30cb4139f0c80d2d7a11ae63b07e99ec695736b073466fdb5a"), looks := false }, kinds := [], alts := [], laidByText := true, laidKinds := [.data], laidTests := true, laidLooks := .later }
def FnExactApplyScriptUptoCardSaid : Prop := Claim7.holds Tryd.pinned (.plain (OpenSpec.upto fnExactApplyScriptSpec)) fnExactApplyScriptUptoCard

/-- THE SECOND FORM's CARD OF 'laws.FnExactLeastTyping'. -/
def fnExactLeastTypingUptoCard : Claim7 := { stood := { row := fnExactLeastTypingUptoRow, standIns := [], harness := (true, "1df83a3f1d26bf30cb4139f0c80d2d7a11ae63b07e99ec695736b073466fdb5a"), looks := false }, kinds := [], alts := [], laidByText := true, laidKinds := [.data], laidTests := true, laidLooks := .later }
def FnExactLeastTypingUptoCardSaid : Prop := Claim7.holds Tryd.pinned (.plain (OpenSpec.upto fnExactLeastTypingSpec)) fnExactLeastTypingUptoCard
end Rows
end Go.Proofs.YtiegaebnlikjiaaDoor
