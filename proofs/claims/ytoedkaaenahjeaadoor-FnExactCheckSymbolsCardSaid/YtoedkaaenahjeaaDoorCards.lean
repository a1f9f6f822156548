/-
  DERIVED. GIVEN WITH THE SEED: THE CARDS: each row of YtoedkaaenahjeaaDoorRows.lean that lists a variable, with what it lists TIED to the program's text (the seventh form; the later family's looks); each row that meets fmt, with fmt's text TOLD by the authors' own Lean function (tested against real Go, not proved from fmt's source: count such statements apart). THE CARD IS WHAT COUNTS. Prove the row's statement (the work); the ties are given (YtoedkaaenahjeaaDoorTie.lean); close each card by the builder's one call (the guide's Derived/Test/ToyasCard.lean, 'card_holds'). Laid BY PROGRAM, IN A SANDBOX (cutbox-door.mjs). By AI agents, Wed Nov 11 2026. No macro, syntax, notation, axiom, sorry.
-/
import Derived.Test.YtoedkaaenahjeaaDoorRows
import GoSem.ClaimSeven
namespace Go.Proofs.YtoedkaaenahjeaaDoor
namespace Rows

/-- THE TIED CARD OF 'laws.FnDistances'. -/
def fnDistancesCard : Claim7 := { stood := { row := fnDistancesRow, standIns := [], harness := (true, "0da98d6b0ae129c807dd87e46952b71028455ec9eae20383f86d548fd8f72203"), looks := false }, kinds := [], alts := [], laidByText := true, laidKinds := [.sentinel], laidTests := true, laidLooks := .later }
def FnDistancesCardSaid : Prop := Claim7.holds Tryd.pinned (.plain (OpenSpec.ofChange fnDistancesSpec)) fnDistancesCard

/-- THE TIED CARD OF 'laws.FnJoined'. -/
def fnJoinedCard : Claim7 := { stood := { row := fnJoinedRow, standIns := [], harness := (true, "0da98d6b0ae129c807dd87e46952b71028455ec9eae20383f86d548fd8f72203"), looks := false }, kinds := [], alts := [], laidByText := true, laidKinds := [.sentinel], laidTests := true, laidLooks := .later }
def FnJoinedCardSaid : Prop := Claim7.holds Tryd.pinned (.plain (OpenSpec.ofChange fnJoinedSpec)) fnJoinedCard

/-- THE TIED CARD OF 'laws.FnExactWordAt'. -/
def fnExactWordAtCard : Claim7 := { stood := { row := fnExactWordAtRow, standIns := [], harness := (true, "0da98d6b0ae129c807dd87e46952b71028455ec9eae20383f86d548fd8f72203"), looks := false }, kinds := [], alts := [], laidByText := true, laidKinds := [.sentinel], laidTests := true, laidLooks := .later }
def FnExactWordAtCardSaid : Prop := Claim7.holds Tryd.pinned (.plain (OpenSpec.ofChange fnExactWordAtSpec)) fnExactWordAtCard

/-- THE TIED CARD OF 'laws.FnExactCheckSymbols'. -/
def fnExactCheckSymbolsCard : Claim7 := { stood := { row := fnExactCheckSymbolsRow, standIns := [], harness := (true, "0da98d6b0ae129c807dd87e46952b71028455ec9eae20383f86d548fd8f72203"), looks := false }, kinds := [], alts := [], laidByText := true, laidKinds := [.sentinel], laidTests := true, laidLooks := .later }
def FnExactCheckSymbolsCardSaid : Prop := Claim7.holds Tryd.pinned (.plain (OpenSpec.ofChange fnExactCheckSymbolsSpec)) fnExactCheckSymbolsCard

/-- THE SECOND FORM's CARD OF 'laws.FnDistances'. -/
def fnDistancesUptoCard : Claim7 := { stood := { row := fnDistancesUptoRow, standIns := [], harness := (true, "0da98d6b0ae129c807dd87e46952b71028455ec9eae20383f86d548fd8f72203"), looks := false }, kinds := [], alts := [], laidByText := true, laidKinds := [.sentinel], laidTests := true, laidLooks := .later }
def FnDistancesUptoCardSaid : Prop := Claim7.holds Tryd.pinned (.plain (OpenSpec.upto fnDistancesSpec)) fnDistancesUptoCard

/-- THE SECOND FORM's CARD OF 'laws.FnJoined'. -/
def fnJoinedUptoCard : Claim7 := { stood := { row := fnJoinedUptoRow, standIns := [], harness := (true, "0da98d6b0ae129c807dd87e46952b71028455ec9eae20383f86d548fd8f72203"), looks := false }, kinds := [], alts := [], laidByText := true, laidKinds := [.sentinel], laidTests := true, laidLooks := .later }
def FnJoinedUptoCardSaid : Prop := Claim7.holds Tryd.pinned (.plain (OpenSpec.upto fnJoinedSpec)) fnJoinedUptoCard

/-- THE SECOND FORM's CARD OF 'laws.FnExactWordAt'. -/
def fnExactWordAtUptoCard : Claim7 := { stood := { row := fnExactWordAtUptoRow, standIns := [], harness := (true, "0da98d6b0ae129c807dd87e46952b71028455ec9eae20383f86d548fd8f72203"), looks := false }, kinds := [], alts := [], laidByText := true, laidKinds := [.sentinel], laidTests := true, laidLooks := .later }
def FnExactWordAtUptoCardSaid : Prop := Claim7.holds Tryd.pinned (.plain (OpenSpec.upto fnExactWordAtSpec)) fnExactWordAtUptoCard

/-- THE SECOND FORM's CARD OF 'laws.FnExactCheckSymbols'. -/
def fnExactCheckSymbolsUptoCard : Claim7 := { stood := { row := fnExactCheckSymbolsUptoRow, standIns := [], harness := (true, "0da98d6b0ae129c807dd87e46952b71028455ec9eae20383f86d548fd8f72203"), looks := false }, kinds := [], alts := [], laidByText := true, laidKinds := [.sentinel], laidTests := true, laidLooks := .later }
def FnExactCheckSymbolsUptoCardSaid : Prop := Claim7.holds Tryd.pinned (.plain (OpenSpec.upto fnExactCheckSymbolsSpec)) fnExactCheckSymbolsUptoCard
end Rows
end Go.Proofs.YtoedkaaenahjeaaDoor
