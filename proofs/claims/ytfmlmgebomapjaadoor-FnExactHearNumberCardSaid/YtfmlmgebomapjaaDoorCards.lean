/-
  DERIVED. GIVEN WITH THE SEED: THE CARDS: each row of YtfmlmgebomapjaaDoorRows.lean that lists a variable, with what it lists TIED to the program's text (the seventh form; the later family's looks); each row that meets fmt, with fmt's text TOLD by the authors' own Lean function (tested against real Go, not proved from fmt's source: count such statements apart). THE CARD IS WHAT COUNTS. Prove the row's statement (the work); the ties are given (YtfmlmgebomapjaaDoorTie.lean); close each card by the builder's one call (the guide's Derived/Test/ToyasCard.lean, 'card_holds'). Laid BY PROGRAM, IN A SANDBOX (cutbox-door.mjs). By AI agents, Wed Nov 11 2026. No macro, syntax, notation, axiom, sorry.
-/
import Derived.Test.YtfmlmgebomapjaaDoorRows
import GoSem.ClaimSeven
namespace Go.Proofs.YtfmlmgebomapjaaDoor
namespace Rows

/-- THE TIED CARD OF 'laws.FnExactScriptOf'. -/
def fnExactScriptOfCard : Claim7 := { stood := { row := fnExactScriptOfRow, standIns := [], harness := (true, "78c667f8f6892eae4923d583b23fc57a6232eff3389f7a29216a48153355328b"), looks := false }, kinds := [], alts := [], laidByText := true, laidKinds := [.data], laidTests := true, laidLooks := .later }
def FnExactScriptOfCardSaid : Prop := Claim7.holds Tryd.pinned (.plain (OpenSpec.ofChange fnExactScriptOfSpec)) fnExactScriptOfCard

/-- THE TIED CARD OF 'laws.FnExactValidLikeness'. -/
def fnExactValidLikenessCard : Claim7 := { stood := { row := fnExactValidLikenessRow, standIns := [], harness := (true, "78c667f8f6892eae4923d583b23fc57a6232eff3389f7a29216a48153355328b"), looks := false }, kinds := [], alts := [], laidByText := true, laidKinds := [.data], laidTests := true, laidLooks := .later }
def FnExactValidLikenessCardSaid : Prop := Claim7.holds Tryd.pinned (.plain (OpenSpec.ofChange fnExactValidLikenessSpec)) fnExactValidLikenessCard

/-- THE TIED CARD OF 'laws.FnExactAreAlike'. -/
def fnExactAreAlikeCard : Claim7 := { stood := { row := fnExactAreAlikeRow, standIns := [], harness := (true, "78c667f8f6892eae4923d583b23fc57a6232eff3389f7a29216a48153355328b"), looks := false }, kinds := [], alts := [], laidByText := true, laidKinds := [.data], laidTests := true, laidLooks := .later }
def FnExactAreAlikeCardSaid : Prop := Claim7.holds Tryd.pinned (.plain (OpenSpec.ofChange fnExactAreAlikeSpec)) fnExactAreAlikeCard

/-- THE TIED CARD OF 'laws.FnExactClearSymbols'. -/
def fnExactClearSymbolsCard : Claim7 := { stood := { row := fnExactClearSymbolsRow, standIns := [], harness := (true, "78c667f8f6892eae4923d583b23fc57a6232eff3389f7a29216a48153355328b"), looks := false }, kinds := [], alts := [], laidByText := true, laidKinds := [.data], laidTests := true, laidLooks := .later }
def FnExactClearSymbolsCardSaid : Prop := Claim7.holds Tryd.pinned (.plain (OpenSpec.ofChange fnExactClearSymbolsSpec)) fnExactClearSymbolsCard

/-- THE TIED CARD OF 'laws.FnExactIsClear'. -/
def fnExactIsClearCard : Claim7 := { stood := { row := fnExactIsClearRow, standIns := [], harness := (true, "78c667f8f6892eae4923d583b23fc57a6232eff3389f7a29216a48153355328b"), looks := false }, kinds := [], alts := [], laidByText := true, laidKinds := [.data], laidTests := true, laidLooks := .later }
def FnExactIsClearCardSaid : Prop := Claim7.holds Tryd.pinned (.plain (OpenSpec.ofChange fnExactIsClearSpec)) fnExactIsClearCard

/-- THE TIED CARD OF 'laws.FnExactFamiliesOf'. -/
def fnExactFamiliesOfCard : Claim7 := { stood := { row := fnExactFamiliesOfRow, standIns := [], harness := (true, "78c667f8f6892eae4923d583b23fc57a6232eff3389f7a29216a48153355328b"), looks := false }, kinds := [], alts := [], laidByText := true, laidKinds := [.data], laidTests := true, laidLooks := .later }
def FnExactFamiliesOfCardSaid : Prop := Claim7.holds Tryd.pinned (.plain (OpenSpec.ofChange fnExactFamiliesOfSpec)) fnExactFamiliesOfCard

/-- THE TIED CARD OF 'laws.FnExactFoldWord'. -/
def fnExactFoldWordCard : Claim7 := { stood := { row := fnExactFoldWordRow, standIns := [], harness := (true, "78c667f8f6892eae4923d583b23fc57a6232eff3389f7a29216a48153355328b"), looks := false }, kinds := [], alts := [], laidByText := true, laidKinds := [.data, .data, .pinned], laidTests := true, laidLooks := .later }
def FnExactFoldWordCardSaid : Prop := Claim7.holds Tryd.pinned (.plain (OpenSpec.ofChange fnExactFoldWordSpec)) fnExactFoldWordCard

/-- THE TIED CARD OF 'laws.FnExactHearNumber'. -/
def fnExactHearNumberCard : Claim7 := { stood := { row := fnExactHearNumberRow, standIns := [], harness := (true, "78c667f8f6892eae4923d583b23fc57a6232eff3389f7a29216a48153355328b"), looks := false }, kinds := [], alts := [], laidByText := true, laidKinds := [.data, .pinned], laidTests := true, laidLooks := .later }
def FnExactHearNumberCardSaid : Prop := Claim7.holds Tryd.pinned (.plain (OpenSpec.ofChange fnExactHearNumberSpec)) fnExactHearNumberCard

/-- THE SECOND FORM's CARD OF 'laws.FnExactScriptOf'. -/
def fnExactScriptOfUptoCard : Claim7 := { stood := { row := fnExactScriptOfUptoRow, standIns := [], harness := (true, "78c667f8f6892eae4923d583b23fc57a6232eff3389f7a29216a48153355328b"), looks := false }, kinds := [], alts := [], laidByText := true, laidKinds := [.data], laidTests := true, laidLooks := .later }
def FnExactScriptOfUptoCardSaid : Prop := Claim7.holds Tryd.pinned (.plain (OpenSpec.upto fnExactScriptOfSpec)) fnExactScriptOfUptoCard

/-- THE SECOND FORM's CARD OF 'laws.FnExactValidLikeness'. -/
def fnExactValidLikenessUptoCard : Claim7 := { stood := { row := fnExactValidLikenessUptoRow, standIns := [], harness := (true, "78c667f8f6892eae4923d583b23fc57a6232eff3389f7a29216a48153355328b"), looks := false }, kinds := [], alts := [], laidByText := true, laidKinds := [.data], laidTests := true, laidLooks := .later }
def FnExactValidLikenessUptoCardSaid : Prop := Claim7.holds Tryd.pinned (.plain (OpenSpec.upto fnExactValidLikenessSpec)) fnExactValidLikenessUptoCard

/-- THE SECOND FORM's CARD OF 'laws.FnExactAreAlike'. -/
def fnExactAreAlikeUptoCard : Claim7 := { stood := { row := fnExactAreAlikeUptoRow, standIns := [], harness := (true, "78c667f8f6892eae4923d583b23fc57a6232eff3389f7a29216a48153355328b"), looks := false }, kinds := [], alts := [], laidByText := true, laidKinds := [.data], laidTests := true, laidLooks := .later }
def FnExactAreAlikeUptoCardSaid : Prop := Claim7.holds Tryd.pinned (.plain (OpenSpec.upto fnExactAreAlikeSpec)) fnExactAreAlikeUptoCard

/-- THE SECOND FORM's CARD OF 'laws.FnExactClearSymbols'. -/
def fnExactClearSymbolsUptoCard : Claim7 := { stood := { row := fnExactClearSymbolsUptoRow, standIns := [], harness := (true, "78c667f8f6892eae4923d583b23fc57a6232eff3389f7a29216a48153355328b"), looks := false }, kinds := [], alts := [], laidByText := true, laidKinds := [.data], laidTests := true, laidLooks := .later }
def FnExactClearSymbolsUptoCardSaid : Prop := Claim7.holds Tryd.pinned (.plain (OpenSpec.upto fnExactClearSymbolsSpec)) fnExactClearSymbolsUptoCard

/-- THE SECOND FORM's CARD OF 'laws.FnExactIsClear'. -/
def fnExactIsClearUptoCard : Claim7 := { stood := { row := fnExactIsClearUptoRow, standIns := [], harness := (true, "78c667f8f6892eae4923d583b23fc57a6232eff3389f7a29216a48153355328b"), looks := false }, kinds := [], alts := [], laidByText := true, laidKinds := [.data], laidTests := true, laidLooks := .later }
def FnExactIsClearUptoCardSaid : Prop := Claim7.holds Tryd.pinned (.plain (OpenSpec.upto fnExactIsClearSpec)) fnExactIsClearUptoCard

/-- THE SECOND FORM's CARD OF 'laws.FnExactFamiliesOf'. -/
def fnExactFamiliesOfUptoCard : Claim7 := { stood := { row := fnExactFamiliesOfUptoRow, standIns := [], harness := (true, "78c667f8f6892eae4923d583b23fc57a6232eff3389f7a29216a48153355328b"), looks := false }, kinds := [], alts := [], laidByText := true, laidKinds := [.data], laidTests := true, laidLooks := .later }
def FnExactFamiliesOfUptoCardSaid : Prop := Claim7.holds Tryd.pinned (.plain (OpenSpec.upto fnExactFamiliesOfSpec)) fnExactFamiliesOfUptoCard

/-- THE SECOND FORM's CARD OF 'laws.FnExactFoldWord'. -/
def fnExactFoldWordUptoCard : Claim7 := { stood := { row := fnExactFoldWordUptoRow, standIns := [], harness := (true, "78c667f8f6892eae4923d583b23fc57a6232eff3389f7a29216a48153355328b"), looks := false }, kinds := [], alts := [], laidByText := true, laidKinds := [.data, .data, .pinned], laidTests := true, laidLooks := .later }
def FnExactFoldWordUptoCardSaid : Prop := Claim7.holds Tryd.pinned (.plain (OpenSpec.upto fnExactFoldWordSpec)) fnExactFoldWordUptoCard

/-- THE SECOND FORM's CARD OF 'laws.FnExactHearNumber'. -/
def fnExactHearNumberUptoCard : Claim7 := { stood := { row := fnExactHearNumberUptoRow, standIns := [], harness := (true, "78c667f8f6892eae4923d583b23fc57a6232eff3389f7a29216a48153355328b"), looks := false }, kinds := [], alts := [], laidByText := true, laidKinds := [.data, .pinned], laidTests := true, laidLooks := .later }
def FnExactHearNumberUptoCardSaid : Prop := Claim7.holds Tryd.pinned (.plain (OpenSpec.upto fnExactHearNumberSpec)) fnExactHearNumberUptoCard
end Rows
end Go.Proofs.YtfmlmgebomapjaaDoor
