/-
  NARROWER THAN 'FOR EVERY INPUT', by the rows' own cells (each row's printed sentence says how): FnExactScriptOf: laid · FnExactValidLikeness: laid · FnExactAreAlike: laid · FnExactClearSymbols: laid · FnExactIsClear: laid · FnExactFamiliesOf: laid · FnExactFoldWord: laid · FnExactHearNumber: laid.
  DERIVED. THE GIVEN ROWS OF THIS SEAT. 8 by the template 'for every input the law returns true; each argument reads behind the call as it read before'; 0 by the template 'total and deterministic' (their statements: YtfmlmgebomapjaaDoorTotals.lean).
  GIVEN WITH THE SEED: the statements are not yours to turn. If you find one false, say at which input.
  Laid BY PROGRAM, IN A SANDBOX (cutbox-rows.mjs): the forced cells as the released guide's own fill.sh prints them over the translation 1d5dd936fb016c10… (all of the seat's roots in one cut). By AI agents, Wed Nov 11 2026. No macro, syntax, notation, axiom, sorry.
-/
import Derived.Test.YtfmlmgebomapjaaDoorChecked
import GoSem.PinnedTables
import GoSem.Claim
import GoSem.ClaimJoined
import GoSem.ClaimMapViews
import Derived.JoinedTies
import Derived.KernelRfl
namespace Go.Proofs.YtfmlmgebomapjaaDoor
/- THE CELL 'sum', in the pinned program and in every row, IS THE sha256 OF THE DUMP (.gsa) THAT YtfmlmgebomapjaaDoorProg.lean LOADS. Nothing in Lean hashes anything: it is a label: what it is worth is what the hold of that sum in a sandbox is worth. -/
noncomputable def Tryd.pinned : Pinned := { name := "ytfmlmgebomapjaadoor", sum := "1d5dd936fb016c1068bfbd22c8ab803e8aeb1cf61ce88f2a663814994fdae50c", checked := Tryd.checked }
namespace Rows
def none {H : Type} : Left H := { results := [], args := [] }

/- WHAT THE LISTED PACKAGE-LEVEL VARIABLES READ AS WHEN THE CALL BEGINS. Each datum BY PROGRAM (the guide's laid-datum.mjs) off the statement by which the dump's own 'gosem.cut.vars' lays the variable. In a bare row this is a premise. The card (YtfmlmgebomapjaaDoorCards.lean) ties it to the program's text. -/
def laid_loop_example_g01130_impl_moves {H : Type} : DataW H := .agg [.agg [.lit (.int .i32 61), .lit (.int .i64 0), .lit (.int .i64 1), .lit (.int .i64 1)], .agg [.lit (.int .i32 68), .lit (.int .i64 1), .lit (.int .i64 1), .lit (.int .i64 0)], .agg [.lit (.int .i32 73), .lit (.int .i64 1), .lit (.int .i64 0), .lit (.int .i64 1)], .agg [.lit (.int .i32 83), .lit (.int .i64 1), .lit (.int .i64 1), .lit (.int .i64 1)], .agg [.lit (.int .i32 88), .lit (.int .i64 1), .lit (.int .i64 2), .lit (.int .i64 2)]]
def laid_math_bits_deBruijn64tab {H : Type} : DataW H := .agg [.lit (.int .u8 0), .lit (.int .u8 1), .lit (.int .u8 56), .lit (.int .u8 2), .lit (.int .u8 57), .lit (.int .u8 49), .lit (.int .u8 28), .lit (.int .u8 3), .lit (.int .u8 61), .lit (.int .u8 58), .lit (.int .u8 42), .lit (.int .u8 50), .lit (.int .u8 38), .lit (.int .u8 29), .lit (.int .u8 17), .lit (.int .u8 4), .lit (.int .u8 62), .lit (.int .u8 47), .lit (.int .u8 59), .lit (.int .u8 36), .lit (.int .u8 45), .lit (.int .u8 43), .lit (.int .u8 51), .lit (.int .u8 22), .lit (.int .u8 53), .lit (.int .u8 39), .lit (.int .u8 33), .lit (.int .u8 30), .lit (.int .u8 24), .lit (.int .u8 18), .lit (.int .u8 12), .lit (.int .u8 5), .lit (.int .u8 63), .lit (.int .u8 55), .lit (.int .u8 48), .lit (.int .u8 27), .lit (.int .u8 60), .lit (.int .u8 41), .lit (.int .u8 37), .lit (.int .u8 16), .lit (.int .u8 46), .lit (.int .u8 35), .lit (.int .u8 44), .lit (.int .u8 21), .lit (.int .u8 52), .lit (.int .u8 32), .lit (.int .u8 23), .lit (.int .u8 11), .lit (.int .u8 54), .lit (.int .u8 26), .lit (.int .u8 40), .lit (.int .u8 15), .lit (.int .u8 34), .lit (.int .u8 20), .lit (.int .u8 31), .lit (.int .u8 10), .lit (.int .u8 25), .lit (.int .u8 14), .lit (.int .u8 19), .lit (.int .u8 9), .lit (.int .u8 13), .lit (.int .u8 8), .lit (.int .u8 7), .lit (.int .u8 6)]
def laid_unicode_utf8_acceptRanges {H : Type} : DataW H := .agg [.agg [.lit (.int .u8 128), .lit (.int .u8 191)], .agg [.lit (.int .u8 160), .lit (.int .u8 191)], .agg [.lit (.int .u8 128), .lit (.int .u8 159)], .agg [.lit (.int .u8 144), .lit (.int .u8 191)], .agg [.lit (.int .u8 128), .lit (.int .u8 143)], .agg [.lit (.int .u8 0), .lit (.int .u8 0)], .agg [.lit (.int .u8 0), .lit (.int .u8 0)], .agg [.lit (.int .u8 0), .lit (.int .u8 0)], .agg [.lit (.int .u8 0), .lit (.int .u8 0)], .agg [.lit (.int .u8 0), .lit (.int .u8 0)], .agg [.lit (.int .u8 0), .lit (.int .u8 0)], .agg [.lit (.int .u8 0), .lit (.int .u8 0)], .agg [.lit (.int .u8 0), .lit (.int .u8 0)], .agg [.lit (.int .u8 0), .lit (.int .u8 0)], .agg [.lit (.int .u8 0), .lit (.int .u8 0)], .agg [.lit (.int .u8 0), .lit (.int .u8 0)]]
/-- One of Go's own tables, pinned by name: the form's constant. -/
def laid_unicode_utf8_first : DataW Unit := Go.Pinned.utf8First

/-- 'laws.FnExactScriptOf': WHATEVER THE INPUT: true; the input reads as it did. -/
def fnExactScriptOfSpec : ChangeSpec := { name := "fnExactScriptOf", vars := ["loop.example/g01130/impl.moves"], fn := fun _ => fun
  | [d1, d2, g1] => { results := [.lit (.bool true)], args := [d1, d2], vars := [g1] }
  | _ => none }
def fnExactScriptOfRow : OpenClaim := { program := "ytfmlmgebomapjaadoor", sum := "1d5dd936fb016c1068bfbd22c8ab803e8aeb1cf61ce88f2a663814994fdae50c", func := "loop.example/g01130/laws.FnExactScriptOf", spec := "fnExactScriptOf", inPlace := ["internal/bytealg.IndexByteString", "internal/bytealg.IndexString", "internal/abi.NoEscape"], named := ["loop.example/g01130/impl.moves", "internal/bytealg.MaxLen"], apart := false, laid := [("loop.example/g01130/impl.moves", laid_loop_example_g01130_impl_moves)] }
def FnExactScriptOfSaid : Prop := fnExactScriptOfRow.holds Tryd.pinned (OpenSpec.ofChange fnExactScriptOfSpec)

/-- ITS FALSE NEIGHBOUR: 'it returns false'. Refute it at one input. -/
def fnExactScriptOfWrong : ChangeSpec := { name := "fnExactScriptOf", vars := ["loop.example/g01130/impl.moves"], fn := fun _ => fun
  | [d1, d2, g1] => { results := [.lit (.bool false)], args := [d1, d2], vars := [g1] }
  | _ => none }
def FnExactScriptOfWrongFalsely : Prop := fnExactScriptOfRow.holds Tryd.pinned (OpenSpec.ofChange fnExactScriptOfWrong)

/-- 'laws.FnExactValidLikeness': WHATEVER THE INPUT: true; the input reads as it did. -/
def fnExactValidLikenessSpec : ChangeSpec := { name := "fnExactValidLikeness", fn := fun _ => fun
  | [d] => { results := [.lit (.bool true)], args := [d] }
  | _ => none }
def fnExactValidLikenessRow : OpenClaim := { program := "ytfmlmgebomapjaadoor", sum := "1d5dd936fb016c1068bfbd22c8ab803e8aeb1cf61ce88f2a663814994fdae50c", func := "loop.example/g01130/laws.FnExactValidLikeness", spec := "fnExactValidLikeness", inPlace := ["internal/bytealg.IndexByteString", "internal/bytealg.IndexString"], unfollowed := true, recurses := true, named := ["math/bits.deBruijn64tab", "internal/bytealg.MaxLen"], apart := false, laid := [("math/bits.deBruijn64tab", laid_math_bits_deBruijn64tab)] }
def FnExactValidLikenessSaid : Prop := fnExactValidLikenessRow.holds Tryd.pinned (OpenSpec.ofChange fnExactValidLikenessSpec)

/-- ITS FALSE NEIGHBOUR: 'it returns false'. Refute it at one input. -/
def fnExactValidLikenessWrong : ChangeSpec := { name := "fnExactValidLikeness", fn := fun _ => fun
  | [d] => { results := [.lit (.bool false)], args := [d] }
  | _ => none }
def FnExactValidLikenessWrongFalsely : Prop := fnExactValidLikenessRow.holds Tryd.pinned (OpenSpec.ofChange fnExactValidLikenessWrong)

/-- 'laws.FnExactAreAlike': WHATEVER THE INPUT: true; the input reads as it did. -/
def fnExactAreAlikeSpec : ChangeSpec := { name := "fnExactAreAlike", fn := fun _ => fun
  | [d1, d2, d3] => { results := [.lit (.bool true)], args := [d1, d2, d3] }
  | _ => none }
def fnExactAreAlikeRow : OpenClaim := { program := "ytfmlmgebomapjaadoor", sum := "1d5dd936fb016c1068bfbd22c8ab803e8aeb1cf61ce88f2a663814994fdae50c", func := "loop.example/g01130/laws.FnExactAreAlike", spec := "fnExactAreAlike", inPlace := ["internal/bytealg.IndexByteString", "internal/bytealg.IndexString"], unfollowed := true, recurses := true, named := ["math/bits.deBruijn64tab", "internal/bytealg.MaxLen"], apart := false, laid := [("math/bits.deBruijn64tab", laid_math_bits_deBruijn64tab)] }
def FnExactAreAlikeSaid : Prop := fnExactAreAlikeRow.holds Tryd.pinned (OpenSpec.ofChange fnExactAreAlikeSpec)

/-- ITS FALSE NEIGHBOUR: 'it returns false'. Refute it at one input. -/
def fnExactAreAlikeWrong : ChangeSpec := { name := "fnExactAreAlike", fn := fun _ => fun
  | [d1, d2, d3] => { results := [.lit (.bool false)], args := [d1, d2, d3] }
  | _ => none }
def FnExactAreAlikeWrongFalsely : Prop := fnExactAreAlikeRow.holds Tryd.pinned (OpenSpec.ofChange fnExactAreAlikeWrong)

/-- 'laws.FnExactClearSymbols': WHATEVER THE INPUT: true; the input reads as it did. -/
def fnExactClearSymbolsSpec : ChangeSpec := { name := "fnExactClearSymbols", fn := fun _ => fun
  | [d] => { results := [.lit (.bool true)], args := [d] }
  | _ => none }
def fnExactClearSymbolsRow : OpenClaim := { program := "ytfmlmgebomapjaadoor", sum := "1d5dd936fb016c1068bfbd22c8ab803e8aeb1cf61ce88f2a663814994fdae50c", func := "loop.example/g01130/laws.FnExactClearSymbols", spec := "fnExactClearSymbols", inPlace := ["internal/bytealg.IndexByteString", "internal/bytealg.IndexString", "internal/abi.NoEscape"], unfollowed := true, recurses := true, named := ["math/bits.deBruijn64tab", "internal/bytealg.MaxLen"], apart := false, laid := [("math/bits.deBruijn64tab", laid_math_bits_deBruijn64tab)] }
def FnExactClearSymbolsSaid : Prop := fnExactClearSymbolsRow.holds Tryd.pinned (OpenSpec.ofChange fnExactClearSymbolsSpec)

/-- ITS FALSE NEIGHBOUR: 'it returns false'. Refute it at one input. -/
def fnExactClearSymbolsWrong : ChangeSpec := { name := "fnExactClearSymbols", fn := fun _ => fun
  | [d] => { results := [.lit (.bool false)], args := [d] }
  | _ => none }
def FnExactClearSymbolsWrongFalsely : Prop := fnExactClearSymbolsRow.holds Tryd.pinned (OpenSpec.ofChange fnExactClearSymbolsWrong)

/-- 'laws.FnExactIsClear': WHATEVER THE INPUT: true; the input reads as it did. -/
def fnExactIsClearSpec : ChangeSpec := { name := "fnExactIsClear", fn := fun _ => fun
  | [d1, d2] => { results := [.lit (.bool true)], args := [d1, d2] }
  | _ => none }
def fnExactIsClearRow : OpenClaim := { program := "ytfmlmgebomapjaadoor", sum := "1d5dd936fb016c1068bfbd22c8ab803e8aeb1cf61ce88f2a663814994fdae50c", func := "loop.example/g01130/laws.FnExactIsClear", spec := "fnExactIsClear", inPlace := ["internal/bytealg.IndexByteString", "internal/bytealg.IndexString"], unfollowed := true, recurses := true, named := ["math/bits.deBruijn64tab", "internal/bytealg.MaxLen"], apart := false, laid := [("math/bits.deBruijn64tab", laid_math_bits_deBruijn64tab)] }
def FnExactIsClearSaid : Prop := fnExactIsClearRow.holds Tryd.pinned (OpenSpec.ofChange fnExactIsClearSpec)

/-- ITS FALSE NEIGHBOUR: 'it returns false'. Refute it at one input. -/
def fnExactIsClearWrong : ChangeSpec := { name := "fnExactIsClear", fn := fun _ => fun
  | [d1, d2] => { results := [.lit (.bool false)], args := [d1, d2] }
  | _ => none }
def FnExactIsClearWrongFalsely : Prop := fnExactIsClearRow.holds Tryd.pinned (OpenSpec.ofChange fnExactIsClearWrong)

/-- 'laws.FnExactFamiliesOf': WHATEVER THE INPUT: true; the input reads as it did. -/
def fnExactFamiliesOfSpec : ChangeSpec := { name := "fnExactFamiliesOf", fn := fun _ => fun
  | [d] => { results := [.lit (.bool true)], args := [d] }
  | _ => none }
def fnExactFamiliesOfRow : OpenClaim := { program := "ytfmlmgebomapjaadoor", sum := "1d5dd936fb016c1068bfbd22c8ab803e8aeb1cf61ce88f2a663814994fdae50c", func := "loop.example/g01130/laws.FnExactFamiliesOf", spec := "fnExactFamiliesOf", inPlace := ["internal/bytealg.IndexByteString", "internal/bytealg.IndexString", "internal/abi.NoEscape"], unfollowed := true, recurses := true, named := ["math/bits.deBruijn64tab", "internal/bytealg.MaxLen"], apart := false, laid := [("math/bits.deBruijn64tab", laid_math_bits_deBruijn64tab)] }
def FnExactFamiliesOfSaid : Prop := fnExactFamiliesOfRow.holds Tryd.pinned (OpenSpec.ofChange fnExactFamiliesOfSpec)

/-- ITS FALSE NEIGHBOUR: 'it returns false'. Refute it at one input. -/
def fnExactFamiliesOfWrong : ChangeSpec := { name := "fnExactFamiliesOf", fn := fun _ => fun
  | [d] => { results := [.lit (.bool false)], args := [d] }
  | _ => none }
def FnExactFamiliesOfWrongFalsely : Prop := fnExactFamiliesOfRow.holds Tryd.pinned (OpenSpec.ofChange fnExactFamiliesOfWrong)

/-- 'laws.FnExactFoldWord': WHATEVER THE INPUT: true; the input reads as it did. -/
def fnExactFoldWordSpec : ChangeSpec := { name := "fnExactFoldWord", fn := fun _ => fun
  | [d1, d2] => { results := [.lit (.bool true)], args := [d1, d2] }
  | _ => none }
def fnExactFoldWordRow : OpenClaim := { program := "ytfmlmgebomapjaadoor", sum := "1d5dd936fb016c1068bfbd22c8ab803e8aeb1cf61ce88f2a663814994fdae50c", func := "loop.example/g01130/laws.FnExactFoldWord", spec := "fnExactFoldWord", inPlace := ["internal/bytealg.IndexByteString", "internal/bytealg.IndexString", "internal/abi.NoEscape", "internal/bytealg.MakeNoZero"], unfollowed := true, recurses := true, named := ["math/bits.deBruijn64tab", "unicode/utf8.first", "unicode/utf8.acceptRanges", "internal/bytealg.MaxLen"], apart := false, laid := [("math/bits.deBruijn64tab", laid_math_bits_deBruijn64tab), ("unicode/utf8.acceptRanges", laid_unicode_utf8_acceptRanges), ("unicode/utf8.first", laid_unicode_utf8_first)] }
def FnExactFoldWordSaid : Prop := fnExactFoldWordRow.holds Tryd.pinned (OpenSpec.ofChange fnExactFoldWordSpec)

/-- ITS FALSE NEIGHBOUR: 'it returns false'. Refute it at one input. -/
def fnExactFoldWordWrong : ChangeSpec := { name := "fnExactFoldWord", fn := fun _ => fun
  | [d1, d2] => { results := [.lit (.bool false)], args := [d1, d2] }
  | _ => none }
def FnExactFoldWordWrongFalsely : Prop := fnExactFoldWordRow.holds Tryd.pinned (OpenSpec.ofChange fnExactFoldWordWrong)

/-- 'laws.FnExactHearNumber': WHATEVER THE INPUT: true; the input reads as it did. -/
def fnExactHearNumberSpec : ChangeSpec := { name := "fnExactHearNumber", fn := fun _ => fun
  | [d1, d2] => { results := [.lit (.bool true)], args := [d1, d2] }
  | _ => none }
def fnExactHearNumberRow : OpenClaim := { program := "ytfmlmgebomapjaadoor", sum := "1d5dd936fb016c1068bfbd22c8ab803e8aeb1cf61ce88f2a663814994fdae50c", func := "loop.example/g01130/laws.FnExactHearNumber", spec := "fnExactHearNumber", inPlace := ["internal/bytealg.CountString", "internal/bytealg.IndexByteString", "internal/bytealg.IndexString"], named := ["unicode/utf8.first", "unicode/utf8.acceptRanges", "internal/bytealg.MaxLen"], apart := false, laid := [("unicode/utf8.acceptRanges", laid_unicode_utf8_acceptRanges), ("unicode/utf8.first", laid_unicode_utf8_first)] }
def FnExactHearNumberSaid : Prop := fnExactHearNumberRow.holds Tryd.pinned (OpenSpec.ofChange fnExactHearNumberSpec)

/-- ITS FALSE NEIGHBOUR: 'it returns false'. Refute it at one input. -/
def fnExactHearNumberWrong : ChangeSpec := { name := "fnExactHearNumber", fn := fun _ => fun
  | [d1, d2] => { results := [.lit (.bool false)], args := [d1, d2] }
  | _ => none }
def FnExactHearNumberWrongFalsely : Prop := fnExactHearNumberRow.holds Tryd.pinned (OpenSpec.ofChange fnExactHearNumberWrong)

/- THE SECOND FORM. 'bulk': how many values and letters a reading holds, each counted each time it is reached (what is shared counts as often as it is met; a slice's spare places count too). A statement '..UptoSaid' is the law's where the arguments, and the package variables that the reading takes, are together of bulk at most 1048576: NARROWER than '..Said'. Prove '..Said' where nothing that the law and all that it calls make is longer than what came in: it says more and counts as full. Else prove '..UptoSaid'. A law counts once. -/
mutual
def uptoBulk {H : Type} : DataW H → Nat
  | .lit (.string bytes) => bytes.length + 1
  | .lit _ => 1
  | .nil => 1
  | .ptr d => uptoBulk d + 1
  | .slice elems spare => uptoBulkAll elems + uptoBulkAll spare + 1
  | .agg parts => uptoBulkAll parts + 1
  | .iface _ d => uptoBulk d + 1
  | .map entries => uptoBulkEntries entries + 1
  | .held _ => 1
def uptoBulkAll {H : Type} : List (DataW H) → Nat
  | [] => 0
  | d :: r => uptoBulk d + uptoBulkAll r
def uptoBulkEntries {H : Type} : List (Lit × DataW H) → Nat
  | [] => 0
  | x :: r => uptoBulkEntry x + uptoBulkEntries r
def uptoBulkEntry {H : Type} : Lit × DataW H → Nat
  | (.string bytes, d) => bytes.length + uptoBulk d + 1
  | (_, d) => uptoBulk d + 1
 end
def uptoSmall : (H : Type) → List (DataW H) → Bool := fun _ ds => decide (uptoBulkAll ds ≤ 1048576)
def OpenSpec.upto (s : _root_.Go.ChangeSpec) : _root_.Go.OpenSpec := { _root_.Go.OpenSpec.ofChange s with cond := some uptoSmall }

/-- 'laws.FnExactScriptOf', WHERE WHAT IT READS IS OF BULK AT MOST 1048576: true; the input reads as it did. -/
def fnExactScriptOfUptoRow : OpenClaim := { program := "ytfmlmgebomapjaadoor", sum := "1d5dd936fb016c1068bfbd22c8ab803e8aeb1cf61ce88f2a663814994fdae50c", func := "loop.example/g01130/laws.FnExactScriptOf", spec := "fnExactScriptOf", inPlace := ["internal/bytealg.IndexByteString", "internal/bytealg.IndexString", "internal/abi.NoEscape"], named := ["loop.example/g01130/impl.moves", "internal/bytealg.MaxLen"], apart := false, laid := [("loop.example/g01130/impl.moves", laid_loop_example_g01130_impl_moves)], narrowed := true }
def FnExactScriptOfUptoSaid : Prop := fnExactScriptOfUptoRow.holds Tryd.pinned (OpenSpec.upto fnExactScriptOfSpec)

/-- 'laws.FnExactValidLikeness', WHERE WHAT IT READS IS OF BULK AT MOST 1048576: true; the input reads as it did. -/
def fnExactValidLikenessUptoRow : OpenClaim := { program := "ytfmlmgebomapjaadoor", sum := "1d5dd936fb016c1068bfbd22c8ab803e8aeb1cf61ce88f2a663814994fdae50c", func := "loop.example/g01130/laws.FnExactValidLikeness", spec := "fnExactValidLikeness", inPlace := ["internal/bytealg.IndexByteString", "internal/bytealg.IndexString"], unfollowed := true, recurses := true, named := ["math/bits.deBruijn64tab", "internal/bytealg.MaxLen"], apart := false, laid := [("math/bits.deBruijn64tab", laid_math_bits_deBruijn64tab)], narrowed := true }
def FnExactValidLikenessUptoSaid : Prop := fnExactValidLikenessUptoRow.holds Tryd.pinned (OpenSpec.upto fnExactValidLikenessSpec)

/-- 'laws.FnExactAreAlike', WHERE WHAT IT READS IS OF BULK AT MOST 1048576: true; the input reads as it did. -/
def fnExactAreAlikeUptoRow : OpenClaim := { program := "ytfmlmgebomapjaadoor", sum := "1d5dd936fb016c1068bfbd22c8ab803e8aeb1cf61ce88f2a663814994fdae50c", func := "loop.example/g01130/laws.FnExactAreAlike", spec := "fnExactAreAlike", inPlace := ["internal/bytealg.IndexByteString", "internal/bytealg.IndexString"], unfollowed := true, recurses := true, named := ["math/bits.deBruijn64tab", "internal/bytealg.MaxLen"], apart := false, laid := [("math/bits.deBruijn64tab", laid_math_bits_deBruijn64tab)], narrowed := true }
def FnExactAreAlikeUptoSaid : Prop := fnExactAreAlikeUptoRow.holds Tryd.pinned (OpenSpec.upto fnExactAreAlikeSpec)

/-- 'laws.FnExactClearSymbols', WHERE WHAT IT READS IS OF BULK AT MOST 1048576: true; the input reads as it did. -/
def fnExactClearSymbolsUptoRow : OpenClaim := { program := "ytfmlmgebomapjaadoor", sum := "1d5dd936fb016c1068bfbd22c8ab803e8aeb1cf61ce88f2a663814994fdae50c", func := "loop.example/g01130/laws.FnExactClearSymbols", spec := "fnExactClearSymbols", inPlace := ["internal/bytealg.IndexByteString", "internal/bytealg.IndexString", "internal/abi.NoEscape"], unfollowed := true, recurses := true, named := ["math/bits.deBruijn64tab", "internal/bytealg.MaxLen"], apart := false, laid := [("math/bits.deBruijn64tab", laid_math_bits_deBruijn64tab)], narrowed := true }
def FnExactClearSymbolsUptoSaid : Prop := fnExactClearSymbolsUptoRow.holds Tryd.pinned (OpenSpec.upto fnExactClearSymbolsSpec)

/-- 'laws.FnExactIsClear', WHERE WHAT IT READS IS OF BULK AT MOST 1048576: true; the input reads as it did. -/
def fnExactIsClearUptoRow : OpenClaim := { program := "ytfmlmgebomapjaadoor", sum := "1d5dd936fb016c1068bfbd22c8ab803e8aeb1cf61ce88f2a663814994fdae50c", func := "loop.example/g01130/laws.FnExactIsClear", spec := "fnExactIsClear", inPlace := ["internal/bytealg.IndexByteString", "internal/bytealg.IndexString"], unfollowed := true, recurses := true, named := ["math/bits.deBruijn64tab", "internal/bytealg.MaxLen"], apart := false, laid := [("math/bits.deBruijn64tab", laid_math_bits_deBruijn64tab)], narrowed := true }
def FnExactIsClearUptoSaid : Prop := fnExactIsClearUptoRow.holds Tryd.pinned (OpenSpec.upto fnExactIsClearSpec)

/-- 'laws.FnExactFamiliesOf', WHERE WHAT IT READS IS OF BULK AT MOST 1048576: true; the input reads as it did. -/
def fnExactFamiliesOfUptoRow : OpenClaim := { program := "ytfmlmgebomapjaadoor", sum := "1d5dd936fb016c1068bfbd22c8ab803e8aeb1cf61ce88f2a663814994fdae50c", func := "loop.example/g01130/laws.FnExactFamiliesOf", spec := "fnExactFamiliesOf", inPlace := ["internal/bytealg.IndexByteString", "internal/bytealg.IndexString", "internal/abi.NoEscape"], unfollowed := true, recurses := true, named := ["math/bits.deBruijn64tab", "internal/bytealg.MaxLen"], apart := false, laid := [("math/bits.deBruijn64tab", laid_math_bits_deBruijn64tab)], narrowed := true }
def FnExactFamiliesOfUptoSaid : Prop := fnExactFamiliesOfUptoRow.holds Tryd.pinned (OpenSpec.upto fnExactFamiliesOfSpec)

/-- 'laws.FnExactFoldWord', WHERE WHAT IT READS IS OF BULK AT MOST 1048576: true; the input reads as it did. -/
def fnExactFoldWordUptoRow : OpenClaim := { program := "ytfmlmgebomapjaadoor", sum := "1d5dd936fb016c1068bfbd22c8ab803e8aeb1cf61ce88f2a663814994fdae50c", func := "loop.example/g01130/laws.FnExactFoldWord", spec := "fnExactFoldWord", inPlace := ["internal/bytealg.IndexByteString", "internal/bytealg.IndexString", "internal/abi.NoEscape", "internal/bytealg.MakeNoZero"], unfollowed := true, recurses := true, named := ["math/bits.deBruijn64tab", "unicode/utf8.first", "unicode/utf8.acceptRanges", "internal/bytealg.MaxLen"], apart := false, laid := [("math/bits.deBruijn64tab", laid_math_bits_deBruijn64tab), ("unicode/utf8.acceptRanges", laid_unicode_utf8_acceptRanges), ("unicode/utf8.first", laid_unicode_utf8_first)], narrowed := true }
def FnExactFoldWordUptoSaid : Prop := fnExactFoldWordUptoRow.holds Tryd.pinned (OpenSpec.upto fnExactFoldWordSpec)

/-- 'laws.FnExactHearNumber', WHERE WHAT IT READS IS OF BULK AT MOST 1048576: true; the input reads as it did. -/
def fnExactHearNumberUptoRow : OpenClaim := { program := "ytfmlmgebomapjaadoor", sum := "1d5dd936fb016c1068bfbd22c8ab803e8aeb1cf61ce88f2a663814994fdae50c", func := "loop.example/g01130/laws.FnExactHearNumber", spec := "fnExactHearNumber", inPlace := ["internal/bytealg.CountString", "internal/bytealg.IndexByteString", "internal/bytealg.IndexString"], named := ["unicode/utf8.first", "unicode/utf8.acceptRanges", "internal/bytealg.MaxLen"], apart := false, laid := [("unicode/utf8.acceptRanges", laid_unicode_utf8_acceptRanges), ("unicode/utf8.first", laid_unicode_utf8_first)], narrowed := true }
def FnExactHearNumberUptoSaid : Prop := fnExactHearNumberUptoRow.holds Tryd.pinned (OpenSpec.upto fnExactHearNumberSpec)

end Rows
end Go.Proofs.YtfmlmgebomapjaaDoor
