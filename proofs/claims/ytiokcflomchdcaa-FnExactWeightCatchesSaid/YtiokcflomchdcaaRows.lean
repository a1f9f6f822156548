/-
  No cell of these rows narrows 'for every input' (looked for: loops, veiled, ifaces, maps, wideKeys, modest, calm, conditions, laid).
  DERIVED. THE GIVEN ROWS OF THIS SEAT. 11 by the template 'for every input the law returns true; each argument reads behind the call as it read before'; 0 by the template 'total and deterministic' (their statements: YtiokcflomchdcaaTotals.lean).
  GIVEN WITH THE SEED: the statements are not yours to turn. If you find one false, say at which input.
  Laid BY PROGRAM, IN A SANDBOX (cutbox-rows.mjs): the forced cells as the released guide's own fill.sh prints them over the translation eeaec25a6f7118cd… (all of the seat's roots in one cut). By AI agents, Wed Nov 11 2026. No macro, syntax, notation, axiom, sorry.
-/
import Derived.Test.YtiokcflomchdcaaChecked
import GoSem.Claim
import GoSem.ClaimJoined
import GoSem.ClaimMapViews
import Derived.JoinedTies
import Derived.KernelRfl
namespace Go.Proofs.Ytiokcflomchdcaa
/- THE CELL 'sum', in the pinned program and in every row, IS THE sha256 OF THE DUMP (.gsa) THAT YtiokcflomchdcaaProg.lean LOADS. Nothing in Lean hashes anything: it is a label: what it is worth is what the hold of that sum in a sandbox is worth. -/
noncomputable def Try.pinned : Pinned := { name := "ytiokcflomchdcaa", sum := "eeaec25a6f7118cd5525ebe7d4e351dc022e35ea1c6dad7204d8fda9a4bae492", checked := Try.checked }
namespace Rows
def none {H : Type} : Left H := { results := [], args := [] }

/-- 'laws.FnUnseen': WHATEVER THE INPUT: true; the input reads as it did. -/
def fnUnseenSpec : ChangeSpec := { name := "fnUnseen", fn := fun _ => fun
  | [d1, d2] => { results := [.lit (.bool true)], args := [d1, d2] }
  | _ => none }
def fnUnseenRow : OpenClaim := { program := "ytiokcflomchdcaa", sum := "eeaec25a6f7118cd5525ebe7d4e351dc022e35ea1c6dad7204d8fda9a4bae492", func := "loop.example/g01130/laws.FnUnseen", spec := "fnUnseen", unfollowed := true, recurses := true, apart := false }
def FnUnseenSaid : Prop := fnUnseenRow.holds Try.pinned (OpenSpec.ofChange fnUnseenSpec)

/-- ITS FALSE NEIGHBOUR: 'it returns false'. Refute it at one input. -/
def fnUnseenWrong : ChangeSpec := { name := "fnUnseen", fn := fun _ => fun
  | [d1, d2] => { results := [.lit (.bool false)], args := [d1, d2] }
  | _ => none }
def FnUnseenWrongFalsely : Prop := fnUnseenRow.holds Try.pinned (OpenSpec.ofChange fnUnseenWrong)

/-- 'laws.FnAntisymmetric': WHATEVER THE INPUT: true; the input reads as it did. -/
def fnAntisymmetricSpec : ChangeSpec := { name := "fnAntisymmetric", fn := fun _ => fun
  | [d1, d2] => { results := [.lit (.bool true)], args := [d1, d2] }
  | _ => none }
def fnAntisymmetricRow : OpenClaim := { program := "ytiokcflomchdcaa", sum := "eeaec25a6f7118cd5525ebe7d4e351dc022e35ea1c6dad7204d8fda9a4bae492", func := "loop.example/g01130/laws.FnAntisymmetric", spec := "fnAntisymmetric", unfollowed := true, recurses := true, apart := false }
def FnAntisymmetricSaid : Prop := fnAntisymmetricRow.holds Try.pinned (OpenSpec.ofChange fnAntisymmetricSpec)

/-- ITS FALSE NEIGHBOUR: 'it returns false'. Refute it at one input. -/
def fnAntisymmetricWrong : ChangeSpec := { name := "fnAntisymmetric", fn := fun _ => fun
  | [d1, d2] => { results := [.lit (.bool false)], args := [d1, d2] }
  | _ => none }
def FnAntisymmetricWrongFalsely : Prop := fnAntisymmetricRow.holds Try.pinned (OpenSpec.ofChange fnAntisymmetricWrong)

/-- 'laws.FnLinear': WHATEVER THE INPUT: true; the input reads as it did. -/
def fnLinearSpec : ChangeSpec := { name := "fnLinear", fn := fun _ => fun
  | [d1, d2] => { results := [.lit (.bool true)], args := [d1, d2] }
  | _ => none }
def fnLinearRow : OpenClaim := { program := "ytiokcflomchdcaa", sum := "eeaec25a6f7118cd5525ebe7d4e351dc022e35ea1c6dad7204d8fda9a4bae492", func := "loop.example/g01130/laws.FnLinear", spec := "fnLinear", unfollowed := true, recurses := true, apart := false }
def FnLinearSaid : Prop := fnLinearRow.holds Try.pinned (OpenSpec.ofChange fnLinearSpec)

/-- ITS FALSE NEIGHBOUR: 'it returns false'. Refute it at one input. -/
def fnLinearWrong : ChangeSpec := { name := "fnLinear", fn := fun _ => fun
  | [d1, d2] => { results := [.lit (.bool false)], args := [d1, d2] }
  | _ => none }
def FnLinearWrongFalsely : Prop := fnLinearRow.holds Try.pinned (OpenSpec.ofChange fnLinearWrong)

/-- 'laws.FnSearched': WHATEVER THE INPUT: true; the input reads as it did. -/
def fnSearchedSpec : ChangeSpec := { name := "fnSearched", fn := fun _ => fun
  | [d1, d2] => { results := [.lit (.bool true)], args := [d1, d2] }
  | _ => none }
def fnSearchedRow : OpenClaim := { program := "ytiokcflomchdcaa", sum := "eeaec25a6f7118cd5525ebe7d4e351dc022e35ea1c6dad7204d8fda9a4bae492", func := "loop.example/g01130/laws.FnSearched", spec := "fnSearched", unfollowed := true, recurses := true, apart := false }
def FnSearchedSaid : Prop := fnSearchedRow.holds Try.pinned (OpenSpec.ofChange fnSearchedSpec)

/-- ITS FALSE NEIGHBOUR: 'it returns false'. Refute it at one input. -/
def fnSearchedWrong : ChangeSpec := { name := "fnSearched", fn := fun _ => fun
  | [d1, d2] => { results := [.lit (.bool false)], args := [d1, d2] }
  | _ => none }
def FnSearchedWrongFalsely : Prop := fnSearchedRow.holds Try.pinned (OpenSpec.ofChange fnSearchedWrong)

/-- 'laws.FnExactCountWords': WHATEVER THE INPUT: true; the input reads as it did. -/
def fnExactCountWordsSpec : ChangeSpec := { name := "fnExactCountWords", fn := fun _ => fun
  | [d] => { results := [.lit (.bool true)], args := [d] }
  | _ => none }
def fnExactCountWordsRow : OpenClaim := { program := "ytiokcflomchdcaa", sum := "eeaec25a6f7118cd5525ebe7d4e351dc022e35ea1c6dad7204d8fda9a4bae492", func := "loop.example/g01130/laws.FnExactCountWords", spec := "fnExactCountWords", unfollowed := true, recurses := true, apart := false }
def FnExactCountWordsSaid : Prop := fnExactCountWordsRow.holds Try.pinned (OpenSpec.ofChange fnExactCountWordsSpec)

/-- ITS FALSE NEIGHBOUR: 'it returns false'. Refute it at one input. -/
def fnExactCountWordsWrong : ChangeSpec := { name := "fnExactCountWords", fn := fun _ => fun
  | [d] => { results := [.lit (.bool false)], args := [d] }
  | _ => none }
def FnExactCountWordsWrongFalsely : Prop := fnExactCountWordsRow.holds Try.pinned (OpenSpec.ofChange fnExactCountWordsWrong)

/-- 'laws.FnExactRankOfWord': WHATEVER THE INPUT: true; the input reads as it did. -/
def fnExactRankOfWordSpec : ChangeSpec := { name := "fnExactRankOfWord", fn := fun _ => fun
  | [d1, d2] => { results := [.lit (.bool true)], args := [d1, d2] }
  | _ => none }
def fnExactRankOfWordRow : OpenClaim := { program := "ytiokcflomchdcaa", sum := "eeaec25a6f7118cd5525ebe7d4e351dc022e35ea1c6dad7204d8fda9a4bae492", func := "loop.example/g01130/laws.FnExactRankOfWord", spec := "fnExactRankOfWord", inPlace := ["internal/bytealg.IndexByteString", "internal/bytealg.IndexString"], unfollowed := true, recurses := true, named := ["internal/bytealg.MaxLen"], apart := false }
def FnExactRankOfWordSaid : Prop := fnExactRankOfWordRow.holds Try.pinned (OpenSpec.ofChange fnExactRankOfWordSpec)

/-- ITS FALSE NEIGHBOUR: 'it returns false'. Refute it at one input. -/
def fnExactRankOfWordWrong : ChangeSpec := { name := "fnExactRankOfWord", fn := fun _ => fun
  | [d1, d2] => { results := [.lit (.bool false)], args := [d1, d2] }
  | _ => none }
def FnExactRankOfWordWrongFalsely : Prop := fnExactRankOfWordRow.holds Try.pinned (OpenSpec.ofChange fnExactRankOfWordWrong)

/-- 'laws.FnExactEvenChain': WHATEVER THE INPUT: true; the input reads as it did. -/
def fnExactEvenChainSpec : ChangeSpec := { name := "fnExactEvenChain", fn := fun _ => fun
  | [d1, d2, d3, d4] => { results := [.lit (.bool true)], args := [d1, d2, d3, d4] }
  | _ => none }
def fnExactEvenChainRow : OpenClaim := { program := "ytiokcflomchdcaa", sum := "eeaec25a6f7118cd5525ebe7d4e351dc022e35ea1c6dad7204d8fda9a4bae492", func := "loop.example/g01130/laws.FnExactEvenChain", spec := "fnExactEvenChain", apart := false }
def FnExactEvenChainSaid : Prop := fnExactEvenChainRow.holds Try.pinned (OpenSpec.ofChange fnExactEvenChainSpec)

/-- ITS FALSE NEIGHBOUR: 'it returns false'. Refute it at one input. -/
def fnExactEvenChainWrong : ChangeSpec := { name := "fnExactEvenChain", fn := fun _ => fun
  | [d1, d2, d3, d4] => { results := [.lit (.bool false)], args := [d1, d2, d3, d4] }
  | _ => none }
def FnExactEvenChainWrongFalsely : Prop := fnExactEvenChainRow.holds Try.pinned (OpenSpec.ofChange fnExactEvenChainWrong)

/-- 'laws.FnExactUnseenPairs': WHATEVER THE INPUT: true; the input reads as it did. -/
def fnExactUnseenPairsSpec : ChangeSpec := { name := "fnExactUnseenPairs", fn := fun _ => fun
  | [d1, d2, d3] => { results := [.lit (.bool true)], args := [d1, d2, d3] }
  | _ => none }
def fnExactUnseenPairsRow : OpenClaim := { program := "ytiokcflomchdcaa", sum := "eeaec25a6f7118cd5525ebe7d4e351dc022e35ea1c6dad7204d8fda9a4bae492", func := "loop.example/g01130/laws.FnExactUnseenPairs", spec := "fnExactUnseenPairs", unfollowed := true, recurses := true, apart := false }
def FnExactUnseenPairsSaid : Prop := fnExactUnseenPairsRow.holds Try.pinned (OpenSpec.ofChange fnExactUnseenPairsSpec)

/-- ITS FALSE NEIGHBOUR: 'it returns false'. Refute it at one input. -/
def fnExactUnseenPairsWrong : ChangeSpec := { name := "fnExactUnseenPairs", fn := fun _ => fun
  | [d1, d2, d3] => { results := [.lit (.bool false)], args := [d1, d2, d3] }
  | _ => none }
def FnExactUnseenPairsWrongFalsely : Prop := fnExactUnseenPairsRow.holds Try.pinned (OpenSpec.ofChange fnExactUnseenPairsWrong)

/-- 'laws.FnExactWeightCatches': WHATEVER THE INPUT: true; the input reads as it did. -/
def fnExactWeightCatchesSpec : ChangeSpec := { name := "fnExactWeightCatches", fn := fun _ => fun
  | [d1, d2] => { results := [.lit (.bool true)], args := [d1, d2] }
  | _ => none }
def fnExactWeightCatchesRow : OpenClaim := { program := "ytiokcflomchdcaa", sum := "eeaec25a6f7118cd5525ebe7d4e351dc022e35ea1c6dad7204d8fda9a4bae492", func := "loop.example/g01130/laws.FnExactWeightCatches", spec := "fnExactWeightCatches", unfollowed := true, recurses := true, apart := false }
def FnExactWeightCatchesSaid : Prop := fnExactWeightCatchesRow.holds Try.pinned (OpenSpec.ofChange fnExactWeightCatchesSpec)

/-- ITS FALSE NEIGHBOUR: 'it returns false'. Refute it at one input. -/
def fnExactWeightCatchesWrong : ChangeSpec := { name := "fnExactWeightCatches", fn := fun _ => fun
  | [d1, d2] => { results := [.lit (.bool false)], args := [d1, d2] }
  | _ => none }
def FnExactWeightCatchesWrongFalsely : Prop := fnExactWeightCatchesRow.holds Try.pinned (OpenSpec.ofChange fnExactWeightCatchesWrong)

/-- 'laws.FnExactIsQuasigroup': WHATEVER THE INPUT: true; the input reads as it did. -/
def fnExactIsQuasigroupSpec : ChangeSpec := { name := "fnExactIsQuasigroup", fn := fun _ => fun
  | [d] => { results := [.lit (.bool true)], args := [d] }
  | _ => none }
def fnExactIsQuasigroupRow : OpenClaim := { program := "ytiokcflomchdcaa", sum := "eeaec25a6f7118cd5525ebe7d4e351dc022e35ea1c6dad7204d8fda9a4bae492", func := "loop.example/g01130/laws.FnExactIsQuasigroup", spec := "fnExactIsQuasigroup", apart := false }
def FnExactIsQuasigroupSaid : Prop := fnExactIsQuasigroupRow.holds Try.pinned (OpenSpec.ofChange fnExactIsQuasigroupSpec)

/-- ITS FALSE NEIGHBOUR: 'it returns false'. Refute it at one input. -/
def fnExactIsQuasigroupWrong : ChangeSpec := { name := "fnExactIsQuasigroup", fn := fun _ => fun
  | [d] => { results := [.lit (.bool false)], args := [d] }
  | _ => none }
def FnExactIsQuasigroupWrongFalsely : Prop := fnExactIsQuasigroupRow.holds Try.pinned (OpenSpec.ofChange fnExactIsQuasigroupWrong)

/-- 'laws.FnExactRenameTable': WHATEVER THE INPUT: true; the input reads as it did. -/
def fnExactRenameTableSpec : ChangeSpec := { name := "fnExactRenameTable", fn := fun _ => fun
  | [d1, d2, d3, d4] => { results := [.lit (.bool true)], args := [d1, d2, d3, d4] }
  | _ => none }
def fnExactRenameTableRow : OpenClaim := { program := "ytiokcflomchdcaa", sum := "eeaec25a6f7118cd5525ebe7d4e351dc022e35ea1c6dad7204d8fda9a4bae492", func := "loop.example/g01130/laws.FnExactRenameTable", spec := "fnExactRenameTable", unfollowed := true, recurses := true, apart := false }
def FnExactRenameTableSaid : Prop := fnExactRenameTableRow.holds Try.pinned (OpenSpec.ofChange fnExactRenameTableSpec)

/-- ITS FALSE NEIGHBOUR: 'it returns false'. Refute it at one input. -/
def fnExactRenameTableWrong : ChangeSpec := { name := "fnExactRenameTable", fn := fun _ => fun
  | [d1, d2, d3, d4] => { results := [.lit (.bool false)], args := [d1, d2, d3, d4] }
  | _ => none }
def FnExactRenameTableWrongFalsely : Prop := fnExactRenameTableRow.holds Try.pinned (OpenSpec.ofChange fnExactRenameTableWrong)

/- THE SECOND FORM. 'bulk': how many values and letters a reading holds, each counted each time it is reached (what is shared counts as often as it is met; a slice's spare places count too). A statement '..UptoSaid' is the law's where the arguments, and the package variables that the reading takes, are together of bulk at most 1048576: NARROWER than '..Said'. Prove '..Said' where nothing that the law and all that it calls make is longer than what came in: it says more and counts as full. Else prove '..UptoSaid'. A law counts once. -/
mutual
def uptoBulk {H : Type} : DataW H → Nat
  | .lit (.string bytes) => bytes.length + 1
  | .lit _ => 1
  | .nil => 1
  | .ptr d => uptoBulk d + 1
  | .slice elems spare => uptoBulkAll elems + uptoBulkAll spare + 1
  | .agg parts => uptoBulkAll parts + 1
  | .iface _ d => uptoBulk d + 1
  | .map entries => uptoBulkEntries entries + 1
  | .held _ => 1
def uptoBulkAll {H : Type} : List (DataW H) → Nat
  | [] => 0
  | d :: r => uptoBulk d + uptoBulkAll r
def uptoBulkEntries {H : Type} : List (Lit × DataW H) → Nat
  | [] => 0
  | x :: r => uptoBulkEntry x + uptoBulkEntries r
def uptoBulkEntry {H : Type} : Lit × DataW H → Nat
  | (.string bytes, d) => bytes.length + uptoBulk d + 1
  | (_, d) => uptoBulk d + 1
 end
def uptoSmall : (H : Type) → List (DataW H) → Bool := fun _ ds => decide (uptoBulkAll ds ≤ 1048576)
def OpenSpec.upto (s : _root_.Go.ChangeSpec) : _root_.Go.OpenSpec := { _root_.Go.OpenSpec.ofChange s with cond := some uptoSmall }

/-- 'laws.FnUnseen', WHERE WHAT IT READS IS OF BULK AT MOST 1048576: true; the input reads as it did. -/
def fnUnseenUptoRow : OpenClaim := { program := "ytiokcflomchdcaa", sum := "eeaec25a6f7118cd5525ebe7d4e351dc022e35ea1c6dad7204d8fda9a4bae492", func := "loop.example/g01130/laws.FnUnseen", spec := "fnUnseen", unfollowed := true, recurses := true, apart := false, narrowed := true }
def FnUnseenUptoSaid : Prop := fnUnseenUptoRow.holds Try.pinned (OpenSpec.upto fnUnseenSpec)

/-- 'laws.FnAntisymmetric', WHERE WHAT IT READS IS OF BULK AT MOST 1048576: true; the input reads as it did. -/
def fnAntisymmetricUptoRow : OpenClaim := { program := "ytiokcflomchdcaa", sum := "eeaec25a6f7118cd5525ebe7d4e351dc022e35ea1c6dad7204d8fda9a4bae492", func := "loop.example/g01130/laws.FnAntisymmetric", spec := "fnAntisymmetric", unfollowed := true, recurses := true, apart := false, narrowed := true }
def FnAntisymmetricUptoSaid : Prop := fnAntisymmetricUptoRow.holds Try.pinned (OpenSpec.upto fnAntisymmetricSpec)

/-- 'laws.FnLinear', WHERE WHAT IT READS IS OF BULK AT MOST 1048576: true; the input reads as it did. -/
def fnLinearUptoRow : OpenClaim := { program := "ytiokcflomchdcaa", sum := "eeaec25a6f7118cd5525ebe7d4e351dc022e35ea1c6dad7204d8fda9a4bae492", func := "loop.example/g01130/laws.FnLinear", spec := "fnLinear", unfollowed := true, recurses := true, apart := false, narrowed := true }
def FnLinearUptoSaid : Prop := fnLinearUptoRow.holds Try.pinned (OpenSpec.upto fnLinearSpec)

/-- 'laws.FnSearched', WHERE WHAT IT READS IS OF BULK AT MOST 1048576: true; the input reads as it did. -/
def fnSearchedUptoRow : OpenClaim := { program := "ytiokcflomchdcaa", sum := "eeaec25a6f7118cd5525ebe7d4e351dc022e35ea1c6dad7204d8fda9a4bae492", func := "loop.example/g01130/laws.FnSearched", spec := "fnSearched", unfollowed := true, recurses := true, apart := false, narrowed := true }
def FnSearchedUptoSaid : Prop := fnSearchedUptoRow.holds Try.pinned (OpenSpec.upto fnSearchedSpec)

/-- 'laws.FnExactCountWords', WHERE WHAT IT READS IS OF BULK AT MOST 1048576: true; the input reads as it did. -/
def fnExactCountWordsUptoRow : OpenClaim := { program := "ytiokcflomchdcaa", sum := "eeaec25a6f7118cd5525ebe7d4e351dc022e35ea1c6dad7204d8fda9a4bae492", func := "loop.example/g01130/laws.FnExactCountWords", spec := "fnExactCountWords", unfollowed := true, recurses := true, apart := false, narrowed := true }
def FnExactCountWordsUptoSaid : Prop := fnExactCountWordsUptoRow.holds Try.pinned (OpenSpec.upto fnExactCountWordsSpec)

/-- 'laws.FnExactRankOfWord', WHERE WHAT IT READS IS OF BULK AT MOST 1048576: true; the input reads as it did. -/
def fnExactRankOfWordUptoRow : OpenClaim := { program := "ytiokcflomchdcaa", sum := "eeaec25a6f7118cd5525ebe7d4e351dc022e35ea1c6dad7204d8fda9a4bae492", func := "loop.example/g01130/laws.FnExactRankOfWord", spec := "fnExactRankOfWord", inPlace := ["internal/bytealg.IndexByteString", "internal/bytealg.IndexString"], unfollowed := true, recurses := true, named := ["internal/bytealg.MaxLen"], apart := false, narrowed := true }
def FnExactRankOfWordUptoSaid : Prop := fnExactRankOfWordUptoRow.holds Try.pinned (OpenSpec.upto fnExactRankOfWordSpec)

/-- 'laws.FnExactEvenChain', WHERE WHAT IT READS IS OF BULK AT MOST 1048576: true; the input reads as it did. -/
def fnExactEvenChainUptoRow : OpenClaim := { program := "ytiokcflomchdcaa", sum := "eeaec25a6f7118cd5525ebe7d4e351dc022e35ea1c6dad7204d8fda9a4bae492", func := "loop.example/g01130/laws.FnExactEvenChain", spec := "fnExactEvenChain", apart := false, narrowed := true }
def FnExactEvenChainUptoSaid : Prop := fnExactEvenChainUptoRow.holds Try.pinned (OpenSpec.upto fnExactEvenChainSpec)

/-- 'laws.FnExactUnseenPairs', WHERE WHAT IT READS IS OF BULK AT MOST 1048576: true; the input reads as it did. -/
def fnExactUnseenPairsUptoRow : OpenClaim := { program := "ytiokcflomchdcaa", sum := "eeaec25a6f7118cd5525ebe7d4e351dc022e35ea1c6dad7204d8fda9a4bae492", func := "loop.example/g01130/laws.FnExactUnseenPairs", spec := "fnExactUnseenPairs", unfollowed := true, recurses := true, apart := false, narrowed := true }
def FnExactUnseenPairsUptoSaid : Prop := fnExactUnseenPairsUptoRow.holds Try.pinned (OpenSpec.upto fnExactUnseenPairsSpec)

/-- 'laws.FnExactWeightCatches', WHERE WHAT IT READS IS OF BULK AT MOST 1048576: true; the input reads as it did. -/
def fnExactWeightCatchesUptoRow : OpenClaim := { program := "ytiokcflomchdcaa", sum := "eeaec25a6f7118cd5525ebe7d4e351dc022e35ea1c6dad7204d8fda9a4bae492", func := "loop.example/g01130/laws.FnExactWeightCatches", spec := "fnExactWeightCatches", unfollowed := true, recurses := true, apart := false, narrowed := true }
def FnExactWeightCatchesUptoSaid : Prop := fnExactWeightCatchesUptoRow.holds Try.pinned (OpenSpec.upto fnExactWeightCatchesSpec)

/-- 'laws.FnExactIsQuasigroup', WHERE WHAT IT READS IS OF BULK AT MOST 1048576: true; the input reads as it did. -/
def fnExactIsQuasigroupUptoRow : OpenClaim := { program := "ytiokcflomchdcaa", sum := "eeaec25a6f7118cd5525ebe7d4e351dc022e35ea1c6dad7204d8fda9a4bae492", func := "loop.example/g01130/laws.FnExactIsQuasigroup", spec := "fnExactIsQuasigroup", apart := false, narrowed := true }
def FnExactIsQuasigroupUptoSaid : Prop := fnExactIsQuasigroupUptoRow.holds Try.pinned (OpenSpec.upto fnExactIsQuasigroupSpec)

/-- 'laws.FnExactRenameTable', WHERE WHAT IT READS IS OF BULK AT MOST 1048576: true; the input reads as it did. -/
def fnExactRenameTableUptoRow : OpenClaim := { program := "ytiokcflomchdcaa", sum := "eeaec25a6f7118cd5525ebe7d4e351dc022e35ea1c6dad7204d8fda9a4bae492", func := "loop.example/g01130/laws.FnExactRenameTable", spec := "fnExactRenameTable", unfollowed := true, recurses := true, apart := false, narrowed := true }
def FnExactRenameTableUptoSaid : Prop := fnExactRenameTableUptoRow.holds Try.pinned (OpenSpec.upto fnExactRenameTableSpec)

end Rows
end Go.Proofs.Ytiokcflomchdcaa
