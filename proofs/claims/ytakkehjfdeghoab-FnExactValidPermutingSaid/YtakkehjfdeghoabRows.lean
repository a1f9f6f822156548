/-
  No cell of these rows narrows 'for every input' (looked for: loops, veiled, ifaces, maps, wideKeys, modest, calm, conditions, laid).
  DERIVED. THE GIVEN ROWS OF THIS SEAT. 12 by the template 'for every input the law returns true; each argument reads behind the call as it read before'; 0 by the template 'total and deterministic' (their statements: YtakkehjfdeghoabTotals.lean).
  GIVEN WITH THE SEED: the statements are not yours to turn. If you find one false, say at which input.
  Laid BY PROGRAM, IN A SANDBOX (cutbox-rows.mjs): the forced cells as the released guide's own fill.sh prints them over the translation 878f43da84e7390e… (all of the seat's roots in one cut). By AI agents, Wed Nov 11 2026. No macro, syntax, notation, axiom, sorry.
-/
import Derived.Test.YtakkehjfdeghoabChecked
import GoSem.Claim
import GoSem.ClaimJoined
import GoSem.ClaimMapViews
import Derived.JoinedTies
import Derived.KernelRfl
namespace Go.Proofs.Ytakkehjfdeghoab
/- THE CELL 'sum', in the pinned program and in every row, IS THE sha256 OF THE DUMP (.gsa) THAT YtakkehjfdeghoabProg.lean LOADS. Nothing in Lean hashes anything: it is a label: what it is worth is what the hold of that sum in a sandbox is worth. -/
noncomputable def Try.pinned : Pinned := { name := "ytakkehjfdeghoab", sum := "878f43da84e7390ebe1d05b1581e9b6bee8e2a385c9d1bba4b8e87e179c679ba", checked := Try.checked }
namespace Rows
def none {H : Type} : Left H := { results := [], args := [] }

/-- 'laws.FnExactJoinChains': WHATEVER THE INPUT: true; the input reads as it did. -/
def fnExactJoinChainsSpec : ChangeSpec := { name := "fnExactJoinChains", fn := fun _ => fun
  | [d1, d2] => { results := [.lit (.bool true)], args := [d1, d2] }
  | _ => none }
def fnExactJoinChainsRow : OpenClaim := { program := "ytakkehjfdeghoab", sum := "878f43da84e7390ebe1d05b1581e9b6bee8e2a385c9d1bba4b8e87e179c679ba", func := "loop.example/g01130/laws.FnExactJoinChains", spec := "fnExactJoinChains", apart := false }
def FnExactJoinChainsSaid : Prop := fnExactJoinChainsRow.holds Try.pinned (OpenSpec.ofChange fnExactJoinChainsSpec)

/-- ITS FALSE NEIGHBOUR: 'it returns false'. Refute it at one input. -/
def fnExactJoinChainsWrong : ChangeSpec := { name := "fnExactJoinChains", fn := fun _ => fun
  | [d1, d2] => { results := [.lit (.bool false)], args := [d1, d2] }
  | _ => none }
def FnExactJoinChainsWrongFalsely : Prop := fnExactJoinChainsRow.holds Try.pinned (OpenSpec.ofChange fnExactJoinChainsWrong)

/-- 'laws.FnExactEvenChain': WHATEVER THE INPUT: true; the input reads as it did. -/
def fnExactEvenChainSpec : ChangeSpec := { name := "fnExactEvenChain", fn := fun _ => fun
  | [d1, d2, d3, d4] => { results := [.lit (.bool true)], args := [d1, d2, d3, d4] }
  | _ => none }
def fnExactEvenChainRow : OpenClaim := { program := "ytakkehjfdeghoab", sum := "878f43da84e7390ebe1d05b1581e9b6bee8e2a385c9d1bba4b8e87e179c679ba", func := "loop.example/g01130/laws.FnExactEvenChain", spec := "fnExactEvenChain", apart := false }
def FnExactEvenChainSaid : Prop := fnExactEvenChainRow.holds Try.pinned (OpenSpec.ofChange fnExactEvenChainSpec)

/-- ITS FALSE NEIGHBOUR: 'it returns false'. Refute it at one input. -/
def fnExactEvenChainWrong : ChangeSpec := { name := "fnExactEvenChain", fn := fun _ => fun
  | [d1, d2, d3, d4] => { results := [.lit (.bool false)], args := [d1, d2, d3, d4] }
  | _ => none }
def FnExactEvenChainWrongFalsely : Prop := fnExactEvenChainRow.holds Try.pinned (OpenSpec.ofChange fnExactEvenChainWrong)

/-- 'laws.FnExactValidWeighting': WHATEVER THE INPUT: true; the input reads as it did. -/
def fnExactValidWeightingSpec : ChangeSpec := { name := "fnExactValidWeighting", fn := fun _ => fun
  | [d] => { results := [.lit (.bool true)], args := [d] }
  | _ => none }
def fnExactValidWeightingRow : OpenClaim := { program := "ytakkehjfdeghoab", sum := "878f43da84e7390ebe1d05b1581e9b6bee8e2a385c9d1bba4b8e87e179c679ba", func := "loop.example/g01130/laws.FnExactValidWeighting", spec := "fnExactValidWeighting", apart := false }
def FnExactValidWeightingSaid : Prop := fnExactValidWeightingRow.holds Try.pinned (OpenSpec.ofChange fnExactValidWeightingSpec)

/-- ITS FALSE NEIGHBOUR: 'it returns false'. Refute it at one input. -/
def fnExactValidWeightingWrong : ChangeSpec := { name := "fnExactValidWeighting", fn := fun _ => fun
  | [d] => { results := [.lit (.bool false)], args := [d] }
  | _ => none }
def FnExactValidWeightingWrongFalsely : Prop := fnExactValidWeightingRow.holds Try.pinned (OpenSpec.ofChange fnExactValidWeightingWrong)

/-- 'laws.FnExactWeightSum': WHATEVER THE INPUT: true; the input reads as it did. -/
def fnExactWeightSumSpec : ChangeSpec := { name := "fnExactWeightSum", fn := fun _ => fun
  | [d1, d2] => { results := [.lit (.bool true)], args := [d1, d2] }
  | _ => none }
def fnExactWeightSumRow : OpenClaim := { program := "ytakkehjfdeghoab", sum := "878f43da84e7390ebe1d05b1581e9b6bee8e2a385c9d1bba4b8e87e179c679ba", func := "loop.example/g01130/laws.FnExactWeightSum", spec := "fnExactWeightSum", inPlace := ["internal/bytealg.IndexByteString", "internal/bytealg.IndexString"], named := ["internal/bytealg.MaxLen"], apart := false }
def FnExactWeightSumSaid : Prop := fnExactWeightSumRow.holds Try.pinned (OpenSpec.ofChange fnExactWeightSumSpec)

/-- ITS FALSE NEIGHBOUR: 'it returns false'. Refute it at one input. -/
def fnExactWeightSumWrong : ChangeSpec := { name := "fnExactWeightSum", fn := fun _ => fun
  | [d1, d2] => { results := [.lit (.bool false)], args := [d1, d2] }
  | _ => none }
def FnExactWeightSumWrongFalsely : Prop := fnExactWeightSumRow.holds Try.pinned (OpenSpec.ofChange fnExactWeightSumWrong)

/-- 'laws.FnExactWeightChain': WHATEVER THE INPUT: true; the input reads as it did. -/
def fnExactWeightChainSpec : ChangeSpec := { name := "fnExactWeightChain", fn := fun _ => fun
  | [d] => { results := [.lit (.bool true)], args := [d] }
  | _ => none }
def fnExactWeightChainRow : OpenClaim := { program := "ytakkehjfdeghoab", sum := "878f43da84e7390ebe1d05b1581e9b6bee8e2a385c9d1bba4b8e87e179c679ba", func := "loop.example/g01130/laws.FnExactWeightChain", spec := "fnExactWeightChain", unfollowed := true, recurses := true, apart := false }
def FnExactWeightChainSaid : Prop := fnExactWeightChainRow.holds Try.pinned (OpenSpec.ofChange fnExactWeightChainSpec)

/-- ITS FALSE NEIGHBOUR: 'it returns false'. Refute it at one input. -/
def fnExactWeightChainWrong : ChangeSpec := { name := "fnExactWeightChain", fn := fun _ => fun
  | [d] => { results := [.lit (.bool false)], args := [d] }
  | _ => none }
def FnExactWeightChainWrongFalsely : Prop := fnExactWeightChainRow.holds Try.pinned (OpenSpec.ofChange fnExactWeightChainWrong)

/-- 'laws.FnExactUnseenPairs': WHATEVER THE INPUT: true; the input reads as it did. -/
def fnExactUnseenPairsSpec : ChangeSpec := { name := "fnExactUnseenPairs", fn := fun _ => fun
  | [d1, d2, d3] => { results := [.lit (.bool true)], args := [d1, d2, d3] }
  | _ => none }
def fnExactUnseenPairsRow : OpenClaim := { program := "ytakkehjfdeghoab", sum := "878f43da84e7390ebe1d05b1581e9b6bee8e2a385c9d1bba4b8e87e179c679ba", func := "loop.example/g01130/laws.FnExactUnseenPairs", spec := "fnExactUnseenPairs", unfollowed := true, recurses := true, apart := false }
def FnExactUnseenPairsSaid : Prop := fnExactUnseenPairsRow.holds Try.pinned (OpenSpec.ofChange fnExactUnseenPairsSpec)

/-- ITS FALSE NEIGHBOUR: 'it returns false'. Refute it at one input. -/
def fnExactUnseenPairsWrong : ChangeSpec := { name := "fnExactUnseenPairs", fn := fun _ => fun
  | [d1, d2, d3] => { results := [.lit (.bool false)], args := [d1, d2, d3] }
  | _ => none }
def FnExactUnseenPairsWrongFalsely : Prop := fnExactUnseenPairsRow.holds Try.pinned (OpenSpec.ofChange fnExactUnseenPairsWrong)

/-- 'laws.FnExactWeightCatches': WHATEVER THE INPUT: true; the input reads as it did. -/
def fnExactWeightCatchesSpec : ChangeSpec := { name := "fnExactWeightCatches", fn := fun _ => fun
  | [d1, d2] => { results := [.lit (.bool true)], args := [d1, d2] }
  | _ => none }
def fnExactWeightCatchesRow : OpenClaim := { program := "ytakkehjfdeghoab", sum := "878f43da84e7390ebe1d05b1581e9b6bee8e2a385c9d1bba4b8e87e179c679ba", func := "loop.example/g01130/laws.FnExactWeightCatches", spec := "fnExactWeightCatches", unfollowed := true, recurses := true, apart := false }
def FnExactWeightCatchesSaid : Prop := fnExactWeightCatchesRow.holds Try.pinned (OpenSpec.ofChange fnExactWeightCatchesSpec)

/-- ITS FALSE NEIGHBOUR: 'it returns false'. Refute it at one input. -/
def fnExactWeightCatchesWrong : ChangeSpec := { name := "fnExactWeightCatches", fn := fun _ => fun
  | [d1, d2] => { results := [.lit (.bool false)], args := [d1, d2] }
  | _ => none }
def FnExactWeightCatchesWrongFalsely : Prop := fnExactWeightCatchesRow.holds Try.pinned (OpenSpec.ofChange fnExactWeightCatchesWrong)

/-- 'laws.FnExactIsCheckPlace': WHATEVER THE INPUT: true; the input reads as it did. -/
def fnExactIsCheckPlaceSpec : ChangeSpec := { name := "fnExactIsCheckPlace", fn := fun _ => fun
  | [d1, d2] => { results := [.lit (.bool true)], args := [d1, d2] }
  | _ => none }
def fnExactIsCheckPlaceRow : OpenClaim := { program := "ytakkehjfdeghoab", sum := "878f43da84e7390ebe1d05b1581e9b6bee8e2a385c9d1bba4b8e87e179c679ba", func := "loop.example/g01130/laws.FnExactIsCheckPlace", spec := "fnExactIsCheckPlace", unfollowed := true, recurses := true, apart := false }
def FnExactIsCheckPlaceSaid : Prop := fnExactIsCheckPlaceRow.holds Try.pinned (OpenSpec.ofChange fnExactIsCheckPlaceSpec)

/-- ITS FALSE NEIGHBOUR: 'it returns false'. Refute it at one input. -/
def fnExactIsCheckPlaceWrong : ChangeSpec := { name := "fnExactIsCheckPlace", fn := fun _ => fun
  | [d1, d2] => { results := [.lit (.bool false)], args := [d1, d2] }
  | _ => none }
def FnExactIsCheckPlaceWrongFalsely : Prop := fnExactIsCheckPlaceRow.holds Try.pinned (OpenSpec.ofChange fnExactIsCheckPlaceWrong)

/-- 'laws.FnExactMirrorWeighting': WHATEVER THE INPUT: true; the input reads as it did. -/
def fnExactMirrorWeightingSpec : ChangeSpec := { name := "fnExactMirrorWeighting", fn := fun _ => fun
  | [d] => { results := [.lit (.bool true)], args := [d] }
  | _ => none }
def fnExactMirrorWeightingRow : OpenClaim := { program := "ytakkehjfdeghoab", sum := "878f43da84e7390ebe1d05b1581e9b6bee8e2a385c9d1bba4b8e87e179c679ba", func := "loop.example/g01130/laws.FnExactMirrorWeighting", spec := "fnExactMirrorWeighting", apart := false }
def FnExactMirrorWeightingSaid : Prop := fnExactMirrorWeightingRow.holds Try.pinned (OpenSpec.ofChange fnExactMirrorWeightingSpec)

/-- ITS FALSE NEIGHBOUR: 'it returns false'. Refute it at one input. -/
def fnExactMirrorWeightingWrong : ChangeSpec := { name := "fnExactMirrorWeighting", fn := fun _ => fun
  | [d] => { results := [.lit (.bool false)], args := [d] }
  | _ => none }
def FnExactMirrorWeightingWrongFalsely : Prop := fnExactMirrorWeightingRow.holds Try.pinned (OpenSpec.ofChange fnExactMirrorWeightingWrong)

/-- 'laws.FnExactScaleWeighting': WHATEVER THE INPUT: true; the input reads as it did. -/
def fnExactScaleWeightingSpec : ChangeSpec := { name := "fnExactScaleWeighting", fn := fun _ => fun
  | [d1, d2] => { results := [.lit (.bool true)], args := [d1, d2] }
  | _ => none }
def fnExactScaleWeightingRow : OpenClaim := { program := "ytakkehjfdeghoab", sum := "878f43da84e7390ebe1d05b1581e9b6bee8e2a385c9d1bba4b8e87e179c679ba", func := "loop.example/g01130/laws.FnExactScaleWeighting", spec := "fnExactScaleWeighting", apart := false }
def FnExactScaleWeightingSaid : Prop := fnExactScaleWeightingRow.holds Try.pinned (OpenSpec.ofChange fnExactScaleWeightingSpec)

/-- ITS FALSE NEIGHBOUR: 'it returns false'. Refute it at one input. -/
def fnExactScaleWeightingWrong : ChangeSpec := { name := "fnExactScaleWeighting", fn := fun _ => fun
  | [d1, d2] => { results := [.lit (.bool false)], args := [d1, d2] }
  | _ => none }
def FnExactScaleWeightingWrongFalsely : Prop := fnExactScaleWeightingRow.holds Try.pinned (OpenSpec.ofChange fnExactScaleWeightingWrong)

/-- 'laws.FnExactValidPermuting': WHATEVER THE INPUT: true; the input reads as it did. -/
def fnExactValidPermutingSpec : ChangeSpec := { name := "fnExactValidPermuting", fn := fun _ => fun
  | [d] => { results := [.lit (.bool true)], args := [d] }
  | _ => none }
def fnExactValidPermutingRow : OpenClaim := { program := "ytakkehjfdeghoab", sum := "878f43da84e7390ebe1d05b1581e9b6bee8e2a385c9d1bba4b8e87e179c679ba", func := "loop.example/g01130/laws.FnExactValidPermuting", spec := "fnExactValidPermuting", apart := false }
def FnExactValidPermutingSaid : Prop := fnExactValidPermutingRow.holds Try.pinned (OpenSpec.ofChange fnExactValidPermutingSpec)

/-- ITS FALSE NEIGHBOUR: 'it returns false'. Refute it at one input. -/
def fnExactValidPermutingWrong : ChangeSpec := { name := "fnExactValidPermuting", fn := fun _ => fun
  | [d] => { results := [.lit (.bool false)], args := [d] }
  | _ => none }
def FnExactValidPermutingWrongFalsely : Prop := fnExactValidPermutingRow.holds Try.pinned (OpenSpec.ofChange fnExactValidPermutingWrong)

/-- 'laws.FnExactPermutingChain': WHATEVER THE INPUT: true; the input reads as it did. -/
def fnExactPermutingChainSpec : ChangeSpec := { name := "fnExactPermutingChain", fn := fun _ => fun
  | [d] => { results := [.lit (.bool true)], args := [d] }
  | _ => none }
def fnExactPermutingChainRow : OpenClaim := { program := "ytakkehjfdeghoab", sum := "878f43da84e7390ebe1d05b1581e9b6bee8e2a385c9d1bba4b8e87e179c679ba", func := "loop.example/g01130/laws.FnExactPermutingChain", spec := "fnExactPermutingChain", unfollowed := true, recurses := true, apart := false }
def FnExactPermutingChainSaid : Prop := fnExactPermutingChainRow.holds Try.pinned (OpenSpec.ofChange fnExactPermutingChainSpec)

/-- ITS FALSE NEIGHBOUR: 'it returns false'. Refute it at one input. -/
def fnExactPermutingChainWrong : ChangeSpec := { name := "fnExactPermutingChain", fn := fun _ => fun
  | [d] => { results := [.lit (.bool false)], args := [d] }
  | _ => none }
def FnExactPermutingChainWrongFalsely : Prop := fnExactPermutingChainRow.holds Try.pinned (OpenSpec.ofChange fnExactPermutingChainWrong)

/- THE SECOND FORM. 'bulk': how many values and letters a reading holds, each counted each time it is reached (what is shared counts as often as it is met; a slice's spare places count too). A statement '..UptoSaid' is the law's where the arguments, and the package variables that the reading takes, are together of bulk at most 1048576: NARROWER than '..Said'. Prove '..Said' where nothing that the law and all that it calls make is longer than what came in: it says more and counts as full. Else prove '..UptoSaid'. A law counts once. -/
mutual
def uptoBulk {H : Type} : DataW H → Nat
  | .lit (.string bytes) => bytes.length + 1
  | .lit _ => 1
  | .nil => 1
  | .ptr d => uptoBulk d + 1
  | .slice elems spare => uptoBulkAll elems + uptoBulkAll spare + 1
  | .agg parts => uptoBulkAll parts + 1
  | .iface _ d => uptoBulk d + 1
  | .map entries => uptoBulkEntries entries + 1
  | .held _ => 1
def uptoBulkAll {H : Type} : List (DataW H) → Nat
  | [] => 0
  | d :: r => uptoBulk d + uptoBulkAll r
def uptoBulkEntries {H : Type} : List (Lit × DataW H) → Nat
  | [] => 0
  | x :: r => uptoBulkEntry x + uptoBulkEntries r
def uptoBulkEntry {H : Type} : Lit × DataW H → Nat
  | (.string bytes, d) => bytes.length + uptoBulk d + 1
  | (_, d) => uptoBulk d + 1
 end
def uptoSmall : (H : Type) → List (DataW H) → Bool := fun _ ds => decide (uptoBulkAll ds ≤ 1048576)
def OpenSpec.upto (s : _root_.Go.ChangeSpec) : _root_.Go.OpenSpec := { _root_.Go.OpenSpec.ofChange s with cond := some uptoSmall }

/-- 'laws.FnExactJoinChains', WHERE WHAT IT READS IS OF BULK AT MOST 1048576: true; the input reads as it did. -/
def fnExactJoinChainsUptoRow : OpenClaim := { program := "ytakkehjfdeghoab", sum := "878f43da84e7390ebe1d05b1581e9b6bee8e2a385c9d1bba4b8e87e179c679ba", func := "loop.example/g01130/laws.FnExactJoinChains", spec := "fnExactJoinChains", apart := false, narrowed := true }
def FnExactJoinChainsUptoSaid : Prop := fnExactJoinChainsUptoRow.holds Try.pinned (OpenSpec.upto fnExactJoinChainsSpec)

/-- 'laws.FnExactEvenChain', WHERE WHAT IT READS IS OF BULK AT MOST 1048576: true; the input reads as it did. -/
def fnExactEvenChainUptoRow : OpenClaim := { program := "ytakkehjfdeghoab", sum := "878f43da84e7390ebe1d05b1581e9b6bee8e2a385c9d1bba4b8e87e179c679ba", func := "loop.example/g01130/laws.FnExactEvenChain", spec := "fnExactEvenChain", apart := false, narrowed := true }
def FnExactEvenChainUptoSaid : Prop := fnExactEvenChainUptoRow.holds Try.pinned (OpenSpec.upto fnExactEvenChainSpec)

/-- 'laws.FnExactValidWeighting', WHERE WHAT IT READS IS OF BULK AT MOST 1048576: true; the input reads as it did. -/
def fnExactValidWeightingUptoRow : OpenClaim := { program := "ytakkehjfdeghoab", sum := "878f43da84e7390ebe1d05b1581e9b6bee8e2a385c9d1bba4b8e87e179c679ba", func := "loop.example/g01130/laws.FnExactValidWeighting", spec := "fnExactValidWeighting", apart := false, narrowed := true }
def FnExactValidWeightingUptoSaid : Prop := fnExactValidWeightingUptoRow.holds Try.pinned (OpenSpec.upto fnExactValidWeightingSpec)

/-- 'laws.FnExactWeightSum', WHERE WHAT IT READS IS OF BULK AT MOST 1048576: true; the input reads as it did. -/
def fnExactWeightSumUptoRow : OpenClaim := { program := "ytakkehjfdeghoab", sum := "878f43da84e7390ebe1d05b1581e9b6bee8e2a385c9d1bba4b8e87e179c679ba", func := "loop.example/g01130/laws.FnExactWeightSum", spec := "fnExactWeightSum", inPlace := ["internal/bytealg.IndexByteString", "internal/bytealg.IndexString"], named := ["internal/bytealg.MaxLen"], apart := false, narrowed := true }
def FnExactWeightSumUptoSaid : Prop := fnExactWeightSumUptoRow.holds Try.pinned (OpenSpec.upto fnExactWeightSumSpec)

/-- 'laws.FnExactWeightChain', WHERE WHAT IT READS IS OF BULK AT MOST 1048576: true; the input reads as it did. -/
def fnExactWeightChainUptoRow : OpenClaim := { program := "ytakkehjfdeghoab", sum := "878f43da84e7390ebe1d05b1581e9b6bee8e2a385c9d1bba4b8e87e179c679ba", func := "loop.example/g01130/laws.FnExactWeightChain", spec := "fnExactWeightChain", unfollowed := true, recurses := true, apart := false, narrowed := true }
def FnExactWeightChainUptoSaid : Prop := fnExactWeightChainUptoRow.holds Try.pinned (OpenSpec.upto fnExactWeightChainSpec)

/-- 'laws.FnExactUnseenPairs', WHERE WHAT IT READS IS OF BULK AT MOST 1048576: true; the input reads as it did. -/
def fnExactUnseenPairsUptoRow : OpenClaim := { program := "ytakkehjfdeghoab", sum := "878f43da84e7390ebe1d05b1581e9b6bee8e2a385c9d1bba4b8e87e179c679ba", func := "loop.example/g01130/laws.FnExactUnseenPairs", spec := "fnExactUnseenPairs", unfollowed := true, recurses := true, apart := false, narrowed := true }
def FnExactUnseenPairsUptoSaid : Prop := fnExactUnseenPairsUptoRow.holds Try.pinned (OpenSpec.upto fnExactUnseenPairsSpec)

/-- 'laws.FnExactWeightCatches', WHERE WHAT IT READS IS OF BULK AT MOST 1048576: true; the input reads as it did. -/
def fnExactWeightCatchesUptoRow : OpenClaim := { program := "ytakkehjfdeghoab", sum := "878f43da84e7390ebe1d05b1581e9b6bee8e2a385c9d1bba4b8e87e179c679ba", func := "loop.example/g01130/laws.FnExactWeightCatches", spec := "fnExactWeightCatches", unfollowed := true, recurses := true, apart := false, narrowed := true }
def FnExactWeightCatchesUptoSaid : Prop := fnExactWeightCatchesUptoRow.holds Try.pinned (OpenSpec.upto fnExactWeightCatchesSpec)

/-- 'laws.FnExactIsCheckPlace', WHERE WHAT IT READS IS OF BULK AT MOST 1048576: true; the input reads as it did. -/
def fnExactIsCheckPlaceUptoRow : OpenClaim := { program := "ytakkehjfdeghoab", sum := "878f43da84e7390ebe1d05b1581e9b6bee8e2a385c9d1bba4b8e87e179c679ba", func := "loop.example/g01130/laws.FnExactIsCheckPlace", spec := "fnExactIsCheckPlace", unfollowed := true, recurses := true, apart := false, narrowed := true }
def FnExactIsCheckPlaceUptoSaid : Prop := fnExactIsCheckPlaceUptoRow.holds Try.pinned (OpenSpec.upto fnExactIsCheckPlaceSpec)

/-- 'laws.FnExactMirrorWeighting', WHERE WHAT IT READS IS OF BULK AT MOST 1048576: true; the input reads as it did. -/
def fnExactMirrorWeightingUptoRow : OpenClaim := { program := "ytakkehjfdeghoab", sum := "878f43da84e7390ebe1d05b1581e9b6bee8e2a385c9d1bba4b8e87e179c679ba", func := "loop.example/g01130/laws.FnExactMirrorWeighting", spec := "fnExactMirrorWeighting", apart := false, narrowed := true }
def FnExactMirrorWeightingUptoSaid : Prop := fnExactMirrorWeightingUptoRow.holds Try.pinned (OpenSpec.upto fnExactMirrorWeightingSpec)

/-- 'laws.FnExactScaleWeighting', WHERE WHAT IT READS IS OF BULK AT MOST 1048576: true; the input reads as it did. -/
def fnExactScaleWeightingUptoRow : OpenClaim := { program := "ytakkehjfdeghoab", sum := "878f43da84e7390ebe1d05b1581e9b6bee8e2a385c9d1bba4b8e87e179c679ba", func := "loop.example/g01130/laws.FnExactScaleWeighting", spec := "fnExactScaleWeighting", apart := false, narrowed := true }
def FnExactScaleWeightingUptoSaid : Prop := fnExactScaleWeightingUptoRow.holds Try.pinned (OpenSpec.upto fnExactScaleWeightingSpec)

/-- 'laws.FnExactValidPermuting', WHERE WHAT IT READS IS OF BULK AT MOST 1048576: true; the input reads as it did. -/
def fnExactValidPermutingUptoRow : OpenClaim := { program := "ytakkehjfdeghoab", sum := "878f43da84e7390ebe1d05b1581e9b6bee8e2a385c9d1bba4b8e87e179c679ba", func := "loop.example/g01130/laws.FnExactValidPermuting", spec := "fnExactValidPermuting", apart := false, narrowed := true }
def FnExactValidPermutingUptoSaid : Prop := fnExactValidPermutingUptoRow.holds Try.pinned (OpenSpec.upto fnExactValidPermutingSpec)

/-- 'laws.FnExactPermutingChain', WHERE WHAT IT READS IS OF BULK AT MOST 1048576: true; the input reads as it did. -/
def fnExactPermutingChainUptoRow : OpenClaim := { program := "ytakkehjfdeghoab", sum := "878f43da84e7390ebe1d05b1581e9b6bee8e2a385c9d1bba4b8e87e179c679ba", func := "loop.example/g01130/laws.FnExactPermutingChain", spec := "fnExactPermutingChain", unfollowed := true, recurses := true, apart := false, narrowed := true }
def FnExactPermutingChainUptoSaid : Prop := fnExactPermutingChainUptoRow.holds Try.pinned (OpenSpec.upto fnExactPermutingChainSpec)

end Rows
end Go.Proofs.Ytakkehjfdeghoab
