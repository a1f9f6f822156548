/-
  No cell of these rows narrows 'for every input' (looked for: loops, veiled, ifaces, maps, wideKeys, modest, calm, conditions, laid).
  DERIVED. THE GIVEN ROWS OF THIS SEAT. 10 by the template 'for every input the law returns true; each argument reads behind the call as it read before'; 0 by the template 'total and deterministic' (their statements: YtiokcflomchdcabTotals.lean).
  GIVEN WITH THE SEED: the statements are not yours to turn. If you find one false, say at which input.
  Laid BY PROGRAM, IN A SANDBOX (cutbox-rows.mjs): the forced cells as the released guide's own fill.sh prints them over the translation 33210559e3baa1a1… (all of the seat's roots in one cut). By AI agents, Wed Nov 11 2026. No macro, syntax, notation, axiom, sorry.
-/
import Derived.Test.YtiokcflomchdcabChecked
import GoSem.Claim
import GoSem.ClaimJoined
import GoSem.ClaimMapViews
import Derived.JoinedTies
import Derived.KernelRfl
namespace Go.Proofs.Ytiokcflomchdcab
/- THE CELL 'sum', in the pinned program and in every row, IS THE sha256 OF THE DUMP (.gsa) THAT YtiokcflomchdcabProg.lean LOADS. Nothing in Lean hashes anything: it is a label: what it is worth is what the hold of that sum in a sandbox is worth. -/
noncomputable def Try.pinned : Pinned := { name := "ytiokcflomchdcab", sum := "33210559e3baa1a1d3ed8182254292f81e886e80d17c7e39719b84c2953005b8", checked := Try.checked }
namespace Rows
def none {H : Type} : Left H := { results := [], args := [] }

/-- 'laws.FnExactZeroDiagonal': WHATEVER THE INPUT: true; the input reads as it did. -/
def fnExactZeroDiagonalSpec : ChangeSpec := { name := "fnExactZeroDiagonal", fn := fun _ => fun
  | [d] => { results := [.lit (.bool true)], args := [d] }
  | _ => none }
def fnExactZeroDiagonalRow : OpenClaim := { program := "ytiokcflomchdcab", sum := "33210559e3baa1a1d3ed8182254292f81e886e80d17c7e39719b84c2953005b8", func := "loop.example/g01130/laws.FnExactZeroDiagonal", spec := "fnExactZeroDiagonal", unfollowed := true, recurses := true, apart := false }
def FnExactZeroDiagonalSaid : Prop := fnExactZeroDiagonalRow.holds Try.pinned (OpenSpec.ofChange fnExactZeroDiagonalSpec)

/-- ITS FALSE NEIGHBOUR: 'it returns false'. Refute it at one input. -/
def fnExactZeroDiagonalWrong : ChangeSpec := { name := "fnExactZeroDiagonal", fn := fun _ => fun
  | [d] => { results := [.lit (.bool false)], args := [d] }
  | _ => none }
def FnExactZeroDiagonalWrongFalsely : Prop := fnExactZeroDiagonalRow.holds Try.pinned (OpenSpec.ofChange fnExactZeroDiagonalWrong)

/-- 'laws.FnExactSwapClashes': WHATEVER THE INPUT: true; the input reads as it did. -/
def fnExactSwapClashesSpec : ChangeSpec := { name := "fnExactSwapClashes", fn := fun _ => fun
  | [d] => { results := [.lit (.bool true)], args := [d] }
  | _ => none }
def fnExactSwapClashesRow : OpenClaim := { program := "ytiokcflomchdcab", sum := "33210559e3baa1a1d3ed8182254292f81e886e80d17c7e39719b84c2953005b8", func := "loop.example/g01130/laws.FnExactSwapClashes", spec := "fnExactSwapClashes", unfollowed := true, recurses := true, apart := false }
def FnExactSwapClashesSaid : Prop := fnExactSwapClashesRow.holds Try.pinned (OpenSpec.ofChange fnExactSwapClashesSpec)

/-- ITS FALSE NEIGHBOUR: 'it returns false'. Refute it at one input. -/
def fnExactSwapClashesWrong : ChangeSpec := { name := "fnExactSwapClashes", fn := fun _ => fun
  | [d] => { results := [.lit (.bool false)], args := [d] }
  | _ => none }
def FnExactSwapClashesWrongFalsely : Prop := fnExactSwapClashesRow.holds Try.pinned (OpenSpec.ofChange fnExactSwapClashesWrong)

/-- 'laws.FnExactChainClashes': WHATEVER THE INPUT: true; the input reads as it did. -/
def fnExactChainClashesSpec : ChangeSpec := { name := "fnExactChainClashes", fn := fun _ => fun
  | [d] => { results := [.lit (.bool true)], args := [d] }
  | _ => none }
def fnExactChainClashesRow : OpenClaim := { program := "ytiokcflomchdcab", sum := "33210559e3baa1a1d3ed8182254292f81e886e80d17c7e39719b84c2953005b8", func := "loop.example/g01130/laws.FnExactChainClashes", spec := "fnExactChainClashes", unfollowed := true, recurses := true, apart := false }
def FnExactChainClashesSaid : Prop := fnExactChainClashesRow.holds Try.pinned (OpenSpec.ofChange fnExactChainClashesSpec)

/-- ITS FALSE NEIGHBOUR: 'it returns false'. Refute it at one input. -/
def fnExactChainClashesWrong : ChangeSpec := { name := "fnExactChainClashes", fn := fun _ => fun
  | [d] => { results := [.lit (.bool false)], args := [d] }
  | _ => none }
def FnExactChainClashesWrongFalsely : Prop := fnExactChainClashesRow.holds Try.pinned (OpenSpec.ofChange fnExactChainClashesWrong)

/-- 'laws.FnExactIsTotally': WHATEVER THE INPUT: true; the input reads as it did. -/
def fnExactIsTotallySpec : ChangeSpec := { name := "fnExactIsTotally", fn := fun _ => fun
  | [d] => { results := [.lit (.bool true)], args := [d] }
  | _ => none }
def fnExactIsTotallyRow : OpenClaim := { program := "ytiokcflomchdcab", sum := "33210559e3baa1a1d3ed8182254292f81e886e80d17c7e39719b84c2953005b8", func := "loop.example/g01130/laws.FnExactIsTotally", spec := "fnExactIsTotally", unfollowed := true, recurses := true, apart := false }
def FnExactIsTotallySaid : Prop := fnExactIsTotallyRow.holds Try.pinned (OpenSpec.ofChange fnExactIsTotallySpec)

/-- ITS FALSE NEIGHBOUR: 'it returns false'. Refute it at one input. -/
def fnExactIsTotallyWrong : ChangeSpec := { name := "fnExactIsTotally", fn := fun _ => fun
  | [d] => { results := [.lit (.bool false)], args := [d] }
  | _ => none }
def FnExactIsTotallyWrongFalsely : Prop := fnExactIsTotallyRow.holds Try.pinned (OpenSpec.ofChange fnExactIsTotallyWrong)

/-- 'laws.FnExactLinearTable': WHATEVER THE INPUT: true; the input reads as it did. -/
def fnExactLinearTableSpec : ChangeSpec := { name := "fnExactLinearTable", fn := fun _ => fun
  | [d1, d2, d3, d4] => { results := [.lit (.bool true)], args := [d1, d2, d3, d4] }
  | _ => none }
def fnExactLinearTableRow : OpenClaim := { program := "ytiokcflomchdcab", sum := "33210559e3baa1a1d3ed8182254292f81e886e80d17c7e39719b84c2953005b8", func := "loop.example/g01130/laws.FnExactLinearTable", spec := "fnExactLinearTable", unfollowed := true, recurses := true, apart := false }
def FnExactLinearTableSaid : Prop := fnExactLinearTableRow.holds Try.pinned (OpenSpec.ofChange fnExactLinearTableSpec)

/-- ITS FALSE NEIGHBOUR: 'it returns false'. Refute it at one input. -/
def fnExactLinearTableWrong : ChangeSpec := { name := "fnExactLinearTable", fn := fun _ => fun
  | [d1, d2, d3, d4] => { results := [.lit (.bool false)], args := [d1, d2, d3, d4] }
  | _ => none }
def FnExactLinearTableWrongFalsely : Prop := fnExactLinearTableRow.holds Try.pinned (OpenSpec.ofChange fnExactLinearTableWrong)

/-- 'laws.FnExactProductTable': WHATEVER THE INPUT: true; the input reads as it did. -/
def fnExactProductTableSpec : ChangeSpec := { name := "fnExactProductTable", fn := fun _ => fun
  | [d1, d2] => { results := [.lit (.bool true)], args := [d1, d2] }
  | _ => none }
def fnExactProductTableRow : OpenClaim := { program := "ytiokcflomchdcab", sum := "33210559e3baa1a1d3ed8182254292f81e886e80d17c7e39719b84c2953005b8", func := "loop.example/g01130/laws.FnExactProductTable", spec := "fnExactProductTable", unfollowed := true, recurses := true, apart := false }
def FnExactProductTableSaid : Prop := fnExactProductTableRow.holds Try.pinned (OpenSpec.ofChange fnExactProductTableSpec)

/-- ITS FALSE NEIGHBOUR: 'it returns false'. Refute it at one input. -/
def fnExactProductTableWrong : ChangeSpec := { name := "fnExactProductTable", fn := fun _ => fun
  | [d1, d2] => { results := [.lit (.bool false)], args := [d1, d2] }
  | _ => none }
def FnExactProductTableWrongFalsely : Prop := fnExactProductTableRow.holds Try.pinned (OpenSpec.ofChange fnExactProductTableWrong)

/-- 'laws.FnExactFirstTotally': WHATEVER THE INPUT: true; the input reads as it did. -/
def fnExactFirstTotallySpec : ChangeSpec := { name := "fnExactFirstTotally", fn := fun _ => fun
  | [d] => { results := [.lit (.bool true)], args := [d] }
  | _ => none }
def fnExactFirstTotallyRow : OpenClaim := { program := "ytiokcflomchdcab", sum := "33210559e3baa1a1d3ed8182254292f81e886e80d17c7e39719b84c2953005b8", func := "loop.example/g01130/laws.FnExactFirstTotally", spec := "fnExactFirstTotally", unfollowed := true, recurses := true, apart := false }
def FnExactFirstTotallySaid : Prop := fnExactFirstTotallyRow.holds Try.pinned (OpenSpec.ofChange fnExactFirstTotallySpec)

/-- ITS FALSE NEIGHBOUR: 'it returns false'. Refute it at one input. -/
def fnExactFirstTotallyWrong : ChangeSpec := { name := "fnExactFirstTotally", fn := fun _ => fun
  | [d] => { results := [.lit (.bool false)], args := [d] }
  | _ => none }
def FnExactFirstTotallyWrongFalsely : Prop := fnExactFirstTotallyRow.holds Try.pinned (OpenSpec.ofChange fnExactFirstTotallyWrong)

/-- 'laws.FnExactCountTotally': WHATEVER THE INPUT: true; the input reads as it did. -/
def fnExactCountTotallySpec : ChangeSpec := { name := "fnExactCountTotally", fn := fun _ => fun
  | [d] => { results := [.lit (.bool true)], args := [d] }
  | _ => none }
def fnExactCountTotallyRow : OpenClaim := { program := "ytiokcflomchdcab", sum := "33210559e3baa1a1d3ed8182254292f81e886e80d17c7e39719b84c2953005b8", func := "loop.example/g01130/laws.FnExactCountTotally", spec := "fnExactCountTotally", unfollowed := true, recurses := true, apart := false }
def FnExactCountTotallySaid : Prop := fnExactCountTotallyRow.holds Try.pinned (OpenSpec.ofChange fnExactCountTotallySpec)

/-- ITS FALSE NEIGHBOUR: 'it returns false'. Refute it at one input. -/
def fnExactCountTotallyWrong : ChangeSpec := { name := "fnExactCountTotally", fn := fun _ => fun
  | [d] => { results := [.lit (.bool false)], args := [d] }
  | _ => none }
def FnExactCountTotallyWrongFalsely : Prop := fnExactCountTotallyRow.holds Try.pinned (OpenSpec.ofChange fnExactCountTotallyWrong)

/-- 'laws.FnExactTableChain': WHATEVER THE INPUT: true; the input reads as it did. -/
def fnExactTableChainSpec : ChangeSpec := { name := "fnExactTableChain", fn := fun _ => fun
  | [d1, d2] => { results := [.lit (.bool true)], args := [d1, d2] }
  | _ => none }
def fnExactTableChainRow : OpenClaim := { program := "ytiokcflomchdcab", sum := "33210559e3baa1a1d3ed8182254292f81e886e80d17c7e39719b84c2953005b8", func := "loop.example/g01130/laws.FnExactTableChain", spec := "fnExactTableChain", apart := false }
def FnExactTableChainSaid : Prop := fnExactTableChainRow.holds Try.pinned (OpenSpec.ofChange fnExactTableChainSpec)

/-- ITS FALSE NEIGHBOUR: 'it returns false'. Refute it at one input. -/
def fnExactTableChainWrong : ChangeSpec := { name := "fnExactTableChain", fn := fun _ => fun
  | [d1, d2] => { results := [.lit (.bool false)], args := [d1, d2] }
  | _ => none }
def FnExactTableChainWrongFalsely : Prop := fnExactTableChainRow.holds Try.pinned (OpenSpec.ofChange fnExactTableChainWrong)

/-- 'laws.FnExactTableText': WHATEVER THE INPUT: true; the input reads as it did. -/
def fnExactTableTextSpec : ChangeSpec := { name := "fnExactTableText", fn := fun _ => fun
  | [d] => { results := [.lit (.bool true)], args := [d] }
  | _ => none }
def fnExactTableTextRow : OpenClaim := { program := "ytiokcflomchdcab", sum := "33210559e3baa1a1d3ed8182254292f81e886e80d17c7e39719b84c2953005b8", func := "loop.example/g01130/laws.FnExactTableText", spec := "fnExactTableText", inPlace := ["internal/bytealg.MakeNoZero"], unfollowed := true, recurses := true, apart := false }
def FnExactTableTextSaid : Prop := fnExactTableTextRow.holds Try.pinned (OpenSpec.ofChange fnExactTableTextSpec)

/-- ITS FALSE NEIGHBOUR: 'it returns false'. Refute it at one input. -/
def fnExactTableTextWrong : ChangeSpec := { name := "fnExactTableText", fn := fun _ => fun
  | [d] => { results := [.lit (.bool false)], args := [d] }
  | _ => none }
def FnExactTableTextWrongFalsely : Prop := fnExactTableTextRow.holds Try.pinned (OpenSpec.ofChange fnExactTableTextWrong)

/- THE SECOND FORM. 'bulk': how many values and letters a reading holds, each counted each time it is reached (what is shared counts as often as it is met; a slice's spare places count too). A statement '..UptoSaid' is the law's where the arguments, and the package variables that the reading takes, are together of bulk at most 1048576: NARROWER than '..Said'. Prove '..Said' where nothing that the law and all that it calls make is longer than what came in: it says more and counts as full. Else prove '..UptoSaid'. A law counts once. -/
mutual
def uptoBulk {H : Type} : DataW H → Nat
  | .lit (.string bytes) => bytes.length + 1
  | .lit _ => 1
  | .nil => 1
  | .ptr d => uptoBulk d + 1
  | .slice elems spare => uptoBulkAll elems + uptoBulkAll spare + 1
  | .agg parts => uptoBulkAll parts + 1
  | .iface _ d => uptoBulk d + 1
  | .map entries => uptoBulkEntries entries + 1
  | .held _ => 1
def uptoBulkAll {H : Type} : List (DataW H) → Nat
  | [] => 0
  | d :: r => uptoBulk d + uptoBulkAll r
def uptoBulkEntries {H : Type} : List (Lit × DataW H) → Nat
  | [] => 0
  | x :: r => uptoBulkEntry x + uptoBulkEntries r
def uptoBulkEntry {H : Type} : Lit × DataW H → Nat
  | (.string bytes, d) => bytes.length + uptoBulk d + 1
  | (_, d) => uptoBulk d + 1
 end
def uptoSmall : (H : Type) → List (DataW H) → Bool := fun _ ds => decide (uptoBulkAll ds ≤ 1048576)
def OpenSpec.upto (s : _root_.Go.ChangeSpec) : _root_.Go.OpenSpec := { _root_.Go.OpenSpec.ofChange s with cond := some uptoSmall }

/-- 'laws.FnExactZeroDiagonal', WHERE WHAT IT READS IS OF BULK AT MOST 1048576: true; the input reads as it did. -/
def fnExactZeroDiagonalUptoRow : OpenClaim := { program := "ytiokcflomchdcab", sum := "33210559e3baa1a1d3ed8182254292f81e886e80d17c7e39719b84c2953005b8", func := "loop.example/g01130/laws.FnExactZeroDiagonal", spec := "fnExactZeroDiagonal", unfollowed := true, recurses := true, apart := false, narrowed := true }
def FnExactZeroDiagonalUptoSaid : Prop := fnExactZeroDiagonalUptoRow.holds Try.pinned (OpenSpec.upto fnExactZeroDiagonalSpec)

/-- 'laws.FnExactSwapClashes', WHERE WHAT IT READS IS OF BULK AT MOST 1048576: true; the input reads as it did. -/
def fnExactSwapClashesUptoRow : OpenClaim := { program := "ytiokcflomchdcab", sum := "33210559e3baa1a1d3ed8182254292f81e886e80d17c7e39719b84c2953005b8", func := "loop.example/g01130/laws.FnExactSwapClashes", spec := "fnExactSwapClashes", unfollowed := true, recurses := true, apart := false, narrowed := true }
def FnExactSwapClashesUptoSaid : Prop := fnExactSwapClashesUptoRow.holds Try.pinned (OpenSpec.upto fnExactSwapClashesSpec)

/-- 'laws.FnExactChainClashes', WHERE WHAT IT READS IS OF BULK AT MOST 1048576: true; the input reads as it did. -/
def fnExactChainClashesUptoRow : OpenClaim := { program := "ytiokcflomchdcab", sum := "33210559e3baa1a1d3ed8182254292f81e886e80d17c7e39719b84c2953005b8", func := "loop.example/g01130/laws.FnExactChainClashes", spec := "fnExactChainClashes", unfollowed := true, recurses := true, apart := false, narrowed := true }
def FnExactChainClashesUptoSaid : Prop := fnExactChainClashesUptoRow.holds Try.pinned (OpenSpec.upto fnExactChainClashesSpec)

/-- 'laws.FnExactIsTotally', WHERE WHAT IT READS IS OF BULK AT MOST 1048576: true; the input reads as it did. -/
def fnExactIsTotallyUptoRow : OpenClaim := { program := "ytiokcflomchdcab", sum := "33210559e3baa1a1d3ed8182254292f81e886e80d17c7e39719b84c2953005b8", func := "loop.example/g01130/laws.FnExactIsTotally", spec := "fnExactIsTotally", unfollowed := true, recurses := true, apart := false, narrowed := true }
def FnExactIsTotallyUptoSaid : Prop := fnExactIsTotallyUptoRow.holds Try.pinned (OpenSpec.upto fnExactIsTotallySpec)

/-- 'laws.FnExactLinearTable', WHERE WHAT IT READS IS OF BULK AT MOST 1048576: true; the input reads as it did. -/
def fnExactLinearTableUptoRow : OpenClaim := { program := "ytiokcflomchdcab", sum := "33210559e3baa1a1d3ed8182254292f81e886e80d17c7e39719b84c2953005b8", func := "loop.example/g01130/laws.FnExactLinearTable", spec := "fnExactLinearTable", unfollowed := true, recurses := true, apart := false, narrowed := true }
def FnExactLinearTableUptoSaid : Prop := fnExactLinearTableUptoRow.holds Try.pinned (OpenSpec.upto fnExactLinearTableSpec)

/-- 'laws.FnExactProductTable', WHERE WHAT IT READS IS OF BULK AT MOST 1048576: true; the input reads as it did. -/
def fnExactProductTableUptoRow : OpenClaim := { program := "ytiokcflomchdcab", sum := "33210559e3baa1a1d3ed8182254292f81e886e80d17c7e39719b84c2953005b8", func := "loop.example/g01130/laws.FnExactProductTable", spec := "fnExactProductTable", unfollowed := true, recurses := true, apart := false, narrowed := true }
def FnExactProductTableUptoSaid : Prop := fnExactProductTableUptoRow.holds Try.pinned (OpenSpec.upto fnExactProductTableSpec)

/-- 'laws.FnExactFirstTotally', WHERE WHAT IT READS IS OF BULK AT MOST 1048576: true; the input reads as it did. -/
def fnExactFirstTotallyUptoRow : OpenClaim := { program := "ytiokcflomchdcab", sum := "33210559e3baa1a1d3ed8182254292f81e886e80d17c7e39719b84c2953005b8", func := "loop.example/g01130/laws.FnExactFirstTotally", spec := "fnExactFirstTotally", unfollowed := true, recurses := true, apart := false, narrowed := true }
def FnExactFirstTotallyUptoSaid : Prop := fnExactFirstTotallyUptoRow.holds Try.pinned (OpenSpec.upto fnExactFirstTotallySpec)

/-- 'laws.FnExactCountTotally', WHERE WHAT IT READS IS OF BULK AT MOST 1048576: true; the input reads as it did. -/
def fnExactCountTotallyUptoRow : OpenClaim := { program := "ytiokcflomchdcab", sum := "33210559e3baa1a1d3ed8182254292f81e886e80d17c7e39719b84c2953005b8", func := "loop.example/g01130/laws.FnExactCountTotally", spec := "fnExactCountTotally", unfollowed := true, recurses := true, apart := false, narrowed := true }
def FnExactCountTotallyUptoSaid : Prop := fnExactCountTotallyUptoRow.holds Try.pinned (OpenSpec.upto fnExactCountTotallySpec)

/-- 'laws.FnExactTableChain', WHERE WHAT IT READS IS OF BULK AT MOST 1048576: true; the input reads as it did. -/
def fnExactTableChainUptoRow : OpenClaim := { program := "ytiokcflomchdcab", sum := "33210559e3baa1a1d3ed8182254292f81e886e80d17c7e39719b84c2953005b8", func := "loop.example/g01130/laws.FnExactTableChain", spec := "fnExactTableChain", apart := false, narrowed := true }
def FnExactTableChainUptoSaid : Prop := fnExactTableChainUptoRow.holds Try.pinned (OpenSpec.upto fnExactTableChainSpec)

/-- 'laws.FnExactTableText', WHERE WHAT IT READS IS OF BULK AT MOST 1048576: true; the input reads as it did. -/
def fnExactTableTextUptoRow : OpenClaim := { program := "ytiokcflomchdcab", sum := "33210559e3baa1a1d3ed8182254292f81e886e80d17c7e39719b84c2953005b8", func := "loop.example/g01130/laws.FnExactTableText", spec := "fnExactTableText", inPlace := ["internal/bytealg.MakeNoZero"], unfollowed := true, recurses := true, apart := false, narrowed := true }
def FnExactTableTextUptoSaid : Prop := fnExactTableTextUptoRow.holds Try.pinned (OpenSpec.upto fnExactTableTextSpec)

end Rows
end Go.Proofs.Ytiokcflomchdcab
