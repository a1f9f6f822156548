/-
  No cell of these rows narrows 'for every input' (looked for: loops, veiled, ifaces, maps, wideKeys, modest, calm, conditions, laid).
  DERIVED. THE GIVEN ROWS OF THIS SEAT. 7 by the template 'for every input the law returns true; each argument reads behind the call as it read before'; 0 by the template 'total and deterministic' (their statements: YtiegaebnlikjiaaTotals.lean).
  GIVEN WITH THE SEED: the statements are not yours to turn. If you find one false, say at which input.
  Laid BY PROGRAM, IN A SANDBOX (cutbox-rows.mjs): the forced cells as the released guide's own fill.sh prints them over the translation 5ace14d19c4e461e… (all of the seat's roots in one cut). By AI agents, Wed Nov 11 2026. No macro, syntax, notation, axiom, sorry.
-/
import Derived.Test.YtiegaebnlikjiaaChecked
import GoSem.Claim
import GoSem.ClaimJoined
import GoSem.ClaimMapViews
import Derived.JoinedTies
import Derived.KernelRfl
namespace Go.Proofs.Ytiegaebnlikjiaa
/- THE CELL 'sum', in the pinned program and in every row, IS THE sha256 OF THE DUMP (.gsa) THAT YtiegaebnlikjiaaProg.lean LOADS. Nothing in Lean hashes anything: it is a label: what it is worth is what the hold of that sum in a sandbox is worth. -/
noncomputable def Try.pinned : Pinned := { name := "ytiegaebnlikjiaa", sum := "5ace14d19c4e461ed4db6e8eb8fbefb1072cce4806bd8f1f2761fdb0dd4a89be", checked := Try.checked }
namespace Rows
def none {H : Type} : Left H := { results := [], args := [] }

/-- 'laws.FnExactWeightChain': WHATEVER THE INPUT: true; the input reads as it did. -/
def fnExactWeightChainSpec : ChangeSpec := { name := "fnExactWeightChain", fn := fun _ => fun
  | [d] => { results := [.lit (.bool true)], args := [d] }
  | _ => none }
def fnExactWeightChainRow : OpenClaim := { program := "ytiegaebnlikjiaa", sum := "5ace14d19c4e461ed4db6e8eb8fbefb1072cce4806bd8f1f2761fdb0dd4a89be", func := "loop.example/g01130/laws.FnExactWeightChain", spec := "fnExactWeightChain", unfollowed := true, recurses := true, apart := false }
def FnExactWeightChainSaid : Prop := fnExactWeightChainRow.holds Try.pinned (OpenSpec.ofChange fnExactWeightChainSpec)

/-- ITS FALSE NEIGHBOUR: 'it returns false'. Refute it at one input. -/
def fnExactWeightChainWrong : ChangeSpec := { name := "fnExactWeightChain", fn := fun _ => fun
  | [d] => { results := [.lit (.bool false)], args := [d] }
  | _ => none }
def FnExactWeightChainWrongFalsely : Prop := fnExactWeightChainRow.holds Try.pinned (OpenSpec.ofChange fnExactWeightChainWrong)

/-- 'laws.FnExactIsCheckPlace': WHATEVER THE INPUT: true; the input reads as it did. -/
def fnExactIsCheckPlaceSpec : ChangeSpec := { name := "fnExactIsCheckPlace", fn := fun _ => fun
  | [d1, d2] => { results := [.lit (.bool true)], args := [d1, d2] }
  | _ => none }
def fnExactIsCheckPlaceRow : OpenClaim := { program := "ytiegaebnlikjiaa", sum := "5ace14d19c4e461ed4db6e8eb8fbefb1072cce4806bd8f1f2761fdb0dd4a89be", func := "loop.example/g01130/laws.FnExactIsCheckPlace", spec := "fnExactIsCheckPlace", unfollowed := true, recurses := true, apart := false }
def FnExactIsCheckPlaceSaid : Prop := fnExactIsCheckPlaceRow.holds Try.pinned (OpenSpec.ofChange fnExactIsCheckPlaceSpec)

/-- ITS FALSE NEIGHBOUR: 'it returns false'. Refute it at one input. -/
def fnExactIsCheckPlaceWrong : ChangeSpec := { name := "fnExactIsCheckPlace", fn := fun _ => fun
  | [d1, d2] => { results := [.lit (.bool false)], args := [d1, d2] }
  | _ => none }
def FnExactIsCheckPlaceWrongFalsely : Prop := fnExactIsCheckPlaceRow.holds Try.pinned (OpenSpec.ofChange fnExactIsCheckPlaceWrong)

/-- 'laws.FnExactPermutingChain': WHATEVER THE INPUT: true; the input reads as it did. -/
def fnExactPermutingChainSpec : ChangeSpec := { name := "fnExactPermutingChain", fn := fun _ => fun
  | [d] => { results := [.lit (.bool true)], args := [d] }
  | _ => none }
def fnExactPermutingChainRow : OpenClaim := { program := "ytiegaebnlikjiaa", sum := "5ace14d19c4e461ed4db6e8eb8fbefb1072cce4806bd8f1f2761fdb0dd4a89be", func := "loop.example/g01130/laws.FnExactPermutingChain", spec := "fnExactPermutingChain", unfollowed := true, recurses := true, apart := false }
def FnExactPermutingChainSaid : Prop := fnExactPermutingChainRow.holds Try.pinned (OpenSpec.ofChange fnExactPermutingChainSpec)

/-- ITS FALSE NEIGHBOUR: 'it returns false'. Refute it at one input. -/
def fnExactPermutingChainWrong : ChangeSpec := { name := "fnExactPermutingChain", fn := fun _ => fun
  | [d] => { results := [.lit (.bool false)], args := [d] }
  | _ => none }
def FnExactPermutingChainWrongFalsely : Prop := fnExactPermutingChainRow.holds Try.pinned (OpenSpec.ofChange fnExactPermutingChainWrong)

/-- 'laws.FnExactGroupChain': WHATEVER THE INPUT: true; the input reads as it did. -/
def fnExactGroupChainSpec : ChangeSpec := { name := "fnExactGroupChain", fn := fun _ => fun
  | [d1, d2, d3] => { results := [.lit (.bool true)], args := [d1, d2, d3] }
  | _ => none }
def fnExactGroupChainRow : OpenClaim := { program := "ytiegaebnlikjiaa", sum := "5ace14d19c4e461ed4db6e8eb8fbefb1072cce4806bd8f1f2761fdb0dd4a89be", func := "loop.example/g01130/laws.FnExactGroupChain", spec := "fnExactGroupChain", unfollowed := true, recurses := true, apart := false }
def FnExactGroupChainSaid : Prop := fnExactGroupChainRow.holds Try.pinned (OpenSpec.ofChange fnExactGroupChainSpec)

/-- ITS FALSE NEIGHBOUR: 'it returns false'. Refute it at one input. -/
def fnExactGroupChainWrong : ChangeSpec := { name := "fnExactGroupChain", fn := fun _ => fun
  | [d1, d2, d3] => { results := [.lit (.bool false)], args := [d1, d2, d3] }
  | _ => none }
def FnExactGroupChainWrongFalsely : Prop := fnExactGroupChainRow.holds Try.pinned (OpenSpec.ofChange fnExactGroupChainWrong)

/-- 'laws.FnExactDihedralChain': WHATEVER THE INPUT: true; the input reads as it did. -/
def fnExactDihedralChainSpec : ChangeSpec := { name := "fnExactDihedralChain", fn := fun _ => fun
  | [d] => { results := [.lit (.bool true)], args := [d] }
  | _ => none }
def fnExactDihedralChainRow : OpenClaim := { program := "ytiegaebnlikjiaa", sum := "5ace14d19c4e461ed4db6e8eb8fbefb1072cce4806bd8f1f2761fdb0dd4a89be", func := "loop.example/g01130/laws.FnExactDihedralChain", spec := "fnExactDihedralChain", unfollowed := true, recurses := true, apart := false }
def FnExactDihedralChainSaid : Prop := fnExactDihedralChainRow.holds Try.pinned (OpenSpec.ofChange fnExactDihedralChainSpec)

/-- ITS FALSE NEIGHBOUR: 'it returns false'. Refute it at one input. -/
def fnExactDihedralChainWrong : ChangeSpec := { name := "fnExactDihedralChain", fn := fun _ => fun
  | [d] => { results := [.lit (.bool false)], args := [d] }
  | _ => none }
def FnExactDihedralChainWrongFalsely : Prop := fnExactDihedralChainRow.holds Try.pinned (OpenSpec.ofChange fnExactDihedralChainWrong)

/-- 'laws.FnExactEditDistance': WHATEVER THE INPUT: true; the input reads as it did. -/
def fnExactEditDistanceSpec : ChangeSpec := { name := "fnExactEditDistance", fn := fun _ => fun
  | [d1, d2] => { results := [.lit (.bool true)], args := [d1, d2] }
  | _ => none }
def fnExactEditDistanceRow : OpenClaim := { program := "ytiegaebnlikjiaa", sum := "5ace14d19c4e461ed4db6e8eb8fbefb1072cce4806bd8f1f2761fdb0dd4a89be", func := "loop.example/g01130/laws.FnExactEditDistance", spec := "fnExactEditDistance", inPlace := ["internal/bytealg.IndexByteString", "internal/bytealg.IndexString"], named := ["internal/bytealg.MaxLen"], apart := false }
def FnExactEditDistanceSaid : Prop := fnExactEditDistanceRow.holds Try.pinned (OpenSpec.ofChange fnExactEditDistanceSpec)

/-- ITS FALSE NEIGHBOUR: 'it returns false'. Refute it at one input. -/
def fnExactEditDistanceWrong : ChangeSpec := { name := "fnExactEditDistance", fn := fun _ => fun
  | [d1, d2] => { results := [.lit (.bool false)], args := [d1, d2] }
  | _ => none }
def FnExactEditDistanceWrongFalsely : Prop := fnExactEditDistanceRow.holds Try.pinned (OpenSpec.ofChange fnExactEditDistanceWrong)

/-- 'laws.FnExactKeySteps': WHATEVER THE INPUT: true; the input reads as it did. -/
def fnExactKeyStepsSpec : ChangeSpec := { name := "fnExactKeySteps", fn := fun _ => fun
  | [d1, d2] => { results := [.lit (.bool true)], args := [d1, d2] }
  | _ => none }
def fnExactKeyStepsRow : OpenClaim := { program := "ytiegaebnlikjiaa", sum := "5ace14d19c4e461ed4db6e8eb8fbefb1072cce4806bd8f1f2761fdb0dd4a89be", func := "loop.example/g01130/laws.FnExactKeySteps", spec := "fnExactKeySteps", inPlace := ["internal/bytealg.IndexByteString", "internal/bytealg.IndexString"], named := ["internal/bytealg.MaxLen"], apart := false }
def FnExactKeyStepsSaid : Prop := fnExactKeyStepsRow.holds Try.pinned (OpenSpec.ofChange fnExactKeyStepsSpec)

/-- ITS FALSE NEIGHBOUR: 'it returns false'. Refute it at one input. -/
def fnExactKeyStepsWrong : ChangeSpec := { name := "fnExactKeySteps", fn := fun _ => fun
  | [d1, d2] => { results := [.lit (.bool false)], args := [d1, d2] }
  | _ => none }
def FnExactKeyStepsWrongFalsely : Prop := fnExactKeyStepsRow.holds Try.pinned (OpenSpec.ofChange fnExactKeyStepsWrong)

/- THE SECOND FORM. 'bulk': how many values and letters a reading holds, each counted each time it is reached (what is shared counts as often as it is met; a slice's spare places count too). A statement '..UptoSaid' is the law's where the arguments, and the package variables that the reading takes, are together of bulk at most 1048576: NARROWER than '..Said'. Prove '..Said' where nothing that the law and all that it calls make is longer than what came in: it says more and counts as full. Else prove '..UptoSaid'. A law counts once. -/
mutual
def uptoBulk {H : Type} : DataW H → Nat
  | .lit (.string bytes) => bytes.length + 1
  | .lit _ => 1
  | .nil => 1
  | .ptr d => uptoBulk d + 1
  | .slice elems spare => uptoBulkAll elems + uptoBulkAll spare + 1
  | .agg parts => uptoBulkAll parts + 1
  | .iface _ d => uptoBulk d + 1
  | .map entries => uptoBulkEntries entries + 1
  | .held _ => 1
def uptoBulkAll {H : Type} : List (DataW H) → Nat
  | [] => 0
  | d :: r => uptoBulk d + uptoBulkAll r
def uptoBulkEntries {H : Type} : List (Lit × DataW H) → Nat
  | [] => 0
  | x :: r => uptoBulkEntry x + uptoBulkEntries r
def uptoBulkEntry {H : Type} : Lit × DataW H → Nat
  | (.string bytes, d) => bytes.length + uptoBulk d + 1
  | (_, d) => uptoBulk d + 1
 end
def uptoSmall : (H : Type) → List (DataW H) → Bool := fun _ ds => decide (uptoBulkAll ds ≤ 1048576)
def OpenSpec.upto (s : _root_.Go.ChangeSpec) : _root_.Go.OpenSpec := { _root_.Go.OpenSpec.ofChange s with cond := some uptoSmall }

/-- 'laws.FnExactWeightChain', WHERE WHAT IT READS IS OF BULK AT MOST 1048576: true; the input reads as it did. -/
def fnExactWeightChainUptoRow : OpenClaim := { program := "ytiegaebnlikjiaa", sum := "5ace14d19c4e461ed4db6e8eb8fbefb1072cce4806bd8f1f2761fdb0dd4a89be", func := "loop.example/g01130/laws.FnExactWeightChain", spec := "fnExactWeightChain", unfollowed := true, recurses := true, apart := false, narrowed := true }
def FnExactWeightChainUptoSaid : Prop := fnExactWeightChainUptoRow.holds Try.pinned (OpenSpec.upto fnExactWeightChainSpec)

/-- 'laws.FnExactIsCheckPlace', WHERE WHAT IT READS IS OF BULK AT MOST 1048576: true; the input reads as it did. -/
def fnExactIsCheckPlaceUptoRow : OpenClaim := { program := "ytiegaebnlikjiaa", sum := "5ace14d19c4e461ed4db6e8eb8fbefb1072cce4806bd8f1f2761fdb0dd4a89be", func := "loop.example/g01130/laws.FnExactIsCheckPlace", spec := "fnExactIsCheckPlace", unfollowed := true, recurses := true, apart := false, narrowed := true }
def FnExactIsCheckPlaceUptoSaid : Prop := fnExactIsCheckPlaceUptoRow.holds Try.pinned (OpenSpec.upto fnExactIsCheckPlaceSpec)

/-- 'laws.FnExactPermutingChain', WHERE WHAT IT READS IS OF BULK AT MOST 1048576: true; the input reads as it did. -/
def fnExactPermutingChainUptoRow : OpenClaim := { program := "ytiegaebnlikjiaa", sum := "5ace14d19c4e461ed4db6e8eb8fbefb1072cce4806bd8f1f2761fdb0dd4a89be", func := "loop.example/g01130/laws.FnExactPermutingChain", spec := "fnExactPermutingChain", unfollowed := true, recurses := true, apart := false, narrowed := true }
def FnExactPermutingChainUptoSaid : Prop := fnExactPermutingChainUptoRow.holds Try.pinned (OpenSpec.upto fnExactPermutingChainSpec)

/-- 'laws.FnExactGroupChain', WHERE WHAT IT READS IS OF BULK AT MOST 1048576: true; the input reads as it did. -/
def fnExactGroupChainUptoRow : OpenClaim := { program := "ytiegaebnlikjiaa", sum := "5ace14d19c4e461ed4db6e8eb8fbefb1072cce4806bd8f1f2761fdb0dd4a89be", func := "loop.example/g01130/laws.FnExactGroupChain", spec := "fnExactGroupChain", unfollowed := true, recurses := true, apart := false, narrowed := true }
def FnExactGroupChainUptoSaid : Prop := fnExactGroupChainUptoRow.holds Try.pinned (OpenSpec.upto fnExactGroupChainSpec)

/-- 'laws.FnExactDihedralChain', WHERE WHAT IT READS IS OF BULK AT MOST 1048576: true; the input reads as it did. -/
def fnExactDihedralChainUptoRow : OpenClaim := { program := "ytiegaebnlikjiaa", sum := "5ace14d19c4e461ed4db6e8eb8fbefb1072cce4806bd8f1f2761fdb0dd4a89be", func := "loop.example/g01130/laws.FnExactDihedralChain", spec := "fnExactDihedralChain", unfollowed := true, recurses := true, apart := false, narrowed := true }
def FnExactDihedralChainUptoSaid : Prop := fnExactDihedralChainUptoRow.holds Try.pinned (OpenSpec.upto fnExactDihedralChainSpec)

/-- 'laws.FnExactEditDistance', WHERE WHAT IT READS IS OF BULK AT MOST 1048576: true; the input reads as it did. -/
def fnExactEditDistanceUptoRow : OpenClaim := { program := "ytiegaebnlikjiaa", sum := "5ace14d19c4e461ed4db6e8eb8fbefb1072cce4806bd8f1f2761fdb0dd4a89be", func := "loop.example/g01130/laws.FnExactEditDistance", spec := "fnExactEditDistance", inPlace := ["internal/bytealg.IndexByteString", "internal/bytealg.IndexString"], named := ["internal/bytealg.MaxLen"], apart := false, narrowed := true }
def FnExactEditDistanceUptoSaid : Prop := fnExactEditDistanceUptoRow.holds Try.pinned (OpenSpec.upto fnExactEditDistanceSpec)

/-- 'laws.FnExactKeySteps', WHERE WHAT IT READS IS OF BULK AT MOST 1048576: true; the input reads as it did. -/
def fnExactKeyStepsUptoRow : OpenClaim := { program := "ytiegaebnlikjiaa", sum := "5ace14d19c4e461ed4db6e8eb8fbefb1072cce4806bd8f1f2761fdb0dd4a89be", func := "loop.example/g01130/laws.FnExactKeySteps", spec := "fnExactKeySteps", inPlace := ["internal/bytealg.IndexByteString", "internal/bytealg.IndexString"], named := ["internal/bytealg.MaxLen"], apart := false, narrowed := true }
def FnExactKeyStepsUptoSaid : Prop := fnExactKeyStepsUptoRow.holds Try.pinned (OpenSpec.upto fnExactKeyStepsSpec)

end Rows
end Go.Proofs.Ytiegaebnlikjiaa
