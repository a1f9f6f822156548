/-
  No cell of these rows narrows 'for every input' (looked for: loops, veiled, ifaces, maps, wideKeys, modest, calm, conditions, laid).
  DERIVED. THE GIVEN ROWS OF THIS SEAT. 11 by the template 'for every input the law returns true; each argument reads behind the call as it read before'; 0 by the template 'total and deterministic' (their statements: YteggllmiapdmcabTotals.lean).
  GIVEN WITH THE SEED: the statements are not yours to turn. If you find one false, say at which input.
  Laid BY PROGRAM, IN A SANDBOX (cutbox-rows.mjs): the forced cells as the released guide's own fill.sh prints them over the translation 358176bb7349fa8d… (all of the seat's roots in one cut). By AI agents, Wed Nov 11 2026. No macro, syntax, notation, axiom, sorry.
-/
import Derived.Test.YteggllmiapdmcabChecked
import GoSem.Claim
import GoSem.ClaimJoined
import GoSem.ClaimMapViews
import Derived.JoinedTies
import Derived.KernelRfl
namespace Go.Proofs.Yteggllmiapdmcab
/- THE CELL 'sum', in the pinned program and in every row, IS THE sha256 OF THE DUMP (.gsa) THAT YteggllmiapdmcabProg.lean LOADS. Nothing in Lean hashes anything: it is a label: what it is worth is what the hold of that sum in a sandbox is worth. -/
noncomputable def Try.pinned : Pinned := { name := "yteggllmiapdmcab", sum := "358176bb7349fa8d6b098fb4349df08842d47642204b3611baff99ea12802258", checked := Try.checked }
namespace Rows
def none {H : Type} : Left H := { results := [], args := [] }

/-- 'laws.FnExactPowerIn': WHATEVER THE INPUT: true; the input reads as it did. -/
def fnExactPowerInSpec : ChangeSpec := { name := "fnExactPowerIn", fn := fun _ => fun
  | [d1, d2, d3] => { results := [.lit (.bool true)], args := [d1, d2, d3] }
  | _ => none }
def fnExactPowerInRow : OpenClaim := { program := "yteggllmiapdmcab", sum := "358176bb7349fa8d6b098fb4349df08842d47642204b3611baff99ea12802258", func := "loop.example/g01130/laws.FnExactPowerIn", spec := "fnExactPowerIn", unfollowed := true, recurses := true, apart := false }
def FnExactPowerInSaid : Prop := fnExactPowerInRow.holds Try.pinned (OpenSpec.ofChange fnExactPowerInSpec)

/-- ITS FALSE NEIGHBOUR: 'it returns false'. Refute it at one input. -/
def fnExactPowerInWrong : ChangeSpec := { name := "fnExactPowerIn", fn := fun _ => fun
  | [d1, d2, d3] => { results := [.lit (.bool false)], args := [d1, d2, d3] }
  | _ => none }
def FnExactPowerInWrongFalsely : Prop := fnExactPowerInRow.holds Try.pinned (OpenSpec.ofChange fnExactPowerInWrong)

/-- 'laws.FnExactOrderIn': WHATEVER THE INPUT: true; the input reads as it did. -/
def fnExactOrderInSpec : ChangeSpec := { name := "fnExactOrderIn", fn := fun _ => fun
  | [d1, d2] => { results := [.lit (.bool true)], args := [d1, d2] }
  | _ => none }
def fnExactOrderInRow : OpenClaim := { program := "yteggllmiapdmcab", sum := "358176bb7349fa8d6b098fb4349df08842d47642204b3611baff99ea12802258", func := "loop.example/g01130/laws.FnExactOrderIn", spec := "fnExactOrderIn", unfollowed := true, recurses := true, apart := false }
def FnExactOrderInSaid : Prop := fnExactOrderInRow.holds Try.pinned (OpenSpec.ofChange fnExactOrderInSpec)

/-- ITS FALSE NEIGHBOUR: 'it returns false'. Refute it at one input. -/
def fnExactOrderInWrong : ChangeSpec := { name := "fnExactOrderIn", fn := fun _ => fun
  | [d1, d2] => { results := [.lit (.bool false)], args := [d1, d2] }
  | _ => none }
def FnExactOrderInWrongFalsely : Prop := fnExactOrderInRow.holds Try.pinned (OpenSpec.ofChange fnExactOrderInWrong)

/-- 'laws.FnExactIsCommutative': WHATEVER THE INPUT: true; the input reads as it did. -/
def fnExactIsCommutativeSpec : ChangeSpec := { name := "fnExactIsCommutative", fn := fun _ => fun
  | [d] => { results := [.lit (.bool true)], args := [d] }
  | _ => none }
def fnExactIsCommutativeRow : OpenClaim := { program := "yteggllmiapdmcab", sum := "358176bb7349fa8d6b098fb4349df08842d47642204b3611baff99ea12802258", func := "loop.example/g01130/laws.FnExactIsCommutative", spec := "fnExactIsCommutative", unfollowed := true, recurses := true, apart := false }
def FnExactIsCommutativeSaid : Prop := fnExactIsCommutativeRow.holds Try.pinned (OpenSpec.ofChange fnExactIsCommutativeSpec)

/-- ITS FALSE NEIGHBOUR: 'it returns false'. Refute it at one input. -/
def fnExactIsCommutativeWrong : ChangeSpec := { name := "fnExactIsCommutative", fn := fun _ => fun
  | [d] => { results := [.lit (.bool false)], args := [d] }
  | _ => none }
def FnExactIsCommutativeWrongFalsely : Prop := fnExactIsCommutativeRow.holds Try.pinned (OpenSpec.ofChange fnExactIsCommutativeWrong)

/-- 'laws.FnExactCentreOf': WHATEVER THE INPUT: true; the input reads as it did. -/
def fnExactCentreOfSpec : ChangeSpec := { name := "fnExactCentreOf", fn := fun _ => fun
  | [d] => { results := [.lit (.bool true)], args := [d] }
  | _ => none }
def fnExactCentreOfRow : OpenClaim := { program := "yteggllmiapdmcab", sum := "358176bb7349fa8d6b098fb4349df08842d47642204b3611baff99ea12802258", func := "loop.example/g01130/laws.FnExactCentreOf", spec := "fnExactCentreOf", unfollowed := true, recurses := true, apart := false }
def FnExactCentreOfSaid : Prop := fnExactCentreOfRow.holds Try.pinned (OpenSpec.ofChange fnExactCentreOfSpec)

/-- ITS FALSE NEIGHBOUR: 'it returns false'. Refute it at one input. -/
def fnExactCentreOfWrong : ChangeSpec := { name := "fnExactCentreOf", fn := fun _ => fun
  | [d] => { results := [.lit (.bool false)], args := [d] }
  | _ => none }
def FnExactCentreOfWrongFalsely : Prop := fnExactCentreOfRow.holds Try.pinned (OpenSpec.ofChange fnExactCentreOfWrong)

/-- 'laws.FnExactSubgroupOf': WHATEVER THE INPUT: true; the input reads as it did. -/
def fnExactSubgroupOfSpec : ChangeSpec := { name := "fnExactSubgroupOf", fn := fun _ => fun
  | [d1, d2] => { results := [.lit (.bool true)], args := [d1, d2] }
  | _ => none }
def fnExactSubgroupOfRow : OpenClaim := { program := "yteggllmiapdmcab", sum := "358176bb7349fa8d6b098fb4349df08842d47642204b3611baff99ea12802258", func := "loop.example/g01130/laws.FnExactSubgroupOf", spec := "fnExactSubgroupOf", unfollowed := true, recurses := true, apart := false }
def FnExactSubgroupOfSaid : Prop := fnExactSubgroupOfRow.holds Try.pinned (OpenSpec.ofChange fnExactSubgroupOfSpec)

/-- ITS FALSE NEIGHBOUR: 'it returns false'. Refute it at one input. -/
def fnExactSubgroupOfWrong : ChangeSpec := { name := "fnExactSubgroupOf", fn := fun _ => fun
  | [d1, d2] => { results := [.lit (.bool false)], args := [d1, d2] }
  | _ => none }
def FnExactSubgroupOfWrongFalsely : Prop := fnExactSubgroupOfRow.holds Try.pinned (OpenSpec.ofChange fnExactSubgroupOfWrong)

/-- 'laws.FnExactIsComplete': WHATEVER THE INPUT: true; the input reads as it did. -/
def fnExactIsCompleteSpec : ChangeSpec := { name := "fnExactIsComplete", fn := fun _ => fun
  | [d1, d2] => { results := [.lit (.bool true)], args := [d1, d2] }
  | _ => none }
def fnExactIsCompleteRow : OpenClaim := { program := "yteggllmiapdmcab", sum := "358176bb7349fa8d6b098fb4349df08842d47642204b3611baff99ea12802258", func := "loop.example/g01130/laws.FnExactIsComplete", spec := "fnExactIsComplete", unfollowed := true, recurses := true, apart := false }
def FnExactIsCompleteSaid : Prop := fnExactIsCompleteRow.holds Try.pinned (OpenSpec.ofChange fnExactIsCompleteSpec)

/-- ITS FALSE NEIGHBOUR: 'it returns false'. Refute it at one input. -/
def fnExactIsCompleteWrong : ChangeSpec := { name := "fnExactIsComplete", fn := fun _ => fun
  | [d1, d2] => { results := [.lit (.bool false)], args := [d1, d2] }
  | _ => none }
def FnExactIsCompleteWrongFalsely : Prop := fnExactIsCompleteRow.holds Try.pinned (OpenSpec.ofChange fnExactIsCompleteWrong)

/-- 'laws.FnExactLeastComplete': WHATEVER THE INPUT: true; the input reads as it did. -/
def fnExactLeastCompleteSpec : ChangeSpec := { name := "fnExactLeastComplete", fn := fun _ => fun
  | [d] => { results := [.lit (.bool true)], args := [d] }
  | _ => none }
def fnExactLeastCompleteRow : OpenClaim := { program := "yteggllmiapdmcab", sum := "358176bb7349fa8d6b098fb4349df08842d47642204b3611baff99ea12802258", func := "loop.example/g01130/laws.FnExactLeastComplete", spec := "fnExactLeastComplete", unfollowed := true, recurses := true, apart := false }
def FnExactLeastCompleteSaid : Prop := fnExactLeastCompleteRow.holds Try.pinned (OpenSpec.ofChange fnExactLeastCompleteSpec)

/-- ITS FALSE NEIGHBOUR: 'it returns false'. Refute it at one input. -/
def fnExactLeastCompleteWrong : ChangeSpec := { name := "fnExactLeastComplete", fn := fun _ => fun
  | [d] => { results := [.lit (.bool false)], args := [d] }
  | _ => none }
def FnExactLeastCompleteWrongFalsely : Prop := fnExactLeastCompleteRow.holds Try.pinned (OpenSpec.ofChange fnExactLeastCompleteWrong)

/-- 'laws.FnExactIsAntisymmetric': WHATEVER THE INPUT: true; the input reads as it did. -/
def fnExactIsAntisymmetricSpec : ChangeSpec := { name := "fnExactIsAntisymmetric", fn := fun _ => fun
  | [d1, d2] => { results := [.lit (.bool true)], args := [d1, d2] }
  | _ => none }
def fnExactIsAntisymmetricRow : OpenClaim := { program := "yteggllmiapdmcab", sum := "358176bb7349fa8d6b098fb4349df08842d47642204b3611baff99ea12802258", func := "loop.example/g01130/laws.FnExactIsAntisymmetric", spec := "fnExactIsAntisymmetric", unfollowed := true, recurses := true, apart := false }
def FnExactIsAntisymmetricSaid : Prop := fnExactIsAntisymmetricRow.holds Try.pinned (OpenSpec.ofChange fnExactIsAntisymmetricSpec)

/-- ITS FALSE NEIGHBOUR: 'it returns false'. Refute it at one input. -/
def fnExactIsAntisymmetricWrong : ChangeSpec := { name := "fnExactIsAntisymmetric", fn := fun _ => fun
  | [d1, d2] => { results := [.lit (.bool false)], args := [d1, d2] }
  | _ => none }
def FnExactIsAntisymmetricWrongFalsely : Prop := fnExactIsAntisymmetricRow.holds Try.pinned (OpenSpec.ofChange fnExactIsAntisymmetricWrong)

/-- 'laws.FnExactLeastAntisymmetric': WHATEVER THE INPUT: true; the input reads as it did. -/
def fnExactLeastAntisymmetricSpec : ChangeSpec := { name := "fnExactLeastAntisymmetric", fn := fun _ => fun
  | [d] => { results := [.lit (.bool true)], args := [d] }
  | _ => none }
def fnExactLeastAntisymmetricRow : OpenClaim := { program := "yteggllmiapdmcab", sum := "358176bb7349fa8d6b098fb4349df08842d47642204b3611baff99ea12802258", func := "loop.example/g01130/laws.FnExactLeastAntisymmetric", spec := "fnExactLeastAntisymmetric", unfollowed := true, recurses := true, apart := false }
def FnExactLeastAntisymmetricSaid : Prop := fnExactLeastAntisymmetricRow.holds Try.pinned (OpenSpec.ofChange fnExactLeastAntisymmetricSpec)

/-- ITS FALSE NEIGHBOUR: 'it returns false'. Refute it at one input. -/
def fnExactLeastAntisymmetricWrong : ChangeSpec := { name := "fnExactLeastAntisymmetric", fn := fun _ => fun
  | [d] => { results := [.lit (.bool false)], args := [d] }
  | _ => none }
def FnExactLeastAntisymmetricWrongFalsely : Prop := fnExactLeastAntisymmetricRow.holds Try.pinned (OpenSpec.ofChange fnExactLeastAntisymmetricWrong)

/-- 'laws.FnExactGroupChain': WHATEVER THE INPUT: true; the input reads as it did. -/
def fnExactGroupChainSpec : ChangeSpec := { name := "fnExactGroupChain", fn := fun _ => fun
  | [d1, d2, d3] => { results := [.lit (.bool true)], args := [d1, d2, d3] }
  | _ => none }
def fnExactGroupChainRow : OpenClaim := { program := "yteggllmiapdmcab", sum := "358176bb7349fa8d6b098fb4349df08842d47642204b3611baff99ea12802258", func := "loop.example/g01130/laws.FnExactGroupChain", spec := "fnExactGroupChain", unfollowed := true, recurses := true, apart := false }
def FnExactGroupChainSaid : Prop := fnExactGroupChainRow.holds Try.pinned (OpenSpec.ofChange fnExactGroupChainSpec)

/-- ITS FALSE NEIGHBOUR: 'it returns false'. Refute it at one input. -/
def fnExactGroupChainWrong : ChangeSpec := { name := "fnExactGroupChain", fn := fun _ => fun
  | [d1, d2, d3] => { results := [.lit (.bool false)], args := [d1, d2, d3] }
  | _ => none }
def FnExactGroupChainWrongFalsely : Prop := fnExactGroupChainRow.holds Try.pinned (OpenSpec.ofChange fnExactGroupChainWrong)

/-- 'laws.FnExactDihedralChain': WHATEVER THE INPUT: true; the input reads as it did. -/
def fnExactDihedralChainSpec : ChangeSpec := { name := "fnExactDihedralChain", fn := fun _ => fun
  | [d] => { results := [.lit (.bool true)], args := [d] }
  | _ => none }
def fnExactDihedralChainRow : OpenClaim := { program := "yteggllmiapdmcab", sum := "358176bb7349fa8d6b098fb4349df08842d47642204b3611baff99ea12802258", func := "loop.example/g01130/laws.FnExactDihedralChain", spec := "fnExactDihedralChain", unfollowed := true, recurses := true, apart := false }
def FnExactDihedralChainSaid : Prop := fnExactDihedralChainRow.holds Try.pinned (OpenSpec.ofChange fnExactDihedralChainSpec)

/-- ITS FALSE NEIGHBOUR: 'it returns false'. Refute it at one input. -/
def fnExactDihedralChainWrong : ChangeSpec := { name := "fnExactDihedralChain", fn := fun _ => fun
  | [d] => { results := [.lit (.bool false)], args := [d] }
  | _ => none }
def FnExactDihedralChainWrongFalsely : Prop := fnExactDihedralChainRow.holds Try.pinned (OpenSpec.ofChange fnExactDihedralChainWrong)

/- THE SECOND FORM. 'bulk': how many values and letters a reading holds, each counted each time it is reached (what is shared counts as often as it is met; a slice's spare places count too). A statement '..UptoSaid' is the law's where the arguments, and the package variables that the reading takes, are together of bulk at most 1048576: NARROWER than '..Said'. Prove '..Said' where nothing that the law and all that it calls make is longer than what came in: it says more and counts as full. Else prove '..UptoSaid'. A law counts once. -/
mutual
def uptoBulk {H : Type} : DataW H → Nat
  | .lit (.string bytes) => bytes.length + 1
  | .lit _ => 1
  | .nil => 1
  | .ptr d => uptoBulk d + 1
  | .slice elems spare => uptoBulkAll elems + uptoBulkAll spare + 1
  | .agg parts => uptoBulkAll parts + 1
  | .iface _ d => uptoBulk d + 1
  | .map entries => uptoBulkEntries entries + 1
  | .held _ => 1
def uptoBulkAll {H : Type} : List (DataW H) → Nat
  | [] => 0
  | d :: r => uptoBulk d + uptoBulkAll r
def uptoBulkEntries {H : Type} : List (Lit × DataW H) → Nat
  | [] => 0
  | x :: r => uptoBulkEntry x + uptoBulkEntries r
def uptoBulkEntry {H : Type} : Lit × DataW H → Nat
  | (.string bytes, d) => bytes.length + uptoBulk d + 1
  | (_, d) => uptoBulk d + 1
 end
def uptoSmall : (H : Type) → List (DataW H) → Bool := fun _ ds => decide (uptoBulkAll ds ≤ 1048576)
def OpenSpec.upto (s : _root_.Go.ChangeSpec) : _root_.Go.OpenSpec := { _root_.Go.OpenSpec.ofChange s with cond := some uptoSmall }

/-- 'laws.FnExactPowerIn', WHERE WHAT IT READS IS OF BULK AT MOST 1048576: true; the input reads as it did. -/
def fnExactPowerInUptoRow : OpenClaim := { program := "yteggllmiapdmcab", sum := "358176bb7349fa8d6b098fb4349df08842d47642204b3611baff99ea12802258", func := "loop.example/g01130/laws.FnExactPowerIn", spec := "fnExactPowerIn", unfollowed := true, recurses := true, apart := false, narrowed := true }
def FnExactPowerInUptoSaid : Prop := fnExactPowerInUptoRow.holds Try.pinned (OpenSpec.upto fnExactPowerInSpec)

/-- 'laws.FnExactOrderIn', WHERE WHAT IT READS IS OF BULK AT MOST 1048576: true; the input reads as it did. -/
def fnExactOrderInUptoRow : OpenClaim := { program := "yteggllmiapdmcab", sum := "358176bb7349fa8d6b098fb4349df08842d47642204b3611baff99ea12802258", func := "loop.example/g01130/laws.FnExactOrderIn", spec := "fnExactOrderIn", unfollowed := true, recurses := true, apart := false, narrowed := true }
def FnExactOrderInUptoSaid : Prop := fnExactOrderInUptoRow.holds Try.pinned (OpenSpec.upto fnExactOrderInSpec)

/-- 'laws.FnExactIsCommutative', WHERE WHAT IT READS IS OF BULK AT MOST 1048576: true; the input reads as it did. -/
def fnExactIsCommutativeUptoRow : OpenClaim := { program := "yteggllmiapdmcab", sum := "358176bb7349fa8d6b098fb4349df08842d47642204b3611baff99ea12802258", func := "loop.example/g01130/laws.FnExactIsCommutative", spec := "fnExactIsCommutative", unfollowed := true, recurses := true, apart := false, narrowed := true }
def FnExactIsCommutativeUptoSaid : Prop := fnExactIsCommutativeUptoRow.holds Try.pinned (OpenSpec.upto fnExactIsCommutativeSpec)

/-- 'laws.FnExactCentreOf', WHERE WHAT IT READS IS OF BULK AT MOST 1048576: true; the input reads as it did. -/
def fnExactCentreOfUptoRow : OpenClaim := { program := "yteggllmiapdmcab", sum := "358176bb7349fa8d6b098fb4349df08842d47642204b3611baff99ea12802258", func := "loop.example/g01130/laws.FnExactCentreOf", spec := "fnExactCentreOf", unfollowed := true, recurses := true, apart := false, narrowed := true }
def FnExactCentreOfUptoSaid : Prop := fnExactCentreOfUptoRow.holds Try.pinned (OpenSpec.upto fnExactCentreOfSpec)

/-- 'laws.FnExactSubgroupOf', WHERE WHAT IT READS IS OF BULK AT MOST 1048576: true; the input reads as it did. -/
def fnExactSubgroupOfUptoRow : OpenClaim := { program := "yteggllmiapdmcab", sum := "358176bb7349fa8d6b098fb4349df08842d47642204b3611baff99ea12802258", func := "loop.example/g01130/laws.FnExactSubgroupOf", spec := "fnExactSubgroupOf", unfollowed := true, recurses := true, apart := false, narrowed := true }
def FnExactSubgroupOfUptoSaid : Prop := fnExactSubgroupOfUptoRow.holds Try.pinned (OpenSpec.upto fnExactSubgroupOfSpec)

/-- 'laws.FnExactIsComplete', WHERE WHAT IT READS IS OF BULK AT MOST 1048576: true; the input reads as it did. -/
def fnExactIsCompleteUptoRow : OpenClaim := { program := "yteggllmiapdmcab", sum := "358176bb7349fa8d6b098fb4349df08842d47642204b3611baff99ea12802258", func := "loop.example/g01130/laws.FnExactIsComplete", spec := "fnExactIsComplete", unfollowed := true, recurses := true, apart := false, narrowed := true }
def FnExactIsCompleteUptoSaid : Prop := fnExactIsCompleteUptoRow.holds Try.pinned (OpenSpec.upto fnExactIsCompleteSpec)

/-- 'laws.FnExactLeastComplete', WHERE WHAT IT READS IS OF BULK AT MOST 1048576: true; the input reads as it did. -/
def fnExactLeastCompleteUptoRow : OpenClaim := { program := "yteggllmiapdmcab", sum := "358176bb7349fa8d6b098fb4349df08842d47642204b3611baff99ea12802258", func := "loop.example/g01130/laws.FnExactLeastComplete", spec := "fnExactLeastComplete", unfollowed := true, recurses := true, apart := false, narrowed := true }
def FnExactLeastCompleteUptoSaid : Prop := fnExactLeastCompleteUptoRow.holds Try.pinned (OpenSpec.upto fnExactLeastCompleteSpec)

/-- 'laws.FnExactIsAntisymmetric', WHERE WHAT IT READS IS OF BULK AT MOST 1048576: true; the input reads as it did. -/
def fnExactIsAntisymmetricUptoRow : OpenClaim := { program := "yteggllmiapdmcab", sum := "358176bb7349fa8d6b098fb4349df08842d47642204b3611baff99ea12802258", func := "loop.example/g01130/laws.FnExactIsAntisymmetric", spec := "fnExactIsAntisymmetric", unfollowed := true, recurses := true, apart := false, narrowed := true }
def FnExactIsAntisymmetricUptoSaid : Prop := fnExactIsAntisymmetricUptoRow.holds Try.pinned (OpenSpec.upto fnExactIsAntisymmetricSpec)

/-- 'laws.FnExactLeastAntisymmetric', WHERE WHAT IT READS IS OF BULK AT MOST 1048576: true; the input reads as it did. -/
def fnExactLeastAntisymmetricUptoRow : OpenClaim := { program := "yteggllmiapdmcab", sum := "358176bb7349fa8d6b098fb4349df08842d47642204b3611baff99ea12802258", func := "loop.example/g01130/laws.FnExactLeastAntisymmetric", spec := "fnExactLeastAntisymmetric", unfollowed := true, recurses := true, apart := false, narrowed := true }
def FnExactLeastAntisymmetricUptoSaid : Prop := fnExactLeastAntisymmetricUptoRow.holds Try.pinned (OpenSpec.upto fnExactLeastAntisymmetricSpec)

/-- 'laws.FnExactGroupChain', WHERE WHAT IT READS IS OF BULK AT MOST 1048576: true; the input reads as it did. -/
def fnExactGroupChainUptoRow : OpenClaim := { program := "yteggllmiapdmcab", sum := "358176bb7349fa8d6b098fb4349df08842d47642204b3611baff99ea12802258", func := "loop.example/g01130/laws.FnExactGroupChain", spec := "fnExactGroupChain", unfollowed := true, recurses := true, apart := false, narrowed := true }
def FnExactGroupChainUptoSaid : Prop := fnExactGroupChainUptoRow.holds Try.pinned (OpenSpec.upto fnExactGroupChainSpec)

/-- 'laws.FnExactDihedralChain', WHERE WHAT IT READS IS OF BULK AT MOST 1048576: true; the input reads as it did. -/
def fnExactDihedralChainUptoRow : OpenClaim := { program := "yteggllmiapdmcab", sum := "358176bb7349fa8d6b098fb4349df08842d47642204b3611baff99ea12802258", func := "loop.example/g01130/laws.FnExactDihedralChain", spec := "fnExactDihedralChain", unfollowed := true, recurses := true, apart := false, narrowed := true }
def FnExactDihedralChainUptoSaid : Prop := fnExactDihedralChainUptoRow.holds Try.pinned (OpenSpec.upto fnExactDihedralChainSpec)

end Rows
end Go.Proofs.Yteggllmiapdmcab
