/-
  No cell of these rows narrows 'for every input' (looked for: loops, veiled, ifaces, maps, wideKeys, modest, calm, conditions, laid).
  DERIVED. THE GIVEN ROWS OF THIS SEAT. 11 by the template 'for every input the law returns true; each argument reads behind the call as it read before'; 0 by the template 'total and deterministic' (their statements: YteggllmiapdmcaaTotals.lean).
  GIVEN WITH THE SEED: the statements are not yours to turn. If you find one false, say at which input.
  Laid BY PROGRAM, IN A SANDBOX (cutbox-rows.mjs): the forced cells as the released guide's own fill.sh prints them over the translation 5960d79bd81a1683… (all of the seat's roots in one cut). By AI agents, Wed Nov 11 2026. No macro, syntax, notation, axiom, sorry.
-/
import Derived.Test.YteggllmiapdmcaaChecked
import GoSem.Claim
import GoSem.ClaimJoined
import GoSem.ClaimMapViews
import Derived.JoinedTies
import Derived.KernelRfl
namespace Go.Proofs.Yteggllmiapdmcaa
/- THE CELL 'sum', in the pinned program and in every row, IS THE sha256 OF THE DUMP (.gsa) THAT YteggllmiapdmcaaProg.lean LOADS. Nothing in Lean hashes anything: it is a label: what it is worth is what the hold of that sum in a sandbox is worth. -/
noncomputable def Try.pinned : Pinned := { name := "yteggllmiapdmcaa", sum := "5960d79bd81a1683001629831966d162914a5332b14c057678fbde8badde1c3b", checked := Try.checked }
namespace Rows
def none {H : Type} : Left H := { results := [], args := [] }

/-- 'laws.FnGroups': WHATEVER THE INPUT: true; the input reads as it did. -/
def fnGroupsSpec : ChangeSpec := { name := "fnGroups", fn := fun _ => fun
  | [d1, d2] => { results := [.lit (.bool true)], args := [d1, d2] }
  | _ => none }
def fnGroupsRow : OpenClaim := { program := "yteggllmiapdmcaa", sum := "5960d79bd81a1683001629831966d162914a5332b14c057678fbde8badde1c3b", func := "loop.example/g01130/laws.FnGroups", spec := "fnGroups", unfollowed := true, recurses := true, apart := false }
def FnGroupsSaid : Prop := fnGroupsRow.holds Try.pinned (OpenSpec.ofChange fnGroupsSpec)

/-- ITS FALSE NEIGHBOUR: 'it returns false'. Refute it at one input. -/
def fnGroupsWrong : ChangeSpec := { name := "fnGroups", fn := fun _ => fun
  | [d1, d2] => { results := [.lit (.bool false)], args := [d1, d2] }
  | _ => none }
def FnGroupsWrongFalsely : Prop := fnGroupsRow.holds Try.pinned (OpenSpec.ofChange fnGroupsWrong)

/-- 'laws.FnSubgroups': WHATEVER THE INPUT: true; the input reads as it did. -/
def fnSubgroupsSpec : ChangeSpec := { name := "fnSubgroups", fn := fun _ => fun
  | [d1, d2] => { results := [.lit (.bool true)], args := [d1, d2] }
  | _ => none }
def fnSubgroupsRow : OpenClaim := { program := "yteggllmiapdmcaa", sum := "5960d79bd81a1683001629831966d162914a5332b14c057678fbde8badde1c3b", func := "loop.example/g01130/laws.FnSubgroups", spec := "fnSubgroups", unfollowed := true, recurses := true, apart := false }
def FnSubgroupsSaid : Prop := fnSubgroupsRow.holds Try.pinned (OpenSpec.ofChange fnSubgroupsSpec)

/-- ITS FALSE NEIGHBOUR: 'it returns false'. Refute it at one input. -/
def fnSubgroupsWrong : ChangeSpec := { name := "fnSubgroups", fn := fun _ => fun
  | [d1, d2] => { results := [.lit (.bool false)], args := [d1, d2] }
  | _ => none }
def FnSubgroupsWrongFalsely : Prop := fnSubgroupsRow.holds Try.pinned (OpenSpec.ofChange fnSubgroupsWrong)

/-- 'laws.FnMappings': WHATEVER THE INPUT: true; the input reads as it did. -/
def fnMappingsSpec : ChangeSpec := { name := "fnMappings", fn := fun _ => fun
  | [d1, d2] => { results := [.lit (.bool true)], args := [d1, d2] }
  | _ => none }
def fnMappingsRow : OpenClaim := { program := "yteggllmiapdmcaa", sum := "5960d79bd81a1683001629831966d162914a5332b14c057678fbde8badde1c3b", func := "loop.example/g01130/laws.FnMappings", spec := "fnMappings", unfollowed := true, recurses := true, apart := false }
def FnMappingsSaid : Prop := fnMappingsRow.holds Try.pinned (OpenSpec.ofChange fnMappingsSpec)

/-- ITS FALSE NEIGHBOUR: 'it returns false'. Refute it at one input. -/
def fnMappingsWrong : ChangeSpec := { name := "fnMappings", fn := fun _ => fun
  | [d1, d2] => { results := [.lit (.bool false)], args := [d1, d2] }
  | _ => none }
def FnMappingsWrongFalsely : Prop := fnMappingsRow.holds Try.pinned (OpenSpec.ofChange fnMappingsWrong)

/-- 'laws.FnExactCountWords': WHATEVER THE INPUT: true; the input reads as it did. -/
def fnExactCountWordsSpec : ChangeSpec := { name := "fnExactCountWords", fn := fun _ => fun
  | [d] => { results := [.lit (.bool true)], args := [d] }
  | _ => none }
def fnExactCountWordsRow : OpenClaim := { program := "yteggllmiapdmcaa", sum := "5960d79bd81a1683001629831966d162914a5332b14c057678fbde8badde1c3b", func := "loop.example/g01130/laws.FnExactCountWords", spec := "fnExactCountWords", unfollowed := true, recurses := true, apart := false }
def FnExactCountWordsSaid : Prop := fnExactCountWordsRow.holds Try.pinned (OpenSpec.ofChange fnExactCountWordsSpec)

/-- ITS FALSE NEIGHBOUR: 'it returns false'. Refute it at one input. -/
def fnExactCountWordsWrong : ChangeSpec := { name := "fnExactCountWords", fn := fun _ => fun
  | [d] => { results := [.lit (.bool false)], args := [d] }
  | _ => none }
def FnExactCountWordsWrongFalsely : Prop := fnExactCountWordsRow.holds Try.pinned (OpenSpec.ofChange fnExactCountWordsWrong)

/-- 'laws.FnExactRankOfWord': WHATEVER THE INPUT: true; the input reads as it did. -/
def fnExactRankOfWordSpec : ChangeSpec := { name := "fnExactRankOfWord", fn := fun _ => fun
  | [d1, d2] => { results := [.lit (.bool true)], args := [d1, d2] }
  | _ => none }
def fnExactRankOfWordRow : OpenClaim := { program := "yteggllmiapdmcaa", sum := "5960d79bd81a1683001629831966d162914a5332b14c057678fbde8badde1c3b", func := "loop.example/g01130/laws.FnExactRankOfWord", spec := "fnExactRankOfWord", inPlace := ["internal/bytealg.IndexByteString", "internal/bytealg.IndexString"], unfollowed := true, recurses := true, named := ["internal/bytealg.MaxLen"], apart := false }
def FnExactRankOfWordSaid : Prop := fnExactRankOfWordRow.holds Try.pinned (OpenSpec.ofChange fnExactRankOfWordSpec)

/-- ITS FALSE NEIGHBOUR: 'it returns false'. Refute it at one input. -/
def fnExactRankOfWordWrong : ChangeSpec := { name := "fnExactRankOfWord", fn := fun _ => fun
  | [d1, d2] => { results := [.lit (.bool false)], args := [d1, d2] }
  | _ => none }
def FnExactRankOfWordWrongFalsely : Prop := fnExactRankOfWordRow.holds Try.pinned (OpenSpec.ofChange fnExactRankOfWordWrong)

/-- 'laws.FnExactValidGroup': WHATEVER THE INPUT: true; the input reads as it did. -/
def fnExactValidGroupSpec : ChangeSpec := { name := "fnExactValidGroup", fn := fun _ => fun
  | [d] => { results := [.lit (.bool true)], args := [d] }
  | _ => none }
def fnExactValidGroupRow : OpenClaim := { program := "yteggllmiapdmcaa", sum := "5960d79bd81a1683001629831966d162914a5332b14c057678fbde8badde1c3b", func := "loop.example/g01130/laws.FnExactValidGroup", spec := "fnExactValidGroup", unfollowed := true, recurses := true, apart := false }
def FnExactValidGroupSaid : Prop := fnExactValidGroupRow.holds Try.pinned (OpenSpec.ofChange fnExactValidGroupSpec)

/-- ITS FALSE NEIGHBOUR: 'it returns false'. Refute it at one input. -/
def fnExactValidGroupWrong : ChangeSpec := { name := "fnExactValidGroup", fn := fun _ => fun
  | [d] => { results := [.lit (.bool false)], args := [d] }
  | _ => none }
def FnExactValidGroupWrongFalsely : Prop := fnExactValidGroupRow.holds Try.pinned (OpenSpec.ofChange fnExactValidGroupWrong)

/-- 'laws.FnExactCyclicGroup': WHATEVER THE INPUT: true; the input reads as it did. -/
def fnExactCyclicGroupSpec : ChangeSpec := { name := "fnExactCyclicGroup", fn := fun _ => fun
  | [d] => { results := [.lit (.bool true)], args := [d] }
  | _ => none }
def fnExactCyclicGroupRow : OpenClaim := { program := "yteggllmiapdmcaa", sum := "5960d79bd81a1683001629831966d162914a5332b14c057678fbde8badde1c3b", func := "loop.example/g01130/laws.FnExactCyclicGroup", spec := "fnExactCyclicGroup", unfollowed := true, recurses := true, apart := false }
def FnExactCyclicGroupSaid : Prop := fnExactCyclicGroupRow.holds Try.pinned (OpenSpec.ofChange fnExactCyclicGroupSpec)

/-- ITS FALSE NEIGHBOUR: 'it returns false'. Refute it at one input. -/
def fnExactCyclicGroupWrong : ChangeSpec := { name := "fnExactCyclicGroup", fn := fun _ => fun
  | [d] => { results := [.lit (.bool false)], args := [d] }
  | _ => none }
def FnExactCyclicGroupWrongFalsely : Prop := fnExactCyclicGroupRow.holds Try.pinned (OpenSpec.ofChange fnExactCyclicGroupWrong)

/-- 'laws.FnExactDihedralGroup': WHATEVER THE INPUT: true; the input reads as it did. -/
def fnExactDihedralGroupSpec : ChangeSpec := { name := "fnExactDihedralGroup", fn := fun _ => fun
  | [d] => { results := [.lit (.bool true)], args := [d] }
  | _ => none }
def fnExactDihedralGroupRow : OpenClaim := { program := "yteggllmiapdmcaa", sum := "5960d79bd81a1683001629831966d162914a5332b14c057678fbde8badde1c3b", func := "loop.example/g01130/laws.FnExactDihedralGroup", spec := "fnExactDihedralGroup", unfollowed := true, recurses := true, apart := false }
def FnExactDihedralGroupSaid : Prop := fnExactDihedralGroupRow.holds Try.pinned (OpenSpec.ofChange fnExactDihedralGroupSpec)

/-- ITS FALSE NEIGHBOUR: 'it returns false'. Refute it at one input. -/
def fnExactDihedralGroupWrong : ChangeSpec := { name := "fnExactDihedralGroup", fn := fun _ => fun
  | [d] => { results := [.lit (.bool false)], args := [d] }
  | _ => none }
def FnExactDihedralGroupWrongFalsely : Prop := fnExactDihedralGroupRow.holds Try.pinned (OpenSpec.ofChange fnExactDihedralGroupWrong)

/-- 'laws.FnExactProductGroup': WHATEVER THE INPUT: true; the input reads as it did. -/
def fnExactProductGroupSpec : ChangeSpec := { name := "fnExactProductGroup", fn := fun _ => fun
  | [d1, d2] => { results := [.lit (.bool true)], args := [d1, d2] }
  | _ => none }
def fnExactProductGroupRow : OpenClaim := { program := "yteggllmiapdmcaa", sum := "5960d79bd81a1683001629831966d162914a5332b14c057678fbde8badde1c3b", func := "loop.example/g01130/laws.FnExactProductGroup", spec := "fnExactProductGroup", unfollowed := true, recurses := true, apart := false }
def FnExactProductGroupSaid : Prop := fnExactProductGroupRow.holds Try.pinned (OpenSpec.ofChange fnExactProductGroupSpec)

/-- ITS FALSE NEIGHBOUR: 'it returns false'. Refute it at one input. -/
def fnExactProductGroupWrong : ChangeSpec := { name := "fnExactProductGroup", fn := fun _ => fun
  | [d1, d2] => { results := [.lit (.bool false)], args := [d1, d2] }
  | _ => none }
def FnExactProductGroupWrongFalsely : Prop := fnExactProductGroupRow.holds Try.pinned (OpenSpec.ofChange fnExactProductGroupWrong)

/-- 'laws.FnExactIdentityOf': WHATEVER THE INPUT: true; the input reads as it did. -/
def fnExactIdentityOfSpec : ChangeSpec := { name := "fnExactIdentityOf", fn := fun _ => fun
  | [d] => { results := [.lit (.bool true)], args := [d] }
  | _ => none }
def fnExactIdentityOfRow : OpenClaim := { program := "yteggllmiapdmcaa", sum := "5960d79bd81a1683001629831966d162914a5332b14c057678fbde8badde1c3b", func := "loop.example/g01130/laws.FnExactIdentityOf", spec := "fnExactIdentityOf", unfollowed := true, recurses := true, apart := false }
def FnExactIdentityOfSaid : Prop := fnExactIdentityOfRow.holds Try.pinned (OpenSpec.ofChange fnExactIdentityOfSpec)

/-- ITS FALSE NEIGHBOUR: 'it returns false'. Refute it at one input. -/
def fnExactIdentityOfWrong : ChangeSpec := { name := "fnExactIdentityOf", fn := fun _ => fun
  | [d] => { results := [.lit (.bool false)], args := [d] }
  | _ => none }
def FnExactIdentityOfWrongFalsely : Prop := fnExactIdentityOfRow.holds Try.pinned (OpenSpec.ofChange fnExactIdentityOfWrong)

/-- 'laws.FnExactInverseIn': WHATEVER THE INPUT: true; the input reads as it did. -/
def fnExactInverseInSpec : ChangeSpec := { name := "fnExactInverseIn", fn := fun _ => fun
  | [d1, d2] => { results := [.lit (.bool true)], args := [d1, d2] }
  | _ => none }
def fnExactInverseInRow : OpenClaim := { program := "yteggllmiapdmcaa", sum := "5960d79bd81a1683001629831966d162914a5332b14c057678fbde8badde1c3b", func := "loop.example/g01130/laws.FnExactInverseIn", spec := "fnExactInverseIn", unfollowed := true, recurses := true, apart := false }
def FnExactInverseInSaid : Prop := fnExactInverseInRow.holds Try.pinned (OpenSpec.ofChange fnExactInverseInSpec)

/-- ITS FALSE NEIGHBOUR: 'it returns false'. Refute it at one input. -/
def fnExactInverseInWrong : ChangeSpec := { name := "fnExactInverseIn", fn := fun _ => fun
  | [d1, d2] => { results := [.lit (.bool false)], args := [d1, d2] }
  | _ => none }
def FnExactInverseInWrongFalsely : Prop := fnExactInverseInRow.holds Try.pinned (OpenSpec.ofChange fnExactInverseInWrong)

/- THE SECOND FORM. 'bulk': how many values and letters a reading holds, each counted each time it is reached (what is shared counts as often as it is met; a slice's spare places count too). A statement '..UptoSaid' is the law's where the arguments, and the package variables that the reading takes, are together of bulk at most 1048576: NARROWER than '..Said'. Prove '..Said' where nothing that the law and all that it calls make is longer than what came in: it says more and counts as full. Else prove '..UptoSaid'. A law counts once. -/
mutual
def uptoBulk {H : Type} : DataW H → Nat
  | .lit (.string bytes) => bytes.length + 1
  | .lit _ => 1
  | .nil => 1
  | .ptr d => uptoBulk d + 1
  | .slice elems spare => uptoBulkAll elems + uptoBulkAll spare + 1
  | .agg parts => uptoBulkAll parts + 1
  | .iface _ d => uptoBulk d + 1
  | .map entries => uptoBulkEntries entries + 1
  | .held _ => 1
def uptoBulkAll {H : Type} : List (DataW H) → Nat
  | [] => 0
  | d :: r => uptoBulk d + uptoBulkAll r
def uptoBulkEntries {H : Type} : List (Lit × DataW H) → Nat
  | [] => 0
  | x :: r => uptoBulkEntry x + uptoBulkEntries r
def uptoBulkEntry {H : Type} : Lit × DataW H → Nat
  | (.string bytes, d) => bytes.length + uptoBulk d + 1
  | (_, d) => uptoBulk d + 1
 end
def uptoSmall : (H : Type) → List (DataW H) → Bool := fun _ ds => decide (uptoBulkAll ds ≤ 1048576)
def OpenSpec.upto (s : _root_.Go.ChangeSpec) : _root_.Go.OpenSpec := { _root_.Go.OpenSpec.ofChange s with cond := some uptoSmall }

/-- 'laws.FnGroups', WHERE WHAT IT READS IS OF BULK AT MOST 1048576: true; the input reads as it did. -/
def fnGroupsUptoRow : OpenClaim := { program := "yteggllmiapdmcaa", sum := "5960d79bd81a1683001629831966d162914a5332b14c057678fbde8badde1c3b", func := "loop.example/g01130/laws.FnGroups", spec := "fnGroups", unfollowed := true, recurses := true, apart := false, narrowed := true }
def FnGroupsUptoSaid : Prop := fnGroupsUptoRow.holds Try.pinned (OpenSpec.upto fnGroupsSpec)

/-- 'laws.FnSubgroups', WHERE WHAT IT READS IS OF BULK AT MOST 1048576: true; the input reads as it did. -/
def fnSubgroupsUptoRow : OpenClaim := { program := "yteggllmiapdmcaa", sum := "5960d79bd81a1683001629831966d162914a5332b14c057678fbde8badde1c3b", func := "loop.example/g01130/laws.FnSubgroups", spec := "fnSubgroups", unfollowed := true, recurses := true, apart := false, narrowed := true }
def FnSubgroupsUptoSaid : Prop := fnSubgroupsUptoRow.holds Try.pinned (OpenSpec.upto fnSubgroupsSpec)

/-- 'laws.FnMappings', WHERE WHAT IT READS IS OF BULK AT MOST 1048576: true; the input reads as it did. -/
def fnMappingsUptoRow : OpenClaim := { program := "yteggllmiapdmcaa", sum := "5960d79bd81a1683001629831966d162914a5332b14c057678fbde8badde1c3b", func := "loop.example/g01130/laws.FnMappings", spec := "fnMappings", unfollowed := true, recurses := true, apart := false, narrowed := true }
def FnMappingsUptoSaid : Prop := fnMappingsUptoRow.holds Try.pinned (OpenSpec.upto fnMappingsSpec)

/-- 'laws.FnExactCountWords', WHERE WHAT IT READS IS OF BULK AT MOST 1048576: true; the input reads as it did. -/
def fnExactCountWordsUptoRow : OpenClaim := { program := "yteggllmiapdmcaa", sum := "5960d79bd81a1683001629831966d162914a5332b14c057678fbde8badde1c3b", func := "loop.example/g01130/laws.FnExactCountWords", spec := "fnExactCountWords", unfollowed := true, recurses := true, apart := false, narrowed := true }
def FnExactCountWordsUptoSaid : Prop := fnExactCountWordsUptoRow.holds Try.pinned (OpenSpec.upto fnExactCountWordsSpec)

/-- 'laws.FnExactRankOfWord', WHERE WHAT IT READS IS OF BULK AT MOST 1048576: true; the input reads as it did. -/
def fnExactRankOfWordUptoRow : OpenClaim := { program := "yteggllmiapdmcaa", sum := "5960d79bd81a1683001629831966d162914a5332b14c057678fbde8badde1c3b", func := "loop.example/g01130/laws.FnExactRankOfWord", spec := "fnExactRankOfWord", inPlace := ["internal/bytealg.IndexByteString", "internal/bytealg.IndexString"], unfollowed := true, recurses := true, named := ["internal/bytealg.MaxLen"], apart := false, narrowed := true }
def FnExactRankOfWordUptoSaid : Prop := fnExactRankOfWordUptoRow.holds Try.pinned (OpenSpec.upto fnExactRankOfWordSpec)

/-- 'laws.FnExactValidGroup', WHERE WHAT IT READS IS OF BULK AT MOST 1048576: true; the input reads as it did. -/
def fnExactValidGroupUptoRow : OpenClaim := { program := "yteggllmiapdmcaa", sum := "5960d79bd81a1683001629831966d162914a5332b14c057678fbde8badde1c3b", func := "loop.example/g01130/laws.FnExactValidGroup", spec := "fnExactValidGroup", unfollowed := true, recurses := true, apart := false, narrowed := true }
def FnExactValidGroupUptoSaid : Prop := fnExactValidGroupUptoRow.holds Try.pinned (OpenSpec.upto fnExactValidGroupSpec)

/-- 'laws.FnExactCyclicGroup', WHERE WHAT IT READS IS OF BULK AT MOST 1048576: true; the input reads as it did. -/
def fnExactCyclicGroupUptoRow : OpenClaim := { program := "yteggllmiapdmcaa", sum := "5960d79bd81a1683001629831966d162914a5332b14c057678fbde8badde1c3b", func := "loop.example/g01130/laws.FnExactCyclicGroup", spec := "fnExactCyclicGroup", unfollowed := true, recurses := true, apart := false, narrowed := true }
def FnExactCyclicGroupUptoSaid : Prop := fnExactCyclicGroupUptoRow.holds Try.pinned (OpenSpec.upto fnExactCyclicGroupSpec)

/-- 'laws.FnExactDihedralGroup', WHERE WHAT IT READS IS OF BULK AT MOST 1048576: true; the input reads as it did. -/
def fnExactDihedralGroupUptoRow : OpenClaim := { program := "yteggllmiapdmcaa", sum := "5960d79bd81a1683001629831966d162914a5332b14c057678fbde8badde1c3b", func := "loop.example/g01130/laws.FnExactDihedralGroup", spec := "fnExactDihedralGroup", unfollowed := true, recurses := true, apart := false, narrowed := true }
def FnExactDihedralGroupUptoSaid : Prop := fnExactDihedralGroupUptoRow.holds Try.pinned (OpenSpec.upto fnExactDihedralGroupSpec)

/-- 'laws.FnExactProductGroup', WHERE WHAT IT READS IS OF BULK AT MOST 1048576: true; the input reads as it did. -/
def fnExactProductGroupUptoRow : OpenClaim := { program := "yteggllmiapdmcaa", sum := "5960d79bd81a1683001629831966d162914a5332b14c057678fbde8badde1c3b", func := "loop.example/g01130/laws.FnExactProductGroup", spec := "fnExactProductGroup", unfollowed := true, recurses := true, apart := false, narrowed := true }
def FnExactProductGroupUptoSaid : Prop := fnExactProductGroupUptoRow.holds Try.pinned (OpenSpec.upto fnExactProductGroupSpec)

/-- 'laws.FnExactIdentityOf', WHERE WHAT IT READS IS OF BULK AT MOST 1048576: true; the input reads as it did. -/
def fnExactIdentityOfUptoRow : OpenClaim := { program := "yteggllmiapdmcaa", sum := "5960d79bd81a1683001629831966d162914a5332b14c057678fbde8badde1c3b", func := "loop.example/g01130/laws.FnExactIdentityOf", spec := "fnExactIdentityOf", unfollowed := true, recurses := true, apart := false, narrowed := true }
def FnExactIdentityOfUptoSaid : Prop := fnExactIdentityOfUptoRow.holds Try.pinned (OpenSpec.upto fnExactIdentityOfSpec)

/-- 'laws.FnExactInverseIn', WHERE WHAT IT READS IS OF BULK AT MOST 1048576: true; the input reads as it did. -/
def fnExactInverseInUptoRow : OpenClaim := { program := "yteggllmiapdmcaa", sum := "5960d79bd81a1683001629831966d162914a5332b14c057678fbde8badde1c3b", func := "loop.example/g01130/laws.FnExactInverseIn", spec := "fnExactInverseIn", unfollowed := true, recurses := true, apart := false, narrowed := true }
def FnExactInverseInUptoSaid : Prop := fnExactInverseInUptoRow.holds Try.pinned (OpenSpec.upto fnExactInverseInSpec)

end Rows
end Go.Proofs.Yteggllmiapdmcaa
