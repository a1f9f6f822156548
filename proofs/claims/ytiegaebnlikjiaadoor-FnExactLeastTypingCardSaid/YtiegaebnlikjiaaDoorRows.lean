/-
  NARROWER THAN 'FOR EVERY INPUT', by the rows' own cells (each row's printed sentence says how): FnEdits: laid · FnExactTypingDistance: laid · FnExactScriptOf: laid · FnExactApplyScript: laid · FnExactLeastTyping: laid.
  DERIVED. THE GIVEN ROWS OF THIS SEAT. 5 by the template 'for every input the law returns true; each argument reads behind the call as it read before'; 0 by the template 'total and deterministic' (their statements: YtiegaebnlikjiaaDoorTotals.lean).
  GIVEN WITH THE SEED: the statements are not yours to turn. If you find one false, say at which input.
  Laid BY PROGRAM, IN A SANDBOX (cutbox-rows.mjs): the forced cells as the released guide's own fill.sh prints them over the translation f245987e0e141222… (all of the seat's roots in one cut). By AI agents, Wed Nov 11 2026. No macro, syntax, notation, axiom, sorry.
-/
import Derived.Test.YtiegaebnlikjiaaDoorChecked
import GoSem.Claim
import GoSem.ClaimJoined
import GoSem.ClaimMapViews
import Derived.JoinedTies
import Derived.KernelRfl
namespace Go.Proofs.YtiegaebnlikjiaaDoor
/- THE CELL 'sum', in the pinned program and in every row, IS THE sha256 OF THE DUMP (.gsa) THAT YtiegaebnlikjiaaDoorProg.lean LOADS. Nothing in Lean hashes anything: it is a label: what it is worth is what the hold of that sum in a sandbox is worth. -/
noncomputable def Tryd.pinned : Pinned := { name := "ytiegaebnlikjiaadoor", sum := "f245987e0e141222de397c9ef6f6842996465acd5eb5fb08c01d905ab88af129", checked := Tryd.checked }
namespace Rows
def none {H : Type} : Left H := { results := [], args := [] }

/- WHAT THE LISTED PACKAGE-LEVEL VARIABLES READ AS WHEN THE CALL BEGINS. Each datum BY PROGRAM (the guide's laid-datum.mjs) off the statement by which the dump's own 'gosem.cut.vars' lays the variable. In a bare row this is a premise. The card (YtiegaebnlikjiaaDoorCards.lean) ties it to the program's text. -/
def laid_loop_example_g01130_impl_moves {H : Type} : DataW H := .agg [.agg [.lit (.int .i32 61), .lit (.int .i64 0), .lit (.int .i64 1), .lit (.int .i64 1)], .agg [.lit (.int .i32 68), .lit (.int .i64 1), .lit (.int .i64 1), .lit (.int .i64 0)], .agg [.lit (.int .i32 73), .lit (.int .i64 1), .lit (.int .i64 0), .lit (.int .i64 1)], .agg [.lit (.int .i32 83), .lit (.int .i64 1), .lit (.int .i64 1), .lit (.int .i64 1)], .agg [.lit (.int .i32 88), .lit (.int .i64 1), .lit (.int .i64 2), .lit (.int .i64 2)]]

/-- 'laws.FnEdits': WHATEVER THE INPUT: true; the input reads as it did. -/
def fnEditsSpec : ChangeSpec := { name := "fnEdits", vars := ["loop.example/g01130/impl.moves"], fn := fun _ => fun
  | [d1, d2, g1] => { results := [.lit (.bool true)], args := [d1, d2], vars := [g1] }
  | _ => none }
def fnEditsRow : OpenClaim := { program := "ytiegaebnlikjiaadoor", sum := "f245987e0e141222de397c9ef6f6842996465acd5eb5fb08c01d905ab88af129", func := "loop.example/g01130/laws.FnEdits", spec := "fnEdits", inPlace := ["internal/bytealg.IndexByteString", "internal/bytealg.IndexString", "internal/abi.NoEscape"], named := ["loop.example/g01130/impl.moves", "internal/bytealg.MaxLen"], apart := false, laid := [("loop.example/g01130/impl.moves", laid_loop_example_g01130_impl_moves)] }
def FnEditsSaid : Prop := fnEditsRow.holds Tryd.pinned (OpenSpec.ofChange fnEditsSpec)

/-- ITS FALSE NEIGHBOUR: 'it returns false'. Refute it at one input. -/
def fnEditsWrong : ChangeSpec := { name := "fnEdits", vars := ["loop.example/g01130/impl.moves"], fn := fun _ => fun
  | [d1, d2, g1] => { results := [.lit (.bool false)], args := [d1, d2], vars := [g1] }
  | _ => none }
def FnEditsWrongFalsely : Prop := fnEditsRow.holds Tryd.pinned (OpenSpec.ofChange fnEditsWrong)

/-- 'laws.FnExactTypingDistance': WHATEVER THE INPUT: true; the input reads as it did. -/
def fnExactTypingDistanceSpec : ChangeSpec := { name := "fnExactTypingDistance", vars := ["loop.example/g01130/impl.moves"], fn := fun _ => fun
  | [d1, d2, g1] => { results := [.lit (.bool true)], args := [d1, d2], vars := [g1] }
  | _ => none }
def fnExactTypingDistanceRow : OpenClaim := { program := "ytiegaebnlikjiaadoor", sum := "f245987e0e141222de397c9ef6f6842996465acd5eb5fb08c01d905ab88af129", func := "loop.example/g01130/laws.FnExactTypingDistance", spec := "fnExactTypingDistance", inPlace := ["internal/bytealg.IndexByteString", "internal/bytealg.IndexString"], named := ["loop.example/g01130/impl.moves", "internal/bytealg.MaxLen"], apart := false, laid := [("loop.example/g01130/impl.moves", laid_loop_example_g01130_impl_moves)] }
def FnExactTypingDistanceSaid : Prop := fnExactTypingDistanceRow.holds Tryd.pinned (OpenSpec.ofChange fnExactTypingDistanceSpec)

/-- ITS FALSE NEIGHBOUR: 'it returns false'. Refute it at one input. -/
def fnExactTypingDistanceWrong : ChangeSpec := { name := "fnExactTypingDistance", vars := ["loop.example/g01130/impl.moves"], fn := fun _ => fun
  | [d1, d2, g1] => { results := [.lit (.bool false)], args := [d1, d2], vars := [g1] }
  | _ => none }
def FnExactTypingDistanceWrongFalsely : Prop := fnExactTypingDistanceRow.holds Tryd.pinned (OpenSpec.ofChange fnExactTypingDistanceWrong)

/-- 'laws.FnExactScriptOf': WHATEVER THE INPUT: true; the input reads as it did. -/
def fnExactScriptOfSpec : ChangeSpec := { name := "fnExactScriptOf", vars := ["loop.example/g01130/impl.moves"], fn := fun _ => fun
  | [d1, d2, g1] => { results := [.lit (.bool true)], args := [d1, d2], vars := [g1] }
  | _ => none }
def fnExactScriptOfRow : OpenClaim := { program := "ytiegaebnlikjiaadoor", sum := "f245987e0e141222de397c9ef6f6842996465acd5eb5fb08c01d905ab88af129", func := "loop.example/g01130/laws.FnExactScriptOf", spec := "fnExactScriptOf", inPlace := ["internal/bytealg.IndexByteString", "internal/bytealg.IndexString", "internal/abi.NoEscape"], named := ["loop.example/g01130/impl.moves", "internal/bytealg.MaxLen"], apart := false, laid := [("loop.example/g01130/impl.moves", laid_loop_example_g01130_impl_moves)] }
def FnExactScriptOfSaid : Prop := fnExactScriptOfRow.holds Tryd.pinned (OpenSpec.ofChange fnExactScriptOfSpec)

/-- ITS FALSE NEIGHBOUR: 'it returns false'. Refute it at one input. -/
def fnExactScriptOfWrong : ChangeSpec := { name := "fnExactScriptOf", vars := ["loop.example/g01130/impl.moves"], fn := fun _ => fun
  | [d1, d2, g1] => { results := [.lit (.bool false)], args := [d1, d2], vars := [g1] }
  | _ => none }
def FnExactScriptOfWrongFalsely : Prop := fnExactScriptOfRow.holds Tryd.pinned (OpenSpec.ofChange fnExactScriptOfWrong)

/-- 'laws.FnExactApplyScript': WHATEVER THE INPUT: true; the input reads as it did. -/
def fnExactApplyScriptSpec : ChangeSpec := { name := "fnExactApplyScript", vars := ["loop.example/g01130/impl.moves"], fn := fun _ => fun
  | [d1, d2, d3, g1] => { results := [.lit (.bool true)], args := [d1, d2, d3], vars := [g1] }
  | _ => none }
def fnExactApplyScriptRow : OpenClaim := { program := "ytiegaebnlikjiaadoor", sum := "f245987e0e141222de397c9ef6f6842996465acd5eb5fb08c01d905ab88af129", func := "loop.example/g01130/laws.FnExactApplyScript", spec := "fnExactApplyScript", inPlace := ["internal/bytealg.IndexByteString", "internal/bytealg.IndexString"], named := ["loop.example/g01130/impl.moves", "internal/bytealg.MaxLen"], apart := false, laid := [("loop.example/g01130/impl.moves", laid_loop_example_g01130_impl_moves)] }
def FnExactApplyScriptSaid : Prop := fnExactApplyScriptRow.holds Tryd.pinned (OpenSpec.ofChange fnExactApplyScriptSpec)

/-- ITS FALSE NEIGHBOUR: 'it returns false'. Refute it at one input. -/
def fnExactApplyScriptWrong : ChangeSpec := { name := "fnExactApplyScript", vars := ["loop.example/g01130/impl.moves"], fn := fun _ => fun
  | [d1, d2, d3, g1] => { results := [.lit (.bool false)], args := [d1, d2, d3], vars := [g1] }
  | _ => none }
def FnExactApplyScriptWrongFalsely : Prop := fnExactApplyScriptRow.holds Tryd.pinned (OpenSpec.ofChange fnExactApplyScriptWrong)

/-- 'laws.FnExactLeastTyping': WHATEVER THE INPUT: true; the input reads as it did. -/
def fnExactLeastTypingSpec : ChangeSpec := { name := "fnExactLeastTyping", vars := ["loop.example/g01130/impl.moves"], fn := fun _ => fun
  | [d, g1] => { results := [.lit (.bool true)], args := [d], vars := [g1] }
  | _ => none }
def fnExactLeastTypingRow : OpenClaim := { program := "ytiegaebnlikjiaadoor", sum := "f245987e0e141222de397c9ef6f6842996465acd5eb5fb08c01d905ab88af129", func := "loop.example/g01130/laws.FnExactLeastTyping", spec := "fnExactLeastTyping", inPlace := ["internal/bytealg.IndexByteString", "internal/bytealg.IndexString"], unfollowed := true, recurses := true, named := ["loop.example/g01130/impl.moves", "internal/bytealg.MaxLen"], apart := false, laid := [("loop.example/g01130/impl.moves", laid_loop_example_g01130_impl_moves)] }
def FnExactLeastTypingSaid : Prop := fnExactLeastTypingRow.holds Tryd.pinned (OpenSpec.ofChange fnExactLeastTypingSpec)

/-- ITS FALSE NEIGHBOUR: 'it returns false'. Refute it at one input. -/
def fnExactLeastTypingWrong : ChangeSpec := { name := "fnExactLeastTyping", vars := ["loop.example/g01130/impl.moves"], fn := fun _ => fun
  | [d, g1] => { results := [.lit (.bool false)], args := [d], vars := [g1] }
  | _ => none }
def FnExactLeastTypingWrongFalsely : Prop := fnExactLeastTypingRow.holds Tryd.pinned (OpenSpec.ofChange fnExactLeastTypingWrong)

/- THE SECOND FORM. 'bulk': how many values and letters a reading holds, each counted each time it is reached (what is shared counts as often as it is met; a slice's spare places count too). A statement '..UptoSaid' is the law's where the arguments, and the package variables that the reading takes, are together of bulk at most 1048576: NARROWER than '..Said'. Prove '..Said' where nothing that the law and all that it calls make is longer than what came in: it says more and counts as full. Else prove '..UptoSaid'. A law counts once. -/
mutual
def uptoBulk {H : Type} : DataW H → Nat
  | .lit (.string bytes) => bytes.length + 1
  | .lit _ => 1
  | .nil => 1
  | .ptr d => uptoBulk d + 1
  | .slice elems spare => uptoBulkAll elems + uptoBulkAll spare + 1
  | .agg parts => uptoBulkAll parts + 1
  | .iface _ d => uptoBulk d + 1
  | .map entries => uptoBulkEntries entries + 1
  | .held _ => 1
def uptoBulkAll {H : Type} : List (DataW H) → Nat
  | [] => 0
  | d :: r => uptoBulk d + uptoBulkAll r
def uptoBulkEntries {H : Type} : List (Lit × DataW H) → Nat
  | [] => 0
  | x :: r => uptoBulkEntry x + uptoBulkEntries r
def uptoBulkEntry {H : Type} : Lit × DataW H → Nat
  | (.string bytes, d) => bytes.length + uptoBulk d + 1
  | (_, d) => uptoBulk d + 1
 end
def uptoSmall : (H : Type) → List (DataW H) → Bool := fun _ ds => decide (uptoBulkAll ds ≤ 1048576)
def OpenSpec.upto (s : _root_.Go.ChangeSpec) : _root_.Go.OpenSpec := { _root_.Go.OpenSpec.ofChange s with cond := some uptoSmall }

/-- 'laws.FnEdits', WHERE WHAT IT READS IS OF BULK AT MOST 1048576: true; the input reads as it did. -/
def fnEditsUptoRow : OpenClaim := { program := "ytiegaebnlikjiaadoor", sum := "f245987e0e141222de397c9ef6f6842996465acd5eb5fb08c01d905ab88af129", func := "loop.example/g01130/laws.FnEdits", spec := "fnEdits", inPlace := ["internal/bytealg.IndexByteString", "internal/bytealg.IndexString", "internal/abi.NoEscape"], named := ["loop.example/g01130/impl.moves", "internal/bytealg.MaxLen"], apart := false, laid := [("loop.example/g01130/impl.moves", laid_loop_example_g01130_impl_moves)], narrowed := true }
def FnEditsUptoSaid : Prop := fnEditsUptoRow.holds Tryd.pinned (OpenSpec.upto fnEditsSpec)

/-- 'laws.FnExactTypingDistance', WHERE WHAT IT READS IS OF BULK AT MOST 1048576: true; the input reads as it did. -/
def fnExactTypingDistanceUptoRow : OpenClaim := { program := "ytiegaebnlikjiaadoor", sum := "f245987e0e141222de397c9ef6f6842996465acd5eb5fb08c01d905ab88af129", func := "loop.example/g01130/laws.FnExactTypingDistance", spec := "fnExactTypingDistance", inPlace := ["internal/bytealg.IndexByteString", "internal/bytealg.IndexString"], named := ["loop.example/g01130/impl.moves", "internal/bytealg.MaxLen"], apart := false, laid := [("loop.example/g01130/impl.moves", laid_loop_example_g01130_impl_moves)], narrowed := true }
def FnExactTypingDistanceUptoSaid : Prop := fnExactTypingDistanceUptoRow.holds Tryd.pinned (OpenSpec.upto fnExactTypingDistanceSpec)

/-- 'laws.FnExactScriptOf', WHERE WHAT IT READS IS OF BULK AT MOST 1048576: true; the input reads as it did. -/
def fnExactScriptOfUptoRow : OpenClaim := { program := "ytiegaebnlikjiaadoor", sum := "f245987e0e141222de397c9ef6f6842996465acd5eb5fb08c01d905ab88af129", func := "loop.example/g01130/laws.FnExactScriptOf", spec := "fnExactScriptOf", inPlace := ["internal/bytealg.IndexByteString", "internal/bytealg.IndexString", "internal/abi.NoEscape"], named := ["loop.example/g01130/impl.moves", "internal/bytealg.MaxLen"], apart := false, laid := [("loop.example/g01130/impl.moves", laid_loop_example_g01130_impl_moves)], narrowed := true }
def FnExactScriptOfUptoSaid : Prop := fnExactScriptOfUptoRow.holds Tryd.pinned (OpenSpec.upto fnExactScriptOfSpec)

/-- 'laws.FnExactApplyScript', WHERE WHAT IT READS IS OF BULK AT MOST 1048576: true; the input reads as it did. -/
def fnExactApplyScriptUptoRow : OpenClaim := { program := "ytiegaebnlikjiaadoor", sum := "f245987e0e141222de397c9ef6f6842996465acd5eb5fb08c01d905ab88af129", func := "loop.example/g01130/laws.FnExactApplyScript", spec := "fnExactApplyScript", inPlace := ["internal/bytealg.IndexByteString", "internal/bytealg.IndexString"], named := ["loop.example/g01130/impl.moves", "internal/bytealg.MaxLen"], apart := false, laid := [("loop.example/g01130/impl.moves", laid_loop_example_g01130_impl_moves)], narrowed := true }
def FnExactApplyScriptUptoSaid : Prop := fnExactApplyScriptUptoRow.holds Tryd.pinned (OpenSpec.upto fnExactApplyScriptSpec)

/-- 'laws.FnExactLeastTyping', WHERE WHAT IT READS IS OF BULK AT MOST 1048576: true; the input reads as it did. -/
def fnExactLeastTypingUptoRow : OpenClaim := { program := "ytiegaebnlikjiaadoor", sum := "f245987e0e141222de397c9ef6f6842996465acd5eb5fb08c01d905ab88af129", func := "loop.example/g01130/laws.FnExactLeastTyping", spec := "fnExactLeastTyping", inPlace := ["internal/bytealg.IndexByteString", "internal/bytealg.IndexString"], unfollowed := true, recurses := true, named := ["loop.example/g01130/impl.moves", "internal/bytealg.MaxLen"], apart := false, laid := [("loop.example/g01130/impl.moves", laid_loop_example_g01130_impl_moves)], narrowed := true }
def FnExactLeastTypingUptoSaid : Prop := fnExactLeastTypingUptoRow.holds Tryd.pinned (OpenSpec.upto fnExactLeastTypingSpec)

end Rows
end Go.Proofs.YtiegaebnlikjiaaDoor
