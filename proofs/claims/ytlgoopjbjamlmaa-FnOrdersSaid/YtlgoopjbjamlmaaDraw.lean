/-
  Drawn digits: a base, and some digits below it.
-/
import Derived.Test.YtlgoopjbjamlmaaSrc
import Derived.Test.YtlgoopjbjamlmaaBar
namespace Go.Proofs.Ytlgoopjbjamlmaa
open Go.RowKit

def From (A : Option Addr) (n c : Nat) (w : World) (e : Ending) (w' : World) : Prop :=
  e = .returned (.pointer (some ⟨w.heap.size, 0, none⟩)) ∧ SrcAt w' w.heap.size A n c 0 ∧ Below w.heap.size w w' ∧ w'.heap.size = w.heap.size + 1
set_option maxRecDepth 100000 in
set_option maxHeartbeats 1000000 in
theorem from_any (A : Option Addr) (n c : Nat) (w : World) :
    Calls Try.prog 38 #[.slice A n c] w (From A n c w) := by
  go_enter Try.func38, Try.ntmps38
  go_wp2
  go_ret
  refine ⟨rfl, ⟨0, 0, heap_alloc_new w _, by omega, by omega, by omega⟩, (Below.refl _ w).alloc (Nat.le_refl _) _, by simp only [World.alloc, Array.size_push]⟩
theorem own_lit (w : World) (cs : Array Value) (zs : List Int) (n : Nat) (hz : cs.toList = cells64 zs) (hn : zs.length = n) (hm : n ≤ maxLen) (hw : ∀ z ∈ zs, (Lit.int .i64 z).wf = true) :
    Own w.heap.size (w.alloc (.cells cs 2)) (some ⟨w.heap.size, 0, none⟩) n n zs := by
  have h := World.ownsRow_lit (size := 1) (e := 2) w cs n (Nat.le_refl _) hm (by have := congrArg List.length hz; simp at this; omega)
  rw [hz] at h
  exact ⟨h, hw⟩
end Go.Proofs.Ytlgoopjbjamlmaa
