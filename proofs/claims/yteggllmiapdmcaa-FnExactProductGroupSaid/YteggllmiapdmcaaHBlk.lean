/-
  What a walk holds of a block that is known whole, and of an argument's rows of rows.
-/
import Derived.Test.YteggllmiapdmcaaHeld
import Derived.Test.YteggllmiapdmcaaBlk
namespace Go.Proofs.Yteggllmiapdmcaa
open Go.RowKit

theorem ran_drew (w : World) (k : Nat) : Ran k k w w.drew := ⟨rfl, rfl, rfl, Nat.le_refl _, fun _ _ _ => rfl⟩
theorem below_drew {B : Nat} {a w : World} (h : Below B a w) : Below B a w.drew := ⟨h.os, h.tape, h.output, h.size, h.block⟩
theorem held_blk {w : World} {b lo hi : Nat} {cs : Array Value} {t : TypeId} (h : Blk w b cs t) (h1 : lo ≤ b) (h2 : b < hi) : Held (fun W => Blk W b cs t) lo hi w :=
  fun _ ha => (ha b h1 h2).trans h
end Go.Proofs.Yteggllmiapdmcaa
