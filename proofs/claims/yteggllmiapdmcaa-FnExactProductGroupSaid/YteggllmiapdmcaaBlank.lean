/-
  A table of zeros, as the model makes it.
-/
import Derived.Test.YteggllmiapdmcaaGrid
import Derived.Test.YteggllmiapdmcaaOwn3
namespace Go.Proofs.Yteggllmiapdmcaa
open Go.RowKit

/-- A table of the call's own with the numbers of F. -/
def MadeG (B n : Nat) (F : Nat → Nat → Nat) (w : World) (e : Ending) (w' : World) : Prop :=
  ∃ A cc L, e = .returned (.slice A n cc) ∧ Own2 B w' A n cc L (gridOf n n F) ∧ Below w.heap.size w w'
end Go.Proofs.Yteggllmiapdmcaa
