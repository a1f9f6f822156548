/-
  The comparison of two slices, as a step that leaves what was there.
-/
import Derived.Test.YteggllmiapdmcaaOwn
import Derived.Test.YteggllmiapdmcaaOwn2
namespace Go.Proofs.Yteggllmiapdmcaa
open Go.RowKit

theorem eqInt64SB_any (A1 A2 : Option Addr) (n c1 c2 : Nat) (zs : List Int) (w : World) (h1 : Row .i64 w A1 n zs) (h2 : Row .i64 w A2 n zs) :
    Calls Try.prog 83 #[.slice A1 n c1, .slice A2 n c2] w fun e w' => e = .returned (.bool true) ∧ Below w.heap.size w w' :=
  (eqInt64S_any A1 A2 n c1 c2 zs w h1 h2).mono fun _ _ ⟨h, m, hm⟩ => ⟨h, by rw [hm]; exact below_drewN (Below.refl _ _) m⟩
theorem eqInt64SSB_any {B1 B2 : Nat} (A1 A2 : Option Addr) (n c1 c2 : Nat) (zss : List (List Int)) (w : World) (h1 : Rows2 B1 w A1 n zss) (h2 : Rows2 B2 w A2 n zss) :
    Calls Try.prog 94 #[.slice A1 n c1, .slice A2 n c2] w fun e w' => e = .returned (.bool true) ∧ Below w.heap.size w w' :=
  (eqInt64SS_any A1 A2 n c1 c2 zss w h1 h2).mono fun _ _ ⟨h, m, hm⟩ => ⟨h, by rw [hm]; exact below_drewN (Below.refl _ _) m⟩
end Go.Proofs.Yteggllmiapdmcaa
