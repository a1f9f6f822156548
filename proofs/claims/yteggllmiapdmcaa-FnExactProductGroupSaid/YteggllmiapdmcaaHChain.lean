/-
  What a walk holds of an argument's rows of rows.
-/
import Derived.Test.YteggllmiapdmcaaHBlk
import Derived.Test.YteggllmiapdmcaaCh2
namespace Go.Proofs.Yteggllmiapdmcaa
open Go.RowKit

theorem held_row2 {B n : Nat} {w : World} {A : Option Addr} {zss : List (List Int)} (h : Rows2 B w A n zss) : Held (fun W => Rows2 B W A n zss) 0 B w := by
  intro w' ha
  refine ⟨h.1, h.2.1, fun j hj => ?_⟩
  obtain ⟨b, off, Aj, nj, cj, zs, e, hlt, hz, hc, hn, hr⟩ := h.2.2 j hj
  exact ⟨b, off, Aj, nj, cj, zs, e, hlt, hz, (World.cell?_of_block (w := w) (ha b (Nat.zero_le _) hlt)).trans hc, hn, held_row hr w' ha⟩
theorem held_row3 {B n : Nat} {w : World} {A : Option Addr} {z3 : List (List (List Int))} (h : Rows3 B w A n z3) : Held (fun W => Rows3 B W A n z3) 0 B w := by
  intro w' ha
  refine ⟨h.1, h.2.1, fun j hj => ?_⟩
  obtain ⟨b, off, Aj, nj, cj, zs, e, hlt, hz, hc, hn, hr⟩ := h.2.2 j hj
  exact ⟨b, off, Aj, nj, cj, zs, e, hlt, hz, (World.cell?_of_block (w := w) (ha b (Nat.zero_le _) hlt)).trans hc, hn, held_row2 hr w' ha⟩
theorem held_chrows {B nT nP : Nat} {w : World} {c : Ch} {AT AP : Option Addr} (h : ChRows B w c AT nT AP nP) : Held (fun W => ChRows B W c AT nT AP nP) 0 B w :=
  fun w' ha => ⟨held_row3 h.1 w' ha, held_row h.2 w' ha⟩
end Go.Proofs.Yteggllmiapdmcaa
