/-
  What a walk holds of an object in some blocks, and what steps leave of it.
-/
import Derived.Test.YtakkehjfdeghoacDoorOwn
namespace Go.Proofs.YtakkehjfdeghoacDoor
open Go.RowKit

def Agree (lo hi : Nat) (w w' : World) : Prop := ∀ g, lo ≤ g → g < hi → w'.heap[g]? = w.heap[g]?
/-- P holds here, and wherever the blocks from lo to hi are as they are here. -/
def Held (P : World → Prop) (lo hi : Nat) (w : World) : Prop := ∀ w', Agree lo hi w w' → P w'
/-- Of the blocks that were there only those from lo to hi may have turned. -/
structure Ran (lo hi : Nat) (w w' : World) : Prop where
  os : w'.os = w.os
  tape : w'.tape = w.tape
  output : w'.output = w.output
  size : w.heap.size ≤ w'.heap.size
  block : ∀ g, g < w.heap.size → (g < lo ∨ hi ≤ g) → w'.heap[g]? = w.heap[g]?
theorem Held.now {P : World → Prop} {lo hi : Nat} {w : World} (h : Held P lo hi w) : P w := h w fun _ _ _ => rfl
theorem Held.ran {P : World → Prop} {lo hi lo' hi' : Nat} {w w' : World} (h : Held P lo hi w) (r : Ran lo' hi' w w') (hs : hi ≤ w.heap.size) (hd : hi' ≤ lo ∨ hi ≤ lo') : Held P lo hi w' := by
  intro w'' ha
  refine h w'' fun g h1 h2 => (ha g h1 h2).trans (r.block g (by omega) ?_)
  rcases hd with hd | hd
  · exact .inr (by omega)
  · exact .inl (by omega)
theorem ran_below {w w' : World} (h : Below w.heap.size w w') (k : Nat) : Ran k k w w' := ⟨h.os, h.tape, h.output, h.size, fun g hg _ => h.block g hg⟩
theorem ran_drewN (w : World) (m k : Nat) : Ran k k w (w.drewN m) := ⟨rfl, rfl, rfl, Nat.le_refl _, fun _ _ _ => rfl⟩
theorem ran_only {A : Option Addr} {lo hi : Nat} {w w' : World} (h : Only A w w') (h1 : ∀ g, A = some ⟨g, 0, none⟩ → lo ≤ g) (h2 : ∀ g, A = some ⟨g, 0, none⟩ → g < hi) : Ran lo hi w w' :=
  ⟨h.os, h.tape, h.output, by rw [h.size]; exact Nat.le_refl _, fun g _ hg => h.block g fun e => by have a := h1 g e; have b := h2 g e; omega⟩
theorem Ran.below {lo hi B : Nat} {w w' : World} (h : Ran lo hi w w') (h1 : B ≤ lo) (h2 : B ≤ w.heap.size) : Below B w w' :=
  ⟨h.os, h.tape, h.output, h.size, fun g hg => h.block g (by omega) (.inl (by omega))⟩
theorem held_row {k : IntKind} {B n : Nat} {w : World} {A : Option Addr} {zs : List Int} (h : RowB k B w A n zs) : Held (fun W => RowB k B W A n zs) 0 B w := by
  intro w' ha
  refine ⟨h.1, h.2.1, h.2.2.1, fun h0 => ?_⟩
  obtain ⟨b, off, e, hb, hc⟩ := h.2.2.2 h0
  exact ⟨b, off, e, hb, fun j hj => (World.cell?_of_block (w := w) (ha b (Nat.zero_le _) hb)).trans (hc j hj)⟩
theorem held_own {lo hi n c : Nat} {w : World} {A : Option Addr} {zs : List Int} (h : Own lo w A n c zs) (hA : ∀ g, A = some ⟨g, 0, none⟩ → g < hi) : Held (fun W => Own lo W A n c zs) lo hi w :=
  fun _ ha => h.keep fun g hg => ha g (h.from g hg) (hA g hg)
end Go.Proofs.YtakkehjfdeghoacDoor
