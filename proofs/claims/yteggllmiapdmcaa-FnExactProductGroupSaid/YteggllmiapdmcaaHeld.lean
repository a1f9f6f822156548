/-
  What a walk holds of an object in some blocks, and what steps leave of it.
-/
import Derived.Test.YteggllmiapdmcaaOwn
import Derived.Test.YteggllmiapdmcaaOwn2
namespace Go.Proofs.Yteggllmiapdmcaa
open Go.RowKit

def Agree (lo hi : Nat) (w w' : World) : Prop := ∀ g, lo ≤ g → g < hi → w'.heap[g]? = w.heap[g]?
/-- P holds here, and wherever the blocks from lo to hi are as they are here. -/
def Held (P : World → Prop) (lo hi : Nat) (w : World) : Prop := ∀ w', Agree lo hi w w' → P w'
/-- Of the blocks that were there only those from lo to hi may have turned. -/
structure Ran (lo hi : Nat) (w w' : World) : Prop where
  os : w'.os = w.os
  tape : w'.tape = w.tape
  output : w'.output = w.output
  size : w.heap.size ≤ w'.heap.size
  block : ∀ g, g < w.heap.size → (g < lo ∨ hi ≤ g) → w'.heap[g]? = w.heap[g]?
theorem Held.now {P : World → Prop} {lo hi : Nat} {w : World} (h : Held P lo hi w) : P w := h w fun _ _ _ => rfl
theorem Held.ran {P : World → Prop} {lo hi lo' hi' : Nat} {w w' : World} (h : Held P lo hi w) (r : Ran lo' hi' w w') (hs : hi ≤ w.heap.size) (hd : hi' ≤ lo ∨ hi ≤ lo') : Held P lo hi w' := by
  intro w'' ha
  refine h w'' fun g h1 h2 => (ha g h1 h2).trans (r.block g (by omega) ?_)
  rcases hd with hd | hd
  · exact .inr (by omega)
  · exact .inl (by omega)
theorem ran_below {w w' : World} (h : Below w.heap.size w w') (k : Nat) : Ran k k w w' := ⟨h.os, h.tape, h.output, h.size, fun g hg _ => h.block g hg⟩
theorem ran_drewN (w : World) (m k : Nat) : Ran k k w (w.drewN m) := ⟨rfl, rfl, rfl, Nat.le_refl _, fun _ _ _ => rfl⟩
theorem ran_only {A : Option Addr} {lo hi : Nat} {w w' : World} (h : Only A w w') (h1 : ∀ g, A = some ⟨g, 0, none⟩ → lo ≤ g) (h2 : ∀ g, A = some ⟨g, 0, none⟩ → g < hi) : Ran lo hi w w' :=
  ⟨h.os, h.tape, h.output, by rw [h.size]; exact Nat.le_refl _, fun g _ hg => h.block g fun e => by have a := h1 g e; have b := h2 g e; omega⟩
theorem Ran.below {lo hi B : Nat} {w w' : World} (h : Ran lo hi w w') (h1 : B ≤ lo) (h2 : B ≤ w.heap.size) : Below B w w' :=
  ⟨h.os, h.tape, h.output, h.size, fun g hg => h.block g (by omega) (.inl (by omega))⟩
theorem held_row {k : IntKind} {B n : Nat} {w : World} {A : Option Addr} {zs : List Int} (h : RowB k B w A n zs) : Held (fun W => RowB k B W A n zs) 0 B w := by
  intro w' ha
  refine ⟨h.1, h.2.1, h.2.2.1, fun h0 => ?_⟩
  obtain ⟨b, off, e, hb, hc⟩ := h.2.2.2 h0
  exact ⟨b, off, e, hb, fun j hj => (World.cell?_of_block (w := w) (ha b (Nat.zero_le _) hb)).trans (hc j hj)⟩
theorem held_own {lo hi n c : Nat} {w : World} {A : Option Addr} {zs : List Int} (h : Own lo w A n c zs) (hA : ∀ g, A = some ⟨g, 0, none⟩ → g < hi) : Held (fun W => Own lo W A n c zs) lo hi w :=
  fun _ ha => h.keep fun g hg => ha g (h.from g hg) (hA g hg)
theorem Own2.lt {B : Nat} {w : World} {A : Option Addr} {n c : Nat} {zss : List (List Int)} {L : List SL} (h : Own2 B w A n c L zss) : ∀ t ∈ L, ∀ g, t.1 = some ⟨g, 0, none⟩ → g < w.heap.size := by
  intro t ht g hg
  obtain ⟨j, hj, e⟩ := List.getElem_of_mem ht
  have h1 : L[j]? = some t := by rw [List.getElem?_eq_getElem hj, e]
  have hl := h.len
  have h2 : zss[j]? = some (zss[j]'(by omega)) := List.getElem?_eq_getElem (by omega)
  exact (h.inner j t _ h1 h2).lt g hg
theorem Own2.olt {B : Nat} {w : World} {A : Option Addr} {n c : Nat} {zss : List (List Int)} {L : List SL} (h : Own2 B w A n c L zss) : ∀ g, A = some ⟨g, 0, none⟩ → g < w.heap.size := by
  intro g hg
  rcases ownsRow_form h.outer with ⟨h0, _⟩ | ⟨g', h0, _, h1, _⟩
  · rw [hg] at h0; cases h0
  · rw [hg] at h0; injection h0 with h0; injection h0 with h0; omega
theorem Own2.keepL {B : Nat} {w w' : World} {A : Option Addr} {n c : Nat} {zss : List (List Int)} {L : List SL} (h : Own2 B w A n c L zss) (hA : ∀ g, A = some ⟨g, 0, none⟩ → w'.heap[g]? = w.heap[g]?) (hL : ∀ t ∈ L, ∀ g, t.1 = some ⟨g, 0, none⟩ → w'.heap[g]? = w.heap[g]?) : Own2 B w' A n c L zss :=
  ⟨ownsRow_keep h.outer hA, h.len, fun j t zs ht hz => (h.inner j t zs ht hz).keep fun g hg => hL t (List.mem_of_getElem? ht) g hg, h.apart, h.out⟩
theorem Own2.ofrom {B : Nat} {w : World} {A : Option Addr} {n c : Nat} {zss : List (List Int)} {L : List SL} (h : Own2 B w A n c L zss) : ∀ g, A = some ⟨g, 0, none⟩ → B ≤ g := by
  intro g hg
  rcases ownsRow_form h.outer with ⟨h0, _⟩ | ⟨g', h0, h1, _⟩
  · rw [hg] at h0; cases h0
  · rw [hg] at h0; injection h0 with h0; injection h0 with h0; omega
theorem held_own2 {lo hi n c : Nat} {w : World} {A : Option Addr} {L : List SL} {zss : List (List Int)} (h : Own2 lo w A n c L zss) (hL : ∀ t ∈ L, ∀ g, t.1 = some ⟨g, 0, none⟩ → g < hi) (hA : ∀ g, A = some ⟨g, 0, none⟩ → g < hi) : Held (fun W => Own2 lo W A n c L zss) lo hi w :=
  fun _ ha => h.keepL (fun g hg => ha g (h.ofrom g hg) (hA g hg)) (fun t ht g hg => ha g (h.from t ht g hg) (hL t ht g hg))
theorem Own2.lens {B : Nat} {w : World} {A : Option Addr} {n c : Nat} {zss : List (List Int)} {L : List SL} (h : Own2 B w A n c L zss) : lens L = zss.map List.length := by
  have hl := h.len
  apply List.ext_getElem (by simp [hl])
  intro i h1 h2
  simp only [List.length_map] at h1
  have e1 : L[i]? = some (L[i]'(by omega)) := List.getElem?_eq_getElem (by omega)
  have e2 : zss[i]? = some (zss[i]'(by omega)) := List.getElem?_eq_getElem (by omega)
  have := (h.inner i _ _ e1 e2).len
  simp [this]
theorem ran_onlyL {L : List SL} {lo hi : Nat} {w w' : World} (h : OnlyL L w w') (h1 : ∀ t ∈ L, ∀ g, t.1 = some ⟨g, 0, none⟩ → lo ≤ g) (h2 : ∀ t ∈ L, ∀ g, t.1 = some ⟨g, 0, none⟩ → g < hi) : Ran lo hi w w' :=
  ⟨h.os, h.tape, h.output, by rw [h.size]; exact Nat.le_refl _, fun g _ hg => h.block g fun t ht e => by have a := h1 t ht g e; have b := h2 t ht g e; omega⟩
end Go.Proofs.Yteggllmiapdmcaa
