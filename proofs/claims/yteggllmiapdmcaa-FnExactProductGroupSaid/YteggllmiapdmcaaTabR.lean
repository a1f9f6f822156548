/-
  Where the cells of a table of n rows of n numbers below n lie, all of them at once.
-/
import Derived.Test.YteggllmiapdmcaaSwS
import Derived.Test.YteggllmiapdmcaaGM
namespace Go.Proofs.Yteggllmiapdmcaa
open Go.RowKit

def TabR (B : Nat) (w : World) (b o n : Nat) (t : List (List Int)) (P Q C : Nat → Nat) : Prop :=
  b < B ∧ ∀ x, x < n → w.cell? ⟨b, o + x, none⟩ = some (.slice (some ⟨P x, Q x, none⟩) n (C x)) ∧ n ≤ C x ∧ P x < B ∧ ∀ y, y < n → w.cell? ⟨P x, Q x + y, none⟩ = some (.int .i64 (cellZ t x y : Int))
section
variable {B b o n : Nat} {A : Option Addr} {t : List (List Int)} {w w' : World} {P Q C : Nat → Nat}
theorem tabR_of (h : Rows2 B w A n t) (ht : tabOk n n t = true) (hn : 0 < n) : ∃ b o P Q C, A = some ⟨b, o, none⟩ ∧ TabR B w b o n t P Q C := by
  have h0 := cell_lies h ht hn hn
  obtain ⟨b, o, b2, o2, c2, rfl, hb, _⟩ := h0
  have hx : ∀ x, ∃ q : Nat × Nat × Nat, x < n → w.cell? ⟨b, o + x, none⟩ = some (.slice (some ⟨q.1, q.2.1, none⟩) n q.2.2) ∧ n ≤ q.2.2 ∧ q.1 < B ∧ ∀ y, y < n → w.cell? ⟨q.1, q.2.1 + y, none⟩ = some (.int .i64 (cellZ t x y : Int)) := by
    intro x
    by_cases hx : x < n
    · obtain ⟨b', o', b3, o3, c3, e2, _, hc3, hn3, hb3, _⟩ := cell_lies h ht hx hn
      injection e2 with e2
      injection e2 with e2 e3 _
      subst e2; subst e3
      refine ⟨(b3, o3, c3), fun _ => ⟨hc3, hn3, hb3, fun y hy => ?_⟩⟩
      obtain ⟨b', o', b4, o4, c4, e2, _, hc4, _, _, hc5⟩ := cell_lies h ht hx hy
      injection e2 with e2
      injection e2 with e2 e3 _
      subst e2; subst e3
      rw [hc3] at hc4
      injection hc4 with hc4
      injection hc4 with hc4 _ _
      injection hc4 with hc4
      injection hc4 with h1 h2 _
      subst h1; subst h2
      exact hc5
    · exact ⟨(0, 0, 0), fun h => absurd h hx⟩
  exact ⟨b, o, fun x => (Classical.choose (hx x)).1, fun x => (Classical.choose (hx x)).2.1, fun x => (Classical.choose (hx x)).2.2, rfl, hb, fun x hlt => Classical.choose_spec (hx x) hlt⟩
theorem TabR.below (h : TabR B w b o n t P Q C) (hb : Below B w w') : TabR B w' b o n t P Q C :=
  ⟨h.1, fun x hx => by
    obtain ⟨h1, h2, h3, h4⟩ := h.2 x hx
    exact ⟨(hb.cell (p := ⟨b, o + x, none⟩) h.1).trans h1, h2, h3, fun y hy => (hb.cell (p := ⟨P x, Q x + y, none⟩) h3).trans (h4 y hy)⟩⟩
theorem TabR.drewN (h : TabR B w b o n t P Q C) (m : Nat) : TabR B (w.drewN m) b o n t P Q C := h
theorem TabR.row (h : TabR B w b o n t P Q C) {x : Nat} (hx : x < n) : w.cell? ⟨b, o + x, none⟩ = some (.slice (some ⟨P x, Q x, none⟩) n (C x)) := (h.2 x hx).1
theorem TabR.cap (h : TabR B w b o n t P Q C) {x : Nat} (hx : x < n) : n ≤ C x := (h.2 x hx).2.1
theorem TabR.cell (h : TabR B w b o n t P Q C) {x y : Nat} (hx : x < n) (hy : y < n) : w.cell? ⟨P x, Q x + y, none⟩ = some (.int .i64 (cellZ t x y : Int)) := (h.2 x hx).2.2.2 y hy
end
end Go.Proofs.Yteggllmiapdmcaa
