/-
  Chains that functions return: the block of the result.
-/
import Derived.Test.YtiokcflomchdcabMarkC
namespace Go.Proofs.Ytiokcflomchdcab
open Go.RowKit

def six (W : World) (b : Nat) (v0 v1 v2 v3 v4 v5 : Value) : World := (((((W.setCell ⟨b, 0, none⟩ v0).setCell ⟨b, 1, none⟩ v1).setCell ⟨b, 2, none⟩ v2).setCell ⟨b, 3, none⟩ v3).setCell ⟨b, 4, none⟩ v4).setCell ⟨b, 5, none⟩ v5
theorem six_blk {W : World} {b : Nat} {a0 a1 a2 a3 a4 a5 : Value} {t : TypeId} (h : Blk W b #[a0, a1, a2, a3, a4, a5] t) (v0 v1 v2 v3 v4 v5 : Value) : Blk (six W b v0 v1 v2 v3 v4 v5) b #[v0, v1, v2, v3, v4, v5] t := by
  unfold six
  simpa using ((((((h.set 0 v0).set 1 v1).set 2 v2).set 3 v3).set 4 v4).set 5 v5)
theorem six_heap (W : World) (b : Nat) (v0 v1 v2 v3 v4 v5 : Value) {g : Nat} (hg : g ≠ b) : (six W b v0 v1 v2 v3 v4 v5).heap[g]? = W.heap[g]? := by
  unfold six
  rw [heap_setCell_other _ _ _ _ hg, heap_setCell_other _ _ _ _ hg, heap_setCell_other _ _ _ _ hg, heap_setCell_other _ _ _ _ hg, heap_setCell_other _ _ _ _ hg, heap_setCell_other _ _ _ _ hg]
theorem six_below {B : Nat} {a W : World} {b : Nat} (h : Below B a W) (hb : B ≤ b) (v0 v1 v2 v3 v4 v5 : Value) : Below B a (six W b v0 v1 v2 v3 v4 v5) := by
  unfold six
  exact (((((h.setCell (by simpa using hb) _).setCell (by simpa using hb) _).setCell (by simpa using hb) _).setCell (by simpa using hb) _).setCell (by simpa using hb) _).setCell (by simpa using hb) _
theorem six_size (W : World) (b : Nat) (v0 v1 v2 v3 v4 v5 : Value) : (six W b v0 v1 v2 v3 v4 v5).heap.size = W.heap.size := by
  unfold six; simp

def zeroC : Ch := ⟨0, 0, 0, 0, [], []⟩
/-- A chain of the call's own, and whether there is one. -/
def MadeCB (B : Nat) (r : Ch) (ok : Bool) (w : World) (e : Ending) (w' : World) : Prop :=
  ∃ AT cT AP cP M LL, e = .returned (.tuple #[chV r AT r.T.length cT AP r.P.length cP, .bool ok]) ∧ OwnC B w' r AT r.T.length cT AP r.P.length cP M LL ∧ Below B w w'
theorem own3_nil (w : World) (B : Nat) : Own3 B w none 0 0 [] [] [] :=
  ⟨⟨rfl, .inl ⟨rfl, rfl⟩⟩, rfl, rfl, fun j t L zss ht _ _ => absurd ht (by simp), fun i j L L' s t g hs => absurd hs (by simp)⟩
theorem madeC_zero {B : Nat} {w w' : World} (h : Below B w w') : MadeCB B zeroC false w (.returned (.tuple #[.agg #[.int .i64 0, .int .i64 0, .int .i64 0, .int .i64 0, .slice none 0 0, .slice none 0 0], .bool false])) w' :=
  ⟨none, 0, none, 0, [], [], rfl, ⟨own3_nil _ _, ⟨⟨rfl, .inl ⟨rfl, rfl⟩⟩, by simp [zeroC]⟩, fun L hL => absurd hL (by simp)⟩, h⟩
/-- One table in a block of its own. -/
theorem own3_one {B g n c : Nat} {w : World} {A : Option Addr} {L : List SL} {t : List (List Int)} (hb : Blk w g #[.slice A n c] 22) (hB : B ≤ g) (h : Own2 B w A n c L t) : Own3 B w (some ⟨g, 0, none⟩) 1 1 [(A, n, c)] [L] [t] := by
  refine ⟨⟨rfl, .inr ⟨g, 1, #[.slice A n c], rfl, hB, hb, Nat.le_refl _, by unfold maxLen; omega, rfl, rfl⟩⟩, rfl, rfl, ?_, ?_⟩
  · intro j s L' zss hs hL hz
    match j, hs, hL, hz with
    | 0, hs, hL, hz =>
      simp at hs hL hz
      subst hs; subst hL; subst hz
      exact h
    | j + 1, hs, _, _ => simp at hs
  · intro i j L1 L2 s u g' h1 h2 hij
    match i, j, h1, h2 with
    | 0, 0, _, _ => exact absurd rfl hij
    | 0, j + 1, _, h2 => simp at h2
    | i + 1, _, h1, _ => simp at h1
end Go.Proofs.Ytiokcflomchdcab
