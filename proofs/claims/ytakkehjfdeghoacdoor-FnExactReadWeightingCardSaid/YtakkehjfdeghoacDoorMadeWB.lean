/-
  Weightings that functions return: the block of the result, what the law asks of it.
-/
import Derived.Test.YtakkehjfdeghoacDoorWt
namespace Go.Proofs.YtakkehjfdeghoacDoor
open Go.RowKit

theorem blk_neW {B b n c m : Nat} {w : World} {cs : Array Value} {t u : TypeId} {A : Option Addr} {xs : List Value} (h : Blk w b cs t) (o : w.ownsRow B u m (.slice A n c) n xs) (ht : u ≠ t) : A ≠ some ⟨b, 0, none⟩ := by
  intro e
  subst e
  rcases o.2 with ⟨hv, _⟩ | ⟨g, cap, cur, hv, _, hg, _⟩
  · cases hv
  · injection hv with h1
    injection h1 with h1
    injection h1 with h1
    subst h1
    unfold Blk at h
    rw [h] at hg
    injection hg with hg
    injection hg with _ hg
    exact ht hg.symm
def four (W : World) (b : Nat) (v0 v1 v2 v3 : Value) : World := (((W.setCell ⟨b, 0, none⟩ v0).setCell ⟨b, 1, none⟩ v1).setCell ⟨b, 2, none⟩ v2).setCell ⟨b, 3, none⟩ v3
theorem four_blk {W : World} {b : Nat} {a0 a1 a2 a3 : Value} {t : TypeId} (h : Blk W b #[a0, a1, a2, a3] t) (v0 v1 v2 v3 : Value) : Blk (four W b v0 v1 v2 v3) b #[v0, v1, v2, v3] t := by
  unfold four
  simpa using ((((h.set 0 v0).set 1 v1).set 2 v2).set 3 v3)
theorem four_heap (W : World) (b : Nat) (v0 v1 v2 v3 : Value) {g : Nat} (hg : g ≠ b) : (four W b v0 v1 v2 v3).heap[g]? = W.heap[g]? := by
  unfold four
  rw [heap_setCell_other _ _ _ _ hg, heap_setCell_other _ _ _ _ hg, heap_setCell_other _ _ _ _ hg, heap_setCell_other _ _ _ _ hg]
theorem four_below {B : Nat} {a W : World} {b : Nat} (h : Below B a W) (hb : B ≤ b) (v0 v1 v2 v3 : Value) : Below B a (four W b v0 v1 v2 v3) := by
  unfold four
  exact (((h.setCell (by simpa using hb) _).setCell (by simpa using hb) _).setCell (by simpa using hb) _).setCell (by simpa using hb) _

def zeroW : Wt := ⟨0, 0, 0, []⟩
/-- A weighting of the call's own, and whether there is one. -/
def MadeWB (B : Nat) (r : Wt) (ok : Bool) (w : World) (e : Ending) (w' : World) : Prop :=
  ∃ A c, e = .returned (.tuple #[wtV r A r.W.length c, .bool ok]) ∧ Own B w' A r.W.length c r.W ∧ Below B w w'
theorem made_zero {B : Nat} {w w' : World} (h : Below B w w') : MadeWB B zeroW false w (.returned (.tuple #[.agg #[.int .i64 0, .int .i64 0, .int .i64 0, .slice none 0 0], .bool false])) w' :=
  ⟨none, 0, rfl, ⟨⟨rfl, .inl ⟨rfl, rfl⟩⟩, by simp [zeroW]⟩, h⟩
end Go.Proofs.YtakkehjfdeghoacDoor
