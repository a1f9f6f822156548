/-
  A block whose cells are known whole, and the contract of the laws' measure of a slice of integers.
-/
import Derived.Test.YtfmlmgebomapjaaDoorOwn
namespace Go.Proofs.YtfmlmgebomapjaaDoor
open Go.RowKit

abbrev nilV : Value := .slice none 0 0
def Blk (w : World) (b : Nat) (cs : Array Value) (t : TypeId) : Prop := w.heap[b]? = some (.cells cs t)
section
variable {w w' : World} {b : Nat} {cs : Array Value} {t : TypeId}
theorem Blk.cell (h : Blk w b cs t) (j : Nat) : w.cell? ⟨b, j, none⟩ = cs[j]? := by
  unfold Blk at h; simp [World.cell?, h]
theorem Blk.frozen (h : Blk w b cs t) (j : Nat) : w.frozen? ⟨b, j, none⟩ = false := by
  unfold Blk at h; simp [World.frozen?, h]
theorem Blk.set (h : Blk w b cs t) (j : Nat) (v : Value) : Blk (w.setCell ⟨b, j, none⟩ v) b (cs.setIfInBounds j v) t := heap_setCell_same w b j cs t v h
theorem Blk.other (h : Blk w b cs t) {b' j : Nat} (v : Value) (hb : b ≠ b') : Blk (w.setCell ⟨b', j, none⟩ v) b cs t := by
  unfold Blk; rw [heap_setCell_other w ⟨b', j, none⟩ b v hb]; exact h
theorem Blk.lt (h : Blk w b cs t) : b < w.heap.size := (Array.getElem?_eq_some_iff.1 h).1
theorem Blk.below (h : Blk w b cs t) {B : Nat} (hb : Below B w w') (hB : b < B) : Blk w' b cs t := (hb.block b hB).trans h
theorem Blk.new (w : World) (cs : Array Value) (t : TypeId) : Blk (w.alloc (.cells cs t)) w.heap.size cs t := by
  show (w.heap.push _)[w.heap.size]? = _
  simp
theorem Blk.alloc (h : Blk w b cs t) (o : Obj) : Blk (w.alloc o) b cs t := by
  have := h.lt
  show (w.heap.push o)[b]? = _
  rw [Array.getElem?_push, if_neg (by omega)]; exact h
theorem Blk.drewN (h : Blk w b cs t) (m : Nat) : Blk (w.drewN m) b cs t := h
end

def szF (left : Int) (t : Nat) : Int := if left < t then -1 else left - t
theorem szF_big {left : Int} {t : Nat} (h : left < t) : szF left t = -1 := by simp [szF, h]
theorem szF_ok {left : Int} {t : Nat} (h : ¬ left < t) : szF left t = left - t := by simp [szF, h]

end Go.Proofs.YtfmlmgebomapjaaDoor
