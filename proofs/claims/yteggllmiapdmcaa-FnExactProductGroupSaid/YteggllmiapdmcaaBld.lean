/-
  A table in the field of a group that grows row by row, as the model makes it.
-/
import Derived.Test.YteggllmiapdmcaaGp
import Derived.Test.YteggllmiapdmcaaGot
namespace Go.Proofs.Yteggllmiapdmcaa
open Go.RowKit

/-- k rows so far: the field at g has them, and nothing below g has turned since w0. -/
structure Bld (g k : Nat) (w0 w : World) (A : Option Addr) (c : Nat) (L : List SL) (zss : List (List Int)) : Prop where
  fld : Blk w g #[.slice A k c] 26
  own : Own2 (g + 1) w A k c L zss
  bel : Below g w0 w
theorem cell_oneG (w : World) (x : Value) (t : TypeId) : ∀ j u, [x][j]? = some u → (w.alloc (.cells #[x] t)).cell? ((⟨w.heap.size, 0, none⟩ : Addr).add j) = some u := by
  intro j u hj
  match j, hj with
  | 0, hj => simp at hj; subst hj; simp [Addr.add]
  | j + 1, hj => simp at hj
section
variable {g k m c c' c3 : Nat} {w0 W W1 w3 : World} {A A' A3 : Option Addr} {L : List SL} {zss : List (List Int)} {zs : List Int} {o : Obj}
theorem Bld.at_ (h : Bld g k w0 W A c L zss) (hb : Below W.heap.size W W1) : Bld g k w0 W1 A c L zss := by
  refine ⟨h.fld.below hb h.fld.lt, h.own.keepL (fun q hq => hb.block q (h.own.olt q hq)) (fun t ht q hq => hb.block q (h.own.lt t ht q hq)), h.bel.trans (hb.mono (by have := h.fld.lt; omega))⟩
theorem Bld.next (h : Bld g k w0 W A c L zss) (hb : Below W.heap.size W W1) (hr : Own W.heap.size W1 A' m c' zs)
    (ho3 : w3.ownsRow (g + 1) 34 1 (.slice A3 (k + 1) c3) (k + 1) (L.map sliceV ++ [.slice A' m c'])) (hg3 : (W1.alloc o).grownBy w3 (Value.slice A k c).ownBlock) :
    Blk w3 g #[.slice A k c] 26 ∧ Bld g (k + 1) w0 (w3.setCell ⟨g, 0, none⟩ (.slice A3 (k + 1) c3)) A3 c3 (L ++ [(A', m, c')]) (zss ++ [zs]) := by
  have h1 := h.at_ hb
  have hsz := hb.size
  have hgl := h.fld.lt
  have hAb : ∀ q, A = some ⟨q, 0, none⟩ → g + 1 ≤ q ∧ q < W.heap.size := fun q hq => ⟨h.own.ofrom q hq, h.own.olt q hq⟩
  have hkeep : ∀ q, q < W1.heap.size → A ≠ some ⟨q, 0, none⟩ → w3.heap[q]? = W1.heap[q]? := by
    intro q hq hne
    rw [hg3.block q (by simp; omega) (fun e => ?_), Below.heap_alloc _ _ _ hq]
    rcases ownsRow_form h.own.outer with ⟨h0, _⟩ | ⟨g', h0, _⟩
    · rw [h0] at e; simp [Value.ownBlock] at e
    · rw [h0] at e
      simp [Value.ownBlock] at e
      exact hne (by rw [h0, e])
  have hf3 : Blk w3 g #[.slice A k c] 26 := by
    unfold Blk
    rw [hkeep g (by omega) (fun e => by have := (hAb g e).1; omega)]
    exact h1.fld
  have X : Own2 (g + 1) w3 A3 (k + 1) c3 (L ++ [(A', m, c')]) (zss ++ [zs]) := by
    refine Own2.snoc h1.own ho3 ?_ ?_ ?_
    · refine (hr.lower (by omega)).keep fun q hq => hkeep q (hr.lt q hq) (fun e => ?_)
      have h2 := (hAb q e).2
      have h3 := hr.from q hq
      omega
    · intro j s q hs hq
      have h2 := h.own.lt s (List.mem_of_getElem? hs) q hq
      exact hkeep q (by omega) (fun e => h.own.out j s q hs hq e)
    · intro j s q hs hq e
      have h2 := h.own.lt s (List.mem_of_getElem? hs) q hq
      have h3 := hr.from q e
      omega
  refine ⟨hf3, ?_, ?_, ?_⟩
  · simpa using hf3.set 0 (.slice A3 (k + 1) c3)
  · exact X.keepL (fun q hq => Below.heap_setCell w3 ⟨g, 0, none⟩ _ q (by have := X.ofrom q hq; show q ≠ g; omega)) (fun t ht q hq => Below.heap_setCell w3 ⟨g, 0, none⟩ _ q (by have := X.from t ht q hq; show q ≠ g; omega))
  · have hb3 : Below g w0 w3 := Below.grown (h1.bel.alloc (by omega) o) hg3 (by simp; omega) (fun q hq => by have := (h1.own.outer.lt q hq).1; omega)
    exact hb3.setCell (Nat.le_refl _) _
end
end Go.Proofs.Yteggllmiapdmcaa
