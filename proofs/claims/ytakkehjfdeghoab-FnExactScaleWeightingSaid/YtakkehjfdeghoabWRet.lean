/-
  Weightings that functions return: the block of the result, an append to a field, what the law asks of it.
-/
import Derived.Test.YtakkehjfdeghoabWSum
import Derived.Deep.AppendLies
namespace Go.Proofs.Ytakkehjfdeghoab
open Go.RowKit

theorem cell_oneW (w : World) (x : Value) (t : TypeId) : ∀ j u, [x][j]? = some u → (w.alloc (.cells #[x] t)).cell? ((⟨w.heap.size, 0, none⟩ : Addr).add j) = some u := by
  intro j u hj
  match j, hj with
  | 0, hj => simp at hj; subst hj; simp [Addr.add]
  | j + 1, hj => simp at hj
theorem blk_neW {B b n c m : Nat} {w : World} {cs : Array Value} {t u : TypeId} {A : Option Addr} {xs : List Value} (h : Blk w b cs t) (o : w.ownsRow B u m (.slice A n c) n xs) (ht : u ≠ t) : A ≠ some ⟨b, 0, none⟩ := by
  intro e
  subst e
  rcases o.2 with ⟨hv, _⟩ | ⟨g, cap, cur, hv, _, hg, _⟩
  · cases hv
  · injection hv with h1
    injection h1 with h1
    injection h1 with h1
    subst h1
    unfold Blk at h
    rw [h] at hg
    injection hg with hg
    injection hg with _ hg
    exact ht hg.symm
def four (W : World) (b : Nat) (v0 v1 v2 v3 : Value) : World := (((W.setCell ⟨b, 0, none⟩ v0).setCell ⟨b, 1, none⟩ v1).setCell ⟨b, 2, none⟩ v2).setCell ⟨b, 3, none⟩ v3
theorem four_blk {W : World} {b : Nat} {a0 a1 a2 a3 : Value} {t : TypeId} (h : Blk W b #[a0, a1, a2, a3] t) (v0 v1 v2 v3 : Value) : Blk (four W b v0 v1 v2 v3) b #[v0, v1, v2, v3] t := by
  unfold four
  simpa using ((((h.set 0 v0).set 1 v1).set 2 v2).set 3 v3)
theorem four_heap (W : World) (b : Nat) (v0 v1 v2 v3 : Value) {g : Nat} (hg : g ≠ b) : (four W b v0 v1 v2 v3).heap[g]? = W.heap[g]? := by
  unfold four
  rw [heap_setCell_other _ _ _ _ hg, heap_setCell_other _ _ _ _ hg, heap_setCell_other _ _ _ _ hg, heap_setCell_other _ _ _ _ hg]
theorem four_below {B : Nat} {a W : World} {b : Nat} (h : Below B a W) (hb : B ≤ b) (v0 v1 v2 v3 : Value) : Below B a (four W b v0 v1 v2 v3) := by
  unfold four
  exact (((h.setCell (by simpa using hb) _).setCell (by simpa using hb) _).setCell (by simpa using hb) _).setCell (by simpa using hb) _

def zeroW : Wt := ⟨0, 0, 0, []⟩
/-- A weighting of the call's own, and whether there is one. -/
def MadeWB (B : Nat) (r : Wt) (ok : Bool) (w : World) (e : Ending) (w' : World) : Prop :=
  ∃ A c, e = .returned (.tuple #[wtV r A r.W.length c, .bool ok]) ∧ Own B w' A r.W.length c r.W ∧ Below B w w'
theorem made_zero {B : Nat} {w w' : World} (h : Below B w w') : MadeWB B zeroW false w (.returned (.tuple #[.agg #[.int .i64 0, .int .i64 0, .int .i64 0, .slice none 0 0], .bool false])) w' :=
  ⟨none, 0, rfl, ⟨⟨rfl, .inl ⟨rfl, rfl⟩⟩, by simp [zeroW]⟩, h⟩

/-- What stands after k rounds: the weighting at bo, filled as far as the list goes. -/
structure FillAt (s0 bo k n c : Nat) (x : Wt) (A : Option Addr) (a b d : Int) (ys : List Int) (w w' : World) (Ak : Option Addr) (cc : Nat) : Prop where
  out : Blk w' bo #[.int .i64 a, .int .i64 b, .int .i64 d, .slice Ak k cc] 44
  par : Blk w' s0 (wtCells x A n c) 44
  ret : Blk w' (s0 + 1) #[.int .i64 0, .int .i64 0, .int .i64 0, .slice none 0 0] 44
  own : Own s0 w' Ak k cc (ys.take k)
  lo : s0 + 1 < bo
  bel : Below s0 w w'
theorem FillAt.drew {s0 bo k n c : Nat} {x : Wt} {A : Option Addr} {a b d : Int} {ys : List Int} {w w' : World} {Ak : Option Addr} {cc : Nat} (h : FillAt s0 bo k n c x A a b d ys w w' Ak cc) (m : Nat) : FillAt s0 bo k n c x A a b d ys w (w'.drewN m) Ak cc :=
  ⟨h.out, h.par, h.ret, h.own, h.lo, below_drewN h.bel m⟩
/-- One more. -/
theorem FillAt.next {s0 bo k n c cc g3 cc3 : Nat} {x : Wt} {A Ak : Option Addr} {a b d z : Int} {ys : List Int} {w W w3 : World} {o : Obj} (h : FillAt s0 bo k n c x A a b d ys w W Ak cc) (hz : ys[k]? = some z) (hwf : (Lit.int .i64 z).wf = true)
    (ho3 : w3.ownsRow s0 2 1 (.slice (some ⟨g3, 0, none⟩) (k + 1) cc3) (k + 1) (cells64 (ys.take k) ++ [.int .i64 z])) (hg3 : (W.alloc o).grownBy w3 (Value.slice Ak k cc).ownBlock) :
    FillAt s0 bo (k + 1) n c x A a b d ys w (w3.setCell ⟨bo, 3, none⟩ (.slice (some ⟨g3, 0, none⟩) (k + 1) cc3)) (some ⟨g3, 0, none⟩) cc3 := by
  have hk3 : ∀ g, g < W.heap.size → Ak ≠ some ⟨g, 0, none⟩ → w3.heap[g]? = W.heap[g]? := fun g hg hne => by
    rw [hg3.block g (by simp; omega) (fun e => hne (by
      rcases h.own.form with ⟨hA, _⟩ | ⟨g', hA, _⟩
      · rw [hA] at e; cases e
      · rw [hA] at e ⊢; simp [Value.ownBlock] at e; rw [e])), Below.heap_alloc _ _ _ hg]
  have k3 : ∀ (q : Nat) (cs : Array Value), Blk W q cs 44 → Blk w3 q cs 44 := fun q cs hb => (hk3 q hb.lt (blk_neW hb h.own.1 (by decide))).trans hb
  have e1 : ys.take (k + 1) = ys.take k ++ [z] := take_snocI hz
  have own3 : Own s0 w3 (some ⟨g3, 0, none⟩) (k + 1) cc3 (ys.take (k + 1)) := by
    refine ⟨?_, fun u hu => ?_⟩
    · rw [e1]; simpa [cells64] using ho3
    · rw [e1] at hu
      rcases List.mem_append.1 hu with hu | hu
      · exact h.own.2 u hu
      · simp at hu; subst hu; exact hwf
  have o3 := k3 _ _ h.out
  have hb0 : s0 ≤ W.heap.size := Nat.le_of_lt h.par.lt
  have hlo := h.lo
  refine ⟨by simpa using o3.set 3 (.slice (some ⟨g3, 0, none⟩) (k + 1) cc3), (k3 _ _ h.par).other _ (by omega), (k3 _ _ h.ret).other _ (by omega), own3.keep fun g hg => ?_, h.lo, ?_⟩
  · refine heap_setCell_other _ _ _ _ (fun e => ?_)
    exact blk_neW o3 own3.1 (by decide) (by rw [hg, show g = bo from e])
  · refine Below.setCell (Below.grown (h.bel.alloc hb0 _) hg3 (by simp; omega) (fun q hq => (h.own.1.lt q hq).1)) (by simp; omega) _
theorem FillAt.cells {s0 bo k n c cc : Nat} {x : Wt} {A Ak : Option Addr} {a b d : Int} {ys : List Int} {w W : World} (h : FillAt s0 bo k n c x A a b d ys w W Ak cc) {X : World} (hX : ∀ g, g < W.heap.size → Ak ≠ some ⟨g, 0, none⟩ → X.heap[g]? = W.heap[g]?) :
    X.cell? ⟨bo, 3, none⟩ = some (.slice Ak k cc) ∧ X.cell? ⟨s0, 3, none⟩ = some (.slice A n c) :=
  ⟨(World.cell?_of_block (hX _ h.out.lt (blk_neW h.out h.own.1 (by decide)))).trans (h.out.cell 3), (World.cell?_of_block (hX _ h.par.lt (blk_neW h.par h.own.1 (by decide)))).trans (h.par.cell 3)⟩
/-- The end: the weighting is copied to the result. -/
theorem FillAt.done {s0 bo n c cc : Nat} {x : Wt} {A Ak : Option Addr} {a b d : Int} {ys : List Int} {w W : World} (h : FillAt s0 bo n n c x A a b d ys w W Ak cc) (hl : ys.length = n) :
    Blk (four W (s0 + 1) (.int .i64 a) (.int .i64 b) (.int .i64 d) (.slice Ak n cc)) (s0 + 1) #[.int .i64 a, .int .i64 b, .int .i64 d, .slice Ak n cc] 44 ∧
    MadeWB s0 ⟨a, b, d, ys⟩ true w (.returned (.tuple #[.agg #[.int .i64 a, .int .i64 b, .int .i64 d, .slice Ak n cc], .bool true])) (four W (s0 + 1) (.int .i64 a) (.int .i64 b) (.int .i64 d) (.slice Ak n cc)) := by
  refine ⟨four_blk h.ret _ _ _ _, ?_⟩
  subst hl
  have hown := h.own
  rw [List.take_of_length_le (Nat.le_refl _)] at hown
  refine ⟨Ak, cc, rfl, hown.keep fun g hg => four_heap _ _ _ _ _ _ (fun e => ?_), four_below h.bel (by omega) _ _ _ _⟩
  exact blk_neW h.ret hown.1 (by decide) (by rw [hg, e])
end Go.Proofs.Ytakkehjfdeghoab
