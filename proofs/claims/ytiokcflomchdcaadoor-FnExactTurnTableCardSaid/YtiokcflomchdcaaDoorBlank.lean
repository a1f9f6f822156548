/-
  A table of zeros, as the model makes it.
-/
import Derived.Test.YtiokcflomchdcaaDoorGrid
import Derived.Test.YtiokcflomchdcaaDoorOwn3
namespace Go.Proofs.YtiokcflomchdcaaDoor
open Go.RowKit

theorem cell_oneB (w : World) (x : Value) (t : TypeId) : ∀ j u, [x][j]? = some u → (w.alloc (.cells #[x] t)).cell? ((⟨w.heap.size, 0, none⟩ : Addr).add j) = some u := by
  intro j u hj
  match j, hj with
  | 0, hj => simp at hj; subst hj; simp [Addr.add]
  | j + 1, hj => simp at hj
/-- A table of the call's own with the numbers of F. -/
def MadeG (B n : Nat) (F : Nat → Nat → Nat) (w : World) (e : Ending) (w' : World) : Prop :=
  ∃ A cc L, e = .returned (.slice A n cc) ∧ Own2 B w' A n cc L (gridOf n n F) ∧ Below w.heap.size w w'

set_option maxRecDepth 100000 in
set_option maxHeartbeats 4000000 in
theorem l04Blank_any (n : Nat) (w : World) (hn : n ≤ 36) :
    Calls Tryd.prog 23 #[.int .i64 n] w (MadeG w.heap.size n (fun _ _ => 0) w) := by
  obtain ⟨i0, hi, hz0, hz1, hz2⟩ := info_parts info64
  obtain ⟨iS, hiS, hzS0, hzS1, hzS2⟩ := info_parts infoS
  go_enter Tryd.func23, Tryd.ntmps23
  go_wp2_with fail
  obtain ⟨w1, hw1⟩ : ∃ w1, w1 = w.alloc (.cells #[] 30) := ⟨_, rfl⟩
  go_loopw [3, 4] (fun v i wr => ∃ (k : Nat) (A : Option Addr) (cc : Nat) (L : List SL), k ≤ n ∧ i = .int .i64 k ∧ v = .slice A k cc ∧ Hid (Own2 w.heap.size wr A k cc L (List.replicate k (List.replicate n 0))) ∧ Below w.heap.size w wr) (fun _ i _ => n - (intOf i).toNat)
  case atStart =>
    refine ⟨0, _, 0, [], by omega, rfl, rfl, Lib.hid ⟨World.ownsRow_made _ _ _ (Nat.le_refl _) (by unfold maxLen; omega) rfl, rfl, fun j t zs ht _ => by simp at ht, fun i j s t g hs => by simp at hs, fun j t g ht => by simp at ht⟩, (Below.refl _ _).alloc (Nat.le_refl _) _⟩
  case round =>
    obtain ⟨k, A, cc, L, hk, rfl, rfl, hown, hbel⟩ := hrel
    obtain ⟨W0, rfl⟩ : ∃ W0, W0 = wr := ⟨_, rfl⟩
    have hbs := hbel.size
    by_cases hlt : k < n
    · go_wp2_with (refine wpList_make_full _ rfl _ _ 30 rfl W0.heap.size 2 i0 (.int .i64 0) 1 Tryd.underlying30 hi hz0 hz1 .i64 .i64 n n n rfl rfl rfl rfl ?m1 ?m2 (Nat.le_refl _) ?_)
      case m1 => rw [hz2]; omega
      case m2 => unfold maxLen; omega
      intro w2 hrow hg
      have hb2 : Below W0.heap.size W0 w2 := (Below.refl _ W0).grown hg (Nat.le_refl _) (fun k hk => by cases hk)
      have e2 : (madeCells #[Value.int .i64 0] n).toList = cells64 (List.replicate n 0) := by simp [cells64, toList_madeCells_one]
      rw [e2] at hrow
      have ho2 : Own W0.heap.size w2 (some ⟨W0.heap.size, 0, none⟩) n n (List.replicate n 0) := ⟨hrow, fun z hz => by rw [List.eq_of_mem_replicate hz]; rfl⟩
      have hown2 : Own2 w.heap.size w2 A k cc L (List.replicate k (List.replicate n 0)) := hown.out.below hb2
      have hout := hown2.outer
      have hs2 : W0.heap.size < w2.heap.size := ho2.lt _ rfl
      have HO2 := Lib.hid ho2
      have HB2 := Lib.hid hb2
      have HOWN2 := Lib.hid hown2
      clear hrow hg e2 hown2 ho2 hb2
      go_wp2_with (at_builtin; (refine wpList_append_own _ rfl _ _ 22 rfl w.heap.size 30 iS nilV 1 24 Tryd.underlying22 hiS hzS0 hzS1 hzS2 rfl (by decide) _ _ _ rfl (hout.alloc _) ⟨w2.heap.size, 0, none⟩ 1 1 [.slice (some ⟨W0.heap.size, 0, none⟩) n n] rfl rfl (cell_oneB _ _ _) (fun u hu => by simp at hu; subst hu; rfl) ?d1 ?d2 ?d3 ?_))
      case d1 => unfold maxLen; omega
      case d2 => omega
      case d3 => simp; omega
      intro v3 w3 ho3 hg3 _
      obtain ⟨A3, cc3, rfl⟩ : ∃ A3 cc3, v3 = .slice A3 (k + 1) cc3 := by
        rcases ho3.2 with ⟨hv, hn⟩ | ⟨g, cap, cur, hv, _⟩
        · omega
        · exact ⟨_, _, hv⟩
      have hkeep : ∀ g, g < w2.heap.size → A ≠ some ⟨g, 0, none⟩ → w3.heap[g]? = w2.heap[g]? := fun g hg hne => by
        rw [hg3.block g (by simp; omega) (fun e => hne (by
          rcases ownsRow_form HOWN2.out.outer with ⟨hA, _⟩ | ⟨g', hA, _⟩
          · rw [hA] at e; cases e
          · rw [hA] at e ⊢; simp [Value.ownBlock] at e; rw [e])), Below.heap_alloc _ _ _ hg]
      have hA2 : ∀ g, A = some ⟨g, 0, none⟩ → g < W0.heap.size := fun g hg => by
        rcases ownsRow_form hown.out.outer with ⟨hA, _⟩ | ⟨g', hA, _, hl, _⟩
        · rw [hA] at hg; cases hg
        · rw [hA] at hg; injection hg with hg; injection hg with hg; omega
      have X : Hid (Own2 w.heap.size w3 A3 (k + 1) cc3 (L ++ [(some ⟨W0.heap.size, 0, none⟩, n, n)]) (List.replicate (k + 1) (List.replicate n 0))) := Lib.hid (by
        rw [List.replicate_succ']
        refine Own2.snoc HOWN2.out ho3 ?_ ?_ ?_
        · refine (HO2.out.keep fun g hg => hkeep g (by injection hg with hg; injection hg with hg; omega) (fun e => ?_)).lower hbs
          injection hg with hg
          injection hg with hg
          have := hA2 g e
          omega
        · intro j t g ht hg
          have hj := (List.getElem?_eq_some_iff.1 ht).1
          have hl := HOWN2.out.len
          have hz : (List.replicate k (List.replicate n (0 : Int)))[j]? = some _ := List.getElem?_eq_getElem (by omega)
          exact hkeep g ((HOWN2.out.inner j t _ ht hz).lt g hg) (HOWN2.out.out j t g ht hg)
        · intro j t g ht hg e
          injection e with e
          injection e with e
          have hj := (List.getElem?_eq_some_iff.1 ht).1
          have hl := hown.out.len
          have hz : (List.replicate k (List.replicate n (0 : Int)))[j]? = some _ := List.getElem?_eq_getElem (by omega)
          have := (hown.out.inner j t _ ht hz).lt g hg
          omega)
      have Y : Hid (Below w.heap.size w w3) := Lib.hid (by
        have : Below w.heap.size w w2 := hbel.trans (HB2.out.mono hbs)
        exact Below.grown (this.alloc (by omega) _) hg3 (by simp; omega) (fun q hq => (HOWN2.out.outer.lt q hq).1))
      clear ho3 hg3 hkeep hA2 hout
      go_wp2_with fail
      go_roundw
      case rel => exact ⟨k + 1, A3, cc3, _, by omega, by go_num, rfl, X, Y.out⟩
      case measure => simp [intOf]; omega
    · obtain rfl : k = n := by omega
      go_wp2_with fail
      go_ret
      exact ⟨A, cc, L, rfl, by rw [grid_zero]; exact hown.out, hbel⟩
end Go.Proofs.YtiokcflomchdcaaDoor
