/-
  A weighting as the walks are told of it, and the contracts of the laws' helpers over weightings.
-/
import Derived.Test.YtiokcflomchdcaaBlk
import Derived.Test.YtiokcflomchdcaaHeld
namespace Go.Proofs.Ytiokcflomchdcaa
open Go.RowKit

structure Wt where
  base : Int
  modulus : Int
  target : Int
  W : List Int

abbrev wtV (x : Wt) (A : Option Addr) (n c : Nat) : Value := .agg #[.int .i64 x.base, .int .i64 x.modulus, .int .i64 x.target, .slice A n c]
abbrev wtCells (x : Wt) (A : Option Addr) (n c : Nat) : Array Value := #[.int .i64 x.base, .int .i64 x.modulus, .int .i64 x.target, .slice A n c]

set_option maxHeartbeats 1000000 in
theorem szWeighting_any {B : Nat} (x : Wt) (A : Option Addr) (n c : Nat) (left : Int) (w : World) (hr : RowB .i64 B w A n x.W) (h0 : 0 ≤ left) (h1 : left ≤ 1048576) (_ : B ≤ w.heap.size) :
    Calls Try.prog 48 #[wtV x A n c, .int .i64 left] w fun e w' => e = .returned (.int .i64 (szF left x.W.length)) ∧ Below w.heap.size w w' := by
  have hP := hr.le
  have hl := hr.len
  rw [hl]
  obtain ⟨w1, hw1⟩ : ∃ w1, w1 = w.alloc (.cells #[.int .i64 x.base, .int .i64 x.modulus, .int .i64 x.target, .slice A n c] 63) := ⟨_, rfl⟩
  have bel : Below w.heap.size w w1 := by rw [hw1]; exact (Below.refl _ w).alloc (Nat.le_refl _) _
  have CP := szInt64S_any A n c left w1 (by unfold maxLen; omega) h0 h1
  have b1 : Blk w1 w.heap.size #[.int .i64 x.base, .int .i64 x.modulus, .int .i64 x.target, .slice A n c] 63 := by rw [hw1]; exact Blk.new _ _ _
  have c3 := b1.cell 3
  have BEL := Lib.hid bel
  clear bel b1 hl
  by_cases h : left < n
  · rw [szF_big h] at CP
    go_enter Try.func48, Try.ntmps48
    go_wp2_with fail
    rw [← hw1]
    have HW1 := Lib.hid hw1
    clear hw1
    (go_at_call 84; (with_reducible refine (CP).mono ?_); rintro e w2 ⟨rfl, rfl⟩)
    go_wp2_with fail
    go_ret
    exact ⟨ret_int (szF_big (by omega)).symm, BEL.out⟩
  · rw [szF_ok h] at CP
    have h3 : 0 ≤ left - n := by omega
    go_enter Try.func48, Try.ntmps48
    go_wp2_with fail
    rw [← hw1]
    have HW1 := Lib.hid hw1
    clear hw1
    (go_at_call 84; (with_reducible refine (CP).mono ?_); rintro e w2 ⟨rfl, rfl⟩)
    go_wp2_with fail
    go_ret
    exact ⟨ret_int (szF_ok (by omega)).symm, BEL.out⟩

/-- The copy: a weighting of the call's own. -/
def MadeW (B : Nat) (x : Wt) (w : World) (e : Ending) (w' : World) : Prop :=
  ∃ A c, e = .returned (wtV x A x.W.length c) ∧ Own B w' A x.W.length c x.W ∧ Below B w w'

set_option maxHeartbeats 2000000 in
theorem toWeighting_any {B : Nat} (x : Wt) (A : Option Addr) (n c : Nat) (w : World) (hr : RowB .i64 B w A n x.W) (hB : B ≤ w.heap.size) (hs : x.W.length ≤ 1048576) :
    Calls Try.prog 50 #[wtV x A n c] w (MadeW w.heap.size x w) := by
  have hl := hr.len
  obtain ⟨base, modulus, target, W⟩ := x
  dsimp only at hl hs hr ⊢
  obtain ⟨w1, hw1⟩ : ∃ w1, w1 = w.alloc (.cells #[.int .i64 base, .int .i64 modulus, .int .i64 target, .slice A n c] 63) := ⟨_, rfl⟩
  obtain ⟨w2, hw2⟩ : ∃ w2, w2 = w1.alloc (.cells #[.int .i64 0, .int .i64 0, .int .i64 0, nilV] 26) := ⟨_, rfl⟩
  obtain ⟨w3, hw3⟩ : ∃ w3, w3 = w2.alloc (.cells #[.int .i64 base, .int .i64 modulus, .int .i64 target, nilV] 26) := ⟨_, rfl⟩
  have sz1 : w1.heap.size = w.heap.size + 1 := by rw [hw1]; simp
  have sz2 : w2.heap.size = w.heap.size + 1 + 1 := by rw [hw2]; simp [sz1]
  have sz3 : w3.heap.size = w.heap.size + 1 + 1 + 1 := by rw [hw3]; simp [sz2]
  have b1 : Blk w1 w.heap.size #[.int .i64 base, .int .i64 modulus, .int .i64 target, .slice A n c] 63 := by rw [hw1]; exact Blk.new _ _ _
  have b2 : Blk w2 w1.heap.size #[.int .i64 0, .int .i64 0, .int .i64 0, nilV] 26 := by rw [hw2]; exact Blk.new _ _ _
  have b3 : Blk w3 w2.heap.size #[.int .i64 base, .int .i64 modulus, .int .i64 target, nilV] 26 := by rw [hw3]; exact Blk.new _ _ _
  have b13 : Blk w3 w.heap.size #[.int .i64 base, .int .i64 modulus, .int .i64 target, .slice A n c] 63 := by rw [hw3, hw2]; exact (b1.alloc _).alloc _
  have b23 : Blk w3 w1.heap.size #[.int .i64 0, .int .i64 0, .int .i64 0, nilV] 26 := by rw [hw3]; exact b2.alloc _
  have bel3 : Below w.heap.size w w3 := by
    rw [hw3, hw2, hw1]
    exact (((Below.refl _ w).alloc (Nat.le_refl _) _).alloc (by simp) _).alloc (by simp; omega) _
  rw [sz1] at b23
  rw [sz2] at b3
  have r3 := RowB.below hr (bel3.mono hB)
  have CT := toInt64S_any A n c W w3 (r3.up (by omega)) (by omega)
  have BEL3 := Lib.hid bel3
  clear b1 b2 r3 bel3
  go_enter Try.func50, Try.ntmps50
  go_wp2_with (fail)
  rw [← hw1, ← hw2, ← hw3]
  (go_at_call 56; (with_reducible refine (CT).mono ?_); rintro e w4 ⟨A1, c1, rfl, ho1, be1⟩)
  have d2 := b23.below be1 (by omega)
  have d3 := b3.below be1 (by omega)
  have g0 := d3.cell 0
  have g1 := d3.cell 1
  have g2 := d3.cell 2
  have g3 := d3.cell 3
  have f3 := d3.frozen 3
  have h0 := d2.cell 0
  have h1 := d2.cell 1
  have h2 := d2.cell 2
  have h3 := d2.cell 3
  have k0 := d2.frozen 0
  have k1 := d2.frozen 1
  have k2 := d2.frozen 2
  have k3 := d2.frozen 3
  have BE1 := Lib.hid be1
  have HO1 := Lib.hid ho1
  have B2 := Lib.hid d2
  have B3 := Lib.hid d3
  clear be1 ho1 d2 d3 b13 b23 b3 CT
  go_wp2_with fail
  obtain ⟨w5, hw5⟩ : ∃ w5, w5 = w4.setCell ⟨w.heap.size + 1 + 1, 3, none⟩ (.slice A1 n c1) := ⟨_, rfl⟩
  obtain ⟨w8, hw8⟩ : ∃ w8, w8 = (((w5.setCell ⟨w.heap.size + 1, 0, none⟩ (.int .i64 base)).setCell ⟨w.heap.size + 1, 1, none⟩ (.int .i64 modulus)).setCell ⟨w.heap.size + 1, 2, none⟩ (.int .i64 target)).setCell ⟨w.heap.size + 1, 3, none⟩ (.slice A1 n c1) := ⟨_, rfl⟩
  rw [← hw5, ← hw8]
  have q : Blk w8 (w.heap.size + 1) #[.int .i64 base, .int .i64 modulus, .int .i64 target, .slice A1 n c1] 26 := by
    have h7 : Blk w5 (w.heap.size + 1) #[.int .i64 0, .int .i64 0, .int .i64 0, nilV] 26 := by rw [hw5]; exact B2.out.other _ (by omega)
    rw [hw8]
    simpa using ((((h7.set 0 (.int .i64 base)).set 1 (.int .i64 modulus)).set 2 (.int .i64 target)).set 3 (.slice A1 n c1))
  have q0 := q.cell 0
  have q1 := q.cell 1
  have q2 := q.cell 2
  have q3 := q.cell 3
  have keep8 : ∀ g, g ≠ w.heap.size + 1 → g ≠ w.heap.size + 1 + 1 → w8.heap[g]? = w4.heap[g]? := by
    intro g h1 h2
    rw [hw8, hw5]
    rw [heap_setCell_other _ _ _ _ h1, heap_setCell_other _ _ _ _ h1, heap_setCell_other _ _ _ _ h1, heap_setCell_other _ _ _ _ h1, heap_setCell_other _ _ _ _ h2]
  have bel8 : Below w.heap.size w w8 := by
    rw [hw8, hw5]
    exact (((((BEL3.out.trans (BE1.out.mono (by omega))).setCell (by simp; omega) _).setCell (by simp) _).setCell (by simp) _).setCell (by simp) _).setCell (by simp) _
  refine bodyPost_ret (v := wtV ⟨base, modulus, target, W⟩ A1 n c1) (by simp [results, Try.results50, go_sem, q0, q1, q2, q3]) rfl ?_
  subst hl
  refine ⟨A1, c1, rfl, ?_, bel8⟩
  exact (HO1.out.keep fun g hg => keep8 g (by have := HO1.out.from g hg; omega) (by have := HO1.out.from g hg; omega)).lower (by omega)

set_option maxHeartbeats 1000000 in
theorem eqWeighting_any {B1 B2 : Nat} (x : Wt) (A A' : Option Addr) (n c c' : Nat) (w : World) (h1 : RowB .i64 B1 w A n x.W) (h2 : RowB .i64 B2 w A' n x.W) (hB1 : B1 ≤ w.heap.size) (hB2 : B2 ≤ w.heap.size) :
    Calls Try.prog 51 #[wtV x A n c, wtV x A' n c'] w fun e w' => e = .returned (.bool true) ∧ Below w.heap.size w w' := by
  obtain ⟨base, modulus, target, W⟩ := x
  obtain ⟨w1, hw1⟩ : ∃ w1, w1 = (w.alloc (.cells #[.int .i64 base, .int .i64 modulus, .int .i64 target, .slice A n c] 26)).alloc (.cells #[.int .i64 base, .int .i64 modulus, .int .i64 target, .slice A' n c'] 26) := ⟨_, rfl⟩
  have bel : Below w.heap.size w w1 := by rw [hw1]; exact ((Below.refl _ w).alloc (Nat.le_refl _) _).alloc (by simp) _
  have r1 := RowB.below h1 (bel.mono hB1)
  have r2 := RowB.below h2 (bel.mono hB2)
  have CT := eqInt64S_any A A' n c c' W w1 r1 r2
  have BEL := Lib.hid bel
  clear bel r1 r2 h1 h2
  go_enter Try.func51, Try.ntmps51
  go_wp2_with fail
  rw [← hw1]
  have HW1 := Lib.hid hw1
  clear hw1
  (go_at_call 58; (with_reducible refine (CT).mono ?_); rintro e w2 ⟨rfl, m, rfl⟩)
  clear CT
  go_wp2_with fail
  go_ret
  exact ⟨rfl, below_drewN BEL.out _⟩

end Go.Proofs.Ytiokcflomchdcaa
