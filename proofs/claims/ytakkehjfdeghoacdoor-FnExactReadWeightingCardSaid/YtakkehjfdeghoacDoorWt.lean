/-
  A weighting as the walks are told of it, and the contracts of the laws' helpers over weightings.
-/
import Derived.Test.YtakkehjfdeghoacDoorBlk
import Derived.Test.YtakkehjfdeghoacDoorHeld
namespace Go.Proofs.YtakkehjfdeghoacDoor
open Go.RowKit

structure Wt where
  base : Int
  modulus : Int
  target : Int
  W : List Int

abbrev wtV (x : Wt) (A : Option Addr) (n c : Nat) : Value := .agg #[.int .i64 x.base, .int .i64 x.modulus, .int .i64 x.target, .slice A n c]
abbrev wtCells (x : Wt) (A : Option Addr) (n c : Nat) : Array Value := #[.int .i64 x.base, .int .i64 x.modulus, .int .i64 x.target, .slice A n c]

set_option maxHeartbeats 1000000 in
theorem szWeighting_any {B : Nat} (x : Wt) (A : Option Addr) (n c : Nat) (left : Int) (w : World) (hr : RowB .i64 B w A n x.W) (h0 : 0 ≤ left) (h1 : left ≤ 1048576) (_ : B ≤ w.heap.size) :
    Calls Tryd.prog 5 #[wtV x A n c, .int .i64 left] w fun e w' => e = .returned (.int .i64 (szF left x.W.length)) ∧ Below w.heap.size w w' := by
  have hP := hr.le
  have hl := hr.len
  rw [hl]
  obtain ⟨w1, hw1⟩ : ∃ w1, w1 = w.alloc (.cells #[.int .i64 x.base, .int .i64 x.modulus, .int .i64 x.target, .slice A n c] 24) := ⟨_, rfl⟩
  have bel : Below w.heap.size w w1 := by rw [hw1]; exact (Below.refl _ w).alloc (Nat.le_refl _) _
  have CP := szInt64S_any A n c left w1 (by unfold maxLen; omega) h0 h1
  have b1 : Blk w1 w.heap.size #[.int .i64 x.base, .int .i64 x.modulus, .int .i64 x.target, .slice A n c] 24 := by rw [hw1]; exact Blk.new _ _ _
  have c3 := b1.cell 3
  have BEL := Lib.hid bel
  clear bel b1 hl
  by_cases h : left < n
  · rw [szF_big h] at CP
    go_enter Tryd.func5, Tryd.ntmps5
    go_wp2_with fail
    rw [← hw1]
    have HW1 := Lib.hid hw1
    clear hw1
    (go_at_call 14; (with_reducible refine (CP).mono ?_); rintro e w2 ⟨rfl, rfl⟩)
    go_wp2_with fail
    go_ret
    exact ⟨ret_int (szF_big (by omega)).symm, BEL.out⟩
  · rw [szF_ok h] at CP
    have h3 : 0 ≤ left - n := by omega
    go_enter Tryd.func5, Tryd.ntmps5
    go_wp2_with fail
    rw [← hw1]
    have HW1 := Lib.hid hw1
    clear hw1
    (go_at_call 14; (with_reducible refine (CP).mono ?_); rintro e w2 ⟨rfl, rfl⟩)
    go_wp2_with fail
    go_ret
    exact ⟨ret_int (szF_ok (by omega)).symm, BEL.out⟩

/-- The copy: a weighting of the call's own. -/
def MadeW (B : Nat) (x : Wt) (w : World) (e : Ending) (w' : World) : Prop :=
  ∃ A c, e = .returned (wtV x A x.W.length c) ∧ Own B w' A x.W.length c x.W ∧ Below B w w'

set_option maxHeartbeats 2000000 in
theorem toWeighting_any {B : Nat} (x : Wt) (A : Option Addr) (n c : Nat) (w : World) (hr : RowB .i64 B w A n x.W) (hB : B ≤ w.heap.size) (hs : x.W.length ≤ 1048576) :
    Calls Tryd.prog 7 #[wtV x A n c] w (MadeW w.heap.size x w) := by
  have hl := hr.len
  obtain ⟨base, modulus, target, W⟩ := x
  dsimp only at hl hs hr ⊢
  obtain ⟨w1, hw1⟩ : ∃ w1, w1 = w.alloc (.cells #[.int .i64 base, .int .i64 modulus, .int .i64 target, .slice A n c] 24) := ⟨_, rfl⟩
  obtain ⟨w2, hw2⟩ : ∃ w2, w2 = w1.alloc (.cells #[.int .i64 0, .int .i64 0, .int .i64 0, nilV] 28) := ⟨_, rfl⟩
  obtain ⟨w3, hw3⟩ : ∃ w3, w3 = w2.alloc (.cells #[.int .i64 base, .int .i64 modulus, .int .i64 target, nilV] 28) := ⟨_, rfl⟩
  have sz1 : w1.heap.size = w.heap.size + 1 := by rw [hw1]; simp
  have sz2 : w2.heap.size = w.heap.size + 1 + 1 := by rw [hw2]; simp [sz1]
  have sz3 : w3.heap.size = w.heap.size + 1 + 1 + 1 := by rw [hw3]; simp [sz2]
  have b1 : Blk w1 w.heap.size #[.int .i64 base, .int .i64 modulus, .int .i64 target, .slice A n c] 24 := by rw [hw1]; exact Blk.new _ _ _
  have b2 : Blk w2 w1.heap.size #[.int .i64 0, .int .i64 0, .int .i64 0, nilV] 28 := by rw [hw2]; exact Blk.new _ _ _
  have b3 : Blk w3 w2.heap.size #[.int .i64 base, .int .i64 modulus, .int .i64 target, nilV] 28 := by rw [hw3]; exact Blk.new _ _ _
  have b13 : Blk w3 w.heap.size #[.int .i64 base, .int .i64 modulus, .int .i64 target, .slice A n c] 24 := by rw [hw3, hw2]; exact (b1.alloc _).alloc _
  have b23 : Blk w3 w1.heap.size #[.int .i64 0, .int .i64 0, .int .i64 0, nilV] 28 := by rw [hw3]; exact b2.alloc _
  have bel3 : Below w.heap.size w w3 := by
    rw [hw3, hw2, hw1]
    exact (((Below.refl _ w).alloc (Nat.le_refl _) _).alloc (by simp) _).alloc (by simp; omega) _
  rw [sz1] at b23
  rw [sz2] at b3
  have r3 := RowB.below hr (bel3.mono hB)
  have CT := toInt64S_any A n c W w3 (r3.up (by omega)) (by omega)
  have BEL3 := Lib.hid bel3
  clear b1 b2 r3 bel3
  go_enter Tryd.func7, Tryd.ntmps7
  go_wp2_with (fail)
  rw [← hw1, ← hw2, ← hw3]
  (go_at_call 17; (with_reducible refine (CT).mono ?_); rintro e w4 ⟨A1, c1, rfl, ho1, be1⟩)
  have d2 := b23.below be1 (by omega)
  have d3 := b3.below be1 (by omega)
  have g0 := d3.cell 0
  have g1 := d3.cell 1
  have g2 := d3.cell 2
  have g3 := d3.cell 3
  have f3 := d3.frozen 3
  have h0 := d2.cell 0
  have h1 := d2.cell 1
  have h2 := d2.cell 2
  have h3 := d2.cell 3
  have k0 := d2.frozen 0
  have k1 := d2.frozen 1
  have k2 := d2.frozen 2
  have k3 := d2.frozen 3
  have BE1 := Lib.hid be1
  have HO1 := Lib.hid ho1
  have B2 := Lib.hid d2
  have B3 := Lib.hid d3
  clear be1 ho1 d2 d3 b13 b23 b3 CT
  go_wp2_with fail
  obtain ⟨w5, hw5⟩ : ∃ w5, w5 = w4.setCell ⟨w.heap.size + 1 + 1, 3, none⟩ (.slice A1 n c1) := ⟨_, rfl⟩
  obtain ⟨w8, hw8⟩ : ∃ w8, w8 = (((w5.setCell ⟨w.heap.size + 1, 0, none⟩ (.int .i64 base)).setCell ⟨w.heap.size + 1, 1, none⟩ (.int .i64 modulus)).setCell ⟨w.heap.size + 1, 2, none⟩ (.int .i64 target)).setCell ⟨w.heap.size + 1, 3, none⟩ (.slice A1 n c1) := ⟨_, rfl⟩
  rw [← hw5, ← hw8]
  have q : Blk w8 (w.heap.size + 1) #[.int .i64 base, .int .i64 modulus, .int .i64 target, .slice A1 n c1] 28 := by
    have h7 : Blk w5 (w.heap.size + 1) #[.int .i64 0, .int .i64 0, .int .i64 0, nilV] 28 := by rw [hw5]; exact B2.out.other _ (by omega)
    rw [hw8]
    simpa using ((((h7.set 0 (.int .i64 base)).set 1 (.int .i64 modulus)).set 2 (.int .i64 target)).set 3 (.slice A1 n c1))
  have q0 := q.cell 0
  have q1 := q.cell 1
  have q2 := q.cell 2
  have q3 := q.cell 3
  have keep8 : ∀ g, g ≠ w.heap.size + 1 → g ≠ w.heap.size + 1 + 1 → w8.heap[g]? = w4.heap[g]? := by
    intro g h1 h2
    rw [hw8, hw5]
    rw [heap_setCell_other _ _ _ _ h1, heap_setCell_other _ _ _ _ h1, heap_setCell_other _ _ _ _ h1, heap_setCell_other _ _ _ _ h1, heap_setCell_other _ _ _ _ h2]
  have bel8 : Below w.heap.size w w8 := by
    rw [hw8, hw5]
    exact (((((BEL3.out.trans (BE1.out.mono (by omega))).setCell (by simp; omega) _).setCell (by simp) _).setCell (by simp) _).setCell (by simp) _).setCell (by simp) _
  refine bodyPost_ret (v := wtV ⟨base, modulus, target, W⟩ A1 n c1) (by simp [results, Tryd.results7, go_sem, q0, q1, q2, q3]) rfl ?_
  subst hl
  refine ⟨A1, c1, rfl, ?_, bel8⟩
  exact (HO1.out.keep fun g hg => keep8 g (by have := HO1.out.from g hg; omega) (by have := HO1.out.from g hg; omega)).lower (by omega)

set_option maxHeartbeats 1000000 in
theorem eqWeighting_any {B1 B2 : Nat} (x : Wt) (A A' : Option Addr) (n c c' : Nat) (w : World) (h1 : RowB .i64 B1 w A n x.W) (h2 : RowB .i64 B2 w A' n x.W) (hB1 : B1 ≤ w.heap.size) (hB2 : B2 ≤ w.heap.size) :
    Calls Tryd.prog 9 #[wtV x A n c, wtV x A' n c'] w fun e w' => e = .returned (.bool true) ∧ Below w.heap.size w w' := by
  obtain ⟨base, modulus, target, W⟩ := x
  obtain ⟨w1, hw1⟩ : ∃ w1, w1 = (w.alloc (.cells #[.int .i64 base, .int .i64 modulus, .int .i64 target, .slice A n c] 28)).alloc (.cells #[.int .i64 base, .int .i64 modulus, .int .i64 target, .slice A' n c'] 28) := ⟨_, rfl⟩
  have bel : Below w.heap.size w w1 := by rw [hw1]; exact ((Below.refl _ w).alloc (Nat.le_refl _) _).alloc (by simp) _
  have r1 := RowB.below h1 (bel.mono hB1)
  have r2 := RowB.below h2 (bel.mono hB2)
  have CT := eqInt64S_any A A' n c c' W w1 r1 r2
  have BEL := Lib.hid bel
  clear bel r1 r2 h1 h2
  go_enter Tryd.func9, Tryd.ntmps9
  go_wp2_with fail
  rw [← hw1]
  have HW1 := Lib.hid hw1
  clear hw1
  (go_at_call 22; (with_reducible refine (CT).mono ?_); rintro e w2 ⟨rfl, m, rfl⟩)
  clear CT
  go_wp2_with fail
  go_ret
  exact ⟨rfl, below_drewN BEL.out _⟩

def MarkedW (B : Nat) (A : Option Addr) (n c k : Nat) (K : Int) (w : World) (e : Ending) (w' : World) : Prop :=
  e = .returned (.int .i64 (K + (n : Int))) ∧ Own B w' A n c (marks k n) ∧ Below B w w' ∧ ∀ hi, (∀ g, A = some ⟨g, 0, none⟩ → g < hi) → Ran B hi w w'
set_option maxHeartbeats 1000000 in
theorem markWeighting_any {B : Nat} (x : Wt) (A : Option Addr) (n c : Nat) (K : Int) (k : Nat) (hK : K = k) (zs : List Int) (w : World) (h : Own B w A n c zs) (hB : B ≤ w.heap.size) (hk0 : k + n ≤ 1000000000000) :
    Calls Tryd.prog 12 #[wtV x A n c, .int .i64 K] w (MarkedW B A n c k K w) := by
  obtain ⟨base, modulus, target, W⟩ := x
  obtain ⟨w1, hw1⟩ : ∃ w1, w1 = w.alloc (.cells #[.int .i64 base, .int .i64 modulus, .int .i64 target, .slice A n c] 28) := ⟨_, rfl⟩
  have be1 : Below w.heap.size w w1 := by rw [hw1]; exact (Below.refl _ w).alloc (Nat.le_refl _) _
  have b1 : Blk w1 w.heap.size #[.int .i64 base, .int .i64 modulus, .int .i64 target, .slice A n c] 28 := by rw [hw1]; exact Blk.new _ _ _
  have q3 := b1.cell 3
  have h1 := h.below be1
  have MT := mark_any A n c K k hK zs w1 h1 hk0
  have BE1 := Lib.hid be1
  have H1 := Lib.hid h1
  clear be1 b1 h1 hK
  go_enter Tryd.func12, Tryd.ntmps12
  go_wp2_with fail
  rw [← hw1]
  have HW1 := Lib.hid hw1
  clear hw1
  (go_at_call 27; (with_reducible refine (MT).mono ?_); rintro e w2 ⟨rfl, ho2, on2⟩)
  go_wp2_with fail
  go_ret
  refine ⟨rfl, ho2, (BE1.out.mono hB).trans (on2.below H1.out.from), fun hi h1 => ?_⟩
  have r3 := ran_only on2 (lo := B) (hi := hi) H1.out.from h1
  have s1 := BE1.out.size
  exact ⟨r3.os.trans BE1.out.os, r3.tape.trans BE1.out.tape, r3.output.trans BE1.out.output, Nat.le_trans s1 r3.size, fun g hg hh => (r3.block g (by omega) hh).trans (BE1.out.block g hg)⟩
set_option maxHeartbeats 1000000 in
theorem heldWeighting_any {B : Nat} (x : Wt) (A : Option Addr) (n c : Nat) (K : Int) (k : Nat) (hK : K = k) (w : World) (h : RowB .i64 B w A n (marks k n)) (hB : B ≤ w.heap.size) (hk0 : k + n ≤ 1000000000000) :
    Calls Tryd.prog 13 #[wtV x A n c, .int .i64 K] w fun e w' => e = .returned (.int .i64 (K + (n : Int))) ∧ Below w.heap.size w w' := by
  obtain ⟨base, modulus, target, W⟩ := x
  obtain ⟨w1, hw1⟩ : ∃ w1, w1 = w.alloc (.cells #[.int .i64 base, .int .i64 modulus, .int .i64 target, .slice A n c] 28) := ⟨_, rfl⟩
  have be1 : Below w.heap.size w w1 := by rw [hw1]; exact (Below.refl _ w).alloc (Nat.le_refl _) _
  have b1 : Blk w1 w.heap.size #[.int .i64 base, .int .i64 modulus, .int .i64 target, .slice A n c] 28 := by rw [hw1]; exact Blk.new _ _ _
  have q3 := b1.cell 3
  have h1 := RowB.below h (be1.mono hB)
  have MT := held_any A n c K k hK w1 h1 hk0
  have t1 : 0 ≤ K + (n : Int) := by omega
  have BE1 := Lib.hid be1
  clear be1 b1 h1 hK
  go_enter Tryd.func13, Tryd.ntmps13
  go_wp2_with fail
  rw [← hw1]
  have HW1 := Lib.hid hw1
  clear hw1
  (go_at_call 28; (with_reducible refine (MT).mono ?_); rintro e w' ⟨rfl, rfl⟩)
  go_wp2_with fail
  go_ret
  exact ⟨rfl, BE1.out⟩
end Go.Proofs.YtakkehjfdeghoacDoor
