/-
  A permuting as the walks are told of it, and the contracts of the laws' helpers over permutings.
-/
import Derived.Test.YtakkehjfdeghoabCh2
import Derived.Test.YtakkehjfdeghoabHeld
namespace Go.Proofs.Ytakkehjfdeghoab
open Go.RowKit

structure Pm where
  base : Int
  target : Int
  O : List (List Int)

abbrev pmV (x : Pm) (A : Option Addr) (n c : Nat) : Value := .agg #[.int .i64 x.base, .int .i64 x.target, .slice A n c]
abbrev pmCells (x : Pm) (A : Option Addr) (n c : Nat) : Array Value := #[.int .i64 x.base, .int .i64 x.target, .slice A n c]

theorem sum_le_tot2 (zss : List (List Int)) : (zss.map List.length).sum ≤ tot2 zss := by unfold tot2; omega
set_option maxHeartbeats 1000000 in
theorem szPermuting_any {B : Nat} (x : Pm) (A : Option Addr) (n c : Nat) (left : Int) (w : World) (hr : Rows2 B w A n x.O) (h0 : 0 ≤ left) (h1 : left ≤ 1048576) (hB : B ≤ w.heap.size) :
    Calls Try.prog 49 #[pmV x A n c, .int .i64 left] w fun e w' => e = .returned (.int .i64 (szF left (tot2 x.O))) ∧ Below w.heap.size w w' := by
  have hP := hr.le
  have hl := hr.len
  obtain ⟨T, hT⟩ : ∃ T, T = tot2 x.O := ⟨_, rfl⟩
  rw [← hT]
  obtain ⟨w1, hw1⟩ : ∃ w1, w1 = w.alloc (.cells #[.int .i64 x.base, .int .i64 x.target, .slice A n c] 61) := ⟨_, rfl⟩
  have bel : Below w.heap.size w w1 := by rw [hw1]; exact (Below.refl _ w).alloc (Nat.le_refl _) _
  have CP := szInt64SS_any A n c x.O left w1 (hr.below (bel.mono hB)) h0 h1
  rw [← hT] at CP
  have HT := Lib.hid hT
  clear hT
  have b1 : Blk w1 w.heap.size #[.int .i64 x.base, .int .i64 x.target, .slice A n c] 61 := by rw [hw1]; exact Blk.new _ _ _
  have c3 := b1.cell 2
  have BEL := Lib.hid bel
  clear bel b1 hl hr
  by_cases h : left < T
  · rw [szF_big h] at CP
    go_enter Try.func49, Try.ntmps49
    go_wp2_with fail
    rw [← hw1]
    have HW1 := Lib.hid hw1
    clear hw1
    (go_at_call 22; (with_reducible refine (CP).mono ?_); rintro e w2 ⟨rfl, rfl⟩)
    go_wp2_with fail
    go_ret
    exact ⟨ret_int (szF_big (by omega)).symm, BEL.out⟩
  · rw [szF_ok h] at CP
    have h3 : 0 ≤ left - T := by omega
    go_enter Try.func49, Try.ntmps49
    go_wp2_with fail
    rw [← hw1]
    have HW1 := Lib.hid hw1
    clear hw1
    (go_at_call 22; (with_reducible refine (CP).mono ?_); rintro e w2 ⟨rfl, rfl⟩)
    go_wp2_with fail
    go_ret
    exact ⟨ret_int (szF_ok (by omega)).symm, BEL.out⟩

/-- The copy: a weighting of the call's own. -/
def MadeP (B : Nat) (x : Pm) (w : World) (e : Ending) (w' : World) : Prop :=
  ∃ A c L, e = .returned (pmV x A x.O.length c) ∧ Own2 B w' A x.O.length c L x.O ∧ Below B w w'

set_option maxHeartbeats 2000000 in
theorem toPermuting_any {B : Nat} (x : Pm) (A : Option Addr) (n c : Nat) (w : World) (hr : Rows2 B w A n x.O) (hB : B ≤ w.heap.size) (hs : tot2 x.O ≤ 1048576) :
    Calls Try.prog 51 #[pmV x A n c] w (MadeP w.heap.size x w) := by
  have hl := hr.len
  have hsl : x.O.length ≤ 1048576 := by unfold tot2 at hs; omega
  have hsz : ∀ zs ∈ x.O, zs.length ≤ 1048576 := fun zs hz => by have := tot2_mem hz; omega
  obtain ⟨base, target, O⟩ := x
  dsimp only at hl hs hr hsl hsz ⊢
  obtain ⟨w1, hw1⟩ : ∃ w1, w1 = w.alloc (.cells #[.int .i64 base, .int .i64 target, .slice A n c] 61) := ⟨_, rfl⟩
  obtain ⟨w2, hw2⟩ : ∃ w2, w2 = w1.alloc (.cells #[.int .i64 0, .int .i64 0, nilV] 64) := ⟨_, rfl⟩
  obtain ⟨w3, hw3⟩ : ∃ w3, w3 = w2.alloc (.cells #[.int .i64 base, .int .i64 target, nilV] 64) := ⟨_, rfl⟩
  have sz1 : w1.heap.size = w.heap.size + 1 := by rw [hw1]; simp
  have sz2 : w2.heap.size = w.heap.size + 1 + 1 := by rw [hw2]; simp [sz1]
  have sz3 : w3.heap.size = w.heap.size + 1 + 1 + 1 := by rw [hw3]; simp [sz2]
  have b1 : Blk w1 w.heap.size #[.int .i64 base, .int .i64 target, .slice A n c] 61 := by rw [hw1]; exact Blk.new _ _ _
  have b2 : Blk w2 w1.heap.size #[.int .i64 0, .int .i64 0, nilV] 64 := by rw [hw2]; exact Blk.new _ _ _
  have b3 : Blk w3 w2.heap.size #[.int .i64 base, .int .i64 target, nilV] 64 := by rw [hw3]; exact Blk.new _ _ _
  have b13 : Blk w3 w.heap.size #[.int .i64 base, .int .i64 target, .slice A n c] 61 := by rw [hw3, hw2]; exact (b1.alloc _).alloc _
  have b23 : Blk w3 w1.heap.size #[.int .i64 0, .int .i64 0, nilV] 64 := by rw [hw3]; exact b2.alloc _
  have bel3 : Below w.heap.size w w3 := by
    rw [hw3, hw2, hw1]
    exact (((Below.refl _ w).alloc (Nat.le_refl _) _).alloc (by simp) _).alloc (by simp; omega) _
  rw [sz1] at b23
  rw [sz2] at b3
  have r3 := Rows2.below hr (bel3.mono hB)
  have CT := toInt64SS_any A n c O w3 r3 (by omega) (by omega) hsz
  have BEL3 := Lib.hid bel3
  clear b1 b2 r3 bel3
  go_enter Try.func51, Try.ntmps51
  go_wp2_with (fail)
  rw [← hw1, ← hw2, ← hw3]
  (go_at_call 24; (with_reducible refine (CT).mono ?_); rintro e w4 ⟨A1, c1, L1, rfl, ho1, be1⟩)
  have d2 := b23.below be1 (by omega)
  have d3 := b3.below be1 (by omega)
  have g0 := d3.cell 0
  have g1 := d3.cell 1
  have g2 := d3.cell 2
  have f2 := d3.frozen 2
  have h0 := d2.cell 0
  have h1 := d2.cell 1
  have h2 := d2.cell 2
  have k0 := d2.frozen 0
  have k1 := d2.frozen 1
  have k2 := d2.frozen 2
  have BE1 := Lib.hid be1
  have HO1 := Lib.hid ho1
  have B2 := Lib.hid d2
  have B3 := Lib.hid d3
  clear be1 ho1 d2 d3 b13 b23 b3 CT
  go_wp2_with fail
  obtain ⟨w5, hw5⟩ : ∃ w5, w5 = w4.setCell ⟨w.heap.size + 1 + 1, 2, none⟩ (.slice A1 n c1) := ⟨_, rfl⟩
  obtain ⟨w8, hw8⟩ : ∃ w8, w8 = ((w5.setCell ⟨w.heap.size + 1, 0, none⟩ (.int .i64 base)).setCell ⟨w.heap.size + 1, 1, none⟩ (.int .i64 target)).setCell ⟨w.heap.size + 1, 2, none⟩ (.slice A1 n c1) := ⟨_, rfl⟩
  rw [← hw5, ← hw8]
  have q : Blk w8 (w.heap.size + 1) #[.int .i64 base, .int .i64 target, .slice A1 n c1] 64 := by
    have h7 : Blk w5 (w.heap.size + 1) #[.int .i64 0, .int .i64 0, nilV] 64 := by rw [hw5]; exact B2.out.other _ (by omega)
    rw [hw8]
    simpa using (((h7.set 0 (.int .i64 base)).set 1 (.int .i64 target)).set 2 (.slice A1 n c1))
  have q0 := q.cell 0
  have q1 := q.cell 1
  have q2 := q.cell 2
  have keep8 : ∀ g, g ≠ w.heap.size + 1 → g ≠ w.heap.size + 1 + 1 → w8.heap[g]? = w4.heap[g]? := by
    intro g h1 h2
    rw [hw8, hw5]
    rw [heap_setCell_other _ _ _ _ h1, heap_setCell_other _ _ _ _ h1, heap_setCell_other _ _ _ _ h1, heap_setCell_other _ _ _ _ h2]
  have bel8 : Below w.heap.size w w8 := by
    rw [hw8, hw5]
    exact ((((BEL3.out.trans (BE1.out.mono (by omega))).setCell (by simp; omega) _).setCell (by simp) _).setCell (by simp) _).setCell (by simp) _
  refine bodyPost_ret (v := pmV ⟨base, target, O⟩ A1 n c1) (by simp [results, Try.results51, go_sem, q0, q1, q2]) rfl ?_
  subst hl
  refine ⟨A1, c1, L1, rfl, ?_, bel8⟩
  exact (HO1.out.keep fun g hg _ => keep8 g (by omega) (by omega)).lower (by omega)

set_option maxHeartbeats 1000000 in
theorem eqPermuting_any {B1 B2 : Nat} (x : Pm) (A A' : Option Addr) (n c c' : Nat) (w : World) (h1 : Rows2 B1 w A n x.O) (h2 : Rows2 B2 w A' n x.O) (hB1 : B1 ≤ w.heap.size) (hB2 : B2 ≤ w.heap.size) :
    Calls Try.prog 53 #[pmV x A n c, pmV x A' n c'] w fun e w' => e = .returned (.bool true) ∧ Below w.heap.size w w' := by
  obtain ⟨base, target, O⟩ := x
  obtain ⟨w1, hw1⟩ : ∃ w1, w1 = (w.alloc (.cells #[.int .i64 base, .int .i64 target, .slice A n c] 64)).alloc (.cells #[.int .i64 base, .int .i64 target, .slice A' n c'] 64) := ⟨_, rfl⟩
  have bel : Below w.heap.size w w1 := by rw [hw1]; exact ((Below.refl _ w).alloc (Nat.le_refl _) _).alloc (by simp) _
  have r1 := Rows2.below h1 (bel.mono hB1)
  have r2 := Rows2.below h2 (bel.mono hB2)
  have CT := eqInt64SS_any A A' n c c' O w1 r1 r2
  have BEL := Lib.hid bel
  clear bel r1 r2 h1 h2
  go_enter Try.func53, Try.ntmps53
  go_wp2_with fail
  rw [← hw1]
  have HW1 := Lib.hid hw1
  clear hw1
  (go_at_call 26; (with_reducible refine (CT).mono ?_); rintro e w2 ⟨rfl, m, rfl⟩)
  clear CT
  go_wp2_with fail
  go_ret
  exact ⟨rfl, below_drewN BEL.out _⟩

end Go.Proofs.Ytakkehjfdeghoab
