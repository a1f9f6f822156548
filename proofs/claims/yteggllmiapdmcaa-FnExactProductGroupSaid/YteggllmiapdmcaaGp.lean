/-
  A group as the walks are told of it, and the contracts of the laws' helpers over groups.
-/
import Derived.Test.YteggllmiapdmcaaCh2
import Derived.Test.YteggllmiapdmcaaHeld
namespace Go.Proofs.Yteggllmiapdmcaa
open Go.RowKit

structure Gp where
  G : List (List Int)

abbrev gpV (_ : Gp) (A : Option Addr) (n c : Nat) : Value := .agg #[.slice A n c]

theorem sum_le_tot2 (zss : List (List Int)) : (zss.map List.length).sum ≤ tot2 zss := by unfold tot2; omega
set_option maxHeartbeats 1000000 in
theorem szGroup_any {B : Nat} (x : Gp) (A : Option Addr) (n c : Nat) (left : Int) (w : World) (hr : Rows2 B w A n x.G) (h0 : 0 ≤ left) (h1 : left ≤ 1048576) (hB : B ≤ w.heap.size) :
    Calls Try.prog 42 #[gpV x A n c, .int .i64 left] w fun e w' => e = .returned (.int .i64 (szF left (tot2 x.G))) ∧ Below w.heap.size w w' := by
  have hP := hr.le
  have hl := hr.len
  obtain ⟨T, hT⟩ : ∃ T, T = tot2 x.G := ⟨_, rfl⟩
  rw [← hT]
  obtain ⟨w1, hw1⟩ : ∃ w1, w1 = w.alloc (.cells #[.slice A n c] 54) := ⟨_, rfl⟩
  have bel : Below w.heap.size w w1 := by rw [hw1]; exact (Below.refl _ w).alloc (Nat.le_refl _) _
  have CP := szInt64SS_any A n c x.G left w1 (hr.below (bel.mono hB)) h0 h1
  rw [← hT] at CP
  have HT := Lib.hid hT
  clear hT
  have b1 : Blk w1 w.heap.size #[.slice A n c] 54 := by rw [hw1]; exact Blk.new _ _ _
  have c3 := b1.cell 0
  have BEL := Lib.hid bel
  clear bel b1 hl hr
  by_cases h : left < T
  · rw [szF_big h] at CP
    go_enter Try.func42, Try.ntmps42
    go_wp2_with fail
    rw [← hw1]
    have HW1 := Lib.hid hw1
    clear hw1
    (go_at_call 92; (with_reducible refine (CP).mono ?_); rintro e w2 ⟨rfl, rfl⟩)
    go_wp2_with fail
    go_ret
    exact ⟨ret_int (szF_big (by omega)).symm, BEL.out⟩
  · rw [szF_ok h] at CP
    have h3 : 0 ≤ left - T := by omega
    go_enter Try.func42, Try.ntmps42
    go_wp2_with fail
    rw [← hw1]
    have HW1 := Lib.hid hw1
    clear hw1
    (go_at_call 92; (with_reducible refine (CP).mono ?_); rintro e w2 ⟨rfl, rfl⟩)
    go_wp2_with fail
    go_ret
    exact ⟨ret_int (szF_ok (by omega)).symm, BEL.out⟩

/-- The copy: a group of the call's own. -/
def MadeGp (B : Nat) (x : Gp) (w : World) (e : Ending) (w' : World) : Prop :=
  ∃ A c L, e = .returned (gpV x A x.G.length c) ∧ Own2 B w' A x.G.length c L x.G ∧ Below B w w'

set_option maxHeartbeats 2000000 in
theorem toGroup_any {B : Nat} (x : Gp) (A : Option Addr) (n c : Nat) (w : World) (hr : Rows2 B w A n x.G) (hB : B ≤ w.heap.size) (hs : tot2 x.G ≤ 1048576) :
    Calls Try.prog 44 #[gpV x A n c] w (MadeGp w.heap.size x w) := by
  have hl := hr.len
  have hsl : x.G.length ≤ 1048576 := by unfold tot2 at hs; omega
  have hsz : ∀ zs ∈ x.G, zs.length ≤ 1048576 := fun zs hz => by have := tot2_mem hz; omega
  obtain ⟨O⟩ := x
  dsimp only at hl hs hr hsl hsz ⊢
  obtain ⟨w1, hw1⟩ : ∃ w1, w1 = w.alloc (.cells #[.slice A n c] 54) := ⟨_, rfl⟩
  obtain ⟨w2, hw2⟩ : ∃ w2, w2 = w1.alloc (.cells #[nilV] 26) := ⟨_, rfl⟩
  obtain ⟨w3, hw3⟩ : ∃ w3, w3 = w2.alloc (.cells #[nilV] 26) := ⟨_, rfl⟩
  have sz1 : w1.heap.size = w.heap.size + 1 := by rw [hw1]; simp
  have sz2 : w2.heap.size = w.heap.size + 1 + 1 := by rw [hw2]; simp [sz1]
  have sz3 : w3.heap.size = w.heap.size + 1 + 1 + 1 := by rw [hw3]; simp [sz2]
  have b1 : Blk w1 w.heap.size #[.slice A n c] 54 := by rw [hw1]; exact Blk.new _ _ _
  have b2 : Blk w2 w1.heap.size #[nilV] 26 := by rw [hw2]; exact Blk.new _ _ _
  have b3 : Blk w3 w2.heap.size #[nilV] 26 := by rw [hw3]; exact Blk.new _ _ _
  have b13 : Blk w3 w.heap.size #[.slice A n c] 54 := by rw [hw3, hw2]; exact (b1.alloc _).alloc _
  have b23 : Blk w3 w1.heap.size #[nilV] 26 := by rw [hw3]; exact b2.alloc _
  have bel3 : Below w.heap.size w w3 := by
    rw [hw3, hw2, hw1]
    exact (((Below.refl _ w).alloc (Nat.le_refl _) _).alloc (by simp) _).alloc (by simp; omega) _
  rw [sz1] at b23
  rw [sz2] at b3
  have r3 := Rows2.below hr (bel3.mono hB)
  have CT := toInt64SS_any A n c O w3 r3 (by omega) (by omega) hsz
  have BEL3 := Lib.hid bel3
  clear b1 b2 r3 bel3
  go_enter Try.func44, Try.ntmps44
  go_wp2_with (fail)
  rw [← hw1, ← hw2, ← hw3]
  (go_at_call 93; (with_reducible refine (CT).mono ?_); rintro e w4 ⟨A1, c1, L1, rfl, ho1, be1⟩)
  have d2 := b23.below be1 (by omega)
  have d3 := b3.below be1 (by omega)
  have g0 := d3.cell 0
  have f2 := d3.frozen 0
  have h0 := d2.cell 0
  have k0 := d2.frozen 0
  have BE1 := Lib.hid be1
  have HO1 := Lib.hid ho1
  have B2 := Lib.hid d2
  have B3 := Lib.hid d3
  clear be1 ho1 d2 d3 b13 b23 b3 CT
  go_wp2_with fail
  obtain ⟨w5, hw5⟩ : ∃ w5, w5 = w4.setCell ⟨w.heap.size + 1 + 1, 0, none⟩ (.slice A1 n c1) := ⟨_, rfl⟩
  obtain ⟨w8, hw8⟩ : ∃ w8, w8 = w5.setCell ⟨w.heap.size + 1, 0, none⟩ (.slice A1 n c1) := ⟨_, rfl⟩
  rw [← hw5, ← hw8]
  have q : Blk w8 (w.heap.size + 1) #[.slice A1 n c1] 26 := by
    have h7 : Blk w5 (w.heap.size + 1) #[nilV] 26 := by rw [hw5]; exact B2.out.other _ (by omega)
    rw [hw8]
    simpa using (h7.set 0 (.slice A1 n c1))
  have q0 := q.cell 0
  have keep8 : ∀ g, g ≠ w.heap.size + 1 → g ≠ w.heap.size + 1 + 1 → w8.heap[g]? = w4.heap[g]? := by
    intro g h1 h2
    rw [hw8, hw5]
    rw [heap_setCell_other _ _ _ _ h1, heap_setCell_other _ _ _ _ h2]
  have bel8 : Below w.heap.size w w8 := by
    rw [hw8, hw5]
    exact ((BEL3.out.trans (BE1.out.mono (by omega))).setCell (by simp; omega) _).setCell (by simp) _
  refine bodyPost_ret (v := gpV ⟨O⟩ A1 n c1) (by simp [results, Try.results44, go_sem, q0]) rfl ?_
  subst hl
  refine ⟨A1, c1, L1, rfl, ?_, bel8⟩
  exact (HO1.out.keep fun g hg _ => keep8 g (by omega) (by omega)).lower (by omega)

set_option maxHeartbeats 1000000 in
theorem eqGroup_any {B1 B2 : Nat} (x : Gp) (A A' : Option Addr) (n c c' : Nat) (w : World) (h1 : Rows2 B1 w A n x.G) (h2 : Rows2 B2 w A' n x.G) (hB1 : B1 ≤ w.heap.size) (hB2 : B2 ≤ w.heap.size) :
    Calls Try.prog 45 #[gpV x A n c, gpV x A' n c'] w fun e w' => e = .returned (.bool true) ∧ Below w.heap.size w w' := by
  obtain ⟨O⟩ := x
  obtain ⟨w1, hw1⟩ : ∃ w1, w1 = (w.alloc (.cells #[.slice A n c] 26)).alloc (.cells #[.slice A' n c'] 26) := ⟨_, rfl⟩
  have bel : Below w.heap.size w w1 := by rw [hw1]; exact ((Below.refl _ w).alloc (Nat.le_refl _) _).alloc (by simp) _
  have r1 := Rows2.below h1 (bel.mono hB1)
  have r2 := Rows2.below h2 (bel.mono hB2)
  have CT := eqInt64SS_any A A' n c c' O w1 r1 r2
  have BEL := Lib.hid bel
  clear bel r1 r2 h1 h2
  go_enter Try.func45, Try.ntmps45
  go_wp2_with fail
  rw [← hw1]
  have HW1 := Lib.hid hw1
  clear hw1
  (go_at_call 94; (with_reducible refine (CT).mono ?_); rintro e w2 ⟨rfl, m, rfl⟩)
  clear CT
  go_wp2_with fail
  go_ret
  exact ⟨rfl, below_drewN BEL.out _⟩

def MarkedGp (B : Nat) (A : Option Addr) (n c k : Nat) (K : Int) (L : List SL) (w : World) (e : Ending) (w' : World) : Prop :=
  e = .returned (.int .i64 (K + ((lens L).sum : Nat))) ∧ Own2 B w' A n c L (marks2 k (lens L)) ∧ Below B w w' ∧ ∀ hi, (∀ t ∈ L, ∀ g, t.1 = some ⟨g, 0, none⟩ → g < hi) → Ran B hi w w'
set_option maxHeartbeats 1000000 in
theorem markGroup_any {B : Nat} (x : Gp) (A : Option Addr) (n c : Nat) (K : Int) (k : Nat) (hK : K = k) (L : List SL) (zss : List (List Int)) (w : World) (h : Own2 B w A n c L zss) (hB : B ≤ w.heap.size) (hk0 : k + (lens L).sum ≤ 1000000000000) :
    Calls Try.prog 47 #[gpV x A n c, .int .i64 K] w (MarkedGp B A n c k K L w) := by
  obtain ⟨O⟩ := x
  obtain ⟨w1, hw1⟩ : ∃ w1, w1 = w.alloc (.cells #[.slice A n c] 26) := ⟨_, rfl⟩
  have be1 : Below w.heap.size w w1 := by rw [hw1]; exact (Below.refl _ w).alloc (Nat.le_refl _) _
  have b1 : Blk w1 w.heap.size #[.slice A n c] 26 := by rw [hw1]; exact Blk.new _ _ _
  have q3 := b1.cell 0
  have h1 := h.keepL (fun g hg => be1.block g (h.olt g hg)) (fun t ht g hg => be1.block g (h.lt t ht g hg))
  have MT := mark2_any A n c K k hK L zss w1 h1 hk0
  have BE1 := Lib.hid be1
  have H1 := Lib.hid h1
  clear be1 b1 h1 hK
  go_enter Try.func47, Try.ntmps47
  go_wp2_with fail
  rw [← hw1]
  have HW1 := Lib.hid hw1
  clear hw1
  (go_at_call 97; (with_reducible refine (MT).mono ?_); rintro e w2 ⟨rfl, ho2, on2⟩)
  go_wp2_with fail
  go_ret
  refine ⟨rfl, ho2, (BE1.out.mono hB).trans (on2.below H1.out.from), fun hi h1 => ?_⟩
  have r3 := ran_onlyL on2 (lo := B) (hi := hi) H1.out.from h1
  have s1 := BE1.out.size
  exact ⟨r3.os.trans BE1.out.os, r3.tape.trans BE1.out.tape, r3.output.trans BE1.out.output, Nat.le_trans s1 r3.size, fun g hg hh => (r3.block g (by omega) hh).trans (BE1.out.block g hg)⟩
set_option maxHeartbeats 1000000 in
theorem heldGroup_any {B : Nat} (x : Gp) (A : Option Addr) (n c : Nat) (K : Int) (k : Nat) (hK : K = k) (ns : List Nat) (w : World) (h : Rows2 B w A n (marks2 k ns)) (hB : B ≤ w.heap.size) (hk0 : k + ns.sum ≤ 1000000000000) :
    Calls Try.prog 48 #[gpV x A n c, .int .i64 K] w fun e w' => e = .returned (.int .i64 (K + (ns.sum : Nat))) ∧ Below w.heap.size w w' := by
  obtain ⟨O⟩ := x
  obtain ⟨w1, hw1⟩ : ∃ w1, w1 = w.alloc (.cells #[.slice A n c] 26) := ⟨_, rfl⟩
  have be1 : Below w.heap.size w w1 := by rw [hw1]; exact (Below.refl _ w).alloc (Nat.le_refl _) _
  have b1 : Blk w1 w.heap.size #[.slice A n c] 26 := by rw [hw1]; exact Blk.new _ _ _
  have q3 := b1.cell 0
  have h1 := Rows2.below h (be1.mono hB)
  have MT := held2_any A n c K k hK ns w1 h1 hk0
  have t1 : 0 ≤ K + ((ns.sum : Nat) : Int) := by omega
  have BE1 := Lib.hid be1
  clear be1 b1 h1 hK
  go_enter Try.func48, Try.ntmps48
  go_wp2_with fail
  rw [← hw1]
  have HW1 := Lib.hid hw1
  clear hw1
  (go_at_call 98; (with_reducible refine (MT).mono ?_); rintro e w' ⟨rfl, rfl⟩)
  go_wp2_with fail
  go_ret
  exact ⟨rfl, BE1.out⟩
end Go.Proofs.Yteggllmiapdmcaa
