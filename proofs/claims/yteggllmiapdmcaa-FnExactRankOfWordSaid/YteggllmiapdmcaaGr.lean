/-
  Grids: a row is a part of one flat slice.
-/
import Derived.Test.YteggllmiapdmcaaRun
import Derived.Test.YteggllmiapdmcaaOwn2
import Derived.IntWalk
namespace Go.Proofs.Yteggllmiapdmcaa
open Go.RowKit

set_option maxRecDepth 100000 in
set_option maxHeartbeats 1000000 in
theorem gridRow_any (b s p N : Nat) (w : World) (hs : 1 ≤ s) (hs2 : s ≤ 1296) (hp : p ≤ 20) (h : (p + 1) * s ≤ N) (hN : N ≤ 100000) :
    Calls Try.prog 81 #[.agg #[.int .i64 s, .slice (some ⟨b, 0, none⟩) N N], .int .i64 p] w fun e w' => e = .returned (.slice (some ⟨b, p * s, none⟩) s (N - p * s)) ∧ w' = w.alloc (.cells #[.int .i64 s, .slice (some ⟨b, 0, none⟩) N N] 101) := by
  obtain ⟨P, hP⟩ : ∃ P : Nat, P = p * s := ⟨_, rfl⟩
  have h1 : (p + 1) * s = P + s := by rw [hP, Nat.add_mul, Nat.one_mul]
  rw [h1] at h
  rw [← hP]
  have e1 : ((p : Int) * (s : Int)) = (P : Int) := by rw [hP]; simp
  have e2 : (((p : Int) + 1) * (s : Int)) = ((P : Int) + (s : Int)) := by rw [Int.add_mul, e1, Int.one_mul]
  have g1 : IntKind.i64.wrap (P : Int) = (P : Int) := IntWalk.i64_in _ (by omega)
  have g2 : IntKind.i64.wrap ((P : Int) + (s : Int)) = (P : Int) + (s : Int) := IntWalk.i64_in _ (by omega)
  have i1 : (0 : Int) ≤ (P : Int) := by omega
  have i2 : (P : Int) ≤ (P : Int) + (s : Int) := by omega
  have i3 : (P : Int) + (s : Int) ≤ (N : Int) := by omega
  have i4 : ¬ N = P := by omega
  clear hP h1
  go_enter Try.func81, Try.ntmps81
  go_wp2_with fail
  rw [show P + s - P = s by omega]
  go_ret
  exact ⟨rfl, rfl⟩
theorem lengthG_any (c : Ch) (AT AP : Option Addr) (nT cT nP cP : Nat) (w : World) :
    Calls Try.prog 89 #[chV c AT nT cT AP nP cP] w fun e w' => e = .returned (.int .i64 nP) ∧ w' = w.alloc (.cells (chCells c AT nT cT AP nP cP) 48) := by
  go_enter Try.func89, Try.ntmps89
  go_wp2_with fail
  go_ret
  exact ⟨rfl, rfl⟩
set_option maxRecDepth 100000 in
set_option maxHeartbeats 1000000 in
theorem newGrid_any (c : Ch) (AT AP : Option Addr) (nT cT nP cP s : Nat) (w : World) (hs : s ≤ 1296) (hP : nP ≤ 20) :
    Calls Try.prog 130 #[chV c AT nT cT AP nP cP, .int .i64 s] w fun e w' => ∃ g, e = .returned (.agg #[.int .i64 s, .slice (some ⟨g, 0, none⟩) ((nP + 1) * s) ((nP + 1) * s)]) ∧ Own w.heap.size w' (some ⟨g, 0, none⟩) ((nP + 1) * s) ((nP + 1) * s) (List.replicate ((nP + 1) * s) 0) ∧ Below w.heap.size w w' := by
  obtain ⟨i0, hi, hz0, hz1, hz2⟩ := info_parts info64
  obtain ⟨N, hN⟩ : ∃ N : Nat, N = (nP + 1) * s := ⟨_, rfl⟩
  rw [← hN]
  have hNb : N ≤ 27216 := by
    rw [hN]
    exact Nat.le_trans (Nat.mul_le_mul (show nP + 1 ≤ 21 by omega) hs) (by decide)
  have e1 : (((nP : Int) + 1) * (s : Int)) = (N : Int) := by rw [hN]; simp
  have g1 : IntKind.i64.wrap (N : Int) = (N : Int) := IntWalk.i64_in _ (by omega)
  have CL := fun Y => lengthG_any c AT AP nT cT nP cP Y
  have CL : ∀ Y, Calls Try.prog 89 #[.agg #[.int .i64 c.base, .int .i64 c.states, .int .i64 c.start, .int .i64 c.stop, .slice AT nT cT, .slice AP nP cP]] Y fun e w' => e = .returned (.int .i64 nP) ∧ w' = Y.alloc (.cells (chCells c AT nT cT AP nP cP) 48) := CL
  have p0 : (0 : Int) ≤ (N : Int) := by omega
  clear hN
  go_enter Try.func130, Try.ntmps130
  go_wp2_with fail
  (go_at_call 89; (with_reducible refine (CL _).mono ?_); rintro e w2 ⟨rfl, rfl⟩)
  go_wp2_with (refine wpList_make_full _ rfl _ _ 34 rfl w.heap.size 2 i0 (.int .i64 0) 1 Try.underlying34 hi hz0 hz1 .i64 .i64 N N N rfl rfl rfl rfl ?m1 ?m2 ?m3 ?_)
  case m1 => rw [hz2]; omega
  case m2 => unfold maxLen; omega
  case m3 => simp; omega
  intro w3 hrow hg
  have e2 : (madeCells #[Value.int .i64 0] N).toList = cells64 (List.replicate N 0) := by simp [cells64, toList_madeCells_one]
  rw [e2] at hrow
  have hb3 : Below w.heap.size w w3 := Below.grown ((((Below.refl _ w).alloc (Nat.le_refl _) _).alloc (by simp) _).alloc (by simp; omega) _) hg (by simp; omega) (fun k hk => by cases hk)
  have bk : Blk w3 (w.heap.size + 1) #[.int .i64 0, nilV] 101 := by
    have h := Blk.new (w.alloc (.cells (chCells c AT nT cT AP nP cP) 48)) #[.int .i64 0, nilV] 101
    have h2 := h.alloc (.cells (chCells c AT nT cT AP nP cP) 48)
    rw [show (w.alloc (.cells (chCells c AT nT cT AP nP cP) 48)).heap.size = w.heap.size + 1 by simp] at h2
    exact (hg.block _ (by simp) (by simp)).trans h2
  have HO := Lib.hid (show Own w.heap.size w3 (some ⟨w.heap.size + 1 + 1 + 1, 0, none⟩) N N (List.replicate N 0) from ⟨hrow, fun z hz => by rw [List.eq_of_mem_replicate hz]; rfl⟩)
  have HB3 := Lib.hid hb3
  have BK := Lib.hid bk
  have c0 := bk.cell 0
  have c1 := bk.cell 1
  have f0 := bk.frozen 0
  have f1 := bk.frozen 1
  clear hrow hg hb3 bk e2
  go_wp2_with fail
  obtain ⟨W4, hW4⟩ : ∃ W4, W4 = (w3.setCell ⟨w.heap.size + 1, 0, none⟩ (.int .i64 s)).setCell ⟨w.heap.size + 1, 1, none⟩ (.slice (some ⟨w.heap.size + 1 + 1 + 1, 0, none⟩) N N) := ⟨_, rfl⟩
  rw [← hW4]
  have bk4 : Blk W4 (w.heap.size + 1) #[.int .i64 s, .slice (some ⟨w.heap.size + 1 + 1 + 1, 0, none⟩) N N] 101 := by
    rw [hW4]
    simpa using (BK.out.set 0 (.int .i64 s)).set 1 (.slice (some ⟨w.heap.size + 1 + 1 + 1, 0, none⟩) N N)
  have own4 : Own w.heap.size W4 (some ⟨w.heap.size + 1 + 1 + 1, 0, none⟩) N N (List.replicate N 0) := HO.out.keep fun g hg => by
    cases hg
    rw [hW4, heap_setCell_other _ _ _ _ (by simp; omega), heap_setCell_other _ _ _ _ (by simp; omega)]
  have bel4 : Below w.heap.size w W4 := by
    rw [hW4]
    exact (HB3.out.setCell (p := ⟨w.heap.size + 1, 0, none⟩) (Nat.le_succ _) _).setCell (p := ⟨w.heap.size + 1, 1, none⟩) (Nat.le_succ _) _
  clear hW4
  have p0 := bk4.cell 0
  have p1 := bk4.cell 1
  refine bodyPost_ret (v := .agg #[.int .i64 s, .slice (some ⟨w.heap.size + 1 + 1 + 1, 0, none⟩) N N]) (by simp [results, Try.results130, go_sem, p0, p1]) rfl ⟨_, rfl, own4, bel4⟩
end Go.Proofs.Yteggllmiapdmcaa
