/-
  Turned quasigroups: the kinds of turning as the program keeps them, and its way.
-/
import Derived.Test.YtiokcflomchdcaaDoorTurn
import Derived.Test.YtiokcflomchdcaaDoorQI
import Derived.Lib.LaidU8
import Derived.Lib.LaidTab
import Derived.LaidMore
import Derived.Test.YtiokcflomchdcaaDoorRows
namespace Go.Proofs.YtiokcflomchdcaaDoor
open Go.RowKit

def turnsL : List Int := [1, 0, 2, 0, 2, 1, 2, 1, 0, 1, 2, 0, 2, 0, 1]
/-- The program's table of the kinds of turning. -/
def TurnsAt (W : World) : Prop := 0 < W.heap.size ∧ ∀ (j : Nat) (z : Int), turnsL[j]? = some z → W.cell? ⟨0, j, none⟩ = some (.int .i64 z)
theorem TurnsAt.below {W W' : World} {B : Nat} (h : TurnsAt W) (hb : Below B W W') (hB : W.heap.size ≤ B) : TurnsAt W' :=
  ⟨Nat.lt_of_lt_of_le h.1 hb.size, fun j z hz => (hb.cell (p := ⟨0, j, none⟩) (Nat.lt_of_lt_of_le h.1 hB)).trans (h.2 j z hz)⟩
theorem turns_of_laid {W : World} (hL : laidMetH Tryd.prog Rows.fnExactTurnTableRow.laid W) : TurnsAt W := by
  rw [MakeChecks.laidMetH_plain _ _ _ (by kernel_rfl)] at hL
  obtain ⟨g, t, cs, fuel, p, hg, hty, hvar, hd⟩ := Lib.laidMet.reads hL (.head _)
  obtain rfl : 0 = g := Option.some.inj ((show Tryd.prog.globalNamed "loop.example/g01130/impl.turns" = some 0 by kernel_rfl).symm.trans hg)
  obtain rfl : 36 = t := Option.some.inj ((show (Tryd.prog.globals[0]?).map (·.type) = some 36 by kernel_rfl).symm.trans hty)
  have hc3 : Tryd.prog.cellsOf 35 = 3 := by kernel_rfl
  have hc1 : Tryd.prog.cellsOf 3 = 1 := by kernel_rfl
  have row : ∀ (i : Nat) (zs : List Int), i < 5 → ([Lib.tabData (H := Unit) .i64 [1, 0, 2], Lib.tabData .i64 [0, 2, 1], Lib.tabData .i64 [2, 1, 0], Lib.tabData .i64 [1, 2, 0], Lib.tabData .i64 [2, 0, 1]] : List (DataW Unit))[i]? = some (Lib.tabData .i64 zs) → (cs.toList.drop (i * 3)).take 3 = zs.map fun z => Value.int .i64 z := by
    intro i zs hi hz
    obtain ⟨f', d, q, h1, h2⟩ := Lib.array_elem Tryd.underlying36 hd i hi
    have h3 : d = Lib.tabData .i64 zs := Option.some.inj (h1.symm.trans hz)
    rw [h3, hc3] at h2
    exact Lib.cells_of_tab Tryd.underlying35 Tryd.underlying3 hc1 hc3 h2
  have cell : ∀ (i r : Nat) (zs : List Int) (z : Int), i < 5 → r < 3 → ([Lib.tabData (H := Unit) .i64 [1, 0, 2], Lib.tabData .i64 [0, 2, 1], Lib.tabData .i64 [2, 1, 0], Lib.tabData .i64 [1, 2, 0], Lib.tabData .i64 [2, 0, 1]] : List (DataW Unit))[i]? = some (Lib.tabData .i64 zs) → zs[r]? = some z → W.cell? ⟨0, i * 3 + r, none⟩ = some (.int .i64 z) := by
    intro i r zs z hi hr hz hzr
    rw [World.var?_cell hg hvar (i * 3 + r), ← Array.getElem?_toList]
    have h := congrArg (fun l : List Value => l[r]?) (row i zs hi hz)

    rw [List.getElem?_take_of_lt hr, List.getElem?_drop, List.getElem?_map, hzr] at h
    exact h
  have h0 := cell 0 0 [1, 0, 2] 1 (by omega) (by omega) rfl rfl
  refine ⟨block_of_cell h0, fun j z hz => ?_⟩
  have hj : j < 15 := (List.getElem?_eq_some_iff.1 hz).1
  rcases (show j = 0 ∨ j = 1 ∨ j = 2 ∨ j = 3 ∨ j = 4 ∨ j = 5 ∨ j = 6 ∨ j = 7 ∨ j = 8 ∨ j = 9 ∨ j = 10 ∨ j = 11 ∨ j = 12 ∨ j = 13 ∨ j = 14 by omega) with rfl | rfl | rfl | rfl | rfl | rfl | rfl | rfl | rfl | rfl | rfl | rfl | rfl | rfl | rfl
  · obtain rfl : 1 = z := Option.some.inj hz
    exact cell 0 0 [1, 0, 2] 1 (by omega) (by omega) rfl rfl
  · obtain rfl : 0 = z := Option.some.inj hz
    exact cell 0 1 [1, 0, 2] 0 (by omega) (by omega) rfl rfl
  · obtain rfl : 2 = z := Option.some.inj hz
    exact cell 0 2 [1, 0, 2] 2 (by omega) (by omega) rfl rfl
  · obtain rfl : 0 = z := Option.some.inj hz
    exact cell 1 0 [0, 2, 1] 0 (by omega) (by omega) rfl rfl
  · obtain rfl : 2 = z := Option.some.inj hz
    exact cell 1 1 [0, 2, 1] 2 (by omega) (by omega) rfl rfl
  · obtain rfl : 1 = z := Option.some.inj hz
    exact cell 1 2 [0, 2, 1] 1 (by omega) (by omega) rfl rfl
  · obtain rfl : 2 = z := Option.some.inj hz
    exact cell 2 0 [2, 1, 0] 2 (by omega) (by omega) rfl rfl
  · obtain rfl : 1 = z := Option.some.inj hz
    exact cell 2 1 [2, 1, 0] 1 (by omega) (by omega) rfl rfl
  · obtain rfl : 0 = z := Option.some.inj hz
    exact cell 2 2 [2, 1, 0] 0 (by omega) (by omega) rfl rfl
  · obtain rfl : 1 = z := Option.some.inj hz
    exact cell 3 0 [1, 2, 0] 1 (by omega) (by omega) rfl rfl
  · obtain rfl : 2 = z := Option.some.inj hz
    exact cell 3 1 [1, 2, 0] 2 (by omega) (by omega) rfl rfl
  · obtain rfl : 0 = z := Option.some.inj hz
    exact cell 3 2 [1, 2, 0] 0 (by omega) (by omega) rfl rfl
  · obtain rfl : 2 = z := Option.some.inj hz
    exact cell 4 0 [2, 0, 1] 2 (by omega) (by omega) rfl rfl
  · obtain rfl : 0 = z := Option.some.inj hz
    exact cell 4 1 [2, 0, 1] 0 (by omega) (by omega) rfl rfl
  · obtain rfl : 1 = z := Option.some.inj hz
    exact cell 4 2 [2, 0, 1] 1 (by omega) (by omega) rfl rfl

set_option maxRecDepth 100000 in
set_option maxHeartbeats 4000000 in
theorem turnClo0_any {g1 : Nat} (x y z : Nat) (w : World) (d0 : w.cell? ⟨g1, 0, none⟩ = some (.int .i64 1)) (d1 : w.cell? ⟨g1, 1, none⟩ = some (.int .i64 0)) (d2 : w.cell? ⟨g1, 2, none⟩ = some (.int .i64 2)) :
    Calls Tryd.prog 19 #[.agg #[.int .i64 x, .int .i64 y, .int .i64 z], .pointer (some ⟨g1, 0, none⟩)] w fun e w' => e = .returned (.agg #[.int .i64 (y : Nat), .int .i64 (x : Nat), .int .i64 (z : Nat)]) ∧ Below w.heap.size w w' := by
  have m1 : g1 < w.heap.size := block_of_cell d0
  obtain ⟨w2, hw2⟩ : ∃ w2, w2 = (w.alloc (.cells #[.int .i64 x, .int .i64 y, .int .i64 z] 39)).alloc (.cells #[.int .i64 0, .int .i64 0, .int .i64 0] 39) := ⟨_, rfl⟩
  have bel2 : Below w.heap.size w w2 := by rw [hw2]; exact ((Below.refl _ w).alloc (Nat.le_refl _) _).alloc (by simp) _
  have k1 : Blk w2 w.heap.size #[.int .i64 x, .int .i64 y, .int .i64 z] 39 := by rw [hw2]; exact (Blk.new _ _ _).alloc _
  have k2 : Blk w2 (w.heap.size + 1) #[.int .i64 0, .int .i64 0, .int .i64 0] 39 := by
    rw [hw2]
    have := Blk.new (w.alloc (.cells #[.int .i64 x, .int .i64 y, .int .i64 z] 39)) #[.int .i64 0, .int .i64 0, .int .i64 0] 39
    simpa using this
  have f0 := (bel2.cell (p := ⟨g1, 0, none⟩) m1).trans d0
  have f1 := (bel2.cell (p := ⟨g1, 1, none⟩) m1).trans d1
  have f2 := (bel2.cell (p := ⟨g1, 2, none⟩) m1).trans d2
  have t0 : w2.cell? ⟨w.heap.size, 0, none⟩ = some (.int .i64 (x : Int)) := k1.cell 0
  have t1 : w2.cell? ⟨w.heap.size, 1, none⟩ = some (.int .i64 (y : Int)) := k1.cell 1
  have t2 : w2.cell? ⟨w.heap.size, 2, none⟩ = some (.int .i64 (z : Int)) := k1.cell 2
  have r0 : w2.cell? ⟨w.heap.size + 1, 0, none⟩ = some (.int .i64 0) := k2.cell 0
  have r1 : w2.cell? ⟨w.heap.size + 1, 1, none⟩ = some (.int .i64 0) := k2.cell 1
  have r2 : w2.cell? ⟨w.heap.size + 1, 2, none⟩ = some (.int .i64 0) := k2.cell 2
  have u0 : w2.frozen? ⟨w.heap.size + 1, 0, none⟩ = false := k2.frozen 0
  have u1 : w2.frozen? ⟨w.heap.size + 1, 1, none⟩ = false := k2.frozen 1
  have u2 : w2.frozen? ⟨w.heap.size + 1, 2, none⟩ = false := k2.frozen 2
  have K2 := Lib.hid k2
  have BEL := Lib.hid bel2
  clear k1 k2 bel2 d0 d1 d2
  go_enter Tryd.func19, Tryd.ntmps19
  go_wp2_with fail
  rw [← hw2]
  have HW2 := Lib.hid hw2
  clear hw2
  go_region
  obtain ⟨W3, hW3⟩ : ∃ W3, W3 = (((w2.setCell ⟨w.heap.size + 1, 0, none⟩ (.int .i64 (y : Int))).setCell ⟨w.heap.size + 1, 1, none⟩ (.int .i64 (x : Int))).setCell ⟨w.heap.size + 1, 2, none⟩ (.int .i64 (z : Int))).drew := ⟨_, rfl⟩
  rw [← hW3]
  have K3 : Hid (W3.heap[w.heap.size + 1]? = some (.cells #[.int .i64 (y : Int), .int .i64 (x : Int), .int .i64 (z : Int)] 39)) := Lib.hid (by
    rw [hW3]
    exact ((K2.out.set 0 (.int .i64 (y : Int))).set 1 (.int .i64 (x : Int))).set 2 (.int .i64 (z : Int)))
  have B3 : Hid (Below w.heap.size w W3) := Lib.hid (by
    rw [hW3]
    exact (((BEL.out.setCell (p := ⟨w.heap.size + 1, 0, none⟩) (Nat.le_succ _) _).setCell (p := ⟨w.heap.size + 1, 1, none⟩) (Nat.le_succ _) _).setCell (p := ⟨w.heap.size + 1, 2, none⟩) (Nat.le_succ _) _).drew)
  clear hW3
  go_wp2_with fail
  exact bodyPost_ret (v := .agg #[.int .i64 (y : Int), .int .i64 (x : Int), .int .i64 (z : Int)]) (results_cell_row rfl _ W3 (w.heap.size + 1) _ #[.int .i64 (y : Int), .int .i64 (x : Int), .int .i64 (z : Int)] (0, 0) _ rfl K3.out Tryd.underlying39 rfl (by kernel_rfl)) rfl ⟨rfl, B3.out⟩

set_option maxRecDepth 100000 in
set_option maxHeartbeats 4000000 in
theorem turnClo1_any {g1 : Nat} (x y z : Nat) (w : World) (d0 : w.cell? ⟨g1, 0, none⟩ = some (.int .i64 0)) (d1 : w.cell? ⟨g1, 1, none⟩ = some (.int .i64 2)) (d2 : w.cell? ⟨g1, 2, none⟩ = some (.int .i64 1)) :
    Calls Tryd.prog 19 #[.agg #[.int .i64 x, .int .i64 y, .int .i64 z], .pointer (some ⟨g1, 0, none⟩)] w fun e w' => e = .returned (.agg #[.int .i64 (x : Nat), .int .i64 (z : Nat), .int .i64 (y : Nat)]) ∧ Below w.heap.size w w' := by
  have m1 : g1 < w.heap.size := block_of_cell d0
  obtain ⟨w2, hw2⟩ : ∃ w2, w2 = (w.alloc (.cells #[.int .i64 x, .int .i64 y, .int .i64 z] 39)).alloc (.cells #[.int .i64 0, .int .i64 0, .int .i64 0] 39) := ⟨_, rfl⟩
  have bel2 : Below w.heap.size w w2 := by rw [hw2]; exact ((Below.refl _ w).alloc (Nat.le_refl _) _).alloc (by simp) _
  have k1 : Blk w2 w.heap.size #[.int .i64 x, .int .i64 y, .int .i64 z] 39 := by rw [hw2]; exact (Blk.new _ _ _).alloc _
  have k2 : Blk w2 (w.heap.size + 1) #[.int .i64 0, .int .i64 0, .int .i64 0] 39 := by
    rw [hw2]
    have := Blk.new (w.alloc (.cells #[.int .i64 x, .int .i64 y, .int .i64 z] 39)) #[.int .i64 0, .int .i64 0, .int .i64 0] 39
    simpa using this
  have f0 := (bel2.cell (p := ⟨g1, 0, none⟩) m1).trans d0
  have f1 := (bel2.cell (p := ⟨g1, 1, none⟩) m1).trans d1
  have f2 := (bel2.cell (p := ⟨g1, 2, none⟩) m1).trans d2
  have t0 : w2.cell? ⟨w.heap.size, 0, none⟩ = some (.int .i64 (x : Int)) := k1.cell 0
  have t1 : w2.cell? ⟨w.heap.size, 1, none⟩ = some (.int .i64 (y : Int)) := k1.cell 1
  have t2 : w2.cell? ⟨w.heap.size, 2, none⟩ = some (.int .i64 (z : Int)) := k1.cell 2
  have r0 : w2.cell? ⟨w.heap.size + 1, 0, none⟩ = some (.int .i64 0) := k2.cell 0
  have r1 : w2.cell? ⟨w.heap.size + 1, 1, none⟩ = some (.int .i64 0) := k2.cell 1
  have r2 : w2.cell? ⟨w.heap.size + 1, 2, none⟩ = some (.int .i64 0) := k2.cell 2
  have u0 : w2.frozen? ⟨w.heap.size + 1, 0, none⟩ = false := k2.frozen 0
  have u1 : w2.frozen? ⟨w.heap.size + 1, 1, none⟩ = false := k2.frozen 1
  have u2 : w2.frozen? ⟨w.heap.size + 1, 2, none⟩ = false := k2.frozen 2
  have K2 := Lib.hid k2
  have BEL := Lib.hid bel2
  clear k1 k2 bel2 d0 d1 d2
  go_enter Tryd.func19, Tryd.ntmps19
  go_wp2_with fail
  rw [← hw2]
  have HW2 := Lib.hid hw2
  clear hw2
  go_region
  obtain ⟨W3, hW3⟩ : ∃ W3, W3 = (((w2.setCell ⟨w.heap.size + 1, 0, none⟩ (.int .i64 (x : Int))).setCell ⟨w.heap.size + 1, 1, none⟩ (.int .i64 (z : Int))).setCell ⟨w.heap.size + 1, 2, none⟩ (.int .i64 (y : Int))).drew := ⟨_, rfl⟩
  rw [← hW3]
  have K3 : Hid (W3.heap[w.heap.size + 1]? = some (.cells #[.int .i64 (x : Int), .int .i64 (z : Int), .int .i64 (y : Int)] 39)) := Lib.hid (by
    rw [hW3]
    exact ((K2.out.set 0 (.int .i64 (x : Int))).set 1 (.int .i64 (z : Int))).set 2 (.int .i64 (y : Int)))
  have B3 : Hid (Below w.heap.size w W3) := Lib.hid (by
    rw [hW3]
    exact (((BEL.out.setCell (p := ⟨w.heap.size + 1, 0, none⟩) (Nat.le_succ _) _).setCell (p := ⟨w.heap.size + 1, 1, none⟩) (Nat.le_succ _) _).setCell (p := ⟨w.heap.size + 1, 2, none⟩) (Nat.le_succ _) _).drew)
  clear hW3
  go_wp2_with fail
  exact bodyPost_ret (v := .agg #[.int .i64 (x : Int), .int .i64 (z : Int), .int .i64 (y : Int)]) (results_cell_row rfl _ W3 (w.heap.size + 1) _ #[.int .i64 (x : Int), .int .i64 (z : Int), .int .i64 (y : Int)] (0, 0) _ rfl K3.out Tryd.underlying39 rfl (by kernel_rfl)) rfl ⟨rfl, B3.out⟩

set_option maxRecDepth 100000 in
set_option maxHeartbeats 4000000 in
theorem turnClo2_any {g1 : Nat} (x y z : Nat) (w : World) (d0 : w.cell? ⟨g1, 0, none⟩ = some (.int .i64 2)) (d1 : w.cell? ⟨g1, 1, none⟩ = some (.int .i64 1)) (d2 : w.cell? ⟨g1, 2, none⟩ = some (.int .i64 0)) :
    Calls Tryd.prog 19 #[.agg #[.int .i64 x, .int .i64 y, .int .i64 z], .pointer (some ⟨g1, 0, none⟩)] w fun e w' => e = .returned (.agg #[.int .i64 (z : Nat), .int .i64 (y : Nat), .int .i64 (x : Nat)]) ∧ Below w.heap.size w w' := by
  have m1 : g1 < w.heap.size := block_of_cell d0
  obtain ⟨w2, hw2⟩ : ∃ w2, w2 = (w.alloc (.cells #[.int .i64 x, .int .i64 y, .int .i64 z] 39)).alloc (.cells #[.int .i64 0, .int .i64 0, .int .i64 0] 39) := ⟨_, rfl⟩
  have bel2 : Below w.heap.size w w2 := by rw [hw2]; exact ((Below.refl _ w).alloc (Nat.le_refl _) _).alloc (by simp) _
  have k1 : Blk w2 w.heap.size #[.int .i64 x, .int .i64 y, .int .i64 z] 39 := by rw [hw2]; exact (Blk.new _ _ _).alloc _
  have k2 : Blk w2 (w.heap.size + 1) #[.int .i64 0, .int .i64 0, .int .i64 0] 39 := by
    rw [hw2]
    have := Blk.new (w.alloc (.cells #[.int .i64 x, .int .i64 y, .int .i64 z] 39)) #[.int .i64 0, .int .i64 0, .int .i64 0] 39
    simpa using this
  have f0 := (bel2.cell (p := ⟨g1, 0, none⟩) m1).trans d0
  have f1 := (bel2.cell (p := ⟨g1, 1, none⟩) m1).trans d1
  have f2 := (bel2.cell (p := ⟨g1, 2, none⟩) m1).trans d2
  have t0 : w2.cell? ⟨w.heap.size, 0, none⟩ = some (.int .i64 (x : Int)) := k1.cell 0
  have t1 : w2.cell? ⟨w.heap.size, 1, none⟩ = some (.int .i64 (y : Int)) := k1.cell 1
  have t2 : w2.cell? ⟨w.heap.size, 2, none⟩ = some (.int .i64 (z : Int)) := k1.cell 2
  have r0 : w2.cell? ⟨w.heap.size + 1, 0, none⟩ = some (.int .i64 0) := k2.cell 0
  have r1 : w2.cell? ⟨w.heap.size + 1, 1, none⟩ = some (.int .i64 0) := k2.cell 1
  have r2 : w2.cell? ⟨w.heap.size + 1, 2, none⟩ = some (.int .i64 0) := k2.cell 2
  have u0 : w2.frozen? ⟨w.heap.size + 1, 0, none⟩ = false := k2.frozen 0
  have u1 : w2.frozen? ⟨w.heap.size + 1, 1, none⟩ = false := k2.frozen 1
  have u2 : w2.frozen? ⟨w.heap.size + 1, 2, none⟩ = false := k2.frozen 2
  have K2 := Lib.hid k2
  have BEL := Lib.hid bel2
  clear k1 k2 bel2 d0 d1 d2
  go_enter Tryd.func19, Tryd.ntmps19
  go_wp2_with fail
  rw [← hw2]
  have HW2 := Lib.hid hw2
  clear hw2
  go_region
  obtain ⟨W3, hW3⟩ : ∃ W3, W3 = (((w2.setCell ⟨w.heap.size + 1, 0, none⟩ (.int .i64 (z : Int))).setCell ⟨w.heap.size + 1, 1, none⟩ (.int .i64 (y : Int))).setCell ⟨w.heap.size + 1, 2, none⟩ (.int .i64 (x : Int))).drew := ⟨_, rfl⟩
  rw [← hW3]
  have K3 : Hid (W3.heap[w.heap.size + 1]? = some (.cells #[.int .i64 (z : Int), .int .i64 (y : Int), .int .i64 (x : Int)] 39)) := Lib.hid (by
    rw [hW3]
    exact ((K2.out.set 0 (.int .i64 (z : Int))).set 1 (.int .i64 (y : Int))).set 2 (.int .i64 (x : Int)))
  have B3 : Hid (Below w.heap.size w W3) := Lib.hid (by
    rw [hW3]
    exact (((BEL.out.setCell (p := ⟨w.heap.size + 1, 0, none⟩) (Nat.le_succ _) _).setCell (p := ⟨w.heap.size + 1, 1, none⟩) (Nat.le_succ _) _).setCell (p := ⟨w.heap.size + 1, 2, none⟩) (Nat.le_succ _) _).drew)
  clear hW3
  go_wp2_with fail
  exact bodyPost_ret (v := .agg #[.int .i64 (z : Int), .int .i64 (y : Int), .int .i64 (x : Int)]) (results_cell_row rfl _ W3 (w.heap.size + 1) _ #[.int .i64 (z : Int), .int .i64 (y : Int), .int .i64 (x : Int)] (0, 0) _ rfl K3.out Tryd.underlying39 rfl (by kernel_rfl)) rfl ⟨rfl, B3.out⟩

set_option maxRecDepth 100000 in
set_option maxHeartbeats 4000000 in
theorem turnClo3_any {g1 : Nat} (x y z : Nat) (w : World) (d0 : w.cell? ⟨g1, 0, none⟩ = some (.int .i64 1)) (d1 : w.cell? ⟨g1, 1, none⟩ = some (.int .i64 2)) (d2 : w.cell? ⟨g1, 2, none⟩ = some (.int .i64 0)) :
    Calls Tryd.prog 19 #[.agg #[.int .i64 x, .int .i64 y, .int .i64 z], .pointer (some ⟨g1, 0, none⟩)] w fun e w' => e = .returned (.agg #[.int .i64 (y : Nat), .int .i64 (z : Nat), .int .i64 (x : Nat)]) ∧ Below w.heap.size w w' := by
  have m1 : g1 < w.heap.size := block_of_cell d0
  obtain ⟨w2, hw2⟩ : ∃ w2, w2 = (w.alloc (.cells #[.int .i64 x, .int .i64 y, .int .i64 z] 39)).alloc (.cells #[.int .i64 0, .int .i64 0, .int .i64 0] 39) := ⟨_, rfl⟩
  have bel2 : Below w.heap.size w w2 := by rw [hw2]; exact ((Below.refl _ w).alloc (Nat.le_refl _) _).alloc (by simp) _
  have k1 : Blk w2 w.heap.size #[.int .i64 x, .int .i64 y, .int .i64 z] 39 := by rw [hw2]; exact (Blk.new _ _ _).alloc _
  have k2 : Blk w2 (w.heap.size + 1) #[.int .i64 0, .int .i64 0, .int .i64 0] 39 := by
    rw [hw2]
    have := Blk.new (w.alloc (.cells #[.int .i64 x, .int .i64 y, .int .i64 z] 39)) #[.int .i64 0, .int .i64 0, .int .i64 0] 39
    simpa using this
  have f0 := (bel2.cell (p := ⟨g1, 0, none⟩) m1).trans d0
  have f1 := (bel2.cell (p := ⟨g1, 1, none⟩) m1).trans d1
  have f2 := (bel2.cell (p := ⟨g1, 2, none⟩) m1).trans d2
  have t0 : w2.cell? ⟨w.heap.size, 0, none⟩ = some (.int .i64 (x : Int)) := k1.cell 0
  have t1 : w2.cell? ⟨w.heap.size, 1, none⟩ = some (.int .i64 (y : Int)) := k1.cell 1
  have t2 : w2.cell? ⟨w.heap.size, 2, none⟩ = some (.int .i64 (z : Int)) := k1.cell 2
  have r0 : w2.cell? ⟨w.heap.size + 1, 0, none⟩ = some (.int .i64 0) := k2.cell 0
  have r1 : w2.cell? ⟨w.heap.size + 1, 1, none⟩ = some (.int .i64 0) := k2.cell 1
  have r2 : w2.cell? ⟨w.heap.size + 1, 2, none⟩ = some (.int .i64 0) := k2.cell 2
  have u0 : w2.frozen? ⟨w.heap.size + 1, 0, none⟩ = false := k2.frozen 0
  have u1 : w2.frozen? ⟨w.heap.size + 1, 1, none⟩ = false := k2.frozen 1
  have u2 : w2.frozen? ⟨w.heap.size + 1, 2, none⟩ = false := k2.frozen 2
  have K2 := Lib.hid k2
  have BEL := Lib.hid bel2
  clear k1 k2 bel2 d0 d1 d2
  go_enter Tryd.func19, Tryd.ntmps19
  go_wp2_with fail
  rw [← hw2]
  have HW2 := Lib.hid hw2
  clear hw2
  go_region
  obtain ⟨W3, hW3⟩ : ∃ W3, W3 = (((w2.setCell ⟨w.heap.size + 1, 0, none⟩ (.int .i64 (y : Int))).setCell ⟨w.heap.size + 1, 1, none⟩ (.int .i64 (z : Int))).setCell ⟨w.heap.size + 1, 2, none⟩ (.int .i64 (x : Int))).drew := ⟨_, rfl⟩
  rw [← hW3]
  have K3 : Hid (W3.heap[w.heap.size + 1]? = some (.cells #[.int .i64 (y : Int), .int .i64 (z : Int), .int .i64 (x : Int)] 39)) := Lib.hid (by
    rw [hW3]
    exact ((K2.out.set 0 (.int .i64 (y : Int))).set 1 (.int .i64 (z : Int))).set 2 (.int .i64 (x : Int)))
  have B3 : Hid (Below w.heap.size w W3) := Lib.hid (by
    rw [hW3]
    exact (((BEL.out.setCell (p := ⟨w.heap.size + 1, 0, none⟩) (Nat.le_succ _) _).setCell (p := ⟨w.heap.size + 1, 1, none⟩) (Nat.le_succ _) _).setCell (p := ⟨w.heap.size + 1, 2, none⟩) (Nat.le_succ _) _).drew)
  clear hW3
  go_wp2_with fail
  exact bodyPost_ret (v := .agg #[.int .i64 (y : Int), .int .i64 (z : Int), .int .i64 (x : Int)]) (results_cell_row rfl _ W3 (w.heap.size + 1) _ #[.int .i64 (y : Int), .int .i64 (z : Int), .int .i64 (x : Int)] (0, 0) _ rfl K3.out Tryd.underlying39 rfl (by kernel_rfl)) rfl ⟨rfl, B3.out⟩

set_option maxRecDepth 100000 in
set_option maxHeartbeats 4000000 in
theorem turnClo4_any {g1 : Nat} (x y z : Nat) (w : World) (d0 : w.cell? ⟨g1, 0, none⟩ = some (.int .i64 2)) (d1 : w.cell? ⟨g1, 1, none⟩ = some (.int .i64 0)) (d2 : w.cell? ⟨g1, 2, none⟩ = some (.int .i64 1)) :
    Calls Tryd.prog 19 #[.agg #[.int .i64 x, .int .i64 y, .int .i64 z], .pointer (some ⟨g1, 0, none⟩)] w fun e w' => e = .returned (.agg #[.int .i64 (z : Nat), .int .i64 (x : Nat), .int .i64 (y : Nat)]) ∧ Below w.heap.size w w' := by
  have m1 : g1 < w.heap.size := block_of_cell d0
  obtain ⟨w2, hw2⟩ : ∃ w2, w2 = (w.alloc (.cells #[.int .i64 x, .int .i64 y, .int .i64 z] 39)).alloc (.cells #[.int .i64 0, .int .i64 0, .int .i64 0] 39) := ⟨_, rfl⟩
  have bel2 : Below w.heap.size w w2 := by rw [hw2]; exact ((Below.refl _ w).alloc (Nat.le_refl _) _).alloc (by simp) _
  have k1 : Blk w2 w.heap.size #[.int .i64 x, .int .i64 y, .int .i64 z] 39 := by rw [hw2]; exact (Blk.new _ _ _).alloc _
  have k2 : Blk w2 (w.heap.size + 1) #[.int .i64 0, .int .i64 0, .int .i64 0] 39 := by
    rw [hw2]
    have := Blk.new (w.alloc (.cells #[.int .i64 x, .int .i64 y, .int .i64 z] 39)) #[.int .i64 0, .int .i64 0, .int .i64 0] 39
    simpa using this
  have f0 := (bel2.cell (p := ⟨g1, 0, none⟩) m1).trans d0
  have f1 := (bel2.cell (p := ⟨g1, 1, none⟩) m1).trans d1
  have f2 := (bel2.cell (p := ⟨g1, 2, none⟩) m1).trans d2
  have t0 : w2.cell? ⟨w.heap.size, 0, none⟩ = some (.int .i64 (x : Int)) := k1.cell 0
  have t1 : w2.cell? ⟨w.heap.size, 1, none⟩ = some (.int .i64 (y : Int)) := k1.cell 1
  have t2 : w2.cell? ⟨w.heap.size, 2, none⟩ = some (.int .i64 (z : Int)) := k1.cell 2
  have r0 : w2.cell? ⟨w.heap.size + 1, 0, none⟩ = some (.int .i64 0) := k2.cell 0
  have r1 : w2.cell? ⟨w.heap.size + 1, 1, none⟩ = some (.int .i64 0) := k2.cell 1
  have r2 : w2.cell? ⟨w.heap.size + 1, 2, none⟩ = some (.int .i64 0) := k2.cell 2
  have u0 : w2.frozen? ⟨w.heap.size + 1, 0, none⟩ = false := k2.frozen 0
  have u1 : w2.frozen? ⟨w.heap.size + 1, 1, none⟩ = false := k2.frozen 1
  have u2 : w2.frozen? ⟨w.heap.size + 1, 2, none⟩ = false := k2.frozen 2
  have K2 := Lib.hid k2
  have BEL := Lib.hid bel2
  clear k1 k2 bel2 d0 d1 d2
  go_enter Tryd.func19, Tryd.ntmps19
  go_wp2_with fail
  rw [← hw2]
  have HW2 := Lib.hid hw2
  clear hw2
  go_region
  obtain ⟨W3, hW3⟩ : ∃ W3, W3 = (((w2.setCell ⟨w.heap.size + 1, 0, none⟩ (.int .i64 (z : Int))).setCell ⟨w.heap.size + 1, 1, none⟩ (.int .i64 (x : Int))).setCell ⟨w.heap.size + 1, 2, none⟩ (.int .i64 (y : Int))).drew := ⟨_, rfl⟩
  rw [← hW3]
  have K3 : Hid (W3.heap[w.heap.size + 1]? = some (.cells #[.int .i64 (z : Int), .int .i64 (x : Int), .int .i64 (y : Int)] 39)) := Lib.hid (by
    rw [hW3]
    exact ((K2.out.set 0 (.int .i64 (z : Int))).set 1 (.int .i64 (x : Int))).set 2 (.int .i64 (y : Int)))
  have B3 : Hid (Below w.heap.size w W3) := Lib.hid (by
    rw [hW3]
    exact (((BEL.out.setCell (p := ⟨w.heap.size + 1, 0, none⟩) (Nat.le_succ _) _).setCell (p := ⟨w.heap.size + 1, 1, none⟩) (Nat.le_succ _) _).setCell (p := ⟨w.heap.size + 1, 2, none⟩) (Nat.le_succ _) _).drew)
  clear hW3
  go_wp2_with fail
  exact bodyPost_ret (v := .agg #[.int .i64 (z : Int), .int .i64 (x : Int), .int .i64 (y : Int)]) (results_cell_row rfl _ W3 (w.heap.size + 1) _ #[.int .i64 (z : Int), .int .i64 (x : Int), .int .i64 (y : Int)] (0, 0) _ rfl K3.out Tryd.underlying39 rfl (by kernel_rfl)) rfl ⟨rfl, B3.out⟩

set_option maxRecDepth 100000 in
set_option maxHeartbeats 4000000 in
theorem implTurn0_any {B : Nat} (A : Option Addr) (n c : Nat) (t : List (List Int)) (F : Nat → Nat → Nat) (w : World) (h : Rows2 B w A n t) (hB : B ≤ w.heap.size) (hq : isQ t = true) (hT : TurnsAt w)
    (hF : ∀ x y, x < n → y < n → F ((fun _ y => y) x y) ((fun x _ => x) x y) = (cellZ t) x y) :
    Calls Tryd.prog 7 #[.slice A n c, .int .i64 0] w (GotT (optB true (gridOf n n F)) w) := by
  have hl := h.len
  have hle := h.le
  have CQ := implIsQ_any A n c t w h hB
  have hP := turn_inj0 hq hl
  rw [hq] at CQ
  have hp := isQ_parts hq hl
  have hn36 := hp.1.2
  have HT := Lib.hid hp.2
  have HP := Lib.hid hP
  have HF := Lib.hid hF
  have HR := Lib.hid h
  have HTU := Lib.hid hT
  clear hp hP hF h hT hq
  go_enter Tryd.func7, Tryd.ntmps7
  go_wp2_with fail
  (go_at_call 16; (with_reducible refine (CQ).mono ?_); rintro e w1 ⟨rfl, hb⟩)
  have hT1 := HTU.out.below hb (Nat.le_refl _)
  have g0 := hT1.2 0 1 rfl
  have g1 := hT1.2 1 0 rfl
  have g2 := hT1.2 2 2 rfl
  have C1 : ∀ W, Calls Tryd.prog 17 #[.int .i64 0, .int .i64 0, .int .i64 4] W fun e w' => e = .returned (.bool true) ∧ W = w' := fun W => (within_any 0 0 4 W).mono fun e w' ⟨h1, h2⟩ => ⟨h1, h2⟩
  obtain ⟨w2, hw2⟩ : ∃ w2, w2 = w1.alloc (.cells #[.int .i64 1, .int .i64 0, .int .i64 2] 35) := ⟨_, rfl⟩
  have k2 : Blk w2 w1.heap.size #[.int .i64 1, .int .i64 0, .int .i64 2] 35 := by rw [hw2]; exact Blk.new _ _ _
  have bel2 : Below w1.heap.size w1 w2 := by rw [hw2]; exact (Below.refl _ _).alloc (Nat.le_refl _) _
  have HB2 : Hid (Below w.heap.size w w2) := Lib.hid (hb.trans (bel2.mono hb.size))
  have lt2 := k2.lt
  have CR := rearrTurn_any A n c t (fun _ y => y) (fun x _ => x) (cellZ t) F (.pointer (some ⟨w1.heap.size, 0, none⟩)) w2 (HR.out.below (HB2.out.mono hB)) (by have := HB2.out.size; omega) HT.out hn36 HP.out HF.out (fun x y hx hy => by have := (tabOk_cell HT.out hx hy).1; omega)
    (fun W hW x y _ _ => turnClo0_any x y (cellZ t x y) W ((hW.cell (p := ⟨w1.heap.size, 0, none⟩) lt2).trans (k2.cell 0)) ((hW.cell (p := ⟨w1.heap.size, 1, none⟩) lt2).trans (k2.cell 1)) ((hW.cell (p := ⟨w1.heap.size, 2, none⟩) lt2).trans (k2.cell 2)))
  clear k2 bel2 hT1
  go_wp2_with (go_at_call 17; (with_reducible refine (C1 _).mono ?_); rintro e w' ⟨rfl, rfl⟩)
  rw [← hw2]
  have HW2 := Lib.hid hw2
  clear hw2
  go_wp2_with (go_at_call 18; (with_reducible refine (CR).mono ?_); rintro e w6 ⟨A', c', L, rfl, hown, hbel⟩)
  go_ret2
  exact gotT_some (hown.lower HB2.out.size) (HB2.out.trans (hbel.mono HB2.out.size))

set_option maxRecDepth 100000 in
set_option maxHeartbeats 4000000 in
theorem implTurn1_any {B : Nat} (A : Option Addr) (n c : Nat) (t : List (List Int)) (F : Nat → Nat → Nat) (w : World) (h : Rows2 B w A n t) (hB : B ≤ w.heap.size) (hq : isQ t = true) (hT : TurnsAt w)
    (hF : ∀ x y, x < n → y < n → F ((fun x _ => x) x y) ((cellZ t) x y) = (fun _ y => y) x y) :
    Calls Tryd.prog 7 #[.slice A n c, .int .i64 1] w (GotT (optB true (gridOf n n F)) w) := by
  have hl := h.len
  have hle := h.le
  have CQ := implIsQ_any A n c t w h hB
  have hP := turn_inj1 hq hl
  rw [hq] at CQ
  have hp := isQ_parts hq hl
  have hn36 := hp.1.2
  have HT := Lib.hid hp.2
  have HP := Lib.hid hP
  have HF := Lib.hid hF
  have HR := Lib.hid h
  have HTU := Lib.hid hT
  clear hp hP hF h hT hq
  go_enter Tryd.func7, Tryd.ntmps7
  go_wp2_with fail
  (go_at_call 16; (with_reducible refine (CQ).mono ?_); rintro e w1 ⟨rfl, hb⟩)
  have hT1 := HTU.out.below hb (Nat.le_refl _)
  have g0 := hT1.2 3 0 rfl
  have g1 := hT1.2 4 2 rfl
  have g2 := hT1.2 5 1 rfl
  have C1 : ∀ W, Calls Tryd.prog 17 #[.int .i64 1, .int .i64 0, .int .i64 4] W fun e w' => e = .returned (.bool true) ∧ W = w' := fun W => (within_any 1 0 4 W).mono fun e w' ⟨h1, h2⟩ => ⟨h1, h2⟩
  obtain ⟨w2, hw2⟩ : ∃ w2, w2 = w1.alloc (.cells #[.int .i64 0, .int .i64 2, .int .i64 1] 35) := ⟨_, rfl⟩
  have k2 : Blk w2 w1.heap.size #[.int .i64 0, .int .i64 2, .int .i64 1] 35 := by rw [hw2]; exact Blk.new _ _ _
  have bel2 : Below w1.heap.size w1 w2 := by rw [hw2]; exact (Below.refl _ _).alloc (Nat.le_refl _) _
  have HB2 : Hid (Below w.heap.size w w2) := Lib.hid (hb.trans (bel2.mono hb.size))
  have lt2 := k2.lt
  have CR := rearrTurn_any A n c t (fun x _ => x) (cellZ t) (fun _ y => y) F (.pointer (some ⟨w1.heap.size, 0, none⟩)) w2 (HR.out.below (HB2.out.mono hB)) (by have := HB2.out.size; omega) HT.out hn36 HP.out HF.out (fun x y hx hy => by have := (tabOk_cell HT.out hx hy).1; omega)
    (fun W hW x y _ _ => turnClo1_any x y (cellZ t x y) W ((hW.cell (p := ⟨w1.heap.size, 0, none⟩) lt2).trans (k2.cell 0)) ((hW.cell (p := ⟨w1.heap.size, 1, none⟩) lt2).trans (k2.cell 1)) ((hW.cell (p := ⟨w1.heap.size, 2, none⟩) lt2).trans (k2.cell 2)))
  clear k2 bel2 hT1
  go_wp2_with (go_at_call 17; (with_reducible refine (C1 _).mono ?_); rintro e w' ⟨rfl, rfl⟩)
  rw [← hw2]
  have HW2 := Lib.hid hw2
  clear hw2
  go_wp2_with (go_at_call 18; (with_reducible refine (CR).mono ?_); rintro e w6 ⟨A', c', L, rfl, hown, hbel⟩)
  go_ret2
  exact gotT_some (hown.lower HB2.out.size) (HB2.out.trans (hbel.mono HB2.out.size))

set_option maxRecDepth 100000 in
set_option maxHeartbeats 4000000 in
theorem implTurn2_any {B : Nat} (A : Option Addr) (n c : Nat) (t : List (List Int)) (F : Nat → Nat → Nat) (w : World) (h : Rows2 B w A n t) (hB : B ≤ w.heap.size) (hq : isQ t = true) (hT : TurnsAt w)
    (hF : ∀ x y, x < n → y < n → F ((cellZ t) x y) ((fun _ y => y) x y) = (fun x _ => x) x y) :
    Calls Tryd.prog 7 #[.slice A n c, .int .i64 2] w (GotT (optB true (gridOf n n F)) w) := by
  have hl := h.len
  have hle := h.le
  have CQ := implIsQ_any A n c t w h hB
  have hP := turn_inj2 hq hl
  rw [hq] at CQ
  have hp := isQ_parts hq hl
  have hn36 := hp.1.2
  have HT := Lib.hid hp.2
  have HP := Lib.hid hP
  have HF := Lib.hid hF
  have HR := Lib.hid h
  have HTU := Lib.hid hT
  clear hp hP hF h hT hq
  go_enter Tryd.func7, Tryd.ntmps7
  go_wp2_with fail
  (go_at_call 16; (with_reducible refine (CQ).mono ?_); rintro e w1 ⟨rfl, hb⟩)
  have hT1 := HTU.out.below hb (Nat.le_refl _)
  have g0 := hT1.2 6 2 rfl
  have g1 := hT1.2 7 1 rfl
  have g2 := hT1.2 8 0 rfl
  have C1 : ∀ W, Calls Tryd.prog 17 #[.int .i64 2, .int .i64 0, .int .i64 4] W fun e w' => e = .returned (.bool true) ∧ W = w' := fun W => (within_any 2 0 4 W).mono fun e w' ⟨h1, h2⟩ => ⟨h1, h2⟩
  obtain ⟨w2, hw2⟩ : ∃ w2, w2 = w1.alloc (.cells #[.int .i64 2, .int .i64 1, .int .i64 0] 35) := ⟨_, rfl⟩
  have k2 : Blk w2 w1.heap.size #[.int .i64 2, .int .i64 1, .int .i64 0] 35 := by rw [hw2]; exact Blk.new _ _ _
  have bel2 : Below w1.heap.size w1 w2 := by rw [hw2]; exact (Below.refl _ _).alloc (Nat.le_refl _) _
  have HB2 : Hid (Below w.heap.size w w2) := Lib.hid (hb.trans (bel2.mono hb.size))
  have lt2 := k2.lt
  have CR := rearrTurn_any A n c t (cellZ t) (fun _ y => y) (fun x _ => x) F (.pointer (some ⟨w1.heap.size, 0, none⟩)) w2 (HR.out.below (HB2.out.mono hB)) (by have := HB2.out.size; omega) HT.out hn36 HP.out HF.out (fun x y hx hy => by have := (tabOk_cell HT.out hx hy).1; omega)
    (fun W hW x y _ _ => turnClo2_any x y (cellZ t x y) W ((hW.cell (p := ⟨w1.heap.size, 0, none⟩) lt2).trans (k2.cell 0)) ((hW.cell (p := ⟨w1.heap.size, 1, none⟩) lt2).trans (k2.cell 1)) ((hW.cell (p := ⟨w1.heap.size, 2, none⟩) lt2).trans (k2.cell 2)))
  clear k2 bel2 hT1
  go_wp2_with (go_at_call 17; (with_reducible refine (C1 _).mono ?_); rintro e w' ⟨rfl, rfl⟩)
  rw [← hw2]
  have HW2 := Lib.hid hw2
  clear hw2
  go_wp2_with (go_at_call 18; (with_reducible refine (CR).mono ?_); rintro e w6 ⟨A', c', L, rfl, hown, hbel⟩)
  go_ret2
  exact gotT_some (hown.lower HB2.out.size) (HB2.out.trans (hbel.mono HB2.out.size))

set_option maxRecDepth 100000 in
set_option maxHeartbeats 4000000 in
theorem implTurn3_any {B : Nat} (A : Option Addr) (n c : Nat) (t : List (List Int)) (F : Nat → Nat → Nat) (w : World) (h : Rows2 B w A n t) (hB : B ≤ w.heap.size) (hq : isQ t = true) (hT : TurnsAt w)
    (hF : ∀ x y, x < n → y < n → F ((fun _ y => y) x y) ((cellZ t) x y) = (fun x _ => x) x y) :
    Calls Tryd.prog 7 #[.slice A n c, .int .i64 3] w (GotT (optB true (gridOf n n F)) w) := by
  have hl := h.len
  have hle := h.le
  have CQ := implIsQ_any A n c t w h hB
  have hP := turn_inj3 hq hl
  rw [hq] at CQ
  have hp := isQ_parts hq hl
  have hn36 := hp.1.2
  have HT := Lib.hid hp.2
  have HP := Lib.hid hP
  have HF := Lib.hid hF
  have HR := Lib.hid h
  have HTU := Lib.hid hT
  clear hp hP hF h hT hq
  go_enter Tryd.func7, Tryd.ntmps7
  go_wp2_with fail
  (go_at_call 16; (with_reducible refine (CQ).mono ?_); rintro e w1 ⟨rfl, hb⟩)
  have hT1 := HTU.out.below hb (Nat.le_refl _)
  have g0 := hT1.2 9 1 rfl
  have g1 := hT1.2 10 2 rfl
  have g2 := hT1.2 11 0 rfl
  have C1 : ∀ W, Calls Tryd.prog 17 #[.int .i64 3, .int .i64 0, .int .i64 4] W fun e w' => e = .returned (.bool true) ∧ W = w' := fun W => (within_any 3 0 4 W).mono fun e w' ⟨h1, h2⟩ => ⟨h1, h2⟩
  obtain ⟨w2, hw2⟩ : ∃ w2, w2 = w1.alloc (.cells #[.int .i64 1, .int .i64 2, .int .i64 0] 35) := ⟨_, rfl⟩
  have k2 : Blk w2 w1.heap.size #[.int .i64 1, .int .i64 2, .int .i64 0] 35 := by rw [hw2]; exact Blk.new _ _ _
  have bel2 : Below w1.heap.size w1 w2 := by rw [hw2]; exact (Below.refl _ _).alloc (Nat.le_refl _) _
  have HB2 : Hid (Below w.heap.size w w2) := Lib.hid (hb.trans (bel2.mono hb.size))
  have lt2 := k2.lt
  have CR := rearrTurn_any A n c t (fun _ y => y) (cellZ t) (fun x _ => x) F (.pointer (some ⟨w1.heap.size, 0, none⟩)) w2 (HR.out.below (HB2.out.mono hB)) (by have := HB2.out.size; omega) HT.out hn36 HP.out HF.out (fun x y hx hy => by have := (tabOk_cell HT.out hx hy).1; omega)
    (fun W hW x y _ _ => turnClo3_any x y (cellZ t x y) W ((hW.cell (p := ⟨w1.heap.size, 0, none⟩) lt2).trans (k2.cell 0)) ((hW.cell (p := ⟨w1.heap.size, 1, none⟩) lt2).trans (k2.cell 1)) ((hW.cell (p := ⟨w1.heap.size, 2, none⟩) lt2).trans (k2.cell 2)))
  clear k2 bel2 hT1
  go_wp2_with (go_at_call 17; (with_reducible refine (C1 _).mono ?_); rintro e w' ⟨rfl, rfl⟩)
  rw [← hw2]
  have HW2 := Lib.hid hw2
  clear hw2
  go_wp2_with (go_at_call 18; (with_reducible refine (CR).mono ?_); rintro e w6 ⟨A', c', L, rfl, hown, hbel⟩)
  go_ret2
  exact gotT_some (hown.lower HB2.out.size) (HB2.out.trans (hbel.mono HB2.out.size))

set_option maxRecDepth 100000 in
set_option maxHeartbeats 4000000 in
theorem implTurn4_any {B : Nat} (A : Option Addr) (n c : Nat) (t : List (List Int)) (F : Nat → Nat → Nat) (w : World) (h : Rows2 B w A n t) (hB : B ≤ w.heap.size) (hq : isQ t = true) (hT : TurnsAt w)
    (hF : ∀ x y, x < n → y < n → F ((cellZ t) x y) ((fun x _ => x) x y) = (fun _ y => y) x y) :
    Calls Tryd.prog 7 #[.slice A n c, .int .i64 4] w (GotT (optB true (gridOf n n F)) w) := by
  have hl := h.len
  have hle := h.le
  have CQ := implIsQ_any A n c t w h hB
  have hP := turn_inj4 hq hl
  rw [hq] at CQ
  have hp := isQ_parts hq hl
  have hn36 := hp.1.2
  have HT := Lib.hid hp.2
  have HP := Lib.hid hP
  have HF := Lib.hid hF
  have HR := Lib.hid h
  have HTU := Lib.hid hT
  clear hp hP hF h hT hq
  go_enter Tryd.func7, Tryd.ntmps7
  go_wp2_with fail
  (go_at_call 16; (with_reducible refine (CQ).mono ?_); rintro e w1 ⟨rfl, hb⟩)
  have hT1 := HTU.out.below hb (Nat.le_refl _)
  have g0 := hT1.2 12 2 rfl
  have g1 := hT1.2 13 0 rfl
  have g2 := hT1.2 14 1 rfl
  have C1 : ∀ W, Calls Tryd.prog 17 #[.int .i64 4, .int .i64 0, .int .i64 4] W fun e w' => e = .returned (.bool true) ∧ W = w' := fun W => (within_any 4 0 4 W).mono fun e w' ⟨h1, h2⟩ => ⟨h1, h2⟩
  obtain ⟨w2, hw2⟩ : ∃ w2, w2 = w1.alloc (.cells #[.int .i64 2, .int .i64 0, .int .i64 1] 35) := ⟨_, rfl⟩
  have k2 : Blk w2 w1.heap.size #[.int .i64 2, .int .i64 0, .int .i64 1] 35 := by rw [hw2]; exact Blk.new _ _ _
  have bel2 : Below w1.heap.size w1 w2 := by rw [hw2]; exact (Below.refl _ _).alloc (Nat.le_refl _) _
  have HB2 : Hid (Below w.heap.size w w2) := Lib.hid (hb.trans (bel2.mono hb.size))
  have lt2 := k2.lt
  have CR := rearrTurn_any A n c t (cellZ t) (fun x _ => x) (fun _ y => y) F (.pointer (some ⟨w1.heap.size, 0, none⟩)) w2 (HR.out.below (HB2.out.mono hB)) (by have := HB2.out.size; omega) HT.out hn36 HP.out HF.out (fun x y hx hy => by have := (tabOk_cell HT.out hx hy).1; omega)
    (fun W hW x y _ _ => turnClo4_any x y (cellZ t x y) W ((hW.cell (p := ⟨w1.heap.size, 0, none⟩) lt2).trans (k2.cell 0)) ((hW.cell (p := ⟨w1.heap.size, 1, none⟩) lt2).trans (k2.cell 1)) ((hW.cell (p := ⟨w1.heap.size, 2, none⟩) lt2).trans (k2.cell 2)))
  clear k2 bel2 hT1
  go_wp2_with (go_at_call 17; (with_reducible refine (C1 _).mono ?_); rintro e w' ⟨rfl, rfl⟩)
  rw [← hw2]
  have HW2 := Lib.hid hw2
  clear hw2
  go_wp2_with (go_at_call 18; (with_reducible refine (CR).mono ?_); rintro e w6 ⟨A', c', L, rfl, hown, hbel⟩)
  go_ret2
  exact gotT_some (hown.lower HB2.out.size) (HB2.out.trans (hbel.mono HB2.out.size))
end Go.Proofs.YtiokcflomchdcaaDoor
