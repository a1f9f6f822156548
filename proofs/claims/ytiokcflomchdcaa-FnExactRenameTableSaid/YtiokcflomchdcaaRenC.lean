/-
  Quasigroups with other rows, columns and numbers, as the program's function makes their triples.
-/
import Derived.Test.YtiokcflomchdcaaRen
import Derived.RegionTactic
namespace Go.Proofs.Ytiokcflomchdcaa
open Go.RowKit

set_option maxRecDepth 100000 in
set_option maxHeartbeats 4000000 in
theorem renClo_any {B g1 g2 g3 : Nat} (A1 A2 A3 : Option Addr) (n c1 c2 c3 x y z : Nat) (rs cs vs : List Int) (w : World) (d1 : w.cell? ⟨g1, 0, none⟩ = some (.slice A1 n c1)) (d2 : w.cell? ⟨g2, 0, none⟩ = some (.slice A2 n c2)) (d3 : w.cell? ⟨g3, 0, none⟩ = some (.slice A3 n c3))
    (h1 : RowB .i64 B w A1 n rs) (o1 : isOrd rs = true) (h2 : RowB .i64 B w A2 n cs) (o2 : isOrd cs = true) (h3 : RowB .i64 B w A3 n vs) (o3 : isOrd vs = true) (hx : x < n) (hy : y < n) (hz : z < n) :
    Calls Try.prog 117 #[.agg #[.int .i64 x, .int .i64 y, .int .i64 z], .pointer (some ⟨g1, 0, none⟩), .pointer (some ⟨g2, 0, none⟩), .pointer (some ⟨g3, 0, none⟩)] w fun e w' => e = .returned (.agg #[.int .i64 (fnOf rs x : Nat), .int .i64 (fnOf cs y : Nat), .int .i64 (fnOf vs z : Nat)]) ∧ Below w.heap.size w w' := by
  have hle1 := h1.le
  obtain ⟨b1, o1', rfl, hb1, ha1⟩ := ord_cell h1 o1 hx
  obtain ⟨b2, o2', rfl, hb2, ha2⟩ := ord_cell h2 o2 hy
  obtain ⟨b3, o3', rfl, hb3, ha3⟩ := ord_cell h3 o3 hz
  generalize fnOf rs x = pp at ha1 ⊢
  generalize fnOf cs y = qq at ha2 ⊢
  generalize fnOf vs z = vv at ha3 ⊢
  have m1 : g1 < w.heap.size := block_of_cell d1
  have m2 : g2 < w.heap.size := block_of_cell d2
  have m3 : g3 < w.heap.size := block_of_cell d3
  have m4 : b1 < w.heap.size := block_of_cell ha1
  have m5 : b2 < w.heap.size := block_of_cell ha2
  have m6 : b3 < w.heap.size := block_of_cell ha3
  obtain ⟨w2, hw2⟩ : ∃ w2, w2 = (w.alloc (.cells #[.int .i64 x, .int .i64 y, .int .i64 z] 134)).alloc (.cells #[.int .i64 0, .int .i64 0, .int .i64 0] 134) := ⟨_, rfl⟩
  have bel2 : Below w.heap.size w w2 := by rw [hw2]; exact ((Below.refl _ w).alloc (Nat.le_refl _) _).alloc (by simp) _
  have k1 : Blk w2 w.heap.size #[.int .i64 x, .int .i64 y, .int .i64 z] 134 := by rw [hw2]; exact (Blk.new _ _ _).alloc _
  have k2 : Blk w2 (w.heap.size + 1) #[.int .i64 0, .int .i64 0, .int .i64 0] 134 := by
    rw [hw2]
    have := Blk.new (w.alloc (.cells #[.int .i64 x, .int .i64 y, .int .i64 z] 134)) #[.int .i64 0, .int .i64 0, .int .i64 0] 134
    simpa using this
  have f1 := (bel2.cell (p := ⟨g1, 0, none⟩) m1).trans d1
  have f2 := (bel2.cell (p := ⟨g2, 0, none⟩) m2).trans d2
  have f3 := (bel2.cell (p := ⟨g3, 0, none⟩) m3).trans d3
  have f4 := (bel2.cell (p := ⟨b1, o1' + x, none⟩) m4).trans ha1
  have f5 := (bel2.cell (p := ⟨b2, o2' + y, none⟩) m5).trans ha2
  have f6 := (bel2.cell (p := ⟨b3, o3' + z, none⟩) m6).trans ha3
  have t0 : w2.cell? ⟨w.heap.size, 0, none⟩ = some (.int .i64 (x : Int)) := k1.cell 0
  have t1 : w2.cell? ⟨w.heap.size, 1, none⟩ = some (.int .i64 (y : Int)) := k1.cell 1
  have t2 : w2.cell? ⟨w.heap.size, 2, none⟩ = some (.int .i64 (z : Int)) := k1.cell 2
  have r0 : w2.cell? ⟨w.heap.size + 1, 0, none⟩ = some (.int .i64 0) := k2.cell 0
  have r1 : w2.cell? ⟨w.heap.size + 1, 1, none⟩ = some (.int .i64 0) := k2.cell 1
  have r2 : w2.cell? ⟨w.heap.size + 1, 2, none⟩ = some (.int .i64 0) := k2.cell 2
  have u0 : w2.frozen? ⟨w.heap.size + 1, 0, none⟩ = false := k2.frozen 0
  have u1 : w2.frozen? ⟨w.heap.size + 1, 1, none⟩ = false := k2.frozen 1
  have u2 : w2.frozen? ⟨w.heap.size + 1, 2, none⟩ = false := k2.frozen 2
  have K2 := Lib.hid k2
  have BEL := Lib.hid bel2
  clear k1 k2 bel2 h1 h2 h3 d1 d2 d3 ha1 ha2 ha3
  go_enter Try.func117, Try.ntmps117
  go_wp2_with fail
  rw [← hw2]
  have HW2 := Lib.hid hw2
  clear hw2
  go_region
  obtain ⟨W3, hW3⟩ : ∃ W3, W3 = (((w2.setCell ⟨w.heap.size + 1, 0, none⟩ (.int .i64 (pp : Int))).setCell ⟨w.heap.size + 1, 1, none⟩ (.int .i64 (qq : Int))).setCell ⟨w.heap.size + 1, 2, none⟩ (.int .i64 (vv : Int))).drew := ⟨_, rfl⟩
  rw [← hW3]
  have K3 : Hid (W3.heap[w.heap.size + 1]? = some (.cells #[.int .i64 (pp : Int), .int .i64 (qq : Int), .int .i64 (vv : Int)] 134)) := Lib.hid (by
    rw [hW3]
    exact ((K2.out.set 0 (.int .i64 (pp : Int))).set 1 (.int .i64 (qq : Int))).set 2 (.int .i64 (vv : Int)))
  have B3 : Hid (Below w.heap.size w W3) := Lib.hid (by
    rw [hW3]
    exact (((BEL.out.setCell (p := ⟨w.heap.size + 1, 0, none⟩) (Nat.le_succ _) _).setCell (p := ⟨w.heap.size + 1, 1, none⟩) (Nat.le_succ _) _).setCell (p := ⟨w.heap.size + 1, 2, none⟩) (Nat.le_succ _) _).drew)
  clear hW3
  go_wp2_with fail
  exact bodyPost_ret (v := .agg #[.int .i64 (pp : Int), .int .i64 (qq : Int), .int .i64 (vv : Int)]) (results_cell_row rfl _ W3 (w.heap.size + 1) _ #[.int .i64 (pp : Int), .int .i64 (qq : Int), .int .i64 (vv : Int)] (0, 0) _ rfl K3.out Try.underlying134 rfl (by kernel_rfl)) rfl ⟨rfl, B3.out⟩

end Go.Proofs.Ytiokcflomchdcaa
