/-
  The masks of a table, number by number.
-/
import Derived.Test.YtiokcflomchdcabEqM
import Derived.Test.YtiokcflomchdcabQM
import Derived.Test.YtiokcflomchdcabOwn2
import Derived.Laws.Bits64
import Derived.Laws.CopyOwn
import Derived.Deep.WholeRow
namespace Go.Proofs.Ytiokcflomchdcab
open Go.RowKit

theorem wrap_bit {z : Nat} (hz : z < 64) : IntKind.u64.wrap ((2 : Int) ^ z) = ((2 ^ z : Nat) : Int) := by
  have h : (2 : Nat) ^ z < 2 ^ 64 := Nat.pow_lt_pow_of_lt (by decide) hz
  rw [IntKind.wrap_u64]
  have e : ((2 : Int) ^ z) = ((2 ^ z : Nat) : Int) := by simp
  rw [e]
  generalize (2 : Nat) ^ z = q at h ⊢
  omega
theorem xor_bit {a z : Nat} (ha : a < 18446744073709551616) (hz : z < 64) : bits .xor .u64 (a : Int) (IntKind.u64.wrap ((2 : Int) ^ z)) = ((a ^^^ 2 ^ z : Nat) : Int) := by
  have h : (2 : Nat) ^ z < 2 ^ 64 := Nat.pow_lt_pow_of_lt (by decide) hz
  rw [wrap_bit hz, bits_xor_u64_nat _ _ ha (by omega)]

set_option maxHeartbeats 2000000 in
theorem lineMark_any (g : Nat) (f h : Nat → Nat) (x y z : Nat) (w : World) (hb : w.heap[g]? = some (.cells (maskArr f h) 87)) (hx : x < 36) (hy : y < 36) (hz : z < 36) (hf : f x < 18446744073709551616) (hh : h y < 18446744073709551616) :
    Calls Try.prog 76 #[.pointer (some ⟨g, 0, none⟩), .int .i64 x, .int .i64 y, .int .i64 z] w fun e w' => e = .returned (.tuple #[]) ∧ w'.heap[g]? = some (.cells (maskArr (fun i => if i = x then f x ^^^ 2 ^ z else f i) (fun i => if i = y then h y ^^^ 2 ^ z else h i)) 87) ∧ Below g w w' := by
  have c1 : w.cell? ⟨g, x, none⟩ = some (.int .u64 (f x : Int)) := (cell_of_row w g x _ _ (0, 0) hb).trans (maskArr_row f h hx)
  have f1 : w.frozen? ⟨g, x, none⟩ = false := frozen_of_row w g x _ _ hb
  have HB := Lib.hid hb
  clear hb
  go_enter Try.func76, Try.ntmps76
  go_wp2
  go_region
  rw [xor_bit hf (by omega)]
  obtain ⟨W1, hW1⟩ : ∃ W1, W1 = (w.setCell ⟨g, x, none⟩ (.int .u64 ((f x ^^^ 2 ^ z : Nat) : Int))).drew := ⟨_, rfl⟩
  rw [← hW1]
  have hb1 : W1.heap[g]? = some (.cells (maskArr (fun i => if i = x then f x ^^^ 2 ^ z else f i) h) 87) := by
    rw [hW1]
    have e := heap_setCell_same w g x _ _ (.int .u64 ((f x ^^^ 2 ^ z : Nat) : Int)) HB.out
    rw [maskArr_setRow f h hx] at e
    exact e
  have hl1 : Below g w W1 := by
    rw [hW1]
    exact ((Below.refl g w).setCell (Nat.le_refl _) _).drew
  have c2 : W1.cell? ⟨g, 36 + y, none⟩ = some (.int .u64 (h y : Int)) := (cell_of_row W1 g (36 + y) _ _ (0, 0) hb1).trans (maskArr_col _ h hy)
  have f2 : W1.frozen? ⟨g, 36 + y, none⟩ = false := frozen_of_row W1 g (36 + y) _ _ hb1
  have HB1 := Lib.hid hb1
  have HL1 := Lib.hid hl1
  clear hb1 hl1 hW1 c1 f1
  go_wp2
  go_region
  rw [xor_bit hh (by omega)]
  go_end0
  refine ⟨rfl, ?_, (HL1.out.setCell (p := ⟨g, 36 + y, none⟩) (Nat.le_refl _) _).drew⟩
  have e := heap_setCell_same W1 g (36 + y) _ _ (.int .u64 ((h y ^^^ 2 ^ z : Nat) : Int)) HB1.out
  rw [maskArr_setCol _ h hy] at e
  exact e

theorem loadCells_row {P : Program} {W : World} {g : Nat} {c : Array Value} {T : TypeId} (h : W.heap[g]? = some (.cells c T)) (hn : c.toList.length = 72) :
    (loadCellsFrom ⟨g, 0, none⟩ 0 72 #[]).run P W = .ok c W := by
  have := run_loadCells_list (P := P) W ⟨g, 0, none⟩ c.toList (fun j v hv => by
    have hadd : (⟨g, 0, none⟩ : Addr).add j = ⟨g, j, none⟩ := by unfold Addr.add; split <;> simp_all
    rw [hadd, cell_of_row _ _ j c T (0, 0) h]
    simpa using hv)
  rw [hn] at this
  simpa [loadCells] using this
theorem storeCells_row {P : Program} {W : World} {g : Nat} {old c : Array Value} {T : TypeId} (h : W.heap[g]? = some (.cells old T)) (ho : old.size = c.size) (h1 : c.all (·.oneCell') = true) :
    (storeCells ⟨g, 0, none⟩ c.toList 0).run P W = .ok () (W.setRow g c) := by
  have := run_storeCells_from (P := P) g T c.toList 0 old W h (by simp; omega) (fun v hv => (Array.all_eq_true_iff_forall_mem.1 h1) v (by simpa using hv))
  simpa using this
theorem wrap_full {n : Nat} (hn : n < 64) : IntKind.u64.wrap (IntKind.u64.wrap ((2 : Int) ^ n) - 1) = ((2 ^ n - 1 : Nat) : Int) := by
  rw [wrap_bit hn]
  have h : (2 : Nat) ^ n < 2 ^ 64 := Nat.pow_lt_pow_of_lt (by decide) hn
  have h1 : 1 ≤ (2 : Nat) ^ n := Nat.one_le_two_pow
  rw [IntKind.wrap_u64]
  generalize (2 : Nat) ^ n = q at h h1 ⊢
  omega

def fullF (n k : Nat) (i : Nat) : Nat := if i < k then 2 ^ n - 1 else 0
theorem fullF_zero (n i : Nat) : 0 = fullF n 0 i := by unfold fullF; rw [if_neg (by omega)]
theorem fullF_step (n k i : Nat) : (if i = k then 2 ^ n - 1 else fullF n k i) = fullF n (k + 1) i := by
  unfold fullF
  by_cases h : i = k
  · rw [if_pos h, if_pos (by omega)]
  · rw [if_neg h]
    by_cases h2 : i < k
    · rw [if_pos h2, if_pos (by omega)]
    · rw [if_neg h2, if_neg (by omega)]
theorem zeroMasks : (Array.replicate 72 (Value.int .u64 0)) = maskArr (fun _ => 0) (fun _ => 0) := by
  apply Array.ext_getElem?
  intro i
  by_cases hi : i < 72
  · rw [maskArr_at _ _ hi]
    simp [hi]
  · simp [hi, maskArr]
set_option maxRecDepth 100000 in
set_option maxHeartbeats 2000000 in
theorem fullMasks_any (n : Nat) (w : World) (hn : n ≤ 36) :
    Calls Try.prog 77 #[.int .i64 n] w fun e w' => e = .returned (.agg (maskArr (fullF n n) (fullF n n))) ∧ Below w.heap.size w w' := by
  obtain ⟨hz, hi⟩ := zero_of_info (P := Try.prog) (t := 87) (v := .agg (Array.replicate 72 (Value.int .u64 0))) (n := 72) (by kernel_rfl)
  go_enter Try.func77, Try.ntmps77
  go_wp2
  go_loopw [4, 6] (fun _ i wr => ∃ k : Nat, k ≤ n ∧ i = .int .i64 k ∧ Hid (wr.heap[w.heap.size + 1]? = some (.cells (maskArr (fullF n k) (fullF n k)) 87)) ∧ Hid (wr.heap[w.heap.size]? = some (.cells (maskArr (fun _ => 0) (fun _ => 0)) 87)) ∧ Below w.heap.size w wr) (fun _ i _ => n - (intOf i).toNat)
  case atStart =>
    refine ⟨0, by omega, rfl, Lib.hid ?_, Lib.hid ?_, ((Below.refl _ _).alloc (Nat.le_refl _) _).alloc (by simp) _⟩
    · have e := heap_alloc_last (w.alloc (.cells (Array.replicate 72 (.int .u64 0)) 87)) (.cells (Array.replicate 72 (.int .u64 0)) 87)
      have e2 : (w.alloc (.cells (Array.replicate 72 (.int .u64 0)) 87)).heap.size = w.heap.size + 1 := by simp
      rw [e2] at e
      rw [e, zeroMasks, maskArr_congr (f := fun _ => 0) (g := fun _ => 0) (fun i _ => fullF_zero n i) (fun i _ => fullF_zero n i)]
    · rw [Below.heap_alloc _ _ _ (by simp), heap_alloc_last, zeroMasks]
  case round =>
    obtain ⟨k, hk, rfl, hf, hr, hb⟩ := hrel
    have HI := Lib.hid hi
    clear hz hi
    by_cases hlt : k < n
    · have f1 := frozen_of_row wr (w.heap.size + 1) k _ _ hf.out
      have f2 := frozen_of_row wr (w.heap.size + 1) (36 + k) _ _ hf.out
      have c1 := (cell_of_row wr (w.heap.size + 1) k _ _ (0, 0) hf.out).trans (maskArr_row _ _ (show k < 36 by omega))
      have c2 := (cell_of_row wr (w.heap.size + 1) (36 + k) _ _ (0, 0) hf.out).trans (maskArr_col _ _ (show k < 36 by omega))
      go_wp2
      rw [wrap_full (by omega)]
      go_roundw
      case rel =>
        refine ⟨k + 1, by omega, by go_num, Lib.hid ?_, Lib.hid ?_, (hb.setCell (show w.heap.size ≤ w.heap.size + 1 by omega) _).setCell (show w.heap.size ≤ w.heap.size + 1 by omega) _⟩
        · have e1 := heap_setCell_same wr (w.heap.size + 1) k _ _ (.int .u64 ((2 ^ n - 1 : Nat) : Int)) hf.out
          rw [maskArr_setRow _ _ (show k < 36 by omega)] at e1
          have e2 := heap_setCell_same _ (w.heap.size + 1) (36 + k) _ _ (.int .u64 ((2 ^ n - 1 : Nat) : Int)) e1
          rw [maskArr_setCol _ _ (show k < 36 by omega)] at e2
          rw [e2, maskArr_congr (fun i _ => fullF_step n k i) (fun i _ => fullF_step n k i)]
        · rw [heap_setCell_other _ _ _ _ (show w.heap.size ≠ w.heap.size + 1 by omega), heap_setCell_other _ _ _ _ (show w.heap.size ≠ w.heap.size + 1 by omega)]
          exact hr.out
      case measure => simp [intOf]; omega
    · obtain rfl : k = n := by omega
      obtain ⟨c, hc⟩ : ∃ c, c = maskArr (fullF k k) (fullF k k) := ⟨_, rfl⟩
      rw [← hc] at hf
      have HC := Lib.hid hc
      have hcs : c.toList.length = 72 := by rw [hc]; simp [maskArr]
      have hone : c.all (·.oneCell') = true := by
        rw [hc, Array.all_eq_true_iff_forall_mem]
        intro v hv
        simp only [maskArr, List.mem_toArray, List.mem_map] at hv
        obtain ⟨i, _, rfl⟩ := hv
        rfl
      have hsz : (Try.prog.info? 87).map (·.size) = some c.size := by
        rw [hc, maskArr_size]; exact HI.out
      obtain ⟨W1, hW1⟩ : ∃ W1, W1 = wr.setRow w.heap.size c := ⟨_, rfl⟩
      have HR1 : Hid (W1.heap[w.heap.size]? = some (.cells c 87)) := Lib.hid (by rw [hW1]; exact setRow_heap _ _ _ _ _ _ hr.out)
      have HB1 : Hid (Below w.heap.size w W1) := Lib.hid (by rw [hW1]; exact below_setRow hb (Nat.le_refl _) _)
      have hsz2 : (maskArr (fun _ => 0) (fun _ => 0)).size = c.size := by rw [hc, maskArr_size, maskArr_size]
      have HS2 := Lib.hid hsz2
      have HO := Lib.hid hone
      have HW1 := Lib.hid hW1
      have HSZ := Lib.hid hsz
      clear hc hW1 hone hcs hsz2 hsz
      go_wp2_with first | (refine wpList_load_row rfl 87 _ rfl (w.heap.size + 1) rfl _ c (0, 0) _ hf.out Try.underlying87 rfl HSZ.out ?_) | (refine wpList_store_row rfl 87 _ _ rfl w.heap.size c rfl rfl _ _ hr.out HSZ.out HS2.out HO.out ?_; rw [← HW1.out])
      refine bodyPost_ret (v := .agg c) (results_cell_row rfl _ W1 w.heap.size _ c (0, 0) _ rfl HR1.out Try.underlying87 rfl HSZ.out) rfl ⟨?_, HB1.out⟩
      rw [HC.out]
end Go.Proofs.Ytiokcflomchdcab
