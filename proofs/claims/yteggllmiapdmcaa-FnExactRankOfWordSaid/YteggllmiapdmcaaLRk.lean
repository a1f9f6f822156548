/-
  The law on RankOfWord, walked.
-/
import Derived.Test.YteggllmiapdmcaaRkS
import Derived.Test.YteggllmiapdmcaaRkI
import Derived.Test.YteggllmiapdmcaaChEq
import Derived.Deep.RegionWith
namespace Go.Proofs.Yteggllmiapdmcaa
open Go.RowKit

set_option maxRecDepth 1000000 in
set_option maxHeartbeats 8000000 in
theorem rank_walk {B : Nat} (c : Ch) (AT AP : Option Addr) (nT cT nP cP : Nat) (t : ByteArray) (w : World) (hr : ChRows B w c AT nT AP nP) (hB : B ≤ w.heap.size) (ht : t.size ≤ maxLen) :
    Calls Try.prog 7 #[chV c AT nT cT AP nP cP, .string t] w fun e w' => e = .returned (.bool true) ∧ Below w.heap.size w w' := by
  have tle_t : t.size ≤ 9223372036854775807 := by unfold maxLen at *; omega
  by_cases big_t : 1048576 < t.size
  · go_enter Try.func7, Try.ntmps7
    go_wp2
    go_ret
    exact ⟨rfl, (Below.refl _ w).alloc (Nat.le_refl _) _⟩
  obtain ⟨w1, hw1⟩ : ∃ w1, w1 = w.alloc (.cells (chCells c AT nT cT AP nP cP) 45) := ⟨_, rfl⟩
  have bel1 : Below w.heap.size w w1 := by rw [hw1]; exact (Below.refl _ w).alloc (Nat.le_refl _) _
  have b1 : Blk w1 w.heap.size (chCells c AT nT cT AP nP cP) 45 := by rw [hw1]; exact Blk.new _ _ _
  have s1 : w.heap.size < w1.heap.size := b1.lt
  have CS := szChain_any c AT AP nT cT nP cP 1048576 w1 (hr.below (bel1.mono hB)) (by omega) (by omega) (by omega)
  have q0 := b1.cell 0
  have q1 := b1.cell 1
  have q2 := b1.cell 2
  have q3 := b1.cell 3
  have q4 := b1.cell 4
  have q5 := b1.cell 5
  have BEL1 := Lib.hid bel1
  have BLK1 := Lib.hid b1
  clear bel1 b1
  have HS1 := Lib.hid s1
  clear s1
  go_enter Try.func7, Try.ntmps7
  go_wp2_with fail
  rw [show w.alloc (.cells #[.int .i64 c.base, .int .i64 c.states, .int .i64 c.start, .int .i64 c.stop, .slice AT nT cT, .slice AP nP cP] 45) = w1 from hw1.symm]
  have HW1 := Lib.hid hw1
  clear hw1
  (go_at_call 35; (with_reducible refine (CS).mono ?_); rintro e w2 ⟨rfl, be2⟩)
  clear CS q0 q1 q2 q3 q4 q5
  have s2 : w.heap.size < w2.heap.size := Nat.lt_of_lt_of_le HS1.out be2.size
  have bel2 : Below w.heap.size w w2 := BEL1.out.trans (be2.mono (Nat.le_of_lt HS1.out))
  have b2 : Blk w2 w.heap.size (chCells c AT nT cT AP nP cP) 45 := BLK1.out.below be2 HS1.out
  have q0 := b2.cell 0
  have q1 := b2.cell 1
  have q2 := b2.cell 2
  have q3 := b2.cell 3
  have q4 := b2.cell 4
  have q5 := b2.cell 5
  have BEL2 := Lib.hid bel2
  have BLK2 := Lib.hid b2
  have HS2 := Lib.hid s2
  clear bel2 b2 be2 s2 BEL1 BLK1
  by_cases hbig : (1048576 : Int) < (totC c : Nat)
  · have e1 := szF_big hbig
    rw [e1]
    go_wp2_with fail
    go_ret
    exact ⟨rfl, BEL2.out⟩
  have e1 := szF_ok hbig
  have hle0 : totC c ≤ 1048576 := by omega
  have hsz : 0 ≤ szF 1048576 (totC c) := by rw [e1]; omega
  generalize szF 1048576 (totC c) = LEFT at hsz ⊢
  have CT2 := toChain_any c AT AP nT cT nP cP w2 (hr.below (BEL2.out.mono hB)) (Nat.le_trans hB BEL2.out.size) hle0
  have HLE := Lib.hid hle0
  clear e1 hbig hle0
  go_wp2_with fail
  (go_at_call 37; (with_reducible refine (CT2).mono ?_); rintro e w3 ⟨A1, c1, P1, p1, M1, LL1, S1, rfl, ho1, hp1, _, _, be3⟩)
  clear CT2 q0 q1 q2 q3 q4 q5
  have r1 := made_rows ho1 hp1
  have bel3 : Below w.heap.size w w3 := BEL2.out.trans (be3.mono (Nat.le_of_lt HS2.out))
  have b3 : Blk w3 w.heap.size (chCells c AT nT cT AP nP cP) 45 := BLK2.out.below be3 HS2.out
  have s3 : w.heap.size < w3.heap.size := Nat.lt_of_lt_of_le HS2.out be3.size
  have CSP := specRank_any c A1 P1 _ c1 _ p1 t w3 r1 (Nat.le_refl _) ht
  have BEL3 := Lib.hid bel3
  have BLK3 := Lib.hid b3
  have HS3 := Lib.hid s3
  clear bel3 b3 s3 be3 r1 ho1 hp1 BEL2 BLK2 HS2
  go_wp2_with fail
  (go_at_call 40; (with_reducible refine (CSP).mono ?_); rintro e w4 ⟨rfl, be4⟩)
  clear CSP
  have bel4 : Below w.heap.size w w4 := BEL3.out.trans (be4.mono (Nat.le_of_lt HS3.out))
  have b4 : Blk w4 w.heap.size (chCells c AT nT cT AP nP cP) 45 := BLK3.out.below be4 HS3.out
  have s4 : w.heap.size < w4.heap.size := Nat.lt_of_lt_of_le HS3.out be4.size
  have q0 := b4.cell 0
  have q1 := b4.cell 1
  have q2 := b4.cell 2
  have q3 := b4.cell 3
  have q4 := b4.cell 4
  have q5 := b4.cell 5
  have BEL4 := Lib.hid bel4
  have BLK4 := Lib.hid b4
  have HS4 := Lib.hid s4
  clear bel4 b4 s4 be4 BEL3 BLK3 HS3
  have CT4 := toChain_any c AT AP nT cT nP cP w4 (hr.below (BEL4.out.mono hB)) (Nat.le_trans hB BEL4.out.size) HLE.out
  go_wp2_with fail
  (go_at_call 37; (with_reducible refine (CT4).mono ?_); rintro e w5 ⟨A2, c2, P2, p2, M2, LL2, S2, rfl, ho2, hp2, _, _, be5⟩)
  clear CT4 q0 q1 q2 q3 q4 q5
  have r2 := made_rows ho2 hp2
  have bel5 : Below w.heap.size w w5 := BEL4.out.trans (be5.mono (Nat.le_of_lt HS4.out))
  have b5 : Blk w5 w.heap.size (chCells c AT nT cT AP nP cP) 45 := BLK4.out.below be5 HS4.out
  have s5 : w.heap.size < w5.heap.size := Nat.lt_of_lt_of_le HS4.out be5.size
  have R2 := Lib.hid r2
  have BEL5 := Lib.hid bel5
  have BLK5 := Lib.hid b5
  have HS5 := Lib.hid s5
  clear bel5 b5 s5 be5 r2 ho2 hp2 BEL4 BLK4 HS4
  obtain ⟨w6, hw6⟩ : ∃ w6, w6 = w5.alloc (.cells (chCells c A2 c.T.length c2 P2 c.P.length p2) 48) := ⟨_, rfl⟩
  have be6 : Below w5.heap.size w5 w6 := by rw [hw6]; exact (Below.refl _ w5).alloc (Nat.le_refl _) _
  have bel6 : Below w.heap.size w w6 := BEL5.out.trans (be6.mono (Nat.le_of_lt HS5.out))
  have b6 : Blk w6 w.heap.size (chCells c AT nT cT AP nP cP) 45 := BLK5.out.below be6 HS5.out
  have x6 : Blk w6 w5.heap.size (chCells c A2 c.T.length c2 P2 c.P.length p2) 48 := by rw [hw6]; exact Blk.new _ _ _
  have s6 : w.heap.size < w6.heap.size := Nat.lt_of_lt_of_le HS5.out be6.size
  have t6 : w5.heap.size < w6.heap.size := x6.lt
  have r6 : ChRows w5.heap.size w6 c A2 c.T.length P2 c.P.length := R2.out.below be6
  have CI := implRank_any c A2 P2 _ c2 _ p2 t w6 r6 be6.size ht
  have BEL6 := Lib.hid bel6
  have BLK6 := Lib.hid b6
  have X6 := Lib.hid x6
  have R6 := Lib.hid r6
  have HS6 := Lib.hid s6
  have HT6 := Lib.hid t6
  clear bel6 b6 s6 be6 r6 t6 x6 R2 BEL5 BLK5
  go_wp2_with fail
  rw [show w5.alloc (.cells #[.int .i64 c.base, .int .i64 c.states, .int .i64 c.start, .int .i64 c.stop, .slice A2 c.T.length c2, .slice P2 c.P.length p2] 48) = w6 from hw6.symm]
  have HW6 := Lib.hid hw6
  clear hw6
  (go_at_call 41; (with_reducible refine (CI).mono ?_); rintro e w7 ⟨rfl, be7⟩)
  clear CI
  have bel7 : Below w.heap.size w w7 := BEL6.out.trans (be7.mono (Nat.le_of_lt HS6.out))
  have b7 : Blk w7 w.heap.size (chCells c AT nT cT AP nP cP) 45 := BLK6.out.below be7 HS6.out
  have x7 : Blk w7 w5.heap.size (chCells c A2 c.T.length c2 P2 c.P.length p2) 48 := X6.out.below be7 HT6.out
  have r7 : ChRows w5.heap.size w7 c A2 c.T.length P2 c.P.length := R6.out.below (be7.mono (Nat.le_of_lt HT6.out))
  have s7 : w.heap.size < w7.heap.size := Nat.lt_of_lt_of_le HS6.out be7.size
  have t7 : w5.heap.size < w7.heap.size := Nat.lt_of_lt_of_le HT6.out be7.size
  have q0 := b7.cell 0
  have q1 := b7.cell 1
  have q2 := b7.cell 2
  have q3 := b7.cell 3
  have q4 := b7.cell 4
  have q5 := b7.cell 5
  have y0 := x7.cell 0
  have y1 := x7.cell 1
  have y2 := x7.cell 2
  have y3 := x7.cell 3
  have y4 := x7.cell 4
  have y5 := x7.cell 5
  have CT7 : ∀ m, Calls Try.prog 37 #[chV c AT nT cT AP nP cP] (w7.drewN m) (MadeC (w7.drewN m).heap.size c (w7.drewN m)) := fun m => toChain_any c AT AP nT cT nP cP (w7.drewN m) ((hr.below (bel7.mono hB)).drewN m) (Nat.le_trans hB bel7.size) HLE.out
  have BEL7 := Lib.hid bel7
  have X7 := Lib.hid x7
  have R7 := Lib.hid r7
  have HS7 := Lib.hid s7
  have HT7 := Lib.hid t7
  clear bel7 b7 s7 be7 r7 t7 x7 BEL6 BLK6 R6 X6
  go_wp2_with fail
  go_region_with (first
    | (go_at_call 37
       refine (CT7 1).mono ?_
       rintro e w8 ⟨A3, c3, P3, p3, M3, LL3, S3, rfl, ho3, hp3, _, _, be8⟩
       have x8 := (X7.out.drewN 1).below be8 HT7.out
       have y0' := x8.cell 0
       have y1' := x8.cell 1
       have y2' := x8.cell 2
       have y3' := x8.cell 3
       have y4' := x8.cell 4
       have y5' := x8.cell 5
       have R8 := Lib.hid ((R7.out.drewN 1).below (be8.mono (Nat.le_of_lt HT7.out)))
       have N8 := Lib.hid (made_rows ho3 hp3)
       have BE8 := Lib.hid be8
       clear x8 be8 ho3 hp3)
    | (go_at_call 39
       refine (eqChain_any c _ _ _ _ _ _ _ _ _ _ _ R8.out N8.out (Nat.le_trans (Nat.le_of_lt HT7.out) BE8.out.size) (Nat.le_refl _)).mono ?_
       rintro e w9 ⟨rfl, be9⟩
       have BE9 := Lib.hid be9
       clear be9))
  all_goals (go_wp2_with fail; go_ret; exact ⟨rfl, BEL7.out.trans ((below_drewN (Below.refl _ _) 1).trans ((BE8.out.mono (Nat.le_of_lt HS7.out)).trans (BE9.out.mono (Nat.le_trans (Nat.le_of_lt HS7.out) BE8.out.size))))⟩)
end Go.Proofs.Yteggllmiapdmcaa
