/-
  What the errors of each kind change: the program's.
-/
import Derived.Test.YtiokcflomchdcaaSumF
import Derived.Test.YtiokcflomchdcaaSumN
import Derived.Test.YtiokcflomchdcaaRem
import Derived.RegionTactic
namespace Go.Proofs.Ytiokcflomchdcaa
open Go Go.RowKit

set_option maxRecDepth 100000 in
set_option maxHeartbeats 2000000 in
theorem single_any (a b : Int) (w : World) :
    Calls Try.prog 164 #[.agg #[.int .i64 a, .int .i64 b, .int .i64 0]] w fun e w' => e = .returned (.tuple #[.agg #[.int .i64 a, .int .i64 0, .int .i64 0], .agg #[.int .i64 b, .int .i64 0, .int .i64 0]]) ∧ Below w.heap.size w w' := by
  go_enter Try.func164, Try.ntmps164
  go_wp2_with fail
  go_region
  all_goals (go_wp2_with fail)
  all_goals (
    obtain ⟨W3, hW3⟩ : ∃ W3, W3 = (((w.alloc (.cells #[.int .i64 a, .int .i64 b, .int .i64 0] 170)).alloc (.cells #[.int .i64 a, .int .i64 0, .int .i64 0] 165)).alloc (.cells #[.int .i64 b, .int .i64 0, .int .i64 0] 165)).drew := ⟨_, rfl⟩
    rw [← hW3]
    have k1 : Blk W3 (w.heap.size + 1) #[.int .i64 a, .int .i64 0, .int .i64 0] 165 := by rw [hW3]; exact (by simpa using Blk.new (w.alloc (.cells #[.int .i64 a, .int .i64 b, .int .i64 0] 170)) #[.int .i64 a, .int .i64 0, .int .i64 0] 165 : Blk ((w.alloc (.cells #[.int .i64 a, .int .i64 b, .int .i64 0] 170)).alloc (.cells #[.int .i64 a, .int .i64 0, .int .i64 0] 165)) (w.heap.size + 1) #[.int .i64 a, .int .i64 0, .int .i64 0] 165).alloc _
    have k2 : Blk W3 (w.heap.size + 1 + 1) #[.int .i64 b, .int .i64 0, .int .i64 0] 165 := by rw [hW3]; exact (by simpa using Blk.new ((w.alloc (.cells #[.int .i64 a, .int .i64 b, .int .i64 0] 170)).alloc (.cells #[.int .i64 a, .int .i64 0, .int .i64 0] 165)) #[.int .i64 b, .int .i64 0, .int .i64 0] 165 : Blk (((w.alloc (.cells #[.int .i64 a, .int .i64 b, .int .i64 0] 170)).alloc (.cells #[.int .i64 a, .int .i64 0, .int .i64 0] 165)).alloc (.cells #[.int .i64 b, .int .i64 0, .int .i64 0] 165)) (w.heap.size + 1 + 1) #[.int .i64 b, .int .i64 0, .int .i64 0] 165)
    have bl : Below w.heap.size w W3 := by rw [hW3]; exact ((((Below.refl _ w).alloc (Nat.le_refl _) _).alloc (by simp) _).alloc (by simp; omega) _).drew
    clear hW3
    have p0 := k1.cell 0
    have q0 := k2.cell 0
    have p1 := k1.cell 1
    have q1 := k2.cell 1
    have p2 := k1.cell 2
    have q2 := k2.cell 2
    exact bodyPost_ret (v := .tuple #[.agg #[.int .i64 a, .int .i64 0, .int .i64 0], .agg #[.int .i64 b, .int .i64 0, .int .i64 0]]) (by simp [results, Try.results164, go_sem, p0, p1, p2, q0, q1, q2]) rfl ⟨rfl, bl⟩)
set_option maxRecDepth 100000 in
set_option maxHeartbeats 2000000 in
theorem swap_any (a b : Int) (w : World) :
    Calls Try.prog 165 #[.agg #[.int .i64 a, .int .i64 b, .int .i64 0]] w fun e w' => e = .returned (.tuple #[.agg #[.int .i64 a, .int .i64 b, .int .i64 0], .agg #[.int .i64 b, .int .i64 a, .int .i64 0]]) ∧ Below w.heap.size w w' := by
  go_enter Try.func165, Try.ntmps165
  go_wp2_with fail
  go_region
  all_goals (go_wp2_with fail)
  all_goals (
    obtain ⟨W3, hW3⟩ : ∃ W3, W3 = (((w.alloc (.cells #[.int .i64 a, .int .i64 b, .int .i64 0] 170)).alloc (.cells #[.int .i64 a, .int .i64 b, .int .i64 0] 165)).alloc (.cells #[.int .i64 b, .int .i64 a, .int .i64 0] 165)).drew := ⟨_, rfl⟩
    rw [← hW3]
    have k1 : Blk W3 (w.heap.size + 1) #[.int .i64 a, .int .i64 b, .int .i64 0] 165 := by rw [hW3]; exact (by simpa using Blk.new (w.alloc (.cells #[.int .i64 a, .int .i64 b, .int .i64 0] 170)) #[.int .i64 a, .int .i64 b, .int .i64 0] 165 : Blk ((w.alloc (.cells #[.int .i64 a, .int .i64 b, .int .i64 0] 170)).alloc (.cells #[.int .i64 a, .int .i64 b, .int .i64 0] 165)) (w.heap.size + 1) #[.int .i64 a, .int .i64 b, .int .i64 0] 165).alloc _
    have k2 : Blk W3 (w.heap.size + 1 + 1) #[.int .i64 b, .int .i64 a, .int .i64 0] 165 := by rw [hW3]; exact (by simpa using Blk.new ((w.alloc (.cells #[.int .i64 a, .int .i64 b, .int .i64 0] 170)).alloc (.cells #[.int .i64 a, .int .i64 b, .int .i64 0] 165)) #[.int .i64 b, .int .i64 a, .int .i64 0] 165 : Blk (((w.alloc (.cells #[.int .i64 a, .int .i64 b, .int .i64 0] 170)).alloc (.cells #[.int .i64 a, .int .i64 b, .int .i64 0] 165)).alloc (.cells #[.int .i64 b, .int .i64 a, .int .i64 0] 165)) (w.heap.size + 1 + 1) #[.int .i64 b, .int .i64 a, .int .i64 0] 165)
    have bl : Below w.heap.size w W3 := by rw [hW3]; exact ((((Below.refl _ w).alloc (Nat.le_refl _) _).alloc (by simp) _).alloc (by simp; omega) _).drew
    clear hW3
    have p0 := k1.cell 0
    have q0 := k2.cell 0
    have p1 := k1.cell 1
    have q1 := k2.cell 1
    have p2 := k1.cell 2
    have q2 := k2.cell 2
    exact bodyPost_ret (v := .tuple #[.agg #[.int .i64 a, .int .i64 b, .int .i64 0], .agg #[.int .i64 b, .int .i64 a, .int .i64 0]]) (by simp [results, Try.results165, go_sem, p0, p1, p2, q0, q1, q2]) rfl ⟨rfl, bl⟩)
set_option maxRecDepth 100000 in
set_option maxHeartbeats 2000000 in
theorem jump_any (a b : Int) (w : World) :
    Calls Try.prog 166 #[.agg #[.int .i64 a, .int .i64 b, .int .i64 0]] w fun e w' => e = .returned (.tuple #[.agg #[.int .i64 a, .int .i64 0, .int .i64 b], .agg #[.int .i64 b, .int .i64 0, .int .i64 a]]) ∧ Below w.heap.size w w' := by
  go_enter Try.func166, Try.ntmps166
  go_wp2_with fail
  go_region
  all_goals (go_wp2_with fail)
  all_goals (
    obtain ⟨W3, hW3⟩ : ∃ W3, W3 = (((w.alloc (.cells #[.int .i64 a, .int .i64 b, .int .i64 0] 170)).alloc (.cells #[.int .i64 a, .int .i64 0, .int .i64 b] 165)).alloc (.cells #[.int .i64 b, .int .i64 0, .int .i64 a] 165)).drew := ⟨_, rfl⟩
    rw [← hW3]
    have k1 : Blk W3 (w.heap.size + 1) #[.int .i64 a, .int .i64 0, .int .i64 b] 165 := by rw [hW3]; exact (by simpa using Blk.new (w.alloc (.cells #[.int .i64 a, .int .i64 b, .int .i64 0] 170)) #[.int .i64 a, .int .i64 0, .int .i64 b] 165 : Blk ((w.alloc (.cells #[.int .i64 a, .int .i64 b, .int .i64 0] 170)).alloc (.cells #[.int .i64 a, .int .i64 0, .int .i64 b] 165)) (w.heap.size + 1) #[.int .i64 a, .int .i64 0, .int .i64 b] 165).alloc _
    have k2 : Blk W3 (w.heap.size + 1 + 1) #[.int .i64 b, .int .i64 0, .int .i64 a] 165 := by rw [hW3]; exact (by simpa using Blk.new ((w.alloc (.cells #[.int .i64 a, .int .i64 b, .int .i64 0] 170)).alloc (.cells #[.int .i64 a, .int .i64 0, .int .i64 b] 165)) #[.int .i64 b, .int .i64 0, .int .i64 a] 165 : Blk (((w.alloc (.cells #[.int .i64 a, .int .i64 b, .int .i64 0] 170)).alloc (.cells #[.int .i64 a, .int .i64 0, .int .i64 b] 165)).alloc (.cells #[.int .i64 b, .int .i64 0, .int .i64 a] 165)) (w.heap.size + 1 + 1) #[.int .i64 b, .int .i64 0, .int .i64 a] 165)
    have bl : Below w.heap.size w W3 := by rw [hW3]; exact ((((Below.refl _ w).alloc (Nat.le_refl _) _).alloc (by simp) _).alloc (by simp; omega) _).drew
    clear hW3
    have p0 := k1.cell 0
    have q0 := k2.cell 0
    have p1 := k1.cell 1
    have q1 := k2.cell 1
    have p2 := k1.cell 2
    have q2 := k2.cell 2
    exact bodyPost_ret (v := .tuple #[.agg #[.int .i64 a, .int .i64 0, .int .i64 b], .agg #[.int .i64 b, .int .i64 0, .int .i64 a]]) (by simp [results, Try.results166, go_sem, p0, p1, p2, q0, q1, q2]) rfl ⟨rfl, bl⟩)
set_option maxRecDepth 100000 in
set_option maxHeartbeats 2000000 in
theorem twin_any (a b : Int) (w : World) :
    Calls Try.prog 167 #[.agg #[.int .i64 a, .int .i64 b, .int .i64 0]] w fun e w' => e = .returned (.tuple #[.agg #[.int .i64 a, .int .i64 a, .int .i64 0], .agg #[.int .i64 b, .int .i64 b, .int .i64 0]]) ∧ Below w.heap.size w w' := by
  go_enter Try.func167, Try.ntmps167
  go_wp2_with fail
  go_region
  all_goals (go_wp2_with fail)
  all_goals (
    obtain ⟨W3, hW3⟩ : ∃ W3, W3 = (((w.alloc (.cells #[.int .i64 a, .int .i64 b, .int .i64 0] 170)).alloc (.cells #[.int .i64 a, .int .i64 a, .int .i64 0] 165)).alloc (.cells #[.int .i64 b, .int .i64 b, .int .i64 0] 165)).drew := ⟨_, rfl⟩
    rw [← hW3]
    have k1 : Blk W3 (w.heap.size + 1) #[.int .i64 a, .int .i64 a, .int .i64 0] 165 := by rw [hW3]; exact (by simpa using Blk.new (w.alloc (.cells #[.int .i64 a, .int .i64 b, .int .i64 0] 170)) #[.int .i64 a, .int .i64 a, .int .i64 0] 165 : Blk ((w.alloc (.cells #[.int .i64 a, .int .i64 b, .int .i64 0] 170)).alloc (.cells #[.int .i64 a, .int .i64 a, .int .i64 0] 165)) (w.heap.size + 1) #[.int .i64 a, .int .i64 a, .int .i64 0] 165).alloc _
    have k2 : Blk W3 (w.heap.size + 1 + 1) #[.int .i64 b, .int .i64 b, .int .i64 0] 165 := by rw [hW3]; exact (by simpa using Blk.new ((w.alloc (.cells #[.int .i64 a, .int .i64 b, .int .i64 0] 170)).alloc (.cells #[.int .i64 a, .int .i64 a, .int .i64 0] 165)) #[.int .i64 b, .int .i64 b, .int .i64 0] 165 : Blk (((w.alloc (.cells #[.int .i64 a, .int .i64 b, .int .i64 0] 170)).alloc (.cells #[.int .i64 a, .int .i64 a, .int .i64 0] 165)).alloc (.cells #[.int .i64 b, .int .i64 b, .int .i64 0] 165)) (w.heap.size + 1 + 1) #[.int .i64 b, .int .i64 b, .int .i64 0] 165)
    have bl : Below w.heap.size w W3 := by rw [hW3]; exact ((((Below.refl _ w).alloc (Nat.le_refl _) _).alloc (by simp) _).alloc (by simp; omega) _).drew
    clear hW3
    have p0 := k1.cell 0
    have q0 := k2.cell 0
    have p1 := k1.cell 1
    have q1 := k2.cell 1
    have p2 := k1.cell 2
    have q2 := k2.cell 2
    exact bodyPost_ret (v := .tuple #[.agg #[.int .i64 a, .int .i64 a, .int .i64 0], .agg #[.int .i64 b, .int .i64 b, .int .i64 0]]) (by simp [results, Try.results167, go_sem, p0, p1, p2, q0, q1, q2]) rfl ⟨rfl, bl⟩)
set_option maxRecDepth 100000 in
set_option maxHeartbeats 2000000 in
theorem jumpTwin_any (a b : Int) (w : World) :
    Calls Try.prog 168 #[.agg #[.int .i64 a, .int .i64 b, .int .i64 0]] w fun e w' => e = .returned (.tuple #[.agg #[.int .i64 a, .int .i64 0, .int .i64 a], .agg #[.int .i64 b, .int .i64 0, .int .i64 b]]) ∧ Below w.heap.size w w' := by
  go_enter Try.func168, Try.ntmps168
  go_wp2_with fail
  go_region
  all_goals (go_wp2_with fail)
  all_goals (
    obtain ⟨W3, hW3⟩ : ∃ W3, W3 = (((w.alloc (.cells #[.int .i64 a, .int .i64 b, .int .i64 0] 170)).alloc (.cells #[.int .i64 a, .int .i64 0, .int .i64 a] 165)).alloc (.cells #[.int .i64 b, .int .i64 0, .int .i64 b] 165)).drew := ⟨_, rfl⟩
    rw [← hW3]
    have k1 : Blk W3 (w.heap.size + 1) #[.int .i64 a, .int .i64 0, .int .i64 a] 165 := by rw [hW3]; exact (by simpa using Blk.new (w.alloc (.cells #[.int .i64 a, .int .i64 b, .int .i64 0] 170)) #[.int .i64 a, .int .i64 0, .int .i64 a] 165 : Blk ((w.alloc (.cells #[.int .i64 a, .int .i64 b, .int .i64 0] 170)).alloc (.cells #[.int .i64 a, .int .i64 0, .int .i64 a] 165)) (w.heap.size + 1) #[.int .i64 a, .int .i64 0, .int .i64 a] 165).alloc _
    have k2 : Blk W3 (w.heap.size + 1 + 1) #[.int .i64 b, .int .i64 0, .int .i64 b] 165 := by rw [hW3]; exact (by simpa using Blk.new ((w.alloc (.cells #[.int .i64 a, .int .i64 b, .int .i64 0] 170)).alloc (.cells #[.int .i64 a, .int .i64 0, .int .i64 a] 165)) #[.int .i64 b, .int .i64 0, .int .i64 b] 165 : Blk (((w.alloc (.cells #[.int .i64 a, .int .i64 b, .int .i64 0] 170)).alloc (.cells #[.int .i64 a, .int .i64 0, .int .i64 a] 165)).alloc (.cells #[.int .i64 b, .int .i64 0, .int .i64 b] 165)) (w.heap.size + 1 + 1) #[.int .i64 b, .int .i64 0, .int .i64 b] 165)
    have bl : Below w.heap.size w W3 := by rw [hW3]; exact ((((Below.refl _ w).alloc (Nat.le_refl _) _).alloc (by simp) _).alloc (by simp; omega) _).drew
    clear hW3
    have p0 := k1.cell 0
    have q0 := k2.cell 0
    have p1 := k1.cell 1
    have q1 := k2.cell 1
    have p2 := k1.cell 2
    have q2 := k2.cell 2
    exact bodyPost_ret (v := .tuple #[.agg #[.int .i64 a, .int .i64 0, .int .i64 a], .agg #[.int .i64 b, .int .i64 0, .int .i64 b]]) (by simp [results, Try.results168, go_sem, p0, p1, p2, q0, q1, q2]) rfl ⟨rfl, bl⟩)
set_option maxRecDepth 100000 in
set_option maxHeartbeats 2000000 in
theorem phonetic0_any (a b : Int) (w : World) (hb : b = 0) :
    Calls Try.prog 169 #[.agg #[.int .i64 a, .int .i64 b, .int .i64 0]] w fun e w' => e = .returned (.tuple #[.agg #[.int .i64 a, .int .i64 0, .int .i64 0], .agg #[.int .i64 1, .int .i64 a, .int .i64 0]]) ∧ Below w.heap.size w w' := by
  subst hb
  go_enter Try.func169, Try.ntmps169
  go_wp2_with fail
  go_region
  all_goals (go_wp2_with fail)
  all_goals (
    obtain ⟨W3, hW3⟩ : ∃ W3, W3 = (((w.alloc (.cells #[.int .i64 a, .int .i64 0, .int .i64 0] 170)).alloc (.cells #[.int .i64 a, .int .i64 0, .int .i64 0] 165)).alloc (.cells #[.int .i64 1, .int .i64 a, .int .i64 0] 165)).drew := ⟨_, rfl⟩
    rw [← hW3]
    have k1 : Blk W3 (w.heap.size + 1) #[.int .i64 a, .int .i64 0, .int .i64 0] 165 := by rw [hW3]; exact (by simpa using Blk.new (w.alloc (.cells #[.int .i64 a, .int .i64 0, .int .i64 0] 170)) #[.int .i64 a, .int .i64 0, .int .i64 0] 165 : Blk ((w.alloc (.cells #[.int .i64 a, .int .i64 0, .int .i64 0] 170)).alloc (.cells #[.int .i64 a, .int .i64 0, .int .i64 0] 165)) (w.heap.size + 1) #[.int .i64 a, .int .i64 0, .int .i64 0] 165).alloc _
    have k2 : Blk W3 (w.heap.size + 1 + 1) #[.int .i64 1, .int .i64 a, .int .i64 0] 165 := by rw [hW3]; exact (by simpa using Blk.new ((w.alloc (.cells #[.int .i64 a, .int .i64 0, .int .i64 0] 170)).alloc (.cells #[.int .i64 a, .int .i64 0, .int .i64 0] 165)) #[.int .i64 1, .int .i64 a, .int .i64 0] 165 : Blk (((w.alloc (.cells #[.int .i64 a, .int .i64 0, .int .i64 0] 170)).alloc (.cells #[.int .i64 a, .int .i64 0, .int .i64 0] 165)).alloc (.cells #[.int .i64 1, .int .i64 a, .int .i64 0] 165)) (w.heap.size + 1 + 1) #[.int .i64 1, .int .i64 a, .int .i64 0] 165)
    have bl : Below w.heap.size w W3 := by rw [hW3]; exact ((((Below.refl _ w).alloc (Nat.le_refl _) _).alloc (by simp) _).alloc (by simp; omega) _).drew
    clear hW3
    have p0 := k1.cell 0
    have q0 := k2.cell 0
    have p1 := k1.cell 1
    have q1 := k2.cell 1
    have p2 := k1.cell 2
    have q2 := k2.cell 2
    exact bodyPost_ret (v := .tuple #[.agg #[.int .i64 a, .int .i64 0, .int .i64 0], .agg #[.int .i64 1, .int .i64 a, .int .i64 0]]) (by simp [results, Try.results169, go_sem, p0, p1, p2, q0, q1, q2]) rfl ⟨rfl, bl⟩)
set_option maxRecDepth 100000 in
set_option maxHeartbeats 2000000 in
theorem phonetic1_any (a b : Int) (w : World) (hb : ¬ b = 0) :
    Calls Try.prog 169 #[.agg #[.int .i64 a, .int .i64 b, .int .i64 0]] w fun e w' => e = .returned (.tuple #[.agg #[.int .i64 a, .int .i64 b, .int .i64 0], .agg #[.int .i64 b, .int .i64 0, .int .i64 0]]) ∧ Below w.heap.size w w' := by
  have hbb : (b == 0) = false := by simp [hb]
  go_enter Try.func169, Try.ntmps169
  go_wp2_with fail
  go_region
  all_goals (go_wp2_with fail)
  all_goals (
    obtain ⟨W3, hW3⟩ : ∃ W3, W3 = (((w.alloc (.cells #[.int .i64 a, .int .i64 b, .int .i64 0] 170)).alloc (.cells #[.int .i64 a, .int .i64 b, .int .i64 0] 165)).alloc (.cells #[.int .i64 b, .int .i64 0, .int .i64 0] 165)).drew := ⟨_, rfl⟩
    rw [← hW3]
    have k1 : Blk W3 (w.heap.size + 1) #[.int .i64 a, .int .i64 b, .int .i64 0] 165 := by rw [hW3]; exact (by simpa using Blk.new (w.alloc (.cells #[.int .i64 a, .int .i64 b, .int .i64 0] 170)) #[.int .i64 a, .int .i64 b, .int .i64 0] 165 : Blk ((w.alloc (.cells #[.int .i64 a, .int .i64 b, .int .i64 0] 170)).alloc (.cells #[.int .i64 a, .int .i64 b, .int .i64 0] 165)) (w.heap.size + 1) #[.int .i64 a, .int .i64 b, .int .i64 0] 165).alloc _
    have k2 : Blk W3 (w.heap.size + 1 + 1) #[.int .i64 b, .int .i64 0, .int .i64 0] 165 := by rw [hW3]; exact (by simpa using Blk.new ((w.alloc (.cells #[.int .i64 a, .int .i64 b, .int .i64 0] 170)).alloc (.cells #[.int .i64 a, .int .i64 b, .int .i64 0] 165)) #[.int .i64 b, .int .i64 0, .int .i64 0] 165 : Blk (((w.alloc (.cells #[.int .i64 a, .int .i64 b, .int .i64 0] 170)).alloc (.cells #[.int .i64 a, .int .i64 b, .int .i64 0] 165)).alloc (.cells #[.int .i64 b, .int .i64 0, .int .i64 0] 165)) (w.heap.size + 1 + 1) #[.int .i64 b, .int .i64 0, .int .i64 0] 165)
    have bl : Below w.heap.size w W3 := by rw [hW3]; exact ((((Below.refl _ w).alloc (Nat.le_refl _) _).alloc (by simp) _).alloc (by simp; omega) _).drew
    clear hW3
    have p0 := k1.cell 0
    have q0 := k2.cell 0
    have p1 := k1.cell 1
    have q1 := k2.cell 1
    have p2 := k1.cell 2
    have q2 := k2.cell 2
    exact bodyPost_ret (v := .tuple #[.agg #[.int .i64 a, .int .i64 b, .int .i64 0], .agg #[.int .i64 b, .int .i64 0, .int .i64 0]]) (by simp [results, Try.results169, go_sem, p0, p1, p2, q0, q1, q2]) rfl ⟨rfl, bl⟩)
end Go.Proofs.Ytiokcflomchdcaa
