/-
  The iterator over the places from the last one to the first.
-/
import Derived.RangeFuncNested
import Derived.RangeFuncBound
import Derived.RangeFuncCalls
import Derived.RangeFuncLeaves
import Derived.Shelf.Abstract
import Derived.Shelf.RegionOpen
import Derived.WalkKit
import Derived.OwnWalkIn
import Derived.TacticsInMore
import Derived.LoopNIn
import Derived.LoopIn
import Derived.Test.YteggllmiapdmcaaRun
namespace Go.Proofs.Yteggllmiapdmcaa
open Go.RowKit Go.Shelf
attribute [local go_sem] Oper.semAt_some

set_option maxHeartbeats 1000000 in
theorem lengthX_any (c : Ch) (AT AP : Option Addr) (nT cT nP cP : Nat) (w : World) :
    Calls Try.prog 89 #[chV c AT nT cT AP nP cP] w fun e w' => e = .returned (.int .i64 nP) ∧ w' = w.alloc (.cells (chCells c AT nT cT AP nP cP) 48) := by
  go_enter Try.func89, Try.ntmps89
  go_wp2_with fail
  go_ret
  exact ⟨rfl, rfl⟩

/-- The places that have come when k rounds are over. -/
def backs (n k : Nat) : List (Fin n) := ((List.finRange n).reverse).take k
theorem backs_len {n k : Nat} (h : k ≤ n) : (backs n k).length = k := by simp [backs]; omega
theorem backs_succ {n k : Nat} (h : k < n) : backs n (k + 1) = backs n k ++ [⟨n - 1 - k, by omega⟩] := by
  unfold backs
  rw [List.take_add_one]
  congr 1
  rw [List.getElem?_eq_getElem (by simp; omega)]
  simp [List.getElem_reverse]

set_option maxRecDepth 100000 in
set_option maxHeartbeats 4000000 in
theorem back1_in (n : Nat) (hn : 2 ≤ n) (c : Ch) (AT AP : Option Addr) (nT cT nP cP : Nat) (l Bs n₀ : Nat) (hBn : Bs < n₀) (hP : nP ≤ 20) (J Jx : List (Fin nP) → World → Prop) (W : World) (hnW : n₀ ≤ W.heap.size) (hJ : AbidesFrom W.heap.size J) (hb : Blk W Bs (chCells c AT nT cT AP nP cP) 48)
    (hY : ∀ (pre : List (Fin nP)) (x : Fin nP) (W1 : World), J pre W1 → pre.length < nP → YieldAt Fence.wide (n - 1) Try.prog l #[.int .i64 (x.val : Int)] W1 fun e W' =>
      (e = .returned (.bool true) ∧ J (pre ++ [x]) W' ∧ Below n₀ W1 W') ∨ (e = .returned (.bool false) ∧ Jx (pre ++ [x]) W')) (h0 : J [] W) :
    CallsIn Fence.wide n Try.prog 146 #[.func (.yield l) #[] #[], .pointer (some ⟨Bs, 0, none⟩)] W fun e W' => (∃ v, e = .returned v) ∧
      ((∃ xs, xs = backs nP nP ∧ J xs W') ∨ (∃ pre, (∃ k, k ≤ nP ∧ pre = backs nP k) ∧ Jx pre W')) := by
  refine callsIn_of_wp Try.func146 rfl trivial ?_ rfl
  simp only [Try.ntmps146, List.size_toArray, List.length_cons, List.length_nil, Nat.reduceAdd, Nat.reduceSub, Array.replicate_succ, Array.replicate_zero, List.push_toArray, List.append_toArray, List.nil_append, List.cons_append]
  have q0 : W.cell? ⟨Bs, 0, none⟩ = some (.int .i64 c.base) := hb.cell 0
  have q1 : W.cell? ⟨Bs, 1, none⟩ = some (.int .i64 c.states) := hb.cell 1
  have q2 : W.cell? ⟨Bs, 2, none⟩ = some (.int .i64 c.start) := hb.cell 2
  have q3 : W.cell? ⟨Bs, 3, none⟩ = some (.int .i64 c.stop) := hb.cell 3
  have q4 : W.cell? ⟨Bs, 4, none⟩ = some (.slice AT nT cT) := hb.cell 4
  have q5 : W.cell? ⟨Bs, 5, none⟩ = some (.slice AP nP cP) := hb.cell 5
  have CL : ∀ w1, CallsIn Fence.wide (n - 1) Try.prog 89 #[.agg #[.int .i64 c.base, .int .i64 c.states, .int .i64 c.start, .int .i64 c.stop, .slice AT nT cT, .slice AP nP cP]] w1 fun e w' => e = .returned (.int .i64 nP) ∧ w' = w1.alloc (.cells (chCells c AT nT cT AP nP cP) 48) := fun w1 => callsIn_wide.2 (lengthX_any c AT AP nT cT nP cP w1)
  have h1 : 1 ≤ n := by omega
  have hbel0 : Below n₀ W (W.alloc (.cells (chCells c AT nT cT AP nP cP) 48)) := (Below.refl _ W).alloc hnW _
  have hJ0 : J [] (W.alloc (.cells (chCells c AT nT cT AP nP cP) 48)) := hJ _ _ _ none h0 (World.grownBy_alloc W _ none) (fun r e => by cases e)
  gi_wp2_with (refine ⟨trivial, ?_⟩; gi_at_call 89; refine (CL _).mono ?_; rintro e w' ⟨rfl, rfl⟩)
  clear q0 q1 q2 q3 q4 q5
  gi_loopw [3, 6] (fun _ i wr => ∃ k : Nat, k ≤ nP ∧ i = .int .i64 k ∧ J (backs nP k) wr ∧ Below n₀ W wr) (fun _ i _ => nP - (intOf i).toNat)
  case atStart => exact ⟨0, Nat.zero_le _, rfl, by simpa [backs] using hJ0, hbel0⟩
  case round =>
    obtain ⟨k, hk, rfl, hJs, hnx⟩ := hrel
    by_cases hlt : k < nP
    · have bk := hb.below hnx hBn
      have q0 : wr.cell? ⟨Bs, 0, none⟩ = some (.int .i64 c.base) := bk.cell 0
      have q1 : wr.cell? ⟨Bs, 1, none⟩ = some (.int .i64 c.states) := bk.cell 1
      have q2 : wr.cell? ⟨Bs, 2, none⟩ = some (.int .i64 c.start) := bk.cell 2
      have q3 : wr.cell? ⟨Bs, 3, none⟩ = some (.int .i64 c.stop) := bk.cell 3
      have q4 : wr.cell? ⟨Bs, 4, none⟩ = some (.slice AT nT cT) := bk.cell 4
      have q5 : wr.cell? ⟨Bs, 5, none⟩ = some (.slice AP nP cP) := bk.cell 5
      have hJr : J (backs nP k) (wr.alloc (.cells (chCells c AT nT cT AP nP cP) 48)) := hJ _ _ _ none hJs (World.grownBy_alloc wr _ none) (fun r e => by cases e)
      have hbr : Below n₀ W (wr.alloc (.cells (chCells c AT nT cT AP nP cP) 48)) := hnx.alloc (Nat.le_trans hnW hnx.size) _
      obtain ⟨fn, tmps, assign, body, hy, hR⟩ := hY _ ⟨nP - 1 - k, by omega⟩ _ hJr (by rw [backs_len (by omega)]; exact hlt)
      have ex : (((nP - 1 - k : Nat)) : Int) = (nP : Int) - 1 - (k : Int) := by omega
      dsimp only at hy
      rw [ex] at hy
      clear bk ex
      gi_wp2_with (refine ⟨trivial, ?_⟩; gi_at_call 89; refine (CL _).mono ?_; rintro e w' ⟨rfl, rfl⟩)
      refine hR.mono ?_
      rintro e W3 (⟨rfl, hJ3, hk3⟩ | ⟨rfl, hJx3⟩)
      · gi_wp2
        go_roundw
        case rel => exact ⟨k + 1, by omega, by simp, by rw [backs_succ hlt]; exact hJ3, hbr.trans hk3⟩
        case measure => simp [intOf]; omega
      · gi_wp2
        refine bodyPost_ret (results_none rfl _ _ _) rfl ?_
        exact ⟨⟨_, rfl⟩, .inr ⟨_, ⟨k + 1, by omega, (backs_succ hlt).symm⟩, hJx3⟩⟩
    · obtain rfl : nP = k := by omega
      gi_wp2
      go_end0
      exact ⟨⟨_, rfl⟩, .inl ⟨_, rfl, hJs⟩⟩
end Go.Proofs.Yteggllmiapdmcaa
