/-
  A chain as the walks are told of it, and the contracts of the laws' helpers over chains: how large it is, a copy, a comparison.
-/
import Derived.Test.YteggllmiapdmcaaOwn3
import Derived.Test.YteggllmiapdmcaaBlk
namespace Go.Proofs.Yteggllmiapdmcaa
open Go.RowKit

structure Ch where
  base : Int
  states : Int
  start : Int
  stop : Int
  T : List (List (List Int))
  P : List Int

abbrev chV (c : Ch) (AT : Option Addr) (nT cT : Nat) (AP : Option Addr) (nP cP : Nat) : Value :=
  .agg #[.int .i64 c.base, .int .i64 c.states, .int .i64 c.start, .int .i64 c.stop, .slice AT nT cT, .slice AP nP cP]

abbrev chCells (c : Ch) (AT : Option Addr) (nT cT : Nat) (AP : Option Addr) (nP cP : Nat) : Array Value :=
  #[.int .i64 c.base, .int .i64 c.states, .int .i64 c.start, .int .i64 c.stop, .slice AT nT cT, .slice AP nP cP]

def tot2 (zss : List (List Int)) : Nat := zss.length + (zss.map List.length).sum
def tot3 (z3 : List (List (List Int))) : Nat := z3.length + (z3.map tot2).sum
theorem sum_take_le' (ns : List Nat) (j : Nat) : (ns.take j).sum ≤ ns.sum := sum_take_le ns j

set_option maxHeartbeats 1000000 in
theorem szInt64SS_any {B : Nat} (A : Option Addr) (n c : Nat) (zss : List (List Int)) (left : Int) (w : World) (hr : Rows2 B w A n zss) (h0 : 0 ≤ left) (h1 : left ≤ 1048576) :
    Calls Try.prog 92 #[.slice A n c, .int .i64 left] w fun e w' => e = .returned (.int .i64 (szF left (tot2 zss))) ∧ w = w' := by
  have hn := hr.le
  have hl := hr.len
  by_cases h : left < n
  · go_enter Try.func92, Try.ntmps92
    go_wp2
    go_ret
    exact ⟨ret_int (by unfold szF tot2; split <;> omega), rfl⟩
  · go_enter Try.func92, Try.ntmps92
    go_wp2
    go_loop [1, 5] (fun q i => ∃ k : Nat, k ≤ n ∧ i = .int .i64 k ∧ q = .int .i64 (left - (n : Int) - ((((zss.map List.length).take k).sum : Nat) : Int)) ∧ 0 ≤ left - (n : Int) - ((((zss.map List.length).take k).sum : Nat) : Int)) (fun _ i => n - (intOf i).toNat)
    case atStart => exact ⟨0, by omega, rfl, by simp, by simp; omega⟩
    case round =>
      obtain ⟨k, hk, rfl, rfl, hq⟩ := hrel
      by_cases hlt : k < n
      · obtain ⟨b, off, Aj, nj, cj, zs, rfl, hbb, hz, hc, hcap, hrow⟩ := hr.2.2 k hlt
        have hnj := hrow.le
        have hlj : (zss.map List.length)[k]? = some nj := by rw [List.getElem?_map, hz]; simp [hrow.len]
        have hs1 := sum_take_succ hlj
        have hs2 := sum_take_le (zss.map List.length) (k + 1)
        obtain ⟨S, hS⟩ : ∃ S, S = ((zss.map List.length).take k).sum := ⟨_, rfl⟩
        rw [← hS] at hs1 hq ⊢
        have CT : Calls Try.prog 74 #[.slice Aj nj cj, .int .i64 (left - (n : Int) - (S : Int))] w fun e w' => e = .returned (.int .i64 (szF (left - (n : Int) - (S : Int)) nj)) ∧ w = w' := szInt64S_any Aj nj cj _ w (by unfold maxLen; omega) hq (by omega)
        have HR := Lib.hid hrow
        by_cases hov : left - (n : Int) - (S : Int) < nj
        · rw [szF_big hov] at CT
          have hbig : left < tot2 zss := by unfold tot2; omega
          clear hz hlj hs1 hs2 hS hrow
          go_wp2_with (go_at_call 74; (with_reducible refine (CT).mono ?_); rintro e w' ⟨rfl, rfl⟩)
          go_ret
          exact ⟨ret_int (szF_big hbig).symm, rfl⟩
        · rw [szF_ok hov] at CT
          have hq2 : 0 ≤ left - (n : Int) - (S : Int) - (nj : Int) := by omega
          have HS1 := Lib.hid hs1
          clear hz hlj hs1 hs2 hS hrow
          go_wp2_with (go_at_call 74; (with_reducible refine (CT).mono ?_); rintro e w' ⟨rfl, rfl⟩)
          go_round
          case rel => exact ⟨k + 1, by omega, by go_num, by rw [HS1.out]; go_num, by rw [HS1.out]; push_cast; omega⟩
          case measure => simp [intOf]; omega
      · obtain rfl : k = n := by omega
        have e1 : (zss.map List.length).take k = zss.map List.length := List.take_of_length_le (by simp; omega)
        rw [e1] at hq ⊢
        have hfit : ¬ left < tot2 zss := by unfold tot2; omega
        go_wp2
        go_ret
        refine ⟨ret_int ?_, rfl⟩
        rw [szF_ok (by omega)]
        unfold tot2
        omega

set_option maxHeartbeats 1000000 in
theorem szInt64SSS_any {B : Nat} (A : Option Addr) (n c : Nat) (z3 : List (List (List Int))) (left : Int) (w : World) (hr : Rows3 B w A n z3) (h0 : 0 ≤ left) (h1 : left ≤ 1048576) :
    Calls Try.prog 73 #[.slice A n c, .int .i64 left] w fun e w' => e = .returned (.int .i64 (szF left (tot3 z3))) ∧ w = w' := by
  have hn := hr.le
  have hl := hr.len
  by_cases h : left < n
  · go_enter Try.func73, Try.ntmps73
    go_wp2
    go_ret
    exact ⟨ret_int (by unfold szF tot3; split <;> omega), rfl⟩
  · go_enter Try.func73, Try.ntmps73
    go_wp2
    go_loop [1, 5] (fun q i => ∃ k : Nat, k ≤ n ∧ i = .int .i64 k ∧ q = .int .i64 (left - (n : Int) - ((((z3.map tot2).take k).sum : Nat) : Int)) ∧ 0 ≤ left - (n : Int) - ((((z3.map tot2).take k).sum : Nat) : Int)) (fun _ i => n - (intOf i).toNat)
    case atStart => exact ⟨0, by omega, rfl, by simp, by simp; omega⟩
    case round =>
      obtain ⟨k, hk, rfl, rfl, hq⟩ := hrel
      by_cases hlt : k < n
      · obtain ⟨b, off, Aj, nj, cj, zss, rfl, hbb, hz, hc, hcap, hrow⟩ := hr.2.2 k hlt
        obtain ⟨tj, htj⟩ : ∃ tj, tj = tot2 zss := ⟨_, rfl⟩
        have hlj : (z3.map tot2)[k]? = some tj := by rw [List.getElem?_map, hz, htj]; rfl
        have hs1 := sum_take_succ hlj
        have hs2 := sum_take_le (z3.map tot2) (k + 1)
        obtain ⟨S, hS⟩ : ∃ S, S = ((z3.map tot2).take k).sum := ⟨_, rfl⟩
        rw [← hS] at hs1 hq ⊢
        have CT : Calls Try.prog 92 #[.slice Aj nj cj, .int .i64 (left - (n : Int) - (S : Int))] w fun e w' => e = .returned (.int .i64 (szF (left - (n : Int) - (S : Int)) tj)) ∧ w = w' := by
          rw [htj]; exact szInt64SS_any Aj nj cj zss _ w hrow hq (by omega)
        by_cases hov : left - (n : Int) - (S : Int) < tj
        · rw [szF_big hov] at CT
          have hbig : left < tot3 z3 := by unfold tot3; omega
          clear hz hlj hs1 hs2 hS hrow htj
          go_wp2_with (go_at_call 92; (with_reducible refine (CT).mono ?_); rintro e w' ⟨rfl, rfl⟩)
          go_ret
          exact ⟨ret_int (szF_big hbig).symm, rfl⟩
        · rw [szF_ok hov] at CT
          have hq2 : 0 ≤ left - (n : Int) - (S : Int) - (tj : Int) := by omega
          have HS1 := Lib.hid hs1
          clear hz hlj hs1 hs2 hS hrow htj
          go_wp2_with (go_at_call 92; (with_reducible refine (CT).mono ?_); rintro e w' ⟨rfl, rfl⟩)
          go_round
          case rel => exact ⟨k + 1, by omega, by go_num, by rw [HS1.out]; go_num, by rw [HS1.out]; push_cast; omega⟩
          case measure => simp [intOf]; omega
      · obtain rfl : k = n := by omega
        have e1 : (z3.map tot2).take k = z3.map tot2 := List.take_of_length_le (by simp; omega)
        rw [e1] at hq ⊢
        have hfit : ¬ left < tot3 z3 := by unfold tot3; omega
        go_wp2
        go_ret
        refine ⟨ret_int ?_, rfl⟩
        rw [szF_ok (by omega)]
        unfold tot3
        omega
end Go.Proofs.Yteggllmiapdmcaa
