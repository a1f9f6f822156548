/-
  Chains that read alike are found equal.
-/
import Derived.Test.YteggllmiapdmcaaCh2
namespace Go.Proofs.Yteggllmiapdmcaa
open Go.RowKit

set_option maxHeartbeats 400000 in
theorem eqInt64SSS_any {B1 B2 : Nat} (A1 A2 : Option Addr) (n c1 c2 : Nat) (zss : List (List (List Int))) (w : World) (h1 : Rows3 B1 w A1 n zss) (h2 : Rows3 B2 w A2 n zss) :
    Calls Try.prog 82 #[.slice A1 n c1, .slice A2 n c2] w fun e w' => e = .returned (.bool true) ∧ ∃ m, w' = w.drewN m := by
  have hle := h1.le
  go_enter Try.func82, Try.ntmps82
  go_wp2
  go_loopw [5] (fun i wr => ∃ k : Nat, k ≤ n ∧ i = .int .i64 k ∧ ∃ m, wr = w.drewN m) (fun i _ => n - (intOf i).toNat)
  case atStart => exact ⟨0, by omega, rfl, 0, rfl⟩
  case round =>
    obtain ⟨k, hk, rfl, m, rfl⟩ := hrel
    by_cases hlt : k < n
    · obtain ⟨b1, o1, A1j, n1, c1j, zs, rfl, _, hz1, hc1, hn1, r1⟩ := h1.2.2 k hlt
      obtain ⟨b2, o2, A2j, n2, c2j, zs2, rfl, _, hz2, hc2, hn2, r2⟩ := h2.2.2 k hlt
      obtain rfl : zs = zs2 := by rw [hz1] at hz2; exact Option.some.inj hz2
      obtain rfl : n1 = n2 := r1.1.symm.trans r2.1
      have hc1' : (w.drewN m).cell? ⟨b1, o1 + k, none⟩ = some (.slice A1j n1 c1j) := hc1
      have hc2' : (w.drewN m).cell? ⟨b2, o2 + k, none⟩ = some (.slice A2j n1 c2j) := hc2
      have CE : ∀ q, Calls Try.prog 94 #[.slice A1j n1 c1j, .slice A2j n1 c2j] (w.drewN q) fun e w' => e = .returned (.bool true) ∧ ∃ m, w' = (w.drewN q).drewN m := fun q => eqInt64SS_any A1j A2j n1 c1j c2j zs (w.drewN q) (r1.drewN q) (r2.drewN q)
      clear hz1 hz2 h1 h2
      go_wp2
      go_quiet ((go_at_call 94; exact (CE _).mono fun _ _ ⟨he, _, hm⟩ => ⟨he, _, hm.trans ((World.drewN_drewN _ _ _).trans (by rw [Nat.add_assoc]))⟩))
      go_wp2
      go_roundw
      case rel => exact ⟨k + 1, by omega, by go_num, _, rfl⟩
      case measure => simp [intOf]; omega
    · obtain rfl : k = n := by omega
      go_wp2
      go_ret
      exact ⟨rfl, m, rfl⟩
set_option maxHeartbeats 1000000 in
theorem eqChain_any {B1 B2 : Nat} (c : Ch) (AT AP AT' AP' : Option Addr) (nT cT nP cP cT' cP' : Nat) (w : World) (h1 : ChRows B1 w c AT nT AP nP) (h2 : ChRows B2 w c AT' nT AP' nP) (hB1 : B1 ≤ w.heap.size) (hB2 : B2 ≤ w.heap.size) :
    Calls Try.prog 39 #[chV c AT nT cT AP nP cP, chV c AT' nT cT' AP' nP cP'] w fun e w' => e = .returned (.bool true) ∧ Below w.heap.size w w' := by
  obtain ⟨base, states, start, stop, T, P⟩ := c
  obtain ⟨w1, hw1⟩ : ∃ w1, w1 = (w.alloc (.cells #[.int .i64 base, .int .i64 states, .int .i64 start, .int .i64 stop, .slice AT nT cT, .slice AP nP cP] 48)).alloc (.cells #[.int .i64 base, .int .i64 states, .int .i64 start, .int .i64 stop, .slice AT' nT cT', .slice AP' nP cP'] 48) := ⟨_, rfl⟩
  have bel : Below w.heap.size w w1 := by rw [hw1]; exact ((Below.refl _ w).alloc (Nat.le_refl _) _).alloc (by simp) _
  have r1 := h1.below (bel.mono hB1)
  have r2 := h2.below (bel.mono hB2)
  have b1 : Blk w1 w.heap.size #[.int .i64 base, .int .i64 states, .int .i64 start, .int .i64 stop, .slice AT nT cT, .slice AP nP cP] 48 := by rw [hw1]; exact (Blk.new _ _ _).alloc _
  have b2 : Blk w1 (w.heap.size + 1) #[.int .i64 base, .int .i64 states, .int .i64 start, .int .i64 stop, .slice AT' nT cT', .slice AP' nP cP'] 48 := by
    rw [hw1]
    have := Blk.new (w.alloc (.cells #[.int .i64 base, .int .i64 states, .int .i64 start, .int .i64 stop, .slice AT nT cT, .slice AP nP cP] 48)) #[.int .i64 base, .int .i64 states, .int .i64 start, .int .i64 stop, .slice AT' nT cT', .slice AP' nP cP'] 48
    simpa using this
  have CT := eqInt64SSS_any AT AT' nT cT cT' T w1 r1.1 r2.1
  have BEL := Lib.hid bel
  have R1 := Lib.hid r1
  have R2 := Lib.hid r2
  have B1 := Lib.hid b1
  have B2 := Lib.hid b2
  clear bel r1 r2 b1 b2
  go_enter Try.func39, Try.ntmps39
  go_wp2_with fail
  rw [← hw1]
  have HW1 := Lib.hid hw1
  clear hw1
  (go_at_call 82; (with_reducible refine (CT).mono ?_); rintro e w2 ⟨rfl, m, rfl⟩)
  have c1 := (B1.out.drewN m).cell 5
  have c2 := (B2.out.drewN m).cell 5
  have CP := eqInt64S_any AP AP' nP cP cP' P (w1.drewN m) (R1.out.2.drewN m) (R2.out.2.drewN m)
  clear CT
  go_wp2_with fail
  (go_at_call 83; (with_reducible refine (CP).mono ?_); rintro e w2 ⟨rfl, m2, rfl⟩)
  clear CP c1 c2
  go_wp2_with fail
  go_ret
  exact ⟨rfl, below_drewN BEL.out _⟩
end Go.Proofs.Yteggllmiapdmcaa
