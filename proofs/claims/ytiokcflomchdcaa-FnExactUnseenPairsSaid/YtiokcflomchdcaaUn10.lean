/-
  WeightCatches, of the model.
-/
import Derived.Test.YtiokcflomchdcaaUn9
namespace Go.Proofs.Ytiokcflomchdcaa
open Go Go.RowKit

set_option maxRecDepth 100000 in
set_option maxHeartbeats 4000000 in
theorem l03Catches_any {B b : Nat} (x : Wt) (A : Option Addr) (n c : Nat) (kind : Int) (w : World) (hb : Blk w b (wtCells x A n c) 26) (hr : RowB .i64 B w A n x.W) {bs m : Nat} (f : x.Fine bs m n) (hq : wOk x = true) :
    Calls Try.prog 108 #[.pointer (some ⟨b, 0, none⟩), .int .i64 kind] w fun e w' => e = .returned (.bool (wcV x kind)) ∧ w = w' := by
  have hl := hr.len
  have hn20 := f.n20
  have fb := f.base
  have fm := f.modulus
  have CP := l03Places_any x A n c kind w hb hn20
  rcases hk : kindOk kind x.base with _ | _
  · rw [plV_no hk] at CP
    have HO : Hid (wcV x kind = false) := Lib.hid (by unfold wcV; rw [hq, hk]; rfl)
    clear hk hq f fb fm hl hb hr
    go_enter Try.func108, Try.ntmps108
    go_wp2_with (go_at_call 106; (with_reducible refine (CP).mono ?_); rintro e w' ⟨rfl, rfl⟩)
    go_loop [4, 6] (fun r i => r = .bool false ∧ i = .int .i64 0) (fun _ _ => 0)
    case atStart => exact ⟨rfl, rfl⟩
    case round =>
      obtain ⟨rfl, rfl⟩ := hrel
      go_wp2_with fail
      go_ret
      exact ⟨ret_bool HO.out.symm, rfl⟩
  · rw [plV_yes hk] at CP
    obtain ⟨hk0, hk5, hk10⟩ := kindOk_parts hk
    obtain ⟨k, rfl⟩ : ∃ k : Nat, kind = k := ⟨kind.toNat, by omega⟩
    have hk6 : k < 6 := by omega
    simp only [Int.toNat_natCast] at CP
    obtain ⟨hs1, hs3⟩ := sizeK_le k
    have HU : Hid (∀ p, p + sizeK k ≤ n → Calls Try.prog 107 #[.pointer (some ⟨b, 0, none⟩), .int .i64 k, .int .i64 p] w fun e w' => e = .returned (.int .i64 (unC x.W m bs p k : Nat)) ∧ w = w') := Lib.hid (fun p hp => by
      rw [unC_unM hk6 (by have := f.m2; omega) (by omega) (fun e => by have := hk10 (by omega); omega)]
      exact l03Unseen_any x A n c w hb hr f k hk6 p hp)
    have HV : Hid (wcV x k = (List.range (n + 1 - sizeK k)).all fun p => decide (unC x.W m bs p k = 0)) := Lib.hid (by
      unfold wcV
      rw [hq, hk, hl, fb, fm]
      simp)
    clear hk hq f fb fm hl hb hr
    generalize hN : n + 1 - sizeK k = N at CP HV
    have hN21 : N ≤ 21 := by omega
    have hNs : ∀ q, q < N → q + sizeK k ≤ n := fun q h => by omega
    have HNS := Lib.hid hNs
    generalize hu : (fun p => unC x.W m bs p k) = u at HV
    have HU2 : Hid (∀ p, p < N → Calls Try.prog 107 #[.pointer (some ⟨b, 0, none⟩), .int .i64 k, .int .i64 p] w fun e w' => e = .returned (.int .i64 (u p : Nat)) ∧ w = w') := Lib.hid (by rw [← hu]; exact fun p hp => HU.out p (HNS.out p hp))
    have HV2 : Hid (wcV x k = (List.range N).all fun p => decide (u p = 0)) := Lib.hid (by rw [HV.out, ← hu])
    clear hu HU HV hNs hN hs1 hs3
    go_enter Try.func108, Try.ntmps108
    go_wp2_with (go_at_call 106; (with_reducible refine (CP).mono ?_); rintro e w' ⟨rfl, rfl⟩)
    go_loop [4, 6] (fun r i => ∃ q : Nat, q ≤ N ∧ i = .int .i64 q ∧ r = .bool false ∧ Hid (∀ p, p < q → u p = 0)) (fun _ i => N - (intOf i).toNat)
    case atStart => exact ⟨0, by omega, rfl, rfl, Lib.hid (fun p hp => by omega)⟩
    case round =>
      obtain ⟨q, hqN, rfl, rfl, HZ⟩ := hrel
      by_cases hlt : q < N
      · have CU := HU2.out q hlt
        obtain ⟨v, hv⟩ : ∃ v, v = u q := ⟨_, rfl⟩
        rw [← hv] at CU
        have HVQ := Lib.hid hv
        clear hv
        by_cases hv0 : 0 < v
        · have HO : Hid (wcV x k = false) := Lib.hid (by
            rw [HV2.out]
            exact all_range_no (i := q) hlt (by have := HVQ.out; simp; omega))
          have hvi : (0 : Int) < (v : Int) := by omega
          go_wp2_with (go_at_call 107; (with_reducible refine (CU).mono ?_); rintro e w' ⟨rfl, rfl⟩)
          go_ret
          exact ⟨ret_bool HO.out.symm, rfl⟩
        · obtain rfl : v = 0 := by omega
          go_wp2_with (go_at_call 107; (with_reducible refine (CU).mono ?_); rintro e w' ⟨rfl, rfl⟩)
          go_round
          case rel => exact ⟨q + 1, by omega, by go_num, rfl, Lib.hid (fun p hp => by
            by_cases e : p = q
            · rw [e]; exact HVQ.out.symm
            · exact HZ.out p (by omega))⟩
          case measure => simp [intOf]; omega
      · have HO : Hid (wcV x k = true) := Lib.hid (by
          rw [HV2.out]
          exact all_range (fun i hi => by rw [HZ.out i (by omega)]; rfl))
        have hN0 : (0 : Int) ≤ (N : Int) := by omega
        go_wp2_with fail
        go_ret
        exact ⟨ret_bool HO.out.symm, rfl⟩
set_option maxRecDepth 100000 in
set_option maxHeartbeats 4000000 in
theorem specCatches_any {B : Nat} (x : Wt) (A : Option Addr) (n c : Nat) (kind : Int) (w : World) (hr : RowB .i64 B w A n x.W) (hB : B ≤ w.heap.size) :
    Calls Try.prog 52 #[wtV x A n c, .int .i64 kind] w fun e w' => e = .returned (.bool (wcV x kind)) ∧ Below w.heap.size w w' := by
  have hl := hr.len
  obtain ⟨w1, hw1⟩ : ∃ w1, w1 = w.alloc (.cells (wtCells x A n c) 26) := ⟨_, rfl⟩
  have bel : Below w.heap.size w w1 := by rw [hw1]; exact (Below.refl _ w).alloc (Nat.le_refl _) _
  have b1 : Blk w1 w.heap.size (wtCells x A n c) 26 := by rw [hw1]; exact Blk.new _ _ _
  have r1 : RowB .i64 B w1 A n x.W := hr.below (bel.mono hB)
  have CC := l03Is_any x A n c w1 b1 r1
  have BEL := Lib.hid bel
  have B1 := Lib.hid b1
  have R1 := Lib.hid r1
  clear bel b1 hr r1
  rcases hq : wOk x with _ | _
  · rw [hq] at CC
    have HO : Hid (wcV x kind = false) := Lib.hid (by unfold wcV; rw [hq]; rfl)
    clear hq hl
    go_enter Try.func52, Try.ntmps52
    go_wp2_with fail
    rw [← hw1]
    have HW1 := Lib.hid hw1
    clear hw1
    (go_at_call 105; (with_reducible refine (CC).mono ?_); rintro e w2 ⟨rfl, m, rfl⟩)
    go_wp2_with fail
    go_ret
    exact ⟨ret_bool HO.out.symm, below_drewN BEL.out _⟩
  · rw [hq] at CC
    obtain ⟨b', m', n', f⟩ := Wt.fine hq
    obtain rfl : n = n' := by have := f.len; omega
    have CK : ∀ q, Calls Try.prog 108 #[.pointer (some ⟨w.heap.size, 0, none⟩), .int .i64 kind] (w1.drewN q) fun e w' => e = .returned (.bool (wcV x kind)) ∧ (w1.drewN q) = w' := fun q => l03Catches_any x A n c kind (w1.drewN q) (B1.out.drewN q) (R1.out.drewN q) f hq
    generalize wcV x kind = v at *
    clear hq hl f
    go_enter Try.func52, Try.ntmps52
    go_wp2_with fail
    rw [← hw1]
    have HW1 := Lib.hid hw1
    clear hw1
    (go_at_call 105; (with_reducible refine (CC).mono ?_); rintro e w2 ⟨rfl, m, rfl⟩)
    go_wp2_with fail
    (go_at_call 108; (with_reducible refine (CK _).mono ?_); rintro e w' ⟨rfl, rfl⟩)
    go_wp2_with fail
    go_ret
    exact ⟨rfl, below_drewN BEL.out _⟩
end Go.Proofs.Ytiokcflomchdcaa
