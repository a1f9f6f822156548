/-
  The dihedral group, of both sides.
-/
import Derived.Test.YteggllmiapdmcaaDiG
namespace Go.Proofs.Yteggllmiapdmcaa
open Go.RowKit

set_option maxRecDepth 100000 in
set_option maxHeartbeats 2000000 in
theorem dihClo_any {b : Nat} (n N x y : Nat) (W : World) (hN : N = 2 * n) (h1 : 1 ≤ n) (hn : N ≤ 10) (hx : x < N) (hy : y < N) (hc : W.cell? ⟨b, 0, none⟩ = some (.int .i64 n)) :
    Calls Try.prog 63 #[.int .i64 x, .int .i64 y, ptr b] W fun e w' => e = .returned (.int .i64 (dihF n x y : Nat)) ∧ ∃ m, w' = W.drewN m := by
  obtain ⟨V, hV⟩ : ∃ V, V = dihF n x y := ⟨_, rfl⟩
  obtain ⟨S, hS⟩ : ∃ S, S = (x + y) % n := ⟨_, rfl⟩
  have hSI : ((x : Int) + (y : Int)).tmod (n : Int) = (S : Int) := by rw [hS]; rfl
  have hSl : S < n := by rw [hS]; exact Nat.mod_lt _ (by omega)
  have hn0 : ¬ (n : Int) = 0 := by omega
  rw [← hV]
  have hFk : dihF n x y = V := hV.symm
  unfold dihF at hFk
  rw [← hS] at hFk
  clear hV hS
  by_cases ha : x < n
  · obtain ⟨D, hD⟩ : ∃ D, D = ((x : Int) + (n : Int) - (y : Int)).tmod (n : Int) := ⟨_, rfl⟩
    have hDI : ((x : Int) + (n : Int) - (y : Int)).tmod (n : Int) = D := hD.symm
    clear hD
    by_cases hb : y < n
    · rw [if_pos ⟨ha, hb⟩] at hFk
      subst hFk
      go_enter Try.func63, Try.ntmps63
      go_wp2
      go_quiet (fail)
      go_wp2
      go_ret
      exact ⟨rfl, _, rfl⟩
    · rw [if_neg (by omega), if_pos ha] at hFk
      have HV : Hid ((n : Int) + (S : Int) = (V : Int)) := Lib.hid (by omega)
      clear hFk
      go_enter Try.func63, Try.ntmps63
      go_wp2
      go_quiet (fail)
      go_wp2
      go_ret
      exact ⟨ret_int HV.out, _, rfl⟩
  · obtain ⟨D, hD⟩ : ∃ D, D = (x + n - y) % n := ⟨_, rfl⟩
    have hDI : ((x : Int) + (n : Int) - (y : Int)).tmod (n : Int) = (D : Int) := by
      rw [show (x : Int) + (n : Int) - (y : Int) = ((x + n - y : Nat) : Int) by omega, hD]; rfl
    have hDl : D < n := by rw [hD]; exact Nat.mod_lt _ (by omega)
    rw [if_neg (by omega), if_neg ha, ← hD] at hFk
    clear hD
    by_cases hb : y < n
    · rw [if_pos hb] at hFk
      have HV : Hid ((n : Int) + (D : Int) = (V : Int)) := Lib.hid (by omega)
      clear hFk
      go_enter Try.func63, Try.ntmps63
      go_wp2
      go_quiet (fail)
      go_wp2
      go_ret
      exact ⟨ret_int HV.out, _, rfl⟩
    · rw [if_neg hb] at hFk
      subst hFk
      go_enter Try.func63, Try.ntmps63
      go_wp2
      go_quiet (fail)
      go_wp2
      go_ret
      exact ⟨rfl, _, rfl⟩

def dihR (i : Int) : Gp := if inB i 1 5 = true then ⟨gridOf (2 * i.toNat) (2 * i.toNat) (dihF i.toNat)⟩ else ⟨[]⟩
theorem dihR_no {i : Int} (h : inB i 1 5 = false) : dihR i = ⟨[]⟩ := by unfold dihR; rw [h]; rfl
theorem dihR_yes {n : Nat} (h : inB (n : Int) 1 5 = true) : dihR (n : Int) = ⟨gridOf (2 * n) (2 * n) (dihF n)⟩ := by unfold dihR; rw [if_pos h]; rfl
theorem dihR_sum (i : Int) : ((dihR i).G.map List.length).sum ≤ 2000000 := by
  rcases h : inB i 1 5 with _ | _
  · rw [dihR_no h]; simp
  · have h2 := inB_true.1 h
    obtain ⟨n, rfl⟩ := Int.eq_ofNat_of_zero_le (show 0 ≤ i by omega)
    rw [dihR_yes h]
    exact Nat.le_trans (grid_sum _ _ (by omega)) (by decide)
set_option maxHeartbeats 2000000 in
theorem specDih_any (i : Int) (w : World) : Calls Try.prog 49 #[.int .i64 i] w (MadeGB w.heap.size (dihR i) (inB i 1 5) w) := by
  obtain ⟨w1, hw1⟩ : ∃ w1, w1 = w.alloc (.cells #[nilV] 26) := ⟨_, rfl⟩
  have bel1 : Below w.heap.size w w1 := by rw [hw1]; exact (Below.refl _ w).alloc (Nat.le_refl _) _
  have b1 : Blk w1 w.heap.size #[nilV] 26 := by rw [hw1]; exact Blk.new _ _ _
  have hs1 : w1.heap.size = w.heap.size + 1 := by rw [hw1]; simp
  have BEL := Lib.hid bel1
  have B1 := Lib.hid b1
  have CI : ∀ W, Calls Try.prog 95 #[.int .i64 i, .int .i64 1, .int .i64 5] W fun e w' => e = .returned (.bool (inB i 1 5)) ∧ W = w' := fun W => l00In_any _ _ _ W
  rcases hin : inB i 1 5 with _ | _
  · rw [hin] at CI
    have HR := Lib.hid (dihR_no hin)
    have q0 := b1.cell 0
    have f0 := b1.frozen 0
    clear hin b1 bel1
    go_enter Try.func49, Try.ntmps49
    go_wp2_with fail
    rw [← hw1]
    have HW1 := Lib.hid hw1
    clear hw1
    go_wp2_with fail
    (go_at_call 95; (with_reducible refine (CI _).mono ?_); rintro e w' ⟨rfl, rfl⟩)
    go_wp2_with fail
    obtain ⟨w9, hw9⟩ : ∃ w9, w9 = w1.setCell ⟨w.heap.size, 0, none⟩ nilV := ⟨_, rfl⟩
    have hb9 := B1.out.set 0 nilV
    rw [← hw9] at hb9
    have q9 : w9.cell? ⟨w.heap.size, 0, none⟩ = some nilV := by have := hb9.cell 0; simpa using this
    have bel9 : Below w.heap.size w w9 := by rw [hw9]; exact BEL.out.setCell (Nat.le_refl _) _
    rw [← hw9]
    refine bodyPost_ret (v := .tuple #[.agg #[.slice none 0 0], .bool false]) (by simp [results, Try.results49, go_sem, q9]) rfl ?_
    exact madeGB_no HR.out rfl bel9
  · rw [hin] at CI
    have hi2 := inB_true.1 hin
    obtain ⟨n, rfl⟩ := Int.eq_ofNat_of_zero_le (show 0 ≤ i by omega)
    obtain ⟨N, hN⟩ : ∃ N, N = 2 * n := ⟨_, rfl⟩
    have h2n : (2 : Int) * (n : Int) = (N : Int) := by omega
    have HN := Lib.hid hN
    have HR := Lib.hid (show dihR (n : Int) = ⟨gridOf N N (dihF n)⟩ by rw [hN]; exact dihR_yes hin)
    have CC := (l05Dihedral_any n N w1 HN.out (by omega) (by omega)).mono (fun _ _ => madeA_of)
    clear hin b1 bel1 hN
    go_enter Try.func49, Try.ntmps49
    go_wp2_with fail
    rw [← hw1]
    have HW1 := Lib.hid hw1
    clear hw1
    go_wp2_with fail
    (go_at_call 95; (with_reducible refine (CI _).mono ?_); rintro e w' ⟨rfl, rfl⟩)
    go_wp2_with fail
    (go_at_call 99; (with_reducible refine (CC).mono ?_); rintro e w2 ⟨A, c, L, rfl, ho, hb⟩)
    have b2 := B1.out.below hb (by omega)
    have q0 := b2.cell 0
    have f0 := b2.frozen 0
    obtain ⟨w9, hw9⟩ : ∃ w9, w9 = w2.setCell ⟨w.heap.size, 0, none⟩ (.slice A (N) c) := ⟨_, rfl⟩
    have hb9 := b2.set 0 (.slice A (N) c)
    rw [← hw9] at hb9
    have q9 : w9.cell? ⟨w.heap.size, 0, none⟩ = some (.slice A (N) c) := by have := hb9.cell 0; simpa using this
    have hown9 : Own2 w.heap.size w9 A (N) c L (gridOf N N (dihF n)) := by
      rw [hw9]
      exact (ho.keepL (fun q hq => Below.heap_setCell w2 ⟨w.heap.size, 0, none⟩ _ q (by have := ho.ofrom q hq; show q ≠ w.heap.size; omega)) (fun t ht q hq => Below.heap_setCell w2 ⟨w.heap.size, 0, none⟩ _ q (by have := ho.from t ht q hq; show q ≠ w.heap.size; omega))).lower (by omega)
    have bel9 : Below w.heap.size w w9 := by
      rw [hw9]
      exact (BEL.out.trans (hb.mono (by omega))).setCell (Nat.le_refl _) _
    have HO9 := Lib.hid hown9
    have HB9 := Lib.hid bel9
    clear b2 hb9 hown9 bel9 ho hb
    go_wp2_with fail
    rw [← hw9]
    refine bodyPost_ret (v := .tuple #[.agg #[.slice A (N) c], .bool true]) (by simp [results, Try.results49, go_sem, q9]) rfl ?_
    exact madeGB_yes HR.out rfl HO9.out HB9.out
set_option maxRecDepth 100000 in
set_option maxHeartbeats 2000000 in
theorem implDih_any (i : Int) (w : World) : Calls Try.prog 22 #[.int .i64 i] w (MadeGB w.heap.size (dihR i) (inB i 1 5) w) := by
  obtain ⟨w1, hw1⟩ : ∃ w1, w1 = (w.alloc (.cells #[.int .i64 i] 2)).alloc (.cells #[nilV] 26) := ⟨_, rfl⟩
  have bel1 : Below w.heap.size w w1 := by rw [hw1]; exact ((Below.refl _ w).alloc (Nat.le_refl _) _).alloc (by simp) _
  have b0 : Blk w1 w.heap.size #[.int .i64 i] 2 := by rw [hw1]; exact (Blk.new _ _ _).alloc _
  have b1 : Blk w1 (w.heap.size + 1) #[nilV] 26 := by
    rw [hw1]
    have h1 := Blk.new (w.alloc (.cells #[.int .i64 i] 2)) #[nilV] 26
    simpa using h1
  have hs1 : w1.heap.size = w.heap.size + 1 + 1 := by rw [hw1]; simp
  have BEL := Lib.hid bel1
  have B1 := Lib.hid b1
  have B0 := Lib.hid b0
  have p0 : w1.cell? ⟨w.heap.size, 0, none⟩ = some (.int .i64 i) := b0.cell 0
  have CI : ∀ W, Calls Try.prog 59 #[.int .i64 i, .int .i64 1, .int .i64 5] W fun e w' => e = .returned (.bool (inB i 1 5)) ∧ W = w' := fun W => within_any _ _ _ W
  rcases hin : inB i 1 5 with _ | _
  · rw [hin] at CI
    have HR := Lib.hid (dihR_no hin)
    have q0 := b1.cell 0
    have f0 := b1.frozen 0
    clear hin b1 bel1 b0
    go_enter Try.func22, Try.ntmps22
    go_wp2_with fail
    rw [← hw1]
    have HW1 := Lib.hid hw1
    clear hw1
    go_wp2_with fail
    (go_at_call 59; (with_reducible refine (CI _).mono ?_); rintro e w' ⟨rfl, rfl⟩)
    go_wp2_with fail
    obtain ⟨w9, hw9⟩ : ∃ w9, w9 = w1.setCell ⟨w.heap.size + 1, 0, none⟩ nilV := ⟨_, rfl⟩
    have hb9 := B1.out.set 0 nilV
    rw [← hw9] at hb9
    have q9 : w9.cell? ⟨w.heap.size + 1, 0, none⟩ = some nilV := by have := hb9.cell 0; simpa using this
    have bel9 : Below w.heap.size w w9 := by rw [hw9]; exact BEL.out.setCell (show w.heap.size ≤ w.heap.size + 1 by omega) _
    rw [← hw9]
    refine bodyPost_ret (v := .tuple #[.agg #[.slice none 0 0], .bool false]) (by simp [results, Try.results22, go_sem, q9]) rfl ?_
    exact madeGB_no HR.out rfl bel9
  · rw [hin] at CI
    have hi2 := inB_true.1 hin
    obtain ⟨n, rfl⟩ := Int.eq_ofNat_of_zero_le (show 0 ≤ i by omega)
    obtain ⟨N, hN⟩ : ∃ N, N = 2 * n := ⟨_, rfl⟩
    have h2n : (2 : Int) * (n : Int) = (N : Int) := by omega
    have HN := Lib.hid hN
    have HR := Lib.hid (show dihR (n : Int) = ⟨gridOf N N (dihF n)⟩ by rw [hN]; exact dihR_yes hin)
    have CG := (groupOfDih_any (N) (dihF n) (ptr w.heap.size) w1 (by omega) (fun x y hx hy => by have := dihF_lt (show 1 ≤ n by omega) x y; omega) (fun W hW x y hx hy => dihClo_any n N x y W HN.out (by omega) (by omega) hx hy ((hW.cell (p := ⟨w.heap.size, 0, none⟩) (show w.heap.size < w1.heap.size by omega)).trans p0))).mono (fun _ _ => madeA_of)
    clear hin b1 bel1 b0 hN
    go_enter Try.func22, Try.ntmps22
    go_wp2_with fail
    rw [← hw1]
    have HW1 := Lib.hid hw1
    clear hw1
    go_wp2_with fail
    (go_at_call 59; (with_reducible refine (CI _).mono ?_); rintro e w' ⟨rfl, rfl⟩)
    go_wp2_with fail
    (go_at_call 62; (with_reducible refine (CG).mono ?_); rintro e w2 ⟨A, c, L, rfl, ho, hb⟩)
    have b2 := B1.out.below hb (by omega)
    have q0 := b2.cell 0
    have f0 := b2.frozen 0
    obtain ⟨w9, hw9⟩ : ∃ w9, w9 = w2.setCell ⟨w.heap.size + 1, 0, none⟩ (.slice A (N) c) := ⟨_, rfl⟩
    have hb9 := b2.set 0 (.slice A (N) c)
    rw [← hw9] at hb9
    have q9 : w9.cell? ⟨w.heap.size + 1, 0, none⟩ = some (.slice A (N) c) := by have := hb9.cell 0; simpa using this
    have hown9 : Own2 w.heap.size w9 A (N) c L (gridOf N N (dihF n)) := by
      rw [hw9]
      exact (ho.keepL (fun q hq => Below.heap_setCell w2 ⟨w.heap.size + 1, 0, none⟩ _ q (by have := ho.ofrom q hq; show q ≠ w.heap.size + 1; omega)) (fun t ht q hq => Below.heap_setCell w2 ⟨w.heap.size + 1, 0, none⟩ _ q (by have := ho.from t ht q hq; show q ≠ w.heap.size + 1; omega))).lower (by omega)
    have bel9 : Below w.heap.size w w9 := by
      rw [hw9]
      exact (BEL.out.trans (hb.mono (by omega))).setCell (show w.heap.size ≤ w.heap.size + 1 by omega) _
    have HO9 := Lib.hid hown9
    have HB9 := Lib.hid bel9
    clear b2 hb9 hown9 bel9 ho hb
    go_wp2_with fail
    rw [← hw9]
    refine bodyPost_ret (v := .tuple #[.agg #[.slice A (N) c], .bool true]) (by simp [results, Try.results22, go_sem, q9]) rfl ?_
    exact madeGB_yes HR.out rfl HO9.out HB9.out
end Go.Proofs.Yteggllmiapdmcaa
