/-
  The walk of the law of ReadList.
-/
import Derived.Test.YtlgoopjbjamlmabDoorNumbI
import Derived.Test.YtlgoopjbjamlmabDoorHeld
namespace Go.Proofs.YtlgoopjbjamlmabDoor
open Go.RowKit

theorem list_held {W : World} (hL : laidMetH Tryd.prog Rows.fnExactReadListRow.laid W) (hS : W.ShapedOpen Tryd.prog) : HeldS W := by
  have hm : ∃ m, W.cell? ⟨2, 0, none⟩ = some (.int .i64 m) := cell_of_shapedOpen_int (zero := #[.int .i64 0]) (t := 3) hS (of_decide_eq_true (by kernel_rfl)) (by kernel_rfl) rfl (by kernel_rfl) (by kernel_rfl) Tryd.underlying3
  rw [MakeChecks.laidMetH_plain _ _ _ (by kernel_rfl)] at hL
  have h3 := laidMet.tail (laidMet.tail hL)
  obtain ⟨hr, lr⟩ := held_err (g := 4) (laidMet.tail (laidMet.tail h3)) (by kernel_rfl) (by kernel_rfl)
  obtain ⟨hs, ls⟩ := held_err (g := 3) (laidMet.tail (laidMet.tail (laidMet.tail h3))) (by kernel_rfl) (by kernel_rfl)
  obtain ⟨m, hm⟩ := hm
  refine ⟨⟨?_, hs, hr, ls, lr⟩, ⟨m, hm⟩, block_of_cell hm⟩
  exact Lib.tabIs_of_head (g := 1) (t := 84) (e := 67) (n := 20) (by kernel_rfl) (by kernel_rfl) Tryd.underlying84 Tryd.underlying67 (by kernel_rfl) (by kernel_rfl) h3

set_option maxRecDepth 1000000 in
set_option maxHeartbeats 2000000 in
theorem readList_walk (t_aS : ByteArray) (w : World) (h_aS : t_aS.size ≤ maxLen) (HS : Hid (HeldS w)) :
    Calls Tryd.prog 4 #[.string t_aS] w fun e w' => e = .returned (.bool true) ∧ Below w.heap.size w w' := by
  have le_aS := h_aS
  unfold maxLen at le_aS
  by_cases big_aS : 1048576 < t_aS.size
  · go_enter Tryd.func4, Tryd.ntmps4
    go_wp2
    go_ret
    exact ⟨rfl, Below.refl _ _⟩
  have hR := listR_le t_aS.data.toList
  have CS : ∀ W, Calls Tryd.prog 9 #[.string t_aS] W (GotList (listR t_aS.data.toList) W) := fun W => specReadList_any t_aS W (by omega)
  have CI : ∀ W, HeldS W → Calls Tryd.prog 10 #[.string t_aS] W (GotList (listR t_aS.data.toList) W) := fun W h => implReadList_any t_aS W (by omega) h
  obtain ⟨o, ho⟩ : ∃ o, o = listR t_aS.data.toList := ⟨_, rfl⟩
  rw [← ho] at hR CS CI
  clear ho
  have t0 : Hid (w.heap.size ≤ w.heap.size) := Lib.hid (Nat.le_refl _)
  have bel0 : Below w.heap.size w w := Below.refl _ _
  go_enter Tryd.func4, Tryd.ntmps4
  go_wp2_with fail
  (go_at_call 9; (with_reducible refine (CS _).mono ?_); rintro e W1 ⟨A4, c5, rfl, o3, b2⟩)
  have bel7 : Below w.heap.size w W1 := Below.trans bel0 (Below.mono b2 (Nat.le_refl _))
  have t8 : Hid (w.heap.size ≤ W1.heap.size) := Lib.hid (Nat.le_trans t0.out (Below.size b2))
  have le9 : Hid (w.heap.size ≤ W1.heap.size) := t8
  have t10 : Hid (W1.heap.size ≤ W1.heap.size) := Lib.hid (Nat.le_refl _)
  have fr11 := Own.from o3
  have lt12 := Own.lt o3
  have h13 := held_own o3 lt12
  clear o3
  go_wp2_with fail
  (go_at_call 10; (with_reducible refine (CI _ (heldS_below HS.out bel7)).mono ?_); rintro e W14 ⟨A17, c18, rfl, o16, b15⟩)
  have h20 := Held.ran h13 (ran_below b15 _) (Nat.le_refl _) (.inr (Nat.le_refl _))
  have bel21 : Below w.heap.size w W14 := Below.trans bel7 (Below.mono b15 (Nat.le_trans (le9.out) t10.out))
  have t22 : Hid (W1.heap.size ≤ W14.heap.size) := Lib.hid (Nat.le_trans t10.out (Below.size b15))
  have le23 : Hid (W1.heap.size ≤ W14.heap.size) := t22
  have t24 : Hid (W14.heap.size ≤ W14.heap.size) := Lib.hid (Nat.le_refl _)
  have fr25 := Own.from o16
  have lt26 := Own.lt o16
  have h27 := held_own o16 lt26
  clear o16
  go_wp2_with fail
  (go_at_call 8; (with_reducible refine (eqInt64S_any _ _ _ _ _ _ _ (Own.row (Held.now h27)) (Own.row (Held.now h20))).mono ?_); rintro e w' ⟨rfl, m28, rfl⟩)
  have h29 := Held.ran h20 (ran_drewN W14 m28 _) (Nat.le_trans (le23.out) t24.out) (.inr (Nat.le_refl _))
  have h30 := Held.ran h27 (ran_drewN W14 m28 _) (Nat.le_refl _) (.inr (Nat.le_refl _))
  have bel31 : Below w.heap.size w (World.drewN W14 m28) := below_drewN bel21 m28
  have t32 : Hid (W14.heap.size ≤ ((World.drewN W14 m28)).heap.size) := t24
  go_wp2_with fail
  (go_at_call 11; (with_reducible refine (mark_any _ _ _ 1 1 (by omega) _ _ (Held.now h30) (by omega)).mono ?_); rintro e W35 ⟨rfl, o33, k34⟩)
  have r36 := ran_only k34 fr25 lt26
  have h37 := Held.ran h29 (r36) (Nat.le_trans (le23.out) t32.out) (.inr (Nat.le_refl _))
  have bel38 : Below w.heap.size w W35 := Below.trans bel31 (Ran.below r36 (le9.out) (Nat.le_trans (Nat.le_trans (le9.out) le23.out) t32.out))
  have t39 : Hid (W14.heap.size ≤ W35.heap.size) := Lib.hid (Nat.le_trans t32.out (Ran.size r36))
  have h40 := held_own o33 lt26
  clear o33
  go_wp2_with fail
  (go_at_call 12; (with_reducible refine (held_any _ _ _ 1 1 (by omega) _ (Own.row (Held.now h40)) (by omega)).mono ?_); rintro e w' ⟨rfl, rfl⟩)
  have le41 : Hid (W14.heap.size ≤ W35.heap.size) := t39
  have t42 : Hid (W35.heap.size ≤ W35.heap.size) := Lib.hid (Nat.le_refl _)
  go_wp2_with fail
  (go_at_call 10; (with_reducible refine (CI _ (heldS_below HS.out bel38)).mono ?_); rintro e W43 ⟨A46, c47, rfl, o45, b44⟩)
  have h49 := Held.ran h37 (ran_below b44 _) (Nat.le_trans (Nat.le_trans (le23.out) le41.out) t42.out) (.inr (Nat.le_refl _))
  have h50 := Held.ran h40 (ran_below b44 _) (Nat.le_trans (le41.out) t42.out) (.inr (Nat.le_refl _))
  have bel51 : Below w.heap.size w W43 := Below.trans bel38 (Below.mono b44 (Nat.le_trans (Nat.le_trans (Nat.le_trans (le9.out) le23.out) le41.out) t42.out))
  have t52 : Hid (W35.heap.size ≤ W43.heap.size) := Lib.hid (Nat.le_trans t42.out (Below.size b44))
  have le53 : Hid (W35.heap.size ≤ W43.heap.size) := t52
  have t54 : Hid (W43.heap.size ≤ W43.heap.size) := Lib.hid (Nat.le_refl _)
  have fr55 := Own.from o45
  have lt56 := Own.lt o45
  have h57 := held_own o45 lt56
  clear o45
  go_wp2_with fail
  (go_at_call 8; (with_reducible refine (eqInt64S_any _ _ _ _ _ _ _ (Own.row (Held.now h57)) (Own.row (Held.now h49))).mono ?_); rintro e w' ⟨rfl, m58, rfl⟩)
  have h59 := Held.ran h49 (ran_drewN W43 m58 _) (Nat.le_trans (Nat.le_trans (Nat.le_trans (le23.out) le41.out) le53.out) t54.out) (.inr (Nat.le_refl _))
  have h60 := Held.ran h50 (ran_drewN W43 m58 _) (Nat.le_trans (Nat.le_trans (le41.out) le53.out) t54.out) (.inr (Nat.le_refl _))
  have h61 := Held.ran h57 (ran_drewN W43 m58 _) (Nat.le_refl _) (.inr (Nat.le_refl _))
  have bel62 : Below w.heap.size w (World.drewN W43 m58) := below_drewN bel51 m58
  have t63 : Hid (W43.heap.size ≤ ((World.drewN W43 m58)).heap.size) := t54
  go_wp2_with fail
  (go_at_call 12; (with_reducible refine (held_any _ _ _ 1 1 (by omega) _ (Own.row (Held.now h60)) (by omega)).mono ?_); rintro e w' ⟨rfl, rfl⟩)
  go_wp2_with fail
  go_ret
  exact ⟨rfl, bel62⟩
end Go.Proofs.YtlgoopjbjamlmabDoor
