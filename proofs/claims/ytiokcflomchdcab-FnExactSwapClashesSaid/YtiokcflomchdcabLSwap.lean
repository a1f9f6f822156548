/-
  The walk of the law of SwapClashes.
-/
import Derived.Test.YtiokcflomchdcabSwI
import Derived.Test.YtiokcflomchdcabT2
import Derived.Test.YtiokcflomchdcabHChain
import Derived.Test.YtiokcflomchdcabLast
import Derived.Deep.RegionHeld3
namespace Go.Proofs.Ytiokcflomchdcab
open Go.RowKit

set_option maxRecDepth 1000000 in
set_option maxHeartbeats 4000000 in
theorem swap_walk (A_aTable : Option Addr) (n_aTable c_aTable : Nat) (z_aTable : List (List Int)) (w : World) (h_aTable : Rows2 w.heap.size w A_aTable n_aTable z_aTable) :
    Calls Try.prog 4 #[.slice A_aTable n_aTable c_aTable] w fun e w' => e = .returned (.bool true) ∧ Below w.heap.size w w' := by
  have H_aTable := held_row2 h_aTable
  have L_aTable := h_aTable.len
  have t0 : Hid (w.heap.size ≤ w.heap.size) := Lib.hid (Nat.le_refl _)
  have bel0 : Below w.heap.size w w := Below.refl _ _
  go_enter Try.func4, Try.ntmps4
  go_wp2_with fail
  (go_at_call 13; (with_reducible refine (szInt64SS_any _ _ _ z_aTable 1048576 _ (Rows2.up (Held.now H_aTable) (Nat.le_refl _)) (by omega) (by omega)).mono ?_); rintro e w' ⟨rfl, rfl⟩)
  by_cases big1 : (1048576 : Int) < ((tot2 z_aTable) : Nat)
  · rw [szF_big big1]
    go_wp2_with fail
    go_ret
    exact ⟨rfl, bel0⟩
  have e2 := szF_ok big1
  have H3 : Hid ((tot2 z_aTable) ≤ 1048576) := Lib.hid (by omega)
  have hbd_aTable : (tot2 z_aTable) ≤ 1048576 := H3.out
  have hz6 : 0 ≤ szF 1048576 (tot2 z_aTable) ∧ szF 1048576 (tot2 z_aTable) ≤ 1048576 := by rw [e2]; omega
  generalize szF 1048576 (tot2 z_aTable) = LEFT4 at hz6 ⊢
  clear e2 big1
  have HL5 := Lib.hid hz6
  have hz6a := hz6.1
  clear hz6
  go_wp2_with fail
  (go_at_call 15; (with_reducible refine (toInt64SS_any _ _ _ _ _ (Rows2.up (Held.now H_aTable) (Nat.le_refl _)) (Nat.le_refl _) (small2_len L_aTable H3.out) (small2 H3.out)).mono ?_); rintro e W8 ⟨A11, c12, L13, rfl, o10, b9⟩)
  have h17 := Held.ran H_aTable (ran_below b9 _) (Nat.le_refl _) (.inr (Nat.le_refl _))
  have bel18 : Below w.heap.size w W8 := Below.trans bel0 (Below.mono b9 (Nat.le_refl _))
  have t19 : Hid (w.heap.size ≤ W8.heap.size) := Lib.hid (Nat.le_trans t0.out (Below.size b9))
  clear H_aTable bel0
  have le20 : Hid (w.heap.size ≤ W8.heap.size) := t19
  have t21 : Hid (W8.heap.size ≤ W8.heap.size) := Lib.hid (Nat.le_refl _)
  have fr22 := Own2.from o10
  have lt23 := Own2.lt o10
  have olt24 := Own2.olt o10
  have h25 := held_own2 o10 lt23 olt24
  have ln26 : (lens L13).sum ≤ 2000000 := by rw [Own2.lens o10]; exact Nat.le_trans (sum_le_tot2' _) (Nat.le_trans H3.out (by omega))
  clear o10 b9
  go_wp2_with fail
  (go_at_call 20; (with_reducible refine (specSwaps_any _ _ _ _ _ (Own2.row (Held.now h25)) (Nat.le_refl _)).mono ?_); rintro e W28 ⟨rfl, b27⟩)
  have h29 := Held.ran h17 (ran_below b27 _) (Nat.le_trans (le20.out) t21.out) (.inr (Nat.le_refl _))
  have h30 := Held.ran h25 (ran_below b27 _) (Nat.le_refl _) (.inr (Nat.le_refl _))
  have bel31 : Below w.heap.size w W28 := Below.trans bel18 (Below.mono b27 (Nat.le_trans (le20.out) t21.out))
  have t32 : Hid (W8.heap.size ≤ W28.heap.size) := Lib.hid (Nat.le_trans t21.out (Below.size b27))
  clear h17 h25 bel18
  clear b27
  go_wp2_with fail
  have le33 : Hid (W8.heap.size ≤ W28.heap.size) := t32
  have t34 : Hid (W28.heap.size ≤ W28.heap.size) := Lib.hid (Nat.le_refl _)
  (go_at_call 15; (with_reducible refine (toInt64SS_any _ _ _ _ _ (Rows2.up (Held.now h29) (Nat.le_trans (le20.out) t32.out)) (Nat.le_refl _) (small2_len L_aTable H3.out) (small2 H3.out)).mono ?_); rintro e W35 ⟨A38, c39, L40, rfl, o37, b36⟩)
  have h44 := Held.ran h29 (ran_below b36 _) (Nat.le_trans (Nat.le_trans (le20.out) le33.out) t34.out) (.inr (Nat.le_refl _))
  have h45 := Held.ran h30 (ran_below b36 _) (Nat.le_trans (le33.out) t34.out) (.inr (Nat.le_refl _))
  have bel46 : Below w.heap.size w W35 := Below.trans bel31 (Below.mono b36 (Nat.le_trans (Nat.le_trans (le20.out) le33.out) t34.out))
  have t47 : Hid (W28.heap.size ≤ W35.heap.size) := Lib.hid (Nat.le_trans t34.out (Below.size b36))
  clear h29 h30 bel31
  have le48 : Hid (W28.heap.size ≤ W35.heap.size) := t47
  have t49 : Hid (W35.heap.size ≤ W35.heap.size) := Lib.hid (Nat.le_refl _)
  have fr50 := Own2.from o37
  have lt51 := Own2.lt o37
  have olt52 := Own2.olt o37
  have h53 := held_own2 o37 lt51 olt52
  have ln54 : (lens L40).sum ≤ 2000000 := by rw [Own2.lens o37]; exact Nat.le_trans (sum_le_tot2' _) (Nat.le_trans H3.out (by omega))
  clear o37 b36
  go_wp2_with fail
  (go_at_call 21; (with_reducible refine (implSwapsQ_any _ _ _ _ _ (Own2.row (Held.now h53)) (Nat.le_refl _)).mono ?_); rintro e W56 ⟨rfl, b55⟩)
  have h57 := Held.ran h44 (ran_below b55 _) (Nat.le_trans (Nat.le_trans (Nat.le_trans (le20.out) le33.out) le48.out) t49.out) (.inr (Nat.le_refl _))
  have h58 := Held.ran h45 (ran_below b55 _) (Nat.le_trans (Nat.le_trans (le33.out) le48.out) t49.out) (.inr (Nat.le_refl _))
  have h59 := Held.ran h53 (ran_below b55 _) (Nat.le_refl _) (.inr (Nat.le_refl _))
  have bel60 : Below w.heap.size w W56 := Below.trans bel46 (Below.mono b55 (Nat.le_trans (Nat.le_trans (Nat.le_trans (le20.out) le33.out) le48.out) t49.out))
  have t61 : Hid (W35.heap.size ≤ W56.heap.size) := Lib.hid (Nat.le_trans t49.out (Below.size b55))
  clear h44 h45 h53 bel46
  clear b55
  go_wp2_with fail
  have le63 : Hid (W35.heap.size ≤ W56.heap.size) := t61
  have t64 : Hid (W56.heap.size ≤ W56.heap.size) := Lib.hid (Nat.le_refl _)
  (go_at_call 15; (with_reducible refine (toInt64SS_any _ _ _ _ _ (Rows2.up (Held.now h57) (Nat.le_trans (Nat.le_trans (Nat.le_trans (le20.out) le33.out) le48.out) t61.out)) (Nat.le_refl _) (small2_len L_aTable H3.out) (small2 H3.out)).mono ?_); rintro e W65 ⟨A68, c69, L70, rfl, o67, b66⟩)
  have h74 := Held.ran h57 (ran_below b66 _) (Nat.le_trans (Nat.le_trans (Nat.le_trans (Nat.le_trans (le20.out) le33.out) le48.out) le63.out) t64.out) (.inr (Nat.le_refl _))
  have h75 := Held.ran h58 (ran_below b66 _) (Nat.le_trans (Nat.le_trans (Nat.le_trans (le33.out) le48.out) le63.out) t64.out) (.inr (Nat.le_refl _))
  have h76 := Held.ran h59 (ran_below b66 _) (Nat.le_trans (le63.out) t64.out) (.inr (Nat.le_refl _))
  have bel77 : Below w.heap.size w W65 := Below.trans bel60 (Below.mono b66 (Nat.le_trans (Nat.le_trans (Nat.le_trans (Nat.le_trans (le20.out) le33.out) le48.out) le63.out) t64.out))
  have t78 : Hid (W56.heap.size ≤ W65.heap.size) := Lib.hid (Nat.le_trans t64.out (Below.size b66))
  clear h57 h58 h59 bel60
  have le79 : Hid (W56.heap.size ≤ W65.heap.size) := t78
  have t80 : Hid (W65.heap.size ≤ W65.heap.size) := Lib.hid (Nat.le_refl _)
  have fr81 := Own2.from o67
  have lt82 := Own2.lt o67
  have olt83 := Own2.olt o67
  have h84 := held_own2 o67 lt82 olt83
  have ln85 : (lens L70).sum ≤ 2000000 := by rw [Own2.lens o67]; exact Nat.le_trans (sum_le_tot2' _) (Nat.le_trans H3.out (by omega))
  clear o67 b66
  go_wp2_with fail
  (go_at_call 17; (with_reducible refine (eqInt64SS_any _ _ _ _ _ _ _ (Own2.row (Held.now h76)) (Own2.row (Held.now h84))).mono ?_); rintro e w' ⟨rfl, m86, rfl⟩)
  have h87 := Held.ran h74 (ran_drewN W65 m86 _) (Nat.le_trans (Nat.le_trans (Nat.le_trans (Nat.le_trans (Nat.le_trans (le20.out) le33.out) le48.out) le63.out) le79.out) t80.out) (.inr (Nat.le_refl _))
  have h88 := Held.ran h75 (ran_drewN W65 m86 _) (Nat.le_trans (Nat.le_trans (Nat.le_trans (Nat.le_trans (le33.out) le48.out) le63.out) le79.out) t80.out) (.inr (Nat.le_refl _))
  have h89 := Held.ran h76 (ran_drewN W65 m86 _) (Nat.le_trans (Nat.le_trans (le63.out) le79.out) t80.out) (.inr (Nat.le_refl _))
  have h90 := Held.ran h84 (ran_drewN W65 m86 _) (Nat.le_refl _) (.inr (Nat.le_refl _))
  have bel91 : Below w.heap.size w (World.drewN W65 m86) := below_drewN bel77 m86
  have t92 : Hid (W65.heap.size ≤ ((World.drewN W65 m86)).heap.size) := t80
  clear h74 h75 h76 h84 bel77
  go_wp2_with fail
  go_ret
  exact ⟨rfl, bel91⟩
end Go.Proofs.Ytiokcflomchdcab
