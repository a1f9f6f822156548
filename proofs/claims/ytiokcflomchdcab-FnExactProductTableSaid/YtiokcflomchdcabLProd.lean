/-
  The walk of the law of ProductTable.
-/
import Derived.Test.YtiokcflomchdcabProd
import Derived.Test.YtiokcflomchdcabT2
import Derived.Test.YtiokcflomchdcabHChain
import Derived.Test.YtiokcflomchdcabLast
import Derived.Deep.RegionHeld3
namespace Go.Proofs.Ytiokcflomchdcab
open Go.RowKit

set_option maxRecDepth 1000000 in
set_option maxHeartbeats 4000000 in
theorem prod_walk (A_aS : Option Addr) (n_aS c_aS : Nat) (z_aS : List (List Int)) (A_aT : Option Addr) (n_aT c_aT : Nat) (z_aT : List (List Int)) (w : World) (h_aS : Rows2 w.heap.size w A_aS n_aS z_aS) (h_aT : Rows2 w.heap.size w A_aT n_aT z_aT) :
    Calls Try.prog 8 #[.slice A_aS n_aS c_aS, .slice A_aT n_aT c_aT] w fun e w' => e = .returned (.bool true) ∧ Below w.heap.size w w' := by
  have hR := prodO_sum z_aS z_aT
  obtain ⟨o, ho⟩ : ∃ o, o = prodO z_aS z_aT := ⟨_, rfl⟩
  have CS : ∀ {B1 B2 : Nat} (A1 A2 : Option Addr) (n c1 m c2 : Nat) (W : World), Rows2 B1 W A1 n z_aS → B1 ≤ W.heap.size → Rows2 B2 W A2 m z_aT → B2 ≤ W.heap.size → Calls Try.prog 28 #[.slice A1 n c1, .slice A2 m c2] W (GotT o W) := fun A1 A2 n c1 m c2 W h1 hB1 h2 hB2 => by rw [ho]; exact specProd_any A1 A2 n c1 m c2 z_aS z_aT W h1 hB1 h2 hB2
  have CI : ∀ {B1 B2 : Nat} (A1 A2 : Option Addr) (n c1 m c2 : Nat) (W : World), Rows2 B1 W A1 n z_aS → B1 ≤ W.heap.size → Rows2 B2 W A2 m z_aT → B2 ≤ W.heap.size → Calls Try.prog 29 #[.slice A1 n c1, .slice A2 m c2] W (GotT o W) := fun A1 A2 n c1 m c2 W h1 hB1 h2 hB2 => by rw [ho]; exact implProd_any A1 A2 n c1 m c2 z_aS z_aT W h1 hB1 h2 hB2
  rw [← ho] at hR
  clear ho
  have H_aS := held_row2 h_aS
  have L_aS := h_aS.len
  have H_aT := held_row2 h_aT
  have L_aT := h_aT.len
  have t0 : Hid (w.heap.size ≤ w.heap.size) := Lib.hid (Nat.le_refl _)
  have bel0 : Below w.heap.size w w := Below.refl _ _
  go_enter Try.func8, Try.ntmps8
  go_wp2_with fail
  (go_at_call 13; (with_reducible refine (szInt64SS_any _ _ _ z_aS 1048576 _ (Rows2.up (Held.now H_aS) (Nat.le_refl _)) (by omega) (by omega)).mono ?_); rintro e w' ⟨rfl, rfl⟩)
  by_cases big1 : (1048576 : Int) < ((tot2 z_aS) : Nat)
  · rw [szF_big big1]
    go_wp2_with fail
    go_ret
    exact ⟨rfl, bel0⟩
  have e2 := szF_ok big1
  have H3 : Hid ((tot2 z_aS) ≤ 1048576) := Lib.hid (by omega)
  have hbd_aS : (tot2 z_aS) ≤ 1048576 := H3.out
  have hz6 : 0 ≤ szF 1048576 (tot2 z_aS) ∧ szF 1048576 (tot2 z_aS) ≤ 1048576 := by rw [e2]; omega
  generalize szF 1048576 (tot2 z_aS) = LEFT4 at hz6 ⊢
  clear e2 big1
  have HL5 := Lib.hid hz6
  have hz6a := hz6.1
  clear hz6
  go_wp2_with fail
  (go_at_call 13; (with_reducible refine (szInt64SS_any _ _ _ z_aT LEFT4 _ (Rows2.up (Held.now H_aT) (Nat.le_refl _)) HL5.out.1 HL5.out.2).mono ?_); rintro e w' ⟨rfl, rfl⟩)
  by_cases big7 : (LEFT4 : Int) < ((tot2 z_aT) : Nat)
  · rw [szF_big big7]
    go_wp2_with fail
    go_ret
    exact ⟨rfl, bel0⟩
  have e8 := szF_ok big7
  have hqe8 := HL5.out
  have H9 : Hid ((tot2 z_aT) ≤ 1048576) := Lib.hid (by omega)
  have hbd_aT : (tot2 z_aT) ≤ 1048576 := H9.out
  have hz12 : 0 ≤ szF LEFT4 (tot2 z_aT) ∧ szF LEFT4 (tot2 z_aT) ≤ 1048576 := by rw [e8]; omega
  clear hqe8
  generalize szF LEFT4 (tot2 z_aT) = LEFT10 at hz12 ⊢
  clear e8 big7
  have HL11 := Lib.hid hz12
  have hz12a := hz12.1
  clear hz12
  go_wp2_with fail
  (go_at_call 15; (with_reducible refine (toInt64SS_any _ _ _ _ _ (Rows2.up (Held.now H_aS) (Nat.le_refl _)) (Nat.le_refl _) (small2_len L_aS H3.out) (small2 H3.out)).mono ?_); rintro e W14 ⟨A17, c18, L19, rfl, o16, b15⟩)
  have h23 := Held.ran H_aS (ran_below b15 _) (Nat.le_refl _) (.inr (Nat.le_refl _))
  have h24 := Held.ran H_aT (ran_below b15 _) (Nat.le_refl _) (.inr (Nat.le_refl _))
  have bel25 : Below w.heap.size w W14 := Below.trans bel0 (Below.mono b15 (Nat.le_refl _))
  have t26 : Hid (w.heap.size ≤ W14.heap.size) := Lib.hid (Nat.le_trans t0.out (Below.size b15))
  clear H_aS H_aT bel0
  have le27 : Hid (w.heap.size ≤ W14.heap.size) := t26
  have t28 : Hid (W14.heap.size ≤ W14.heap.size) := Lib.hid (Nat.le_refl _)
  have fr29 := Own2.from o16
  have lt30 := Own2.lt o16
  have olt31 := Own2.olt o16
  have h32 := held_own2 o16 lt30 olt31
  have ln33 : (lens L19).sum ≤ 2000000 := by rw [Own2.lens o16]; exact Nat.le_trans (sum_le_tot2' _) (Nat.le_trans H3.out (by omega))
  clear o16 b15
  go_wp2_with fail
  (go_at_call 15; (with_reducible refine (toInt64SS_any _ _ _ _ _ (Rows2.up (Held.now h24) (Nat.le_trans (le27.out) t28.out)) (Nat.le_refl _) (small2_len L_aT H9.out) (small2 H9.out)).mono ?_); rintro e W35 ⟨A38, c39, L40, rfl, o37, b36⟩)
  have h44 := Held.ran h23 (ran_below b36 _) (Nat.le_trans (le27.out) t28.out) (.inr (Nat.le_refl _))
  have h45 := Held.ran h24 (ran_below b36 _) (Nat.le_trans (le27.out) t28.out) (.inr (Nat.le_refl _))
  have h46 := Held.ran h32 (ran_below b36 _) (Nat.le_refl _) (.inr (Nat.le_refl _))
  have bel47 : Below w.heap.size w W35 := Below.trans bel25 (Below.mono b36 (Nat.le_trans (le27.out) t28.out))
  have t48 : Hid (W14.heap.size ≤ W35.heap.size) := Lib.hid (Nat.le_trans t28.out (Below.size b36))
  clear h23 h24 h32 bel25
  have le49 : Hid (W14.heap.size ≤ W35.heap.size) := t48
  have t50 : Hid (W35.heap.size ≤ W35.heap.size) := Lib.hid (Nat.le_refl _)
  have fr51 := Own2.from o37
  have lt52 := Own2.lt o37
  have olt53 := Own2.olt o37
  have h54 := held_own2 o37 lt52 olt53
  have ln55 : (lens L40).sum ≤ 2000000 := by rw [Own2.lens o37]; exact Nat.le_trans (sum_le_tot2' _) (Nat.le_trans H9.out (by omega))
  clear o37 b36
  go_wp2_with fail
  (go_at_call 28; (with_reducible refine (CS _ _ _ _ _ _ _ (Own2.row (Held.now h46)) (Nat.le_refl _) (Own2.row (Held.now h54)) (Nat.le_refl _)).mono ?_); rintro e W56 ⟨A59, c60, L61, rfl, o58, b57⟩)
  have h65 := Held.ran h44 (ran_below b57 _) (Nat.le_trans (Nat.le_trans (le27.out) le49.out) t50.out) (.inr (Nat.le_refl _))
  have h66 := Held.ran h45 (ran_below b57 _) (Nat.le_trans (Nat.le_trans (le27.out) le49.out) t50.out) (.inr (Nat.le_refl _))
  have h67 := Held.ran h46 (ran_below b57 _) (Nat.le_trans (le49.out) t50.out) (.inr (Nat.le_refl _))
  have h68 := Held.ran h54 (ran_below b57 _) (Nat.le_refl _) (.inr (Nat.le_refl _))
  have bel69 : Below w.heap.size w W56 := Below.trans bel47 (Below.mono b57 (Nat.le_trans (Nat.le_trans (le27.out) le49.out) t50.out))
  have t70 : Hid (W35.heap.size ≤ W56.heap.size) := Lib.hid (Nat.le_trans t50.out (Below.size b57))
  clear h44 h45 h46 h54 bel47
  have le71 : Hid (W35.heap.size ≤ W56.heap.size) := t70
  have t72 : Hid (W56.heap.size ≤ W56.heap.size) := Lib.hid (Nat.le_refl _)
  have fr73 := Own2.from o58
  have lt74 := Own2.lt o58
  have olt75 := Own2.olt o58
  have h76 := held_own2 o58 lt74 olt75
  have ln77 : (lens L61).sum ≤ 2000000 := by rw [Own2.lens o58]; exact (Nat.le_trans hR (by decide))
  clear o58 b57
  go_wp2_with fail
  (go_at_call 15; (with_reducible refine (toInt64SS_any _ _ _ _ _ (Rows2.up (Held.now h65) (Nat.le_trans (Nat.le_trans (Nat.le_trans (le27.out) le49.out) le71.out) t72.out)) (Nat.le_refl _) (small2_len L_aS H3.out) (small2 H3.out)).mono ?_); rintro e W78 ⟨A81, c82, L83, rfl, o80, b79⟩)
  have h87 := Held.ran h65 (ran_below b79 _) (Nat.le_trans (Nat.le_trans (Nat.le_trans (le27.out) le49.out) le71.out) t72.out) (.inr (Nat.le_refl _))
  have h88 := Held.ran h66 (ran_below b79 _) (Nat.le_trans (Nat.le_trans (Nat.le_trans (le27.out) le49.out) le71.out) t72.out) (.inr (Nat.le_refl _))
  have h89 := Held.ran h67 (ran_below b79 _) (Nat.le_trans (Nat.le_trans (le49.out) le71.out) t72.out) (.inr (Nat.le_refl _))
  have h90 := Held.ran h68 (ran_below b79 _) (Nat.le_trans (le71.out) t72.out) (.inr (Nat.le_refl _))
  have h91 := Held.ran h76 (ran_below b79 _) (Nat.le_refl _) (.inr (Nat.le_refl _))
  have bel92 : Below w.heap.size w W78 := Below.trans bel69 (Below.mono b79 (Nat.le_trans (Nat.le_trans (Nat.le_trans (le27.out) le49.out) le71.out) t72.out))
  have t93 : Hid (W56.heap.size ≤ W78.heap.size) := Lib.hid (Nat.le_trans t72.out (Below.size b79))
  clear h65 h66 h67 h68 h76 bel69
  have le94 : Hid (W56.heap.size ≤ W78.heap.size) := t93
  have t95 : Hid (W78.heap.size ≤ W78.heap.size) := Lib.hid (Nat.le_refl _)
  have fr96 := Own2.from o80
  have lt97 := Own2.lt o80
  have olt98 := Own2.olt o80
  have h99 := held_own2 o80 lt97 olt98
  have ln100 : (lens L83).sum ≤ 2000000 := by rw [Own2.lens o80]; exact Nat.le_trans (sum_le_tot2' _) (Nat.le_trans H3.out (by omega))
  clear o80 b79
  go_wp2_with fail
  (go_at_call 15; (with_reducible refine (toInt64SS_any _ _ _ _ _ (Rows2.up (Held.now h88) (Nat.le_trans (Nat.le_trans (Nat.le_trans (Nat.le_trans (le27.out) le49.out) le71.out) le94.out) t95.out)) (Nat.le_refl _) (small2_len L_aT H9.out) (small2 H9.out)).mono ?_); rintro e W101 ⟨A104, c105, L106, rfl, o103, b102⟩)
  have h110 := Held.ran h87 (ran_below b102 _) (Nat.le_trans (Nat.le_trans (Nat.le_trans (Nat.le_trans (le27.out) le49.out) le71.out) le94.out) t95.out) (.inr (Nat.le_refl _))
  have h111 := Held.ran h88 (ran_below b102 _) (Nat.le_trans (Nat.le_trans (Nat.le_trans (Nat.le_trans (le27.out) le49.out) le71.out) le94.out) t95.out) (.inr (Nat.le_refl _))
  have h112 := Held.ran h89 (ran_below b102 _) (Nat.le_trans (Nat.le_trans (Nat.le_trans (le49.out) le71.out) le94.out) t95.out) (.inr (Nat.le_refl _))
  have h113 := Held.ran h90 (ran_below b102 _) (Nat.le_trans (Nat.le_trans (le71.out) le94.out) t95.out) (.inr (Nat.le_refl _))
  have h114 := Held.ran h91 (ran_below b102 _) (Nat.le_trans (le94.out) t95.out) (.inr (Nat.le_refl _))
  have h115 := Held.ran h99 (ran_below b102 _) (Nat.le_refl _) (.inr (Nat.le_refl _))
  have bel116 : Below w.heap.size w W101 := Below.trans bel92 (Below.mono b102 (Nat.le_trans (Nat.le_trans (Nat.le_trans (Nat.le_trans (le27.out) le49.out) le71.out) le94.out) t95.out))
  have t117 : Hid (W78.heap.size ≤ W101.heap.size) := Lib.hid (Nat.le_trans t95.out (Below.size b102))
  clear h87 h88 h89 h90 h91 h99 bel92
  have le118 : Hid (W78.heap.size ≤ W101.heap.size) := t117
  have t119 : Hid (W101.heap.size ≤ W101.heap.size) := Lib.hid (Nat.le_refl _)
  have fr120 := Own2.from o103
  have lt121 := Own2.lt o103
  have olt122 := Own2.olt o103
  have h123 := held_own2 o103 lt121 olt122
  have ln124 : (lens L106).sum ≤ 2000000 := by rw [Own2.lens o103]; exact Nat.le_trans (sum_le_tot2' _) (Nat.le_trans H9.out (by omega))
  clear o103 b102
  go_wp2_with fail
  (go_at_call 29; (with_reducible refine (CI _ _ _ _ _ _ _ (Own2.row (Held.now h115)) (Nat.le_refl _) (Own2.row (Held.now h123)) (Nat.le_refl _)).mono ?_); rintro e W125 ⟨A128, c129, L130, rfl, o127, b126⟩)
  have h134 := Held.ran h110 (ran_below b126 _) (Nat.le_trans (Nat.le_trans (Nat.le_trans (Nat.le_trans (Nat.le_trans (le27.out) le49.out) le71.out) le94.out) le118.out) t119.out) (.inr (Nat.le_refl _))
  have h135 := Held.ran h111 (ran_below b126 _) (Nat.le_trans (Nat.le_trans (Nat.le_trans (Nat.le_trans (Nat.le_trans (le27.out) le49.out) le71.out) le94.out) le118.out) t119.out) (.inr (Nat.le_refl _))
  have h136 := Held.ran h112 (ran_below b126 _) (Nat.le_trans (Nat.le_trans (Nat.le_trans (Nat.le_trans (le49.out) le71.out) le94.out) le118.out) t119.out) (.inr (Nat.le_refl _))
  have h137 := Held.ran h113 (ran_below b126 _) (Nat.le_trans (Nat.le_trans (Nat.le_trans (le71.out) le94.out) le118.out) t119.out) (.inr (Nat.le_refl _))
  have h138 := Held.ran h114 (ran_below b126 _) (Nat.le_trans (Nat.le_trans (le94.out) le118.out) t119.out) (.inr (Nat.le_refl _))
  have h139 := Held.ran h115 (ran_below b126 _) (Nat.le_trans (le118.out) t119.out) (.inr (Nat.le_refl _))
  have h140 := Held.ran h123 (ran_below b126 _) (Nat.le_refl _) (.inr (Nat.le_refl _))
  have bel141 : Below w.heap.size w W125 := Below.trans bel116 (Below.mono b126 (Nat.le_trans (Nat.le_trans (Nat.le_trans (Nat.le_trans (Nat.le_trans (le27.out) le49.out) le71.out) le94.out) le118.out) t119.out))
  have t142 : Hid (W101.heap.size ≤ W125.heap.size) := Lib.hid (Nat.le_trans t119.out (Below.size b126))
  clear h110 h111 h112 h113 h114 h115 h123 bel116
  have le143 : Hid (W101.heap.size ≤ W125.heap.size) := t142
  have t144 : Hid (W125.heap.size ≤ W125.heap.size) := Lib.hid (Nat.le_refl _)
  have fr145 := Own2.from o127
  have lt146 := Own2.lt o127
  have olt147 := Own2.olt o127
  have h148 := held_own2 o127 lt146 olt147
  have ln149 : (lens L130).sum ≤ 2000000 := by rw [Own2.lens o127]; exact (Nat.le_trans hR (by decide))
  clear o127 b126
  go_wp2_with fail
  (go_at_call 17; (with_reducible refine (eqInt64SS_any _ _ _ _ _ _ _ (Own2.row (Held.now h148)) (Own2.row (Held.now h138))).mono ?_); rintro e w' ⟨rfl, m150, rfl⟩)
  have h151 := Held.ran h134 (ran_drewN W125 m150 _) (Nat.le_trans (Nat.le_trans (Nat.le_trans (Nat.le_trans (Nat.le_trans (Nat.le_trans (le27.out) le49.out) le71.out) le94.out) le118.out) le143.out) t144.out) (.inr (Nat.le_refl _))
  have h152 := Held.ran h135 (ran_drewN W125 m150 _) (Nat.le_trans (Nat.le_trans (Nat.le_trans (Nat.le_trans (Nat.le_trans (Nat.le_trans (le27.out) le49.out) le71.out) le94.out) le118.out) le143.out) t144.out) (.inr (Nat.le_refl _))
  have h153 := Held.ran h136 (ran_drewN W125 m150 _) (Nat.le_trans (Nat.le_trans (Nat.le_trans (Nat.le_trans (Nat.le_trans (le49.out) le71.out) le94.out) le118.out) le143.out) t144.out) (.inr (Nat.le_refl _))
  have h154 := Held.ran h137 (ran_drewN W125 m150 _) (Nat.le_trans (Nat.le_trans (Nat.le_trans (Nat.le_trans (le71.out) le94.out) le118.out) le143.out) t144.out) (.inr (Nat.le_refl _))
  have h155 := Held.ran h138 (ran_drewN W125 m150 _) (Nat.le_trans (Nat.le_trans (Nat.le_trans (le94.out) le118.out) le143.out) t144.out) (.inr (Nat.le_refl _))
  have h156 := Held.ran h139 (ran_drewN W125 m150 _) (Nat.le_trans (Nat.le_trans (le118.out) le143.out) t144.out) (.inr (Nat.le_refl _))
  have h157 := Held.ran h140 (ran_drewN W125 m150 _) (Nat.le_trans (le143.out) t144.out) (.inr (Nat.le_refl _))
  have h158 := Held.ran h148 (ran_drewN W125 m150 _) (Nat.le_refl _) (.inr (Nat.le_refl _))
  have bel159 : Below w.heap.size w (World.drewN W125 m150) := below_drewN bel141 m150
  have t160 : Hid (W125.heap.size ≤ ((World.drewN W125 m150)).heap.size) := t144
  clear h134 h135 h136 h137 h138 h139 h140 h148 bel141
  go_wp2_with fail
  have le162 : Hid (W125.heap.size ≤ (World.drewN W125 m150).heap.size) := t160
  have t163 : Hid ((World.drewN W125 m150).heap.size ≤ (World.drewN W125 m150).heap.size) := Lib.hid (Nat.le_refl _)
  (go_at_call 15; (with_reducible refine (toInt64SS_any _ _ _ _ _ (Rows2.up (Held.now h151) (Nat.le_trans (Nat.le_trans (Nat.le_trans (Nat.le_trans (Nat.le_trans (Nat.le_trans (le27.out) le49.out) le71.out) le94.out) le118.out) le143.out) t160.out)) (Nat.le_refl _) (small2_len L_aS H3.out) (small2 H3.out)).mono ?_); rintro e W164 ⟨A167, c168, L169, rfl, o166, b165⟩)
  have h173 := Held.ran h151 (ran_below b165 _) (Nat.le_trans (Nat.le_trans (Nat.le_trans (Nat.le_trans (Nat.le_trans (Nat.le_trans (Nat.le_trans (le27.out) le49.out) le71.out) le94.out) le118.out) le143.out) le162.out) t163.out) (.inr (Nat.le_refl _))
  have h174 := Held.ran h152 (ran_below b165 _) (Nat.le_trans (Nat.le_trans (Nat.le_trans (Nat.le_trans (Nat.le_trans (Nat.le_trans (Nat.le_trans (le27.out) le49.out) le71.out) le94.out) le118.out) le143.out) le162.out) t163.out) (.inr (Nat.le_refl _))
  have h175 := Held.ran h153 (ran_below b165 _) (Nat.le_trans (Nat.le_trans (Nat.le_trans (Nat.le_trans (Nat.le_trans (Nat.le_trans (le49.out) le71.out) le94.out) le118.out) le143.out) le162.out) t163.out) (.inr (Nat.le_refl _))
  have h176 := Held.ran h154 (ran_below b165 _) (Nat.le_trans (Nat.le_trans (Nat.le_trans (Nat.le_trans (Nat.le_trans (le71.out) le94.out) le118.out) le143.out) le162.out) t163.out) (.inr (Nat.le_refl _))
  have h177 := Held.ran h155 (ran_below b165 _) (Nat.le_trans (Nat.le_trans (Nat.le_trans (Nat.le_trans (le94.out) le118.out) le143.out) le162.out) t163.out) (.inr (Nat.le_refl _))
  have h178 := Held.ran h156 (ran_below b165 _) (Nat.le_trans (Nat.le_trans (Nat.le_trans (le118.out) le143.out) le162.out) t163.out) (.inr (Nat.le_refl _))
  have h179 := Held.ran h157 (ran_below b165 _) (Nat.le_trans (Nat.le_trans (le143.out) le162.out) t163.out) (.inr (Nat.le_refl _))
  have h180 := Held.ran h158 (ran_below b165 _) (Nat.le_trans (le162.out) t163.out) (.inr (Nat.le_refl _))
  have bel181 : Below w.heap.size w W164 := Below.trans bel159 (Below.mono b165 (Nat.le_trans (Nat.le_trans (Nat.le_trans (Nat.le_trans (Nat.le_trans (Nat.le_trans (Nat.le_trans (le27.out) le49.out) le71.out) le94.out) le118.out) le143.out) le162.out) t163.out))
  have t182 : Hid ((World.drewN W125 m150).heap.size ≤ W164.heap.size) := Lib.hid (Nat.le_trans t163.out (Below.size b165))
  clear h151 h152 h153 h154 h155 h156 h157 h158 bel159
  have le183 : Hid ((World.drewN W125 m150).heap.size ≤ W164.heap.size) := t182
  have t184 : Hid (W164.heap.size ≤ W164.heap.size) := Lib.hid (Nat.le_refl _)
  have fr185 := Own2.from o166
  have lt186 := Own2.lt o166
  have olt187 := Own2.olt o166
  have h188 := held_own2 o166 lt186 olt187
  have ln189 : (lens L169).sum ≤ 2000000 := by rw [Own2.lens o166]; exact Nat.le_trans (sum_le_tot2' _) (Nat.le_trans H3.out (by omega))
  clear o166 b165
  go_wp2_with fail
  (go_at_call 17; (with_reducible refine (eqInt64SS_any _ _ _ _ _ _ _ (Own2.row (Held.now h178)) (Own2.row (Held.now h188))).mono ?_); rintro e w' ⟨rfl, m190, rfl⟩)
  have h191 := Held.ran h173 (ran_drewN W164 m190 _) (Nat.le_trans (Nat.le_trans (Nat.le_trans (Nat.le_trans (Nat.le_trans (Nat.le_trans (Nat.le_trans (Nat.le_trans (le27.out) le49.out) le71.out) le94.out) le118.out) le143.out) le162.out) le183.out) t184.out) (.inr (Nat.le_refl _))
  have h192 := Held.ran h174 (ran_drewN W164 m190 _) (Nat.le_trans (Nat.le_trans (Nat.le_trans (Nat.le_trans (Nat.le_trans (Nat.le_trans (Nat.le_trans (Nat.le_trans (le27.out) le49.out) le71.out) le94.out) le118.out) le143.out) le162.out) le183.out) t184.out) (.inr (Nat.le_refl _))
  have h193 := Held.ran h175 (ran_drewN W164 m190 _) (Nat.le_trans (Nat.le_trans (Nat.le_trans (Nat.le_trans (Nat.le_trans (Nat.le_trans (Nat.le_trans (le49.out) le71.out) le94.out) le118.out) le143.out) le162.out) le183.out) t184.out) (.inr (Nat.le_refl _))
  have h194 := Held.ran h176 (ran_drewN W164 m190 _) (Nat.le_trans (Nat.le_trans (Nat.le_trans (Nat.le_trans (Nat.le_trans (Nat.le_trans (le71.out) le94.out) le118.out) le143.out) le162.out) le183.out) t184.out) (.inr (Nat.le_refl _))
  have h195 := Held.ran h177 (ran_drewN W164 m190 _) (Nat.le_trans (Nat.le_trans (Nat.le_trans (Nat.le_trans (Nat.le_trans (le94.out) le118.out) le143.out) le162.out) le183.out) t184.out) (.inr (Nat.le_refl _))
  have h196 := Held.ran h178 (ran_drewN W164 m190 _) (Nat.le_trans (Nat.le_trans (Nat.le_trans (Nat.le_trans (le118.out) le143.out) le162.out) le183.out) t184.out) (.inr (Nat.le_refl _))
  have h197 := Held.ran h179 (ran_drewN W164 m190 _) (Nat.le_trans (Nat.le_trans (Nat.le_trans (le143.out) le162.out) le183.out) t184.out) (.inr (Nat.le_refl _))
  have h198 := Held.ran h180 (ran_drewN W164 m190 _) (Nat.le_trans (Nat.le_trans (le162.out) le183.out) t184.out) (.inr (Nat.le_refl _))
  have h199 := Held.ran h188 (ran_drewN W164 m190 _) (Nat.le_refl _) (.inr (Nat.le_refl _))
  have bel200 : Below w.heap.size w (World.drewN W164 m190) := below_drewN bel181 m190
  have t201 : Hid (W164.heap.size ≤ ((World.drewN W164 m190)).heap.size) := t184
  clear h173 h174 h175 h176 h177 h178 h179 h180 h188 bel181
  go_wp2_with fail
  have le203 : Hid (W164.heap.size ≤ (World.drewN W164 m190).heap.size) := t201
  have t204 : Hid ((World.drewN W164 m190).heap.size ≤ (World.drewN W164 m190).heap.size) := Lib.hid (Nat.le_refl _)
  (go_at_call 15; (with_reducible refine (toInt64SS_any _ _ _ _ _ (Rows2.up (Held.now h192) (Nat.le_trans (Nat.le_trans (Nat.le_trans (Nat.le_trans (Nat.le_trans (Nat.le_trans (Nat.le_trans (Nat.le_trans (le27.out) le49.out) le71.out) le94.out) le118.out) le143.out) le162.out) le183.out) t201.out)) (Nat.le_refl _) (small2_len L_aT H9.out) (small2 H9.out)).mono ?_); rintro e W205 ⟨A208, c209, L210, rfl, o207, b206⟩)
  have h214 := Held.ran h191 (ran_below b206 _) (Nat.le_trans (Nat.le_trans (Nat.le_trans (Nat.le_trans (Nat.le_trans (Nat.le_trans (Nat.le_trans (Nat.le_trans (Nat.le_trans (le27.out) le49.out) le71.out) le94.out) le118.out) le143.out) le162.out) le183.out) le203.out) t204.out) (.inr (Nat.le_refl _))
  have h215 := Held.ran h192 (ran_below b206 _) (Nat.le_trans (Nat.le_trans (Nat.le_trans (Nat.le_trans (Nat.le_trans (Nat.le_trans (Nat.le_trans (Nat.le_trans (Nat.le_trans (le27.out) le49.out) le71.out) le94.out) le118.out) le143.out) le162.out) le183.out) le203.out) t204.out) (.inr (Nat.le_refl _))
  have h216 := Held.ran h193 (ran_below b206 _) (Nat.le_trans (Nat.le_trans (Nat.le_trans (Nat.le_trans (Nat.le_trans (Nat.le_trans (Nat.le_trans (Nat.le_trans (le49.out) le71.out) le94.out) le118.out) le143.out) le162.out) le183.out) le203.out) t204.out) (.inr (Nat.le_refl _))
  have h217 := Held.ran h194 (ran_below b206 _) (Nat.le_trans (Nat.le_trans (Nat.le_trans (Nat.le_trans (Nat.le_trans (Nat.le_trans (Nat.le_trans (le71.out) le94.out) le118.out) le143.out) le162.out) le183.out) le203.out) t204.out) (.inr (Nat.le_refl _))
  have h218 := Held.ran h195 (ran_below b206 _) (Nat.le_trans (Nat.le_trans (Nat.le_trans (Nat.le_trans (Nat.le_trans (Nat.le_trans (le94.out) le118.out) le143.out) le162.out) le183.out) le203.out) t204.out) (.inr (Nat.le_refl _))
  have h219 := Held.ran h196 (ran_below b206 _) (Nat.le_trans (Nat.le_trans (Nat.le_trans (Nat.le_trans (Nat.le_trans (le118.out) le143.out) le162.out) le183.out) le203.out) t204.out) (.inr (Nat.le_refl _))
  have h220 := Held.ran h197 (ran_below b206 _) (Nat.le_trans (Nat.le_trans (Nat.le_trans (Nat.le_trans (le143.out) le162.out) le183.out) le203.out) t204.out) (.inr (Nat.le_refl _))
  have h221 := Held.ran h198 (ran_below b206 _) (Nat.le_trans (Nat.le_trans (Nat.le_trans (le162.out) le183.out) le203.out) t204.out) (.inr (Nat.le_refl _))
  have h222 := Held.ran h199 (ran_below b206 _) (Nat.le_trans (le203.out) t204.out) (.inr (Nat.le_refl _))
  have bel223 : Below w.heap.size w W205 := Below.trans bel200 (Below.mono b206 (Nat.le_trans (Nat.le_trans (Nat.le_trans (Nat.le_trans (Nat.le_trans (Nat.le_trans (Nat.le_trans (Nat.le_trans (Nat.le_trans (le27.out) le49.out) le71.out) le94.out) le118.out) le143.out) le162.out) le183.out) le203.out) t204.out))
  have t224 : Hid ((World.drewN W164 m190).heap.size ≤ W205.heap.size) := Lib.hid (Nat.le_trans t204.out (Below.size b206))
  clear h191 h192 h193 h194 h195 h196 h197 h198 h199 bel200
  have le225 : Hid ((World.drewN W164 m190).heap.size ≤ W205.heap.size) := t224
  have t226 : Hid (W205.heap.size ≤ W205.heap.size) := Lib.hid (Nat.le_refl _)
  have fr227 := Own2.from o207
  have lt228 := Own2.lt o207
  have olt229 := Own2.olt o207
  have h230 := held_own2 o207 lt228 olt229
  have ln231 : (lens L210).sum ≤ 2000000 := by rw [Own2.lens o207]; exact Nat.le_trans (sum_le_tot2' _) (Nat.le_trans H9.out (by omega))
  clear o207 b206
  go_wp2_with fail
  (go_at_call 17; (with_reducible refine (eqInt64SS_any _ _ _ _ _ _ _ (Own2.row (Held.now h220)) (Own2.row (Held.now h230))).mono ?_); rintro e w' ⟨rfl, m232, rfl⟩)
  have h233 := Held.ran h214 (ran_drewN W205 m232 _) (Nat.le_trans (Nat.le_trans (Nat.le_trans (Nat.le_trans (Nat.le_trans (Nat.le_trans (Nat.le_trans (Nat.le_trans (Nat.le_trans (Nat.le_trans (le27.out) le49.out) le71.out) le94.out) le118.out) le143.out) le162.out) le183.out) le203.out) le225.out) t226.out) (.inr (Nat.le_refl _))
  have h234 := Held.ran h215 (ran_drewN W205 m232 _) (Nat.le_trans (Nat.le_trans (Nat.le_trans (Nat.le_trans (Nat.le_trans (Nat.le_trans (Nat.le_trans (Nat.le_trans (Nat.le_trans (Nat.le_trans (le27.out) le49.out) le71.out) le94.out) le118.out) le143.out) le162.out) le183.out) le203.out) le225.out) t226.out) (.inr (Nat.le_refl _))
  have h235 := Held.ran h216 (ran_drewN W205 m232 _) (Nat.le_trans (Nat.le_trans (Nat.le_trans (Nat.le_trans (Nat.le_trans (Nat.le_trans (Nat.le_trans (Nat.le_trans (Nat.le_trans (le49.out) le71.out) le94.out) le118.out) le143.out) le162.out) le183.out) le203.out) le225.out) t226.out) (.inr (Nat.le_refl _))
  have h236 := Held.ran h217 (ran_drewN W205 m232 _) (Nat.le_trans (Nat.le_trans (Nat.le_trans (Nat.le_trans (Nat.le_trans (Nat.le_trans (Nat.le_trans (Nat.le_trans (le71.out) le94.out) le118.out) le143.out) le162.out) le183.out) le203.out) le225.out) t226.out) (.inr (Nat.le_refl _))
  have h237 := Held.ran h218 (ran_drewN W205 m232 _) (Nat.le_trans (Nat.le_trans (Nat.le_trans (Nat.le_trans (Nat.le_trans (Nat.le_trans (Nat.le_trans (le94.out) le118.out) le143.out) le162.out) le183.out) le203.out) le225.out) t226.out) (.inr (Nat.le_refl _))
  have h238 := Held.ran h219 (ran_drewN W205 m232 _) (Nat.le_trans (Nat.le_trans (Nat.le_trans (Nat.le_trans (Nat.le_trans (Nat.le_trans (le118.out) le143.out) le162.out) le183.out) le203.out) le225.out) t226.out) (.inr (Nat.le_refl _))
  have h239 := Held.ran h220 (ran_drewN W205 m232 _) (Nat.le_trans (Nat.le_trans (Nat.le_trans (Nat.le_trans (Nat.le_trans (le143.out) le162.out) le183.out) le203.out) le225.out) t226.out) (.inr (Nat.le_refl _))
  have h240 := Held.ran h221 (ran_drewN W205 m232 _) (Nat.le_trans (Nat.le_trans (Nat.le_trans (Nat.le_trans (le162.out) le183.out) le203.out) le225.out) t226.out) (.inr (Nat.le_refl _))
  have h241 := Held.ran h222 (ran_drewN W205 m232 _) (Nat.le_trans (Nat.le_trans (le203.out) le225.out) t226.out) (.inr (Nat.le_refl _))
  have h242 := Held.ran h230 (ran_drewN W205 m232 _) (Nat.le_refl _) (.inr (Nat.le_refl _))
  have bel243 : Below w.heap.size w (World.drewN W205 m232) := below_drewN bel223 m232
  have t244 : Hid (W205.heap.size ≤ ((World.drewN W205 m232)).heap.size) := t226
  clear h214 h215 h216 h217 h218 h219 h220 h221 h222 h230 bel223
  go_wp2_with fail
  (go_at_call 18; (with_reducible refine (mark2_any _ _ _ 1 1 (by omega) _ _ _ (Held.now h238) (by omega)).mono ?_); rintro e W247 ⟨rfl, o245, k246⟩)
  have r248 := ran_onlyL k246 fr96 lt97
  have h249 := Held.ran h233 (r248) (Nat.le_trans (Nat.le_trans (Nat.le_trans (Nat.le_trans (Nat.le_trans (Nat.le_trans (Nat.le_trans (Nat.le_trans (Nat.le_trans (Nat.le_trans (le27.out) le49.out) le71.out) le94.out) le118.out) le143.out) le162.out) le183.out) le203.out) le225.out) t244.out) (.inr (Nat.le_trans (Nat.le_trans (le27.out) le49.out) le71.out))
  have h250 := Held.ran h234 (r248) (Nat.le_trans (Nat.le_trans (Nat.le_trans (Nat.le_trans (Nat.le_trans (Nat.le_trans (Nat.le_trans (Nat.le_trans (Nat.le_trans (Nat.le_trans (le27.out) le49.out) le71.out) le94.out) le118.out) le143.out) le162.out) le183.out) le203.out) le225.out) t244.out) (.inr (Nat.le_trans (Nat.le_trans (le27.out) le49.out) le71.out))
  have h251 := Held.ran h235 (r248) (Nat.le_trans (Nat.le_trans (Nat.le_trans (Nat.le_trans (Nat.le_trans (Nat.le_trans (Nat.le_trans (Nat.le_trans (Nat.le_trans (le49.out) le71.out) le94.out) le118.out) le143.out) le162.out) le183.out) le203.out) le225.out) t244.out) (.inr (Nat.le_trans (le49.out) le71.out))
  have h252 := Held.ran h236 (r248) (Nat.le_trans (Nat.le_trans (Nat.le_trans (Nat.le_trans (Nat.le_trans (Nat.le_trans (Nat.le_trans (Nat.le_trans (le71.out) le94.out) le118.out) le143.out) le162.out) le183.out) le203.out) le225.out) t244.out) (.inr (le71.out))
  have h253 := Held.ran h237 (r248) (Nat.le_trans (Nat.le_trans (Nat.le_trans (Nat.le_trans (Nat.le_trans (Nat.le_trans (Nat.le_trans (le94.out) le118.out) le143.out) le162.out) le183.out) le203.out) le225.out) t244.out) (.inr (Nat.le_refl _))
  have h254 := Held.ran h239 (r248) (Nat.le_trans (Nat.le_trans (Nat.le_trans (Nat.le_trans (Nat.le_trans (le143.out) le162.out) le183.out) le203.out) le225.out) t244.out) (.inl (Nat.le_refl _))
  have h255 := Held.ran h240 (r248) (Nat.le_trans (Nat.le_trans (Nat.le_trans (Nat.le_trans (le162.out) le183.out) le203.out) le225.out) t244.out) (.inl (le118.out))
  have h256 := Held.ran h241 (r248) (Nat.le_trans (Nat.le_trans (le203.out) le225.out) t244.out) (.inl (Nat.le_trans (Nat.le_trans (le118.out) le143.out) le162.out))
  have h257 := Held.ran h242 (r248) (Nat.le_trans (Nat.le_refl _) t244.out) (.inl (Nat.le_trans (Nat.le_trans (Nat.le_trans (Nat.le_trans (le118.out) le143.out) le162.out) le183.out) le203.out))
  have bel258 : Below w.heap.size w W247 := Below.trans bel243 (Ran.below r248 (Nat.le_trans (Nat.le_trans (le27.out) le49.out) le71.out) (Nat.le_trans (Nat.le_trans (Nat.le_trans (Nat.le_trans (Nat.le_trans (Nat.le_trans (Nat.le_trans (Nat.le_trans (Nat.le_trans (Nat.le_trans (le27.out) le49.out) le71.out) le94.out) le118.out) le143.out) le162.out) le183.out) le203.out) le225.out) t244.out))
  have t259 : Hid (W205.heap.size ≤ W247.heap.size) := Lib.hid (Nat.le_trans t244.out (Ran.size r248))
  clear h233 h234 h235 h236 h237 h239 h240 h241 h242 bel243
  have h260 := held_own2 o245 lt97 olt98
  clear o245 h238 r248
  go_wp2_with fail
  (go_at_call 18; (with_reducible refine (mark2_any _ _ _ (1 + (((lens L83).sum : Nat) : Int)) (1 + (lens L83).sum) (by omega) _ _ _ (Held.now h254) (by omega)).mono ?_); rintro e W263 ⟨rfl, o261, k262⟩)
  have r264 := ran_onlyL k262 fr120 lt121
  have h265 := Held.ran h249 (r264) (Nat.le_trans (Nat.le_trans (Nat.le_trans (Nat.le_trans (Nat.le_trans (Nat.le_trans (Nat.le_trans (Nat.le_trans (Nat.le_trans (Nat.le_trans (le27.out) le49.out) le71.out) le94.out) le118.out) le143.out) le162.out) le183.out) le203.out) le225.out) t259.out) (.inr (Nat.le_trans (Nat.le_trans (Nat.le_trans (le27.out) le49.out) le71.out) le94.out))
  have h266 := Held.ran h250 (r264) (Nat.le_trans (Nat.le_trans (Nat.le_trans (Nat.le_trans (Nat.le_trans (Nat.le_trans (Nat.le_trans (Nat.le_trans (Nat.le_trans (Nat.le_trans (le27.out) le49.out) le71.out) le94.out) le118.out) le143.out) le162.out) le183.out) le203.out) le225.out) t259.out) (.inr (Nat.le_trans (Nat.le_trans (Nat.le_trans (le27.out) le49.out) le71.out) le94.out))
  have h267 := Held.ran h251 (r264) (Nat.le_trans (Nat.le_trans (Nat.le_trans (Nat.le_trans (Nat.le_trans (Nat.le_trans (Nat.le_trans (Nat.le_trans (Nat.le_trans (le49.out) le71.out) le94.out) le118.out) le143.out) le162.out) le183.out) le203.out) le225.out) t259.out) (.inr (Nat.le_trans (Nat.le_trans (le49.out) le71.out) le94.out))
  have h268 := Held.ran h252 (r264) (Nat.le_trans (Nat.le_trans (Nat.le_trans (Nat.le_trans (Nat.le_trans (Nat.le_trans (Nat.le_trans (Nat.le_trans (le71.out) le94.out) le118.out) le143.out) le162.out) le183.out) le203.out) le225.out) t259.out) (.inr (Nat.le_trans (le71.out) le94.out))
  have h269 := Held.ran h253 (r264) (Nat.le_trans (Nat.le_trans (Nat.le_trans (Nat.le_trans (Nat.le_trans (Nat.le_trans (Nat.le_trans (le94.out) le118.out) le143.out) le162.out) le183.out) le203.out) le225.out) t259.out) (.inr (le94.out))
  have h270 := Held.ran h260 (r264) (Nat.le_trans (Nat.le_trans (Nat.le_trans (Nat.le_trans (Nat.le_trans (Nat.le_trans (le118.out) le143.out) le162.out) le183.out) le203.out) le225.out) t259.out) (.inr (Nat.le_refl _))
  have h271 := Held.ran h255 (r264) (Nat.le_trans (Nat.le_trans (Nat.le_trans (Nat.le_trans (le162.out) le183.out) le203.out) le225.out) t259.out) (.inl (Nat.le_refl _))
  have h272 := Held.ran h256 (r264) (Nat.le_trans (Nat.le_trans (le203.out) le225.out) t259.out) (.inl (Nat.le_trans (le143.out) le162.out))
  have h273 := Held.ran h257 (r264) (Nat.le_trans (Nat.le_refl _) t259.out) (.inl (Nat.le_trans (Nat.le_trans (Nat.le_trans (le143.out) le162.out) le183.out) le203.out))
  have bel274 : Below w.heap.size w W263 := Below.trans bel258 (Ran.below r264 (Nat.le_trans (Nat.le_trans (Nat.le_trans (le27.out) le49.out) le71.out) le94.out) (Nat.le_trans (Nat.le_trans (Nat.le_trans (Nat.le_trans (Nat.le_trans (Nat.le_trans (Nat.le_trans (Nat.le_trans (Nat.le_trans (Nat.le_trans (le27.out) le49.out) le71.out) le94.out) le118.out) le143.out) le162.out) le183.out) le203.out) le225.out) t259.out))
  have t275 : Hid (W205.heap.size ≤ W263.heap.size) := Lib.hid (Nat.le_trans t259.out (Ran.size r264))
  clear h249 h250 h251 h252 h253 h260 h255 h256 h257 bel258
  have h276 := held_own2 o261 lt121 olt122
  clear o261 h254 r264
  go_wp2_with fail
  (go_at_call 17; (with_reducible refine (eqInt64SS_any _ _ _ _ _ _ _ (Own2.row (Held.now h271)) (Own2.row (Held.now h269))).mono ?_); rintro e w' ⟨rfl, m277, rfl⟩)
  have h278 := Held.ran h265 (ran_drewN W263 m277 _) (Nat.le_trans (Nat.le_trans (Nat.le_trans (Nat.le_trans (Nat.le_trans (Nat.le_trans (Nat.le_trans (Nat.le_trans (Nat.le_trans (Nat.le_trans (le27.out) le49.out) le71.out) le94.out) le118.out) le143.out) le162.out) le183.out) le203.out) le225.out) t275.out) (.inr (Nat.le_refl _))
  have h279 := Held.ran h266 (ran_drewN W263 m277 _) (Nat.le_trans (Nat.le_trans (Nat.le_trans (Nat.le_trans (Nat.le_trans (Nat.le_trans (Nat.le_trans (Nat.le_trans (Nat.le_trans (Nat.le_trans (le27.out) le49.out) le71.out) le94.out) le118.out) le143.out) le162.out) le183.out) le203.out) le225.out) t275.out) (.inr (Nat.le_refl _))
  have h280 := Held.ran h267 (ran_drewN W263 m277 _) (Nat.le_trans (Nat.le_trans (Nat.le_trans (Nat.le_trans (Nat.le_trans (Nat.le_trans (Nat.le_trans (Nat.le_trans (Nat.le_trans (le49.out) le71.out) le94.out) le118.out) le143.out) le162.out) le183.out) le203.out) le225.out) t275.out) (.inr (Nat.le_refl _))
  have h281 := Held.ran h268 (ran_drewN W263 m277 _) (Nat.le_trans (Nat.le_trans (Nat.le_trans (Nat.le_trans (Nat.le_trans (Nat.le_trans (Nat.le_trans (Nat.le_trans (le71.out) le94.out) le118.out) le143.out) le162.out) le183.out) le203.out) le225.out) t275.out) (.inr (Nat.le_refl _))
  have h282 := Held.ran h269 (ran_drewN W263 m277 _) (Nat.le_trans (Nat.le_trans (Nat.le_trans (Nat.le_trans (Nat.le_trans (Nat.le_trans (Nat.le_trans (le94.out) le118.out) le143.out) le162.out) le183.out) le203.out) le225.out) t275.out) (.inr (Nat.le_refl _))
  have h283 := Held.ran h270 (ran_drewN W263 m277 _) (Nat.le_trans (Nat.le_trans (Nat.le_trans (Nat.le_trans (Nat.le_trans (Nat.le_trans (le118.out) le143.out) le162.out) le183.out) le203.out) le225.out) t275.out) (.inr (Nat.le_refl _))
  have h284 := Held.ran h276 (ran_drewN W263 m277 _) (Nat.le_trans (Nat.le_trans (Nat.le_trans (Nat.le_trans (Nat.le_trans (le143.out) le162.out) le183.out) le203.out) le225.out) t275.out) (.inr (Nat.le_refl _))
  have h285 := Held.ran h271 (ran_drewN W263 m277 _) (Nat.le_trans (Nat.le_trans (Nat.le_trans (Nat.le_trans (le162.out) le183.out) le203.out) le225.out) t275.out) (.inr (Nat.le_refl _))
  have h286 := Held.ran h272 (ran_drewN W263 m277 _) (Nat.le_trans (Nat.le_trans (le203.out) le225.out) t275.out) (.inr (Nat.le_refl _))
  have h287 := Held.ran h273 (ran_drewN W263 m277 _) (Nat.le_trans (Nat.le_refl _) t275.out) (.inr (Nat.le_refl _))
  have bel288 : Below w.heap.size w (World.drewN W263 m277) := below_drewN bel274 m277
  have t289 : Hid (W205.heap.size ≤ ((World.drewN W263 m277)).heap.size) := t275
  clear h265 h266 h267 h268 h269 h270 h276 h271 h272 h273 bel274
  go_wp2_with fail
  (go_at_call 18; (with_reducible refine (mark2_any _ _ _ 1 1 (by omega) _ _ _ (Held.now h285) (by omega)).mono ?_); rintro e W292 ⟨rfl, o290, k291⟩)
  have r293 := ran_onlyL k291 fr145 lt146
  have h294 := Held.ran h278 (r293) (Nat.le_trans (Nat.le_trans (Nat.le_trans (Nat.le_trans (Nat.le_trans (Nat.le_trans (Nat.le_trans (Nat.le_trans (Nat.le_trans (Nat.le_trans (le27.out) le49.out) le71.out) le94.out) le118.out) le143.out) le162.out) le183.out) le203.out) le225.out) t289.out) (.inr (Nat.le_trans (Nat.le_trans (Nat.le_trans (Nat.le_trans (le27.out) le49.out) le71.out) le94.out) le118.out))
  have h295 := Held.ran h279 (r293) (Nat.le_trans (Nat.le_trans (Nat.le_trans (Nat.le_trans (Nat.le_trans (Nat.le_trans (Nat.le_trans (Nat.le_trans (Nat.le_trans (Nat.le_trans (le27.out) le49.out) le71.out) le94.out) le118.out) le143.out) le162.out) le183.out) le203.out) le225.out) t289.out) (.inr (Nat.le_trans (Nat.le_trans (Nat.le_trans (Nat.le_trans (le27.out) le49.out) le71.out) le94.out) le118.out))
  have h296 := Held.ran h280 (r293) (Nat.le_trans (Nat.le_trans (Nat.le_trans (Nat.le_trans (Nat.le_trans (Nat.le_trans (Nat.le_trans (Nat.le_trans (Nat.le_trans (le49.out) le71.out) le94.out) le118.out) le143.out) le162.out) le183.out) le203.out) le225.out) t289.out) (.inr (Nat.le_trans (Nat.le_trans (Nat.le_trans (le49.out) le71.out) le94.out) le118.out))
  have h297 := Held.ran h281 (r293) (Nat.le_trans (Nat.le_trans (Nat.le_trans (Nat.le_trans (Nat.le_trans (Nat.le_trans (Nat.le_trans (Nat.le_trans (le71.out) le94.out) le118.out) le143.out) le162.out) le183.out) le203.out) le225.out) t289.out) (.inr (Nat.le_trans (Nat.le_trans (le71.out) le94.out) le118.out))
  have h298 := Held.ran h282 (r293) (Nat.le_trans (Nat.le_trans (Nat.le_trans (Nat.le_trans (Nat.le_trans (Nat.le_trans (Nat.le_trans (le94.out) le118.out) le143.out) le162.out) le183.out) le203.out) le225.out) t289.out) (.inr (Nat.le_trans (le94.out) le118.out))
  have h299 := Held.ran h283 (r293) (Nat.le_trans (Nat.le_trans (Nat.le_trans (Nat.le_trans (Nat.le_trans (Nat.le_trans (le118.out) le143.out) le162.out) le183.out) le203.out) le225.out) t289.out) (.inr (le118.out))
  have h300 := Held.ran h284 (r293) (Nat.le_trans (Nat.le_trans (Nat.le_trans (Nat.le_trans (Nat.le_trans (le143.out) le162.out) le183.out) le203.out) le225.out) t289.out) (.inr (Nat.le_refl _))
  have h301 := Held.ran h286 (r293) (Nat.le_trans (Nat.le_trans (le203.out) le225.out) t289.out) (.inl (le162.out))
  have h302 := Held.ran h287 (r293) (Nat.le_trans (Nat.le_refl _) t289.out) (.inl (Nat.le_trans (Nat.le_trans (le162.out) le183.out) le203.out))
  have bel303 : Below w.heap.size w W292 := Below.trans bel288 (Ran.below r293 (Nat.le_trans (Nat.le_trans (Nat.le_trans (Nat.le_trans (le27.out) le49.out) le71.out) le94.out) le118.out) (Nat.le_trans (Nat.le_trans (Nat.le_trans (Nat.le_trans (Nat.le_trans (Nat.le_trans (Nat.le_trans (Nat.le_trans (Nat.le_trans (Nat.le_trans (le27.out) le49.out) le71.out) le94.out) le118.out) le143.out) le162.out) le183.out) le203.out) le225.out) t289.out))
  have t304 : Hid (W205.heap.size ≤ W292.heap.size) := Lib.hid (Nat.le_trans t289.out (Ran.size r293))
  clear h278 h279 h280 h281 h282 h283 h284 h286 h287 bel288
  have h305 := held_own2 o290 lt146 olt147
  clear o290 h285 r293
  go_wp2_with fail
  (go_at_call 19; (with_reducible refine (held2_any _ _ _ 1 1 (by omega) _ _ (Own2.row (Held.now h305)) (by omega)).mono ?_); rintro e w' ⟨rfl, rfl⟩)
  go_wp2_with fail
  have le307 : Hid (W205.heap.size ≤ W292.heap.size) := t304
  have t308 : Hid (W292.heap.size ≤ W292.heap.size) := Lib.hid (Nat.le_refl _)
  (go_at_call 15; (with_reducible refine (toInt64SS_any _ _ _ _ _ (Rows2.up (Held.now h294) (Nat.le_trans (Nat.le_trans (Nat.le_trans (Nat.le_trans (Nat.le_trans (Nat.le_trans (Nat.le_trans (Nat.le_trans (Nat.le_trans (Nat.le_trans (le27.out) le49.out) le71.out) le94.out) le118.out) le143.out) le162.out) le183.out) le203.out) le225.out) t304.out)) (Nat.le_refl _) (small2_len L_aS H3.out) (small2 H3.out)).mono ?_); rintro e W309 ⟨A312, c313, L314, rfl, o311, b310⟩)
  have h318 := Held.ran h294 (ran_below b310 _) (Nat.le_trans (Nat.le_trans (Nat.le_trans (Nat.le_trans (Nat.le_trans (Nat.le_trans (Nat.le_trans (Nat.le_trans (Nat.le_trans (Nat.le_trans (Nat.le_trans (le27.out) le49.out) le71.out) le94.out) le118.out) le143.out) le162.out) le183.out) le203.out) le225.out) le307.out) t308.out) (.inr (Nat.le_refl _))
  have h319 := Held.ran h295 (ran_below b310 _) (Nat.le_trans (Nat.le_trans (Nat.le_trans (Nat.le_trans (Nat.le_trans (Nat.le_trans (Nat.le_trans (Nat.le_trans (Nat.le_trans (Nat.le_trans (Nat.le_trans (le27.out) le49.out) le71.out) le94.out) le118.out) le143.out) le162.out) le183.out) le203.out) le225.out) le307.out) t308.out) (.inr (Nat.le_refl _))
  have h320 := Held.ran h296 (ran_below b310 _) (Nat.le_trans (Nat.le_trans (Nat.le_trans (Nat.le_trans (Nat.le_trans (Nat.le_trans (Nat.le_trans (Nat.le_trans (Nat.le_trans (Nat.le_trans (le49.out) le71.out) le94.out) le118.out) le143.out) le162.out) le183.out) le203.out) le225.out) le307.out) t308.out) (.inr (Nat.le_refl _))
  have h321 := Held.ran h297 (ran_below b310 _) (Nat.le_trans (Nat.le_trans (Nat.le_trans (Nat.le_trans (Nat.le_trans (Nat.le_trans (Nat.le_trans (Nat.le_trans (Nat.le_trans (le71.out) le94.out) le118.out) le143.out) le162.out) le183.out) le203.out) le225.out) le307.out) t308.out) (.inr (Nat.le_refl _))
  have h322 := Held.ran h298 (ran_below b310 _) (Nat.le_trans (Nat.le_trans (Nat.le_trans (Nat.le_trans (Nat.le_trans (Nat.le_trans (Nat.le_trans (Nat.le_trans (le94.out) le118.out) le143.out) le162.out) le183.out) le203.out) le225.out) le307.out) t308.out) (.inr (Nat.le_refl _))
  have h323 := Held.ran h299 (ran_below b310 _) (Nat.le_trans (Nat.le_trans (Nat.le_trans (Nat.le_trans (Nat.le_trans (Nat.le_trans (Nat.le_trans (le118.out) le143.out) le162.out) le183.out) le203.out) le225.out) le307.out) t308.out) (.inr (Nat.le_refl _))
  have h324 := Held.ran h300 (ran_below b310 _) (Nat.le_trans (Nat.le_trans (Nat.le_trans (Nat.le_trans (Nat.le_trans (Nat.le_trans (le143.out) le162.out) le183.out) le203.out) le225.out) le307.out) t308.out) (.inr (Nat.le_refl _))
  have h325 := Held.ran h305 (ran_below b310 _) (Nat.le_trans (Nat.le_trans (Nat.le_trans (Nat.le_trans (Nat.le_trans (le162.out) le183.out) le203.out) le225.out) le307.out) t308.out) (.inr (Nat.le_refl _))
  have h326 := Held.ran h301 (ran_below b310 _) (Nat.le_trans (Nat.le_trans (Nat.le_trans (le203.out) le225.out) le307.out) t308.out) (.inr (Nat.le_refl _))
  have h327 := Held.ran h302 (ran_below b310 _) (Nat.le_trans (le307.out) t308.out) (.inr (Nat.le_refl _))
  have bel328 : Below w.heap.size w W309 := Below.trans bel303 (Below.mono b310 (Nat.le_trans (Nat.le_trans (Nat.le_trans (Nat.le_trans (Nat.le_trans (Nat.le_trans (Nat.le_trans (Nat.le_trans (Nat.le_trans (Nat.le_trans (Nat.le_trans (le27.out) le49.out) le71.out) le94.out) le118.out) le143.out) le162.out) le183.out) le203.out) le225.out) le307.out) t308.out))
  have t329 : Hid (W292.heap.size ≤ W309.heap.size) := Lib.hid (Nat.le_trans t308.out (Below.size b310))
  clear h294 h295 h296 h297 h298 h299 h300 h305 h301 h302 bel303
  have le330 : Hid (W292.heap.size ≤ W309.heap.size) := t329
  have t331 : Hid (W309.heap.size ≤ W309.heap.size) := Lib.hid (Nat.le_refl _)
  have fr332 := Own2.from o311
  have lt333 := Own2.lt o311
  have olt334 := Own2.olt o311
  have h335 := held_own2 o311 lt333 olt334
  have ln336 : (lens L314).sum ≤ 2000000 := by rw [Own2.lens o311]; exact Nat.le_trans (sum_le_tot2' _) (Nat.le_trans H3.out (by omega))
  clear o311 b310
  go_wp2_with fail
  (go_at_call 15; (with_reducible refine (toInt64SS_any _ _ _ _ _ (Rows2.up (Held.now h319) (Nat.le_trans (Nat.le_trans (Nat.le_trans (Nat.le_trans (Nat.le_trans (Nat.le_trans (Nat.le_trans (Nat.le_trans (Nat.le_trans (Nat.le_trans (Nat.le_trans (Nat.le_trans (le27.out) le49.out) le71.out) le94.out) le118.out) le143.out) le162.out) le183.out) le203.out) le225.out) le307.out) le330.out) t331.out)) (Nat.le_refl _) (small2_len L_aT H9.out) (small2 H9.out)).mono ?_); rintro e W338 ⟨A341, c342, L343, rfl, o340, b339⟩)
  have h347 := Held.ran h318 (ran_below b339 _) (Nat.le_trans (Nat.le_trans (Nat.le_trans (Nat.le_trans (Nat.le_trans (Nat.le_trans (Nat.le_trans (Nat.le_trans (Nat.le_trans (Nat.le_trans (Nat.le_trans (Nat.le_trans (le27.out) le49.out) le71.out) le94.out) le118.out) le143.out) le162.out) le183.out) le203.out) le225.out) le307.out) le330.out) t331.out) (.inr (Nat.le_refl _))
  have h348 := Held.ran h319 (ran_below b339 _) (Nat.le_trans (Nat.le_trans (Nat.le_trans (Nat.le_trans (Nat.le_trans (Nat.le_trans (Nat.le_trans (Nat.le_trans (Nat.le_trans (Nat.le_trans (Nat.le_trans (Nat.le_trans (le27.out) le49.out) le71.out) le94.out) le118.out) le143.out) le162.out) le183.out) le203.out) le225.out) le307.out) le330.out) t331.out) (.inr (Nat.le_refl _))
  have h349 := Held.ran h320 (ran_below b339 _) (Nat.le_trans (Nat.le_trans (Nat.le_trans (Nat.le_trans (Nat.le_trans (Nat.le_trans (Nat.le_trans (Nat.le_trans (Nat.le_trans (Nat.le_trans (Nat.le_trans (le49.out) le71.out) le94.out) le118.out) le143.out) le162.out) le183.out) le203.out) le225.out) le307.out) le330.out) t331.out) (.inr (Nat.le_refl _))
  have h350 := Held.ran h321 (ran_below b339 _) (Nat.le_trans (Nat.le_trans (Nat.le_trans (Nat.le_trans (Nat.le_trans (Nat.le_trans (Nat.le_trans (Nat.le_trans (Nat.le_trans (Nat.le_trans (le71.out) le94.out) le118.out) le143.out) le162.out) le183.out) le203.out) le225.out) le307.out) le330.out) t331.out) (.inr (Nat.le_refl _))
  have h351 := Held.ran h322 (ran_below b339 _) (Nat.le_trans (Nat.le_trans (Nat.le_trans (Nat.le_trans (Nat.le_trans (Nat.le_trans (Nat.le_trans (Nat.le_trans (Nat.le_trans (le94.out) le118.out) le143.out) le162.out) le183.out) le203.out) le225.out) le307.out) le330.out) t331.out) (.inr (Nat.le_refl _))
  have h352 := Held.ran h323 (ran_below b339 _) (Nat.le_trans (Nat.le_trans (Nat.le_trans (Nat.le_trans (Nat.le_trans (Nat.le_trans (Nat.le_trans (Nat.le_trans (le118.out) le143.out) le162.out) le183.out) le203.out) le225.out) le307.out) le330.out) t331.out) (.inr (Nat.le_refl _))
  have h353 := Held.ran h324 (ran_below b339 _) (Nat.le_trans (Nat.le_trans (Nat.le_trans (Nat.le_trans (Nat.le_trans (Nat.le_trans (Nat.le_trans (le143.out) le162.out) le183.out) le203.out) le225.out) le307.out) le330.out) t331.out) (.inr (Nat.le_refl _))
  have h354 := Held.ran h325 (ran_below b339 _) (Nat.le_trans (Nat.le_trans (Nat.le_trans (Nat.le_trans (Nat.le_trans (Nat.le_trans (le162.out) le183.out) le203.out) le225.out) le307.out) le330.out) t331.out) (.inr (Nat.le_refl _))
  have h355 := Held.ran h326 (ran_below b339 _) (Nat.le_trans (Nat.le_trans (Nat.le_trans (Nat.le_trans (le203.out) le225.out) le307.out) le330.out) t331.out) (.inr (Nat.le_refl _))
  have h356 := Held.ran h327 (ran_below b339 _) (Nat.le_trans (Nat.le_trans (le307.out) le330.out) t331.out) (.inr (Nat.le_refl _))
  have h357 := Held.ran h335 (ran_below b339 _) (Nat.le_refl _) (.inr (Nat.le_refl _))
  have bel358 : Below w.heap.size w W338 := Below.trans bel328 (Below.mono b339 (Nat.le_trans (Nat.le_trans (Nat.le_trans (Nat.le_trans (Nat.le_trans (Nat.le_trans (Nat.le_trans (Nat.le_trans (Nat.le_trans (Nat.le_trans (Nat.le_trans (Nat.le_trans (le27.out) le49.out) le71.out) le94.out) le118.out) le143.out) le162.out) le183.out) le203.out) le225.out) le307.out) le330.out) t331.out))
  have t359 : Hid (W309.heap.size ≤ W338.heap.size) := Lib.hid (Nat.le_trans t331.out (Below.size b339))
  clear h318 h319 h320 h321 h322 h323 h324 h325 h326 h327 h335 bel328
  have le360 : Hid (W309.heap.size ≤ W338.heap.size) := t359
  have t361 : Hid (W338.heap.size ≤ W338.heap.size) := Lib.hid (Nat.le_refl _)
  have fr362 := Own2.from o340
  have lt363 := Own2.lt o340
  have olt364 := Own2.olt o340
  have h365 := held_own2 o340 lt363 olt364
  have ln366 : (lens L343).sum ≤ 2000000 := by rw [Own2.lens o340]; exact Nat.le_trans (sum_le_tot2' _) (Nat.le_trans H9.out (by omega))
  clear o340 b339
  go_wp2_with fail
  (go_at_call 29; (with_reducible refine (CI _ _ _ _ _ _ _ (Own2.row (Held.now h357)) (Nat.le_refl _) (Own2.row (Held.now h365)) (Nat.le_refl _)).mono ?_); rintro e W367 ⟨A370, c371, L372, rfl, o369, b368⟩)
  have h376 := Held.ran h347 (ran_below b368 _) (Nat.le_trans (Nat.le_trans (Nat.le_trans (Nat.le_trans (Nat.le_trans (Nat.le_trans (Nat.le_trans (Nat.le_trans (Nat.le_trans (Nat.le_trans (Nat.le_trans (Nat.le_trans (Nat.le_trans (le27.out) le49.out) le71.out) le94.out) le118.out) le143.out) le162.out) le183.out) le203.out) le225.out) le307.out) le330.out) le360.out) t361.out) (.inr (Nat.le_refl _))
  have h377 := Held.ran h348 (ran_below b368 _) (Nat.le_trans (Nat.le_trans (Nat.le_trans (Nat.le_trans (Nat.le_trans (Nat.le_trans (Nat.le_trans (Nat.le_trans (Nat.le_trans (Nat.le_trans (Nat.le_trans (Nat.le_trans (Nat.le_trans (le27.out) le49.out) le71.out) le94.out) le118.out) le143.out) le162.out) le183.out) le203.out) le225.out) le307.out) le330.out) le360.out) t361.out) (.inr (Nat.le_refl _))
  have h378 := Held.ran h349 (ran_below b368 _) (Nat.le_trans (Nat.le_trans (Nat.le_trans (Nat.le_trans (Nat.le_trans (Nat.le_trans (Nat.le_trans (Nat.le_trans (Nat.le_trans (Nat.le_trans (Nat.le_trans (Nat.le_trans (le49.out) le71.out) le94.out) le118.out) le143.out) le162.out) le183.out) le203.out) le225.out) le307.out) le330.out) le360.out) t361.out) (.inr (Nat.le_refl _))
  have h379 := Held.ran h350 (ran_below b368 _) (Nat.le_trans (Nat.le_trans (Nat.le_trans (Nat.le_trans (Nat.le_trans (Nat.le_trans (Nat.le_trans (Nat.le_trans (Nat.le_trans (Nat.le_trans (Nat.le_trans (le71.out) le94.out) le118.out) le143.out) le162.out) le183.out) le203.out) le225.out) le307.out) le330.out) le360.out) t361.out) (.inr (Nat.le_refl _))
  have h380 := Held.ran h351 (ran_below b368 _) (Nat.le_trans (Nat.le_trans (Nat.le_trans (Nat.le_trans (Nat.le_trans (Nat.le_trans (Nat.le_trans (Nat.le_trans (Nat.le_trans (Nat.le_trans (le94.out) le118.out) le143.out) le162.out) le183.out) le203.out) le225.out) le307.out) le330.out) le360.out) t361.out) (.inr (Nat.le_refl _))
  have h381 := Held.ran h352 (ran_below b368 _) (Nat.le_trans (Nat.le_trans (Nat.le_trans (Nat.le_trans (Nat.le_trans (Nat.le_trans (Nat.le_trans (Nat.le_trans (Nat.le_trans (le118.out) le143.out) le162.out) le183.out) le203.out) le225.out) le307.out) le330.out) le360.out) t361.out) (.inr (Nat.le_refl _))
  have h382 := Held.ran h353 (ran_below b368 _) (Nat.le_trans (Nat.le_trans (Nat.le_trans (Nat.le_trans (Nat.le_trans (Nat.le_trans (Nat.le_trans (Nat.le_trans (le143.out) le162.out) le183.out) le203.out) le225.out) le307.out) le330.out) le360.out) t361.out) (.inr (Nat.le_refl _))
  have h383 := Held.ran h354 (ran_below b368 _) (Nat.le_trans (Nat.le_trans (Nat.le_trans (Nat.le_trans (Nat.le_trans (Nat.le_trans (Nat.le_trans (le162.out) le183.out) le203.out) le225.out) le307.out) le330.out) le360.out) t361.out) (.inr (Nat.le_refl _))
  have h384 := Held.ran h355 (ran_below b368 _) (Nat.le_trans (Nat.le_trans (Nat.le_trans (Nat.le_trans (Nat.le_trans (le203.out) le225.out) le307.out) le330.out) le360.out) t361.out) (.inr (Nat.le_refl _))
  have h385 := Held.ran h356 (ran_below b368 _) (Nat.le_trans (Nat.le_trans (Nat.le_trans (le307.out) le330.out) le360.out) t361.out) (.inr (Nat.le_refl _))
  have h386 := Held.ran h357 (ran_below b368 _) (Nat.le_trans (le360.out) t361.out) (.inr (Nat.le_refl _))
  have h387 := Held.ran h365 (ran_below b368 _) (Nat.le_refl _) (.inr (Nat.le_refl _))
  have bel388 : Below w.heap.size w W367 := Below.trans bel358 (Below.mono b368 (Nat.le_trans (Nat.le_trans (Nat.le_trans (Nat.le_trans (Nat.le_trans (Nat.le_trans (Nat.le_trans (Nat.le_trans (Nat.le_trans (Nat.le_trans (Nat.le_trans (Nat.le_trans (Nat.le_trans (le27.out) le49.out) le71.out) le94.out) le118.out) le143.out) le162.out) le183.out) le203.out) le225.out) le307.out) le330.out) le360.out) t361.out))
  have t389 : Hid (W338.heap.size ≤ W367.heap.size) := Lib.hid (Nat.le_trans t361.out (Below.size b368))
  clear h347 h348 h349 h350 h351 h352 h353 h354 h355 h356 h357 h365 bel358
  have le390 : Hid (W338.heap.size ≤ W367.heap.size) := t389
  have t391 : Hid (W367.heap.size ≤ W367.heap.size) := Lib.hid (Nat.le_refl _)
  have fr392 := Own2.from o369
  have lt393 := Own2.lt o369
  have olt394 := Own2.olt o369
  have h395 := held_own2 o369 lt393 olt394
  have ln396 : (lens L372).sum ≤ 2000000 := by rw [Own2.lens o369]; exact (Nat.le_trans hR (by decide))
  clear o369 b368
  go_wp2_with fail
  (go_at_call 17; (with_reducible refine (eqInt64SS_any _ _ _ _ _ _ _ (Own2.row (Held.now h395)) (Own2.row (Held.now h380))).mono ?_); rintro e w' ⟨rfl, m397, rfl⟩)
  have h398 := Held.ran h376 (ran_drewN W367 m397 _) (Nat.le_trans (Nat.le_trans (Nat.le_trans (Nat.le_trans (Nat.le_trans (Nat.le_trans (Nat.le_trans (Nat.le_trans (Nat.le_trans (Nat.le_trans (Nat.le_trans (Nat.le_trans (Nat.le_trans (Nat.le_trans (le27.out) le49.out) le71.out) le94.out) le118.out) le143.out) le162.out) le183.out) le203.out) le225.out) le307.out) le330.out) le360.out) le390.out) t391.out) (.inr (Nat.le_refl _))
  have h399 := Held.ran h377 (ran_drewN W367 m397 _) (Nat.le_trans (Nat.le_trans (Nat.le_trans (Nat.le_trans (Nat.le_trans (Nat.le_trans (Nat.le_trans (Nat.le_trans (Nat.le_trans (Nat.le_trans (Nat.le_trans (Nat.le_trans (Nat.le_trans (Nat.le_trans (le27.out) le49.out) le71.out) le94.out) le118.out) le143.out) le162.out) le183.out) le203.out) le225.out) le307.out) le330.out) le360.out) le390.out) t391.out) (.inr (Nat.le_refl _))
  have h400 := Held.ran h378 (ran_drewN W367 m397 _) (Nat.le_trans (Nat.le_trans (Nat.le_trans (Nat.le_trans (Nat.le_trans (Nat.le_trans (Nat.le_trans (Nat.le_trans (Nat.le_trans (Nat.le_trans (Nat.le_trans (Nat.le_trans (Nat.le_trans (le49.out) le71.out) le94.out) le118.out) le143.out) le162.out) le183.out) le203.out) le225.out) le307.out) le330.out) le360.out) le390.out) t391.out) (.inr (Nat.le_refl _))
  have h401 := Held.ran h379 (ran_drewN W367 m397 _) (Nat.le_trans (Nat.le_trans (Nat.le_trans (Nat.le_trans (Nat.le_trans (Nat.le_trans (Nat.le_trans (Nat.le_trans (Nat.le_trans (Nat.le_trans (Nat.le_trans (Nat.le_trans (le71.out) le94.out) le118.out) le143.out) le162.out) le183.out) le203.out) le225.out) le307.out) le330.out) le360.out) le390.out) t391.out) (.inr (Nat.le_refl _))
  have h402 := Held.ran h380 (ran_drewN W367 m397 _) (Nat.le_trans (Nat.le_trans (Nat.le_trans (Nat.le_trans (Nat.le_trans (Nat.le_trans (Nat.le_trans (Nat.le_trans (Nat.le_trans (Nat.le_trans (Nat.le_trans (le94.out) le118.out) le143.out) le162.out) le183.out) le203.out) le225.out) le307.out) le330.out) le360.out) le390.out) t391.out) (.inr (Nat.le_refl _))
  have h403 := Held.ran h381 (ran_drewN W367 m397 _) (Nat.le_trans (Nat.le_trans (Nat.le_trans (Nat.le_trans (Nat.le_trans (Nat.le_trans (Nat.le_trans (Nat.le_trans (Nat.le_trans (Nat.le_trans (le118.out) le143.out) le162.out) le183.out) le203.out) le225.out) le307.out) le330.out) le360.out) le390.out) t391.out) (.inr (Nat.le_refl _))
  have h404 := Held.ran h382 (ran_drewN W367 m397 _) (Nat.le_trans (Nat.le_trans (Nat.le_trans (Nat.le_trans (Nat.le_trans (Nat.le_trans (Nat.le_trans (Nat.le_trans (Nat.le_trans (le143.out) le162.out) le183.out) le203.out) le225.out) le307.out) le330.out) le360.out) le390.out) t391.out) (.inr (Nat.le_refl _))
  have h405 := Held.ran h383 (ran_drewN W367 m397 _) (Nat.le_trans (Nat.le_trans (Nat.le_trans (Nat.le_trans (Nat.le_trans (Nat.le_trans (Nat.le_trans (Nat.le_trans (le162.out) le183.out) le203.out) le225.out) le307.out) le330.out) le360.out) le390.out) t391.out) (.inr (Nat.le_refl _))
  have h406 := Held.ran h384 (ran_drewN W367 m397 _) (Nat.le_trans (Nat.le_trans (Nat.le_trans (Nat.le_trans (Nat.le_trans (Nat.le_trans (le203.out) le225.out) le307.out) le330.out) le360.out) le390.out) t391.out) (.inr (Nat.le_refl _))
  have h407 := Held.ran h385 (ran_drewN W367 m397 _) (Nat.le_trans (Nat.le_trans (Nat.le_trans (Nat.le_trans (le307.out) le330.out) le360.out) le390.out) t391.out) (.inr (Nat.le_refl _))
  have h408 := Held.ran h386 (ran_drewN W367 m397 _) (Nat.le_trans (Nat.le_trans (le360.out) le390.out) t391.out) (.inr (Nat.le_refl _))
  have h409 := Held.ran h387 (ran_drewN W367 m397 _) (Nat.le_trans (le390.out) t391.out) (.inr (Nat.le_refl _))
  have h410 := Held.ran h395 (ran_drewN W367 m397 _) (Nat.le_refl _) (.inr (Nat.le_refl _))
  have bel411 : Below w.heap.size w (World.drewN W367 m397) := below_drewN bel388 m397
  have t412 : Hid (W367.heap.size ≤ ((World.drewN W367 m397)).heap.size) := t391
  clear h376 h377 h378 h379 h380 h381 h382 h383 h384 h385 h386 h387 h395 bel388
  go_wp2_with fail
  (go_at_call 19; (with_reducible refine (held2_any _ _ _ 1 1 (by omega) _ _ (Own2.row (Held.now h405)) (by omega)).mono ?_); rintro e w' ⟨rfl, rfl⟩)
  go_wp2_with fail
  go_ret
  exact ⟨rfl, bel411⟩
end Go.Proofs.Ytiokcflomchdcab
