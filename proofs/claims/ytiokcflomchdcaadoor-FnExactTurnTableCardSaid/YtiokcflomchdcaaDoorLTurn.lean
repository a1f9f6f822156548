/-
  The walk of the law of TurnTable.
-/
import Derived.Test.YtiokcflomchdcaaDoorTurnA
import Derived.Test.YtiokcflomchdcaaDoorT2
import Derived.Test.YtiokcflomchdcaaDoorHChain
import Derived.Test.YtiokcflomchdcaaDoorLast
import Derived.Deep.RegionHeld3
namespace Go.Proofs.YtiokcflomchdcaaDoor
open Go.RowKit

set_option maxRecDepth 1000000 in
set_option maxHeartbeats 4000000 in
theorem turn_walk (A_aTable : Option Addr) (n_aTable c_aTable : Nat) (z_aTable : List (List Int)) (i_aKind : Int) (w : World) (h_aTable : Rows2 w.heap.size w A_aTable n_aTable z_aTable) (hL : laidMetH Tryd.prog Rows.fnExactTurnTableRow.laid w) :
    Calls Tryd.prog 3 #[.slice A_aTable n_aTable c_aTable, .int .i64 i_aKind] w fun e w' => e = .returned (.bool true) ∧ Below w.heap.size w w' := by
  have hT := turns_of_laid hL
  have HT := Lib.hid hT
  obtain ⟨F, hF⟩ : ∃ F : Nat → Nat → Nat, turnOk z_aTable i_aKind = true → ∀ x y, x < n_aTable → y < n_aTable → F (tP z_aTable i_aKind.toNat x y) (tQ z_aTable i_aKind.toNat x y) = tV z_aTable i_aKind.toNat x y := by
    rcases hb : turnOk z_aTable i_aKind with _ | _
    · exact ⟨fun _ _ => 0, fun h => by cases h⟩
    · have h2 := hb
      unfold turnOk at h2
      rw [Bool.and_eq_true] at h2
      have hk := inB_true.1 h2.2
      obtain ⟨F, hF⟩ := goal_ex (turn_inj h2.1 h_aTable.len (show i_aKind.toNat < 5 by omega)) (tV z_aTable i_aKind.toNat)
      exact ⟨F, fun _ => hF⟩
  have hR : (((optB (turnOk z_aTable i_aKind) (gridOf n_aTable n_aTable F)).getD []).map List.length).sum ≤ 1000000 := optB_sum _ F (fun h => by
    unfold turnOk at h
    rw [Bool.and_eq_true] at h
    exact (isQ_parts h.1 h_aTable.len).1.2)
  obtain ⟨o, ho⟩ : ∃ o, o = optB (turnOk z_aTable i_aKind) (gridOf n_aTable n_aTable F) := ⟨_, rfl⟩
  have CS : ∀ {B : Nat} (A : Option Addr) (c : Nat) (W : World), Rows2 B W A n_aTable z_aTable → B ≤ W.heap.size → Calls Tryd.prog 5 #[.slice A n_aTable c, .int .i64 i_aKind] W (GotT o W) := fun A c W h hB => by rw [ho]; exact specTurn_any A _ c _ _ F W h hB hF
  have CI : ∀ {B : Nat} (A : Option Addr) (c : Nat) (W : World), Rows2 B W A n_aTable z_aTable → B ≤ W.heap.size → Below w.heap.size w W → Calls Tryd.prog 7 #[.slice A n_aTable c, .int .i64 i_aKind] W (GotT o W) := fun A c W h hB hb => by rw [ho]; exact implTurn_any A _ c _ _ F W h hB (HT.out.below hb (Nat.le_refl _)) hF
  rw [← ho] at hR
  clear ho hF hT
  clear F
  have H_aTable := held_row2 h_aTable
  have L_aTable := h_aTable.len
  have t0 : Hid (w.heap.size ≤ w.heap.size) := Lib.hid (Nat.le_refl _)
  have bel0 : Below w.heap.size w w := Below.refl _ _
  go_enter Tryd.func3, Tryd.ntmps3
  go_wp2_with fail
  (go_at_call 4; (with_reducible refine (szInt64SS_any _ _ _ z_aTable 1048576 _ (Rows2.up (Held.now H_aTable) (Nat.le_refl _)) (by omega) (by omega)).mono ?_); rintro e w' ⟨rfl, rfl⟩)
  by_cases big1 : (1048576 : Int) < ((tot2 z_aTable) : Nat)
  · rw [szF_big big1]
    go_wp2_with fail
    go_ret
    exact ⟨rfl, bel0⟩
  have e2 := szF_ok big1
  have H3 : Hid ((tot2 z_aTable) ≤ 1048576) := Lib.hid (by omega)
  have hbd_aTable : (tot2 z_aTable) ≤ 1048576 := H3.out
  have hz6 : 0 ≤ szF 1048576 (tot2 z_aTable) ∧ szF 1048576 (tot2 z_aTable) ≤ 1048576 := by rw [e2]; omega
  generalize szF 1048576 (tot2 z_aTable) = LEFT4 at hz6 ⊢
  clear e2 big1
  have HL5 := Lib.hid hz6
  have hz6a := hz6.1
  clear hz6
  go_wp2_with fail
  (go_at_call 6; (with_reducible refine (toInt64SS_any _ _ _ _ _ (Rows2.up (Held.now H_aTable) (Nat.le_refl _)) (Nat.le_refl _) (small2_len L_aTable H3.out) (small2 H3.out)).mono ?_); rintro e W8 ⟨A11, c12, L13, rfl, o10, b9⟩)
  have h17 := Held.ran H_aTable (ran_below b9 _) (Nat.le_refl _) (.inr (Nat.le_refl _))
  have bel18 : Below w.heap.size w W8 := Below.trans bel0 (Below.mono b9 (Nat.le_refl _))
  have t19 : Hid (w.heap.size ≤ W8.heap.size) := Lib.hid (Nat.le_trans t0.out (Below.size b9))
  clear H_aTable bel0
  have le20 : Hid (w.heap.size ≤ W8.heap.size) := t19
  have t21 : Hid (W8.heap.size ≤ W8.heap.size) := Lib.hid (Nat.le_refl _)
  have fr22 := Own2.from o10
  have lt23 := Own2.lt o10
  have olt24 := Own2.olt o10
  have h25 := held_own2 o10 lt23 olt24
  have ln26 : (lens L13).sum ≤ 2000000 := by rw [Own2.lens o10]; exact Nat.le_trans (sum_le_tot2' _) (Nat.le_trans H3.out (by omega))
  clear o10 b9
  go_wp2_with fail
  (go_at_call 5; (with_reducible refine (CS _ _ _ (Own2.row (Held.now h25)) (Nat.le_refl _)).mono ?_); rintro e W27 ⟨A30, c31, L32, rfl, o29, b28⟩)
  have h36 := Held.ran h17 (ran_below b28 _) (Nat.le_trans (le20.out) t21.out) (.inr (Nat.le_refl _))
  have h37 := Held.ran h25 (ran_below b28 _) (Nat.le_refl _) (.inr (Nat.le_refl _))
  have bel38 : Below w.heap.size w W27 := Below.trans bel18 (Below.mono b28 (Nat.le_trans (le20.out) t21.out))
  have t39 : Hid (W8.heap.size ≤ W27.heap.size) := Lib.hid (Nat.le_trans t21.out (Below.size b28))
  clear h17 h25 bel18
  have le40 : Hid (W8.heap.size ≤ W27.heap.size) := t39
  have t41 : Hid (W27.heap.size ≤ W27.heap.size) := Lib.hid (Nat.le_refl _)
  have fr42 := Own2.from o29
  have lt43 := Own2.lt o29
  have olt44 := Own2.olt o29
  have h45 := held_own2 o29 lt43 olt44
  have ln46 : (lens L32).sum ≤ 2000000 := by rw [Own2.lens o29]; exact (Nat.le_trans hR (by decide))
  clear o29 b28
  go_wp2_with fail
  (go_at_call 6; (with_reducible refine (toInt64SS_any _ _ _ _ _ (Rows2.up (Held.now h36) (Nat.le_trans (Nat.le_trans (le20.out) le40.out) t41.out)) (Nat.le_refl _) (small2_len L_aTable H3.out) (small2 H3.out)).mono ?_); rintro e W47 ⟨A50, c51, L52, rfl, o49, b48⟩)
  have h56 := Held.ran h36 (ran_below b48 _) (Nat.le_trans (Nat.le_trans (le20.out) le40.out) t41.out) (.inr (Nat.le_refl _))
  have h57 := Held.ran h37 (ran_below b48 _) (Nat.le_trans (le40.out) t41.out) (.inr (Nat.le_refl _))
  have h58 := Held.ran h45 (ran_below b48 _) (Nat.le_refl _) (.inr (Nat.le_refl _))
  have bel59 : Below w.heap.size w W47 := Below.trans bel38 (Below.mono b48 (Nat.le_trans (Nat.le_trans (le20.out) le40.out) t41.out))
  have t60 : Hid (W27.heap.size ≤ W47.heap.size) := Lib.hid (Nat.le_trans t41.out (Below.size b48))
  clear h36 h37 h45 bel38
  have le61 : Hid (W27.heap.size ≤ W47.heap.size) := t60
  have t62 : Hid (W47.heap.size ≤ W47.heap.size) := Lib.hid (Nat.le_refl _)
  have fr63 := Own2.from o49
  have lt64 := Own2.lt o49
  have olt65 := Own2.olt o49
  have h66 := held_own2 o49 lt64 olt65
  have ln67 : (lens L52).sum ≤ 2000000 := by rw [Own2.lens o49]; exact Nat.le_trans (sum_le_tot2' _) (Nat.le_trans H3.out (by omega))
  clear o49 b48
  go_wp2_with fail
  (go_at_call 7; (with_reducible refine (CI _ _ _ (Own2.row (Held.now h66)) (Nat.le_refl _) bel59).mono ?_); rintro e W68 ⟨A71, c72, L73, rfl, o70, b69⟩)
  have h77 := Held.ran h56 (ran_below b69 _) (Nat.le_trans (Nat.le_trans (Nat.le_trans (le20.out) le40.out) le61.out) t62.out) (.inr (Nat.le_refl _))
  have h78 := Held.ran h57 (ran_below b69 _) (Nat.le_trans (Nat.le_trans (le40.out) le61.out) t62.out) (.inr (Nat.le_refl _))
  have h79 := Held.ran h58 (ran_below b69 _) (Nat.le_trans (le61.out) t62.out) (.inr (Nat.le_refl _))
  have h80 := Held.ran h66 (ran_below b69 _) (Nat.le_refl _) (.inr (Nat.le_refl _))
  have bel81 : Below w.heap.size w W68 := Below.trans bel59 (Below.mono b69 (Nat.le_trans (Nat.le_trans (Nat.le_trans (le20.out) le40.out) le61.out) t62.out))
  have t82 : Hid (W47.heap.size ≤ W68.heap.size) := Lib.hid (Nat.le_trans t62.out (Below.size b69))
  clear h56 h57 h58 h66 bel59
  have le83 : Hid (W47.heap.size ≤ W68.heap.size) := t82
  have t84 : Hid (W68.heap.size ≤ W68.heap.size) := Lib.hid (Nat.le_refl _)
  have fr85 := Own2.from o70
  have lt86 := Own2.lt o70
  have olt87 := Own2.olt o70
  have h88 := held_own2 o70 lt86 olt87
  have ln89 : (lens L73).sum ≤ 2000000 := by rw [Own2.lens o70]; exact (Nat.le_trans hR (by decide))
  clear o70 b69
  go_wp2_with fail
  (go_at_call 8; (with_reducible refine (eqInt64SS_any _ _ _ _ _ _ _ (Own2.row (Held.now h88)) (Own2.row (Held.now h79))).mono ?_); rintro e w' ⟨rfl, m90, rfl⟩)
  have h91 := Held.ran h77 (ran_drewN W68 m90 _) (Nat.le_trans (Nat.le_trans (Nat.le_trans (Nat.le_trans (le20.out) le40.out) le61.out) le83.out) t84.out) (.inr (Nat.le_refl _))
  have h92 := Held.ran h78 (ran_drewN W68 m90 _) (Nat.le_trans (Nat.le_trans (Nat.le_trans (le40.out) le61.out) le83.out) t84.out) (.inr (Nat.le_refl _))
  have h93 := Held.ran h79 (ran_drewN W68 m90 _) (Nat.le_trans (Nat.le_trans (le61.out) le83.out) t84.out) (.inr (Nat.le_refl _))
  have h94 := Held.ran h80 (ran_drewN W68 m90 _) (Nat.le_trans (le83.out) t84.out) (.inr (Nat.le_refl _))
  have h95 := Held.ran h88 (ran_drewN W68 m90 _) (Nat.le_refl _) (.inr (Nat.le_refl _))
  have bel96 : Below w.heap.size w (World.drewN W68 m90) := below_drewN bel81 m90
  have t97 : Hid (W68.heap.size ≤ ((World.drewN W68 m90)).heap.size) := t84
  clear h77 h78 h79 h80 h88 bel81
  go_wp2_with fail
  have le99 : Hid (W68.heap.size ≤ (World.drewN W68 m90).heap.size) := t97
  have t100 : Hid ((World.drewN W68 m90).heap.size ≤ (World.drewN W68 m90).heap.size) := Lib.hid (Nat.le_refl _)
  (go_at_call 6; (with_reducible refine (toInt64SS_any _ _ _ _ _ (Rows2.up (Held.now h91) (Nat.le_trans (Nat.le_trans (Nat.le_trans (Nat.le_trans (le20.out) le40.out) le61.out) le83.out) t97.out)) (Nat.le_refl _) (small2_len L_aTable H3.out) (small2 H3.out)).mono ?_); rintro e W101 ⟨A104, c105, L106, rfl, o103, b102⟩)
  have h110 := Held.ran h91 (ran_below b102 _) (Nat.le_trans (Nat.le_trans (Nat.le_trans (Nat.le_trans (Nat.le_trans (le20.out) le40.out) le61.out) le83.out) le99.out) t100.out) (.inr (Nat.le_refl _))
  have h111 := Held.ran h92 (ran_below b102 _) (Nat.le_trans (Nat.le_trans (Nat.le_trans (Nat.le_trans (le40.out) le61.out) le83.out) le99.out) t100.out) (.inr (Nat.le_refl _))
  have h112 := Held.ran h93 (ran_below b102 _) (Nat.le_trans (Nat.le_trans (Nat.le_trans (le61.out) le83.out) le99.out) t100.out) (.inr (Nat.le_refl _))
  have h113 := Held.ran h94 (ran_below b102 _) (Nat.le_trans (Nat.le_trans (le83.out) le99.out) t100.out) (.inr (Nat.le_refl _))
  have h114 := Held.ran h95 (ran_below b102 _) (Nat.le_trans (le99.out) t100.out) (.inr (Nat.le_refl _))
  have bel115 : Below w.heap.size w W101 := Below.trans bel96 (Below.mono b102 (Nat.le_trans (Nat.le_trans (Nat.le_trans (Nat.le_trans (Nat.le_trans (le20.out) le40.out) le61.out) le83.out) le99.out) t100.out))
  have t116 : Hid ((World.drewN W68 m90).heap.size ≤ W101.heap.size) := Lib.hid (Nat.le_trans t100.out (Below.size b102))
  clear h91 h92 h93 h94 h95 bel96
  have le117 : Hid ((World.drewN W68 m90).heap.size ≤ W101.heap.size) := t116
  have t118 : Hid (W101.heap.size ≤ W101.heap.size) := Lib.hid (Nat.le_refl _)
  have fr119 := Own2.from o103
  have lt120 := Own2.lt o103
  have olt121 := Own2.olt o103
  have h122 := held_own2 o103 lt120 olt121
  have ln123 : (lens L106).sum ≤ 2000000 := by rw [Own2.lens o103]; exact Nat.le_trans (sum_le_tot2' _) (Nat.le_trans H3.out (by omega))
  clear o103 b102
  go_wp2_with fail
  (go_at_call 8; (with_reducible refine (eqInt64SS_any _ _ _ _ _ _ _ (Own2.row (Held.now h113)) (Own2.row (Held.now h122))).mono ?_); rintro e w' ⟨rfl, m124, rfl⟩)
  have h125 := Held.ran h110 (ran_drewN W101 m124 _) (Nat.le_trans (Nat.le_trans (Nat.le_trans (Nat.le_trans (Nat.le_trans (Nat.le_trans (le20.out) le40.out) le61.out) le83.out) le99.out) le117.out) t118.out) (.inr (Nat.le_refl _))
  have h126 := Held.ran h111 (ran_drewN W101 m124 _) (Nat.le_trans (Nat.le_trans (Nat.le_trans (Nat.le_trans (Nat.le_trans (le40.out) le61.out) le83.out) le99.out) le117.out) t118.out) (.inr (Nat.le_refl _))
  have h127 := Held.ran h112 (ran_drewN W101 m124 _) (Nat.le_trans (Nat.le_trans (Nat.le_trans (Nat.le_trans (le61.out) le83.out) le99.out) le117.out) t118.out) (.inr (Nat.le_refl _))
  have h128 := Held.ran h113 (ran_drewN W101 m124 _) (Nat.le_trans (Nat.le_trans (Nat.le_trans (le83.out) le99.out) le117.out) t118.out) (.inr (Nat.le_refl _))
  have h129 := Held.ran h114 (ran_drewN W101 m124 _) (Nat.le_trans (Nat.le_trans (le99.out) le117.out) t118.out) (.inr (Nat.le_refl _))
  have h130 := Held.ran h122 (ran_drewN W101 m124 _) (Nat.le_refl _) (.inr (Nat.le_refl _))
  have bel131 : Below w.heap.size w (World.drewN W101 m124) := below_drewN bel115 m124
  have t132 : Hid (W101.heap.size ≤ ((World.drewN W101 m124)).heap.size) := t118
  clear h110 h111 h112 h113 h114 h122 bel115
  go_wp2_with fail
  (go_at_call 9; (with_reducible refine (mark2_any _ _ _ 1 1 (by omega) _ _ _ (Held.now h128) (by omega)).mono ?_); rintro e W135 ⟨rfl, o133, k134⟩)
  have r136 := ran_onlyL k134 fr63 lt64
  have h137 := Held.ran h125 (r136) (Nat.le_trans (Nat.le_trans (Nat.le_trans (Nat.le_trans (Nat.le_trans (Nat.le_trans (le20.out) le40.out) le61.out) le83.out) le99.out) le117.out) t132.out) (.inr (Nat.le_trans (le20.out) le40.out))
  have h138 := Held.ran h126 (r136) (Nat.le_trans (Nat.le_trans (Nat.le_trans (Nat.le_trans (Nat.le_trans (le40.out) le61.out) le83.out) le99.out) le117.out) t132.out) (.inr (le40.out))
  have h139 := Held.ran h127 (r136) (Nat.le_trans (Nat.le_trans (Nat.le_trans (Nat.le_trans (le61.out) le83.out) le99.out) le117.out) t132.out) (.inr (Nat.le_refl _))
  have h140 := Held.ran h129 (r136) (Nat.le_trans (Nat.le_trans (le99.out) le117.out) t132.out) (.inl (Nat.le_refl _))
  have h141 := Held.ran h130 (r136) (Nat.le_trans (Nat.le_refl _) t132.out) (.inl (Nat.le_trans (le83.out) le99.out))
  have bel142 : Below w.heap.size w W135 := Below.trans bel131 (Ran.below r136 (Nat.le_trans (le20.out) le40.out) (Nat.le_trans (Nat.le_trans (Nat.le_trans (Nat.le_trans (Nat.le_trans (Nat.le_trans (le20.out) le40.out) le61.out) le83.out) le99.out) le117.out) t132.out))
  have t143 : Hid (W101.heap.size ≤ W135.heap.size) := Lib.hid (Nat.le_trans t132.out (Ran.size r136))
  clear h125 h126 h127 h129 h130 bel131
  have h144 := held_own2 o133 lt64 olt65
  clear o133 h128 r136
  go_wp2_with fail
  (go_at_call 8; (with_reducible refine (eqInt64SS_any _ _ _ _ _ _ _ (Own2.row (Held.now h140)) (Own2.row (Held.now h139))).mono ?_); rintro e w' ⟨rfl, m145, rfl⟩)
  have h146 := Held.ran h137 (ran_drewN W135 m145 _) (Nat.le_trans (Nat.le_trans (Nat.le_trans (Nat.le_trans (Nat.le_trans (Nat.le_trans (le20.out) le40.out) le61.out) le83.out) le99.out) le117.out) t143.out) (.inr (Nat.le_refl _))
  have h147 := Held.ran h138 (ran_drewN W135 m145 _) (Nat.le_trans (Nat.le_trans (Nat.le_trans (Nat.le_trans (Nat.le_trans (le40.out) le61.out) le83.out) le99.out) le117.out) t143.out) (.inr (Nat.le_refl _))
  have h148 := Held.ran h139 (ran_drewN W135 m145 _) (Nat.le_trans (Nat.le_trans (Nat.le_trans (Nat.le_trans (le61.out) le83.out) le99.out) le117.out) t143.out) (.inr (Nat.le_refl _))
  have h149 := Held.ran h144 (ran_drewN W135 m145 _) (Nat.le_trans (Nat.le_trans (Nat.le_trans (le83.out) le99.out) le117.out) t143.out) (.inr (Nat.le_refl _))
  have h150 := Held.ran h140 (ran_drewN W135 m145 _) (Nat.le_trans (Nat.le_trans (le99.out) le117.out) t143.out) (.inr (Nat.le_refl _))
  have h151 := Held.ran h141 (ran_drewN W135 m145 _) (Nat.le_trans (Nat.le_refl _) t143.out) (.inr (Nat.le_refl _))
  have bel152 : Below w.heap.size w (World.drewN W135 m145) := below_drewN bel142 m145
  have t153 : Hid (W101.heap.size ≤ ((World.drewN W135 m145)).heap.size) := t143
  clear h137 h138 h139 h144 h140 h141 bel142
  go_wp2_with fail
  (go_at_call 9; (with_reducible refine (mark2_any _ _ _ 1 1 (by omega) _ _ _ (Held.now h150) (by omega)).mono ?_); rintro e W156 ⟨rfl, o154, k155⟩)
  have r157 := ran_onlyL k155 fr85 lt86
  have h158 := Held.ran h146 (r157) (Nat.le_trans (Nat.le_trans (Nat.le_trans (Nat.le_trans (Nat.le_trans (Nat.le_trans (le20.out) le40.out) le61.out) le83.out) le99.out) le117.out) t153.out) (.inr (Nat.le_trans (Nat.le_trans (le20.out) le40.out) le61.out))
  have h159 := Held.ran h147 (r157) (Nat.le_trans (Nat.le_trans (Nat.le_trans (Nat.le_trans (Nat.le_trans (le40.out) le61.out) le83.out) le99.out) le117.out) t153.out) (.inr (Nat.le_trans (le40.out) le61.out))
  have h160 := Held.ran h148 (r157) (Nat.le_trans (Nat.le_trans (Nat.le_trans (Nat.le_trans (le61.out) le83.out) le99.out) le117.out) t153.out) (.inr (le61.out))
  have h161 := Held.ran h149 (r157) (Nat.le_trans (Nat.le_trans (Nat.le_trans (le83.out) le99.out) le117.out) t153.out) (.inr (Nat.le_refl _))
  have h162 := Held.ran h151 (r157) (Nat.le_trans (Nat.le_refl _) t153.out) (.inl (le99.out))
  have bel163 : Below w.heap.size w W156 := Below.trans bel152 (Ran.below r157 (Nat.le_trans (Nat.le_trans (le20.out) le40.out) le61.out) (Nat.le_trans (Nat.le_trans (Nat.le_trans (Nat.le_trans (Nat.le_trans (Nat.le_trans (le20.out) le40.out) le61.out) le83.out) le99.out) le117.out) t153.out))
  have t164 : Hid (W101.heap.size ≤ W156.heap.size) := Lib.hid (Nat.le_trans t153.out (Ran.size r157))
  clear h146 h147 h148 h149 h151 bel152
  have h165 := held_own2 o154 lt86 olt87
  clear o154 h150 r157
  go_wp2_with fail
  (go_at_call 10; (with_reducible refine (held2_any _ _ _ 1 1 (by omega) _ _ (Own2.row (Held.now h165)) (by omega)).mono ?_); rintro e w' ⟨rfl, rfl⟩)
  go_wp2_with fail
  have le167 : Hid (W101.heap.size ≤ W156.heap.size) := t164
  have t168 : Hid (W156.heap.size ≤ W156.heap.size) := Lib.hid (Nat.le_refl _)
  (go_at_call 6; (with_reducible refine (toInt64SS_any _ _ _ _ _ (Rows2.up (Held.now h158) (Nat.le_trans (Nat.le_trans (Nat.le_trans (Nat.le_trans (Nat.le_trans (Nat.le_trans (le20.out) le40.out) le61.out) le83.out) le99.out) le117.out) t164.out)) (Nat.le_refl _) (small2_len L_aTable H3.out) (small2 H3.out)).mono ?_); rintro e W169 ⟨A172, c173, L174, rfl, o171, b170⟩)
  have h178 := Held.ran h158 (ran_below b170 _) (Nat.le_trans (Nat.le_trans (Nat.le_trans (Nat.le_trans (Nat.le_trans (Nat.le_trans (Nat.le_trans (le20.out) le40.out) le61.out) le83.out) le99.out) le117.out) le167.out) t168.out) (.inr (Nat.le_refl _))
  have h179 := Held.ran h159 (ran_below b170 _) (Nat.le_trans (Nat.le_trans (Nat.le_trans (Nat.le_trans (Nat.le_trans (Nat.le_trans (le40.out) le61.out) le83.out) le99.out) le117.out) le167.out) t168.out) (.inr (Nat.le_refl _))
  have h180 := Held.ran h160 (ran_below b170 _) (Nat.le_trans (Nat.le_trans (Nat.le_trans (Nat.le_trans (Nat.le_trans (le61.out) le83.out) le99.out) le117.out) le167.out) t168.out) (.inr (Nat.le_refl _))
  have h181 := Held.ran h161 (ran_below b170 _) (Nat.le_trans (Nat.le_trans (Nat.le_trans (Nat.le_trans (le83.out) le99.out) le117.out) le167.out) t168.out) (.inr (Nat.le_refl _))
  have h182 := Held.ran h165 (ran_below b170 _) (Nat.le_trans (Nat.le_trans (Nat.le_trans (le99.out) le117.out) le167.out) t168.out) (.inr (Nat.le_refl _))
  have h183 := Held.ran h162 (ran_below b170 _) (Nat.le_trans (le167.out) t168.out) (.inr (Nat.le_refl _))
  have bel184 : Below w.heap.size w W169 := Below.trans bel163 (Below.mono b170 (Nat.le_trans (Nat.le_trans (Nat.le_trans (Nat.le_trans (Nat.le_trans (Nat.le_trans (Nat.le_trans (le20.out) le40.out) le61.out) le83.out) le99.out) le117.out) le167.out) t168.out))
  have t185 : Hid (W156.heap.size ≤ W169.heap.size) := Lib.hid (Nat.le_trans t168.out (Below.size b170))
  clear h158 h159 h160 h161 h165 h162 bel163
  have le186 : Hid (W156.heap.size ≤ W169.heap.size) := t185
  have t187 : Hid (W169.heap.size ≤ W169.heap.size) := Lib.hid (Nat.le_refl _)
  have fr188 := Own2.from o171
  have lt189 := Own2.lt o171
  have olt190 := Own2.olt o171
  have h191 := held_own2 o171 lt189 olt190
  have ln192 : (lens L174).sum ≤ 2000000 := by rw [Own2.lens o171]; exact Nat.le_trans (sum_le_tot2' _) (Nat.le_trans H3.out (by omega))
  clear o171 b170
  go_wp2_with fail
  (go_at_call 7; (with_reducible refine (CI _ _ _ (Own2.row (Held.now h191)) (Nat.le_refl _) bel184).mono ?_); rintro e W193 ⟨A196, c197, L198, rfl, o195, b194⟩)
  have h202 := Held.ran h178 (ran_below b194 _) (Nat.le_trans (Nat.le_trans (Nat.le_trans (Nat.le_trans (Nat.le_trans (Nat.le_trans (Nat.le_trans (Nat.le_trans (le20.out) le40.out) le61.out) le83.out) le99.out) le117.out) le167.out) le186.out) t187.out) (.inr (Nat.le_refl _))
  have h203 := Held.ran h179 (ran_below b194 _) (Nat.le_trans (Nat.le_trans (Nat.le_trans (Nat.le_trans (Nat.le_trans (Nat.le_trans (Nat.le_trans (le40.out) le61.out) le83.out) le99.out) le117.out) le167.out) le186.out) t187.out) (.inr (Nat.le_refl _))
  have h204 := Held.ran h180 (ran_below b194 _) (Nat.le_trans (Nat.le_trans (Nat.le_trans (Nat.le_trans (Nat.le_trans (Nat.le_trans (le61.out) le83.out) le99.out) le117.out) le167.out) le186.out) t187.out) (.inr (Nat.le_refl _))
  have h205 := Held.ran h181 (ran_below b194 _) (Nat.le_trans (Nat.le_trans (Nat.le_trans (Nat.le_trans (Nat.le_trans (le83.out) le99.out) le117.out) le167.out) le186.out) t187.out) (.inr (Nat.le_refl _))
  have h206 := Held.ran h182 (ran_below b194 _) (Nat.le_trans (Nat.le_trans (Nat.le_trans (Nat.le_trans (le99.out) le117.out) le167.out) le186.out) t187.out) (.inr (Nat.le_refl _))
  have h207 := Held.ran h183 (ran_below b194 _) (Nat.le_trans (Nat.le_trans (le167.out) le186.out) t187.out) (.inr (Nat.le_refl _))
  have h208 := Held.ran h191 (ran_below b194 _) (Nat.le_refl _) (.inr (Nat.le_refl _))
  have bel209 : Below w.heap.size w W193 := Below.trans bel184 (Below.mono b194 (Nat.le_trans (Nat.le_trans (Nat.le_trans (Nat.le_trans (Nat.le_trans (Nat.le_trans (Nat.le_trans (Nat.le_trans (le20.out) le40.out) le61.out) le83.out) le99.out) le117.out) le167.out) le186.out) t187.out))
  have t210 : Hid (W169.heap.size ≤ W193.heap.size) := Lib.hid (Nat.le_trans t187.out (Below.size b194))
  clear h178 h179 h180 h181 h182 h183 h191 bel184
  have le211 : Hid (W169.heap.size ≤ W193.heap.size) := t210
  have t212 : Hid (W193.heap.size ≤ W193.heap.size) := Lib.hid (Nat.le_refl _)
  have fr213 := Own2.from o195
  have lt214 := Own2.lt o195
  have olt215 := Own2.olt o195
  have h216 := held_own2 o195 lt214 olt215
  have ln217 : (lens L198).sum ≤ 2000000 := by rw [Own2.lens o195]; exact (Nat.le_trans hR (by decide))
  clear o195 b194
  go_wp2_with fail
  (go_at_call 8; (with_reducible refine (eqInt64SS_any _ _ _ _ _ _ _ (Own2.row (Held.now h216)) (Own2.row (Held.now h204))).mono ?_); rintro e w' ⟨rfl, m218, rfl⟩)
  have h219 := Held.ran h202 (ran_drewN W193 m218 _) (Nat.le_trans (Nat.le_trans (Nat.le_trans (Nat.le_trans (Nat.le_trans (Nat.le_trans (Nat.le_trans (Nat.le_trans (Nat.le_trans (le20.out) le40.out) le61.out) le83.out) le99.out) le117.out) le167.out) le186.out) le211.out) t212.out) (.inr (Nat.le_refl _))
  have h220 := Held.ran h203 (ran_drewN W193 m218 _) (Nat.le_trans (Nat.le_trans (Nat.le_trans (Nat.le_trans (Nat.le_trans (Nat.le_trans (Nat.le_trans (Nat.le_trans (le40.out) le61.out) le83.out) le99.out) le117.out) le167.out) le186.out) le211.out) t212.out) (.inr (Nat.le_refl _))
  have h221 := Held.ran h204 (ran_drewN W193 m218 _) (Nat.le_trans (Nat.le_trans (Nat.le_trans (Nat.le_trans (Nat.le_trans (Nat.le_trans (Nat.le_trans (le61.out) le83.out) le99.out) le117.out) le167.out) le186.out) le211.out) t212.out) (.inr (Nat.le_refl _))
  have h222 := Held.ran h205 (ran_drewN W193 m218 _) (Nat.le_trans (Nat.le_trans (Nat.le_trans (Nat.le_trans (Nat.le_trans (Nat.le_trans (le83.out) le99.out) le117.out) le167.out) le186.out) le211.out) t212.out) (.inr (Nat.le_refl _))
  have h223 := Held.ran h206 (ran_drewN W193 m218 _) (Nat.le_trans (Nat.le_trans (Nat.le_trans (Nat.le_trans (Nat.le_trans (le99.out) le117.out) le167.out) le186.out) le211.out) t212.out) (.inr (Nat.le_refl _))
  have h224 := Held.ran h207 (ran_drewN W193 m218 _) (Nat.le_trans (Nat.le_trans (Nat.le_trans (le167.out) le186.out) le211.out) t212.out) (.inr (Nat.le_refl _))
  have h225 := Held.ran h208 (ran_drewN W193 m218 _) (Nat.le_trans (le211.out) t212.out) (.inr (Nat.le_refl _))
  have h226 := Held.ran h216 (ran_drewN W193 m218 _) (Nat.le_refl _) (.inr (Nat.le_refl _))
  have bel227 : Below w.heap.size w (World.drewN W193 m218) := below_drewN bel209 m218
  have t228 : Hid (W193.heap.size ≤ ((World.drewN W193 m218)).heap.size) := t212
  clear h202 h203 h204 h205 h206 h207 h208 h216 bel209
  go_wp2_with fail
  (go_at_call 10; (with_reducible refine (held2_any _ _ _ 1 1 (by omega) _ _ (Own2.row (Held.now h223)) (by omega)).mono ?_); rintro e w' ⟨rfl, rfl⟩)
  go_wp2_with fail
  go_ret
  exact ⟨rfl, bel227⟩
end Go.Proofs.YtiokcflomchdcaaDoor
