/-
  The walk of the law of DihedralGroup.
-/
import Derived.Test.YteggllmiapdmcaaDiI
import Derived.Test.YteggllmiapdmcaaT2
import Derived.Test.YteggllmiapdmcaaHChain
import Derived.Test.YteggllmiapdmcaaLast
import Derived.Test.YteggllmiapdmcaaGp
import Derived.Test.YteggllmiapdmcaaEqB
import Derived.Deep.RegionHeld3
namespace Go.Proofs.Yteggllmiapdmcaa
open Go.RowKit

set_option maxRecDepth 1000000 in
set_option maxHeartbeats 4000000 in
theorem dih6_walk (i_aN : Int) (w : World)  :
    Calls Try.prog 10 #[.int .i64 i_aN] w fun e w' => e = .returned (.bool true) ∧ Below w.heap.size w w' := by
  obtain ⟨r, hr⟩ : ∃ r, r = dihR i_aN := ⟨_, rfl⟩
  obtain ⟨ok, hok⟩ : ∃ ok, ok = inB i_aN 1 5 := ⟨_, rfl⟩
  have hT : (r.G.map List.length).sum ≤ 2000000 := by rw [hr]; exact dihR_sum _
  have CS : ∀ W, Calls Try.prog 49 #[.int .i64 i_aN] W (MadeGB W.heap.size r ok W) := fun W => by rw [hr, hok]; exact specDih_any _ W
  have CI : ∀ W, Calls Try.prog 22 #[.int .i64 i_aN] W (MadeGB W.heap.size r ok W) := fun W => by rw [hr, hok]; exact implDih_any _ W
  unfold MadeGB at CS CI
  clear hr hok
  have t0 : Hid (w.heap.size ≤ w.heap.size) := Lib.hid (Nat.le_refl _)
  have bel0 : Below w.heap.size w w := Below.refl _ _
  go_enter Try.func10, Try.ntmps10
  go_wp2_with fail
  (go_at_call 49; (with_reducible refine (CS _).mono ?_); rintro e W1 ⟨A4, c5, L6, rfl, o3, b2⟩)
  have bel10 : Below w.heap.size w W1 := Below.trans bel0 (Below.mono b2 (Nat.le_refl _))
  have t11 : Hid (w.heap.size ≤ W1.heap.size) := Lib.hid (Nat.le_trans t0.out (Below.size b2))
  clear bel0
  have le12 : Hid (w.heap.size ≤ W1.heap.size) := t11
  have t13 : Hid (W1.heap.size ≤ W1.heap.size) := Lib.hid (Nat.le_refl _)
  have fr14 := Own2.from o3
  have lt15 := Own2.lt o3
  have olt16 := Own2.olt o3
  have h17 := held_own2 o3 lt15 olt16
  have ln18 : (lens L6).sum ≤ 2000000 := by rw [Own2.lens o3]; exact hT
  clear o3 b2
  obtain ⟨W19, hW20⟩ : ∃ W19, W19 = W1.alloc (.cells #[.slice A4 r.G.length c5] 26) := ⟨_, rfl⟩
  have be21 : Below W1.heap.size W1 W19 := by rw [hW20]; exact (Below.refl _ _).alloc (Nat.le_refl _) _
  have bk22 : Blk W19 W1.heap.size #[.slice A4 r.G.length c5] 26 := by rw [hW20]; exact Blk.new _ _ _
  have lt23 : Hid (W1.heap.size < W19.heap.size) := Lib.hid (Blk.lt bk22)
  have h24 := Held.ran h17 (ran_below be21 _) (Nat.le_refl _) (.inr (Nat.le_refl _))
  have bel25 : Below w.heap.size w W19 := Below.trans bel10 (Below.mono be21 (Nat.le_trans (le12.out) t13.out))
  have t26 : Hid (W1.heap.size ≤ W19.heap.size) := Lib.hid (Nat.le_trans t13.out (Below.size be21))
  clear h17 bel10
  have le27 : Hid (W1.heap.size ≤ W19.heap.size) := t26
  have t28 : Hid (W19.heap.size ≤ W19.heap.size) := Lib.hid (Nat.le_refl _)
  have h29 := held_blk bk22 (Nat.le_refl _) lt23.out
  clear bk22 be21
  go_wp2_with fail
  rw [show W1.alloc (.cells #[.slice A4 r.G.length c5] 26) = W19 from hW20.symm]
  clear hW20
  (go_at_call 22; (with_reducible refine (CI _).mono ?_); rintro e W30 ⟨A33, c34, L35, rfl, o32, b31⟩)
  have h39 := Held.ran h24 (ran_below b31 _) (Nat.le_trans (le27.out) t28.out) (.inr (Nat.le_refl _))
  have h40 := Held.ran h29 (ran_below b31 _) (Nat.le_refl _) (.inr (Nat.le_refl _))
  have bel41 : Below w.heap.size w W30 := Below.trans bel25 (Below.mono b31 (Nat.le_trans (Nat.le_trans (le12.out) le27.out) t28.out))
  have t42 : Hid (W19.heap.size ≤ W30.heap.size) := Lib.hid (Nat.le_trans t28.out (Below.size b31))
  clear h24 h29 bel25
  have le43 : Hid (W19.heap.size ≤ W30.heap.size) := t42
  have t44 : Hid (W30.heap.size ≤ W30.heap.size) := Lib.hid (Nat.le_refl _)
  have fr45 := Own2.from o32
  have lt46 := Own2.lt o32
  have olt47 := Own2.olt o32
  have h48 := held_own2 o32 lt46 olt47
  have ln49 : (lens L35).sum ≤ 2000000 := by rw [Own2.lens o32]; exact hT
  clear o32 b31
  have bk54 := Held.now h40
  have q55 : W30.cell? ⟨W1.heap.size, 0, none⟩ = some (.slice A4 r.G.length c5) := Blk.cell bk54 0
  clear bk54
  have lt56 : W1.heap.size < W30.heap.size := Nat.lt_of_lt_of_le lt23.out (Nat.le_trans (le43.out) t44.out)
  have ne57 : W1.heap.size ≠ W30.heap.size := Nat.ne_of_lt lt56
  obtain ⟨W50, hW51⟩ : ∃ W50, W50 = W30.alloc (.cells #[.slice A33 r.G.length c34] 26) := ⟨_, rfl⟩
  have be52 : Below W30.heap.size W30 W50 := by rw [hW51]; exact (Below.refl _ _).alloc (Nat.le_refl _) _
  have bk53 : Blk W50 W30.heap.size #[.slice A33 r.G.length c34] 26 := by rw [hW51]; exact Blk.new _ _ _
  have lt58 : Hid (W30.heap.size < W50.heap.size) := Lib.hid (Blk.lt bk53)
  have h59 := Held.ran h39 (ran_below be52 _) (Nat.le_trans (Nat.le_trans (le27.out) le43.out) t44.out) (.inr (Nat.le_refl _))
  have h60 := Held.ran h40 (ran_below be52 _) (Nat.le_trans (le43.out) t44.out) (.inr (Nat.le_refl _))
  have h61 := Held.ran h48 (ran_below be52 _) (Nat.le_refl _) (.inr (Nat.le_refl _))
  have bel62 : Below w.heap.size w W50 := Below.trans bel41 (Below.mono be52 (Nat.le_trans (Nat.le_trans (Nat.le_trans (le12.out) le27.out) le43.out) t44.out))
  have t63 : Hid (W30.heap.size ≤ W50.heap.size) := Lib.hid (Nat.le_trans t44.out (Below.size be52))
  clear h39 h40 h48 bel41
  have le64 : Hid (W30.heap.size ≤ W50.heap.size) := t63
  have t65 : Hid (W50.heap.size ≤ W50.heap.size) := Lib.hid (Nat.le_refl _)
  have h66 := held_blk bk53 (Nat.le_refl _) lt58.out
  clear bk53 be52
  have bk67 := Held.now h60
  have q68 := Blk.cell bk67 0
  clear bk67
  go_wp2_with fail
  rw [show W30.alloc (.cells #[.slice A33 r.G.length c34] 26) = W50 from hW51.symm]
  clear hW51
  clear q55 lt56 ne57
  (go_at_call 45; (with_reducible refine (eqGroup_any r _ _ _ _ _ _ (Own2.row (Held.now h61)) (Own2.row (Held.now h59)) (Nat.le_refl _) (Nat.le_refl _)).mono ?_); rintro e W70 ⟨rfl, b69⟩)
  have h71 := Held.ran h59 (ran_below b69 _) (Nat.le_trans (Nat.le_trans (Nat.le_trans (le27.out) le43.out) le64.out) t65.out) (.inr (Nat.le_refl _))
  have h72 := Held.ran h60 (ran_below b69 _) (Nat.le_trans (Nat.le_trans (le43.out) le64.out) t65.out) (.inr (Nat.le_refl _))
  have h73 := Held.ran h61 (ran_below b69 _) (Nat.le_trans (le64.out) t65.out) (.inr (Nat.le_refl _))
  have h74 := Held.ran h66 (ran_below b69 _) (Nat.le_refl _) (.inr (Nat.le_refl _))
  have bel75 : Below w.heap.size w W70 := Below.trans bel62 (Below.mono b69 (Nat.le_trans (Nat.le_trans (Nat.le_trans (Nat.le_trans (le12.out) le27.out) le43.out) le64.out) t65.out))
  have t76 : Hid (W50.heap.size ≤ W70.heap.size) := Lib.hid (Nat.le_trans t65.out (Below.size b69))
  clear h59 h60 h61 h66 bel62
  clear b69
  clear q68
  have bk80 := Held.now h74
  have q81 := Blk.cell bk80 0
  clear bk80
  go_wp2_with fail
  (go_at_call 47; (with_reducible refine (markGroup_any r _ _ _ 1 1 (by omega) _ _ _ (Held.now h73) (Nat.le_trans (Nat.le_trans (le43.out) le64.out) t76.out) (by omega)).mono ?_); rintro e W79 ⟨rfl, o77, k78, k82⟩)
  have r83 := k82 _ lt46
  clear k78 k82
  have h84 := Held.ran h71 (r83) (Nat.le_trans (Nat.le_trans (Nat.le_trans (le27.out) le43.out) le64.out) t76.out) (.inr (le27.out))
  have h85 := Held.ran h72 (r83) (Nat.le_trans (Nat.le_trans (le43.out) le64.out) t76.out) (.inr (Nat.le_refl _))
  have h86 := Held.ran h74 (r83) (Nat.le_trans (Nat.le_refl _) t76.out) (.inl (Nat.le_refl _))
  have bel87 : Below w.heap.size w W79 := Below.trans bel75 (Ran.below r83 (Nat.le_trans (le12.out) le27.out) (Nat.le_trans (Nat.le_trans (Nat.le_trans (Nat.le_trans (le12.out) le27.out) le43.out) le64.out) t76.out))
  have t88 : Hid (W50.heap.size ≤ W79.heap.size) := Lib.hid (Nat.le_trans t76.out (Ran.size r83))
  clear h71 h72 h74 bel75
  have h89 := held_own2 o77 lt46 olt47
  clear o77 h73 r83
  clear q81
  have bk90 := Held.now h86
  have q91 := Blk.cell bk90 0
  clear bk90
  go_wp2_with fail
  (go_at_call 48; (with_reducible refine (heldGroup_any r _ _ _ 1 1 (by omega) _ _ (Own2.row (Held.now h89)) (Nat.le_refl _) (by omega)).mono ?_); rintro e W93 ⟨rfl, b92⟩)
  have h94 := Held.ran h84 (ran_below b92 _) (Nat.le_trans (Nat.le_trans (Nat.le_trans (le27.out) le43.out) le64.out) t88.out) (.inr (Nat.le_refl _))
  have h95 := Held.ran h85 (ran_below b92 _) (Nat.le_trans (Nat.le_trans (le43.out) le64.out) t88.out) (.inr (Nat.le_refl _))
  have h96 := Held.ran h89 (ran_below b92 _) (Nat.le_trans (le64.out) t88.out) (.inr (Nat.le_refl _))
  have h97 := Held.ran h86 (ran_below b92 _) (Nat.le_trans (Nat.le_refl _) t88.out) (.inr (Nat.le_refl _))
  have bel98 : Below w.heap.size w W93 := Below.trans bel87 (Below.mono b92 (Nat.le_trans (Nat.le_trans (Nat.le_trans (Nat.le_trans (le12.out) le27.out) le43.out) le64.out) t88.out))
  have t99 : Hid (W50.heap.size ≤ W93.heap.size) := Lib.hid (Nat.le_trans t88.out (Below.size b92))
  clear h84 h85 h89 h86 bel87
  clear b92
  clear q91
  go_wp2_with fail
  have le100 : Hid (W50.heap.size ≤ W93.heap.size) := t99
  have t101 : Hid (W93.heap.size ≤ W93.heap.size) := Lib.hid (Nat.le_refl _)
  (go_at_call 22; (with_reducible refine (CI _).mono ?_); rintro e W102 ⟨A105, c106, L107, rfl, o104, b103⟩)
  have h111 := Held.ran h94 (ran_below b103 _) (Nat.le_trans (Nat.le_trans (Nat.le_trans (Nat.le_trans (le27.out) le43.out) le64.out) le100.out) t101.out) (.inr (Nat.le_refl _))
  have h112 := Held.ran h95 (ran_below b103 _) (Nat.le_trans (Nat.le_trans (Nat.le_trans (le43.out) le64.out) le100.out) t101.out) (.inr (Nat.le_refl _))
  have h113 := Held.ran h96 (ran_below b103 _) (Nat.le_trans (Nat.le_trans (le64.out) le100.out) t101.out) (.inr (Nat.le_refl _))
  have h114 := Held.ran h97 (ran_below b103 _) (Nat.le_trans (le100.out) t101.out) (.inr (Nat.le_refl _))
  have bel115 : Below w.heap.size w W102 := Below.trans bel98 (Below.mono b103 (Nat.le_trans (Nat.le_trans (Nat.le_trans (Nat.le_trans (Nat.le_trans (le12.out) le27.out) le43.out) le64.out) le100.out) t101.out))
  have t116 : Hid (W93.heap.size ≤ W102.heap.size) := Lib.hid (Nat.le_trans t101.out (Below.size b103))
  clear h94 h95 h96 h97 bel98
  have le117 : Hid (W93.heap.size ≤ W102.heap.size) := t116
  have t118 : Hid (W102.heap.size ≤ W102.heap.size) := Lib.hid (Nat.le_refl _)
  have fr119 := Own2.from o104
  have lt120 := Own2.lt o104
  have olt121 := Own2.olt o104
  have h122 := held_own2 o104 lt120 olt121
  have ln123 : (lens L107).sum ≤ 2000000 := by rw [Own2.lens o104]; exact hT
  clear o104 b103
  have bk128 := Held.now h112
  have q129 : W102.cell? ⟨W1.heap.size, 0, none⟩ = some (.slice A4 r.G.length c5) := Blk.cell bk128 0
  clear bk128
  have lt130 : W1.heap.size < W102.heap.size := Nat.lt_of_lt_of_le lt23.out (Nat.le_trans (Nat.le_trans (Nat.le_trans (Nat.le_trans (le43.out) le64.out) le100.out) le117.out) t118.out)
  have ne131 : W1.heap.size ≠ W102.heap.size := Nat.ne_of_lt lt130
  have bk132 := Held.now h114
  have q133 : W102.cell? ⟨W30.heap.size, 0, none⟩ = some (.slice A33 r.G.length c34) := Blk.cell bk132 0
  clear bk132
  have lt134 : W30.heap.size < W102.heap.size := Nat.lt_of_lt_of_le lt58.out (Nat.le_trans (Nat.le_trans (le100.out) le117.out) t118.out)
  have ne135 : W30.heap.size ≠ W102.heap.size := Nat.ne_of_lt lt134
  obtain ⟨W124, hW125⟩ : ∃ W124, W124 = W102.alloc (.cells #[.slice A105 r.G.length c106] 26) := ⟨_, rfl⟩
  have be126 : Below W102.heap.size W102 W124 := by rw [hW125]; exact (Below.refl _ _).alloc (Nat.le_refl _) _
  have bk127 : Blk W124 W102.heap.size #[.slice A105 r.G.length c106] 26 := by rw [hW125]; exact Blk.new _ _ _
  have lt136 : Hid (W102.heap.size < W124.heap.size) := Lib.hid (Blk.lt bk127)
  have h137 := Held.ran h111 (ran_below be126 _) (Nat.le_trans (Nat.le_trans (Nat.le_trans (Nat.le_trans (Nat.le_trans (le27.out) le43.out) le64.out) le100.out) le117.out) t118.out) (.inr (Nat.le_refl _))
  have h138 := Held.ran h112 (ran_below be126 _) (Nat.le_trans (Nat.le_trans (Nat.le_trans (Nat.le_trans (le43.out) le64.out) le100.out) le117.out) t118.out) (.inr (Nat.le_refl _))
  have h139 := Held.ran h113 (ran_below be126 _) (Nat.le_trans (Nat.le_trans (Nat.le_trans (le64.out) le100.out) le117.out) t118.out) (.inr (Nat.le_refl _))
  have h140 := Held.ran h114 (ran_below be126 _) (Nat.le_trans (Nat.le_trans (le100.out) le117.out) t118.out) (.inr (Nat.le_refl _))
  have h141 := Held.ran h122 (ran_below be126 _) (Nat.le_refl _) (.inr (Nat.le_refl _))
  have bel142 : Below w.heap.size w W124 := Below.trans bel115 (Below.mono be126 (Nat.le_trans (Nat.le_trans (Nat.le_trans (Nat.le_trans (Nat.le_trans (Nat.le_trans (le12.out) le27.out) le43.out) le64.out) le100.out) le117.out) t118.out))
  have t143 : Hid (W102.heap.size ≤ W124.heap.size) := Lib.hid (Nat.le_trans t118.out (Below.size be126))
  clear h111 h112 h113 h114 h122 bel115
  have le144 : Hid (W102.heap.size ≤ W124.heap.size) := t143
  have t145 : Hid (W124.heap.size ≤ W124.heap.size) := Lib.hid (Nat.le_refl _)
  have h146 := held_blk bk127 (Nat.le_refl _) lt136.out
  clear bk127 be126
  have bk147 := Held.now h138
  have q148 := Blk.cell bk147 0
  clear bk147
  go_wp2_with fail
  rw [show W102.alloc (.cells #[.slice A105 r.G.length c106] 26) = W124 from hW125.symm]
  clear hW125
  clear q129 lt130 ne131 q133 lt134 ne135
  (go_at_call 45; (with_reducible refine (eqGroup_any r _ _ _ _ _ _ (Own2.row (Held.now h141)) (Own2.row (Held.now h137)) (Nat.le_refl _) (Nat.le_refl _)).mono ?_); rintro e W150 ⟨rfl, b149⟩)
  have h151 := Held.ran h137 (ran_below b149 _) (Nat.le_trans (Nat.le_trans (Nat.le_trans (Nat.le_trans (Nat.le_trans (Nat.le_trans (le27.out) le43.out) le64.out) le100.out) le117.out) le144.out) t145.out) (.inr (Nat.le_refl _))
  have h152 := Held.ran h138 (ran_below b149 _) (Nat.le_trans (Nat.le_trans (Nat.le_trans (Nat.le_trans (Nat.le_trans (le43.out) le64.out) le100.out) le117.out) le144.out) t145.out) (.inr (Nat.le_refl _))
  have h153 := Held.ran h139 (ran_below b149 _) (Nat.le_trans (Nat.le_trans (Nat.le_trans (Nat.le_trans (le64.out) le100.out) le117.out) le144.out) t145.out) (.inr (Nat.le_refl _))
  have h154 := Held.ran h140 (ran_below b149 _) (Nat.le_trans (Nat.le_trans (Nat.le_trans (le100.out) le117.out) le144.out) t145.out) (.inr (Nat.le_refl _))
  have h155 := Held.ran h141 (ran_below b149 _) (Nat.le_trans (le144.out) t145.out) (.inr (Nat.le_refl _))
  have h156 := Held.ran h146 (ran_below b149 _) (Nat.le_refl _) (.inr (Nat.le_refl _))
  have bel157 : Below w.heap.size w W150 := Below.trans bel142 (Below.mono b149 (Nat.le_trans (Nat.le_trans (Nat.le_trans (Nat.le_trans (Nat.le_trans (Nat.le_trans (Nat.le_trans (le12.out) le27.out) le43.out) le64.out) le100.out) le117.out) le144.out) t145.out))
  have t158 : Hid (W124.heap.size ≤ W150.heap.size) := Lib.hid (Nat.le_trans t145.out (Below.size b149))
  clear h137 h138 h139 h140 h141 h146 bel142
  clear b149
  clear q148
  have bk159 := Held.now h154
  have q160 := Blk.cell bk159 0
  clear bk159
  go_wp2_with fail
  (go_at_call 48; (with_reducible refine (heldGroup_any r _ _ _ 1 1 (by omega) _ _ (Own2.row (Held.now h153)) (Nat.le_refl _) (by omega)).mono ?_); rintro e W162 ⟨rfl, b161⟩)
  have h163 := Held.ran h151 (ran_below b161 _) (Nat.le_trans (Nat.le_trans (Nat.le_trans (Nat.le_trans (Nat.le_trans (Nat.le_trans (le27.out) le43.out) le64.out) le100.out) le117.out) le144.out) t158.out) (.inr (Nat.le_refl _))
  have h164 := Held.ran h152 (ran_below b161 _) (Nat.le_trans (Nat.le_trans (Nat.le_trans (Nat.le_trans (Nat.le_trans (le43.out) le64.out) le100.out) le117.out) le144.out) t158.out) (.inr (Nat.le_refl _))
  have h165 := Held.ran h153 (ran_below b161 _) (Nat.le_trans (Nat.le_trans (Nat.le_trans (Nat.le_trans (le64.out) le100.out) le117.out) le144.out) t158.out) (.inr (Nat.le_refl _))
  have h166 := Held.ran h154 (ran_below b161 _) (Nat.le_trans (Nat.le_trans (Nat.le_trans (le100.out) le117.out) le144.out) t158.out) (.inr (Nat.le_refl _))
  have h167 := Held.ran h155 (ran_below b161 _) (Nat.le_trans (le144.out) t158.out) (.inr (Nat.le_refl _))
  have h168 := Held.ran h156 (ran_below b161 _) (Nat.le_trans (Nat.le_refl _) t158.out) (.inr (Nat.le_refl _))
  have bel169 : Below w.heap.size w W162 := Below.trans bel157 (Below.mono b161 (Nat.le_trans (Nat.le_trans (Nat.le_trans (Nat.le_trans (Nat.le_trans (Nat.le_trans (Nat.le_trans (le12.out) le27.out) le43.out) le64.out) le100.out) le117.out) le144.out) t158.out))
  have t170 : Hid (W124.heap.size ≤ W162.heap.size) := Lib.hid (Nat.le_trans t158.out (Below.size b161))
  clear h151 h152 h153 h154 h155 h156 bel157
  clear b161
  clear q160
  go_wp2_with fail
  go_ret
  exact ⟨rfl, bel169⟩
end Go.Proofs.Yteggllmiapdmcaa
