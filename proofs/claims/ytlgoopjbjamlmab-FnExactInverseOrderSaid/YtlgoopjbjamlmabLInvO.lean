/-
  The walk of the law of InverseOrder.
-/
import Derived.Test.YtlgoopjbjamlmabComp
namespace Go.Proofs.Ytlgoopjbjamlmab
open Go.RowKit

set_option maxRecDepth 1000000 in
set_option maxHeartbeats 2000000 in
theorem inverseOrder_walk (A_aF : Option Addr) (n_aF c_aF : Nat) (z_aF : List Int) (w : World) (h_aF : Row .i64 w A_aF n_aF z_aF) :
    Calls Try.prog 7 #[.slice A_aF n_aF c_aF] w fun e w' => e = .returned (.bool true) ∧ Below w.heap.size w w' := by
  have le_aF := RowB.le h_aF
  by_cases big_aF : 1048576 < n_aF
  · go_enter Try.func7, Try.ntmps7
    go_wp2
    go_ret
    exact ⟨rfl, Below.refl _ _⟩
  have hR := invR2_le z_aF
  have s_w : Hid (w.heap.size ≤ w.heap.size) := Lib.hid (Nat.le_refl _)
  have bel0 : Below w.heap.size w w := Below.refl _ _
  go_enter Try.func7, Try.ntmps7
  have t2 : Hid (w.heap.size ≤ w.heap.size) := Lib.hid (Nat.le_refl _)
  go_wp2_with fail
  (go_at_call 16; (with_reducible refine (toInt64S_any _ _ _ _ _ (RowB.up h_aF s_w.out) (by omega)).mono ?_); rintro e W7 ⟨A3, c4, rfl, o5, b6⟩)
  have t8 : Hid (w.heap.size ≤ W7.heap.size) := Lib.hid (Nat.le_trans t2.out b6.size)
  have sz9 := b6.size
  have bel10 : Below w.heap.size w W7 := bel0.trans (b6.mono s_w.out)
  have s11 : Hid (w.heap.size ≤ W7.heap.size) := Lib.hid (Nat.le_trans s_w.out sz9)
  have r12 := RowB.below h_aF (b6.mono s_w.out)
  have s13 : Hid (w.heap.size ≤ W7.heap.size) := Lib.hid (Nat.le_trans s_w.out sz9)
  clear sz9
  have fr14 := o5.from
  have lt15 := o5.lt
  have sb16 : Hid (w.heap.size ≤ w.heap.size) := Lib.hid (Nat.le_refl _)
  have le17 : Hid (w.heap.size ≤ W7.heap.size) := t8
  have t18 : Hid (W7.heap.size ≤ W7.heap.size) := Lib.hid (Nat.le_refl _)
  have t19 : Hid (W7.heap.size ≤ W7.heap.size) := Lib.hid (Nat.le_refl _)
  go_wp2_with fail
  (go_at_call 23; (with_reducible refine (specInverse2_any _ _ _ _ _ (Own.row o5) (Own.cap o5)).mono ?_); rintro e W24 ⟨A20, c21, rfl, o22, b23⟩)
  have t25 : Hid (W7.heap.size ≤ W24.heap.size) := Lib.hid (Nat.le_trans t19.out b23.size)
  have sz26 := b23.size
  have bel27 : Below w.heap.size w W24 := bel10.trans (b23.mono s11.out)
  have s28 : Hid (w.heap.size ≤ W24.heap.size) := Lib.hid (Nat.le_trans s11.out sz26)
  have r29 := RowB.below r12 (b23.mono s13.out)
  have s30 : Hid (w.heap.size ≤ W24.heap.size) := Lib.hid (Nat.le_trans s13.out sz26)
  have o31 := Own.below o5 b23
  clear sz26
  have fr32 := o22.from
  have lt33 := o22.lt
  have sb34 : Hid (w.heap.size ≤ W7.heap.size) := Lib.hid (le17.out)
  have le35 : Hid (W7.heap.size ≤ W24.heap.size) := t25
  have t36 : Hid (W24.heap.size ≤ W24.heap.size) := Lib.hid (Nat.le_refl _)
  have t37 : Hid (W24.heap.size ≤ W24.heap.size) := Lib.hid (Nat.le_refl _)
  go_wp2_with fail
  (go_at_call 16; (with_reducible refine (toInt64S_any _ _ _ _ _ (RowB.up r29 s30.out) (by omega)).mono ?_); rintro e W42 ⟨A38, c39, rfl, o40, b41⟩)
  have t43 : Hid (W24.heap.size ≤ W42.heap.size) := Lib.hid (Nat.le_trans t37.out b41.size)
  have sz44 := b41.size
  have bel45 : Below w.heap.size w W42 := bel27.trans (b41.mono s28.out)
  have s46 : Hid (w.heap.size ≤ W42.heap.size) := Lib.hid (Nat.le_trans s28.out sz44)
  have r47 := RowB.below r29 (b41.mono s30.out)
  have s48 : Hid (w.heap.size ≤ W42.heap.size) := Lib.hid (Nat.le_trans s30.out sz44)
  have o49 := Own.below o31 b41
  have o50 := Own.below o22 b41
  clear sz44
  have fr51 := o40.from
  have lt52 := o40.lt
  have sb53 : Hid (w.heap.size ≤ W24.heap.size) := Lib.hid (Nat.le_trans le17.out le35.out)
  have le54 : Hid (W24.heap.size ≤ W42.heap.size) := t43
  have t55 : Hid (W42.heap.size ≤ W42.heap.size) := Lib.hid (Nat.le_refl _)
  have t56 : Hid (W42.heap.size ≤ W42.heap.size) := Lib.hid (Nat.le_refl _)
  go_wp2_with fail
  (go_at_call 24; (with_reducible refine (implInverse2_any _ _ _ _ _ (Own.row o40)).mono ?_); rintro e W61 ⟨A57, c58, rfl, o59, b60⟩)
  have t62 : Hid (W42.heap.size ≤ W61.heap.size) := Lib.hid (Nat.le_trans t56.out b60.size)
  have sz63 := b60.size
  have bel64 : Below w.heap.size w W61 := bel45.trans (b60.mono s46.out)
  have s65 : Hid (w.heap.size ≤ W61.heap.size) := Lib.hid (Nat.le_trans s46.out sz63)
  have r66 := RowB.below r47 (b60.mono s48.out)
  have s67 : Hid (w.heap.size ≤ W61.heap.size) := Lib.hid (Nat.le_trans s48.out sz63)
  have o68 := Own.below o49 b60
  have o69 := Own.below o50 b60
  have o70 := Own.below o40 b60
  clear sz63
  have fr71 := o59.from
  have lt72 := o59.lt
  have sb73 : Hid (w.heap.size ≤ W42.heap.size) := Lib.hid (Nat.le_trans (Nat.le_trans le17.out le35.out) le54.out)
  have le74 : Hid (W42.heap.size ≤ W61.heap.size) := t62
  have t75 : Hid (W61.heap.size ≤ W61.heap.size) := Lib.hid (Nat.le_refl _)
  go_wp2_with fail
  (go_at_call 18; (with_reducible refine (eqInt64S_any _ _ _ _ _ _ _ (Own.row o59) (Own.row o69)).mono ?_); rintro e w' ⟨rfl, m76, rfl⟩)
  have t77 : Hid (W61.heap.size ≤ ((World.drewN W61 m76)).heap.size) := t75
  have bel78 : Below w.heap.size w (World.drewN W61 m76) := below_drewN bel64 m76
  have s79 : Hid (w.heap.size ≤ ((World.drewN W61 m76)).heap.size) := s65
  have r80 := RowB.drewN r66 m76
  have s81 : Hid (w.heap.size ≤ ((World.drewN W61 m76)).heap.size) := s67
  have o82 := Own.drewN o68 m76
  have o83 := Own.drewN o69 m76
  have o84 := Own.drewN o70 m76
  have o85 := Own.drewN o59 m76
  have le87 : Hid (W61.heap.size ≤ (World.drewN W61 m76).heap.size) := t77
  have t88 : Hid ((World.drewN W61 m76).heap.size ≤ (World.drewN W61 m76).heap.size) := Lib.hid (Nat.le_refl _)
  go_wp2_with fail
  (go_at_call 16; (with_reducible refine (toInt64S_any _ _ _ _ _ (RowB.up r80 s81.out) (by omega)).mono ?_); rintro e W93 ⟨A89, c90, rfl, o91, b92⟩)
  have t94 : Hid ((World.drewN W61 m76).heap.size ≤ W93.heap.size) := Lib.hid (Nat.le_trans t88.out b92.size)
  have sz95 := b92.size
  have bel96 : Below w.heap.size w W93 := bel78.trans (b92.mono s79.out)
  have s97 : Hid (w.heap.size ≤ W93.heap.size) := Lib.hid (Nat.le_trans s79.out sz95)
  have r98 := RowB.below r80 (b92.mono s81.out)
  have s99 : Hid (w.heap.size ≤ W93.heap.size) := Lib.hid (Nat.le_trans s81.out sz95)
  have o100 := Own.below o82 b92
  have o101 := Own.below o83 b92
  have o102 := Own.below o84 b92
  have o103 := Own.below o85 b92
  clear sz95
  have fr104 := o91.from
  have lt105 := o91.lt
  have sb106 : Hid (w.heap.size ≤ (World.drewN W61 m76).heap.size) := Lib.hid (Nat.le_trans (Nat.le_trans (Nat.le_trans (Nat.le_trans le17.out le35.out) le54.out) le74.out) le87.out)
  have le107 : Hid ((World.drewN W61 m76).heap.size ≤ W93.heap.size) := t94
  have t108 : Hid (W93.heap.size ≤ W93.heap.size) := Lib.hid (Nat.le_refl _)
  go_wp2_with fail
  (go_at_call 18; (with_reducible refine (eqInt64S_any _ _ _ _ _ _ _ (Own.row o102) (Own.row o91)).mono ?_); rintro e w' ⟨rfl, m109, rfl⟩)
  have t110 : Hid (W93.heap.size ≤ ((World.drewN W93 m109)).heap.size) := t108
  have bel111 : Below w.heap.size w (World.drewN W93 m109) := below_drewN bel96 m109
  have s112 : Hid (w.heap.size ≤ ((World.drewN W93 m109)).heap.size) := s97
  have r113 := RowB.drewN r98 m109
  have s114 : Hid (w.heap.size ≤ ((World.drewN W93 m109)).heap.size) := s99
  have o115 := Own.drewN o100 m109
  have o116 := Own.drewN o101 m109
  have o117 := Own.drewN o102 m109
  have o118 := Own.drewN o103 m109
  have o119 := Own.drewN o91 m109
  go_wp2_with fail
  (go_at_call 21; (with_reducible refine (mark_any _ _ _ 1 1 (by omega) _ _ o117 (by omega)).mono ?_); rintro e W122 ⟨rfl, o120, k121⟩)
  have t123 : Hid (W93.heap.size ≤ W122.heap.size) := Lib.hid (Nat.le_trans t110.out (Nat.le_of_eq k121.size.symm))
  have bel124 : Below w.heap.size w W122 := bel111.trans (k121.below (fun g hg => Nat.le_trans sb53.out (fr51 g hg)))
  have s125 : Hid (w.heap.size ≤ W122.heap.size) := Lib.hid (Nat.le_trans s112.out (Nat.le_of_eq k121.size.symm))
  have r126 := RowB.below r113 (k121.below (fun g hg => Nat.le_trans (Nat.le_trans le17.out le35.out) (fr51 g hg)))
  have s127 : Hid (w.heap.size ≤ W122.heap.size) := Lib.hid (Nat.le_trans s114.out (Nat.le_of_eq k121.size.symm))
  have o128 := Own.only_gt o115 k121 (fun g hg => Nat.lt_of_lt_of_le (lt15 g hg) (le35.out)) fr51
  have o129 := Own.only_gt o116 k121 (fun g hg => Nat.lt_of_lt_of_le (lt33 g hg) (Nat.le_refl _)) fr51
  have o130 := Own.only_lt o118 k121 (fun g hg => Nat.lt_of_lt_of_le (lt52 g hg) (Nat.le_refl _))
  have o131 := Own.only_lt o119 k121 (fun g hg => Nat.lt_of_lt_of_le (lt52 g hg) (Nat.le_trans le74.out le87.out))
  go_wp2_with fail
  (go_at_call 18; (with_reducible refine (eqInt64S_any _ _ _ _ _ _ _ (Own.row o130) (Own.row o129)).mono ?_); rintro e w' ⟨rfl, m132, rfl⟩)
  have t133 : Hid (W93.heap.size ≤ ((World.drewN W122 m132)).heap.size) := t123
  have bel134 : Below w.heap.size w (World.drewN W122 m132) := below_drewN bel124 m132
  have s135 : Hid (w.heap.size ≤ ((World.drewN W122 m132)).heap.size) := s125
  have r136 := RowB.drewN r126 m132
  have s137 : Hid (w.heap.size ≤ ((World.drewN W122 m132)).heap.size) := s127
  have o138 := Own.drewN o128 m132
  have o139 := Own.drewN o129 m132
  have o140 := Own.drewN o120 m132
  have o141 := Own.drewN o130 m132
  have o142 := Own.drewN o131 m132
  go_wp2_with fail
  (go_at_call 21; (with_reducible refine (mark_any _ _ _ 1 1 (by omega) _ _ o141 (by omega)).mono ?_); rintro e W145 ⟨rfl, o143, k144⟩)
  have t146 : Hid (W93.heap.size ≤ W145.heap.size) := Lib.hid (Nat.le_trans t133.out (Nat.le_of_eq k144.size.symm))
  have bel147 : Below w.heap.size w W145 := bel134.trans (k144.below (fun g hg => Nat.le_trans sb73.out (fr71 g hg)))
  have s148 : Hid (w.heap.size ≤ W145.heap.size) := Lib.hid (Nat.le_trans s135.out (Nat.le_of_eq k144.size.symm))
  have r149 := RowB.below r136 (k144.below (fun g hg => Nat.le_trans (Nat.le_trans (Nat.le_trans le17.out le35.out) le54.out) (fr71 g hg)))
  have s150 : Hid (w.heap.size ≤ W145.heap.size) := Lib.hid (Nat.le_trans s137.out (Nat.le_of_eq k144.size.symm))
  have o151 := Own.only_gt o138 k144 (fun g hg => Nat.lt_of_lt_of_le (lt15 g hg) (Nat.le_trans le35.out le54.out)) fr71
  have o152 := Own.only_gt o139 k144 (fun g hg => Nat.lt_of_lt_of_le (lt33 g hg) (le54.out)) fr71
  have o153 := Own.only_gt o140 k144 (fun g hg => Nat.lt_of_lt_of_le (lt52 g hg) (Nat.le_refl _)) fr71
  have o154 := Own.only_lt o142 k144 (fun g hg => Nat.lt_of_lt_of_le (lt72 g hg) (le87.out))
  go_wp2_with fail
  (go_at_call 22; (with_reducible refine (held_any _ _ _ 1 1 (by omega) _ (Own.row o143) (by omega)).mono ?_); rintro e w' ⟨rfl, rfl⟩)
  have le156 : Hid (W93.heap.size ≤ W145.heap.size) := t146
  have t157 : Hid (W145.heap.size ≤ W145.heap.size) := Lib.hid (Nat.le_refl _)
  go_wp2_with fail
  (go_at_call 16; (with_reducible refine (toInt64S_any _ _ _ _ _ (RowB.up r149 s150.out) (by omega)).mono ?_); rintro e W162 ⟨A158, c159, rfl, o160, b161⟩)
  have t163 : Hid (W145.heap.size ≤ W162.heap.size) := Lib.hid (Nat.le_trans t157.out b161.size)
  have sz164 := b161.size
  have bel165 : Below w.heap.size w W162 := bel147.trans (b161.mono s148.out)
  have s166 : Hid (w.heap.size ≤ W162.heap.size) := Lib.hid (Nat.le_trans s148.out sz164)
  have r167 := RowB.below r149 (b161.mono s150.out)
  have s168 : Hid (w.heap.size ≤ W162.heap.size) := Lib.hid (Nat.le_trans s150.out sz164)
  have o169 := Own.below o151 b161
  have o170 := Own.below o152 b161
  have o171 := Own.below o153 b161
  have o172 := Own.below o143 b161
  have o173 := Own.below o154 b161
  clear sz164
  have fr174 := o160.from
  have lt175 := o160.lt
  have sb176 : Hid (w.heap.size ≤ W145.heap.size) := Lib.hid (Nat.le_trans (Nat.le_trans (Nat.le_trans (Nat.le_trans (Nat.le_trans (Nat.le_trans le17.out le35.out) le54.out) le74.out) le87.out) le107.out) le156.out)
  have le177 : Hid (W145.heap.size ≤ W162.heap.size) := t163
  have t178 : Hid (W162.heap.size ≤ W162.heap.size) := Lib.hid (Nat.le_refl _)
  have t179 : Hid (W162.heap.size ≤ W162.heap.size) := Lib.hid (Nat.le_refl _)
  go_wp2_with fail
  (go_at_call 24; (with_reducible refine (implInverse2_any _ _ _ _ _ (Own.row o160)).mono ?_); rintro e W184 ⟨A180, c181, rfl, o182, b183⟩)
  have t185 : Hid (W162.heap.size ≤ W184.heap.size) := Lib.hid (Nat.le_trans t179.out b183.size)
  have sz186 := b183.size
  have bel187 : Below w.heap.size w W184 := bel165.trans (b183.mono s166.out)
  have s188 : Hid (w.heap.size ≤ W184.heap.size) := Lib.hid (Nat.le_trans s166.out sz186)
  have r189 := RowB.below r167 (b183.mono s168.out)
  have s190 : Hid (w.heap.size ≤ W184.heap.size) := Lib.hid (Nat.le_trans s168.out sz186)
  have o191 := Own.below o169 b183
  have o192 := Own.below o170 b183
  have o193 := Own.below o171 b183
  have o194 := Own.below o172 b183
  have o195 := Own.below o173 b183
  have o196 := Own.below o160 b183
  clear sz186
  have fr197 := o182.from
  have lt198 := o182.lt
  have sb199 : Hid (w.heap.size ≤ W162.heap.size) := Lib.hid (Nat.le_trans (Nat.le_trans (Nat.le_trans (Nat.le_trans (Nat.le_trans (Nat.le_trans (Nat.le_trans le17.out le35.out) le54.out) le74.out) le87.out) le107.out) le156.out) le177.out)
  have le200 : Hid (W162.heap.size ≤ W184.heap.size) := t185
  have t201 : Hid (W184.heap.size ≤ W184.heap.size) := Lib.hid (Nat.le_refl _)
  go_wp2_with fail
  (go_at_call 18; (with_reducible refine (eqInt64S_any _ _ _ _ _ _ _ (Own.row o182) (Own.row o192)).mono ?_); rintro e w' ⟨rfl, m202, rfl⟩)
  have t203 : Hid (W184.heap.size ≤ ((World.drewN W184 m202)).heap.size) := t201
  have bel204 : Below w.heap.size w (World.drewN W184 m202) := below_drewN bel187 m202
  have s205 : Hid (w.heap.size ≤ ((World.drewN W184 m202)).heap.size) := s188
  have r206 := RowB.drewN r189 m202
  have s207 : Hid (w.heap.size ≤ ((World.drewN W184 m202)).heap.size) := s190
  have o208 := Own.drewN o191 m202
  have o209 := Own.drewN o192 m202
  have o210 := Own.drewN o193 m202
  have o211 := Own.drewN o194 m202
  have o212 := Own.drewN o195 m202
  have o213 := Own.drewN o196 m202
  have o214 := Own.drewN o182 m202
  go_wp2_with fail
  (go_at_call 22; (with_reducible refine (held_any _ _ _ 1 1 (by omega) _ (Own.row o211) (by omega)).mono ?_); rintro e w' ⟨rfl, rfl⟩)
  go_wp2_with fail
  go_ret
  exact ⟨rfl, bel204⟩
end Go.Proofs.Ytlgoopjbjamlmab
