/-
  The walk of the law of ComposeOrders.
-/
import Derived.Test.YtlgoopjbjamlmabComp
namespace Go.Proofs.Ytlgoopjbjamlmab
open Go.RowKit

set_option maxRecDepth 1000000 in
set_option maxHeartbeats 2000000 in
theorem compose_walk (A_aF : Option Addr) (n_aF c_aF : Nat) (z_aF : List Int) (A_aG : Option Addr) (n_aG c_aG : Nat) (z_aG : List Int) (w : World) (h_aF : Row .i64 w A_aF n_aF z_aF) (h_aG : Row .i64 w A_aG n_aG z_aG) :
    Calls Try.prog 6 #[.slice A_aF n_aF c_aF, .slice A_aG n_aG c_aG] w fun e w' => e = .returned (.bool true) ∧ Below w.heap.size w w' := by
  have le_aF := RowB.le h_aF
  by_cases big_aF : 1048576 < n_aF
  · go_enter Try.func6, Try.ntmps6
    go_wp2
    go_ret
    exact ⟨rfl, Below.refl _ _⟩
  have le_aG := RowB.le h_aG
  by_cases big_aG : 1048576 < n_aG
  · go_enter Try.func6, Try.ntmps6
    go_wp2
    go_ret
    exact ⟨rfl, Below.refl _ _⟩
  have hR := compR_le z_aF z_aG
  have s_w : Hid (w.heap.size ≤ w.heap.size) := Lib.hid (Nat.le_refl _)
  have bel0 : Below w.heap.size w w := Below.refl _ _
  go_enter Try.func6, Try.ntmps6
  have t2 : Hid (w.heap.size ≤ w.heap.size) := Lib.hid (Nat.le_refl _)
  go_wp2_with fail
  (go_at_call 16; (with_reducible refine (toInt64S_any _ _ _ _ _ (RowB.up h_aF s_w.out) (by omega)).mono ?_); rintro e W7 ⟨A3, c4, rfl, o5, b6⟩)
  have t8 : Hid (w.heap.size ≤ W7.heap.size) := Lib.hid (Nat.le_trans t2.out b6.size)
  have sz9 := b6.size
  have bel10 : Below w.heap.size w W7 := bel0.trans (b6.mono s_w.out)
  have s11 : Hid (w.heap.size ≤ W7.heap.size) := Lib.hid (Nat.le_trans s_w.out sz9)
  have r12 := RowB.below h_aF (b6.mono s_w.out)
  have s13 : Hid (w.heap.size ≤ W7.heap.size) := Lib.hid (Nat.le_trans s_w.out sz9)
  have r14 := RowB.below h_aG (b6.mono s_w.out)
  have s15 : Hid (w.heap.size ≤ W7.heap.size) := Lib.hid (Nat.le_trans s_w.out sz9)
  clear sz9
  have fr16 := o5.from
  have lt17 := o5.lt
  have sb18 : Hid (w.heap.size ≤ w.heap.size) := Lib.hid (Nat.le_refl _)
  have le19 : Hid (w.heap.size ≤ W7.heap.size) := t8
  have t20 : Hid (W7.heap.size ≤ W7.heap.size) := Lib.hid (Nat.le_refl _)
  have t22 : Hid (W7.heap.size ≤ W7.heap.size) := Lib.hid (Nat.le_refl _)
  go_wp2_with fail
  (go_at_call 16; (with_reducible refine (toInt64S_any _ _ _ _ _ (RowB.up r14 s15.out) (by omega)).mono ?_); rintro e W27 ⟨A23, c24, rfl, o25, b26⟩)
  have t28 : Hid (W7.heap.size ≤ W27.heap.size) := Lib.hid (Nat.le_trans t22.out b26.size)
  have sz29 := b26.size
  have bel30 : Below w.heap.size w W27 := bel10.trans (b26.mono s11.out)
  have s31 : Hid (w.heap.size ≤ W27.heap.size) := Lib.hid (Nat.le_trans s11.out sz29)
  have r32 := RowB.below r12 (b26.mono s13.out)
  have s33 : Hid (w.heap.size ≤ W27.heap.size) := Lib.hid (Nat.le_trans s13.out sz29)
  have r34 := RowB.below r14 (b26.mono s15.out)
  have s35 : Hid (w.heap.size ≤ W27.heap.size) := Lib.hid (Nat.le_trans s15.out sz29)
  have o36 := Own.below o5 b26
  clear sz29
  have fr37 := o25.from
  have lt38 := o25.lt
  have sb39 : Hid (w.heap.size ≤ W7.heap.size) := Lib.hid (le19.out)
  have le40 : Hid (W7.heap.size ≤ W27.heap.size) := t28
  have t41 : Hid (W27.heap.size ≤ W27.heap.size) := Lib.hid (Nat.le_refl _)
  have t42 : Hid (W27.heap.size ≤ W27.heap.size) := Lib.hid (Nat.le_refl _)
  go_wp2_with fail
  (go_at_call 19; (with_reducible refine (specCompose_any _ _ _ _ _ _ _ _ _ (Own.row o36) (Own.row o25) (Own.cap o36) (Own.cap o25)).mono ?_); rintro e W47 ⟨A43, c44, rfl, o45, b46⟩)
  have t48 : Hid (W27.heap.size ≤ W47.heap.size) := Lib.hid (Nat.le_trans t42.out b46.size)
  have sz49 := b46.size
  have bel50 : Below w.heap.size w W47 := bel30.trans (b46.mono s31.out)
  have s51 : Hid (w.heap.size ≤ W47.heap.size) := Lib.hid (Nat.le_trans s31.out sz49)
  have r52 := RowB.below r32 (b46.mono s33.out)
  have s53 : Hid (w.heap.size ≤ W47.heap.size) := Lib.hid (Nat.le_trans s33.out sz49)
  have r54 := RowB.below r34 (b46.mono s35.out)
  have s55 : Hid (w.heap.size ≤ W47.heap.size) := Lib.hid (Nat.le_trans s35.out sz49)
  have o56 := Own.below o36 b46
  have o57 := Own.below o25 b46
  clear sz49
  have fr58 := o45.from
  have lt59 := o45.lt
  have sb60 : Hid (w.heap.size ≤ W27.heap.size) := Lib.hid (Nat.le_trans le19.out le40.out)
  have le61 : Hid (W27.heap.size ≤ W47.heap.size) := t48
  have t62 : Hid (W47.heap.size ≤ W47.heap.size) := Lib.hid (Nat.le_refl _)
  have t63 : Hid (W47.heap.size ≤ W47.heap.size) := Lib.hid (Nat.le_refl _)
  go_wp2_with fail
  (go_at_call 16; (with_reducible refine (toInt64S_any _ _ _ _ _ (RowB.up r52 s53.out) (by omega)).mono ?_); rintro e W68 ⟨A64, c65, rfl, o66, b67⟩)
  have t69 : Hid (W47.heap.size ≤ W68.heap.size) := Lib.hid (Nat.le_trans t63.out b67.size)
  have sz70 := b67.size
  have bel71 : Below w.heap.size w W68 := bel50.trans (b67.mono s51.out)
  have s72 : Hid (w.heap.size ≤ W68.heap.size) := Lib.hid (Nat.le_trans s51.out sz70)
  have r73 := RowB.below r52 (b67.mono s53.out)
  have s74 : Hid (w.heap.size ≤ W68.heap.size) := Lib.hid (Nat.le_trans s53.out sz70)
  have r75 := RowB.below r54 (b67.mono s55.out)
  have s76 : Hid (w.heap.size ≤ W68.heap.size) := Lib.hid (Nat.le_trans s55.out sz70)
  have o77 := Own.below o56 b67
  have o78 := Own.below o57 b67
  have o79 := Own.below o45 b67
  clear sz70
  have fr80 := o66.from
  have lt81 := o66.lt
  have sb82 : Hid (w.heap.size ≤ W47.heap.size) := Lib.hid (Nat.le_trans (Nat.le_trans le19.out le40.out) le61.out)
  have le83 : Hid (W47.heap.size ≤ W68.heap.size) := t69
  have t84 : Hid (W68.heap.size ≤ W68.heap.size) := Lib.hid (Nat.le_refl _)
  have t85 : Hid (W68.heap.size ≤ W68.heap.size) := Lib.hid (Nat.le_refl _)
  go_wp2_with fail
  (go_at_call 16; (with_reducible refine (toInt64S_any _ _ _ _ _ (RowB.up r75 s76.out) (by omega)).mono ?_); rintro e W90 ⟨A86, c87, rfl, o88, b89⟩)
  have t91 : Hid (W68.heap.size ≤ W90.heap.size) := Lib.hid (Nat.le_trans t85.out b89.size)
  have sz92 := b89.size
  have bel93 : Below w.heap.size w W90 := bel71.trans (b89.mono s72.out)
  have s94 : Hid (w.heap.size ≤ W90.heap.size) := Lib.hid (Nat.le_trans s72.out sz92)
  have r95 := RowB.below r73 (b89.mono s74.out)
  have s96 : Hid (w.heap.size ≤ W90.heap.size) := Lib.hid (Nat.le_trans s74.out sz92)
  have r97 := RowB.below r75 (b89.mono s76.out)
  have s98 : Hid (w.heap.size ≤ W90.heap.size) := Lib.hid (Nat.le_trans s76.out sz92)
  have o99 := Own.below o77 b89
  have o100 := Own.below o78 b89
  have o101 := Own.below o79 b89
  have o102 := Own.below o66 b89
  clear sz92
  have fr103 := o88.from
  have lt104 := o88.lt
  have sb105 : Hid (w.heap.size ≤ W68.heap.size) := Lib.hid (Nat.le_trans (Nat.le_trans (Nat.le_trans le19.out le40.out) le61.out) le83.out)
  have le106 : Hid (W68.heap.size ≤ W90.heap.size) := t91
  have t107 : Hid (W90.heap.size ≤ W90.heap.size) := Lib.hid (Nat.le_refl _)
  have t108 : Hid (W90.heap.size ≤ W90.heap.size) := Lib.hid (Nat.le_refl _)
  go_wp2_with fail
  (go_at_call 20; (with_reducible refine (implCompose_any _ _ _ _ _ _ _ _ _ (Own.row o102) (Own.row o88)).mono ?_); rintro e W113 ⟨A109, c110, rfl, o111, b112⟩)
  have t114 : Hid (W90.heap.size ≤ W113.heap.size) := Lib.hid (Nat.le_trans t108.out b112.size)
  have sz115 := b112.size
  have bel116 : Below w.heap.size w W113 := bel93.trans (b112.mono s94.out)
  have s117 : Hid (w.heap.size ≤ W113.heap.size) := Lib.hid (Nat.le_trans s94.out sz115)
  have r118 := RowB.below r95 (b112.mono s96.out)
  have s119 : Hid (w.heap.size ≤ W113.heap.size) := Lib.hid (Nat.le_trans s96.out sz115)
  have r120 := RowB.below r97 (b112.mono s98.out)
  have s121 : Hid (w.heap.size ≤ W113.heap.size) := Lib.hid (Nat.le_trans s98.out sz115)
  have o122 := Own.below o99 b112
  have o123 := Own.below o100 b112
  have o124 := Own.below o101 b112
  have o125 := Own.below o102 b112
  have o126 := Own.below o88 b112
  clear sz115
  have fr127 := o111.from
  have lt128 := o111.lt
  have sb129 : Hid (w.heap.size ≤ W90.heap.size) := Lib.hid (Nat.le_trans (Nat.le_trans (Nat.le_trans (Nat.le_trans le19.out le40.out) le61.out) le83.out) le106.out)
  have le130 : Hid (W90.heap.size ≤ W113.heap.size) := t114
  have t131 : Hid (W113.heap.size ≤ W113.heap.size) := Lib.hid (Nat.le_refl _)
  go_wp2_with fail
  (go_at_call 18; (with_reducible refine (eqInt64S_any _ _ _ _ _ _ _ (Own.row o111) (Own.row o124)).mono ?_); rintro e w' ⟨rfl, m132, rfl⟩)
  have t133 : Hid (W113.heap.size ≤ ((World.drewN W113 m132)).heap.size) := t131
  have bel134 : Below w.heap.size w (World.drewN W113 m132) := below_drewN bel116 m132
  have s135 : Hid (w.heap.size ≤ ((World.drewN W113 m132)).heap.size) := s117
  have r136 := RowB.drewN r118 m132
  have s137 : Hid (w.heap.size ≤ ((World.drewN W113 m132)).heap.size) := s119
  have r138 := RowB.drewN r120 m132
  have s139 : Hid (w.heap.size ≤ ((World.drewN W113 m132)).heap.size) := s121
  have o140 := Own.drewN o122 m132
  have o141 := Own.drewN o123 m132
  have o142 := Own.drewN o124 m132
  have o143 := Own.drewN o125 m132
  have o144 := Own.drewN o126 m132
  have o145 := Own.drewN o111 m132
  have le147 : Hid (W113.heap.size ≤ (World.drewN W113 m132).heap.size) := t133
  have t148 : Hid ((World.drewN W113 m132).heap.size ≤ (World.drewN W113 m132).heap.size) := Lib.hid (Nat.le_refl _)
  go_wp2_with fail
  (go_at_call 16; (with_reducible refine (toInt64S_any _ _ _ _ _ (RowB.up r136 s137.out) (by omega)).mono ?_); rintro e W153 ⟨A149, c150, rfl, o151, b152⟩)
  have t154 : Hid ((World.drewN W113 m132).heap.size ≤ W153.heap.size) := Lib.hid (Nat.le_trans t148.out b152.size)
  have sz155 := b152.size
  have bel156 : Below w.heap.size w W153 := bel134.trans (b152.mono s135.out)
  have s157 : Hid (w.heap.size ≤ W153.heap.size) := Lib.hid (Nat.le_trans s135.out sz155)
  have r158 := RowB.below r136 (b152.mono s137.out)
  have s159 : Hid (w.heap.size ≤ W153.heap.size) := Lib.hid (Nat.le_trans s137.out sz155)
  have r160 := RowB.below r138 (b152.mono s139.out)
  have s161 : Hid (w.heap.size ≤ W153.heap.size) := Lib.hid (Nat.le_trans s139.out sz155)
  have o162 := Own.below o140 b152
  have o163 := Own.below o141 b152
  have o164 := Own.below o142 b152
  have o165 := Own.below o143 b152
  have o166 := Own.below o144 b152
  have o167 := Own.below o145 b152
  clear sz155
  have fr168 := o151.from
  have lt169 := o151.lt
  have sb170 : Hid (w.heap.size ≤ (World.drewN W113 m132).heap.size) := Lib.hid (Nat.le_trans (Nat.le_trans (Nat.le_trans (Nat.le_trans (Nat.le_trans (Nat.le_trans le19.out le40.out) le61.out) le83.out) le106.out) le130.out) le147.out)
  have le171 : Hid ((World.drewN W113 m132).heap.size ≤ W153.heap.size) := t154
  have t172 : Hid (W153.heap.size ≤ W153.heap.size) := Lib.hid (Nat.le_refl _)
  go_wp2_with fail
  (go_at_call 18; (with_reducible refine (eqInt64S_any _ _ _ _ _ _ _ (Own.row o165) (Own.row o151)).mono ?_); rintro e w' ⟨rfl, m173, rfl⟩)
  have t174 : Hid (W153.heap.size ≤ ((World.drewN W153 m173)).heap.size) := t172
  have bel175 : Below w.heap.size w (World.drewN W153 m173) := below_drewN bel156 m173
  have s176 : Hid (w.heap.size ≤ ((World.drewN W153 m173)).heap.size) := s157
  have r177 := RowB.drewN r158 m173
  have s178 : Hid (w.heap.size ≤ ((World.drewN W153 m173)).heap.size) := s159
  have r179 := RowB.drewN r160 m173
  have s180 : Hid (w.heap.size ≤ ((World.drewN W153 m173)).heap.size) := s161
  have o181 := Own.drewN o162 m173
  have o182 := Own.drewN o163 m173
  have o183 := Own.drewN o164 m173
  have o184 := Own.drewN o165 m173
  have o185 := Own.drewN o166 m173
  have o186 := Own.drewN o167 m173
  have o187 := Own.drewN o151 m173
  have le189 : Hid (W153.heap.size ≤ (World.drewN W153 m173).heap.size) := t174
  have t190 : Hid ((World.drewN W153 m173).heap.size ≤ (World.drewN W153 m173).heap.size) := Lib.hid (Nat.le_refl _)
  go_wp2_with fail
  (go_at_call 16; (with_reducible refine (toInt64S_any _ _ _ _ _ (RowB.up r179 s180.out) (by omega)).mono ?_); rintro e W195 ⟨A191, c192, rfl, o193, b194⟩)
  have t196 : Hid ((World.drewN W153 m173).heap.size ≤ W195.heap.size) := Lib.hid (Nat.le_trans t190.out b194.size)
  have sz197 := b194.size
  have bel198 : Below w.heap.size w W195 := bel175.trans (b194.mono s176.out)
  have s199 : Hid (w.heap.size ≤ W195.heap.size) := Lib.hid (Nat.le_trans s176.out sz197)
  have r200 := RowB.below r177 (b194.mono s178.out)
  have s201 : Hid (w.heap.size ≤ W195.heap.size) := Lib.hid (Nat.le_trans s178.out sz197)
  have r202 := RowB.below r179 (b194.mono s180.out)
  have s203 : Hid (w.heap.size ≤ W195.heap.size) := Lib.hid (Nat.le_trans s180.out sz197)
  have o204 := Own.below o181 b194
  have o205 := Own.below o182 b194
  have o206 := Own.below o183 b194
  have o207 := Own.below o184 b194
  have o208 := Own.below o185 b194
  have o209 := Own.below o186 b194
  have o210 := Own.below o187 b194
  clear sz197
  have fr211 := o193.from
  have lt212 := o193.lt
  have sb213 : Hid (w.heap.size ≤ (World.drewN W153 m173).heap.size) := Lib.hid (Nat.le_trans (Nat.le_trans (Nat.le_trans (Nat.le_trans (Nat.le_trans (Nat.le_trans (Nat.le_trans (Nat.le_trans le19.out le40.out) le61.out) le83.out) le106.out) le130.out) le147.out) le171.out) le189.out)
  have le214 : Hid ((World.drewN W153 m173).heap.size ≤ W195.heap.size) := t196
  have t215 : Hid (W195.heap.size ≤ W195.heap.size) := Lib.hid (Nat.le_refl _)
  go_wp2_with fail
  (go_at_call 18; (with_reducible refine (eqInt64S_any _ _ _ _ _ _ _ (Own.row o208) (Own.row o193)).mono ?_); rintro e w' ⟨rfl, m216, rfl⟩)
  have t217 : Hid (W195.heap.size ≤ ((World.drewN W195 m216)).heap.size) := t215
  have bel218 : Below w.heap.size w (World.drewN W195 m216) := below_drewN bel198 m216
  have s219 : Hid (w.heap.size ≤ ((World.drewN W195 m216)).heap.size) := s199
  have r220 := RowB.drewN r200 m216
  have s221 : Hid (w.heap.size ≤ ((World.drewN W195 m216)).heap.size) := s201
  have r222 := RowB.drewN r202 m216
  have s223 : Hid (w.heap.size ≤ ((World.drewN W195 m216)).heap.size) := s203
  have o224 := Own.drewN o204 m216
  have o225 := Own.drewN o205 m216
  have o226 := Own.drewN o206 m216
  have o227 := Own.drewN o207 m216
  have o228 := Own.drewN o208 m216
  have o229 := Own.drewN o209 m216
  have o230 := Own.drewN o210 m216
  have o231 := Own.drewN o193 m216
  go_wp2_with fail
  (go_at_call 21; (with_reducible refine (mark_any _ _ _ 1 1 (by omega) _ _ o227 (by omega)).mono ?_); rintro e W234 ⟨rfl, o232, k233⟩)
  have t235 : Hid (W195.heap.size ≤ W234.heap.size) := Lib.hid (Nat.le_trans t217.out (Nat.le_of_eq k233.size.symm))
  have bel236 : Below w.heap.size w W234 := bel218.trans (k233.below (fun g hg => Nat.le_trans sb82.out (fr80 g hg)))
  have s237 : Hid (w.heap.size ≤ W234.heap.size) := Lib.hid (Nat.le_trans s219.out (Nat.le_of_eq k233.size.symm))
  have r238 := RowB.below r220 (k233.below (fun g hg => Nat.le_trans (Nat.le_trans (Nat.le_trans le19.out le40.out) le61.out) (fr80 g hg)))
  have s239 : Hid (w.heap.size ≤ W234.heap.size) := Lib.hid (Nat.le_trans s221.out (Nat.le_of_eq k233.size.symm))
  have r240 := RowB.below r222 (k233.below (fun g hg => Nat.le_trans (Nat.le_trans (Nat.le_trans le19.out le40.out) le61.out) (fr80 g hg)))
  have s241 : Hid (w.heap.size ≤ W234.heap.size) := Lib.hid (Nat.le_trans s223.out (Nat.le_of_eq k233.size.symm))
  have o242 := Own.only_gt o224 k233 (fun g hg => Nat.lt_of_lt_of_le (lt17 g hg) (Nat.le_trans le40.out le61.out)) fr80
  have o243 := Own.only_gt o225 k233 (fun g hg => Nat.lt_of_lt_of_le (lt38 g hg) (le61.out)) fr80
  have o244 := Own.only_gt o226 k233 (fun g hg => Nat.lt_of_lt_of_le (lt59 g hg) (Nat.le_refl _)) fr80
  have o245 := Own.only_lt o228 k233 (fun g hg => Nat.lt_of_lt_of_le (lt81 g hg) (Nat.le_refl _))
  have o246 := Own.only_lt o229 k233 (fun g hg => Nat.lt_of_lt_of_le (lt81 g hg) (le106.out))
  have o247 := Own.only_lt o230 k233 (fun g hg => Nat.lt_of_lt_of_le (lt81 g hg) (Nat.le_trans (Nat.le_trans le106.out le130.out) le147.out))
  have o248 := Own.only_lt o231 k233 (fun g hg => Nat.lt_of_lt_of_le (lt81 g hg) (Nat.le_trans (Nat.le_trans (Nat.le_trans (Nat.le_trans le106.out le130.out) le147.out) le171.out) le189.out))
  go_wp2_with fail
  (go_at_call 21; (with_reducible refine (mark_any _ _ _ (1 + ((n_aF : Nat) : Int)) (1 + n_aF) (by omega) _ _ o245 (by omega)).mono ?_); rintro e W251 ⟨rfl, o249, k250⟩)
  have t252 : Hid (W195.heap.size ≤ W251.heap.size) := Lib.hid (Nat.le_trans t235.out (Nat.le_of_eq k250.size.symm))
  have bel253 : Below w.heap.size w W251 := bel236.trans (k250.below (fun g hg => Nat.le_trans sb105.out (fr103 g hg)))
  have s254 : Hid (w.heap.size ≤ W251.heap.size) := Lib.hid (Nat.le_trans s237.out (Nat.le_of_eq k250.size.symm))
  have r255 := RowB.below r238 (k250.below (fun g hg => Nat.le_trans (Nat.le_trans (Nat.le_trans (Nat.le_trans le19.out le40.out) le61.out) le83.out) (fr103 g hg)))
  have s256 : Hid (w.heap.size ≤ W251.heap.size) := Lib.hid (Nat.le_trans s239.out (Nat.le_of_eq k250.size.symm))
  have r257 := RowB.below r240 (k250.below (fun g hg => Nat.le_trans (Nat.le_trans (Nat.le_trans (Nat.le_trans le19.out le40.out) le61.out) le83.out) (fr103 g hg)))
  have s258 : Hid (w.heap.size ≤ W251.heap.size) := Lib.hid (Nat.le_trans s241.out (Nat.le_of_eq k250.size.symm))
  have o259 := Own.only_gt o242 k250 (fun g hg => Nat.lt_of_lt_of_le (lt17 g hg) (Nat.le_trans (Nat.le_trans le40.out le61.out) le83.out)) fr103
  have o260 := Own.only_gt o243 k250 (fun g hg => Nat.lt_of_lt_of_le (lt38 g hg) (Nat.le_trans le61.out le83.out)) fr103
  have o261 := Own.only_gt o244 k250 (fun g hg => Nat.lt_of_lt_of_le (lt59 g hg) (le83.out)) fr103
  have o262 := Own.only_gt o232 k250 (fun g hg => Nat.lt_of_lt_of_le (lt81 g hg) (Nat.le_refl _)) fr103
  have o263 := Own.only_lt o246 k250 (fun g hg => Nat.lt_of_lt_of_le (lt104 g hg) (Nat.le_refl _))
  have o264 := Own.only_lt o247 k250 (fun g hg => Nat.lt_of_lt_of_le (lt104 g hg) (Nat.le_trans le130.out le147.out))
  have o265 := Own.only_lt o248 k250 (fun g hg => Nat.lt_of_lt_of_le (lt104 g hg) (Nat.le_trans (Nat.le_trans (Nat.le_trans le130.out le147.out) le171.out) le189.out))
  go_wp2_with fail
  (go_at_call 18; (with_reducible refine (eqInt64S_any _ _ _ _ _ _ _ (Own.row o263) (Own.row o261)).mono ?_); rintro e w' ⟨rfl, m266, rfl⟩)
  have t267 : Hid (W195.heap.size ≤ ((World.drewN W251 m266)).heap.size) := t252
  have bel268 : Below w.heap.size w (World.drewN W251 m266) := below_drewN bel253 m266
  have s269 : Hid (w.heap.size ≤ ((World.drewN W251 m266)).heap.size) := s254
  have r270 := RowB.drewN r255 m266
  have s271 : Hid (w.heap.size ≤ ((World.drewN W251 m266)).heap.size) := s256
  have r272 := RowB.drewN r257 m266
  have s273 : Hid (w.heap.size ≤ ((World.drewN W251 m266)).heap.size) := s258
  have o274 := Own.drewN o259 m266
  have o275 := Own.drewN o260 m266
  have o276 := Own.drewN o261 m266
  have o277 := Own.drewN o262 m266
  have o278 := Own.drewN o249 m266
  have o279 := Own.drewN o263 m266
  have o280 := Own.drewN o264 m266
  have o281 := Own.drewN o265 m266
  go_wp2_with fail
  (go_at_call 21; (with_reducible refine (mark_any _ _ _ 1 1 (by omega) _ _ o279 (by omega)).mono ?_); rintro e W284 ⟨rfl, o282, k283⟩)
  have t285 : Hid (W195.heap.size ≤ W284.heap.size) := Lib.hid (Nat.le_trans t267.out (Nat.le_of_eq k283.size.symm))
  have bel286 : Below w.heap.size w W284 := bel268.trans (k283.below (fun g hg => Nat.le_trans sb129.out (fr127 g hg)))
  have s287 : Hid (w.heap.size ≤ W284.heap.size) := Lib.hid (Nat.le_trans s269.out (Nat.le_of_eq k283.size.symm))
  have r288 := RowB.below r270 (k283.below (fun g hg => Nat.le_trans (Nat.le_trans (Nat.le_trans (Nat.le_trans (Nat.le_trans le19.out le40.out) le61.out) le83.out) le106.out) (fr127 g hg)))
  have s289 : Hid (w.heap.size ≤ W284.heap.size) := Lib.hid (Nat.le_trans s271.out (Nat.le_of_eq k283.size.symm))
  have r290 := RowB.below r272 (k283.below (fun g hg => Nat.le_trans (Nat.le_trans (Nat.le_trans (Nat.le_trans (Nat.le_trans le19.out le40.out) le61.out) le83.out) le106.out) (fr127 g hg)))
  have s291 : Hid (w.heap.size ≤ W284.heap.size) := Lib.hid (Nat.le_trans s273.out (Nat.le_of_eq k283.size.symm))
  have o292 := Own.only_gt o274 k283 (fun g hg => Nat.lt_of_lt_of_le (lt17 g hg) (Nat.le_trans (Nat.le_trans (Nat.le_trans le40.out le61.out) le83.out) le106.out)) fr127
  have o293 := Own.only_gt o275 k283 (fun g hg => Nat.lt_of_lt_of_le (lt38 g hg) (Nat.le_trans (Nat.le_trans le61.out le83.out) le106.out)) fr127
  have o294 := Own.only_gt o276 k283 (fun g hg => Nat.lt_of_lt_of_le (lt59 g hg) (Nat.le_trans le83.out le106.out)) fr127
  have o295 := Own.only_gt o277 k283 (fun g hg => Nat.lt_of_lt_of_le (lt81 g hg) (le106.out)) fr127
  have o296 := Own.only_gt o278 k283 (fun g hg => Nat.lt_of_lt_of_le (lt104 g hg) (Nat.le_refl _)) fr127
  have o297 := Own.only_lt o280 k283 (fun g hg => Nat.lt_of_lt_of_le (lt128 g hg) (le147.out))
  have o298 := Own.only_lt o281 k283 (fun g hg => Nat.lt_of_lt_of_le (lt128 g hg) (Nat.le_trans (Nat.le_trans le147.out le171.out) le189.out))
  go_wp2_with fail
  (go_at_call 22; (with_reducible refine (held_any _ _ _ 1 1 (by omega) _ (Own.row o282) (by omega)).mono ?_); rintro e w' ⟨rfl, rfl⟩)
  have le300 : Hid (W195.heap.size ≤ W284.heap.size) := t285
  have t301 : Hid (W284.heap.size ≤ W284.heap.size) := Lib.hid (Nat.le_refl _)
  go_wp2_with fail
  (go_at_call 16; (with_reducible refine (toInt64S_any _ _ _ _ _ (RowB.up r288 s289.out) (by omega)).mono ?_); rintro e W306 ⟨A302, c303, rfl, o304, b305⟩)
  have t307 : Hid (W284.heap.size ≤ W306.heap.size) := Lib.hid (Nat.le_trans t301.out b305.size)
  have sz308 := b305.size
  have bel309 : Below w.heap.size w W306 := bel286.trans (b305.mono s287.out)
  have s310 : Hid (w.heap.size ≤ W306.heap.size) := Lib.hid (Nat.le_trans s287.out sz308)
  have r311 := RowB.below r288 (b305.mono s289.out)
  have s312 : Hid (w.heap.size ≤ W306.heap.size) := Lib.hid (Nat.le_trans s289.out sz308)
  have r313 := RowB.below r290 (b305.mono s291.out)
  have s314 : Hid (w.heap.size ≤ W306.heap.size) := Lib.hid (Nat.le_trans s291.out sz308)
  have o315 := Own.below o292 b305
  have o316 := Own.below o293 b305
  have o317 := Own.below o294 b305
  have o318 := Own.below o295 b305
  have o319 := Own.below o296 b305
  have o320 := Own.below o282 b305
  have o321 := Own.below o297 b305
  have o322 := Own.below o298 b305
  clear sz308
  have fr323 := o304.from
  have lt324 := o304.lt
  have sb325 : Hid (w.heap.size ≤ W284.heap.size) := Lib.hid (Nat.le_trans (Nat.le_trans (Nat.le_trans (Nat.le_trans (Nat.le_trans (Nat.le_trans (Nat.le_trans (Nat.le_trans (Nat.le_trans (Nat.le_trans le19.out le40.out) le61.out) le83.out) le106.out) le130.out) le147.out) le171.out) le189.out) le214.out) le300.out)
  have le326 : Hid (W284.heap.size ≤ W306.heap.size) := t307
  have t327 : Hid (W306.heap.size ≤ W306.heap.size) := Lib.hid (Nat.le_refl _)
  have t329 : Hid (W306.heap.size ≤ W306.heap.size) := Lib.hid (Nat.le_refl _)
  go_wp2_with fail
  (go_at_call 16; (with_reducible refine (toInt64S_any _ _ _ _ _ (RowB.up r313 s314.out) (by omega)).mono ?_); rintro e W334 ⟨A330, c331, rfl, o332, b333⟩)
  have t335 : Hid (W306.heap.size ≤ W334.heap.size) := Lib.hid (Nat.le_trans t329.out b333.size)
  have sz336 := b333.size
  have bel337 : Below w.heap.size w W334 := bel309.trans (b333.mono s310.out)
  have s338 : Hid (w.heap.size ≤ W334.heap.size) := Lib.hid (Nat.le_trans s310.out sz336)
  have r339 := RowB.below r311 (b333.mono s312.out)
  have s340 : Hid (w.heap.size ≤ W334.heap.size) := Lib.hid (Nat.le_trans s312.out sz336)
  have r341 := RowB.below r313 (b333.mono s314.out)
  have s342 : Hid (w.heap.size ≤ W334.heap.size) := Lib.hid (Nat.le_trans s314.out sz336)
  have o343 := Own.below o315 b333
  have o344 := Own.below o316 b333
  have o345 := Own.below o317 b333
  have o346 := Own.below o318 b333
  have o347 := Own.below o319 b333
  have o348 := Own.below o320 b333
  have o349 := Own.below o321 b333
  have o350 := Own.below o322 b333
  have o351 := Own.below o304 b333
  clear sz336
  have fr352 := o332.from
  have lt353 := o332.lt
  have sb354 : Hid (w.heap.size ≤ W306.heap.size) := Lib.hid (Nat.le_trans (Nat.le_trans (Nat.le_trans (Nat.le_trans (Nat.le_trans (Nat.le_trans (Nat.le_trans (Nat.le_trans (Nat.le_trans (Nat.le_trans (Nat.le_trans le19.out le40.out) le61.out) le83.out) le106.out) le130.out) le147.out) le171.out) le189.out) le214.out) le300.out) le326.out)
  have le355 : Hid (W306.heap.size ≤ W334.heap.size) := t335
  have t356 : Hid (W334.heap.size ≤ W334.heap.size) := Lib.hid (Nat.le_refl _)
  have t357 : Hid (W334.heap.size ≤ W334.heap.size) := Lib.hid (Nat.le_refl _)
  go_wp2_with fail
  (go_at_call 20; (with_reducible refine (implCompose_any _ _ _ _ _ _ _ _ _ (Own.row o351) (Own.row o332)).mono ?_); rintro e W362 ⟨A358, c359, rfl, o360, b361⟩)
  have t363 : Hid (W334.heap.size ≤ W362.heap.size) := Lib.hid (Nat.le_trans t357.out b361.size)
  have sz364 := b361.size
  have bel365 : Below w.heap.size w W362 := bel337.trans (b361.mono s338.out)
  have s366 : Hid (w.heap.size ≤ W362.heap.size) := Lib.hid (Nat.le_trans s338.out sz364)
  have r367 := RowB.below r339 (b361.mono s340.out)
  have s368 : Hid (w.heap.size ≤ W362.heap.size) := Lib.hid (Nat.le_trans s340.out sz364)
  have r369 := RowB.below r341 (b361.mono s342.out)
  have s370 : Hid (w.heap.size ≤ W362.heap.size) := Lib.hid (Nat.le_trans s342.out sz364)
  have o371 := Own.below o343 b361
  have o372 := Own.below o344 b361
  have o373 := Own.below o345 b361
  have o374 := Own.below o346 b361
  have o375 := Own.below o347 b361
  have o376 := Own.below o348 b361
  have o377 := Own.below o349 b361
  have o378 := Own.below o350 b361
  have o379 := Own.below o351 b361
  have o380 := Own.below o332 b361
  clear sz364
  have fr381 := o360.from
  have lt382 := o360.lt
  have sb383 : Hid (w.heap.size ≤ W334.heap.size) := Lib.hid (Nat.le_trans (Nat.le_trans (Nat.le_trans (Nat.le_trans (Nat.le_trans (Nat.le_trans (Nat.le_trans (Nat.le_trans (Nat.le_trans (Nat.le_trans (Nat.le_trans (Nat.le_trans le19.out le40.out) le61.out) le83.out) le106.out) le130.out) le147.out) le171.out) le189.out) le214.out) le300.out) le326.out) le355.out)
  have le384 : Hid (W334.heap.size ≤ W362.heap.size) := t363
  have t385 : Hid (W362.heap.size ≤ W362.heap.size) := Lib.hid (Nat.le_refl _)
  go_wp2_with fail
  (go_at_call 18; (with_reducible refine (eqInt64S_any _ _ _ _ _ _ _ (Own.row o360) (Own.row o373)).mono ?_); rintro e w' ⟨rfl, m386, rfl⟩)
  have t387 : Hid (W362.heap.size ≤ ((World.drewN W362 m386)).heap.size) := t385
  have bel388 : Below w.heap.size w (World.drewN W362 m386) := below_drewN bel365 m386
  have s389 : Hid (w.heap.size ≤ ((World.drewN W362 m386)).heap.size) := s366
  have r390 := RowB.drewN r367 m386
  have s391 : Hid (w.heap.size ≤ ((World.drewN W362 m386)).heap.size) := s368
  have r392 := RowB.drewN r369 m386
  have s393 : Hid (w.heap.size ≤ ((World.drewN W362 m386)).heap.size) := s370
  have o394 := Own.drewN o371 m386
  have o395 := Own.drewN o372 m386
  have o396 := Own.drewN o373 m386
  have o397 := Own.drewN o374 m386
  have o398 := Own.drewN o375 m386
  have o399 := Own.drewN o376 m386
  have o400 := Own.drewN o377 m386
  have o401 := Own.drewN o378 m386
  have o402 := Own.drewN o379 m386
  have o403 := Own.drewN o380 m386
  have o404 := Own.drewN o360 m386
  go_wp2_with fail
  (go_at_call 22; (with_reducible refine (held_any _ _ _ 1 1 (by omega) _ (Own.row o399) (by omega)).mono ?_); rintro e w' ⟨rfl, rfl⟩)
  go_wp2_with fail
  go_ret
  exact ⟨rfl, bel388⟩
end Go.Proofs.Ytlgoopjbjamlmab
