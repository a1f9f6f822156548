/-
  The walk of the law of ValidPermuting.
-/
import Derived.Test.YtakkehjfdeghoabPVal
import Derived.Test.YtakkehjfdeghoabHBlk
import Derived.Test.YtakkehjfdeghoabLast
import Derived.Deep.RegionHeld3
namespace Go.Proofs.Ytakkehjfdeghoab
open Go.RowKit

set_option maxRecDepth 1000000 in
set_option maxHeartbeats 4000000 in
theorem validP_walk (x_aP : Pm) (A_aP : Option Addr) (n_aP c_aP : Nat) (w : World) (h_aP : Rows2 w.heap.size w A_aP n_aP x_aP.O) :
    Calls Try.prog 13 #[pmV x_aP A_aP n_aP c_aP] w fun e w' => e = .returned (.bool true) ∧ Below w.heap.size w w' := by
  have H_aP := held_row2 h_aP
  have t0 : Hid (w.heap.size ≤ w.heap.size) := Lib.hid (Nat.le_refl _)
  have bel0 : Below w.heap.size w w := Below.refl _ _
  obtain ⟨W1, hW2⟩ : ∃ W1, W1 = w.alloc (.cells #[.int .i64 x_aP.base, .int .i64 x_aP.target, .slice A_aP n_aP c_aP] 61) := ⟨_, rfl⟩
  have be3 : Below w.heap.size w W1 := by rw [hW2]; exact (Below.refl _ _).alloc (Nat.le_refl _) _
  have bk4 : Blk W1 w.heap.size #[.int .i64 x_aP.base, .int .i64 x_aP.target, .slice A_aP n_aP c_aP] 61 := by rw [hW2]; exact Blk.new _ _ _
  have lt5 : Hid (w.heap.size < W1.heap.size) := Lib.hid (Blk.lt bk4)
  have h6 := Held.ran H_aP (ran_below be3 _) (Nat.le_refl _) (.inr (Nat.le_refl _))
  have bel7 : Below w.heap.size w W1 := Below.trans bel0 (Below.mono be3 (Nat.le_refl _))
  have t8 : Hid (w.heap.size ≤ W1.heap.size) := Lib.hid (Nat.le_trans t0.out (Below.size be3))
  clear H_aP bel0
  have le9 : Hid (w.heap.size ≤ W1.heap.size) := t8
  have t10 : Hid (W1.heap.size ≤ W1.heap.size) := Lib.hid (Nat.le_refl _)
  have h11 := held_blk bk4 (Nat.le_refl _) lt5.out
  clear bk4 be3
  go_enter Try.func13, Try.ntmps13
  go_wp2_with fail
  rw [show w.alloc (.cells #[.int .i64 x_aP.base, .int .i64 x_aP.target, .slice A_aP n_aP c_aP] 61) = W1 from hW2.symm]
  clear hW2
  (go_at_call 49; (with_reducible refine (szPermuting_any x_aP _ _ _ 1048576 _ (Rows2.up (Held.now h6) (Nat.le_trans (le9.out) t10.out)) (by omega) (by omega) (Nat.le_refl _)).mono ?_); rintro e W13 ⟨rfl, b12⟩)
  have h14 := Held.ran h6 (ran_below b12 _) (Nat.le_trans (le9.out) t10.out) (.inr (Nat.le_refl _))
  have h15 := Held.ran h11 (ran_below b12 _) (Nat.le_refl _) (.inr (Nat.le_refl _))
  have bel16 : Below w.heap.size w W13 := Below.trans bel7 (Below.mono b12 (Nat.le_trans (le9.out) t10.out))
  have t17 : Hid (W1.heap.size ≤ W13.heap.size) := Lib.hid (Nat.le_trans t10.out (Below.size b12))
  clear h6 h11 bel7
  clear b12
  by_cases big18 : (1048576 : Int) < ((tot2 x_aP.O) : Nat)
  · rw [szF_big big18]
    go_wp2_with fail
    go_ret
    exact ⟨rfl, bel16⟩
  have e19 := szF_ok big18
  have H20 : Hid ((tot2 x_aP.O) ≤ 1048576) := Lib.hid (by omega)
  have hbd_aP : (tot2 x_aP.O) ≤ 1048576 := H20.out
  have hz23 : 0 ≤ szF 1048576 (tot2 x_aP.O) ∧ szF 1048576 (tot2 x_aP.O) ≤ 1048576 := by rw [e19]; omega
  generalize szF 1048576 (tot2 x_aP.O) = LEFT21 at hz23 ⊢
  clear e19 big18
  have HL22 := Lib.hid hz23
  have hz23a := hz23.1
  clear hz23
  have bk25 := Held.now h15
  have q26 := Blk.cell bk25 0
  have q27 := Blk.cell bk25 1
  have q28 := Blk.cell bk25 2
  clear bk25
  go_wp2_with fail
  have le29 : Hid (W1.heap.size ≤ W13.heap.size) := t17
  have t30 : Hid (W13.heap.size ≤ W13.heap.size) := Lib.hid (Nat.le_refl _)
  (go_at_call 51; (with_reducible refine (toPermuting_any x_aP _ _ _ _ (Rows2.up (Held.now h14) (Nat.le_trans (le9.out) t17.out)) (Nat.le_refl _) H20.out).mono ?_); rintro e W31 ⟨A34, c35, L36, rfl, o33, b32⟩)
  have h40 := Held.ran h14 (ran_below b32 _) (Nat.le_trans (Nat.le_trans (le9.out) le29.out) t30.out) (.inr (Nat.le_refl _))
  have h41 := Held.ran h15 (ran_below b32 _) (Nat.le_trans (le29.out) t30.out) (.inr (Nat.le_refl _))
  have bel42 : Below w.heap.size w W31 := Below.trans bel16 (Below.mono b32 (Nat.le_trans (Nat.le_trans (le9.out) le29.out) t30.out))
  have t43 : Hid (W13.heap.size ≤ W31.heap.size) := Lib.hid (Nat.le_trans t30.out (Below.size b32))
  clear h14 h15 bel16
  have le44 : Hid (W13.heap.size ≤ W31.heap.size) := t43
  have t45 : Hid (W31.heap.size ≤ W31.heap.size) := Lib.hid (Nat.le_refl _)
  have fr46 := Own2.from o33
  have lt47 := Own2.lt o33
  have olt48 := Own2.olt o33
  have h49 := held_own2 o33 lt47 olt48
  have ln50 : (lens L36).sum ≤ 2000000 := by rw [Own2.lens o33]; exact Nat.le_trans (sum_le_tot2 _) (Nat.le_trans H20.out (by omega))
  clear o33 b32
  clear q26
  clear q27
  clear q28
  go_wp2_with fail
  (go_at_call 50; (with_reducible refine (specValidP_any x_aP _ _ _ _ (Own2.row (Held.now h49)) (Nat.le_refl _)).mono ?_); rintro e W52 ⟨rfl, b51⟩)
  have h53 := Held.ran h40 (ran_below b51 _) (Nat.le_trans (Nat.le_trans (Nat.le_trans (le9.out) le29.out) le44.out) t45.out) (.inr (Nat.le_refl _))
  have h54 := Held.ran h41 (ran_below b51 _) (Nat.le_trans (Nat.le_trans (le29.out) le44.out) t45.out) (.inr (Nat.le_refl _))
  have h55 := Held.ran h49 (ran_below b51 _) (Nat.le_refl _) (.inr (Nat.le_refl _))
  have bel56 : Below w.heap.size w W52 := Below.trans bel42 (Below.mono b51 (Nat.le_trans (Nat.le_trans (Nat.le_trans (le9.out) le29.out) le44.out) t45.out))
  have t57 : Hid (W31.heap.size ≤ W52.heap.size) := Lib.hid (Nat.le_trans t45.out (Below.size b51))
  clear h40 h41 h49 bel42
  clear b51
  have bk58 := Held.now h54
  have q59 := Blk.cell bk58 0
  have q60 := Blk.cell bk58 1
  have q61 := Blk.cell bk58 2
  clear bk58
  go_wp2_with fail
  have le62 : Hid (W31.heap.size ≤ W52.heap.size) := t57
  have t63 : Hid (W52.heap.size ≤ W52.heap.size) := Lib.hid (Nat.le_refl _)
  (go_at_call 51; (with_reducible refine (toPermuting_any x_aP _ _ _ _ (Rows2.up (Held.now h53) (Nat.le_trans (Nat.le_trans (Nat.le_trans (le9.out) le29.out) le44.out) t57.out)) (Nat.le_refl _) H20.out).mono ?_); rintro e W64 ⟨A67, c68, L69, rfl, o66, b65⟩)
  have h73 := Held.ran h53 (ran_below b65 _) (Nat.le_trans (Nat.le_trans (Nat.le_trans (Nat.le_trans (le9.out) le29.out) le44.out) le62.out) t63.out) (.inr (Nat.le_refl _))
  have h74 := Held.ran h54 (ran_below b65 _) (Nat.le_trans (Nat.le_trans (Nat.le_trans (le29.out) le44.out) le62.out) t63.out) (.inr (Nat.le_refl _))
  have h75 := Held.ran h55 (ran_below b65 _) (Nat.le_trans (le62.out) t63.out) (.inr (Nat.le_refl _))
  have bel76 : Below w.heap.size w W64 := Below.trans bel56 (Below.mono b65 (Nat.le_trans (Nat.le_trans (Nat.le_trans (Nat.le_trans (le9.out) le29.out) le44.out) le62.out) t63.out))
  have t77 : Hid (W52.heap.size ≤ W64.heap.size) := Lib.hid (Nat.le_trans t63.out (Below.size b65))
  clear h53 h54 h55 bel56
  have le78 : Hid (W52.heap.size ≤ W64.heap.size) := t77
  have t79 : Hid (W64.heap.size ≤ W64.heap.size) := Lib.hid (Nat.le_refl _)
  have fr80 := Own2.from o66
  have lt81 := Own2.lt o66
  have olt82 := Own2.olt o66
  have h83 := held_own2 o66 lt81 olt82
  have ln84 : (lens L69).sum ≤ 2000000 := by rw [Own2.lens o66]; exact Nat.le_trans (sum_le_tot2 _) (Nat.le_trans H20.out (by omega))
  clear o66 b65
  clear q59
  clear q60
  clear q61
  have bk89 := Held.now h74
  have q90 : W64.cell? ⟨w.heap.size, 0, none⟩ = some (.int .i64 x_aP.base) := Blk.cell bk89 0
  have q91 : W64.cell? ⟨w.heap.size, 1, none⟩ = some (.int .i64 x_aP.target) := Blk.cell bk89 1
  have q92 : W64.cell? ⟨w.heap.size, 2, none⟩ = some (.slice A_aP n_aP c_aP) := Blk.cell bk89 2
  clear bk89
  have lt93 : w.heap.size < W64.heap.size := Nat.lt_of_lt_of_le lt5.out (Nat.le_trans (Nat.le_trans (Nat.le_trans (Nat.le_trans (le29.out) le44.out) le62.out) le78.out) t79.out)
  have ne94 : w.heap.size ≠ W64.heap.size := Nat.ne_of_lt lt93
  obtain ⟨W85, hW86⟩ : ∃ W85, W85 = W64.alloc (.cells #[.int .i64 x_aP.base, .int .i64 x_aP.target, .slice A67 x_aP.O.length c68] 64) := ⟨_, rfl⟩
  have be87 : Below W64.heap.size W64 W85 := by rw [hW86]; exact (Below.refl _ _).alloc (Nat.le_refl _) _
  have bk88 : Blk W85 W64.heap.size #[.int .i64 x_aP.base, .int .i64 x_aP.target, .slice A67 x_aP.O.length c68] 64 := by rw [hW86]; exact Blk.new _ _ _
  have lt95 : Hid (W64.heap.size < W85.heap.size) := Lib.hid (Blk.lt bk88)
  have h96 := Held.ran h73 (ran_below be87 _) (Nat.le_trans (Nat.le_trans (Nat.le_trans (Nat.le_trans (Nat.le_trans (le9.out) le29.out) le44.out) le62.out) le78.out) t79.out) (.inr (Nat.le_refl _))
  have h97 := Held.ran h74 (ran_below be87 _) (Nat.le_trans (Nat.le_trans (Nat.le_trans (Nat.le_trans (le29.out) le44.out) le62.out) le78.out) t79.out) (.inr (Nat.le_refl _))
  have h98 := Held.ran h75 (ran_below be87 _) (Nat.le_trans (Nat.le_trans (le62.out) le78.out) t79.out) (.inr (Nat.le_refl _))
  have h99 := Held.ran h83 (ran_below be87 _) (Nat.le_refl _) (.inr (Nat.le_refl _))
  have bel100 : Below w.heap.size w W85 := Below.trans bel76 (Below.mono be87 (Nat.le_trans (Nat.le_trans (Nat.le_trans (Nat.le_trans (Nat.le_trans (le9.out) le29.out) le44.out) le62.out) le78.out) t79.out))
  have t101 : Hid (W64.heap.size ≤ W85.heap.size) := Lib.hid (Nat.le_trans t79.out (Below.size be87))
  clear h73 h74 h75 h83 bel76
  have le102 : Hid (W64.heap.size ≤ W85.heap.size) := t101
  have t103 : Hid (W85.heap.size ≤ W85.heap.size) := Lib.hid (Nat.le_refl _)
  have h104 := held_blk bk88 (Nat.le_refl _) lt95.out
  clear bk88 be87
  go_wp2_with fail
  rw [show W64.alloc (.cells #[.int .i64 x_aP.base, .int .i64 x_aP.target, .slice A67 x_aP.O.length c68] 64) = W85 from hW86.symm]
  clear hW86
  clear q90 q91 q92 lt93 ne94
  (go_at_call 52; (with_reducible refine (implValidP_any x_aP _ _ _ _ (Own2.row (Held.now h99)) (Nat.le_refl _)).mono ?_); rintro e W106 ⟨rfl, b105⟩)
  have h107 := Held.ran h96 (ran_below b105 _) (Nat.le_trans (Nat.le_trans (Nat.le_trans (Nat.le_trans (Nat.le_trans (Nat.le_trans (le9.out) le29.out) le44.out) le62.out) le78.out) le102.out) t103.out) (.inr (Nat.le_refl _))
  have h108 := Held.ran h97 (ran_below b105 _) (Nat.le_trans (Nat.le_trans (Nat.le_trans (Nat.le_trans (Nat.le_trans (le29.out) le44.out) le62.out) le78.out) le102.out) t103.out) (.inr (Nat.le_refl _))
  have h109 := Held.ran h98 (ran_below b105 _) (Nat.le_trans (Nat.le_trans (Nat.le_trans (le62.out) le78.out) le102.out) t103.out) (.inr (Nat.le_refl _))
  have h110 := Held.ran h99 (ran_below b105 _) (Nat.le_trans (le102.out) t103.out) (.inr (Nat.le_refl _))
  have h111 := Held.ran h104 (ran_below b105 _) (Nat.le_refl _) (.inr (Nat.le_refl _))
  have bel112 : Below w.heap.size w W106 := Below.trans bel100 (Below.mono b105 (Nat.le_trans (Nat.le_trans (Nat.le_trans (Nat.le_trans (Nat.le_trans (Nat.le_trans (le9.out) le29.out) le44.out) le62.out) le78.out) le102.out) t103.out))
  have t113 : Hid (W85.heap.size ≤ W106.heap.size) := Lib.hid (Nat.le_trans t103.out (Below.size b105))
  clear h96 h97 h98 h99 h104 bel100
  clear b105
  have bk114 := Held.now h111
  have q115 : W106.cell? ⟨W64.heap.size, 0, none⟩ = some (.int .i64 x_aP.base) := Blk.cell bk114 0
  have q116 : W106.cell? ⟨W64.heap.size, 1, none⟩ = some (.int .i64 x_aP.target) := Blk.cell bk114 1
  have q117 : W106.cell? ⟨W64.heap.size, 2, none⟩ = some (.slice A67 x_aP.O.length c68) := Blk.cell bk114 2
  clear bk114
  have bk118 := Held.now h108
  have q119 : W106.cell? ⟨w.heap.size, 0, none⟩ = some (.int .i64 x_aP.base) := Blk.cell bk118 0
  have q120 : W106.cell? ⟨w.heap.size, 1, none⟩ = some (.int .i64 x_aP.target) := Blk.cell bk118 1
  have q121 : W106.cell? ⟨w.heap.size, 2, none⟩ = some (.slice A_aP n_aP c_aP) := Blk.cell bk118 2
  clear bk118
  go_wp2_with fail
  have h122 := Held.ran h107 (ran_drew W106 _) (Nat.le_trans (Nat.le_trans (Nat.le_trans (Nat.le_trans (Nat.le_trans (Nat.le_trans (le9.out) le29.out) le44.out) le62.out) le78.out) le102.out) t113.out) (.inr (Nat.le_refl _))
  have h123 := Held.ran h108 (ran_drew W106 _) (Nat.le_trans (Nat.le_trans (Nat.le_trans (Nat.le_trans (Nat.le_trans (le29.out) le44.out) le62.out) le78.out) le102.out) t113.out) (.inr (Nat.le_refl _))
  have h124 := Held.ran h109 (ran_drew W106 _) (Nat.le_trans (Nat.le_trans (Nat.le_trans (le62.out) le78.out) le102.out) t113.out) (.inr (Nat.le_refl _))
  have h125 := Held.ran h110 (ran_drew W106 _) (Nat.le_trans (le102.out) t113.out) (.inr (Nat.le_refl _))
  have h126 := Held.ran h111 (ran_drew W106 _) (Nat.le_trans (Nat.le_refl _) t113.out) (.inr (Nat.le_refl _))
  have bel127 : Below w.heap.size w (World.drew W106) := below_drew bel112
  have t128 : Hid (W85.heap.size ≤ ((World.drew W106)).heap.size) := t113
  clear h107 h108 h109 h110 h111 bel112
  have le130 : Hid (W85.heap.size ≤ (World.drew W106).heap.size) := t128
  have t131 : Hid ((World.drew W106).heap.size ≤ (World.drew W106).heap.size) := Lib.hid (Nat.le_refl _)
  refine region_held_n 5 (fun w' => w'.cell? ⟨W64.heap.size, 0, none⟩ = some (.int .i64 x_aP.base) ∧ w'.cell? ⟨W64.heap.size, 1, none⟩ = some (.int .i64 x_aP.target) ∧ w'.cell? ⟨W64.heap.size, 2, none⟩ = some (.slice A67 x_aP.O.length c68) ∧ w'.cell? ⟨w.heap.size, 0, none⟩ = some (.int .i64 x_aP.base) ∧ w'.cell? ⟨w.heap.size, 1, none⟩ = some (.int .i64 x_aP.target) ∧ w'.cell? ⟨w.heap.size, 2, none⟩ = some (.slice A_aP n_aP c_aP)) (by kernel_rfl) (by kernel_rfl) ⟨q115, q116, q117, q119, q120, q121⟩ (fun hS => ?_)
  refine takeD 0 (some 22) (v := ?_) rfl (by kernel_rfl) (by kernel_rfl) (by kernel_rfl) (fun _ _ _ h => h) hS (fun o ho => Or.inl ⟨by cases ho; rfl, ?_⟩) ?_
  rotate_left
  · cases ho
    intro w' hw'
    (try dsimp only at hw')
    go_simp
    (try with_reducible rfl)
  (try simp only [Act.put, List.setIfInBounds_toArray, List.set_cons_zero, List.set_cons_succ])
  refine takeD 1 (some 23) (v := ?_) rfl (by kernel_rfl) (by kernel_rfl) (by kernel_rfl) (fun _ _ _ h => h) hS (fun o ho => Or.inl ⟨by cases ho; rfl, ?_⟩) ?_
  rotate_left
  · cases ho
    intro w' hw'
    (try dsimp only at hw')
    go_simp
    (try with_reducible rfl)
  (try simp only [Act.put, List.setIfInBounds_toArray, List.set_cons_zero, List.set_cons_succ])
  refine oneD 2 (some 24) (by kernel_rfl) rfl (fun o ho K hK hdo => ?_)
  simp only [List.getElem?_toArray, List.getElem?_cons_succ, List.getElem?_cons_zero, Option.some.injEq] at ho
  subst ho
  clear hdo
  rw [if_pos (by rfl)]
  go_wp2_with ((go_at_call 51; (with_reducible refine (toPermuting_any x_aP _ _ _ _ (Rows2.up (Held.now h122) (Nat.le_trans (Nat.le_trans (Nat.le_trans (Nat.le_trans (Nat.le_trans (Nat.le_trans (le9.out) le29.out) le44.out) le62.out) le78.out) le102.out) t128.out)) (Nat.le_refl _) H20.out).mono ?_); rintro e W132 ⟨A135, c136, L137, rfl, o134, b133⟩))
  have h141 := Held.ran h122 (ran_below b133 _) (Nat.le_trans (Nat.le_trans (Nat.le_trans (Nat.le_trans (Nat.le_trans (Nat.le_trans (Nat.le_trans (le9.out) le29.out) le44.out) le62.out) le78.out) le102.out) le130.out) t131.out) (.inr (Nat.le_refl _))
  have h142 := Held.ran h123 (ran_below b133 _) (Nat.le_trans (Nat.le_trans (Nat.le_trans (Nat.le_trans (Nat.le_trans (Nat.le_trans (le29.out) le44.out) le62.out) le78.out) le102.out) le130.out) t131.out) (.inr (Nat.le_refl _))
  have h143 := Held.ran h124 (ran_below b133 _) (Nat.le_trans (Nat.le_trans (Nat.le_trans (Nat.le_trans (le62.out) le78.out) le102.out) le130.out) t131.out) (.inr (Nat.le_refl _))
  have h144 := Held.ran h125 (ran_below b133 _) (Nat.le_trans (Nat.le_trans (le102.out) le130.out) t131.out) (.inr (Nat.le_refl _))
  have h145 := Held.ran h126 (ran_below b133 _) (Nat.le_trans (le130.out) t131.out) (.inr (Nat.le_refl _))
  have bel146 : Below w.heap.size w W132 := Below.trans bel127 (Below.mono b133 (Nat.le_trans (Nat.le_trans (Nat.le_trans (Nat.le_trans (Nat.le_trans (Nat.le_trans (Nat.le_trans (le9.out) le29.out) le44.out) le62.out) le78.out) le102.out) le130.out) t131.out))
  have t147 : Hid ((World.drew W106).heap.size ≤ W132.heap.size) := Lib.hid (Nat.le_trans t131.out (Below.size b133))
  clear h122 h123 h124 h125 h126 bel127
  have le148 : Hid ((World.drew W106).heap.size ≤ W132.heap.size) := t147
  have t149 : Hid (W132.heap.size ≤ W132.heap.size) := Lib.hid (Nat.le_refl _)
  have fr150 := Own2.from o134
  have lt151 := Own2.lt o134
  have olt152 := Own2.olt o134
  have h153 := held_own2 o134 lt151 olt152
  have ln154 : (lens L137).sum ≤ 2000000 := by rw [Own2.lens o134]; exact Nat.le_trans (sum_le_tot2 _) (Nat.le_trans H20.out (by omega))
  clear o134 b133
  have bk155 := Held.now h145
  have q156 : W132.cell? ⟨W64.heap.size, 0, none⟩ = some (.int .i64 x_aP.base) := Blk.cell bk155 0
  have q157 : W132.cell? ⟨W64.heap.size, 1, none⟩ = some (.int .i64 x_aP.target) := Blk.cell bk155 1
  have q158 : W132.cell? ⟨W64.heap.size, 2, none⟩ = some (.slice A67 x_aP.O.length c68) := Blk.cell bk155 2
  clear bk155
  have bk159 := Held.now h142
  have q160 : W132.cell? ⟨w.heap.size, 0, none⟩ = some (.int .i64 x_aP.base) := Blk.cell bk159 0
  have q161 : W132.cell? ⟨w.heap.size, 1, none⟩ = some (.int .i64 x_aP.target) := Blk.cell bk159 1
  have q162 : W132.cell? ⟨w.heap.size, 2, none⟩ = some (.slice A_aP n_aP c_aP) := Blk.cell bk159 2
  clear bk159
  refine hK.out _ _ ?_ (fun hS => ?_)
  · exact ⟨q156, q157, q158, q160, q161, q162⟩
  clear hK K
  (try simp only [Act.put, List.setIfInBounds_toArray, List.set_cons_zero, List.set_cons_succ])
  refine oneD 3 (some 25) (by kernel_rfl) rfl (fun o ho K hK hdo => ?_)
  simp only [List.getElem?_toArray, List.getElem?_cons_succ, List.getElem?_cons_zero, Option.some.injEq] at ho
  subst ho
  clear hdo
  rw [if_pos (by rfl)]
  go_wp2_with ((go_at_call 53; (with_reducible refine (eqPermuting_any x_aP _ _ _ _ _ _ (Own2.row (Held.now h144)) (Own2.row (Held.now h153)) (Nat.le_refl _) (Nat.le_refl _)).mono ?_); rintro e W164 ⟨rfl, b163⟩))
  have h165 := Held.ran h141 (ran_below b163 _) (Nat.le_trans (Nat.le_trans (Nat.le_trans (Nat.le_trans (Nat.le_trans (Nat.le_trans (Nat.le_trans (Nat.le_trans (le9.out) le29.out) le44.out) le62.out) le78.out) le102.out) le130.out) le148.out) t149.out) (.inr (Nat.le_refl _))
  have h166 := Held.ran h142 (ran_below b163 _) (Nat.le_trans (Nat.le_trans (Nat.le_trans (Nat.le_trans (Nat.le_trans (Nat.le_trans (Nat.le_trans (le29.out) le44.out) le62.out) le78.out) le102.out) le130.out) le148.out) t149.out) (.inr (Nat.le_refl _))
  have h167 := Held.ran h143 (ran_below b163 _) (Nat.le_trans (Nat.le_trans (Nat.le_trans (Nat.le_trans (Nat.le_trans (le62.out) le78.out) le102.out) le130.out) le148.out) t149.out) (.inr (Nat.le_refl _))
  have h168 := Held.ran h144 (ran_below b163 _) (Nat.le_trans (Nat.le_trans (Nat.le_trans (le102.out) le130.out) le148.out) t149.out) (.inr (Nat.le_refl _))
  have h169 := Held.ran h145 (ran_below b163 _) (Nat.le_trans (Nat.le_trans (le130.out) le148.out) t149.out) (.inr (Nat.le_refl _))
  have h170 := Held.ran h153 (ran_below b163 _) (Nat.le_refl _) (.inr (Nat.le_refl _))
  have bel171 : Below w.heap.size w W164 := Below.trans bel146 (Below.mono b163 (Nat.le_trans (Nat.le_trans (Nat.le_trans (Nat.le_trans (Nat.le_trans (Nat.le_trans (Nat.le_trans (Nat.le_trans (le9.out) le29.out) le44.out) le62.out) le78.out) le102.out) le130.out) le148.out) t149.out))
  have t172 : Hid (W132.heap.size ≤ W164.heap.size) := Lib.hid (Nat.le_trans t149.out (Below.size b163))
  clear h141 h142 h143 h144 h145 h153 bel146
  have bk173 := Held.now h169
  have q174 : W164.cell? ⟨W64.heap.size, 0, none⟩ = some (.int .i64 x_aP.base) := Blk.cell bk173 0
  have q175 : W164.cell? ⟨W64.heap.size, 1, none⟩ = some (.int .i64 x_aP.target) := Blk.cell bk173 1
  have q176 : W164.cell? ⟨W64.heap.size, 2, none⟩ = some (.slice A67 x_aP.O.length c68) := Blk.cell bk173 2
  clear bk173
  have bk177 := Held.now h166
  have q178 : W164.cell? ⟨w.heap.size, 0, none⟩ = some (.int .i64 x_aP.base) := Blk.cell bk177 0
  have q179 : W164.cell? ⟨w.heap.size, 1, none⟩ = some (.int .i64 x_aP.target) := Blk.cell bk177 1
  have q180 : W164.cell? ⟨w.heap.size, 2, none⟩ = some (.slice A_aP n_aP c_aP) := Blk.cell bk177 2
  clear bk177
  clear b163
  refine hK.out _ _ ?_ (fun hS => ?_)
  · exact ⟨q174, q175, q176, q178, q179, q180⟩
  clear hK K
  (try simp only [Act.put, List.setIfInBounds_toArray, List.set_cons_zero, List.set_cons_succ])
  refine takeD 4 (some 26) (v := ?_) rfl (by kernel_rfl) (by kernel_rfl) (by kernel_rfl) (fun _ _ _ h => h) hS (fun o ho => Or.inl ⟨by cases ho; rfl, ?_⟩) ?_
  rotate_left
  · cases ho
    intro w' hw'
    (try dsimp only at hw')
    go_simp
    (try with_reducible rfl)
  (try simp only [Act.put, List.setIfInBounds_toArray, List.set_cons_zero, List.set_cons_succ])
  refine wpAnyH_done (by kernel_rfl) ?_ _
  clear hS
  clear q115 q116 q117 q119 q120 q121 q156 q157 q158 q160 q161 q162 q174 q175 q176 q178 q179 q180
  go_wp2_with fail
  go_ret
  exact ⟨rfl, bel171⟩
end Go.Proofs.Ytakkehjfdeghoab
