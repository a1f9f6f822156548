/-
  The walk of the law of WeightCatches.
-/
import Derived.Test.YtiokcflomchdcaaUn10
import Derived.Test.YtiokcflomchdcaaHBlk
import Derived.Test.YtiokcflomchdcaaLast
import Derived.Deep.RegionHeld3
namespace Go.Proofs.Ytiokcflomchdcaa
open Go.RowKit

set_option maxRecDepth 1000000 in
set_option maxHeartbeats 4000000 in
theorem catches_walk (x_aW : Wt) (A_aW : Option Addr) (n_aW c_aW : Nat) (i_aKind : Int) (w : World) (h_aW : Row .i64 w A_aW n_aW x_aW.W) :
    Calls Try.prog 11 #[wtV x_aW A_aW n_aW c_aW, .int .i64 i_aKind] w fun e w' => e = .returned (.bool true) ∧ Below w.heap.size w w' := by
  have H_aW := held_row h_aW
  have t0 : Hid (w.heap.size ≤ w.heap.size) := Lib.hid (Nat.le_refl _)
  have bel0 : Below w.heap.size w w := Below.refl _ _
  obtain ⟨W1, hW2⟩ : ∃ W1, W1 = w.alloc (.cells #[.int .i64 x_aW.base, .int .i64 x_aW.modulus, .int .i64 x_aW.target, .slice A_aW n_aW c_aW] 63) := ⟨_, rfl⟩
  have be3 : Below w.heap.size w W1 := by rw [hW2]; exact (Below.refl _ _).alloc (Nat.le_refl _) _
  have bk4 : Blk W1 w.heap.size #[.int .i64 x_aW.base, .int .i64 x_aW.modulus, .int .i64 x_aW.target, .slice A_aW n_aW c_aW] 63 := by rw [hW2]; exact Blk.new _ _ _
  have lt5 : Hid (w.heap.size < W1.heap.size) := Lib.hid (Blk.lt bk4)
  have h6 := Held.ran H_aW (ran_below be3 _) (Nat.le_refl _) (.inr (Nat.le_refl _))
  have bel7 : Below w.heap.size w W1 := Below.trans bel0 (Below.mono be3 (Nat.le_refl _))
  have t8 : Hid (w.heap.size ≤ W1.heap.size) := Lib.hid (Nat.le_trans t0.out (Below.size be3))
  clear H_aW bel0
  have le9 : Hid (w.heap.size ≤ W1.heap.size) := t8
  have t10 : Hid (W1.heap.size ≤ W1.heap.size) := Lib.hid (Nat.le_refl _)
  have h11 := held_blk bk4 (Nat.le_refl _) lt5.out
  clear bk4 be3
  go_enter Try.func11, Try.ntmps11
  go_wp2_with fail
  rw [show w.alloc (.cells #[.int .i64 x_aW.base, .int .i64 x_aW.modulus, .int .i64 x_aW.target, .slice A_aW n_aW c_aW] 63) = W1 from hW2.symm]
  clear hW2
  (go_at_call 48; (with_reducible refine (szWeighting_any x_aW _ _ _ 1048576 _ (RowB.up (Held.now h6) (Nat.le_trans (le9.out) t10.out)) (by omega) (by omega) (Nat.le_refl _)).mono ?_); rintro e W13 ⟨rfl, b12⟩)
  have h14 := Held.ran h6 (ran_below b12 _) (Nat.le_trans (le9.out) t10.out) (.inr (Nat.le_refl _))
  have h15 := Held.ran h11 (ran_below b12 _) (Nat.le_refl _) (.inr (Nat.le_refl _))
  have bel16 : Below w.heap.size w W13 := Below.trans bel7 (Below.mono b12 (Nat.le_trans (le9.out) t10.out))
  have t17 : Hid (W1.heap.size ≤ W13.heap.size) := Lib.hid (Nat.le_trans t10.out (Below.size b12))
  clear h6 h11 bel7
  clear b12
  by_cases big18 : (1048576 : Int) < (x_aW.W.length : Nat)
  · rw [szF_big big18]
    go_wp2_with fail
    go_ret
    exact ⟨rfl, bel16⟩
  have e19 := szF_ok big18
  have H20 : Hid (x_aW.W.length ≤ 1048576) := Lib.hid (by omega)
  have hbd_aW : x_aW.W.length ≤ 1048576 := H20.out
  have hz23 : 0 ≤ szF 1048576 x_aW.W.length ∧ szF 1048576 x_aW.W.length ≤ 1048576 := by rw [e19]; omega
  generalize szF 1048576 x_aW.W.length = LEFT21 at hz23 ⊢
  clear e19 big18
  have HL22 := Lib.hid hz23
  have hz23a := hz23.1
  clear hz23
  have bk25 := Held.now h15
  have q26 := Blk.cell bk25 0
  have q27 := Blk.cell bk25 1
  have q28 := Blk.cell bk25 2
  have q29 := Blk.cell bk25 3
  clear bk25
  go_wp2_with fail
  have le30 : Hid (W1.heap.size ≤ W13.heap.size) := t17
  have t31 : Hid (W13.heap.size ≤ W13.heap.size) := Lib.hid (Nat.le_refl _)
  (go_at_call 50; (with_reducible refine (toWeighting_any x_aW _ _ _ _ (RowB.up (Held.now h14) (Nat.le_trans (le9.out) t17.out)) (Nat.le_refl _) H20.out).mono ?_); rintro e W32 ⟨A35, c36, rfl, o34, b33⟩)
  have h41 := Held.ran h14 (ran_below b33 _) (Nat.le_trans (Nat.le_trans (le9.out) le30.out) t31.out) (.inr (Nat.le_refl _))
  have h42 := Held.ran h15 (ran_below b33 _) (Nat.le_trans (le30.out) t31.out) (.inr (Nat.le_refl _))
  have bel43 : Below w.heap.size w W32 := Below.trans bel16 (Below.mono b33 (Nat.le_trans (Nat.le_trans (le9.out) le30.out) t31.out))
  have t44 : Hid (W13.heap.size ≤ W32.heap.size) := Lib.hid (Nat.le_trans t31.out (Below.size b33))
  clear h14 h15 bel16
  have le45 : Hid (W13.heap.size ≤ W32.heap.size) := t44
  have t46 : Hid (W32.heap.size ≤ W32.heap.size) := Lib.hid (Nat.le_refl _)
  have fr47 := Own.from o34
  have lt48 := Own.lt o34
  have h49 := held_own o34 lt48
  clear o34 b33
  clear q26
  clear q27
  clear q28
  clear q29
  go_wp2_with fail
  (go_at_call 52; (with_reducible refine (specCatches_any x_aW _ _ _ _ _ (Own.row (Held.now h49)) (Nat.le_refl _)).mono ?_); rintro e W51 ⟨rfl, b50⟩)
  have h52 := Held.ran h41 (ran_below b50 _) (Nat.le_trans (Nat.le_trans (Nat.le_trans (le9.out) le30.out) le45.out) t46.out) (.inr (Nat.le_refl _))
  have h53 := Held.ran h42 (ran_below b50 _) (Nat.le_trans (Nat.le_trans (le30.out) le45.out) t46.out) (.inr (Nat.le_refl _))
  have h54 := Held.ran h49 (ran_below b50 _) (Nat.le_refl _) (.inr (Nat.le_refl _))
  have bel55 : Below w.heap.size w W51 := Below.trans bel43 (Below.mono b50 (Nat.le_trans (Nat.le_trans (Nat.le_trans (le9.out) le30.out) le45.out) t46.out))
  have t56 : Hid (W32.heap.size ≤ W51.heap.size) := Lib.hid (Nat.le_trans t46.out (Below.size b50))
  clear h41 h42 h49 bel43
  clear b50
  have bk57 := Held.now h53
  have q58 := Blk.cell bk57 0
  have q59 := Blk.cell bk57 1
  have q60 := Blk.cell bk57 2
  have q61 := Blk.cell bk57 3
  clear bk57
  go_wp2_with fail
  have le62 : Hid (W32.heap.size ≤ W51.heap.size) := t56
  have t63 : Hid (W51.heap.size ≤ W51.heap.size) := Lib.hid (Nat.le_refl _)
  (go_at_call 50; (with_reducible refine (toWeighting_any x_aW _ _ _ _ (RowB.up (Held.now h52) (Nat.le_trans (Nat.le_trans (Nat.le_trans (le9.out) le30.out) le45.out) t56.out)) (Nat.le_refl _) H20.out).mono ?_); rintro e W64 ⟨A67, c68, rfl, o66, b65⟩)
  have h73 := Held.ran h52 (ran_below b65 _) (Nat.le_trans (Nat.le_trans (Nat.le_trans (Nat.le_trans (le9.out) le30.out) le45.out) le62.out) t63.out) (.inr (Nat.le_refl _))
  have h74 := Held.ran h53 (ran_below b65 _) (Nat.le_trans (Nat.le_trans (Nat.le_trans (le30.out) le45.out) le62.out) t63.out) (.inr (Nat.le_refl _))
  have h75 := Held.ran h54 (ran_below b65 _) (Nat.le_trans (le62.out) t63.out) (.inr (Nat.le_refl _))
  have bel76 : Below w.heap.size w W64 := Below.trans bel55 (Below.mono b65 (Nat.le_trans (Nat.le_trans (Nat.le_trans (Nat.le_trans (le9.out) le30.out) le45.out) le62.out) t63.out))
  have t77 : Hid (W51.heap.size ≤ W64.heap.size) := Lib.hid (Nat.le_trans t63.out (Below.size b65))
  clear h52 h53 h54 bel55
  have le78 : Hid (W51.heap.size ≤ W64.heap.size) := t77
  have t79 : Hid (W64.heap.size ≤ W64.heap.size) := Lib.hid (Nat.le_refl _)
  have fr80 := Own.from o66
  have lt81 := Own.lt o66
  have h82 := held_own o66 lt81
  clear o66 b65
  clear q58
  clear q59
  clear q60
  clear q61
  have bk87 := Held.now h74
  have q88 : W64.cell? ⟨w.heap.size, 0, none⟩ = some (.int .i64 x_aW.base) := Blk.cell bk87 0
  have q89 : W64.cell? ⟨w.heap.size, 1, none⟩ = some (.int .i64 x_aW.modulus) := Blk.cell bk87 1
  have q90 : W64.cell? ⟨w.heap.size, 2, none⟩ = some (.int .i64 x_aW.target) := Blk.cell bk87 2
  have q91 : W64.cell? ⟨w.heap.size, 3, none⟩ = some (.slice A_aW n_aW c_aW) := Blk.cell bk87 3
  clear bk87
  have lt92 : w.heap.size < W64.heap.size := Nat.lt_of_lt_of_le lt5.out (Nat.le_trans (Nat.le_trans (Nat.le_trans (Nat.le_trans (le30.out) le45.out) le62.out) le78.out) t79.out)
  have ne93 : w.heap.size ≠ W64.heap.size := Nat.ne_of_lt lt92
  obtain ⟨W83, hW84⟩ : ∃ W83, W83 = W64.alloc (.cells #[.int .i64 x_aW.base, .int .i64 x_aW.modulus, .int .i64 x_aW.target, .slice A67 x_aW.W.length c68] 26) := ⟨_, rfl⟩
  have be85 : Below W64.heap.size W64 W83 := by rw [hW84]; exact (Below.refl _ _).alloc (Nat.le_refl _) _
  have bk86 : Blk W83 W64.heap.size #[.int .i64 x_aW.base, .int .i64 x_aW.modulus, .int .i64 x_aW.target, .slice A67 x_aW.W.length c68] 26 := by rw [hW84]; exact Blk.new _ _ _
  have lt94 : Hid (W64.heap.size < W83.heap.size) := Lib.hid (Blk.lt bk86)
  have h95 := Held.ran h73 (ran_below be85 _) (Nat.le_trans (Nat.le_trans (Nat.le_trans (Nat.le_trans (Nat.le_trans (le9.out) le30.out) le45.out) le62.out) le78.out) t79.out) (.inr (Nat.le_refl _))
  have h96 := Held.ran h74 (ran_below be85 _) (Nat.le_trans (Nat.le_trans (Nat.le_trans (Nat.le_trans (le30.out) le45.out) le62.out) le78.out) t79.out) (.inr (Nat.le_refl _))
  have h97 := Held.ran h75 (ran_below be85 _) (Nat.le_trans (Nat.le_trans (le62.out) le78.out) t79.out) (.inr (Nat.le_refl _))
  have h98 := Held.ran h82 (ran_below be85 _) (Nat.le_refl _) (.inr (Nat.le_refl _))
  have bel99 : Below w.heap.size w W83 := Below.trans bel76 (Below.mono be85 (Nat.le_trans (Nat.le_trans (Nat.le_trans (Nat.le_trans (Nat.le_trans (le9.out) le30.out) le45.out) le62.out) le78.out) t79.out))
  have t100 : Hid (W64.heap.size ≤ W83.heap.size) := Lib.hid (Nat.le_trans t79.out (Below.size be85))
  clear h73 h74 h75 h82 bel76
  have le101 : Hid (W64.heap.size ≤ W83.heap.size) := t100
  have t102 : Hid (W83.heap.size ≤ W83.heap.size) := Lib.hid (Nat.le_refl _)
  have h103 := held_blk bk86 (Nat.le_refl _) lt94.out
  clear bk86 be85
  go_wp2_with fail
  rw [show W64.alloc (.cells #[.int .i64 x_aW.base, .int .i64 x_aW.modulus, .int .i64 x_aW.target, .slice A67 x_aW.W.length c68] 26) = W83 from hW84.symm]
  clear hW84
  clear q88 q89 q90 q91 lt92 ne93
  (go_at_call 18; (with_reducible refine (implCatches_any x_aW _ _ _ _ _ (Own.row (Held.now h98)) (Nat.le_refl _)).mono ?_); rintro e W105 ⟨rfl, b104⟩)
  have h106 := Held.ran h95 (ran_below b104 _) (Nat.le_trans (Nat.le_trans (Nat.le_trans (Nat.le_trans (Nat.le_trans (Nat.le_trans (le9.out) le30.out) le45.out) le62.out) le78.out) le101.out) t102.out) (.inr (Nat.le_refl _))
  have h107 := Held.ran h96 (ran_below b104 _) (Nat.le_trans (Nat.le_trans (Nat.le_trans (Nat.le_trans (Nat.le_trans (le30.out) le45.out) le62.out) le78.out) le101.out) t102.out) (.inr (Nat.le_refl _))
  have h108 := Held.ran h97 (ran_below b104 _) (Nat.le_trans (Nat.le_trans (Nat.le_trans (le62.out) le78.out) le101.out) t102.out) (.inr (Nat.le_refl _))
  have h109 := Held.ran h98 (ran_below b104 _) (Nat.le_trans (le101.out) t102.out) (.inr (Nat.le_refl _))
  have h110 := Held.ran h103 (ran_below b104 _) (Nat.le_refl _) (.inr (Nat.le_refl _))
  have bel111 : Below w.heap.size w W105 := Below.trans bel99 (Below.mono b104 (Nat.le_trans (Nat.le_trans (Nat.le_trans (Nat.le_trans (Nat.le_trans (Nat.le_trans (le9.out) le30.out) le45.out) le62.out) le78.out) le101.out) t102.out))
  have t112 : Hid (W83.heap.size ≤ W105.heap.size) := Lib.hid (Nat.le_trans t102.out (Below.size b104))
  clear h95 h96 h97 h98 h103 bel99
  clear b104
  have bk113 := Held.now h110
  have q114 : W105.cell? ⟨W64.heap.size, 0, none⟩ = some (.int .i64 x_aW.base) := Blk.cell bk113 0
  have q115 : W105.cell? ⟨W64.heap.size, 1, none⟩ = some (.int .i64 x_aW.modulus) := Blk.cell bk113 1
  have q116 : W105.cell? ⟨W64.heap.size, 2, none⟩ = some (.int .i64 x_aW.target) := Blk.cell bk113 2
  have q117 : W105.cell? ⟨W64.heap.size, 3, none⟩ = some (.slice A67 x_aW.W.length c68) := Blk.cell bk113 3
  clear bk113
  have bk118 := Held.now h107
  have q119 : W105.cell? ⟨w.heap.size, 0, none⟩ = some (.int .i64 x_aW.base) := Blk.cell bk118 0
  have q120 : W105.cell? ⟨w.heap.size, 1, none⟩ = some (.int .i64 x_aW.modulus) := Blk.cell bk118 1
  have q121 : W105.cell? ⟨w.heap.size, 2, none⟩ = some (.int .i64 x_aW.target) := Blk.cell bk118 2
  have q122 : W105.cell? ⟨w.heap.size, 3, none⟩ = some (.slice A_aW n_aW c_aW) := Blk.cell bk118 3
  clear bk118
  go_wp2_with fail
  have h123 := Held.ran h106 (ran_drew W105 _) (Nat.le_trans (Nat.le_trans (Nat.le_trans (Nat.le_trans (Nat.le_trans (Nat.le_trans (le9.out) le30.out) le45.out) le62.out) le78.out) le101.out) t112.out) (.inr (Nat.le_refl _))
  have h124 := Held.ran h107 (ran_drew W105 _) (Nat.le_trans (Nat.le_trans (Nat.le_trans (Nat.le_trans (Nat.le_trans (le30.out) le45.out) le62.out) le78.out) le101.out) t112.out) (.inr (Nat.le_refl _))
  have h125 := Held.ran h108 (ran_drew W105 _) (Nat.le_trans (Nat.le_trans (Nat.le_trans (le62.out) le78.out) le101.out) t112.out) (.inr (Nat.le_refl _))
  have h126 := Held.ran h109 (ran_drew W105 _) (Nat.le_trans (le101.out) t112.out) (.inr (Nat.le_refl _))
  have h127 := Held.ran h110 (ran_drew W105 _) (Nat.le_trans (Nat.le_refl _) t112.out) (.inr (Nat.le_refl _))
  have bel128 : Below w.heap.size w (World.drew W105) := below_drew bel111
  have t129 : Hid (W83.heap.size ≤ ((World.drew W105)).heap.size) := t112
  clear h106 h107 h108 h109 h110 bel111
  have le131 : Hid (W83.heap.size ≤ (World.drew W105).heap.size) := t129
  have t132 : Hid ((World.drew W105).heap.size ≤ (World.drew W105).heap.size) := Lib.hid (Nat.le_refl _)
  refine region_held_n 5 (fun w' => w'.cell? ⟨W64.heap.size, 0, none⟩ = some (.int .i64 x_aW.base) ∧ w'.cell? ⟨W64.heap.size, 1, none⟩ = some (.int .i64 x_aW.modulus) ∧ w'.cell? ⟨W64.heap.size, 2, none⟩ = some (.int .i64 x_aW.target) ∧ w'.cell? ⟨W64.heap.size, 3, none⟩ = some (.slice A67 x_aW.W.length c68) ∧ w'.cell? ⟨w.heap.size, 0, none⟩ = some (.int .i64 x_aW.base) ∧ w'.cell? ⟨w.heap.size, 1, none⟩ = some (.int .i64 x_aW.modulus) ∧ w'.cell? ⟨w.heap.size, 2, none⟩ = some (.int .i64 x_aW.target) ∧ w'.cell? ⟨w.heap.size, 3, none⟩ = some (.slice A_aW n_aW c_aW)) (by kernel_rfl) (by kernel_rfl) ⟨q114, q115, q116, q117, q119, q120, q121, q122⟩ (fun hS => ?_)
  refine takeD 0 (some 26) (v := ?_) rfl (by kernel_rfl) (by kernel_rfl) (by kernel_rfl) (fun _ _ _ h => h) hS (fun o ho => Or.inl ⟨by cases ho; rfl, ?_⟩) ?_
  rotate_left
  · cases ho
    intro w' hw'
    (try dsimp only at hw')
    go_simp
    (try with_reducible rfl)
  (try simp only [Act.put, List.setIfInBounds_toArray, List.set_cons_zero, List.set_cons_succ])
  refine takeD 1 (some 27) (v := ?_) rfl (by kernel_rfl) (by kernel_rfl) (by kernel_rfl) (fun _ _ _ h => h) hS (fun o ho => Or.inl ⟨by cases ho; rfl, ?_⟩) ?_
  rotate_left
  · cases ho
    intro w' hw'
    (try dsimp only at hw')
    go_simp
    (try with_reducible rfl)
  (try simp only [Act.put, List.setIfInBounds_toArray, List.set_cons_zero, List.set_cons_succ])
  refine oneD 2 (some 28) (by kernel_rfl) rfl (fun o ho K hK hdo => ?_)
  simp only [List.getElem?_toArray, List.getElem?_cons_succ, List.getElem?_cons_zero, Option.some.injEq] at ho
  subst ho
  clear hdo
  rw [if_pos (by rfl)]
  go_wp2_with ((go_at_call 50; (with_reducible refine (toWeighting_any x_aW _ _ _ _ (RowB.up (Held.now h123) (Nat.le_trans (Nat.le_trans (Nat.le_trans (Nat.le_trans (Nat.le_trans (Nat.le_trans (le9.out) le30.out) le45.out) le62.out) le78.out) le101.out) t129.out)) (Nat.le_refl _) H20.out).mono ?_); rintro e W133 ⟨A136, c137, rfl, o135, b134⟩))
  have h142 := Held.ran h123 (ran_below b134 _) (Nat.le_trans (Nat.le_trans (Nat.le_trans (Nat.le_trans (Nat.le_trans (Nat.le_trans (Nat.le_trans (le9.out) le30.out) le45.out) le62.out) le78.out) le101.out) le131.out) t132.out) (.inr (Nat.le_refl _))
  have h143 := Held.ran h124 (ran_below b134 _) (Nat.le_trans (Nat.le_trans (Nat.le_trans (Nat.le_trans (Nat.le_trans (Nat.le_trans (le30.out) le45.out) le62.out) le78.out) le101.out) le131.out) t132.out) (.inr (Nat.le_refl _))
  have h144 := Held.ran h125 (ran_below b134 _) (Nat.le_trans (Nat.le_trans (Nat.le_trans (Nat.le_trans (le62.out) le78.out) le101.out) le131.out) t132.out) (.inr (Nat.le_refl _))
  have h145 := Held.ran h126 (ran_below b134 _) (Nat.le_trans (Nat.le_trans (le101.out) le131.out) t132.out) (.inr (Nat.le_refl _))
  have h146 := Held.ran h127 (ran_below b134 _) (Nat.le_trans (le131.out) t132.out) (.inr (Nat.le_refl _))
  have bel147 : Below w.heap.size w W133 := Below.trans bel128 (Below.mono b134 (Nat.le_trans (Nat.le_trans (Nat.le_trans (Nat.le_trans (Nat.le_trans (Nat.le_trans (Nat.le_trans (le9.out) le30.out) le45.out) le62.out) le78.out) le101.out) le131.out) t132.out))
  have t148 : Hid ((World.drew W105).heap.size ≤ W133.heap.size) := Lib.hid (Nat.le_trans t132.out (Below.size b134))
  clear h123 h124 h125 h126 h127 bel128
  have le149 : Hid ((World.drew W105).heap.size ≤ W133.heap.size) := t148
  have t150 : Hid (W133.heap.size ≤ W133.heap.size) := Lib.hid (Nat.le_refl _)
  have fr151 := Own.from o135
  have lt152 := Own.lt o135
  have h153 := held_own o135 lt152
  clear o135 b134
  have bk154 := Held.now h146
  have q155 : W133.cell? ⟨W64.heap.size, 0, none⟩ = some (.int .i64 x_aW.base) := Blk.cell bk154 0
  have q156 : W133.cell? ⟨W64.heap.size, 1, none⟩ = some (.int .i64 x_aW.modulus) := Blk.cell bk154 1
  have q157 : W133.cell? ⟨W64.heap.size, 2, none⟩ = some (.int .i64 x_aW.target) := Blk.cell bk154 2
  have q158 : W133.cell? ⟨W64.heap.size, 3, none⟩ = some (.slice A67 x_aW.W.length c68) := Blk.cell bk154 3
  clear bk154
  have bk159 := Held.now h143
  have q160 : W133.cell? ⟨w.heap.size, 0, none⟩ = some (.int .i64 x_aW.base) := Blk.cell bk159 0
  have q161 : W133.cell? ⟨w.heap.size, 1, none⟩ = some (.int .i64 x_aW.modulus) := Blk.cell bk159 1
  have q162 : W133.cell? ⟨w.heap.size, 2, none⟩ = some (.int .i64 x_aW.target) := Blk.cell bk159 2
  have q163 : W133.cell? ⟨w.heap.size, 3, none⟩ = some (.slice A_aW n_aW c_aW) := Blk.cell bk159 3
  clear bk159
  refine hK.out _ _ ?_ (fun hS => ?_)
  · exact ⟨q155, q156, q157, q158, q160, q161, q162, q163⟩
  clear hK K
  (try simp only [Act.put, List.setIfInBounds_toArray, List.set_cons_zero, List.set_cons_succ])
  refine oneD 3 (some 29) (by kernel_rfl) rfl (fun o ho K hK hdo => ?_)
  simp only [List.getElem?_toArray, List.getElem?_cons_succ, List.getElem?_cons_zero, Option.some.injEq] at ho
  subst ho
  clear hdo
  rw [if_pos (by rfl)]
  go_wp2_with ((go_at_call 51; (with_reducible refine (eqWeighting_any x_aW _ _ _ _ _ _ (Own.row (Held.now h145)) (Own.row (Held.now h153)) (Nat.le_refl _) (Nat.le_refl _)).mono ?_); rintro e W165 ⟨rfl, b164⟩))
  have h166 := Held.ran h142 (ran_below b164 _) (Nat.le_trans (Nat.le_trans (Nat.le_trans (Nat.le_trans (Nat.le_trans (Nat.le_trans (Nat.le_trans (Nat.le_trans (le9.out) le30.out) le45.out) le62.out) le78.out) le101.out) le131.out) le149.out) t150.out) (.inr (Nat.le_refl _))
  have h167 := Held.ran h143 (ran_below b164 _) (Nat.le_trans (Nat.le_trans (Nat.le_trans (Nat.le_trans (Nat.le_trans (Nat.le_trans (Nat.le_trans (le30.out) le45.out) le62.out) le78.out) le101.out) le131.out) le149.out) t150.out) (.inr (Nat.le_refl _))
  have h168 := Held.ran h144 (ran_below b164 _) (Nat.le_trans (Nat.le_trans (Nat.le_trans (Nat.le_trans (Nat.le_trans (le62.out) le78.out) le101.out) le131.out) le149.out) t150.out) (.inr (Nat.le_refl _))
  have h169 := Held.ran h145 (ran_below b164 _) (Nat.le_trans (Nat.le_trans (Nat.le_trans (le101.out) le131.out) le149.out) t150.out) (.inr (Nat.le_refl _))
  have h170 := Held.ran h146 (ran_below b164 _) (Nat.le_trans (Nat.le_trans (le131.out) le149.out) t150.out) (.inr (Nat.le_refl _))
  have h171 := Held.ran h153 (ran_below b164 _) (Nat.le_refl _) (.inr (Nat.le_refl _))
  have bel172 : Below w.heap.size w W165 := Below.trans bel147 (Below.mono b164 (Nat.le_trans (Nat.le_trans (Nat.le_trans (Nat.le_trans (Nat.le_trans (Nat.le_trans (Nat.le_trans (Nat.le_trans (le9.out) le30.out) le45.out) le62.out) le78.out) le101.out) le131.out) le149.out) t150.out))
  have t173 : Hid (W133.heap.size ≤ W165.heap.size) := Lib.hid (Nat.le_trans t150.out (Below.size b164))
  clear h142 h143 h144 h145 h146 h153 bel147
  have bk174 := Held.now h170
  have q175 : W165.cell? ⟨W64.heap.size, 0, none⟩ = some (.int .i64 x_aW.base) := Blk.cell bk174 0
  have q176 : W165.cell? ⟨W64.heap.size, 1, none⟩ = some (.int .i64 x_aW.modulus) := Blk.cell bk174 1
  have q177 : W165.cell? ⟨W64.heap.size, 2, none⟩ = some (.int .i64 x_aW.target) := Blk.cell bk174 2
  have q178 : W165.cell? ⟨W64.heap.size, 3, none⟩ = some (.slice A67 x_aW.W.length c68) := Blk.cell bk174 3
  clear bk174
  have bk179 := Held.now h167
  have q180 : W165.cell? ⟨w.heap.size, 0, none⟩ = some (.int .i64 x_aW.base) := Blk.cell bk179 0
  have q181 : W165.cell? ⟨w.heap.size, 1, none⟩ = some (.int .i64 x_aW.modulus) := Blk.cell bk179 1
  have q182 : W165.cell? ⟨w.heap.size, 2, none⟩ = some (.int .i64 x_aW.target) := Blk.cell bk179 2
  have q183 : W165.cell? ⟨w.heap.size, 3, none⟩ = some (.slice A_aW n_aW c_aW) := Blk.cell bk179 3
  clear bk179
  clear b164
  refine hK.out _ _ ?_ (fun hS => ?_)
  · exact ⟨q175, q176, q177, q178, q180, q181, q182, q183⟩
  clear hK K
  (try simp only [Act.put, List.setIfInBounds_toArray, List.set_cons_zero, List.set_cons_succ])
  refine takeD 4 (some 30) (v := ?_) rfl (by kernel_rfl) (by kernel_rfl) (by kernel_rfl) (fun _ _ _ h => h) hS (fun o ho => Or.inl ⟨by cases ho; rfl, ?_⟩) ?_
  rotate_left
  · cases ho
    intro w' hw'
    (try dsimp only at hw')
    go_simp
    (try with_reducible rfl)
  (try simp only [Act.put, List.setIfInBounds_toArray, List.set_cons_zero, List.set_cons_succ])
  refine wpAnyH_done (by kernel_rfl) ?_ _
  clear hS
  clear q114 q115 q116 q117 q119 q120 q121 q122 q155 q156 q157 q158 q160 q161 q162 q163 q175 q176 q177 q178 q180 q181 q182 q183
  go_wp2_with fail
  go_ret
  exact ⟨rfl, bel172⟩
end Go.Proofs.Ytiokcflomchdcaa
