/-
  The walk of the law of WeightSum.
-/
import Derived.Test.YtakkehjfdeghoabWSumF
import Derived.Test.YtakkehjfdeghoabHBlk
import Derived.Test.YtakkehjfdeghoabLast
import Derived.Deep.RegionHeld3
namespace Go.Proofs.Ytakkehjfdeghoab
open Go.RowKit

set_option maxRecDepth 1000000 in
set_option maxHeartbeats 4000000 in
theorem wsum_walk (x_aW : Wt) (A_aW : Option Addr) (n_aW c_aW : Nat) (t_aWord : ByteArray) (w : World) (h_aW : Row .i64 w A_aW n_aW x_aW.W) (h_aWord : t_aWord.size ≤ maxLen) :
    Calls Try.prog 6 #[wtV x_aW A_aW n_aW c_aW, .string t_aWord] w fun e w' => e = .returned (.bool true) ∧ Below w.heap.size w w' := by
  have le_aWord := h_aWord
  unfold maxLen at le_aWord
  by_cases big_aWord : 1048576 < t_aWord.size
  · go_enter Try.func6, Try.ntmps6
    go_wp2
    go_ret
    exact ⟨rfl, (Below.refl _ _).alloc (by simp) _⟩
  have H_aW := held_row h_aW
  have t0 : Hid (w.heap.size ≤ w.heap.size) := Lib.hid (Nat.le_refl _)
  have bel0 : Below w.heap.size w w := Below.refl _ _
  obtain ⟨W1, hW2⟩ : ∃ W1, W1 = w.alloc (.cells #[.int .i64 x_aW.base, .int .i64 x_aW.modulus, .int .i64 x_aW.target, .slice A_aW n_aW c_aW] 41) := ⟨_, rfl⟩
  have be3 : Below w.heap.size w W1 := by rw [hW2]; exact (Below.refl _ _).alloc (Nat.le_refl _) _
  have bk4 : Blk W1 w.heap.size #[.int .i64 x_aW.base, .int .i64 x_aW.modulus, .int .i64 x_aW.target, .slice A_aW n_aW c_aW] 41 := by rw [hW2]; exact Blk.new _ _ _
  have lt5 : Hid (w.heap.size < W1.heap.size) := Lib.hid (Blk.lt bk4)
  have h6 := Held.ran H_aW (ran_below be3 _) (Nat.le_refl _) (.inr (Nat.le_refl _))
  have bel7 : Below w.heap.size w W1 := Below.trans bel0 (Below.mono be3 (Nat.le_refl _))
  have t8 : Hid (w.heap.size ≤ W1.heap.size) := Lib.hid (Nat.le_trans t0.out (Below.size be3))
  clear H_aW bel0
  have le9 : Hid (w.heap.size ≤ W1.heap.size) := t8
  have t10 : Hid (W1.heap.size ≤ W1.heap.size) := Lib.hid (Nat.le_refl _)
  have h11 := held_blk bk4 (Nat.le_refl _) lt5.out
  clear bk4 be3
  go_enter Try.func6, Try.ntmps6
  go_wp2_with fail
  rw [show w.alloc (.cells #[.int .i64 x_aW.base, .int .i64 x_aW.modulus, .int .i64 x_aW.target, .slice A_aW n_aW c_aW] 41) = W1 from hW2.symm]
  clear hW2
  (go_at_call 28; (with_reducible refine (szWeighting_any x_aW _ _ _ 1048576 _ (RowB.up (Held.now h6) (Nat.le_trans (le9.out) t10.out)) (by omega) (by omega) (Nat.le_refl _)).mono ?_); rintro e W13 ⟨rfl, b12⟩)
  have h14 := Held.ran h6 (ran_below b12 _) (Nat.le_trans (le9.out) t10.out) (.inr (Nat.le_refl _))
  have h15 := Held.ran h11 (ran_below b12 _) (Nat.le_refl _) (.inr (Nat.le_refl _))
  have bel16 : Below w.heap.size w W13 := Below.trans bel7 (Below.mono b12 (Nat.le_trans (le9.out) t10.out))
  have t17 : Hid (W1.heap.size ≤ W13.heap.size) := Lib.hid (Nat.le_trans t10.out (Below.size b12))
  clear h6 h11 bel7
  clear b12
  by_cases big18 : (1048576 : Int) < (x_aW.W.length : Nat)
  · rw [szF_big big18]
    go_wp2_with fail
    go_ret
    exact ⟨rfl, bel16⟩
  have e19 := szF_ok big18
  have H20 : Hid (x_aW.W.length ≤ 1048576) := Lib.hid (by omega)
  have hz23 : 0 ≤ szF 1048576 x_aW.W.length ∧ szF 1048576 x_aW.W.length ≤ 1048576 := by rw [e19]; omega
  generalize szF 1048576 x_aW.W.length = LEFT21 at hz23 ⊢
  clear e19 big18
  have HL22 := Lib.hid hz23
  have hz23a := hz23.1
  clear hz23
  have bk25 := Held.now h15
  have q26 := Blk.cell bk25 0
  have q27 := Blk.cell bk25 1
  have q28 := Blk.cell bk25 2
  have q29 := Blk.cell bk25 3
  clear bk25
  go_wp2_with fail
  have le30 : Hid (W1.heap.size ≤ W13.heap.size) := t17
  have t31 : Hid (W13.heap.size ≤ W13.heap.size) := Lib.hid (Nat.le_refl _)
  (go_at_call 30; (with_reducible refine (toWeighting_any x_aW _ _ _ _ (RowB.up (Held.now h14) (Nat.le_trans (le9.out) t17.out)) (Nat.le_refl _) H20.out).mono ?_); rintro e W32 ⟨A35, c36, rfl, o34, b33⟩)
  have h41 := Held.ran h14 (ran_below b33 _) (Nat.le_trans (Nat.le_trans (le9.out) le30.out) t31.out) (.inr (Nat.le_refl _))
  have h42 := Held.ran h15 (ran_below b33 _) (Nat.le_trans (le30.out) t31.out) (.inr (Nat.le_refl _))
  have bel43 : Below w.heap.size w W32 := Below.trans bel16 (Below.mono b33 (Nat.le_trans (Nat.le_trans (le9.out) le30.out) t31.out))
  have t44 : Hid (W13.heap.size ≤ W32.heap.size) := Lib.hid (Nat.le_trans t31.out (Below.size b33))
  clear h14 h15 bel16
  have le45 : Hid (W13.heap.size ≤ W32.heap.size) := t44
  have t46 : Hid (W32.heap.size ≤ W32.heap.size) := Lib.hid (Nat.le_refl _)
  have fr47 := Own.from o34
  have lt48 := Own.lt o34
  have h49 := held_own o34 lt48
  clear o34 b33
  clear q26
  clear q27
  clear q28
  clear q29
  go_wp2_with fail
  (go_at_call 33; (with_reducible refine (specWSum_any x_aW _ _ _ _ _ (Own.row (Held.now h49)) (Nat.le_refl _) h_aWord).mono ?_); rintro e W51 ⟨rfl, b50⟩)
  have h52 := Held.ran h41 (ran_below b50 _) (Nat.le_trans (Nat.le_trans (Nat.le_trans (le9.out) le30.out) le45.out) t46.out) (.inr (Nat.le_refl _))
  have h53 := Held.ran h42 (ran_below b50 _) (Nat.le_trans (Nat.le_trans (le30.out) le45.out) t46.out) (.inr (Nat.le_refl _))
  have h54 := Held.ran h49 (ran_below b50 _) (Nat.le_refl _) (.inr (Nat.le_refl _))
  have bel55 : Below w.heap.size w W51 := Below.trans bel43 (Below.mono b50 (Nat.le_trans (Nat.le_trans (Nat.le_trans (le9.out) le30.out) le45.out) t46.out))
  have t56 : Hid (W32.heap.size ≤ W51.heap.size) := Lib.hid (Nat.le_trans t46.out (Below.size b50))
  clear h41 h42 h49 bel43
  clear b50
  have bk57 := Held.now h53
  have q58 := Blk.cell bk57 0
  have q59 := Blk.cell bk57 1
  have q60 := Blk.cell bk57 2
  have q61 := Blk.cell bk57 3
  clear bk57
  go_wp2_with fail
  have le62 : Hid (W32.heap.size ≤ W51.heap.size) := t56
  have t63 : Hid (W51.heap.size ≤ W51.heap.size) := Lib.hid (Nat.le_refl _)
  (go_at_call 30; (with_reducible refine (toWeighting_any x_aW _ _ _ _ (RowB.up (Held.now h52) (Nat.le_trans (Nat.le_trans (Nat.le_trans (le9.out) le30.out) le45.out) t56.out)) (Nat.le_refl _) H20.out).mono ?_); rintro e W64 ⟨A67, c68, rfl, o66, b65⟩)
  have h73 := Held.ran h52 (ran_below b65 _) (Nat.le_trans (Nat.le_trans (Nat.le_trans (Nat.le_trans (le9.out) le30.out) le45.out) le62.out) t63.out) (.inr (Nat.le_refl _))
  have h74 := Held.ran h53 (ran_below b65 _) (Nat.le_trans (Nat.le_trans (Nat.le_trans (le30.out) le45.out) le62.out) t63.out) (.inr (Nat.le_refl _))
  have h75 := Held.ran h54 (ran_below b65 _) (Nat.le_trans (le62.out) t63.out) (.inr (Nat.le_refl _))
  have bel76 : Below w.heap.size w W64 := Below.trans bel55 (Below.mono b65 (Nat.le_trans (Nat.le_trans (Nat.le_trans (Nat.le_trans (le9.out) le30.out) le45.out) le62.out) t63.out))
  have t77 : Hid (W51.heap.size ≤ W64.heap.size) := Lib.hid (Nat.le_trans t63.out (Below.size b65))
  clear h52 h53 h54 bel55
  have le78 : Hid (W51.heap.size ≤ W64.heap.size) := t77
  have t79 : Hid (W64.heap.size ≤ W64.heap.size) := Lib.hid (Nat.le_refl _)
  have fr80 := Own.from o66
  have lt81 := Own.lt o66
  have h82 := held_own o66 lt81
  clear o66 b65
  clear q58
  clear q59
  clear q60
  clear q61
  obtain ⟨W83, hW84⟩ : ∃ W83, W83 = W64.alloc (.cells #[.int .i64 x_aW.base, .int .i64 x_aW.modulus, .int .i64 x_aW.target, .slice A67 x_aW.W.length c68] 44) := ⟨_, rfl⟩
  have be85 : Below W64.heap.size W64 W83 := by rw [hW84]; exact (Below.refl _ _).alloc (Nat.le_refl _) _
  have bk86 : Blk W83 W64.heap.size #[.int .i64 x_aW.base, .int .i64 x_aW.modulus, .int .i64 x_aW.target, .slice A67 x_aW.W.length c68] 44 := by rw [hW84]; exact Blk.new _ _ _
  have lt87 : Hid (W64.heap.size < W83.heap.size) := Lib.hid (Blk.lt bk86)
  have h88 := Held.ran h73 (ran_below be85 _) (Nat.le_trans (Nat.le_trans (Nat.le_trans (Nat.le_trans (Nat.le_trans (le9.out) le30.out) le45.out) le62.out) le78.out) t79.out) (.inr (Nat.le_refl _))
  have h89 := Held.ran h74 (ran_below be85 _) (Nat.le_trans (Nat.le_trans (Nat.le_trans (Nat.le_trans (le30.out) le45.out) le62.out) le78.out) t79.out) (.inr (Nat.le_refl _))
  have h90 := Held.ran h75 (ran_below be85 _) (Nat.le_trans (Nat.le_trans (le62.out) le78.out) t79.out) (.inr (Nat.le_refl _))
  have h91 := Held.ran h82 (ran_below be85 _) (Nat.le_refl _) (.inr (Nat.le_refl _))
  have bel92 : Below w.heap.size w W83 := Below.trans bel76 (Below.mono be85 (Nat.le_trans (Nat.le_trans (Nat.le_trans (Nat.le_trans (Nat.le_trans (le9.out) le30.out) le45.out) le62.out) le78.out) t79.out))
  have t93 : Hid (W64.heap.size ≤ W83.heap.size) := Lib.hid (Nat.le_trans t79.out (Below.size be85))
  clear h73 h74 h75 h82 bel76
  have le94 : Hid (W64.heap.size ≤ W83.heap.size) := t93
  have t95 : Hid (W83.heap.size ≤ W83.heap.size) := Lib.hid (Nat.le_refl _)
  have h96 := held_blk bk86 (Nat.le_refl _) lt87.out
  clear bk86 be85
  go_wp2_with fail
  rw [show W64.alloc (.cells #[.int .i64 x_aW.base, .int .i64 x_aW.modulus, .int .i64 x_aW.target, .slice A67 x_aW.W.length c68] 44) = W83 from hW84.symm]
  clear hW84
  (go_at_call 34; (with_reducible refine (implWSum_any x_aW _ _ _ _ _ (Own.row (Held.now h91)) (Nat.le_refl _) h_aWord).mono ?_); rintro e W98 ⟨rfl, b97⟩)
  have h99 := Held.ran h88 (ran_below b97 _) (Nat.le_trans (Nat.le_trans (Nat.le_trans (Nat.le_trans (Nat.le_trans (Nat.le_trans (le9.out) le30.out) le45.out) le62.out) le78.out) le94.out) t95.out) (.inr (Nat.le_refl _))
  have h100 := Held.ran h89 (ran_below b97 _) (Nat.le_trans (Nat.le_trans (Nat.le_trans (Nat.le_trans (Nat.le_trans (le30.out) le45.out) le62.out) le78.out) le94.out) t95.out) (.inr (Nat.le_refl _))
  have h101 := Held.ran h90 (ran_below b97 _) (Nat.le_trans (Nat.le_trans (Nat.le_trans (le62.out) le78.out) le94.out) t95.out) (.inr (Nat.le_refl _))
  have h102 := Held.ran h91 (ran_below b97 _) (Nat.le_trans (le94.out) t95.out) (.inr (Nat.le_refl _))
  have h103 := Held.ran h96 (ran_below b97 _) (Nat.le_refl _) (.inr (Nat.le_refl _))
  have bel104 : Below w.heap.size w W98 := Below.trans bel92 (Below.mono b97 (Nat.le_trans (Nat.le_trans (Nat.le_trans (Nat.le_trans (Nat.le_trans (Nat.le_trans (le9.out) le30.out) le45.out) le62.out) le78.out) le94.out) t95.out))
  have t105 : Hid (W83.heap.size ≤ W98.heap.size) := Lib.hid (Nat.le_trans t95.out (Below.size b97))
  clear h88 h89 h90 h91 h96 bel92
  clear b97
  have bk106 := Held.now h103
  have q107 : W98.cell? ⟨W64.heap.size, 0, none⟩ = some (.int .i64 x_aW.base) := Blk.cell bk106 0
  have q108 : W98.cell? ⟨W64.heap.size, 1, none⟩ = some (.int .i64 x_aW.modulus) := Blk.cell bk106 1
  have q109 : W98.cell? ⟨W64.heap.size, 2, none⟩ = some (.int .i64 x_aW.target) := Blk.cell bk106 2
  have q110 : W98.cell? ⟨W64.heap.size, 3, none⟩ = some (.slice A67 x_aW.W.length c68) := Blk.cell bk106 3
  clear bk106
  have bk111 := Held.now h100
  have q112 : W98.cell? ⟨w.heap.size, 0, none⟩ = some (.int .i64 x_aW.base) := Blk.cell bk111 0
  have q113 : W98.cell? ⟨w.heap.size, 1, none⟩ = some (.int .i64 x_aW.modulus) := Blk.cell bk111 1
  have q114 : W98.cell? ⟨w.heap.size, 2, none⟩ = some (.int .i64 x_aW.target) := Blk.cell bk111 2
  have q115 : W98.cell? ⟨w.heap.size, 3, none⟩ = some (.slice A_aW n_aW c_aW) := Blk.cell bk111 3
  clear bk111
  go_wp2_with fail
  have h116 := Held.ran h99 (ran_drew W98 _) (Nat.le_trans (Nat.le_trans (Nat.le_trans (Nat.le_trans (Nat.le_trans (Nat.le_trans (le9.out) le30.out) le45.out) le62.out) le78.out) le94.out) t105.out) (.inr (Nat.le_refl _))
  have h117 := Held.ran h100 (ran_drew W98 _) (Nat.le_trans (Nat.le_trans (Nat.le_trans (Nat.le_trans (Nat.le_trans (le30.out) le45.out) le62.out) le78.out) le94.out) t105.out) (.inr (Nat.le_refl _))
  have h118 := Held.ran h101 (ran_drew W98 _) (Nat.le_trans (Nat.le_trans (Nat.le_trans (le62.out) le78.out) le94.out) t105.out) (.inr (Nat.le_refl _))
  have h119 := Held.ran h102 (ran_drew W98 _) (Nat.le_trans (le94.out) t105.out) (.inr (Nat.le_refl _))
  have h120 := Held.ran h103 (ran_drew W98 _) (Nat.le_trans (Nat.le_refl _) t105.out) (.inr (Nat.le_refl _))
  have bel121 : Below w.heap.size w (World.drew W98) := below_drew bel104
  have t122 : Hid (W83.heap.size ≤ ((World.drew W98)).heap.size) := t105
  clear h99 h100 h101 h102 h103 bel104
  have le124 : Hid (W83.heap.size ≤ (World.drew W98).heap.size) := t122
  have t125 : Hid ((World.drew W98).heap.size ≤ (World.drew W98).heap.size) := Lib.hid (Nat.le_refl _)
  refine region_held_n 5 (fun w' => w'.cell? ⟨W64.heap.size, 0, none⟩ = some (.int .i64 x_aW.base) ∧ w'.cell? ⟨W64.heap.size, 1, none⟩ = some (.int .i64 x_aW.modulus) ∧ w'.cell? ⟨W64.heap.size, 2, none⟩ = some (.int .i64 x_aW.target) ∧ w'.cell? ⟨W64.heap.size, 3, none⟩ = some (.slice A67 x_aW.W.length c68) ∧ w'.cell? ⟨w.heap.size, 0, none⟩ = some (.int .i64 x_aW.base) ∧ w'.cell? ⟨w.heap.size, 1, none⟩ = some (.int .i64 x_aW.modulus) ∧ w'.cell? ⟨w.heap.size, 2, none⟩ = some (.int .i64 x_aW.target) ∧ w'.cell? ⟨w.heap.size, 3, none⟩ = some (.slice A_aW n_aW c_aW)) (by kernel_rfl) (by kernel_rfl) ⟨q107, q108, q109, q110, q112, q113, q114, q115⟩ (fun hS => ?_)
  refine takeD 0 (some 42) (v := ?_) rfl (by kernel_rfl) (by kernel_rfl) (by kernel_rfl) (fun _ _ _ h => h) hS (fun o ho => Or.inl ⟨by cases ho; rfl, ?_⟩) ?_
  rotate_left
  · cases ho
    intro w' hw'
    (try dsimp only at hw')
    go_simp
    (try with_reducible rfl)
  (try simp only [Act.put, List.setIfInBounds_toArray, List.set_cons_zero, List.set_cons_succ])
  refine takeD 1 (some 43) (v := ?_) rfl (by kernel_rfl) (by kernel_rfl) (by kernel_rfl) (fun _ _ _ h => h) hS (fun o ho => Or.inl ⟨by cases ho; rfl, ?_⟩) ?_
  rotate_left
  · cases ho
    intro w' hw'
    (try dsimp only at hw')
    go_simp
    (try with_reducible rfl)
  (try simp only [Act.put, List.setIfInBounds_toArray, List.set_cons_zero, List.set_cons_succ])
  refine oneD 2 (some 44) (by kernel_rfl) rfl (fun o ho K hK hdo => ?_)
  simp only [List.getElem?_toArray, List.getElem?_cons_succ, List.getElem?_cons_zero, Option.some.injEq] at ho
  subst ho
  clear hdo
  rw [if_pos (by rfl)]
  go_wp2_with ((go_at_call 30; (with_reducible refine (toWeighting_any x_aW _ _ _ _ (RowB.up (Held.now h116) (Nat.le_trans (Nat.le_trans (Nat.le_trans (Nat.le_trans (Nat.le_trans (Nat.le_trans (le9.out) le30.out) le45.out) le62.out) le78.out) le94.out) t122.out)) (Nat.le_refl _) H20.out).mono ?_); rintro e W126 ⟨A129, c130, rfl, o128, b127⟩))
  have h135 := Held.ran h116 (ran_below b127 _) (Nat.le_trans (Nat.le_trans (Nat.le_trans (Nat.le_trans (Nat.le_trans (Nat.le_trans (Nat.le_trans (le9.out) le30.out) le45.out) le62.out) le78.out) le94.out) le124.out) t125.out) (.inr (Nat.le_refl _))
  have h136 := Held.ran h117 (ran_below b127 _) (Nat.le_trans (Nat.le_trans (Nat.le_trans (Nat.le_trans (Nat.le_trans (Nat.le_trans (le30.out) le45.out) le62.out) le78.out) le94.out) le124.out) t125.out) (.inr (Nat.le_refl _))
  have h137 := Held.ran h118 (ran_below b127 _) (Nat.le_trans (Nat.le_trans (Nat.le_trans (Nat.le_trans (le62.out) le78.out) le94.out) le124.out) t125.out) (.inr (Nat.le_refl _))
  have h138 := Held.ran h119 (ran_below b127 _) (Nat.le_trans (Nat.le_trans (le94.out) le124.out) t125.out) (.inr (Nat.le_refl _))
  have h139 := Held.ran h120 (ran_below b127 _) (Nat.le_trans (le124.out) t125.out) (.inr (Nat.le_refl _))
  have bel140 : Below w.heap.size w W126 := Below.trans bel121 (Below.mono b127 (Nat.le_trans (Nat.le_trans (Nat.le_trans (Nat.le_trans (Nat.le_trans (Nat.le_trans (Nat.le_trans (le9.out) le30.out) le45.out) le62.out) le78.out) le94.out) le124.out) t125.out))
  have t141 : Hid ((World.drew W98).heap.size ≤ W126.heap.size) := Lib.hid (Nat.le_trans t125.out (Below.size b127))
  clear h116 h117 h118 h119 h120 bel121
  have le142 : Hid ((World.drew W98).heap.size ≤ W126.heap.size) := t141
  have t143 : Hid (W126.heap.size ≤ W126.heap.size) := Lib.hid (Nat.le_refl _)
  have fr144 := Own.from o128
  have lt145 := Own.lt o128
  have h146 := held_own o128 lt145
  clear o128 b127
  have bk147 := Held.now h139
  have q148 : W126.cell? ⟨W64.heap.size, 0, none⟩ = some (.int .i64 x_aW.base) := Blk.cell bk147 0
  have q149 : W126.cell? ⟨W64.heap.size, 1, none⟩ = some (.int .i64 x_aW.modulus) := Blk.cell bk147 1
  have q150 : W126.cell? ⟨W64.heap.size, 2, none⟩ = some (.int .i64 x_aW.target) := Blk.cell bk147 2
  have q151 : W126.cell? ⟨W64.heap.size, 3, none⟩ = some (.slice A67 x_aW.W.length c68) := Blk.cell bk147 3
  clear bk147
  have bk152 := Held.now h136
  have q153 : W126.cell? ⟨w.heap.size, 0, none⟩ = some (.int .i64 x_aW.base) := Blk.cell bk152 0
  have q154 : W126.cell? ⟨w.heap.size, 1, none⟩ = some (.int .i64 x_aW.modulus) := Blk.cell bk152 1
  have q155 : W126.cell? ⟨w.heap.size, 2, none⟩ = some (.int .i64 x_aW.target) := Blk.cell bk152 2
  have q156 : W126.cell? ⟨w.heap.size, 3, none⟩ = some (.slice A_aW n_aW c_aW) := Blk.cell bk152 3
  clear bk152
  refine hK.out _ _ ?_ (fun hS => ?_)
  · exact ⟨q148, q149, q150, q151, q153, q154, q155, q156⟩
  clear hK K
  (try simp only [Act.put, List.setIfInBounds_toArray, List.set_cons_zero, List.set_cons_succ])
  refine oneD 3 (some 45) (by kernel_rfl) rfl (fun o ho K hK hdo => ?_)
  simp only [List.getElem?_toArray, List.getElem?_cons_succ, List.getElem?_cons_zero, Option.some.injEq] at ho
  subst ho
  clear hdo
  rw [if_pos (by rfl)]
  go_wp2_with ((go_at_call 32; (with_reducible refine (eqWeighting_any x_aW _ _ _ _ _ _ (Own.row (Held.now h138)) (Own.row (Held.now h146)) (Nat.le_refl _) (Nat.le_refl _)).mono ?_); rintro e W158 ⟨rfl, b157⟩))
  have h159 := Held.ran h135 (ran_below b157 _) (Nat.le_trans (Nat.le_trans (Nat.le_trans (Nat.le_trans (Nat.le_trans (Nat.le_trans (Nat.le_trans (Nat.le_trans (le9.out) le30.out) le45.out) le62.out) le78.out) le94.out) le124.out) le142.out) t143.out) (.inr (Nat.le_refl _))
  have h160 := Held.ran h136 (ran_below b157 _) (Nat.le_trans (Nat.le_trans (Nat.le_trans (Nat.le_trans (Nat.le_trans (Nat.le_trans (Nat.le_trans (le30.out) le45.out) le62.out) le78.out) le94.out) le124.out) le142.out) t143.out) (.inr (Nat.le_refl _))
  have h161 := Held.ran h137 (ran_below b157 _) (Nat.le_trans (Nat.le_trans (Nat.le_trans (Nat.le_trans (Nat.le_trans (le62.out) le78.out) le94.out) le124.out) le142.out) t143.out) (.inr (Nat.le_refl _))
  have h162 := Held.ran h138 (ran_below b157 _) (Nat.le_trans (Nat.le_trans (Nat.le_trans (le94.out) le124.out) le142.out) t143.out) (.inr (Nat.le_refl _))
  have h163 := Held.ran h139 (ran_below b157 _) (Nat.le_trans (Nat.le_trans (le124.out) le142.out) t143.out) (.inr (Nat.le_refl _))
  have h164 := Held.ran h146 (ran_below b157 _) (Nat.le_refl _) (.inr (Nat.le_refl _))
  have bel165 : Below w.heap.size w W158 := Below.trans bel140 (Below.mono b157 (Nat.le_trans (Nat.le_trans (Nat.le_trans (Nat.le_trans (Nat.le_trans (Nat.le_trans (Nat.le_trans (Nat.le_trans (le9.out) le30.out) le45.out) le62.out) le78.out) le94.out) le124.out) le142.out) t143.out))
  have t166 : Hid (W126.heap.size ≤ W158.heap.size) := Lib.hid (Nat.le_trans t143.out (Below.size b157))
  clear h135 h136 h137 h138 h139 h146 bel140
  have bk167 := Held.now h163
  have q168 : W158.cell? ⟨W64.heap.size, 0, none⟩ = some (.int .i64 x_aW.base) := Blk.cell bk167 0
  have q169 : W158.cell? ⟨W64.heap.size, 1, none⟩ = some (.int .i64 x_aW.modulus) := Blk.cell bk167 1
  have q170 : W158.cell? ⟨W64.heap.size, 2, none⟩ = some (.int .i64 x_aW.target) := Blk.cell bk167 2
  have q171 : W158.cell? ⟨W64.heap.size, 3, none⟩ = some (.slice A67 x_aW.W.length c68) := Blk.cell bk167 3
  clear bk167
  have bk172 := Held.now h160
  have q173 : W158.cell? ⟨w.heap.size, 0, none⟩ = some (.int .i64 x_aW.base) := Blk.cell bk172 0
  have q174 : W158.cell? ⟨w.heap.size, 1, none⟩ = some (.int .i64 x_aW.modulus) := Blk.cell bk172 1
  have q175 : W158.cell? ⟨w.heap.size, 2, none⟩ = some (.int .i64 x_aW.target) := Blk.cell bk172 2
  have q176 : W158.cell? ⟨w.heap.size, 3, none⟩ = some (.slice A_aW n_aW c_aW) := Blk.cell bk172 3
  clear bk172
  clear b157
  refine hK.out _ _ ?_ (fun hS => ?_)
  · exact ⟨q168, q169, q170, q171, q173, q174, q175, q176⟩
  clear hK K
  (try simp only [Act.put, List.setIfInBounds_toArray, List.set_cons_zero, List.set_cons_succ])
  refine takeD 4 (some 46) (v := ?_) rfl (by kernel_rfl) (by kernel_rfl) (by kernel_rfl) (fun _ _ _ h => h) hS (fun o ho => Or.inl ⟨by cases ho; rfl, ?_⟩) ?_
  rotate_left
  · cases ho
    intro w' hw'
    (try dsimp only at hw')
    go_simp
    (try with_reducible rfl)
  (try simp only [Act.put, List.setIfInBounds_toArray, List.set_cons_zero, List.set_cons_succ])
  refine wpAnyH_done (by kernel_rfl) ?_ _
  clear hS
  clear q107 q108 q109 q110 q112 q113 q114 q115 q148 q149 q150 q151 q153 q154 q155 q156 q168 q169 q170 q171 q173 q174 q175 q176
  go_wp2_with fail
  go_ret
  exact ⟨rfl, bel165⟩
end Go.Proofs.Ytakkehjfdeghoab
