/-
  The walk of the law of LinearTable.
-/
import Derived.Test.YtiokcflomchdcabLin
import Derived.Test.YtiokcflomchdcabT2
import Derived.Test.YtiokcflomchdcabHChain
import Derived.Test.YtiokcflomchdcabLast
import Derived.Deep.RegionHeld3
namespace Go.Proofs.Ytiokcflomchdcab
open Go.RowKit

set_option maxRecDepth 1000000 in
set_option maxHeartbeats 4000000 in
theorem lin_walk (i_aN : Int) (i_aA : Int) (i_aB : Int) (i_aC : Int) (w : World)  (w_aA : (Lit.int .i64 i_aA).wf = true) (w_aB : (Lit.int .i64 i_aB).wf = true) (w_aC : (Lit.int .i64 i_aC).wf = true) :
    Calls Try.prog 7 #[.int .i64 i_aN, .int .i64 i_aA, .int .i64 i_aB, .int .i64 i_aC] w fun e w' => e = .returned (.bool true) ∧ Below w.heap.size w w' := by
  have hR := linO_sum i_aN i_aA i_aB i_aC
  obtain ⟨o, ho⟩ : ∃ o, o = linO i_aN i_aA i_aB i_aC := ⟨_, rfl⟩
  have CS : ∀ W, Calls Try.prog 26 #[.int .i64 i_aN, .int .i64 i_aA, .int .i64 i_aB, .int .i64 i_aC] W (GotT o W) := fun W => by rw [ho]; exact specLin_any _ _ _ _ W
  have CI : ∀ W, Calls Try.prog 27 #[.int .i64 i_aN, .int .i64 i_aA, .int .i64 i_aB, .int .i64 i_aC] W (GotT o W) := fun W => by rw [ho]; exact implLin_any _ _ _ _ W w_aA w_aB w_aC
  rw [← ho] at hR
  clear ho
  have t0 : Hid (w.heap.size ≤ w.heap.size) := Lib.hid (Nat.le_refl _)
  have bel0 : Below w.heap.size w w := Below.refl _ _
  go_enter Try.func7, Try.ntmps7
  go_wp2_with fail
  (go_at_call 26; (with_reducible refine (CS _).mono ?_); rintro e W1 ⟨A4, c5, L6, rfl, o3, b2⟩)
  have bel10 : Below w.heap.size w W1 := Below.trans bel0 (Below.mono b2 (Nat.le_refl _))
  have t11 : Hid (w.heap.size ≤ W1.heap.size) := Lib.hid (Nat.le_trans t0.out (Below.size b2))
  clear bel0
  have le12 : Hid (w.heap.size ≤ W1.heap.size) := t11
  have t13 : Hid (W1.heap.size ≤ W1.heap.size) := Lib.hid (Nat.le_refl _)
  have fr14 := Own2.from o3
  have lt15 := Own2.lt o3
  have olt16 := Own2.olt o3
  have h17 := held_own2 o3 lt15 olt16
  have ln18 : (lens L6).sum ≤ 2000000 := by rw [Own2.lens o3]; exact (Nat.le_trans hR (by decide))
  clear o3 b2
  go_wp2_with fail
  (go_at_call 27; (with_reducible refine (CI _).mono ?_); rintro e W19 ⟨A22, c23, L24, rfl, o21, b20⟩)
  have h28 := Held.ran h17 (ran_below b20 _) (Nat.le_refl _) (.inr (Nat.le_refl _))
  have bel29 : Below w.heap.size w W19 := Below.trans bel10 (Below.mono b20 (Nat.le_trans (le12.out) t13.out))
  have t30 : Hid (W1.heap.size ≤ W19.heap.size) := Lib.hid (Nat.le_trans t13.out (Below.size b20))
  clear h17 bel10
  have le31 : Hid (W1.heap.size ≤ W19.heap.size) := t30
  have t32 : Hid (W19.heap.size ≤ W19.heap.size) := Lib.hid (Nat.le_refl _)
  have fr33 := Own2.from o21
  have lt34 := Own2.lt o21
  have olt35 := Own2.olt o21
  have h36 := held_own2 o21 lt34 olt35
  have ln37 : (lens L24).sum ≤ 2000000 := by rw [Own2.lens o21]; exact (Nat.le_trans hR (by decide))
  clear o21 b20
  go_wp2_with fail
  (go_at_call 17; (with_reducible refine (eqInt64SS_any _ _ _ _ _ _ _ (Own2.row (Held.now h36)) (Own2.row (Held.now h28))).mono ?_); rintro e w' ⟨rfl, m38, rfl⟩)
  have h39 := Held.ran h28 (ran_drewN W19 m38 _) (Nat.le_trans (le31.out) t32.out) (.inr (Nat.le_refl _))
  have h40 := Held.ran h36 (ran_drewN W19 m38 _) (Nat.le_refl _) (.inr (Nat.le_refl _))
  have bel41 : Below w.heap.size w (World.drewN W19 m38) := below_drewN bel29 m38
  have t42 : Hid (W19.heap.size ≤ ((World.drewN W19 m38)).heap.size) := t32
  clear h28 h36 bel29
  go_wp2_with fail
  (go_at_call 18; (with_reducible refine (mark2_any _ _ _ 1 1 (by omega) _ _ _ (Held.now h40) (by omega)).mono ?_); rintro e W45 ⟨rfl, o43, k44⟩)
  have r46 := ran_onlyL k44 fr33 lt34
  have h47 := Held.ran h39 (r46) (Nat.le_trans (le31.out) t42.out) (.inr (Nat.le_refl _))
  have bel48 : Below w.heap.size w W45 := Below.trans bel41 (Ran.below r46 (le12.out) (Nat.le_trans (Nat.le_trans (le12.out) le31.out) t42.out))
  have t49 : Hid (W19.heap.size ≤ W45.heap.size) := Lib.hid (Nat.le_trans t42.out (Ran.size r46))
  clear h39 bel41
  have h50 := held_own2 o43 lt34 olt35
  clear o43 h40 r46
  go_wp2_with fail
  (go_at_call 19; (with_reducible refine (held2_any _ _ _ 1 1 (by omega) _ _ (Own2.row (Held.now h50)) (by omega)).mono ?_); rintro e w' ⟨rfl, rfl⟩)
  go_wp2_with fail
  have le51 : Hid (W19.heap.size ≤ W45.heap.size) := t49
  have t52 : Hid (W45.heap.size ≤ W45.heap.size) := Lib.hid (Nat.le_refl _)
  (go_at_call 27; (with_reducible refine (CI _).mono ?_); rintro e W53 ⟨A56, c57, L58, rfl, o55, b54⟩)
  have h62 := Held.ran h47 (ran_below b54 _) (Nat.le_trans (Nat.le_trans (le31.out) le51.out) t52.out) (.inr (Nat.le_refl _))
  have h63 := Held.ran h50 (ran_below b54 _) (Nat.le_trans (le51.out) t52.out) (.inr (Nat.le_refl _))
  have bel64 : Below w.heap.size w W53 := Below.trans bel48 (Below.mono b54 (Nat.le_trans (Nat.le_trans (Nat.le_trans (le12.out) le31.out) le51.out) t52.out))
  have t65 : Hid (W45.heap.size ≤ W53.heap.size) := Lib.hid (Nat.le_trans t52.out (Below.size b54))
  clear h47 h50 bel48
  have le66 : Hid (W45.heap.size ≤ W53.heap.size) := t65
  have t67 : Hid (W53.heap.size ≤ W53.heap.size) := Lib.hid (Nat.le_refl _)
  have fr68 := Own2.from o55
  have lt69 := Own2.lt o55
  have olt70 := Own2.olt o55
  have h71 := held_own2 o55 lt69 olt70
  have ln72 : (lens L58).sum ≤ 2000000 := by rw [Own2.lens o55]; exact (Nat.le_trans hR (by decide))
  clear o55 b54
  go_wp2_with fail
  (go_at_call 17; (with_reducible refine (eqInt64SS_any _ _ _ _ _ _ _ (Own2.row (Held.now h71)) (Own2.row (Held.now h62))).mono ?_); rintro e w' ⟨rfl, m73, rfl⟩)
  have h74 := Held.ran h62 (ran_drewN W53 m73 _) (Nat.le_trans (Nat.le_trans (Nat.le_trans (le31.out) le51.out) le66.out) t67.out) (.inr (Nat.le_refl _))
  have h75 := Held.ran h63 (ran_drewN W53 m73 _) (Nat.le_trans (Nat.le_trans (le51.out) le66.out) t67.out) (.inr (Nat.le_refl _))
  have h76 := Held.ran h71 (ran_drewN W53 m73 _) (Nat.le_refl _) (.inr (Nat.le_refl _))
  have bel77 : Below w.heap.size w (World.drewN W53 m73) := below_drewN bel64 m73
  have t78 : Hid (W53.heap.size ≤ ((World.drewN W53 m73)).heap.size) := t67
  clear h62 h63 h71 bel64
  go_wp2_with fail
  (go_at_call 19; (with_reducible refine (held2_any _ _ _ 1 1 (by omega) _ _ (Own2.row (Held.now h75)) (by omega)).mono ?_); rintro e w' ⟨rfl, rfl⟩)
  go_wp2_with fail
  go_ret
  exact ⟨rfl, bel77⟩
end Go.Proofs.Ytiokcflomchdcab
