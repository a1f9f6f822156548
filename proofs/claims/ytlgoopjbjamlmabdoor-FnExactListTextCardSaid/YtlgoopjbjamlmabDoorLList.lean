/-
  The walk of the law of ListText.
-/
import Derived.Test.YtlgoopjbjamlmabDoorList
namespace Go.Proofs.YtlgoopjbjamlmabDoor
open Go.RowKit

theorem tab_under {w w' : World} (h : Tab w) (hb : Below w.heap.size w w') : Tab w' :=
  Go.Joins.tab_stays (g := 1) (by kernel_rfl) h hb (Nat.le_refl _)
theorem list_tab {W : World} (hL : laidMetH Tryd.prog Rows.fnExactListTextRow.laid W) : Tab W := by
  rw [MakeChecks.laidMetH_plain _ _ _ (by kernel_rfl)] at hL
  have h3 : laidMet Tryd.prog [("internal/strconv.uint64pow10", Rows.laid_internal_strconv_uint64pow10), ("bytes.ErrTooLarge", Rows.laid_bytes_ErrTooLarge)] W := laidMet.tail (laidMet.tail hL)
  exact Lib.tabIs_of_head (g := 1) (t := 84) (e := 67) (n := 20) (by kernel_rfl) (by kernel_rfl) Tryd.underlying84 Tryd.underlying67 (by kernel_rfl) (by kernel_rfl) h3

set_option maxRecDepth 1000000 in
set_option maxHeartbeats 2000000 in
theorem listText_walk (A_aList : Option Addr) (n_aList c_aList : Nat) (z_aList : List Int) (w : World) (h_aList : Row .i64 w A_aList n_aList z_aList) (hL : laidMetH Tryd.prog Rows.fnExactListTextRow.laid w) :
    Calls Tryd.prog 3 #[.slice A_aList n_aList c_aList] w fun e w' => e = .returned (.bool true) ∧ Below w.heap.size w w' := by
  have le_aList := RowB.le h_aList
  by_cases big_aList : 1048576 < n_aList
  · go_enter Tryd.func3, Tryd.ntmps3
    go_wp2
    go_ret
    exact ⟨rfl, Below.refl _ _⟩
  have HT := Lib.hid (list_tab hL)
  clear hL
  have s_w : Hid (w.heap.size ≤ w.heap.size) := Lib.hid (Nat.le_refl _)
  have bel0 : Below w.heap.size w w := Below.refl _ _
  go_enter Tryd.func3, Tryd.ntmps3
  have t2 : Hid (w.heap.size ≤ w.heap.size) := Lib.hid (Nat.le_refl _)
  go_wp2_with fail
  (go_at_call 6; (with_reducible refine (toInt64S_any _ _ _ _ _ (RowB.up h_aList s_w.out) (by omega)).mono ?_); rintro e W7 ⟨A3, c4, rfl, o5, b6⟩)
  have t8 : Hid (w.heap.size ≤ W7.heap.size) := Lib.hid (Nat.le_trans t2.out b6.size)
  have sz9 := b6.size
  have bel10 : Below w.heap.size w W7 := bel0.trans (b6.mono s_w.out)
  have s11 : Hid (w.heap.size ≤ W7.heap.size) := Lib.hid (Nat.le_trans s_w.out sz9)
  have r12 := RowB.below h_aList (b6.mono s_w.out)
  have s13 : Hid (w.heap.size ≤ W7.heap.size) := Lib.hid (Nat.le_trans s_w.out sz9)
  clear sz9
  have fr14 := o5.from
  have lt15 := o5.lt
  have sb16 : Hid (w.heap.size ≤ w.heap.size) := Lib.hid (Nat.le_refl _)
  have le17 : Hid (w.heap.size ≤ W7.heap.size) := t8
  have t18 : Hid (W7.heap.size ≤ W7.heap.size) := Lib.hid (Nat.le_refl _)
  go_wp2_with fail
  (go_at_call 5; (with_reducible refine (specList_any _ _ _ _ _ (Own.row o5) (Nat.le_refl _)).mono ?_); rintro e W20 ⟨rfl, b19⟩)
  have t21 : Hid (W7.heap.size ≤ W20.heap.size) := Lib.hid (Nat.le_trans t18.out b19.size)
  have sz22 := b19.size
  have bel23 : Below w.heap.size w W20 := bel10.trans (b19.mono s11.out)
  have s24 : Hid (w.heap.size ≤ W20.heap.size) := Lib.hid (Nat.le_trans s11.out sz22)
  have r25 := RowB.below r12 (b19.mono s13.out)
  have s26 : Hid (w.heap.size ≤ W20.heap.size) := Lib.hid (Nat.le_trans s13.out sz22)
  have o27 := Own.below o5 b19
  clear sz22
  have le28 : Hid (W7.heap.size ≤ W20.heap.size) := t21
  have t29 : Hid (W20.heap.size ≤ W20.heap.size) := Lib.hid (Nat.le_refl _)
  go_wp2_with fail
  (go_at_call 6; (with_reducible refine (toInt64S_any _ _ _ _ _ (RowB.up r25 s26.out) (by omega)).mono ?_); rintro e W34 ⟨A30, c31, rfl, o32, b33⟩)
  have t35 : Hid (W20.heap.size ≤ W34.heap.size) := Lib.hid (Nat.le_trans t29.out b33.size)
  have sz36 := b33.size
  have bel37 : Below w.heap.size w W34 := bel23.trans (b33.mono s24.out)
  have s38 : Hid (w.heap.size ≤ W34.heap.size) := Lib.hid (Nat.le_trans s24.out sz36)
  have r39 := RowB.below r25 (b33.mono s26.out)
  have s40 : Hid (w.heap.size ≤ W34.heap.size) := Lib.hid (Nat.le_trans s26.out sz36)
  have o41 := Own.below o27 b33
  clear sz36
  have fr42 := o32.from
  have lt43 := o32.lt
  have sb44 : Hid (w.heap.size ≤ W20.heap.size) := Lib.hid (Nat.le_trans le17.out le28.out)
  have le45 : Hid (W20.heap.size ≤ W34.heap.size) := t35
  have t46 : Hid (W34.heap.size ≤ W34.heap.size) := Lib.hid (Nat.le_refl _)
  go_wp2_with fail
  (go_at_call 7; (with_reducible refine (implList_any _ _ _ _ _ (Own.row o32) (tab_under HT.out bel37)).mono ?_); rintro e W48 ⟨rfl, b47⟩)
  have t49 : Hid (W34.heap.size ≤ W48.heap.size) := Lib.hid (Nat.le_trans t46.out b47.size)
  have sz50 := b47.size
  have bel51 : Below w.heap.size w W48 := bel37.trans (b47.mono s38.out)
  have s52 : Hid (w.heap.size ≤ W48.heap.size) := Lib.hid (Nat.le_trans s38.out sz50)
  have r53 := RowB.below r39 (b47.mono s40.out)
  have s54 : Hid (w.heap.size ≤ W48.heap.size) := Lib.hid (Nat.le_trans s40.out sz50)
  have o55 := Own.below o41 b47
  have o56 := Own.below o32 b47
  clear sz50
  have le58 : Hid (W34.heap.size ≤ W48.heap.size) := t49
  have t59 : Hid (W48.heap.size ≤ W48.heap.size) := Lib.hid (Nat.le_refl _)
  go_wp2_with fail
  (go_at_call 6; (with_reducible refine (toInt64S_any _ _ _ _ _ (RowB.up r53 s54.out) (by omega)).mono ?_); rintro e W64 ⟨A60, c61, rfl, o62, b63⟩)
  have t65 : Hid (W48.heap.size ≤ W64.heap.size) := Lib.hid (Nat.le_trans t59.out b63.size)
  have sz66 := b63.size
  have bel67 : Below w.heap.size w W64 := bel51.trans (b63.mono s52.out)
  have s68 : Hid (w.heap.size ≤ W64.heap.size) := Lib.hid (Nat.le_trans s52.out sz66)
  have r69 := RowB.below r53 (b63.mono s54.out)
  have s70 : Hid (w.heap.size ≤ W64.heap.size) := Lib.hid (Nat.le_trans s54.out sz66)
  have o71 := Own.below o55 b63
  have o72 := Own.below o56 b63
  clear sz66
  have fr73 := o62.from
  have lt74 := o62.lt
  have sb75 : Hid (w.heap.size ≤ W48.heap.size) := Lib.hid (Nat.le_trans (Nat.le_trans (Nat.le_trans le17.out le28.out) le45.out) le58.out)
  have le76 : Hid (W48.heap.size ≤ W64.heap.size) := t65
  have t77 : Hid (W64.heap.size ≤ W64.heap.size) := Lib.hid (Nat.le_refl _)
  go_wp2_with fail
  (go_at_call 8; (with_reducible refine (eqInt64S_any _ _ _ _ _ _ _ (Own.row o72) (Own.row o62)).mono ?_); rintro e w' ⟨rfl, m78, rfl⟩)
  have t79 : Hid (W64.heap.size ≤ ((World.drewN W64 m78)).heap.size) := t77
  have bel80 : Below w.heap.size w (World.drewN W64 m78) := below_drewN bel67 m78
  have s81 : Hid (w.heap.size ≤ ((World.drewN W64 m78)).heap.size) := s68
  have r82 := RowB.drewN r69 m78
  have s83 : Hid (w.heap.size ≤ ((World.drewN W64 m78)).heap.size) := s70
  have o84 := Own.drewN o71 m78
  have o85 := Own.drewN o72 m78
  have o86 := Own.drewN o62 m78
  go_wp2_with fail
  go_ret
  exact ⟨rfl, bel80⟩
end Go.Proofs.YtlgoopjbjamlmabDoor
