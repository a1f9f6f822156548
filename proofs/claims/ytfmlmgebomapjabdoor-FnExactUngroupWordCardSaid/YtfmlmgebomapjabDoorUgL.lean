/-
  The walk of the law of UngroupWord.
-/
import Derived.Test.YtfmlmgebomapjabDoorUgW
import Derived.Stop.Joined
namespace Go.Proofs.YtfmlmgebomapjabDoor
open Go Go.RowKit

theorem maxLen_held {W : World} (hS : W.ShapedOpen Tryd.prog) : ∃ m, W.cell? ⟨0, 0, none⟩ = some (.int .i64 m) := cell_of_shapedOpen_int (zero := #[.int .i64 0]) (t := 3) hS (of_decide_eq_true (by kernel_rfl)) (by kernel_rfl) rfl (by kernel_rfl) (by kernel_rfl) Tryd.underlying3
set_option maxRecDepth 100000 in
set_option maxHeartbeats 4000000 in
theorem ungroup_walkC (s : ByteArray) (A : Option Addr) (n c : Nat) (zs : List Int) (w : World) (hs : s.size ≤ maxLen) (h : Row .i64 w A n zs) (m0 : Int) (hm : w.cell? ⟨0, 0, none⟩ = some (.int .i64 m0)) :
    Calls Tryd.prog 3 #[.string s, .slice A n c] w fun e w' => e = .returned (.bool true) ∧ Below w.heap.size w w' := by
  have hs' := hs
  unfold maxLen at hs'
  have hn' := h.le
  have hgl := block_of_cell hm
  have HM := Lib.hid hm
  clear hm
  by_cases hla : 1048576 < s.size
  · go_enter Tryd.func3, Tryd.ntmps3
    go_wp2
    go_ret
    exact ⟨rfl, Below.refl _ _⟩
  · by_cases hlb : 1048576 < n
    · go_enter Tryd.func3, Tryd.ntmps3
      go_wp2
      go_ret
      exact ⟨rfl, Below.refl _ _⟩
    · have hn : n ≤ 1048576 := by omega
      have hsl : s.size ≤ 1048576 := by omega
      obtain ⟨u, ok, hu⟩ : ∃ u ok, ugV s zs = .returned (.tuple #[.string u, .bool ok]) := ⟨_, _, rfl⟩
      have HE := Lib.hid hu
      clear hu
      go_enter Tryd.func3, Tryd.ntmps3
      go_wp2_with fail
      (go_at_call 5; (with_reducible refine (toInt64S_any A n c zs _ h hn).mono ?_); rintro e w1 ⟨A1, c1, rfl, o1, b1⟩)
      have CS : Calls Tryd.prog 4 #[.string s, .slice A1 n c1] w1 fun e w' => e = .returned (.tuple #[.string u, .bool ok]) ∧ Below w1.heap.size w1 w' := (specUngroup_any s A1 n c1 zs w1 hsl o1.row (Nat.le_refl _) hn).mono fun e w' he => ⟨he.1.trans HE.out, he.2⟩
      have B1 := Lib.hid b1
      clear o1 b1
      go_wp2_with fail
      (go_at_call 4; (with_reducible refine (CS).mono ?_); rintro e w2 ⟨rfl, b2⟩)
      have B2 := Lib.hid (B1.out.trans (b2.mono B1.out.size))
      clear CS b2
      go_wp2_with fail
      (go_at_call 5; (with_reducible refine (toInt64S_any A n c zs _ ((h.below B2.out).up B2.out.size) hn).mono ?_); rintro e w3 ⟨A2, c2, rfl, o2, b3⟩)
      have B3 := Lib.hid (B2.out.trans (b3.mono B2.out.size))
      have R2 := Lib.hid o2.row
      clear o2 b3
      have CI : Calls Tryd.prog 6 #[.string s, .slice A2 n c2] w3 fun e w' => e = .returned (.tuple #[.string u, .bool ok]) ∧ Below w3.heap.size w3 w' := (implUngroup_any s A2 n c2 zs m0 w3 hsl R2.out (Nat.le_refl _) hn ((B3.out.cell (p := ⟨0, 0, none⟩) hgl).trans HM.out)).mono fun e w' he => ⟨he.1.trans HE.out, he.2⟩
      go_wp2_with fail
      (go_at_call 6; (with_reducible refine (CI).mono ?_); rintro e w4 ⟨rfl, b4⟩)
      have B4 := Lib.hid (B3.out.trans (b4.mono B3.out.size))
      have R3 := Lib.hid (R2.out.below b4)
      have S23 := b4.size
      clear CI b4
      have hbe : (ok != ok) = false := by simp
      go_wp2_with fail
      (go_at_call 5; (with_reducible refine (toInt64S_any A n c zs _ ((h.below B4.out).up B4.out.size) hn).mono ?_); rintro e w5 ⟨A3, c3, rfl, o3, b5⟩)
      have B5 := Lib.hid (B4.out.trans (b5.mono B4.out.size))
      have R4 := Lib.hid (R3.out.below (b5.mono S23))
      have R5 := Lib.hid o3.row
      clear o3 b5
      go_wp2_with fail
      (go_at_call 7; (with_reducible refine (eqInt64S_any A2 A3 n c2 c3 zs _ R4.out R5.out).mono ?_); rintro e w' ⟨rfl, m, rfl⟩)
      go_wp2_with fail
      go_ret
      exact ⟨rfl, below_drewN B5.out m⟩
theorem ungroup_walk (s : ByteArray) (A : Option Addr) (n c : Nat) (zs : List Int) (w : World) (hs : s.size ≤ maxLen) (h : Row .i64 w A n zs) (_ : laidMetH Tryd.prog Rows.fnExactUngroupWordRow.laid w) (hS : w.ShapedOpen Tryd.prog) :
    Calls Tryd.prog 3 #[.string s, .slice A n c] w fun e w' => e = .returned (.bool true) ∧ Below w.heap.size w w' := by
  obtain ⟨m, hm⟩ := maxLen_held hS
  exact ungroup_walkC s A n c zs w hs h m hm
end Go.Proofs.YtfmlmgebomapjabDoor
