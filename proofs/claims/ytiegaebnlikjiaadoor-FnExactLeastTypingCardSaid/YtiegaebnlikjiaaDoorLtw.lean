/-
  The walk of the law of LeastTyping.
-/
import Derived.Test.YtiegaebnlikjiaaDoorLti
namespace Go.Proofs.YtiegaebnlikjiaaDoor
open Go Go.RowKit

theorem least_held {W : World} (hL : laidMetH Tryd.prog Rows.fnExactLeastTypingRow.laid W) : HeldM W := by
  rw [MakeChecks.laidMetH_plain _ _ _ (by kernel_rfl)] at hL
  exact moves_held (rest := []) hL
theorem OwnS.cap {B n c : Nat} {w : World} {A : Option Addr} {ss : List ByteArray} (h : OwnS B w A n c ss) : n ≤ c := by
  rcases ownsRow_form h.1 with ⟨_, h0, _⟩ | ⟨_, _, _, _, h1, _⟩ <;> omega
set_option maxRecDepth 100000 in
set_option maxHeartbeats 4000000 in
theorem least_walkL (A : Option Addr) (n c : Nat) (ss : List ByteArray) (w : World) (h : SRow w.heap.size w A n ss) (hL : laidMetH Tryd.prog Rows.fnExactLeastTypingRow.laid w) :
    Calls Tryd.prog 7 #[.slice A n c] w fun e w' => e = .returned (.bool true) ∧ Below w.heap.size w w' := by
  have hM := Lib.hid (least_held hL)
  have hle := h.le
  have CZ := szStringS_any A n c ss 1048576 w h (by omega) (by omega)
  clear hL
  go_enter Tryd.func7, Tryd.ntmps7
  go_wp2_with fail
  (go_at_call 17; (with_reducible refine (CZ).mono ?_); rintro e w0 ⟨⟨z, rfl, hz⟩, rfl⟩)
  by_cases hneg : z < 0
  · go_wp2_with fail
    go_ret
    exact ⟨rfl, Below.refl _ _⟩
  · have hn := hz (by omega)
    have hnn : n ≤ 1048576 := by omega
    clear hz CZ
    go_wp2_with fail
    (go_at_call 19; (with_reducible refine (toStringS_any A n c ss _ h (Nat.le_refl _) hnn).mono ?_); rintro e w1 ⟨A1, c1, rfl, o1, b1⟩)
    go_wp2_with fail
    (go_at_call 18; (with_reducible refine (specLeast_any A1 n c1 ss _ o1.row (Nat.le_refl _)).mono ?_); rintro e w2 ⟨rfl, b2⟩)
    have B2 := Lib.hid (b1.trans (b2.mono b1.size))
    clear o1 b1 b2
    go_wp2_with fail
    (go_at_call 19; (with_reducible refine (toStringS_any A n c ss _ (h.below B2.out) B2.out.size hnn).mono ?_); rintro e w3 ⟨A2, c2, rfl, o2, b3⟩)
    have B3 := Lib.hid (B2.out.trans (b3.mono B2.out.size))
    have R2 := Lib.hid o2.row
    have hcap := o2.cap
    clear o2 b3
    go_wp2_with fail
    (go_at_call 20; (with_reducible refine (implLeast_any A2 n c2 ss _ (hM.out.up B3.out) R2.out (Nat.le_refl _) hcap).mono ?_); rintro e w4 ⟨rfl, b4⟩)
    have B4 := Lib.hid (B3.out.trans (b4.mono B3.out.size))
    have R4 := Lib.hid (R2.out.below b4)
    have S34 := b4.size
    clear b4
    go_wp2_with fail
    (go_at_call 19; (with_reducible refine (toStringS_any A n c ss _ (h.below B4.out) B4.out.size hnn).mono ?_); rintro e w5 ⟨A3, c3, rfl, o3, b5⟩)
    have B5 := Lib.hid (B4.out.trans (b5.mono B4.out.size))
    have R5 := Lib.hid (R4.out.below (b5.mono S34))
    have R6 := Lib.hid o3.row
    clear o3 b5
    go_wp2_with fail
    (go_at_call 21; (with_reducible refine (eqStringS_any A2 A3 n c2 c3 ss _ R5.out R6.out).mono ?_); rintro e w' ⟨rfl, m, rfl⟩)
    go_wp2_with fail
    go_ret
    exact ⟨rfl, below_drewN B5.out m⟩
end Go.Proofs.YtiegaebnlikjiaaDoor
