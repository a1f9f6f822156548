/-
  The walk of the law of GroupWord.
-/
import Derived.Test.YtfmlmgebomapjabGwI
namespace Go.Proofs.Ytfmlmgebomapjab
open Go.RowKit

set_option maxRecDepth 100000 in
set_option maxHeartbeats 4000000 in
theorem group_walk (s : ByteArray) (A : Option Addr) (n c : Nat) (zs : List Int) (w : World) (hs : s.size ≤ maxLen) (h : Row .i64 w A n zs) :
    Calls Try.prog 7 #[.string s, .slice A n c] w fun e w' => e = .returned (.bool true) ∧ Below w.heap.size w w' := by
  have hs' := hs
  unfold maxLen at hs'
  have hn' := h.le
  by_cases hla : 1048576 < s.size
  · go_enter Try.func7, Try.ntmps7
    go_wp2
    go_ret
    exact ⟨rfl, Below.refl _ _⟩
  · by_cases hlb : 1048576 < n
    · go_enter Try.func7, Try.ntmps7
      go_wp2
      go_ret
      exact ⟨rfl, Below.refl _ _⟩
    · have hn : n ≤ 1048576 := by omega
      obtain ⟨u, hu⟩ : ∃ u, u = gwT s zs := ⟨_, rfl⟩
      obtain ⟨ok, hok⟩ : ∃ ok, ok = gwOk s zs := ⟨_, rfl⟩
      have HE : Hid (gw2 s zs = .returned (.tuple #[.string u, .bool ok])) := Lib.hid (by unfold gw2; rw [hu, hok])
      clear hu hok
      go_enter Try.func7, Try.ntmps7
      go_wp2_with fail
      (go_at_call 20; (with_reducible refine (toInt64S_any A n c zs _ h hn).mono ?_); rintro e w1 ⟨A1, c1, rfl, o1, b1⟩)
      have CS : Calls Try.prog 19 #[.string s, .slice A1 n c1] w1 fun e w' => e = .returned (.tuple #[.string u, .bool ok]) ∧ w1 = w' := (specGroup_any s A1 n c1 zs w1 hs o1.row hn).mono fun e w' he => ⟨he.1.trans HE.out, he.2⟩
      have B1 := Lib.hid b1
      clear o1 b1
      go_wp2_with fail
      (go_at_call 19; (with_reducible refine (CS).mono ?_); rintro e w' ⟨rfl, rfl⟩)
      clear CS
      go_wp2_with fail
      (go_at_call 20; (with_reducible refine (toInt64S_any A n c zs _ ((h.below B1.out).up B1.out.size) hn).mono ?_); rintro e w2 ⟨A2, c2, rfl, o2, b2⟩)
      have B2 := Lib.hid (B1.out.trans (b2.mono B1.out.size))
      have R2 := Lib.hid o2.row
      clear o2 b2
      have CI : Calls Try.prog 21 #[.string s, .slice A2 n c2] w2 fun e w' => e = .returned (.tuple #[.string u, .bool ok]) ∧ Below w2.heap.size w2 w' := (implGroup_any s A2 n c2 zs w2 hs R2.out (Nat.le_refl _) hn).mono fun e w' he => ⟨he.1.trans HE.out, he.2⟩
      go_wp2_with fail
      (go_at_call 21; (with_reducible refine (CI).mono ?_); rintro e w3 ⟨rfl, b3⟩)
      have B3 := Lib.hid (B2.out.trans (b3.mono B2.out.size))
      have R3 := Lib.hid (R2.out.below b3)
      have S23 := b3.size
      clear CI b3
      have hbe : (ok != ok) = false := by simp
      go_wp2_with fail
      (go_at_call 20; (with_reducible refine (toInt64S_any A n c zs _ ((h.below B3.out).up B3.out.size) hn).mono ?_); rintro e w4 ⟨A3, c3, rfl, o3, b4⟩)
      have B4 := Lib.hid (B3.out.trans (b4.mono B3.out.size))
      have R4 := Lib.hid (R3.out.below (b4.mono S23))
      have R5 := Lib.hid o3.row
      clear o3 b4
      go_wp2_with fail
      (go_at_call 22; (with_reducible refine (eqInt64S_any A2 A3 n c2 c3 zs _ R4.out R5.out).mono ?_); rintro e w' ⟨rfl, m, rfl⟩)
      go_wp2_with fail
      go_ret
      exact ⟨rfl, below_drewN B4.out m⟩
end Go.Proofs.Ytfmlmgebomapjab
