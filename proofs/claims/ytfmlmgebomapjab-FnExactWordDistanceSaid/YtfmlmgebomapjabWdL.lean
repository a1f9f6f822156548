/-
  The distance of two texts, of both sides, and the law's walk.
-/
import Derived.Test.YtfmlmgebomapjabWdS
import Derived.Test.YtfmlmgebomapjabWdI
import Derived.Test.YtfmlmgebomapjabLow
namespace Go.Proofs.Ytfmlmgebomapjab
open Go.RowKit

def wdOk (a b : ByteArray) : Bool := hearB a && hearB b
def wdV (a b : ByteArray) : Int := if wdOk a b = true then ((lev false a.data.toList b.data.toList : Nat) : Int) else 0
set_option maxHeartbeats 1000000 in
theorem specWord_any (a b : ByteArray) (w : World) (ha : a.size ≤ maxLen) (hb : b.size ≤ maxLen) :
    Calls Try.prog 8 #[.string a, .string b] w fun e w' => e = two (wdV a b) (wdOk a b) ∧ Below w.heap.size w w' := by
  have C1 := fun W => l07Letters_any a 20 20 rfl W ha
  have C2 := fun W => l07Letters_any b 20 20 rfl W hb
  simp only [lett_20] at C1 C2
  rcases hwa : hearB a with _ | _
  · have H : Hid (wdOk a b = false) := Lib.hid (by simp [wdOk, hwa])
    rw [hwa] at C1
    clear hwa
    go_enter Try.func8, Try.ntmps8
    go_wp2_with (first | (go_at_call 23; (with_reducible refine (C1 _).mono ?_); rintro e w' ⟨rfl, rfl⟩) | (go_at_call 23; (with_reducible refine (C2 _).mono ?_); rintro e w' ⟨rfl, rfl⟩))
    go_ret2
    exact ⟨two_eq (by simp [wdV, H.out]) H.out.symm, Below.refl _ _⟩
  · rcases hwb : hearB b with _ | _
    · have H : Hid (wdOk a b = false) := Lib.hid (by simp [wdOk, hwb])
      rw [hwa] at C1
      rw [hwb] at C2
      clear hwa hwb
      go_enter Try.func8, Try.ntmps8
      go_wp2_with (first | (go_at_call 23; (with_reducible refine (C1 _).mono ?_); rintro e w' ⟨rfl, rfl⟩) | (go_at_call 23; (with_reducible refine (C2 _).mono ?_); rintro e w' ⟨rfl, rfl⟩))
      go_ret2
      exact ⟨two_eq (by simp [wdV, H.out]) H.out.symm, Below.refl _ _⟩
    · have H : Hid (wdOk a b = true) := Lib.hid (by simp [wdOk, hwa, hwb])
      have CD := fun W => l07Distance_any a b W (hear_size hwa) (hear_size hwb)
      rw [hwa] at C1
      rw [hwb] at C2
      clear hwa hwb
      go_enter Try.func8, Try.ntmps8
      go_wp2_with (first | (go_at_call 23; (with_reducible refine (C1 _).mono ?_); rintro e w' ⟨rfl, rfl⟩) | (go_at_call 23; (with_reducible refine (C2 _).mono ?_); rintro e w' ⟨rfl, rfl⟩) | (go_at_call 24; (with_reducible refine (CD _).mono ?_); rintro e w1 ⟨rfl, b1⟩))
      go_ret2
      exact ⟨two_eq (by unfold wdV; rw [if_pos H.out]) H.out.symm, b1⟩
set_option maxHeartbeats 1000000 in
theorem implWord_any (a b : ByteArray) (w : World) (ha : a.size ≤ maxLen) (hb : b.size ≤ maxLen) :
    Calls Try.prog 9 #[.string a, .string b] w fun e w' => e = two (wdV a b) (wdOk a b) ∧ Below w.heap.size w w' := by
  have C1 := fun W => isHeard_any a W ha
  have C2 := fun W => isHeard_any b W hb
  rcases hwa : hearB a with _ | _
  · have H : Hid (wdOk a b = false) := Lib.hid (by simp [wdOk, hwa])
    rw [hwa] at C1
    clear hwa
    go_enter Try.func9, Try.ntmps9
    go_wp2_with (go_at_call 25; (with_reducible refine (C1 _).mono ?_); rintro e w1 ⟨rfl, b1⟩)
    go_ret2
    exact ⟨two_eq (by simp [wdV, H.out]) H.out.symm, b1⟩
  · rcases hwb : hearB b with _ | _
    · have H : Hid (wdOk a b = false) := Lib.hid (by simp [wdOk, hwb])
      rw [hwa] at C1
      rw [hwb] at C2
      clear hwa hwb
      go_enter Try.func9, Try.ntmps9
      go_wp2_with fail
      (go_at_call 25; (with_reducible refine (C1 _).mono ?_); rintro e w1 ⟨rfl, b1⟩)
      go_wp2_with fail
      (go_at_call 25; (with_reducible refine (C2 _).mono ?_); rintro e w2 ⟨rfl, b2⟩)
      have B2 := Lib.hid (b1.trans (b2.mono b1.size))
      clear b1 b2
      go_wp2_with fail
      go_ret2
      exact ⟨two_eq (by simp [wdV, H.out]) H.out.symm, B2.out⟩
    · have H : Hid (wdOk a b = true) := Lib.hid (by simp [wdOk, hwa, hwb])
      have CD := fun W => edits_any a b W (hear_size hwa) (hear_size hwb)
      rw [hwa] at C1
      rw [hwb] at C2
      clear hwa hwb
      go_enter Try.func9, Try.ntmps9
      go_wp2_with fail
      (go_at_call 25; (with_reducible refine (C1 _).mono ?_); rintro e w1 ⟨rfl, b1⟩)
      go_wp2_with fail
      (go_at_call 25; (with_reducible refine (C2 _).mono ?_); rintro e w2 ⟨rfl, b2⟩)
      have B2 := Lib.hid (b1.trans (b2.mono b1.size))
      clear b1 b2
      go_wp2_with fail
      (go_at_call 26; (with_reducible refine (CD _).mono ?_); rintro e w3 ⟨rfl, b3⟩)
      have B3 := Lib.hid (B2.out.trans (b3.mono B2.out.size))
      clear b3
      go_wp2_with fail
      go_ret2
      exact ⟨two_eq (by unfold wdV; rw [if_pos H.out]) H.out.symm, B3.out⟩
set_option maxHeartbeats 1000000 in
theorem word_walk (a b : ByteArray) (w : World) (hsa : a.size ≤ maxLen) (hsb : b.size ≤ maxLen) :
    Calls Try.prog 3 #[.string a, .string b] w fun e w' => e = .returned (.bool true) ∧ Below w.heap.size w w' := by
  have ha' := hsa
  have hb' := hsb
  unfold maxLen at ha' hb'
  by_cases hla : 1048576 < a.size
  · go_enter Try.func3, Try.ntmps3
    go_wp2
    go_ret
    exact ⟨rfl, Below.refl _ _⟩
  · by_cases hlb : 1048576 < b.size
    · go_enter Try.func3, Try.ntmps3
      go_wp2
      go_ret
      exact ⟨rfl, Below.refl _ _⟩
    · go_enter Try.func3, Try.ntmps3
      go_wp2_with fail
      (go_at_call 8; (with_reducible refine (specWord_any _ _ _ hsa hsb).mono ?_); rintro e w1 ⟨rfl, b1⟩)
      go_wp2_with fail
      (go_at_call 9; (with_reducible refine (implWord_any _ _ _ hsa hsb).mono ?_); rintro e w2 ⟨rfl, b2⟩)
      have hbel := Lib.hid (b1.trans (b2.mono b1.size))
      go_wp2_with fail
      go_ret
      exact ⟨rfl, hbel.out⟩
end Go.Proofs.Ytfmlmgebomapjab
