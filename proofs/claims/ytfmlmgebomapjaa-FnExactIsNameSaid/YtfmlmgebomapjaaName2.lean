/-
  Contracts of IsName, of the program and of the model: both say whether a text has one to eight bytes, each from a to z.
-/
import Derived.Test.YtfmlmgebomapjaaLow
namespace Go.Proofs.Ytfmlmgebomapjaa
open Go.RowKit

def nameB (s : ByteArray) : Bool := decide (1 ≤ s.size ∧ s.size ≤ 8) && letB s
theorem low_bad {s : ByteArray} {k : Nat} (h : k < s.size) (hl : lowB s[k] = false) : nameB s = false := by
  simp [nameB, let_bad h hl]
theorem low_all {s : ByteArray} (ha : (s.data.toList.take s.size).all lowB = true) : nameB s = decide (1 ≤ s.size ∧ s.size ≤ 8) := by
  simp [nameB, let_all ha]

set_option maxHeartbeats 400000 in
theorem implName_any (s : ByteArray) (w : World) (hs : s.size ≤ maxLen) :
    Calls Try.prog 8 #[.string s] w fun e w' => e = .returned (.bool (nameB s)) ∧ Below w.heap.size w w' := by
  have CA := fun W => areLetters_any s W hs
  unfold maxLen at hs
  rcases h1 : inB s.size 1 8 with _ | _
  · have H : Hid (nameB s = false) := Lib.hid (by have := inB_false.1 h1; simp [nameB]; omega)
    go_enter Try.func8, Try.ntmps8
    go_wp2_with (go_at_call 17; (with_reducible refine (withinInt_any _ _ _ _).mono ?_); rintro e w' ⟨rfl, rfl⟩)
    go_ret
    exact ⟨ret_bool H.out.symm, Below.refl _ _⟩
  · have H : Hid (nameB s = letB s) := Lib.hid (by have := inB_true.1 h1; simp [nameB]; omega)
    go_enter Try.func8, Try.ntmps8
    go_wp2_with (first | (go_at_call 17; (with_reducible refine (withinInt_any _ _ _ _).mono ?_); rintro e w' ⟨rfl, rfl⟩) | (go_at_call 18; (with_reducible refine (CA _).mono ?_); rintro e w1 ⟨rfl, b1⟩))
    go_ret
    exact ⟨ret_bool H.out.symm, b1⟩

set_option maxHeartbeats 400000 in
theorem specName_any (s : ByteArray) (w : World) (hs : s.size ≤ maxLen) :
    Calls Try.prog 7 #[.string s] w fun e w' => e = .returned (.bool (nameB s)) ∧ w = w' := by
  unfold maxLen at hs
  go_enter Try.func7, Try.ntmps7
  go_wp2
  go_loop [3] (fun i => ∃ k : Nat, k ≤ s.size ∧ i = .int .i64 k ∧ Hid ((s.data.toList.take k).all lowB = true)) (fun i => s.size - (intOf i).toNat)
  case atStart => exact ⟨0, by omega, rfl, Lib.hid rfl⟩
  case round =>
    obtain ⟨k, hk, rfl, ha⟩ := hrel
    by_cases hlt : k < s.size
    · rcases hl : lowB s[k] with _ | _
      · have HB : Hid (nameB s = false) := Lib.hid (low_bad hlt hl)
        have hl' : ¬ (97 ≤ s[k].toNat ∧ s[k].toNat ≤ 122) := by simpa only [lowB, decide_eq_false_iff_not] using hl
        clear hl
        by_cases h3 : (s[k].toNat : Int) < 97
        · go_wp2
          go_ret
          exact ⟨ret_bool HB.out.symm, rfl⟩
        · have h4 : (122 : Int) < s[k].toNat := by omega
          go_wp2
          go_ret
          exact ⟨ret_bool HB.out.symm, rfl⟩
      · have hl' : 97 ≤ s[k].toNat ∧ s[k].toNat ≤ 122 := by simpa only [lowB, decide_eq_true_eq] using hl
        have HA : Hid ((s.data.toList.take (k + 1)).all lowB = true) := Lib.hid (low_next hlt ha.out hl)
        clear hl
        go_wp2
        go_round
        case rel => exact ⟨k + 1, by omega, by go_num, HA⟩
        case measure => simp [intOf]; omega
    · obtain rfl : k = s.size := by omega
      by_cases h1 : 1 ≤ s.size
      · by_cases h2 : s.size ≤ 8
        · go_wp2
          go_ret
          exact ⟨ret_bool (by rw [low_all ha.out, Bool.eq_iff_iff]; simp only [decide_eq_true_eq]; first | omega | (simp; omega)), rfl⟩
        · go_wp2
          go_ret
          exact ⟨ret_bool (by rw [low_all ha.out, Bool.eq_iff_iff]; simp only [decide_eq_true_eq]; first | omega | (simp; omega)), rfl⟩
      · go_wp2
        go_ret
        exact ⟨ret_bool (by rw [low_all ha.out, Bool.eq_iff_iff]; simp only [decide_eq_true_eq]; first | omega | (simp; omega)), rfl⟩

set_option maxHeartbeats 400000 in
theorem name_walk (s : ByteArray) (w : World) (hs : s.size ≤ maxLen) :
    Calls Try.prog 3 #[.string s] w fun e w' => e = .returned (.bool true) ∧ Below w.heap.size w w' := by
  have hs' := hs
  unfold maxLen at hs'
  by_cases hlong : 1048576 < s.size
  · go_enter Try.func3, Try.ntmps3
    go_wp2
    go_ret
    exact ⟨rfl, Below.refl _ _⟩
  · go_enter Try.func3, Try.ntmps3
    go_wp2_with (first | (go_at_call 7; (with_reducible refine (specName_any _ _ hs).mono ?_); rintro e w' ⟨rfl, rfl⟩) | (go_at_call 8; (with_reducible refine (implName_any _ _ hs).mono ?_); rintro e w' ⟨rfl, hb⟩))
    go_ret
    exact ⟨rfl, hb⟩
end Go.Proofs.Ytfmlmgebomapjaa
