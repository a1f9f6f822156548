/-
  Texts of letters: the program's areLetters.
-/
import Derived.Test.YtfmlmgebomapjaaDoorBasic
import Derived.Test.YtfmlmgebomapjaaDoorRow
namespace Go.Proofs.YtfmlmgebomapjaaDoor
open Go.RowKit

theorem below_iter (w : World) (s : ByteArray) (pos : Nat) : Below w.heap.size w (w.iter s pos) :=
  (Below.refl _ w).alloc (Nat.le_refl _) _
theorem take_next (s : ByteArray) (k : Nat) (h : k < s.size) : s.data.toList.take (k + 1) = s.data.toList.take k ++ [s[k]] := by
  rw [List.take_succ_eq_append_getElem (by simpa using h)]; rfl

def lowB (c : UInt8) : Bool := decide (97 ≤ c.toNat ∧ c.toNat ≤ 122)
def letB (s : ByteArray) : Bool := s.data.toList.all lowB
theorem low_next {s : ByteArray} {k : Nat} (h : k < s.size) (ha : (s.data.toList.take k).all lowB = true) (hl : lowB s[k] = true) : (s.data.toList.take (k + 1)).all lowB = true := by
  rw [take_next s k h, List.all_append, ha]; simp [hl]
theorem let_bad {s : ByteArray} {k : Nat} (h : k < s.size) (hl : lowB s[k] = false) : letB s = false := by
  unfold letB
  rw [List.all_eq_false]
  exact ⟨s[k], by simp [ByteArray.getElem_eq_getElem_data], by simp [hl]⟩
theorem let_all {s : ByteArray} (ha : (s.data.toList.take s.size).all lowB = true) : letB s = true := by
  rw [List.take_of_length_le (by simp)] at ha; exact ha



/-- A text that has distances from others. -/
def hearB (s : ByteArray) : Bool := decide (s.size ≤ 20) && letB s
theorem hear_size {s : ByteArray} (h : hearB s = true) : s.size ≤ 20 := by
  unfold hearB at h
  simp only [Bool.and_eq_true, decide_eq_true_eq] at h
  exact h.1

/-- Whether a text has only letters, and not too many. -/
def lettB (s : ByteArray) (most : Nat) : Bool := letB s && decide (s.size ≤ most)
theorem lett_20 (s : ByteArray) : lettB s 20 = hearB s := by unfold lettB hearB; exact Bool.and_comm _ _
set_option maxHeartbeats 1000000 in
theorem l07Letters_any (s : ByteArray) (most : Nat) (m : Int) (hm : m = most) (w : World) (hs : s.size ≤ maxLen) :
    Calls Tryd.prog 88 #[.string s, .int .i64 m] w fun e w' => e = .returned (.bool (lettB s most)) ∧ w = w' := by
  unfold maxLen at hs
  have HM := Lib.hid hm
  clear hm
  go_enter Tryd.func88, Tryd.ntmps88
  go_wp2
  go_loop [5] (fun i => ∃ k : Nat, k ≤ s.size ∧ i = .int .i64 k ∧ Hid ((s.data.toList.take k).all lowB = true)) (fun i => s.size - (intOf i).toNat)
  case atStart => exact ⟨0, by omega, rfl, Lib.hid rfl⟩
  case round =>
    obtain ⟨k, hk, rfl, ha⟩ := hrel
    by_cases hlt : k < s.size
    · rcases hl : lowB s[k] with _ | _
      · have HB : Hid (lettB s most = false) := Lib.hid (by unfold lettB; rw [let_bad hlt hl]; rfl)
        have hl' : ¬ (97 ≤ s[k].toNat ∧ s[k].toNat ≤ 122) := by simpa only [lowB, decide_eq_false_iff_not] using hl
        clear hl
        by_cases h3 : (s[k].toNat : Int) < 97
        · go_wp2
          go_ret
          exact ⟨ret_bool HB.out.symm, rfl⟩
        · have h4 : (122 : Int) < s[k].toNat := by omega
          go_wp2
          go_ret
          exact ⟨ret_bool HB.out.symm, rfl⟩
      · have hl' : 97 ≤ s[k].toNat ∧ s[k].toNat ≤ 122 := by simpa only [lowB, decide_eq_true_eq] using hl
        have HA : Hid ((s.data.toList.take (k + 1)).all lowB = true) := Lib.hid (low_next hlt ha.out hl)
        clear hl
        go_wp2
        go_round
        case rel => exact ⟨k + 1, by omega, by go_num, HA⟩
        case measure => simp [intOf]; omega
    · obtain rfl : k = s.size := by omega
      have HL := Lib.hid (let_all ha.out)
      go_wp2
      go_ret
      exact ⟨ret_bool (by unfold lettB; rw [HL.out, HM.out, Bool.true_and]; congr 1; apply propext; omega), rfl⟩
end Go.Proofs.YtfmlmgebomapjaaDoor
