/-
  Words of chapter 6, by the model and by the program.
-/
import Derived.Test.YtfmlmgebomapjabDoorDigLaw
namespace Go.Proofs.YtfmlmgebomapjabDoor
open Go.RowKit

/-- Whether a text is a word of at most so many symbols. -/
def edW (most : Nat) (s : ByteArray) : Bool := decide (s.size ≤ most) && wordB s 36
theorem edW_empty {most : Nat} {s : ByteArray} (h : s.size = 0) : edW most s = true := by
  have e : s.data.toList = [] := List.eq_nil_of_length_eq_zero (by simpa using h)
  unfold edW wordB
  rw [e, h]
  simp [inB]
theorem edW_20 (s : ByteArray) : edW 20 s = wordB s 36 := by
  unfold edW wordB
  by_cases h : s.size ≤ 20 <;> simp [h]
theorem edW_size {most : Nat} {s : ByteArray} (h : edW most s = true) : s.size ≤ most := by
  unfold edW at h
  simp only [Bool.and_eq_true, decide_eq_true_eq] at h
  exact h.1
theorem toList_nil {s : ByteArray} (h : s.size = 0) : s.toList = [] := by
  rw [ByteArray.toList_eq]
  exact List.eq_nil_of_length_eq_zero (by simpa using h)
theorem toList_some {s : ByteArray} (h : ¬ s.size = 0) : (s.toList == ([] : List UInt8)) = false := by
  rw [ByteArray.toList_eq, beq_eq_false_iff_ne]
  intro e
  have := congrArg List.length e
  simp at this
  exact h (by simpa using this)

set_option maxHeartbeats 400000 in
theorem implIsWordE_any (s : ByteArray) (base : Int) (w : World) (hs : s.size ≤ maxLen) :
    Calls Tryd.prog 17 #[.string s, .int .i64 base] w fun e w' => e = .returned (.bool (wordB s base)) ∧ Below w.heap.size w w' := by
  go_enter Tryd.func17, Tryd.ntmps17
  go_wp2_with (go_at_call 27; (with_reducible refine (implDigits_any _ _ _ hs).mono ?_); rintro e w' ⟨A, c, rfl, ho, hb⟩)
  go_ret
  exact ⟨rfl, hb⟩
end Go.Proofs.YtfmlmgebomapjabDoor
