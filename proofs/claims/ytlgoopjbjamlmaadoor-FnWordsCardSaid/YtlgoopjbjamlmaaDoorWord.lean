/-
  Contracts of the functions over words: whether a text is one, and its digits.
-/
import Derived.Test.YtlgoopjbjamlmaaDoorDig
import Derived.Test.YtlgoopjbjamlmaaDoorOwn
namespace Go.Proofs.YtlgoopjbjamlmaaDoor
open Go.RowKit

def digOk (base : Int) (c : UInt8) : Bool := inB (digN c.toNat) 0 (base - 1)
/-- Whether a text is a word over a base. -/
def wordB (s : ByteArray) (base : Int) : Bool := inB base 2 36 && (decide (s.size ≤ 20) && s.data.toList.all (digOk base))
theorem take_one (s : ByteArray) (k : Nat) (h : k < s.size) : s.data.toList.take (k + 1) = s.data.toList.take k ++ [s[k]] := by
  rw [List.take_succ_eq_append_getElem (by simpa using h)]; rfl
theorem dig_next {s : ByteArray} {base : Int} {k : Nat} (h : k < s.size) (ha : (s.data.toList.take k).all (digOk base) = true) (hl : digOk base s[k] = true) : (s.data.toList.take (k + 1)).all (digOk base) = true := by
  rw [take_one s k h, List.all_append, ha]; simp [hl]
theorem dig_bad {s : ByteArray} {base : Int} {k : Nat} (h : k < s.size) (hl : digOk base s[k] = false) : wordB s base = false := by
  have : s.data.toList.all (digOk base) = false := by
    rw [List.all_eq_false]
    exact ⟨s[k], by simp [ByteArray.getElem_eq_getElem_data], by simp [hl]⟩
  simp [wordB, this]
theorem dig_all {s : ByteArray} {base : Int} (hb : inB base 2 36 = true) (ha : (s.data.toList.take s.size).all (digOk base) = true) : wordB s base = decide (s.size ≤ 20) := by
  rw [List.take_of_length_le (by simp)] at ha
  simp [wordB, ha, hb]
theorem word_base {s : ByteArray} {base : Int} (hb : inB base 2 36 = false) : wordB s base = false := by simp [wordB, hb]
theorem digN_bd (c : Nat) : -1 ≤ digN c ∧ digN c ≤ 35 := by unfold digN; split <;> (try split) <;> omega
theorem digN_high {c : Nat} (h : 128 ≤ c) : digN c = -1 := by unfold digN; rw [if_neg (by omega), if_neg (by omega)]

set_option maxHeartbeats 400000 in
theorem l01Base_any (base : Int) (w : World) :
    Calls Tryd.prog 37 #[.int .i64 base] w fun e w' => e = .returned (.bool (inB base 2 36)) ∧ w = w' := by
  go_enter Tryd.func37, Tryd.ntmps37
  go_wp2_with (go_at_call 45; (with_reducible refine (l00In_any _ _ _ _).mono ?_); rintro e w' ⟨rfl, rfl⟩)
  go_ret
  exact ⟨rfl, rfl⟩
set_option maxHeartbeats 400000 in
theorem isBase_any (base : Int) (w : World) :
    Calls Tryd.prog 27 #[.int .i64 base] w fun e w' => e = .returned (.bool (inB base 2 36)) ∧ w = w' := by
  go_enter Tryd.func27, Tryd.ntmps27
  go_wp2_with (go_at_call 28; (with_reducible refine (within_any _ _ _ _).mono ?_); rintro e w' ⟨rfl, rfl⟩)
  go_ret
  exact ⟨rfl, rfl⟩

end Go.Proofs.YtlgoopjbjamlmaaDoor
