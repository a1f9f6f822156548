/-
  Contracts of the functions over words: whether a text is one, and its digits.
-/
import Derived.Test.YtfmlmgebomapjabDoorDig
import Derived.Test.YtfmlmgebomapjabDoorOwn
namespace Go.Proofs.YtfmlmgebomapjabDoor
open Go.RowKit

def digOk (base : Int) (c : UInt8) : Bool := inB (digN c.toNat) 0 (base - 1)
/-- Whether a text is a word over a base. -/
def wordB (s : ByteArray) (base : Int) : Bool := inB base 2 36 && (decide (s.size ≤ 20) && s.data.toList.all (digOk base))
theorem take_one (s : ByteArray) (k : Nat) (h : k < s.size) : s.data.toList.take (k + 1) = s.data.toList.take k ++ [s[k]] := by
  rw [List.take_succ_eq_append_getElem (by simpa using h)]; rfl
theorem dig_next {s : ByteArray} {base : Int} {k : Nat} (h : k < s.size) (ha : (s.data.toList.take k).all (digOk base) = true) (hl : digOk base s[k] = true) : (s.data.toList.take (k + 1)).all (digOk base) = true := by
  rw [take_one s k h, List.all_append, ha]; simp [hl]
theorem dig_bad {s : ByteArray} {base : Int} {k : Nat} (h : k < s.size) (hl : digOk base s[k] = false) : wordB s base = false := by
  have : s.data.toList.all (digOk base) = false := by
    rw [List.all_eq_false]
    exact ⟨s[k], by simp [ByteArray.getElem_eq_getElem_data], by simp [hl]⟩
  simp [wordB, this]
theorem dig_all {s : ByteArray} {base : Int} (hb : inB base 2 36 = true) (ha : (s.data.toList.take s.size).all (digOk base) = true) : wordB s base = decide (s.size ≤ 20) := by
  rw [List.take_of_length_le (by simp)] at ha
  simp [wordB, ha, hb]
theorem word_base {s : ByteArray} {base : Int} (hb : inB base 2 36 = false) : wordB s base = false := by simp [wordB, hb]
theorem digN_bd (c : Nat) : -1 ≤ digN c ∧ digN c ≤ 35 := by unfold digN; split <;> (try split) <;> omega
theorem digN_high {c : Nat} (h : 128 ≤ c) : digN c = -1 := by unfold digN; rw [if_neg (by omega), if_neg (by omega)]

set_option maxHeartbeats 400000 in
theorem l01Digit_any (c : Nat) (w : World) (h : c ≤ 255) :
    Calls Tryd.prog 14 #[.int .u8 c] w fun e w' => e = .returned (.int .i64 (digN c)) ∧ w = w' := by
  by_cases h1 : 48 ≤ (c : Int)
  · by_cases h2 : (c : Int) ≤ 57
    · have H : Hid (digN c = (c : Int) - 48) := Lib.hid (by unfold digN; rw [if_pos (by omega)])
      go_enter Tryd.func14, Tryd.ntmps14
      go_wp2
      go_ret
      exact ⟨ret_int (by rw [H.out]), rfl⟩
    · by_cases h3 : 65 ≤ (c : Int)
      · by_cases h4 : (c : Int) ≤ 90
        · have H : Hid (digN c = (c : Int) - 55) := Lib.hid (by unfold digN; rw [if_neg (by omega), if_pos (by omega)])
          go_enter Tryd.func14, Tryd.ntmps14
          go_wp2
          go_ret
          exact ⟨ret_int (by rw [H.out]; omega), rfl⟩
        · have H : Hid (digN c = -1) := Lib.hid (by unfold digN; rw [if_neg (by omega), if_neg (by omega)])
          go_enter Tryd.func14, Tryd.ntmps14
          go_wp2
          go_ret
          exact ⟨ret_int (by rw [H.out]), rfl⟩
      · have H : Hid (digN c = -1) := Lib.hid (by unfold digN; rw [if_neg (by omega), if_neg (by omega)])
        go_enter Tryd.func14, Tryd.ntmps14
        go_wp2
        go_ret
        exact ⟨ret_int (by rw [H.out]), rfl⟩
  · have H : Hid (digN c = -1) := Lib.hid (by unfold digN; rw [if_neg (by omega), if_neg (by omega)])
    go_enter Tryd.func14, Tryd.ntmps14
    go_wp2
    go_ret
    exact ⟨ret_int (by rw [H.out]), rfl⟩
set_option maxHeartbeats 400000 in
theorem l01Base_any (base : Int) (w : World) :
    Calls Tryd.prog 15 #[.int .i64 base] w fun e w' => e = .returned (.bool (inB base 2 36)) ∧ w = w' := by
  go_enter Tryd.func15, Tryd.ntmps15
  go_wp2_with (go_at_call 13; (with_reducible refine (l00In_any _ _ _ _).mono ?_); rintro e w' ⟨rfl, rfl⟩)
  go_ret
  exact ⟨rfl, rfl⟩
set_option maxHeartbeats 400000 in
theorem isBase_any (base : Int) (w : World) :
    Calls Tryd.prog 35 #[.int .i64 base] w fun e w' => e = .returned (.bool (inB base 2 36)) ∧ w = w' := by
  go_enter Tryd.func35, Tryd.ntmps35
  go_wp2_with (go_at_call 28; (with_reducible refine (within_any _ _ _ _).mono ?_); rintro e w' ⟨rfl, rfl⟩)
  go_ret
  exact ⟨rfl, rfl⟩

set_option maxHeartbeats 1000000 in
theorem l01Word_any (s : ByteArray) (base : Int) (w : World) (hs : s.size ≤ maxLen) :
    Calls Tryd.prog 10 #[.string s, .int .i64 base] w fun e w' => e = .returned (.bool (wordB s base)) ∧ w = w' := by
  unfold maxLen at hs
  rcases hbase : inB base 2 36 with _ | _
  · have HB : Hid (wordB s base = false) := Lib.hid (word_base hbase)
    go_enter Tryd.func10, Tryd.ntmps10
    go_wp2
    go_loop [5] (fun i => ∃ k : Nat, k ≤ s.size ∧ i = .int .i64 k) (fun i => s.size - (intOf i).toNat)
    case atStart => exact ⟨0, by omega, rfl⟩
    case round =>
      obtain ⟨k, hk, rfl⟩ := hrel
      by_cases hlt : k < s.size
      · have hc : s[k].toNat ≤ 255 := by have := s[k].toNat_lt; omega
        go_wp2_with (first | (go_at_call 14; (with_reducible refine (l01Digit_any _ _ hc).mono ?_); rintro e w' ⟨rfl, rfl⟩) | (go_at_call 13; (with_reducible refine (l00In_any _ _ _ _).mono ?_); rintro e w' ⟨rfl, rfl⟩))
        · go_ret
          exact ⟨ret_bool HB.out.symm, rfl⟩
        · go_round
          case rel => exact ⟨k + 1, by omega, by go_num⟩
          case measure => simp [intOf]; omega
      · obtain rfl : k = s.size := by omega
        go_wp2_with (first | (go_at_call 15; (with_reducible refine (l01Base_any _ _).mono ?_); rintro e w' ⟨rfl, rfl⟩))
        go_ret
        exact ⟨ret_bool HB.out.symm, rfl⟩
  · have hb := inB_true.1 hbase
    have HB := Lib.hid hbase
    go_enter Tryd.func10, Tryd.ntmps10
    go_wp2
    go_loop [5] (fun i => ∃ k : Nat, k ≤ s.size ∧ i = .int .i64 k ∧ Hid ((s.data.toList.take k).all (digOk base) = true)) (fun i => s.size - (intOf i).toNat)
    case atStart => exact ⟨0, by omega, rfl, Lib.hid rfl⟩
    case round =>
      obtain ⟨k, hk, rfl, ha⟩ := hrel
      by_cases hlt : k < s.size
      · have hc : s[k].toNat ≤ 255 := by have := s[k].toNat_lt; omega
        rcases hl : digOk base s[k] with _ | _
        · have HW : Hid (wordB s base = false) := Lib.hid (dig_bad hlt hl)
          unfold digOk at hl
          go_wp2_with (first | (go_at_call 14; (with_reducible refine (l01Digit_any _ _ hc).mono ?_); rintro e w' ⟨rfl, rfl⟩) | (go_at_call 13; (with_reducible refine (l00In_any _ _ _ _).mono ?_); rintro e w' ⟨rfl, rfl⟩))
          go_ret
          exact ⟨ret_bool HW.out.symm, rfl⟩
        · have HA : Hid ((s.data.toList.take (k + 1)).all (digOk base) = true) := Lib.hid (dig_next hlt ha.out hl)
          unfold digOk at hl
          go_wp2_with (first | (go_at_call 14; (with_reducible refine (l01Digit_any _ _ hc).mono ?_); rintro e w' ⟨rfl, rfl⟩) | (go_at_call 13; (with_reducible refine (l00In_any _ _ _ _).mono ?_); rintro e w' ⟨rfl, rfl⟩))
          go_round
          case rel => exact ⟨k + 1, by omega, by go_num, HA⟩
          case measure => simp [intOf]; omega
      · obtain rfl : k = s.size := by omega
        have HW : Hid (wordB s base = decide (s.size ≤ 20)) := Lib.hid (dig_all HB.out ha.out)
        by_cases h20 : s.size ≤ 20
        · go_wp2_with (first | (go_at_call 15; (with_reducible refine (l01Base_any _ _).mono ?_); rintro e w' ⟨rfl, rfl⟩))
          go_ret
          exact ⟨ret_bool (by rw [HW.out, Bool.eq_iff_iff]; simp; omega), rfl⟩
        · go_wp2_with (first | (go_at_call 15; (with_reducible refine (l01Base_any _ _).mono ?_); rintro e w' ⟨rfl, rfl⟩))
          go_ret
          exact ⟨ret_bool (by rw [HW.out, Bool.eq_iff_iff]; simp; omega), rfl⟩
end Go.Proofs.YtfmlmgebomapjabDoor
