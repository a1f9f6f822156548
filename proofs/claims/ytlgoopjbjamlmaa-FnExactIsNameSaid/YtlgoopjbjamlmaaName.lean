/-
  Contracts of IsName, of the program and of the model: both say whether a text has one to eight bytes, each from a to z.
-/
import Derived.Test.YtlgoopjbjamlmaaBasic
namespace Go.Proofs.Ytlgoopjbjamlmaa
open Go.RowKit

theorem below_iter (w : World) (s : ByteArray) (pos : Nat) : Below w.heap.size w (w.iter s pos) :=
  (Below.refl _ w).alloc (Nat.le_refl _) _
theorem take_next (s : ByteArray) (k : Nat) (h : k < s.size) : s.data.toList.take (k + 1) = s.data.toList.take k ++ [s[k]] := by
  rw [List.take_succ_eq_append_getElem (by simpa using h)]; rfl

def lowB (c : UInt8) : Bool := decide (97 ≤ c.toNat ∧ c.toNat ≤ 122)
def nameB (s : ByteArray) : Bool := decide (1 ≤ s.size ∧ s.size ≤ 8) && s.data.toList.all lowB
theorem low_next {s : ByteArray} {k : Nat} (h : k < s.size) (ha : (s.data.toList.take k).all lowB = true) (hl : lowB s[k] = true) : (s.data.toList.take (k + 1)).all lowB = true := by
  rw [take_next s k h, List.all_append, ha]; simp [hl]
theorem low_bad {s : ByteArray} {k : Nat} (h : k < s.size) (hl : lowB s[k] = false) : nameB s = false := by
  have : s.data.toList.all lowB = false := by
    rw [List.all_eq_false]
    exact ⟨s[k], by simp [ByteArray.getElem_eq_getElem_data], by simp [hl]⟩
  simp [nameB, this]
theorem low_all {s : ByteArray} (ha : (s.data.toList.take s.size).all lowB = true) : nameB s = decide (1 ≤ s.size ∧ s.size ≤ 8) := by
  rw [List.take_of_length_le (by simp)] at ha
  simp [nameB, ha]

set_option maxHeartbeats 400000 in
theorem withinInt_any (a lo hi : Int) (w : World) :
    Calls Try.prog 45 #[.int .i64 a, .int .i64 lo, .int .i64 hi] w fun e w' => e = .returned (.bool (inB a lo hi)) ∧ w = w' := by
  by_cases h1 : lo ≤ a
  · by_cases h2 : a ≤ hi
    · go_enter Try.func45, Try.ntmps45
      go_wp2
      go_ret
      exact ⟨ret_bool (by simp [inB, h1, h2]), rfl⟩
    · go_enter Try.func45, Try.ntmps45
      go_wp2
      go_ret
      exact ⟨ret_bool (by simp [inB, h1, h2]), rfl⟩
  · go_enter Try.func45, Try.ntmps45
    go_wp2
    go_ret
    exact ⟨ret_bool (by simp [inB]; omega), rfl⟩
set_option maxHeartbeats 400000 in
theorem withinRune_any (a lo hi : Int) (w : World) :
    Calls Try.prog 46 #[.int .i32 a, .int .i32 lo, .int .i32 hi] w fun e w' => e = .returned (.bool (inB a lo hi)) ∧ w = w' := by
  by_cases h1 : lo ≤ a
  · by_cases h2 : a ≤ hi
    · go_enter Try.func46, Try.ntmps46
      go_wp2
      go_ret
      exact ⟨ret_bool (by simp [inB, h1, h2]), rfl⟩
    · go_enter Try.func46, Try.ntmps46
      go_wp2
      go_ret
      exact ⟨ret_bool (by simp [inB, h1, h2]), rfl⟩
  · go_enter Try.func46, Try.ntmps46
    go_wp2
    go_ret
    exact ⟨ret_bool (by simp [inB]; omega), rfl⟩

set_option maxHeartbeats 400000 in
theorem implName_any (s : ByteArray) (w : World) (hs : s.size ≤ maxLen) :
    Calls Try.prog 24 #[.string s] w fun e w' => e = .returned (.bool (nameB s)) ∧ Below w.heap.size w w' := by
  unfold maxLen at hs
  rcases h1 : inB s.size 1 8 with _ | _
  · have H : Hid (nameB s = false) := Lib.hid (by have := inB_false.1 h1; simp [nameB]; omega)
    go_enter Try.func24, Try.ntmps24
    go_wp2_with (go_at_call 45; refine (withinInt_any _ _ _ _).mono ?_; rintro e w' ⟨rfl, rfl⟩)
    go_ret
    exact ⟨ret_bool H.out.symm, Below.refl _ _⟩
  · have H : Hid (decide (1 ≤ s.size ∧ s.size ≤ 8) = true) := Lib.hid (by have := inB_true.1 h1; simp; omega)
    go_enter Try.func24, Try.ntmps24
    go_wp2_with (go_at_call 45; refine (withinInt_any _ _ _ _).mono ?_; rintro e w' ⟨rfl, rfl⟩)
    go_loopw [4] (fun _ wr => ∃ pos : Nat, wr = w.iter s pos ∧ pos ≤ s.size ∧ Hid ((s.data.toList.take pos).all lowB = true)) (fun _ wr => s.size - wr.iterPos w.heap.size)
    case atStart => exact ⟨0, rfl, by omega, Lib.hid rfl⟩
    case round =>
      obtain ⟨pos, rfl, hp, ha⟩ := hrel
      by_cases hlt : pos < s.size
      · rcases hl : lowB s[pos] with _ | _
        · have HB : Hid (nameB s = false) := Lib.hid (low_bad hlt hl)
          by_cases hasc : s[pos].toNat < 128
          · have hnx : ∀ ty, (Instr.next (.pointer (some ⟨w.heap.size, 0, none⟩)) true ty).run Try.prog (w.iter s pos) = _ := fun ty => run_next_ascii w s pos ty hlt hasc
            have hin : inB (s[pos].toNat : Int) 97 122 = false := by
              have hl' : ¬ (97 ≤ s[pos].toNat ∧ s[pos].toNat ≤ 122) := by simpa only [lowB, decide_eq_false_iff_not] using hl
              rw [inB_false]; omega
            clear hl
            go_wp2_with (go_at_call 46; refine (withinRune_any _ _ _ _).mono ?_; rintro e w' ⟨rfl, rfl⟩)
            go_ret
            exact ⟨ret_bool HB.out.symm, below_iter _ _ _⟩
          · have hd := decode_high s pos hlt (by omega)
            have hnx : ∀ ty, (Instr.next (.pointer (some ⟨w.heap.size, 0, none⟩)) true ty).run Try.prog (w.iter s pos) = _ := fun ty => run_next_any w s pos ty hlt
            have hin : inB ((Utf8.decode s pos).1 : Int) 97 122 = false := by rw [inB_false]; omega
            clear hl
            go_wp2_with (go_at_call 46; refine (withinRune_any _ _ _ _).mono ?_; rintro e w' ⟨rfl, rfl⟩)
            go_ret
            exact ⟨ret_bool HB.out.symm, below_iter _ _ _⟩
        · have hl' : 97 ≤ s[pos].toNat ∧ s[pos].toNat ≤ 122 := by simpa only [lowB, decide_eq_true_eq] using hl
          have HA : Hid ((s.data.toList.take (pos + 1)).all lowB = true) := Lib.hid (low_next hlt ha.out hl)
          have hnx : ∀ ty, (Instr.next (.pointer (some ⟨w.heap.size, 0, none⟩)) true ty).run Try.prog (w.iter s pos) = _ := fun ty => run_next_ascii w s pos ty hlt (by omega)
          have hin : inB (s[pos].toNat : Int) 97 122 = true := by rw [inB_true]; omega
          clear hl
          go_wp2_with (go_at_call 46; refine (withinRune_any _ _ _ _).mono ?_; rintro e w' ⟨rfl, rfl⟩)
          go_roundw
          case rel => exact ⟨pos + 1, rfl, by omega, HA⟩
          case measure => simp; omega
      · obtain rfl : pos = s.size := by omega
        have hnx : ∀ ty, (Instr.next (.pointer (some ⟨w.heap.size, 0, none⟩)) true ty).run Try.prog (w.iter s s.size) = _ := fun ty => run_next_end w s s.size ty hlt
        go_wp2
        go_ret
        exact ⟨ret_bool (by rw [low_all ha.out, H.out]), below_iter _ _ _⟩

set_option maxHeartbeats 400000 in
theorem specName_any (s : ByteArray) (w : World) (hs : s.size ≤ maxLen) :
    Calls Try.prog 23 #[.string s] w fun e w' => e = .returned (.bool (nameB s)) ∧ w = w' := by
  unfold maxLen at hs
  go_enter Try.func23, Try.ntmps23
  go_wp2
  go_loop [3] (fun i => ∃ k : Nat, k ≤ s.size ∧ i = .int .i64 k ∧ Hid ((s.data.toList.take k).all lowB = true)) (fun i => s.size - (intOf i).toNat)
  case atStart => exact ⟨0, by omega, rfl, Lib.hid rfl⟩
  case round =>
    obtain ⟨k, hk, rfl, ha⟩ := hrel
    by_cases hlt : k < s.size
    · rcases hl : lowB s[k] with _ | _
      · have HB : Hid (nameB s = false) := Lib.hid (low_bad hlt hl)
        have hl' : ¬ (97 ≤ s[k].toNat ∧ s[k].toNat ≤ 122) := by simpa only [lowB, decide_eq_false_iff_not] using hl
        clear hl
        by_cases h3 : (s[k].toNat : Int) < 97
        · go_wp2
          go_ret
          exact ⟨ret_bool HB.out.symm, rfl⟩
        · have h4 : (122 : Int) < s[k].toNat := by omega
          go_wp2
          go_ret
          exact ⟨ret_bool HB.out.symm, rfl⟩
      · have hl' : 97 ≤ s[k].toNat ∧ s[k].toNat ≤ 122 := by simpa only [lowB, decide_eq_true_eq] using hl
        have HA : Hid ((s.data.toList.take (k + 1)).all lowB = true) := Lib.hid (low_next hlt ha.out hl)
        clear hl
        go_wp2
        go_round
        case rel => exact ⟨k + 1, by omega, by go_num, HA⟩
        case measure => simp [intOf]; omega
    · obtain rfl : k = s.size := by omega
      by_cases h1 : 1 ≤ s.size
      · by_cases h2 : s.size ≤ 8
        · go_wp2
          go_ret
          exact ⟨ret_bool (by rw [low_all ha.out, Bool.eq_iff_iff]; simp only [decide_eq_true_eq]; first | omega | (simp; omega)), rfl⟩
        · go_wp2
          go_ret
          exact ⟨ret_bool (by rw [low_all ha.out, Bool.eq_iff_iff]; simp only [decide_eq_true_eq]; first | omega | (simp; omega)), rfl⟩
      · go_wp2
        go_ret
        exact ⟨ret_bool (by rw [low_all ha.out, Bool.eq_iff_iff]; simp only [decide_eq_true_eq]; first | omega | (simp; omega)), rfl⟩

set_option maxHeartbeats 400000 in
theorem name_walk (s : ByteArray) (w : World) (hs : s.size ≤ maxLen) :
    Calls Try.prog 5 #[.string s] w fun e w' => e = .returned (.bool true) ∧ Below w.heap.size w w' := by
  have hs' := hs
  unfold maxLen at hs'
  by_cases hlong : 1048576 < s.size
  · go_enter Try.func5, Try.ntmps5
    go_wp2
    go_ret
    exact ⟨rfl, Below.refl _ _⟩
  · go_enter Try.func5, Try.ntmps5
    go_wp2_with (first | (go_at_call 23; refine (specName_any _ _ hs).mono ?_; rintro e w' ⟨rfl, rfl⟩) | (go_at_call 24; refine (implName_any _ _ hs).mono ?_; rintro e w' ⟨rfl, hb⟩))
    go_ret
    exact ⟨rfl, hb⟩
end Go.Proofs.Ytlgoopjbjamlmaa
