/-
  Contracts of CheckOf, of the program and of the model: both return the same number, for every input.
-/
import Derived.Test.YtlgoopjbjamlmabBasic
namespace Go.Proofs.Ytlgoopjbjamlmab
open Go.RowKit

def chkStep (n : Nat) (c : UInt8) : Nat := (139 * n + c.toNat + 11) % 32749
def chk (n : Nat) (l : List UInt8) : Nat := l.foldl chkStep n
theorem take_snoc (s : ByteArray) (k : Nat) (h : k < s.size) : s.data.toList.take (k + 1) = s.data.toList.take k ++ [s[k]] := by
  rw [List.take_succ_eq_append_getElem (by simpa using h)]; rfl
theorem chk_next (n : Nat) (s : ByteArray) (k : Nat) (h : k < s.size) : chk n (s.data.toList.take (k + 1)) = (139 * chk n (s.data.toList.take k) + s[k].toNat + 11) % 32749 := by
  rw [take_snoc s k h]; simp [chk, chkStep]
theorem chk_lt (n : Nat) (l : List UInt8) (h : n < 32749) : chk n l < 32749 := by
  unfold chk
  induction l generalizing n with
  | nil => exact h
  | cons c l ih => exact ih _ (Nat.mod_lt _ (by omega))
theorem byte_le (c : UInt8) : c.toNat ≤ 255 := by have := c.toNat_lt; omega

def chkOk (a : Int) : Bool := inB a 0 32748
def chkR (a : Int) (s : ByteArray) : Int := if chkOk a = true then ((chk a.toNat s.data.toList : Nat) : Int) else 0

set_option maxHeartbeats 400000 in
theorem implCheck_yes (a : Nat) (s : ByteArray) (w : World) (h1 : a < 32749) (hs : s.size ≤ maxLen) :
    Calls Try.prog 33 #[.int .i64 a, .string s] w fun e w' => e = two ((chk a s.data.toList : Nat) : Int) true ∧ w = w' := by
  unfold maxLen at hs
  have i1 : inB a 0 32748 = true := inB_true.2 (by omega)
  go_enter Try.func33, Try.ntmps33
  go_wp2_with (go_at_call 35; refine (within_any _ _ _ _).mono ?_; rintro e w' ⟨rfl, rfl⟩)
  go_loop [6, 7, 14] (fun n _ i => ∃ k v : Nat, k ≤ s.size ∧ i = .int .i64 k ∧ n = .int .i64 v ∧ v < 32749 ∧ Hid (v = chk a (s.data.toList.take k))) (fun _ _ i => s.size - (intOf i).toNat)
  case atStart => exact ⟨0, a, Nat.zero_le _, rfl, rfl, h1, Lib.hid rfl⟩
  case round =>
    obtain ⟨k, v, hk, rfl, rfl, hv, hg⟩ := hrel
    by_cases hlt : k < s.size
    · have hb := byte_le s[k]
      go_wp2
      go_round
      case rel => exact ⟨k + 1, (139 * v + s[k].toNat + 11) % 32749, by omega, by go_num, by go_num, Nat.mod_lt _ (by omega), Lib.hid (by rw [chk_next a s k hlt, ← hg.out])⟩
      case measure => simp [intOf]; omega
    · obtain rfl : k = s.size := by omega
      go_wp2
      go_ret2
      exact ⟨two_eq (by rw [hg.out, List.take_of_length_le (by simp)]) rfl, rfl⟩

set_option maxHeartbeats 400000 in
theorem specCheck_yes (a : Nat) (s : ByteArray) (w : World) (h1 : a < 32749) (hs : s.size ≤ maxLen) :
    Calls Try.prog 48 #[.int .i64 a, .string s] w fun e w' => e = .returned (.int .i64 (chk a s.data.toList : Nat)) ∧ w = w' := by
  unfold maxLen at hs
  go_enter Try.func48, Try.ntmps48
  go_wp2
  go_loop [0, 5] (fun n i => ∃ k v : Nat, k ≤ s.size ∧ i = .int .i64 k ∧ n = .int .i64 v ∧ v < 32749 ∧ Hid (v = chk a (s.data.toList.take k))) (fun _ i => s.size - (intOf i).toNat)
  case atStart => exact ⟨0, a, Nat.zero_le _, rfl, rfl, h1, Lib.hid rfl⟩
  case round =>
    obtain ⟨k, v, hk, rfl, rfl, hv, hg⟩ := hrel
    by_cases hlt : k < s.size
    · have hb := byte_le s[k]
      go_wp2
      go_round
      case rel => exact ⟨k + 1, (139 * v + s[k].toNat + 11) % 32749, by omega, by go_num, by go_num, Nat.mod_lt _ (by omega), Lib.hid (by rw [chk_next a s k hlt, ← hg.out])⟩
      case measure => simp [intOf]; omega
    · obtain rfl : k = s.size := by omega
      go_wp2
      go_ret
      exact ⟨ret_int (by rw [hg.out, List.take_of_length_le (by simp)]), rfl⟩

set_option maxHeartbeats 400000 in
theorem implCheck_any (a : Int) (s : ByteArray) (w : World) (hs : s.size ≤ maxLen) :
    Calls Try.prog 33 #[.int .i64 a, .string s] w fun e w' => e = two (chkR a s) (chkOk a) ∧ w = w' := by
  rcases h1 : inB a 0 32748 with _ | _
  · have H : Hid (chkOk a = false) := Lib.hid (by simp [chkOk, h1])
    go_enter Try.func33, Try.ntmps33
    go_wp2_with (go_at_call 35; refine (within_any _ _ _ _).mono ?_; rintro e w' ⟨rfl, rfl⟩)
    go_ret2
    exact ⟨two_eq (by simp [chkR, H.out]) H.out.symm, rfl⟩
  · have H : chkOk a = true := by simp [chkOk, h1]
    have b1 := inB_true.1 h1
    obtain ⟨x, rfl⟩ := Int.eq_ofNat_of_zero_le b1.1
    refine (implCheck_yes x s w (by omega) hs).mono ?_
    rintro e w' ⟨rfl, rfl⟩
    exact ⟨two_eq (by simp [chkR, H]) H.symm, rfl⟩

set_option maxHeartbeats 400000 in
theorem specCheck_any (a : Int) (s : ByteArray) (w : World) (hs : s.size ≤ maxLen) :
    Calls Try.prog 32 #[.int .i64 a, .string s] w fun e w' => e = two (chkR a s) (chkOk a) ∧ w = w' := by
  rcases h1 : inB a 0 32748 with _ | _
  · have H : Hid (chkOk a = false) := Lib.hid (by simp [chkOk, h1])
    go_enter Try.func32, Try.ntmps32
    go_wp2_with (go_at_call 34; refine (l00In_any _ _ _ _).mono ?_; rintro e w' ⟨rfl, rfl⟩)
    go_ret2
    exact ⟨two_eq (by simp [chkR, H.out]) H.out.symm, rfl⟩
  · have H : Hid (chkOk a = true) := Lib.hid (by simp [chkOk, h1])
    have b1 := inB_true.1 h1
    obtain ⟨x, rfl⟩ := Int.eq_ofNat_of_zero_le b1.1
    go_enter Try.func32, Try.ntmps32
    go_wp2_with (first | (go_at_call 34; refine (l00In_any _ _ _ _).mono ?_; rintro e w' ⟨rfl, rfl⟩) | (go_at_call 48; refine (specCheck_yes x s _ (by omega) hs).mono ?_; rintro e w' ⟨rfl, rfl⟩))
    go_ret2
    exact ⟨two_eq (by simp [chkR, H.out]) H.out.symm, rfl⟩

set_option maxHeartbeats 400000 in
theorem check_walk (a : Int) (s : ByteArray) (w : World) (hs : s.size ≤ maxLen) :
    Calls Try.prog 10 #[.int .i64 a, .string s] w fun e w' => e = .returned (.bool true) ∧ w = w' := by
  have hs' := hs
  unfold maxLen at hs'
  by_cases hlong : 1048576 < s.size
  · go_enter Try.func10, Try.ntmps10
    go_wp2
    go_ret
    exact ⟨rfl, rfl⟩
  · go_enter Try.func10, Try.ntmps10
    go_wp2_with (first | (go_at_call 32; refine (specCheck_any _ _ _ hs).mono ?_; rintro e w' ⟨rfl, rfl⟩) | (go_at_call 33; refine (implCheck_any _ _ _ hs).mono ?_; rintro e w' ⟨rfl, rfl⟩))
    go_ret
    exact ⟨rfl, rfl⟩
end Go.Proofs.Ytlgoopjbjamlmab
