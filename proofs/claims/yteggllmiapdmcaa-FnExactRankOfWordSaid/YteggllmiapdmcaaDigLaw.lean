/-
  The walks of the laws of IsWordOf and DigitsOf.
-/
import Derived.Test.YteggllmiapdmcaaDigits
namespace Go.Proofs.Yteggllmiapdmcaa
open Go.RowKit

set_option maxHeartbeats 1000000 in
theorem l01Digits_any (s : ByteArray) (w : World) (hs : s.size ≤ 1048576) :
    Calls Try.prog 85 #[.string s] w (Made w.heap.size s.size (digs s.data.toList) w) := by
  obtain ⟨i0, hi, hz0, hz1, hz2⟩ := info_parts info64
  go_enter Try.func85, Try.ntmps85
  go_wp2
  go_loopw [3, 4] (fun v i wr => ∃ k : Nat, k ≤ s.size ∧ i = .int .i64 k ∧ wr.ownsRow w.heap.size 2 1 v k (cells64 (digs (s.data.toList.take k))) ∧ Below w.heap.size w wr) (fun _ i _ => s.size - (intOf i).toNat)
  case atStart => exact ⟨0, by omega, rfl, World.ownsRow_made _ _ _ (Nat.le_refl _) (by unfold maxLen; omega) rfl, (Below.refl _ _).alloc (Nat.le_refl _) _⟩
  case round =>
    obtain ⟨k, hk, rfl, ho, hb⟩ := hrel
    by_cases hlt : k < s.size
    · have hc : s[k].toNat ≤ 255 := by have := s[k].toNat_lt; omega
      have hbs := hb.size
      have HD : Hid (digs (s.data.toList.take (k + 1)) = digs (s.data.toList.take k) ++ [digN s[k].toNat]) := Lib.hid (by rw [take_one s k hlt]; simp [digs])
      go_wp2_with (first | (go_at_call 134; (with_reducible refine (l01Digit_any _ _ hc).mono ?_); rintro e w' ⟨rfl, rfl⟩) | (at_builtin; refine wpList_append_own _ rfl _ _ 34 rfl w.heap.size 2 i0 (.int .i64 0) 1 8 Try.underlying34 hi hz0 hz1 hz2 rfl (by decide) _ _ _ rfl (ho.alloc _) ⟨wr.heap.size, 0, none⟩ 1 1 [.int .i64 (digN s[k].toNat)] rfl rfl (one_cell _ _ _) (fun u hu => by simp at hu; subst hu; rfl) ?c1 ?c2 ?c3 ?_))
      case c1 => unfold maxLen; omega
      case c2 => omega
      case c3 => simp; omega
      intro v3 w3 ho3 hg3 _
      have hbw3 : Below w.heap.size w w3 := Below.grown (hb.alloc (by omega) _) hg3 (by simp; omega) (fun j hj => (ho.lt j hj).1)
      have e3 : cells64 (digs (s.data.toList.take k)) ++ [Value.int .i64 (digN s[k].toNat)] = cells64 (digs (s.data.toList.take (k + 1))) := by
        rw [HD.out]; simp [cells64]
      rw [e3] at ho3
      have X : Hid (w3.ownsRow w.heap.size 2 1 v3 (k + 1) (cells64 (digs (s.data.toList.take (k + 1)))) ∧ Below w.heap.size w w3) := Lib.hid ⟨ho3, hbw3⟩
      clear ho3 hbw3 e3 hg3
      go_wp2
      go_roundw
      case rel => exact ⟨k + 1, by omega, by go_num, X.out.1, X.out.2⟩
      case measure => simp [intOf]; omega
    · obtain rfl : k = s.size := by omega
      go_wp2
      go_ret
      rw [List.take_of_length_le (by simp)] at ho
      have hv : ∃ A c, u3 = .slice A s.size c := by
        rcases ho.2 with ⟨hv, hn⟩ | ⟨g, cap, cur, hv, _⟩
        · exact ⟨none, 0, by rw [hv, hn]⟩
        · exact ⟨_, _, hv⟩
      obtain ⟨A, c, rfl⟩ := hv
      exact ⟨A, c, rfl, ⟨ho, digs_wf _⟩, hb⟩
theorem word_size {s : ByteArray} {base : Int} (h : wordB s base = true) : s.size ≤ 20 := by
  simp [wordB] at h; exact h.2.1
theorem dig_some {s : ByteArray} {base : Int} {w w' : World} {A : Option Addr} {c : Nat} (h : wordB s base = true) (ho : Own w.heap.size w' A s.size c (digs s.data.toList)) (hb : Below w.heap.size w w') :
    DigPost s base w (.returned (.tuple #[.slice A s.size c, .bool true])) w' := by
  have e : digR s base = digs s.data.toList := by simp [digR, h]
  have el : (digR s base).length = s.size := by rw [e, digs_len]; simp
  refine ⟨A, c, by rw [el, h], ?_, hb⟩
  rw [el, e]; exact ho
end Go.Proofs.Yteggllmiapdmcaa
