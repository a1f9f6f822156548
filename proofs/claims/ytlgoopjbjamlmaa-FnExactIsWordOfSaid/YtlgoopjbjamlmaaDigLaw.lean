/-
  The walks of the laws of IsWordOf and DigitsOf.
-/
import Derived.Test.YtlgoopjbjamlmaaDigits
namespace Go.Proofs.Ytlgoopjbjamlmaa
open Go.RowKit

set_option maxHeartbeats 1000000 in
theorem l01Digits_any (s : ByteArray) (w : World) (hs : s.size ≤ 1048576) :
    Calls Try.prog 50 #[.string s] w (Made w.heap.size s.size (digs s.data.toList) w) := by
  obtain ⟨i0, hi, hz0, hz1, hz2⟩ := info_parts info64
  go_enter Try.func50, Try.ntmps50
  go_wp2
  go_loopw [3, 4] (fun v i wr => ∃ k : Nat, k ≤ s.size ∧ i = .int .i64 k ∧ wr.ownsRow w.heap.size 2 1 v k (cells64 (digs (s.data.toList.take k))) ∧ Below w.heap.size w wr) (fun _ i _ => s.size - (intOf i).toNat)
  case atStart => exact ⟨0, by omega, rfl, World.ownsRow_made _ _ _ (Nat.le_refl _) (by unfold maxLen; omega) rfl, (Below.refl _ _).alloc (Nat.le_refl _) _⟩
  case round =>
    obtain ⟨k, hk, rfl, ho, hb⟩ := hrel
    by_cases hlt : k < s.size
    · have hc : s[k].toNat ≤ 255 := by have := s[k].toNat_lt; omega
      have hbs := hb.size
      have HD : Hid (digs (s.data.toList.take (k + 1)) = digs (s.data.toList.take k) ++ [digN s[k].toNat]) := Lib.hid (by rw [take_one s k hlt]; simp [digs])
      go_wp2_with (first | (go_at_call 57; (with_reducible refine (l01Digit_any _ _ hc).mono ?_); rintro e w' ⟨rfl, rfl⟩) | (at_builtin; refine wpList_append_own _ rfl _ _ 28 rfl w.heap.size 2 i0 (.int .i64 0) 1 8 Try.underlying28 hi hz0 hz1 hz2 rfl (by decide) _ _ _ rfl (ho.alloc _) ⟨wr.heap.size, 0, none⟩ 1 1 [.int .i64 (digN s[k].toNat)] rfl rfl (one_cell _ _ _) (fun u hu => by simp at hu; subst hu; rfl) ?c1 ?c2 ?c3 ?_))
      case c1 => unfold maxLen; omega
      case c2 => omega
      case c3 => simp; omega
      intro v3 w3 ho3 hg3 _
      have hbw3 : Below w.heap.size w w3 := Below.grown (hb.alloc (by omega) _) hg3 (by simp; omega) (fun j hj => (ho.lt j hj).1)
      have e3 : cells64 (digs (s.data.toList.take k)) ++ [Value.int .i64 (digN s[k].toNat)] = cells64 (digs (s.data.toList.take (k + 1))) := by
        rw [HD.out]; simp [cells64]
      rw [e3] at ho3
      have X : Hid (w3.ownsRow w.heap.size 2 1 v3 (k + 1) (cells64 (digs (s.data.toList.take (k + 1)))) ∧ Below w.heap.size w w3) := Lib.hid ⟨ho3, hbw3⟩
      clear ho3 hbw3 e3 hg3
      go_wp2
      go_roundw
      case rel => exact ⟨k + 1, by omega, by go_num, X.out.1, X.out.2⟩
      case measure => simp [intOf]; omega
    · obtain rfl : k = s.size := by omega
      go_wp2
      go_ret
      rw [List.take_of_length_le (by simp)] at ho
      have hv : ∃ A c, u3 = .slice A s.size c := by
        rcases ho.2 with ⟨hv, hn⟩ | ⟨g, cap, cur, hv, _⟩
        · exact ⟨none, 0, by rw [hv, hn]⟩
        · exact ⟨_, _, hv⟩
      obtain ⟨A, c, rfl⟩ := hv
      exact ⟨A, c, rfl, ⟨ho, digs_wf _⟩, hb⟩

theorem word_size {s : ByteArray} {base : Int} (h : wordB s base = true) : s.size ≤ 20 := by
  simp [wordB] at h; exact h.2.1
theorem dig_some {s : ByteArray} {base : Int} {w w' : World} {A : Option Addr} {c : Nat} (h : wordB s base = true) (ho : Own w.heap.size w' A s.size c (digs s.data.toList)) (hb : Below w.heap.size w w') :
    DigPost s base w (.returned (.tuple #[.slice A s.size c, .bool true])) w' := by
  have e : digR s base = digs s.data.toList := by simp [digR, h]
  have el : (digR s base).length = s.size := by rw [e, digs_len]; simp
  refine ⟨A, c, by rw [el, h], ?_, hb⟩
  rw [el, e]; exact ho
set_option maxHeartbeats 1000000 in
theorem specDigits_any (s : ByteArray) (base : Int) (w : World) (hs : s.size ≤ 1048576) :
    Calls Try.prog 29 #[.string s, .int .i64 base] w (DigPost s base w) := by
  have hs' : s.size ≤ maxLen := by unfold maxLen; omega
  rcases hw : wordB s base with _ | _
  · have HW := Lib.hid hw
    have C : ∀ W, Calls Try.prog 49 #[.string s, .int .i64 base] W fun e w' => e = .returned (.bool false) ∧ W = w' := fun W => hw ▸ l01Word_any s base W hs'
    clear hw
    go_enter Try.func29, Try.ntmps29
    go_wp2_with (go_at_call 49; (with_reducible refine (C _).mono ?_); rintro e w' ⟨rfl, rfl⟩)
    go_ret2
    exact dig_none HW.out (Below.refl _ _)
  · have HW := Lib.hid hw
    have C : ∀ W, Calls Try.prog 49 #[.string s, .int .i64 base] W fun e w' => e = .returned (.bool true) ∧ W = w' := fun W => hw ▸ l01Word_any s base W hs'
    clear hw
    go_enter Try.func29, Try.ntmps29
    go_wp2_with (first | (go_at_call 49; (with_reducible refine (C _).mono ?_); rintro e w' ⟨rfl, rfl⟩) | (go_at_call 50; (with_reducible refine (l01Digits_any _ _ hs).mono ?_); rintro e w' ⟨A, c, rfl, ho, hb⟩))
    go_ret2
    exact dig_some HW.out ho hb
set_option maxHeartbeats 400000 in
theorem specIsWord_any (s : ByteArray) (base : Int) (w : World) (hs : s.size ≤ maxLen) :
    Calls Try.prog 27 #[.string s, .int .i64 base] w fun e w' => e = .returned (.bool (wordB s base)) ∧ w = w' := by
  go_enter Try.func27, Try.ntmps27
  go_wp2_with (go_at_call 49; (with_reducible refine (l01Word_any _ _ _ hs).mono ?_); rintro e w' ⟨rfl, rfl⟩)
  go_ret
  exact ⟨rfl, rfl⟩
set_option maxHeartbeats 400000 in
theorem implIsWord_any (s : ByteArray) (base : Int) (w : World) (hs : s.size ≤ maxLen) :
    Calls Try.prog 28 #[.string s, .int .i64 base] w fun e w' => e = .returned (.bool (wordB s base)) ∧ Below w.heap.size w w' := by
  go_enter Try.func28, Try.ntmps28
  go_wp2_with (go_at_call 30; (with_reducible refine (implDigits_any _ _ _ hs).mono ?_); rintro e w' ⟨A, c, rfl, ho, hb⟩)
  go_ret
  exact ⟨rfl, hb⟩
set_option maxHeartbeats 400000 in
theorem isWord_walk (s : ByteArray) (base : Int) (w : World) (hs : s.size ≤ maxLen) :
    Calls Try.prog 7 #[.string s, .int .i64 base] w fun e w' => e = .returned (.bool true) ∧ Below w.heap.size w w' := by
  have hs' := hs
  unfold maxLen at hs'
  by_cases hlong : 1048576 < s.size
  · go_enter Try.func7, Try.ntmps7
    go_wp2
    go_ret
    exact ⟨rfl, Below.refl _ _⟩
  · go_enter Try.func7, Try.ntmps7
    go_wp2_with (first | (go_at_call 27; (with_reducible refine (specIsWord_any _ _ _ hs).mono ?_); rintro e w' ⟨rfl, rfl⟩) | (go_at_call 28; (with_reducible refine (implIsWord_any _ _ _ hs).mono ?_); rintro e w' ⟨rfl, hb⟩))
    go_ret
    exact ⟨rfl, hb⟩
set_option maxRecDepth 1000000 in
set_option maxHeartbeats 2000000 in
theorem digits_walk (s : ByteArray) (base : Int) (w : World) (hs : s.size ≤ maxLen) :
    Calls Try.prog 8 #[.string s, .int .i64 base] w fun e w' => e = .returned (.bool true) ∧ Below w.heap.size w w' := by
  have hs' := hs
  unfold maxLen at hs'
  have hle := digR_le s base
  by_cases hlong : 1048576 < s.size
  · go_enter Try.func8, Try.ntmps8
    go_wp2
    go_ret
    exact ⟨rfl, Below.refl _ _⟩
  · go_enter Try.func8, Try.ntmps8
    go_wp2_with fail
    (go_at_call 29; (with_reducible refine (specDigits_any _ _ _ (by omega)).mono ?_); rintro e w1 ⟨A0, c0, rfl, o0, b0⟩)
    go_wp2_with fail
    (go_at_call 30; (with_reducible refine (implDigits_any _ _ _ hs).mono ?_); rintro e w2 ⟨A1, c1, rfl, o1, b1⟩)
    go_wp2_with fail
    have r0 := RowB.below o0.row b1
    (go_at_call 31; (with_reducible refine (eqInt64S_any _ _ _ _ _ _ _ o1.row r0).mono ?_); rintro e w' ⟨rfl, m1, rfl⟩)
    go_wp2_with fail
    (go_at_call 32; (with_reducible refine (mark_any _ _ _ 1 1 rfl _ _ (o1.drewN m1) (by omega)).mono ?_); rintro e w3 ⟨rfl, o2, k1⟩)
    have r1 := (r0.drewN m1).below (k1.below o1.from)
    go_wp2_with fail
    (go_at_call 33; (with_reducible refine (held_any _ _ _ 1 1 rfl _ o2.row (by omega)).mono ?_); rintro e w' ⟨rfl, rfl⟩)
    go_wp2_with fail
    (go_at_call 30; (with_reducible refine (implDigits_any _ _ _ hs).mono ?_); rintro e w4 ⟨A3, c3, rfl, o3, b3⟩)
    have hs0 := b0.size
    have hs1 := b1.size
    have hs2 : w2.heap.size ≤ w3.heap.size := by have := k1.sz; omega
    have bel : Below w.heap.size w w4 :=
      ((b0.trans (b1.mono hs0)).trans (((below_drewN (Below.refl _ w2) m1).trans (k1.below (B := w.heap.size) (fun g hg => by have := o1.from g hg; omega))))).trans (b3.mono (by omega))
    have r2 := (r1.more (show w1.heap.size ≤ w3.heap.size by omega)).below b3
    have r3 := RowB.below o2.row b3
    clear hs0 hs1 hs2
    go_wp2_with fail
    (go_at_call 31; (with_reducible refine (eqInt64S_any _ _ _ _ _ _ _ o3.row r2).mono ?_); rintro e w' ⟨rfl, m2, rfl⟩)
    go_wp2_with fail
    (go_at_call 33; (with_reducible refine (held_any _ _ _ 1 1 rfl _ (r3.drewN m2) (by omega)).mono ?_); rintro e w' ⟨rfl, rfl⟩)
    go_wp2_with fail
    go_ret
    exact ⟨rfl, below_drewN bel m2⟩
end Go.Proofs.Ytlgoopjbjamlmaa
