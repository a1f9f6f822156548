/-
  Contracts of digitOf and of the library's IndexRune where it reaches it: the digit of a symbol, or -1.
-/
import Derived.Test.YtfmlmgebomapjabDoorBasic
import Derived.Test.YtfmlmgebomapjabDoorShelf
import Derived.Stop.FmtQuoteTie
import Derived.Deep.QuietTactic
import Derived.BigQuiet
import Derived.LoopN
namespace Go.Proofs.YtfmlmgebomapjabDoor
open Go.RowKit

abbrev syms : ByteArray := { data := #[48, 49, 50, 51, 52, 53, 54, 55, 56, 57, 65, 66, 67, 68, 69, 70, 71, 72, 73, 74, 75, 76, 77, 78, 79, 80, 81, 82, 83, 84, 85, 86, 87, 88, 89, 90] }
/-- The digit of a byte, or -1. -/
def digN (c : Nat) : Int := if 48 ≤ c ∧ c ≤ 57 then (c : Int) - 48 else if 65 ≤ c ∧ c ≤ 90 then (c : Int) - 55 else -1
theorem index_dig : ∀ c : Nat, c < 128 → Lib.indexByte syms.data.toList c.toUInt8 = digN c := by decide +kernel
theorem syms_low : ∀ k : Nat, (h : k < 36) → (syms[k]'h).toNat < 128 := by decide

set_option maxHeartbeats 400000 in
theorem digitOf_ascii (r : Nat) (w : World) (h1 : r < 128) :
    Calls Tryd.prog 36 #[.int .i32 r] w fun e w' => e = .returned (.int .i64 (digN r)) ∧ w = w' := by
  have C : Calls Tryd.prog 43 #[.string syms, .int .i32 r] w fun e w' => e = .returned (.int .i64 (digN r)) ∧ w = w' := by
    refine (Tryd.strings_IndexRune_ascii syms r w (by omega) (by omega)).mono ?_
    rintro e w' ⟨rfl, rfl⟩
    refine ⟨ret_int ?_, rfl⟩
    have := index_dig r h1
    simpa using this
  go_enter Tryd.func36, Tryd.ntmps36
  go_wp2_with (go_at_call 43; (with_reducible refine (C).mono ?_); rintro e w' ⟨rfl, rfl⟩)
  go_ret
  exact ⟨rfl, rfl⟩

set_option maxRecDepth 1000000 in
set_option maxHeartbeats 1000000 in
theorem indexRune_bad (w : World) :
    Calls Tryd.prog 43 #[.string syms, .int .i32 65533] w fun e w' => e = .returned (.int .i64 (-1)) ∧ Below w.heap.size w w' := by
  go_enter Tryd.func43, Tryd.ntmps43
  go_wp2
  go_loopw [5, 6] (fun _ _ wr => ∃ pos : Nat, wr = w.iter syms pos ∧ pos ≤ 36) (fun _ _ wr => 36 - wr.iterPos w.heap.size)
  case atStart => exact ⟨0, rfl, by omega⟩
  case round =>
    obtain ⟨pos, rfl, hp⟩ := hrel
    by_cases hlt : pos < 36
    · have hasc := syms_low pos hlt
      have hnx : ∀ ty, (Instr.next (.pointer (some ⟨w.heap.size, 0, none⟩)) true ty).run Tryd.prog (w.iter syms pos) = _ := fun ty => run_next_ascii w syms pos ty hlt hasc
      obtain ⟨v, hv⟩ : ∃ v, v = (syms[pos]'hlt).toNat := ⟨_, rfl⟩
      rw [← hv] at hnx hasc
      clear hv
      have t1 : ((v : Int) == 65533) = false := by simp; omega
      go_wp2
      go_roundw
      case rel => exact ⟨pos + 1, rfl, by omega⟩
      case measure => simp; omega
    · obtain rfl : pos = 36 := by omega
      have hnx : ∀ ty, (Instr.next (.pointer (some ⟨w.heap.size, 0, none⟩)) true ty).run Tryd.prog (w.iter syms 36) = _ := fun ty => run_next_end w syms 36 ty hlt
      go_wp2
      go_ret
      exact ⟨rfl, (Below.refl _ _).alloc (Nat.le_refl _) _⟩

theorem none_at : ∀ (l : List UInt8) (c : UInt8), (∀ b ∈ l, b.toNat < 128) → 128 ≤ c.toNat → Lib.indexByte l c = -1
  | [], _, _, _ => rfl
  | b :: l, c, h, hc => by
    have hb := h b (by simp)
    have hne : (b == c) = false := by
      rw [beq_eq_false_iff_ne]
      intro e
      rw [e] at hb
      omega
    have ih := none_at l c (fun x hx => h x (by simp [hx])) hc
    simp [Lib.indexByte, hne, ih]
theorem syms_mem : ∀ b ∈ syms.data.toList, b.toNat < 128 := by decide
theorem cut_mem (i j : Nat) : ∀ b ∈ (syms.extract i j).data.toList, b.toNat < 128 := by
  intro b hb
  refine syms_mem b ?_
  rw [ByteArray.data_extract, Array.toList_extract] at hb
  exact List.mem_of_mem_drop (List.mem_of_mem_take hb)

set_option maxRecDepth 1000000 in
set_option maxHeartbeats 1000000 in
theorem indexRune_two (r : Nat) (b0 b1 : UInt8) (w : World) (h1 : 128 ≤ r) (h2 : r ≠ 65533) (hv : Lib.validRune r = true) (hb : 128 ≤ b1.toNat)
    (hc : ∀ w : World, (convert 21 9 (.int .i32 r)).run Tryd.prog w = .ok (.string ⟨#[b0, b1]⟩) w) :
    Calls Tryd.prog 43 #[.string syms, .int .i32 r] w fun e w' => e = .returned (.int .i64 (-1)) ∧ Below w.heap.size w w' := by
  have V : Calls Tryd.prog 47 #[.int .i32 r] w fun e w' => e = .returned (.bool true) ∧ w = w' := by
    refine (Tryd.utf8_ValidRune r w).mono ?_
    rintro e w' ⟨rfl, rfl⟩
    exact ⟨by rw [hv], rfl⟩
  have t1 : ((r : Int) == 65533) = false := by simp; omega
  have t3 : ((syms[1].toNat : Int) != ((({ data := #[b0, b1] } : ByteArray)[1]'(by show 1 < 2; decide)).toNat : Int)) = true := by
    show ((49 : Int) != (b1.toNat : Int)) = true
    simp; omega
  have X : ∀ W (i j : Nat), Calls Tryd.prog 46 #[.string (syms.extract i j), .int .u8 ((({ data := #[b0, b1] } : ByteArray)[1]'(by show 1 < 2; decide)).toNat : Int)] W fun e w' => e = .returned (.int .i64 (-1)) ∧ w' = W := by
    intro W i j
    refine (Tryd.strings_IndexByte (syms.extract i j) b1.toNat W).mono ?_
    rintro e w' ⟨rfl, rfl⟩
    refine ⟨ret_int ?_, rfl⟩
    have e1 : ((b1.toNat : Int)).toNat.toUInt8 = b1 := by simp
    rw [e1]
    exact none_at _ _ (cut_mem i j) hb
  go_enter Tryd.func43, Tryd.ntmps43
  go_wp2_with (go_at_call 47; (with_reducible refine (V).mono ?_); rintro e w' ⟨rfl, rfl⟩)
  go_step3
  go_wp2
  refine wp_loop_rounds 1 ?_
  rw [rounds_succ]
  go_wp2
  go_step3
  go_wp2
  go_quiet (fail)
  go_wp2
  go_quiet ((go_at_call 46; exact (X _ _ _).mono fun _ _ ⟨he, hm⟩ => ⟨he, _, hm⟩))
  go_wp2
  rw [Exit.noGoto_ret]
  go_wp2
  rw [Exit.noGoto_ret]
  go_ret
  exact ⟨rfl, (Below.refl w.heap.size w).trans ⟨rfl, rfl, rfl, Nat.le_refl _, fun _ _ => rfl⟩⟩
set_option maxRecDepth 1000000 in
set_option maxHeartbeats 1000000 in
theorem indexRune_three (r : Nat) (b0 b1 b2 : UInt8) (w : World) (h1 : 128 ≤ r) (h2 : r ≠ 65533) (hv : Lib.validRune r = true) (hb : 128 ≤ b2.toNat)
    (hc : ∀ w : World, (convert 21 9 (.int .i32 r)).run Tryd.prog w = .ok (.string ⟨#[b0, b1, b2]⟩) w) :
    Calls Tryd.prog 43 #[.string syms, .int .i32 r] w fun e w' => e = .returned (.int .i64 (-1)) ∧ Below w.heap.size w w' := by
  have V : Calls Tryd.prog 47 #[.int .i32 r] w fun e w' => e = .returned (.bool true) ∧ w = w' := by
    refine (Tryd.utf8_ValidRune r w).mono ?_
    rintro e w' ⟨rfl, rfl⟩
    exact ⟨by rw [hv], rfl⟩
  have t1 : ((r : Int) == 65533) = false := by simp; omega
  have t3 : ((syms[2].toNat : Int) != ((({ data := #[b0, b1, b2] } : ByteArray)[2]'(by show 2 < 3; decide)).toNat : Int)) = true := by
    show ((50 : Int) != (b2.toNat : Int)) = true
    simp; omega
  have X : ∀ W (i j : Nat), Calls Tryd.prog 46 #[.string (syms.extract i j), .int .u8 ((({ data := #[b0, b1, b2] } : ByteArray)[2]'(by show 2 < 3; decide)).toNat : Int)] W fun e w' => e = .returned (.int .i64 (-1)) ∧ w' = W := by
    intro W i j
    refine (Tryd.strings_IndexByte (syms.extract i j) b2.toNat W).mono ?_
    rintro e w' ⟨rfl, rfl⟩
    refine ⟨ret_int ?_, rfl⟩
    have e1 : ((b2.toNat : Int)).toNat.toUInt8 = b2 := by simp
    rw [e1]
    exact none_at _ _ (cut_mem i j) hb
  go_enter Tryd.func43, Tryd.ntmps43
  go_wp2_with (go_at_call 47; (with_reducible refine (V).mono ?_); rintro e w' ⟨rfl, rfl⟩)
  go_step3
  go_wp2
  refine wp_loop_rounds 1 ?_
  rw [rounds_succ]
  go_wp2
  go_step3
  go_wp2
  go_quiet (fail)
  go_wp2
  go_quiet ((go_at_call 46; exact (X _ _ _).mono fun _ _ ⟨he, hm⟩ => ⟨he, _, hm⟩))
  go_wp2
  rw [Exit.noGoto_ret]
  go_wp2
  rw [Exit.noGoto_ret]
  go_ret
  exact ⟨rfl, (Below.refl w.heap.size w).trans ⟨rfl, rfl, rfl, Nat.le_refl _, fun _ _ => rfl⟩⟩
set_option maxRecDepth 1000000 in
set_option maxHeartbeats 1000000 in
theorem indexRune_four (r : Nat) (b0 b1 b2 b3 : UInt8) (w : World) (h1 : 128 ≤ r) (h2 : r ≠ 65533) (hv : Lib.validRune r = true) (hb : 128 ≤ b3.toNat)
    (hc : ∀ w : World, (convert 21 9 (.int .i32 r)).run Tryd.prog w = .ok (.string ⟨#[b0, b1, b2, b3]⟩) w) :
    Calls Tryd.prog 43 #[.string syms, .int .i32 r] w fun e w' => e = .returned (.int .i64 (-1)) ∧ Below w.heap.size w w' := by
  have V : Calls Tryd.prog 47 #[.int .i32 r] w fun e w' => e = .returned (.bool true) ∧ w = w' := by
    refine (Tryd.utf8_ValidRune r w).mono ?_
    rintro e w' ⟨rfl, rfl⟩
    exact ⟨by rw [hv], rfl⟩
  have t1 : ((r : Int) == 65533) = false := by simp; omega
  have t3 : ((syms[3].toNat : Int) != ((({ data := #[b0, b1, b2, b3] } : ByteArray)[3]'(by show 3 < 4; decide)).toNat : Int)) = true := by
    show ((51 : Int) != (b3.toNat : Int)) = true
    simp; omega
  have X : ∀ W (i j : Nat), Calls Tryd.prog 46 #[.string (syms.extract i j), .int .u8 ((({ data := #[b0, b1, b2, b3] } : ByteArray)[3]'(by show 3 < 4; decide)).toNat : Int)] W fun e w' => e = .returned (.int .i64 (-1)) ∧ w' = W := by
    intro W i j
    refine (Tryd.strings_IndexByte (syms.extract i j) b3.toNat W).mono ?_
    rintro e w' ⟨rfl, rfl⟩
    refine ⟨ret_int ?_, rfl⟩
    have e1 : ((b3.toNat : Int)).toNat.toUInt8 = b3 := by simp
    rw [e1]
    exact none_at _ _ (cut_mem i j) hb
  go_enter Tryd.func43, Tryd.ntmps43
  go_wp2_with (go_at_call 47; (with_reducible refine (V).mono ?_); rintro e w' ⟨rfl, rfl⟩)
  go_step3
  go_wp2
  refine wp_loop_rounds 1 ?_
  rw [rounds_succ]
  go_wp2
  go_step3
  go_wp2
  go_quiet (fail)
  go_wp2
  go_quiet ((go_at_call 46; exact (X _ _ _).mono fun _ _ ⟨he, hm⟩ => ⟨he, _, hm⟩))
  go_wp2
  rw [Exit.noGoto_ret]
  go_wp2
  rw [Exit.noGoto_ret]
  go_ret
  exact ⟨rfl, (Below.refl w.heap.size w).trans ⟨rfl, rfl, rfl, Nat.le_refl _, fun _ _ => rfl⟩⟩

set_option maxRecDepth 1000000 in
set_option maxHeartbeats 1000000 in
theorem indexRune_none (r : Nat) (w : World) (h1 : 128 ≤ r) (h2 : r ≠ 65533) (hv : Lib.validRune r = false) :
    Calls Tryd.prog 43 #[.string syms, .int .i32 r] w fun e w' => e = .returned (.int .i64 (-1)) ∧ Below w.heap.size w w' := by
  have V : Calls Tryd.prog 47 #[.int .i32 r] w fun e w' => e = .returned (.bool false) ∧ w = w' := by
    refine (Tryd.utf8_ValidRune r w).mono ?_
    rintro e w' ⟨rfl, rfl⟩
    exact ⟨by rw [hv], rfl⟩
  have t1 : ((r : Int) == 65533) = false := by simp; omega
  go_enter Tryd.func43, Tryd.ntmps43
  go_wp2_with (go_at_call 47; (with_reducible refine (V).mono ?_); rintro e w' ⟨rfl, rfl⟩)
  go_ret
  exact ⟨rfl, Below.refl _ _⟩

theorem byte_of (l : List UInt8) (b : ByteArray) (h : b.data.toList = l) : b = ⟨l.toArray⟩ := by
  obtain ⟨d⟩ := b
  simp only at h
  rw [← h]

theorem indexRune_high (r : Nat) (w : World) (h1 : 128 ≤ r) :
    Calls Tryd.prog 43 #[.string syms, .int .i32 r] w fun e w' => e = .returned (.int .i64 (-1)) ∧ Below w.heap.size w w' := by
  by_cases e : r = 65533
  · subst e; exact indexRune_bad w
  · rcases hv : Lib.validRune (r : Int) with _ | _
    · exact indexRune_none r w h1 e hv
    · have hv' : (0 ≤ (r : Int) ∧ (r : Int) < 55296) ∨ (57343 < (r : Int) ∧ (r : Int) ≤ 1114111) := by simpa [Lib.validRune] using hv
      have hc : ∀ w : World, (convert 21 9 (.int .i32 r)).run Tryd.prog w = .ok (.string (Utf8.encode r)) w := by
        intro w
        simp [convert, run_underlying Tryd.underlying21, run_underlying Tryd.underlying9, go_sem, Conv.intToString]
      by_cases c2 : r < 2048
      · have ee := byte_of _ _ (Go.Extern.FmtText.enc2 r (by omega) c2)
        rw [ee] at hc
        exact indexRune_two r _ _ w h1 e hv (by simp; omega) hc
      · by_cases c3 : r < 65536
        · have ee := byte_of _ _ (Go.Extern.FmtText.enc3 r c2 c3 (by omega))
          rw [ee] at hc
          exact indexRune_three r _ _ _ w h1 e hv (by simp; omega) hc
        · have ee := byte_of _ _ (Go.Extern.FmtText.enc4 r c3 (by omega))
          rw [ee] at hc
          exact indexRune_four r _ _ _ _ w h1 e hv (by simp; omega) hc

set_option maxHeartbeats 400000 in
theorem digitOf_high (r : Nat) (w : World) (h1 : 128 ≤ r) :
    Calls Tryd.prog 36 #[.int .i32 r] w fun e w' => e = .returned (.int .i64 (-1)) ∧ Below w.heap.size w w' := by
  go_enter Tryd.func36, Tryd.ntmps36
  go_wp2_with (go_at_call 43; (with_reducible refine (indexRune_high r _ h1).mono ?_); rintro e w' ⟨rfl, hb⟩)
  go_ret
  exact ⟨rfl, hb⟩
end Go.Proofs.YtfmlmgebomapjabDoor
