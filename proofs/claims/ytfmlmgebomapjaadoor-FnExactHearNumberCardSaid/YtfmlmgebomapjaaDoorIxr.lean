/-
  The library's IndexRune over a text of plain bytes: the place of a plain rune, and -1 for any other.
-/
import Derived.Test.YtfmlmgebomapjaaDoorBasic
import Derived.Test.YtfmlmgebomapjaaDoorShelf
import Derived.Laws.Runes
import Derived.Deep.QuietTactic
import Derived.BigQuiet
import Derived.LoopN
namespace Go.Proofs.YtfmlmgebomapjaaDoor
open Go Go.RowKit

def plainB (s : ByteArray) : Prop := ∀ b ∈ s.data.toList, b.toNat < 128
theorem plain_at {s : ByteArray} (h : plainB s) (k : Nat) (hk : k < s.size) : (s[k]'hk).toNat < 128 := h _ (by simp [ByteArray.getElem_eq_getElem_data])
theorem none_atI : ∀ (l : List UInt8) (c : UInt8), (∀ b ∈ l, b.toNat < 128) → 128 ≤ c.toNat → Lib.indexByte l c = -1
  | [], _, _, _ => rfl
  | b :: l, c, h, hc => by
    have hb := h b (by simp)
    have hne : (b == c) = false := by
      rw [beq_eq_false_iff_ne]
      intro e
      rw [e] at hb
      omega
    have ih := none_atI l c (fun x hx => h x (by simp [hx])) hc
    simp [Lib.indexByte, hne, ih]
theorem plain_cut {s : ByteArray} (h : plainB s) (i j : Nat) : ∀ b ∈ (s.extract i j).data.toList, b.toNat < 128 := by
  intro b hb
  refine h b ?_
  rw [ByteArray.data_extract, Array.toList_extract] at hb
  exact List.mem_of_mem_drop (List.mem_of_mem_take hb)

set_option maxRecDepth 1000000 in
set_option maxHeartbeats 1000000 in
theorem ixr_bad (s : ByteArray) (w : World) (hp : plainB s) (hs : s.size ≤ 1000) :
    Calls Tryd.prog 87 #[.string s, .int .i32 65533] w fun e w' => e = .returned (.int .i64 (-1)) ∧ Below w.heap.size w w' := by
  go_enter Tryd.func87, Tryd.ntmps87
  go_wp2
  go_loopw [5, 6] (fun _ _ wr => ∃ pos : Nat, wr = w.iter s pos ∧ pos ≤ s.size) (fun _ _ wr => s.size - wr.iterPos w.heap.size)
  case atStart => exact ⟨0, rfl, by omega⟩
  case round =>
    obtain ⟨pos, rfl, hpp⟩ := hrel
    by_cases hlt : pos < s.size
    · have hasc := plain_at hp pos hlt
      have hnx : ∀ ty, (Instr.next (.pointer (some ⟨w.heap.size, 0, none⟩)) true ty).run Tryd.prog (w.iter s pos) = _ := fun ty => run_next_ascii w s pos ty hlt hasc
      obtain ⟨v, hv⟩ : ∃ v, v = (s[pos]'hlt).toNat := ⟨_, rfl⟩
      rw [← hv] at hnx hasc
      clear hv
      have t1 : ((v : Int) == 65533) = false := by simp; omega
      go_wp2
      go_roundw
      case rel => exact ⟨pos + 1, rfl, by omega⟩
      case measure => simp; omega
    · obtain rfl : pos = s.size := by omega
      have hnx : ∀ ty, (Instr.next (.pointer (some ⟨w.heap.size, 0, none⟩)) true ty).run Tryd.prog (w.iter s s.size) = _ := fun ty => run_next_end w s s.size ty hlt
      go_wp2
      go_ret
      exact ⟨rfl, (Below.refl _ _).alloc (Nat.le_refl _) _⟩
set_option maxRecDepth 1000000 in
set_option maxHeartbeats 1000000 in
theorem ixr_invalid (s : ByteArray) (r : Nat) (w : World) (h1 : 128 ≤ r) (h2 : r ≠ 65533) (hv : Lib.validRune r = false) :
    Calls Tryd.prog 87 #[.string s, .int .i32 r] w fun e w' => e = .returned (.int .i64 (-1)) ∧ Below w.heap.size w w' := by
  have V : Calls Tryd.prog 105 #[.int .i32 r] w fun e w' => e = .returned (.bool false) ∧ w = w' := by
    refine (Tryd.utf8_ValidRune r w).mono ?_
    rintro e w' ⟨rfl, rfl⟩
    exact ⟨by rw [hv], rfl⟩
  have t1 : ((r : Int) == 65533) = false := by simp; omega
  clear hv
  go_enter Tryd.func87, Tryd.ntmps87
  go_wp2_with (go_at_call 105; (with_reducible refine (V).mono ?_); rintro e w' ⟨rfl, rfl⟩)
  go_ret
  exact ⟨rfl, Below.refl _ _⟩
end Go.Proofs.YtfmlmgebomapjaaDoor
