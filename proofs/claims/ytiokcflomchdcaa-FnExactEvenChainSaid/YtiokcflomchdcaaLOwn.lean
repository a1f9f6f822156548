/-
  The model's copy of a slice of integers.
-/
import Derived.Test.YtiokcflomchdcaaOwn3
import Derived.Laws.AppendOwnNone
namespace Go.Proofs.Ytiokcflomchdcaa
open Go.RowKit

set_option maxHeartbeats 1000000 in
theorem l00Own_any {B : Nat} (A : Option Addr) (n c : Nat) (zs : List Int) (w : World) (hr : RowB .i64 B w A n zs) (hB : B ≤ w.heap.size) (hn : n ≤ 1048576) :
    Calls Try.prog 135 #[.slice A n c] w (Made w.heap.size n zs w) := by
  obtain ⟨i0, hi, hz0, hz1, hz2⟩ := info_parts info64
  have hl := hr.len
  obtain ⟨w1, hw1⟩ : ∃ w1, w1 = w.alloc (.cells #[] 2) := ⟨_, rfl⟩
  have be1 : Below w.heap.size w w1 := by rw [hw1]; exact (Below.refl _ w).alloc (Nat.le_refl _) _
  have o1 : w1.ownsRow w.heap.size 2 1 (.slice (some ⟨w.heap.size, 0, none⟩) 0 0) 0 [] := by
    rw [hw1]; exact World.ownsRow_made _ _ _ (Nat.le_refl _) (by unfold maxLen; omega) rfl
  have r1 := hr.below (be1.mono hB)
  have fin : ∀ v' w', w'.ownsRow w.heap.size 2 1 v' n (cells64 zs) → Below w.heap.size w1 w' → Made w.heap.size n zs w (.returned v') w' := by
    intro v' w' ho hb
    obtain ⟨A', c', rfl⟩ : ∃ A' c', v' = .slice A' n c' := by
      rcases ho.2 with ⟨hv, hn⟩ | ⟨g, cap, cur, hv, _⟩
      · exact ⟨_, _, by rw [hv, hn]⟩
      · exact ⟨_, _, hv⟩
    exact ⟨_, _, rfl, ⟨ho, hr.2.2.1⟩, be1.trans hb⟩
  have R1 := Lib.hid r1
  clear be1 r1
  rcases A with _ | ⟨⟨b, off, pth⟩⟩
  · obtain rfl : n = 0 := by
      rcases Nat.eq_zero_or_pos n with h | h
      · exact h
      · obtain ⟨_, _, e, _⟩ := hr.2.2.2 h
        cases e
    obtain rfl : zs = [] := List.eq_nil_of_length_eq_zero hl
    go_enter Try.func135, Try.ntmps135
    go_wp2_with fail
    rw [← hw1]
    go_ret
    exact fin _ _ o1 (Below.refl _ _)
  · go_enter Try.func135, Try.ntmps135
    go_wp2_with (at_builtin; refine wpList_append_own _ rfl _ _ 24 rfl w.heap.size 2 i0 (.int .i64 0) 1 8 Try.underlying24 hi hz0 hz1 hz2 rfl (by decide) (.slice (some ⟨w.heap.size, 0, none⟩) 0 0) 0 [] rfl (by rw [hw1] at o1; exact o1) ⟨b, off, pth⟩ n c (cells64 zs) rfl ?c0 ?c1 ?c2 ?d1 ?d2 ?d3 ?_)
    case c0 => simp [cells64, hl]
    case c1 =>
      intro j v hv
      have r2 := R1.out
      rw [hw1] at r2
      have hj := (List.getElem?_eq_some_iff.1 hv).1
      have hj : j < zs.length := by simpa [cells64] using hj
      obtain ⟨b1, o1, e1, _, hc1⟩ := r2.2.2.2 (by omega)
      have e1 := Option.some.inj e1
      have h3 := hc1 j (by omega)
      rw [e1, show (⟨b1, o1, none⟩ : Addr).add j = ⟨b1, o1 + j, none⟩ by simp [Addr.add], h3, ← hv]
      simp [cells64, List.getElem?_eq_getElem hj, List.getD]
    case c2 =>
      intro v hv
      obtain ⟨z, _, rfl⟩ := List.mem_map.1 hv
      rfl
    case d1 => unfold maxLen; omega
    case d2 => omega
    case d3 => simp
    intro v3 w3 ho3 hg3 _
    have X : Hid (Made w.heap.size n zs w (.returned v3) w3) := Lib.hid (fin v3 w3 (by simpa using ho3) (by
      rw [hw1]
      exact (Below.refl _ _).grown hg3 (by simp) (fun q hq => by simp [Value.ownBlock] at hq; omega)))
    clear ho3 hg3
    go_wp2
    go_ret
    exact X.out
end Go.Proofs.Ytiokcflomchdcaa
