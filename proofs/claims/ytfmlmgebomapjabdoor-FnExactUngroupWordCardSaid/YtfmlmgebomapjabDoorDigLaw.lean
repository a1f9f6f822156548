/-
  The walks of the laws of IsWordOf and DigitsOf.
-/
import Derived.Test.YtfmlmgebomapjabDoorDigits
namespace Go.Proofs.YtfmlmgebomapjabDoor
open Go.RowKit

theorem word_size {s : ByteArray} {base : Int} (h : wordB s base = true) : s.size ≤ 20 := by
  simp [wordB] at h; exact h.2.1
theorem dig_some {s : ByteArray} {base : Int} {w w' : World} {A : Option Addr} {c : Nat} (h : wordB s base = true) (ho : Own w.heap.size w' A s.size c (digs s.data.toList)) (hb : Below w.heap.size w w') :
    DigPost s base w (.returned (.tuple #[.slice A s.size c, .bool true])) w' := by
  have e : digR s base = digs s.data.toList := by simp [digR, h]
  have el : (digR s base).length = s.size := by rw [e, digs_len]; simp
  refine ⟨A, c, by rw [el, h], ?_, hb⟩
  rw [el, e]; exact ho
end Go.Proofs.YtfmlmgebomapjabDoor
