/-
  Rows of costs: of a beginning of one text to each beginning of another one.
-/
import Derived.Test.YtfmlmgebomapjabEdM
import Derived.Test.YtfmlmgebomapjabOwnK
import Derived.IntWalk
namespace Go.Proofs.Ytfmlmgebomapjab
open Go.RowKit

/-- The cost to make the first j bytes of b out of p. -/
def cT (p : List UInt8) (b : ByteArray) (j : Nat) : Nat := lev false p.reverse (b.data.toList.take j).reverse
theorem cT_zero (b : ByteArray) {j : Nat} (hj : j ≤ b.size) : cT [] b j = j := by
  unfold cT; rw [List.reverse_nil, lev_nil]; simp; omega
theorem cT_zero' (p : List UInt8) (b : ByteArray) : cT p b 0 = p.length := by
  unfold cT; rw [List.take_zero, List.reverse_nil, lev_nil']; simp
theorem snoc_rev (p : List UInt8) (c : UInt8) : (p ++ [c]).reverse = c :: p.reverse := by simp
theorem cT_same {p : List UInt8} {b : ByteArray} {j : Nat} {c : UInt8} (hj : b.data.toList[j]? = some c) : cT (p ++ [c]) b (j + 1) = cT p b j := by
  unfold cT; rw [take_rev hj, snoc_rev, lev_same]
theorem cT_diff {p : List UInt8} {b : ByteArray} {j : Nat} {c d : UInt8} (hj : b.data.toList[j]? = some d) (h : ¬ c = d) :
    cT (p ++ [c]) b (j + 1) = 1 + min (min (cT p b j) (cT p b (j + 1))) (cT (p ++ [c]) b j) := by
  unfold cT; rw [take_rev hj, snoc_rev, lev_diff h]
theorem cT_step {p : List UInt8} {b : ByteArray} {j : Nat} {c d : UInt8} (hj : b.data.toList[j]? = some d) :
    cT (p ++ [c]) b (j + 1) = min (cT p b j + ne01 c d) (min (cT p b (j + 1)) (cT (p ++ [c]) b j) + 1) := by
  unfold cT; rw [take_rev hj, snoc_rev, lev_f]; omega
theorem cT_all (p : List UInt8) (b : ByteArray) : cT p b b.size = lev false p b.data.toList := by
  unfold cT; rw [List.take_of_length_le (by simp)]; exact lev_rev _ p _ (Nat.le_refl _)
theorem cT_le {p : List UInt8} {b : ByteArray} (j : Nat) (hp : p.length ≤ 20) (hb : b.size ≤ 20) : cT p b j ≤ 20 := by
  have := lev_max false p.reverse (b.data.toList.take j).reverse
  unfold cT
  simp only [List.length_reverse, List.length_take, Array.length_toList] at this
  have h2 : b.data.size = b.size := rfl
  omega

def cRow (p : List UInt8) (b : ByteArray) : List Int := (List.range (b.size + 1)).map fun j => ((cT p b j : Nat) : Int)
theorem cRow_len (p : List UInt8) (b : ByteArray) : (cRow p b).length = b.size + 1 := by simp [cRow]
theorem cRow_at (p : List UInt8) (b : ByteArray) {j : Nat} (h : j < b.size + 1) : (cRow p b)[j]? = some ((cT p b j : Nat) : Int) := by
  unfold cRow; simp [h]
theorem cRow_wf {p : List UInt8} {b : ByteArray} (hp : p.length ≤ 20) (hb : b.size ≤ 20) : ∀ z ∈ cRow p b, (Lit.int .i64 z).wf = true := by
  intro z hz
  unfold cRow at hz
  obtain ⟨j, _, rfl⟩ := List.mem_map.1 hz
  have := cT_le j hp hb
  exact WalkArith.wf_i64 (by omega)
theorem byte_atD {s : ByteArray} {i : Nat} (h : i < s.size) : s.data.toList[i]? = some s[i] := by
  rw [List.getElem?_eq_getElem (by simpa using h)]; rfl
theorem take_nextD (s : ByteArray) (k : Nat) (h : k < s.size) : s.data.toList.take (k + 1) = s.data.toList.take k ++ [s[k]] := by
  rw [List.take_succ_eq_append_getElem (by simpa using h)]; rfl
theorem one_cellD (w : World) (x : Value) (t : TypeId) : ∀ j u, [x][j]? = some u → (w.alloc (.cells #[x] t)).cell? ((⟨w.heap.size, 0, none⟩ : Addr).add j) = some u := by
  intro j u hj
  match j, hj with
  | 0, hj => simp at hj; subst hj; simp [Addr.add]
  | j + 1, hj => simp at hj
theorem slice_ofD {w : World} {B n : Nat} {v : Value} {xs : List Value} (h : w.ownsRow B 2 1 v n xs) : ∃ A c, v = .slice A n c := by
  rcases h.2 with ⟨h1, h2⟩ | ⟨g, cap, cur, h1, _⟩
  · exact ⟨_, _, by rw [h1, h2]⟩
  · exact ⟨_, _, h1⟩

/-- A row of costs of the call's own. -/
def CRow (B : Nat) (w : World) (A : Option Addr) (c : Nat) (p : List UInt8) (b : ByteArray) : Prop :=
  w.ownsRow B 2 1 (.slice A (b.size + 1) c) (b.size + 1) (cells64 (cRow p b))
def GotRow (p : List UInt8) (b : ByteArray) (w : World) (e : Ending) (w' : World) : Prop :=
  ∃ A c, e = .returned (.slice A (b.size + 1) c) ∧ CRow w.heap.size w' A c p b ∧ Below w.heap.size w w'
theorem CRow.below {B : Nat} {w w' : World} {A : Option Addr} {c : Nat} {p : List UInt8} {b : ByteArray} (h : CRow B w A c p b) (hb : Below w.heap.size w w') : CRow B w' A c p b :=
  ownsRow_keep h (fun g hg => hb.block g (by subst hg; exact (World.ownsRow.lt h g rfl).2))
theorem CRow.lower {B B' : Nat} {w : World} {A : Option Addr} {c : Nat} {p : List UInt8} {b : ByteArray} (h : CRow B w A c p b) (hb : B' ≤ B) : CRow B' w A c p b := ownsRow_lower h hb
theorem CRow.form {B : Nat} {w : World} {A : Option Addr} {c : Nat} {p : List UInt8} {b : ByteArray} (h : CRow B w A c p b) : ∃ g, A = some ⟨g, 0, none⟩ ∧ B ≤ g ∧ g < w.heap.size ∧ b.size + 1 ≤ c ∧ c ≤ maxLen := by
  rcases ownsRow_form h with ⟨_, h0, _⟩ | h
  · omega
  · exact h
theorem CRow.cell {B : Nat} {w : World} {g c : Nat} {p : List UInt8} {b : ByteArray} (h : CRow B w (some ⟨g, 0, none⟩) c p b) {j : Nat} (hj : j < b.size + 1) : w.cell? ⟨g, j, none⟩ = some (.int .i64 ((cT p b j : Nat) : Int)) := by
  have h1 := World.ownsRow.cellAt h j (by omega)
  rw [h1, cells64, List.getElem?_map, cRow_at p b hj]; rfl
end Go.Proofs.Ytfmlmgebomapjab
