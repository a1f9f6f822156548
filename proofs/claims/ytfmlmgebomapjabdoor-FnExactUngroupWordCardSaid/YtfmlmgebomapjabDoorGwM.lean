/-
  Groups of a word: the pieces that sizes make, and these with marks between them.
-/
import Derived.Test.YtfmlmgebomapjabDoorDigLaw
import Derived.Lib.Join
namespace Go.Proofs.YtfmlmgebomapjabDoor
open Go.RowKit

def szOk (z : Int) : Bool := inB z 1 20
/-- The sum of the first sizes. -/
def psum (zs : List Int) (k : Nat) : Int := (zs.take k).sum
theorem psum_zero (zs : List Int) : psum zs 0 = 0 := rfl
theorem psum_succ {zs : List Int} {k : Nat} {z : Int} (h : zs[k]? = some z) : psum zs (k + 1) = psum zs k + z := by
  unfold psum; rw [List.take_add_one, h]; simp
theorem psum_all (zs : List Int) : psum zs zs.length = zs.sum := by unfold psum; rw [List.take_length]
theorem psum_step {zs : List Int} (hz : zs.all szOk = true) {k : Nat} (hk : k < zs.length) : psum zs k + 1 ≤ psum zs (k + 1) ∧ psum zs (k + 1) ≤ psum zs k + 20 := by
  have h : zs[k]? = some zs[k] := List.getElem?_eq_getElem hk
  rw [psum_succ h]
  have h2 := inB_true.1 (List.all_eq_true.1 hz _ (List.mem_of_getElem? h))
  omega
theorem psum_bd {zs : List Int} (hz : zs.all szOk = true) : ∀ k, k ≤ zs.length → (k : Int) ≤ psum zs k ∧ psum zs k ≤ 20 * k := by
  intro k
  induction k with
  | zero => intro _; rw [psum_zero]; omega
  | succ k ih =>
    intro hk
    have h1 := ih (by omega)
    have h2 := psum_step hz (k := k) (by omega)
    omega
theorem psum_mono {zs : List Int} (hz : zs.all szOk = true) {j k : Nat} (hjk : j ≤ k) (hk : k ≤ zs.length) : psum zs j ≤ psum zs k := by
  induction k with
  | zero => obtain rfl : j = 0 := by omega
            exact Int.le_refl _
  | succ k ih =>
    by_cases h : j = k + 1
    · subst h; exact Int.le_refl _
    · have h1 := ih (by omega) (by omega)
      have h2 := psum_step hz (k := k) (by omega)
      omega
/-- The numbers are sizes of groups. -/
def szsOk (zs : List Int) : Bool := decide (1 ≤ zs.length ∧ zs.length ≤ 10) && zs.all szOk
def gwOk (s : ByteArray) (zs : List Int) : Bool := szsOk zs && (wordB s 36 && decide (zs.sum = (s.size : Int)))
/-- The piece with an index. -/
def pc (s : ByteArray) (zs : List Int) (k : Nat) : ByteArray := s.extract (psum zs k).toNat (psum zs (k + 1)).toNat
def pcs (s : ByteArray) (zs : List Int) : List ByteArray := (List.range zs.length).map (pc s zs)
theorem pcs_len (s : ByteArray) (zs : List Int) : (pcs s zs).length = zs.length := by simp [pcs]
theorem pcs_at (s : ByteArray) {zs : List Int} {k : Nat} (h : k < zs.length) : (pcs s zs)[k]? = some (pc s zs k) := by simp [pcs, h]
/-- Texts with a mark between two of them. -/
def jn (xs : List ByteArray) : ByteArray := ⟨(Lib.join (xs.map (·.data.toList)) [45]).toArray⟩
def gwT (s : ByteArray) (zs : List Int) : ByteArray := if gwOk s zs = true then jn (pcs s zs) else ByteArray.empty
theorem jn_nil : jn [] = ByteArray.empty := rfl
theorem bytes_eq {a b : ByteArray} (h : a.data.toList = b.data.toList) : a = b := ByteArray.ext (Array.toList_inj.1 h)
theorem jn_zero {xs : List ByteArray} {x : ByteArray} (h : xs[0]? = some x) : jn (xs.take 1) = jn (xs.take 0) ++ x := by
  rcases xs with _ | ⟨y, xs⟩
  · simp at h
  · simp at h
    subst h
    apply bytes_eq
    simp [jn, Lib.join_one, Lib.join_nil]
theorem jn_succ {xs : List ByteArray} {k : Nat} {x : ByteArray} (hk : 0 < k) (h : xs[k]? = some x) : jn (xs.take (k + 1)) = jn (xs.take k) ++ ⟨#[45]⟩ ++ x := by
  rcases xs with _ | ⟨y, xs⟩
  · simp at h
  · obtain ⟨j, rfl⟩ : ∃ j, k = j + 1 := ⟨k - 1, by omega⟩
    simp at h
    apply bytes_eq
    simp only [jn, List.take_succ_cons, List.map_cons, Lib.join_cons, ByteArray.data_append, Array.toList_append, List.map_take]
    rw [Lib.joinTail_take_succ [45] (xs.map (·.data.toList)) j x.data.toList (by simp [h])]
    simp [List.append_assoc]
theorem pc_size {s : ByteArray} {zs : List Int} (hz : zs.all szOk = true) {k : Nat} (hk : k < zs.length) : (pc s zs k).size ≤ 20 := by
  have h1 := psum_step hz hk
  have h2 := psum_bd hz k (by omega)
  simp only [pc, ByteArray.size_extract]
  omega
theorem jn_size {s : ByteArray} {zs : List Int} (hz : zs.all szOk = true) : ∀ k, k ≤ zs.length → (jn ((pcs s zs).take k)).size ≤ 21 * k := by
  intro k
  induction k with
  | zero => intro _; rw [List.take_zero, jn_nil]; simp
  | succ k ih =>
    intro hk
    have h1 := ih (by omega)
    have h2 := pc_size (s := s) hz (k := k) (by omega)
    have h3 : (⟨#[45]⟩ : ByteArray).size = 1 := rfl
    by_cases h0 : k = 0
    · subst h0
      rw [jn_zero (pcs_at s (by omega)), ByteArray.size_append]; omega
    · rw [jn_succ (by omega) (pcs_at s (by omega)), ByteArray.size_append, ByteArray.size_append, h3]; omega
theorem gw_sizes {s : ByteArray} {zs : List Int} (h : szsOk zs = false) : gwOk s zs = false := by simp [gwOk, h]
theorem gw_word {s : ByteArray} {zs : List Int} (h : wordB s 36 = false) : gwOk s zs = false := by simp [gwOk, h]
theorem gw_sum {s : ByteArray} {zs : List Int} (h : zs.sum ≠ (s.size : Int)) : gwOk s zs = false := by simp [gwOk, h]
theorem gw_yes {s : ByteArray} {zs : List Int} (h1 : szsOk zs = true) (h2 : wordB s 36 = true) (h3 : zs.sum = (s.size : Int)) : gwOk s zs = true := by simp [gwOk, h1, h2, h3]
theorem gwT_no {s : ByteArray} {zs : List Int} (h : gwOk s zs = false) : gwT s zs = ByteArray.empty := by unfold gwT; rw [h]; rfl
theorem gwT_yes {s : ByteArray} {zs : List Int} (h : gwOk s zs = true) : gwT s zs = jn (pcs s zs) := by unfold gwT; rw [if_pos h]
/-- What is left of the word behind the first pieces. -/
def rst (s : ByteArray) (zs : List Int) (k : Nat) : ByteArray := s.extract (psum zs k).toNat s.size
theorem rst_zero (s : ByteArray) (zs : List Int) : rst s zs 0 = s := by
  unfold rst; rw [psum_zero]; apply bytes_eq; simp
theorem rst_size {s : ByteArray} {zs : List Int} {k : Nat} (h0 : 0 ≤ psum zs k) (h : psum zs k ≤ s.size) : ((rst s zs k).size : Int) = s.size - psum zs k := by
  simp only [rst, ByteArray.size_extract]; omega
theorem rst_head {s : ByteArray} {zs : List Int} {k : Nat} {z : Int} (h : zs[k]? = some z) (h0 : 0 ≤ psum zs k) (hz : 0 ≤ z) (hs : psum zs k + z ≤ s.size) : (rst s zs k).extract 0 z.toNat = pc s zs k := by
  unfold rst pc
  rw [ByteArray.extract_extract, psum_succ h]
  congr 1
  omega
theorem rst_tail {s : ByteArray} {zs : List Int} {k : Nat} {z : Int} (h : zs[k]? = some z) (h0 : 0 ≤ psum zs k) (hz : 0 ≤ z) (hs : psum zs k + z ≤ s.size) : (rst s zs k).extract z.toNat (rst s zs k).size = rst s zs (k + 1) := by
  have h1 := rst_size h0 (show psum zs k ≤ s.size by omega)
  have e : rst s zs (k + 1) = s.extract (psum zs k + z).toNat s.size := by unfold rst; rw [psum_succ h]
  rw [e]
  generalize hR : (rst s zs k).size = R at *
  unfold rst
  rw [ByteArray.extract_extract]
  congr 1 <;> omega
end Go.Proofs.YtfmlmgebomapjabDoor
