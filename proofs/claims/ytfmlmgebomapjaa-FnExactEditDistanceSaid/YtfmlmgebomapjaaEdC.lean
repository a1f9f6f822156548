/-
  The costs of the ends of two words, by their places.
-/
import Derived.Test.YtfmlmgebomapjaaEdM
import Derived.Test.YtfmlmgebomapjaaEndF
namespace Go.Proofs.Ytfmlmgebomapjaa
open Go.RowKit

def cst (x : Bool) (a b : ByteArray) (i k : Nat) : Nat := lev x (a.data.toList.drop i) (b.data.toList.drop k)
def xchB (a b : ByteArray) (i k : Nat) : Bool := xch (a.data.toList.drop i) (b.data.toList.drop k)
theorem drop_at {s : ByteArray} {i : Nat} (h : i < s.size) : s.data.toList.drop i = s[i] :: s.data.toList.drop (i + 1) := by
  rw [List.drop_eq_getElem_cons (by simpa using h)]; rfl
theorem drop_none {s : ByteArray} {i : Nat} (h : ¬ i < s.size) : s.data.toList.drop i = [] := List.drop_eq_nil_of_le (by simp; omega)
theorem drop_len (s : ByteArray) (i : Nat) : (s.data.toList.drop i).length = s.size - i := by simp
theorem cst_end {x : Bool} {a b : ByteArray} {i k : Nat} (h : ¬ (i < a.size ∧ k < b.size)) : cst x a b i k = (a.size - i) + (b.size - k) := by
  unfold cst
  by_cases hi : i < a.size
  · rw [drop_none (s := b) (by omega), lev_nil', drop_len]; omega
  · rw [drop_none hi, lev_nil, drop_len]; omega
theorem cst_in (x : Bool) {a b : ByteArray} {i k : Nat} (hi : i < a.size) (hk : k < b.size) :
    cst x a b i k = min (min (min (cst x a b (i + 1) (k + 1) + ne01 a[i] b[k]) (cst x a b (i + 1) k + 1)) (cst x a b i (k + 1) + 1)) (if (x && xchB a b i k) = true then cst x a b (i + 2) (k + 2) + 1 else cst x a b (i + 1) (k + 1) + 1) := by
  unfold cst xchB
  rw [drop_at hi, drop_at hk, lev_cons, List.drop_drop, List.drop_drop, ← drop_at hi, ← drop_at hk]
theorem xchB_in {a b : ByteArray} {i k : Nat} (hi : i + 1 < a.size) (hk : k + 1 < b.size) :
    xchB a b i k = (decide (a[i] ≠ a[i + 1]) && (decide (a[i] = b[k + 1]) && decide (a[i + 1] = b[k]))) := by
  unfold xchB
  rw [drop_at (s := a) (i := i) (by omega), drop_at hi, drop_at (s := b) (i := k) (by omega), drop_at hk]
  rfl
theorem xchB_out {a b : ByteArray} {i k : Nat} (h : ¬ (i + 1 < a.size ∧ k + 1 < b.size)) : xchB a b i k = false := by
  rcases hx : xchB a b i k with _ | _
  · rfl
  · exfalso
    obtain ⟨c, c', u, d, d', v, h1, h2⟩ := xch_two hx
    have e1 := congrArg List.length h1
    have e2 := congrArg List.length h2
    rw [drop_len] at e1 e2
    simp only [List.length_cons] at e1 e2
    omega
theorem cst_no {x : Bool} {a b : ByteArray} {i k : Nat} (hi : i < a.size) (hk : k < b.size) (h : (x && xchB a b i k) = false) :
    cst x a b i k = min (min (cst x a b (i + 1) (k + 1) + ne01 a[i] b[k]) (cst x a b (i + 1) k + 1)) (cst x a b i (k + 1) + 1) := by
  rw [cst_in x hi hk, h]
  have := ne01_le a[i] b[k]
  simp only [Bool.false_eq_true, if_false]
  omega
theorem cst_yes {x : Bool} {a b : ByteArray} {i k : Nat} (hi : i < a.size) (hk : k < b.size) (h : (x && xchB a b i k) = true) :
    cst x a b i k = min (min (min (cst x a b (i + 1) (k + 1) + ne01 a[i] b[k]) (cst x a b (i + 1) k + 1)) (cst x a b i (k + 1) + 1)) (cst x a b (i + 2) (k + 2) + 1) := by
  rw [cst_in x hi hk, if_pos h]
theorem cst_le (x : Bool) (a b : ByteArray) (i k : Nat) : cst x a b i k ≤ max (a.size - i) (b.size - k) := by
  have := lev_max x (a.data.toList.drop i) (b.data.toList.drop k)
  rw [drop_len, drop_len] at this
  exact this
theorem cst_all (x : Bool) (a b : ByteArray) : cst x a b 0 0 = lev x a.data.toList b.data.toList := rfl

/-- What is filled of the costs: all behind a place. -/
def cstF (x : Bool) (a b : ByteArray) (n p : Nat) (i k : Nat) : Nat := if i * n + k < p then 0 else cst x a b i k
theorem cstF_put (x : Bool) (a b : ByteArray) {n i k j y : Nat} (hk : k < n) (hy : y < n) :
    cstF x a b n (i * n + k) j y = if j = i ∧ y = k then cst x a b i k else cstF x a b n (i * n + k + 1) j y := by
  unfold cstF
  by_cases h : j = i ∧ y = k
  · rw [if_pos h, h.1, h.2, if_neg (by omega)]
  · rw [if_neg h]
    have hne : j * n + y ≠ i * n + k := by
      intro e
      have h1 := (dm_split (j := j) hy)
      have h2 := (dm_split (j := i) hk)
      rw [e] at h1
      exact h ⟨h1.1.symm.trans h2.1, h1.2.symm.trans h2.2⟩
    by_cases h3 : j * n + y < i * n + k
    · rw [if_pos h3, if_pos (by omega)]
    · rw [if_neg h3, if_neg (by omega)]
theorem cstF_old {x : Bool} {a b : ByteArray} {n p i k : Nat} (h : p ≤ i * n + k) : cstF x a b n p i k = cst x a b i k := by
  unfold cstF; rw [if_neg (by omega)]
theorem cstF_all (x : Bool) (a b : ByteArray) (n i k : Nat) : cstF x a b n 0 i k = cst x a b i k := by
  unfold cstF; rw [if_neg (by omega)]
end Go.Proofs.Ytfmlmgebomapjaa
