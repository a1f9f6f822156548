/-
  What a group is, by its table: the first identity, inverses, powers and orders of elements.
-/
import Derived.Test.YteggllmiapdmcaaQM
namespace Go.Proofs.Yteggllmiapdmcaa
open Go.RowKit

def firstN (n : Nat) (P : Nat → Bool) : Option Nat := (List.range n).find? P
theorem firstN_some {n k : Nat} {P : Nat → Bool} (h : ∀ j, j < k → P j = false) (hk : k < n) (hP : P k = true) : firstN n P = some k := by
  unfold firstN
  rw [List.find?_range_eq_some]
  exact ⟨hP, by simpa using hk, fun j hj => by rw [h j hj]; rfl⟩
theorem firstN_none {n : Nat} {P : Nat → Bool} (h : ∀ j, j < n → P j = false) : firstN n P = none := by
  unfold firstN
  rw [List.find?_eq_none]
  intro x hx
  rw [h x (List.mem_range.1 hx)]
  simp
theorem firstN_is {n k : Nat} {P : Nat → Bool} (h : firstN n P = some k) : k < n ∧ P k = true ∧ ∀ j, j < k → P j = false := by
  unfold firstN at h
  rw [List.find?_range_eq_some] at h
  exact ⟨by simpa using h.2.1, h.1, fun j hj => by simpa using h.2.2 j hj⟩
theorem firstN_not {n k : Nat} {P : Nat → Bool} (h : firstN n P = none) (hk : k < n) : P k = false := by
  unfold firstN at h
  rw [List.find?_eq_none] at h
  simpa using h k (List.mem_range.2 hk)
theorem firstN_congr {n : Nat} {P Q : Nat → Bool} (h : ∀ j, j < n → P j = Q j) : firstN n P = firstN n Q := by
  rcases hq : firstN n Q with _ | k
  · exact firstN_none fun j hj => (h j hj).trans (firstN_not hq hj)
  · obtain ⟨h1, h2, h3⟩ := firstN_is hq
    exact firstN_some (fun j hj => (h j (by omega)).trans (h3 j hj)) h1 ((h k h1).trans h2)

/-- All numbers below n have P. -/
def allN (n : Nat) (P : Nat → Bool) : Bool := (List.range n).all P
theorem allN_zero (P : Nat → Bool) : allN 0 P = true := rfl
theorem allN_succ (n : Nat) (P : Nat → Bool) : allN (n + 1) P = (allN n P && P n) := by simp [allN, List.range_succ, List.all_append]
theorem allN_true {n : Nat} {P : Nat → Bool} : allN n P = true ↔ ∀ j, j < n → P j = true := by simp [allN]
theorem allN_bad {n k : Nat} {P : Nat → Bool} (hk : k < n) (h : P k = false) : allN n P = false := by
  rcases hb : allN n P with _ | _
  · rfl
  · rw [allN_true.1 hb k hk] at h; cases h
theorem allN_congr {n : Nat} {P Q : Nat → Bool} (h : ∀ j, j < n → P j = Q j) : allN n P = allN n Q := by
  induction n with
  | zero => rfl
  | succ n ih => rw [allN_succ, allN_succ, ih (fun j hj => h j (by omega)), h n (by omega)]

section
variable (t : List (List Int)) (n : Nat)
def idC (e x : Nat) : Bool := decide (cellZ t e x = x) && decide (cellZ t x e = x)
def idB (e : Nat) : Bool := allN n (idC t e)
def idOf : Option Nat := firstN n (idB t n)
def invC (e x y : Nat) : Bool := decide (cellZ t x y = e) && decide (cellZ t y x = e)
def invOf (e x : Nat) : Option Nat := firstN n (invC t e x)
def assC (x y z : Nat) : Bool := decide (cellZ t (cellZ t x y) z = cellZ t x (cellZ t y z))
def assB : Bool := allN n fun x => allN n fun y => allN n fun z => assC t x y z
def invsB (e : Nat) : Bool := allN n fun x => (invOf t n e x).isSome
def grpI : Bool := match idOf t n with | none => false | some e => assB t n && invsB t n e
def comC (x y : Nat) : Bool := decide (cellZ t x y = cellZ t y x)
def cenB (x : Nat) : Bool := allN n (comC t x)
def cenL (k : Nat) : List Int := ((List.range k).filter (cenB t n)).map fun x => ((x : Nat) : Int)
/-- The powers of x, from the identity e on. -/
def pw (e x : Nat) : Nat → Nat
  | 0 => e
  | k + 1 => cellZ t (pw e x k) x
def ordO (e x : Nat) : Option Nat := firstN n fun k => decide (pw t e x (k + 1) = e)
end
def grpOk (t : List (List Int)) : Bool := inB t.length 1 10 && (tabOk t.length t.length t && grpI t t.length)

theorem cenL_succ (t : List (List Int)) (n k : Nat) : cenL t n (k + 1) = cenL t n k ++ (if cenB t n k then [((k : Nat) : Int)] else []) := by
  unfold cenL
  rw [List.range_succ, List.filter_append, List.map_append]
  congr 1
  by_cases h : cenB t n k <;> simp [h]
theorem cenL_len (t : List (List Int)) (n k : Nat) : (cenL t n k).length ≤ k := by
  unfold cenL
  rw [List.length_map]
  exact Nat.le_trans (List.length_filter_le _ _) (by simp)

theorem nodup_leG : ∀ (n : Nat) (l : List Nat), l.Nodup → (∀ x ∈ l, x < n) → l.length ≤ n := by
  intro n
  induction n with
  | zero =>
    intro l _ h
    cases l with
    | nil => simp
    | cons a r => exact absurd (h a (by simp)) (by omega)
  | succ n ih =>
    intro l hn h
    have h1 : (l.erase n).Nodup := hn.erase n
    have h2 : ∀ x ∈ l.erase n, x < n := by
      intro x hx
      have hx1 := h x (List.mem_of_mem_erase hx)
      have hx2 : x ≠ n := fun e => by
        subst e
        exact (List.Nodup.not_mem_erase hn) hx
      omega
    have h3 := ih _ h1 h2
    have h4 := List.le_length_erase (a := n) (l := l)
    omega
/-- What the walks use of a valid group. -/
structure Grp (t : List (List Int)) (n e : Nat) : Prop where
  len : t.length = n
  n1 : 1 ≤ n
  n10 : n ≤ 10
  tab : tabOk n n t = true
  id : idOf t n = some e
  ass : assB t n = true
  inv : invsB t n e = true
theorem grp_of {t : List (List Int)} {n : Nat} (hl : t.length = n) (h : grpOk t = true) : ∃ e, Grp t n e := by
  unfold grpOk at h
  rw [hl] at h
  simp only [Bool.and_eq_true] at h
  have h1 := inB_true.1 h.1
  have h2 := h.2.2
  unfold grpI at h2
  rcases hi : idOf t n with _ | e
  · rw [hi] at h2; cases h2
  · rw [hi] at h2
    simp only [Bool.and_eq_true] at h2
    exact ⟨e, hl, by omega, by omega, h.2.1, hi, h2.1, h2.2⟩
theorem Grp.ok {t : List (List Int)} {n e : Nat} (h : Grp t n e) : grpOk t = true := by
  have h1 := h.n1
  have h2 := h.n10
  have h3 : grpI t n = true := by
    unfold grpI
    rw [h.id]
    show (assB t n && invsB t n e) = true
    rw [h.ass, h.inv]
    rfl
  unfold grpOk
  rw [h.len, h.tab, h3]
  simp [inB]
  omega

section
variable {t : List (List Int)} {n e : Nat}
theorem Grp.cell (h : Grp t n e) {x y : Nat} (hx : x < n) (hy : y < n) : cellZ t x y < n := (tabOk_cell h.tab hx hy).1
theorem Grp.elt (h : Grp t n e) : e < n := (firstN_is h.id).1
theorem Grp.left (h : Grp t n e) {x : Nat} (hx : x < n) : cellZ t e x = x := by
  have h1 := allN_true.1 (firstN_is h.id).2.1 x hx
  simp only [idC, Bool.and_eq_true, decide_eq_true_eq] at h1
  exact h1.1
theorem Grp.right (h : Grp t n e) {x : Nat} (hx : x < n) : cellZ t x e = x := by
  have h1 := allN_true.1 (firstN_is h.id).2.1 x hx
  simp only [idC, Bool.and_eq_true, decide_eq_true_eq] at h1
  exact h1.2
theorem Grp.assoc (h : Grp t n e) {x y z : Nat} (hx : x < n) (hy : y < n) (hz : z < n) : cellZ t (cellZ t x y) z = cellZ t x (cellZ t y z) := by
  have h1 := allN_true.1 (allN_true.1 (allN_true.1 h.ass x hx) y hy) z hz
  simpa [assC] using h1
theorem Grp.inverse (h : Grp t n e) {x : Nat} (hx : x < n) : ∃ y, y < n ∧ invOf t n e x = some y ∧ cellZ t x y = e ∧ cellZ t y x = e := by
  have h1 := allN_true.1 h.inv x hx
  rcases hi : invOf t n e x with _ | y
  · simp [hi] at h1
  · obtain ⟨h2, h3, _⟩ := firstN_is hi
    simp only [invC, Bool.and_eq_true, decide_eq_true_eq] at h3
    exact ⟨y, h2, rfl, h3.1, h3.2⟩
theorem Grp.cancel (h : Grp t n e) {x a b : Nat} (hx : x < n) (ha : a < n) (hb : b < n) (hab : cellZ t a x = cellZ t b x) : a = b := by
  obtain ⟨y, hy, _, h1, _⟩ := h.inverse hx
  have h2 : cellZ t (cellZ t a x) y = cellZ t (cellZ t b x) y := by rw [hab]
  rw [h.assoc ha hx hy, h.assoc hb hx hy, h1, h.right ha, h.right hb] at h2
  exact h2
theorem Grp.pw_lt (h : Grp t n e) {x : Nat} (hx : x < n) : ∀ k, pw t e x k < n
  | 0 => h.elt
  | k + 1 => h.cell (h.pw_lt hx k) hx
theorem Grp.pw_one (h : Grp t n e) {x : Nat} (hx : x < n) : pw t e x 1 = x := h.left hx
theorem Grp.pw_back (h : Grp t n e) {x : Nat} (hx : x < n) : ∀ i d, pw t e x i = pw t e x (i + d) → e = pw t e x d
  | 0, d, he => by simpa [pw] using he
  | i + 1, d, he => h.pw_back hx i d (h.cancel hx (h.pw_lt hx _) (h.pw_lt hx _) (by
      rw [show i + 1 + d = (i + d) + 1 by omega] at he
      exact he))
theorem pigeon_lt {m : Nat} (f : Nat → Nat) (hf : ∀ i, i ≤ m → f i < m) : ∃ i j, i < j ∧ j ≤ m ∧ f i = f j := by
  rcases Classical.em (∃ i j, i < j ∧ j ≤ m ∧ f i = f j) with h | h
  · exact h
  exfalso
  have hnd : ((List.range (m + 1)).map f).Nodup := by
    unfold List.Nodup
    rw [List.pairwise_map]
    refine List.Pairwise.imp_of_mem ?_ (List.pairwise_lt_range (n := m + 1))
    intro a b ha hb hab he
    exact h ⟨a, b, hab, by have := List.mem_range.1 hb; omega, he⟩
  have := nodup_leG m _ hnd (by
    intro z hz
    obtain ⟨i, hi, rfl⟩ := List.mem_map.1 hz
    exact hf i (by have := List.mem_range.1 hi; omega))
  simp at this
  omega
theorem Grp.order (h : Grp t n e) {x : Nat} (hx : x < n) : ∃ d, ordO t n e x = some d := by
  obtain ⟨i, j, hij, hj, he⟩ := pigeon_lt (fun k => pw t e x k) (fun i _ => h.pw_lt hx i)
  have h1 := h.pw_back hx i (j - i) (by rw [show i + (j - i) = j by omega]; exact he)
  rcases ho : ordO t n e x with _ | d
  · have := firstN_not ho (show j - i - 1 < n by omega)
    rw [show j - i - 1 + 1 = j - i by omega, ← h1] at this
    simp at this
  · exact ⟨d, rfl⟩
end
end Go.Proofs.Yteggllmiapdmcaa
