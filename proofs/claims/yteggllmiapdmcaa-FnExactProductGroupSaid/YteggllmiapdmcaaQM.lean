/-
  When a table is a quasigroup, cell by cell, and by the masks of its lines.
-/
import Derived.Test.YteggllmiapdmcaaXm
import Derived.Test.YteggllmiapdmcaaTOk
namespace Go.Proofs.Yteggllmiapdmcaa
open Go.RowKit

/-- The number in the row x and the column y. -/
def cellZ (t : List (List Int)) (x y : Nat) : Nat := ((t.getD x []).getD y 0).toNat
def freshR (t : List (List Int)) (x y : Nat) : Bool := decide (∀ y', y' < y → cellZ t x y' ≠ cellZ t x y)
def freshC (t : List (List Int)) (x y : Nat) : Bool := decide (∀ x', x' < x → cellZ t x' y ≠ cellZ t x y)
def freshAll (t : List (List Int)) : Bool := (List.range t.length).all fun x => (List.range t.length).all fun y => freshR t x y && freshC t x y
/-- Whether a table is a quasigroup. -/
def isQ (t : List (List Int)) : Bool := inB t.length 1 36 && (tabOk t.length t.length t && freshAll t)

theorem freshAll_iff {t : List (List Int)} : freshAll t = true ↔ ∀ x y, x < t.length → y < t.length → freshR t x y = true ∧ freshC t x y = true := by
  unfold freshAll
  simp only [List.all_eq_true, List.mem_range, Bool.and_eq_true]
  exact ⟨fun h x y hx hy => h x hx y hy, fun h x hx y hy => h x y hx hy⟩

theorem tab_at {x y : Nat} {t : List (List Int)} {r : List Int} {z : Int} (hr : t[x]? = some r) (hz : r[y]? = some z) : cellZ t x y = z.toNat := by
  unfold cellZ
  simp only [List.getD_eq_getElem?_getD, hr, hz, Option.getD_some]

theorem tabOk_row {n x : Nat} {t : List (List Int)} (h : tabOk n n t = true) (hx : x < n) : ∃ r : List Int, t[x]? = some r ∧ r.length = n ∧ ∀ (y : Nat) (z : Int), r[y]? = some z → 0 ≤ z ∧ z < n := by
  unfold tabOk at h
  rw [Bool.and_eq_true] at h
  have hl : t.length = n := by have := of_decide_eq_true h.1; omega
  have ha := List.all_eq_true.1 h.2
  have hr : t[x]? = some (t[x]'(by omega)) := List.getElem?_eq_getElem (by omega)
  refine ⟨_, hr, ?_⟩
  have h2 := ha _ (List.mem_of_getElem? hr)
  unfold lineOk rowOk at h2
  rw [Bool.and_eq_true] at h2
  refine ⟨by have := of_decide_eq_true h2.1; omega, fun y z hz => ?_⟩
  have h3 := List.all_eq_true.1 h2.2 z (List.mem_of_getElem? hz)
  have := inB_true.1 h3
  omega

theorem tabOk_cell {n x y : Nat} {t : List (List Int)} (h : tabOk n n t = true) (hx : x < n) (hy : y < n) : cellZ t x y < n ∧ ∃ r : List Int, t[x]? = some r ∧ r[y]? = some ((cellZ t x y : Nat) : Int) := by
  obtain ⟨r, hr, hl, hz⟩ := tabOk_row h hx
  have hy2 : r[y]? = some (r[y]'(by omega)) := List.getElem?_eq_getElem (by omega)
  have h3 := hz y _ hy2
  have h4 := tab_at hr hy2
  rw [h4]
  exact ⟨by omega, r, hr, by rw [hy2]; congr 1; omega⟩

theorem tabOk_len {n : Nat} {t : List (List Int)} (h : tabOk n n t = true) : t.length = n := by
  unfold tabOk at h
  rw [Bool.and_eq_true] at h
  have := of_decide_eq_true h.1; omega

/-! By masks. -/
def rowM (t : List (List Int)) (x : Nat) (k : Nat) : Nat := xmF (fun y => cellZ t x y) k
def colM (t : List (List Int)) (y : Nat) (k : Nat) : Nat := xmF (fun x => cellZ t x y) k

theorem fresh_masks {n : Nat} {t : List (List Int)} (h : tabOk n n t = true) : freshAll t = true ↔ ∀ i, i < n → rowM t i n = 2 ^ n - 1 ∧ colM t i n = 2 ^ n - 1 := by
  have hl := tabOk_len h
  rw [freshAll_iff, hl]
  constructor
  · intro hf i hi
    refine ⟨(xm_full (fun y hy => (tabOk_cell h hi hy).1)).2 fun y hy y' hy' => ?_, (xm_full (fun x hx => (tabOk_cell h hx hi).1)).2 fun x hx x' hx' => ?_⟩
    · exact of_decide_eq_true (hf i y hi hy).1 y' hy'
    · exact of_decide_eq_true (hf x i hx hi).2 x' hx'
  · intro hm x y hx hy
    exact ⟨decide_eq_true fun y' hy' => (xm_full (fun y hy => (tabOk_cell h hx hy).1)).1 (hm x hx).1 y hy y' hy', decide_eq_true fun x' hx' => (xm_full (fun x hx => (tabOk_cell h hx hy).1)).1 (hm y hy).2 x hx x' hx'⟩
theorem rowM_lt {n x k : Nat} {t : List (List Int)} (h : tabOk n n t = true) (hx : x < n) (hk : k ≤ n) : rowM t x k < 2 ^ n := xmF_lt k fun y hy => (tabOk_cell h hx (by omega)).1
theorem colM_lt {n y k : Nat} {t : List (List Int)} (h : tabOk n n t = true) (hy : y < n) (hk : k ≤ n) : colM t y k < 2 ^ n := xmF_lt k fun x hx => (tabOk_cell h (by omega) hy).1
/-! How the model goes, cell by cell. -/
def CellG (t : List (List Int)) (n x y : Nat) : Prop := (∃ r z, t[x]? = some r ∧ r.length = n ∧ r[y]? = some z ∧ 0 ≤ z ∧ z < (n : Int)) ∧ freshR t x y = true ∧ freshC t x y = true
def GoodTo (t : List (List Int)) (n x y : Nat) : Prop := ∀ x' y', x' < n → y' < n → (x' < x ∨ (x' = x ∧ y' < y)) → CellG t n x' y'
theorem goodTo_start (t : List (List Int)) (n : Nat) : GoodTo t n 0 0 := fun x' y' _ _ h => by omega
theorem goodTo_row {t : List (List Int)} {n x : Nat} (h : GoodTo t n x n) : GoodTo t n (x + 1) 0 := fun x' y' hx hy _ => h x' y' hx hy (by omega)
theorem goodTo_cell {t : List (List Int)} {n x y : Nat} (h : GoodTo t n x y) (hc : CellG t n x y) : GoodTo t n x (y + 1) := fun x' y' hx hy hd => by
  by_cases e : x' = x ∧ y' = y
  · rw [e.1, e.2]; exact hc
  · exact h x' y' hx hy (by omega)
theorem CellG.lt {t : List (List Int)} {n x y : Nat} (h : CellG t n x y) : cellZ t x y < n := by
  obtain ⟨⟨r, z, hr, _, hz, h0, h1⟩, _⟩ := h
  rw [tab_at hr hz]; omega
theorem isQ_good {t : List (List Int)} {n : Nat} (hl : t.length = n) (h1 : inB n 1 36 = true) (h : GoodTo t n n 0) : isQ t = true := by
  have hn := inB_true.1 h1
  unfold isQ
  rw [hl, h1, Bool.true_and, Bool.and_eq_true]
  constructor
  · unfold tabOk
    rw [Bool.and_eq_true]
    refine ⟨decide_eq_true (by omega), List.all_eq_true.2 fun r hr => ?_⟩
    obtain ⟨x, hx, rfl⟩ := List.mem_iff_getElem.1 hr
    have ht : t[x]? = some t[x] := List.getElem?_eq_getElem hx
    have hlen : t[x].length = n := by
      obtain ⟨⟨r, z, h2, h3, _⟩, _⟩ := h x 0 (by omega) (by omega) (by omega)
      rw [ht] at h2; injection h2 with h2; rw [h2]; exact h3
    unfold lineOk rowOk
    rw [Bool.and_eq_true]
    refine ⟨decide_eq_true (by omega), List.all_eq_true.2 fun z hz => ?_⟩
    obtain ⟨y, hy, rfl⟩ := List.mem_iff_getElem.1 hz
    obtain ⟨⟨r, z, h2, h3, h4, h5, h6⟩, _⟩ := h x y (by omega) (by omega) (by omega)
    rw [ht] at h2; injection h2 with h2; subst h2
    rw [List.getElem?_eq_getElem hy] at h4; injection h4 with h4
    rw [h4]
    exact inB_true.2 ⟨h5, by omega⟩
  · rw [freshAll_iff, hl]
    intro x y hx hy
    exact (h x y hx hy (by omega)).2
theorem isQ_head {t : List (List Int)} {n : Nat} (hl : t.length = n) (h1 : inB n 1 36 = false) : isQ t = false := by
  unfold isQ; rw [hl, h1]; rfl
theorem isQ_row {t : List (List Int)} {x n : Nat} {r : List Int} (hl : t.length = n) (hr : t[x]? = some r) (hn : lineOk n n r = false) : isQ t = false := by
  unfold isQ tabOk
  rw [hl, all_bad hr hn]; simp
theorem isQ_len {t : List (List Int)} {x n : Nat} {r : List Int} (hl : t.length = n) (hr : t[x]? = some r) (hn : ¬ r.length = n) : isQ t = false :=
  isQ_row hl hr (by unfold lineOk; simp; intro h; omega)
theorem isQ_range {t : List (List Int)} {x y n : Nat} {r : List Int} {z : Int} (hl : t.length = n) (hr : t[x]? = some r) (hz : r[y]? = some z) (hb : inB z 0 ((n : Int) - 1) = false) : isQ t = false :=
  isQ_row hl hr (by unfold lineOk rowOk; rw [all_bad hz hb]; simp)
theorem isQ_fresh {t : List (List Int)} {x y n : Nat} (hl : t.length = n) (hx : x < n) (hy : y < n) (h : freshR t x y = false ∨ freshC t x y = false) : isQ t = false := by
  rcases hq : isQ t with _ | _
  · rfl
  · unfold isQ at hq
    simp only [Bool.and_eq_true] at hq
    have := (freshAll_iff.1 hq.2.2) x y (by omega) (by omega)
    rcases h with h | h
    · rw [h] at this; exact absurd this.1 (by simp)
    · rw [h] at this; exact absurd this.2 (by simp)

/-! The model's marks. -/
def rowP (t : List (List Int)) (x y : Nat) (i : Nat) : Bool := decide (∃ y', y' < y ∧ cellZ t x y' = i)
def colP (t : List (List Int)) (n x y : Nat) (i : Nat) : Bool := decide (∃ x', x' < n ∧ ∃ y', y' < n ∧ (x' < x ∨ (x' = x ∧ y' < y)) ∧ i = y' * n + cellZ t x' y')
theorem rowP_start (t : List (List Int)) (x i : Nat) : rowP t x 0 i = false := by
  unfold rowP; simp
theorem rowP_at (t : List (List Int)) (x y : Nat) : rowP t x y (cellZ t x y) = !freshR t x y := by
  unfold rowP freshR
  by_cases h : ∃ y', y' < y ∧ cellZ t x y' = cellZ t x y
  · rw [decide_eq_true h, decide_eq_false (fun h2 => by obtain ⟨y', a, b⟩ := h; exact h2 y' a b)]; rfl
  · have h3 : ∀ y', y' < y → cellZ t x y' ≠ cellZ t x y := fun y' a b => h ⟨y', a, b⟩
    rw [decide_eq_false h, decide_eq_true h3]; rfl
theorem rowP_next (t : List (List Int)) (x y i : Nat) : rowP t x (y + 1) i = (rowP t x y i || decide (i = cellZ t x y)) := by
  unfold rowP
  rw [← Bool.decide_or]
  apply decide_eq_decide.2
  constructor
  · rintro ⟨y', a, b⟩
    by_cases e : y' = y
    · subst e; exact .inr b.symm
    · exact .inl ⟨y', by omega, b⟩
  · rintro (⟨y', a, b⟩ | b)
    · exact ⟨y', by omega, b⟩
    · exact ⟨y, by omega, b.symm⟩
theorem colP_start (t : List (List Int)) (n i : Nat) : colP t n 0 0 i = false := by
  unfold colP
  apply decide_eq_false
  rintro ⟨x', _, y', _, h, _⟩
  omega
theorem colP_row (t : List (List Int)) (n x i : Nat) : colP t n x n i = colP t n (x + 1) 0 i := by
  unfold colP
  apply decide_eq_decide.2
  constructor
  · rintro ⟨x', a, y', b, c, d⟩; exact ⟨x', a, y', b, by omega, d⟩
  · rintro ⟨x', a, y', b, c, d⟩; exact ⟨x', a, y', b, by omega, d⟩
theorem mul_add_inj {n a b c d : Nat} (hb : b < n) (hd : d < n) (h : a * n + b = c * n + d) : a = c ∧ b = d := by
  have h1 : (a * n + b) / n = a := by rw [Nat.mul_comm, Nat.mul_add_div (by omega), Nat.div_eq_of_lt hb]; rfl
  have h2 : (c * n + d) / n = c := by rw [Nat.mul_comm, Nat.mul_add_div (by omega), Nat.div_eq_of_lt hd]; rfl
  have e : a = c := by rw [← h1, h, h2]
  subst e
  exact ⟨rfl, by omega⟩
theorem colP_at {t : List (List Int)} {n x y : Nat} (hg : GoodTo t n x y) (hx : x < n) (hy : y < n) (hz : cellZ t x y < n) : colP t n x y (y * n + cellZ t x y) = !freshC t x y := by
  unfold colP freshC
  by_cases h : ∃ x', x' < x ∧ cellZ t x' y = cellZ t x y
  · rw [decide_eq_true (by obtain ⟨x', a, b⟩ := h; exact ⟨x', by omega, y, hy, .inl a, by rw [b]⟩), decide_eq_false (fun h2 => by obtain ⟨x', a, b⟩ := h; exact h2 x' a b)]; rfl
  · have h3 : ∀ x', x' < x → cellZ t x' y ≠ cellZ t x y := fun x' a b => h ⟨x', a, b⟩
    rw [decide_eq_false, decide_eq_true h3]
    · rfl
    · rintro ⟨x', a, y', b, c, d⟩
      have h3 := (hg x' y' a b c).lt
      obtain ⟨e1, e2⟩ := mul_add_inj hz h3 d
      subst e1
      exact h ⟨x', by omega, e2.symm⟩
theorem colP_next {t : List (List Int)} {n x y : Nat} (hx : x < n) (hy : y < n) (i : Nat) : colP t n x (y + 1) i = (colP t n x y i || decide (i = y * n + cellZ t x y)) := by
  unfold colP
  rw [← Bool.decide_or]
  apply decide_eq_decide.2
  constructor
  · rintro ⟨x', a, y', b, c, d⟩
    by_cases e : x' = x ∧ y' = y
    · rw [e.1, e.2] at d; exact .inr d
    · exact .inl ⟨x', a, y', b, by omega, d⟩
  · rintro (⟨x', a, y', b, c, d⟩ | d)
    · exact ⟨x', a, y', b, by omega, d⟩
    · exact ⟨x, hx, y, hy, .inr ⟨rfl, by omega⟩, d⟩
end Go.Proofs.Yteggllmiapdmcaa
