/-
  Tables whose cells are stored in another order: once each cell has come, the table is the one that is wanted, whatever it was before.
-/
import Derived.Test.YtiokcflomchdcaaDoorFill
import Derived.Test.YtiokcflomchdcaaDoorQM
namespace Go.Proofs.YtiokcflomchdcaaDoor
open Go.RowKit

/-- Whether the cell a, b has come, where the cells up to y of the row x have gone to p, q. -/
def doneP (p q : Nat → Nat → Nat) (n x y a b : Nat) : Bool := decide (∃ x', x' < n ∧ ∃ y', y' < n ∧ (x' < x ∨ (x' = x ∧ y' < y)) ∧ p x' y' = a ∧ q x' y' = b)
def moveP (p q F base : Nat → Nat → Nat) (n x y a b : Nat) : Nat := if doneP p q n x y a b then F a b else base a b
theorem doneP_start (p q : Nat → Nat → Nat) (n a b : Nat) : doneP p q n 0 0 a b = false := by
  unfold doneP
  apply decide_eq_false
  rintro ⟨x', _, y', _, h, _⟩
  omega
theorem doneP_row (p q : Nat → Nat → Nat) (n x a b : Nat) : doneP p q n x n a b = doneP p q n (x + 1) 0 a b := by
  unfold doneP
  apply decide_eq_decide.2
  constructor
  · rintro ⟨x', h1, y', h2, h3, h4⟩; exact ⟨x', h1, y', h2, by omega, h4⟩
  · rintro ⟨x', h1, y', h2, h3, h4⟩; exact ⟨x', h1, y', h2, by omega, h4⟩
theorem doneP_step {p q : Nat → Nat → Nat} {n x y : Nat} (hx : x < n) (hy : y < n) (a b : Nat) : doneP p q n x (y + 1) a b = (decide (a = p x y ∧ b = q x y) || doneP p q n x y a b) := by
  unfold doneP
  rw [← Bool.decide_or]
  apply decide_eq_decide.2
  constructor
  · rintro ⟨x', h1, y', h2, h3, h4⟩
    by_cases e : x' = x ∧ y' = y
    · rw [e.1, e.2] at h4; exact .inl ⟨h4.1.symm, h4.2.symm⟩
    · exact .inr ⟨x', h1, y', h2, by omega, h4⟩
  · rintro (⟨h1, h2⟩ | ⟨x', h1, y', h2, h3, h4⟩)
    · exact ⟨x, hx, y, hy, .inr ⟨rfl, by omega⟩, h1.symm, h2.symm⟩
    · exact ⟨x', h1, y', h2, by omega, h4⟩
theorem moveP_start (p q F base : Nat → Nat → Nat) (n a b : Nat) : base a b = moveP p q F base n 0 0 a b := by
  unfold moveP; rw [doneP_start]; rfl
theorem moveP_row (p q F base : Nat → Nat → Nat) (n x a b : Nat) : moveP p q F base n x n a b = moveP p q F base n (x + 1) 0 a b := by
  unfold moveP; rw [doneP_row]
theorem moveP_step {p q F base : Nat → Nat → Nat} {n x y v : Nat} (hx : x < n) (hy : y < n) (hv : F (p x y) (q x y) = v) (a b : Nat) : moveP p q F base n x (y + 1) a b = if a = p x y ∧ b = q x y then v else moveP p q F base n x y a b := by
  unfold moveP
  rw [doneP_step hx hy]
  by_cases h : a = p x y ∧ b = q x y
  · rw [if_pos h, decide_eq_true h, h.1, h.2, ← hv]; rfl
  · rw [if_neg h, decide_eq_false h]; rfl
/-- All cells go somewhere else. -/
def InjP (p q : Nat → Nat → Nat) (n : Nat) : Prop := (∀ x y, x < n → y < n → p x y < n ∧ q x y < n) ∧ ∀ x y x' y', x < n → y < n → x' < n → y' < n → p x y = p x' y' → q x y = q x' y' → x = x' ∧ y = y'
theorem InjP.onto {p q : Nat → Nat → Nat} {n : Nat} (h : InjP p q n) {a b : Nat} (ha : a < n) (hb : b < n) : ∃ x, x < n ∧ ∃ y, y < n ∧ p x y = a ∧ q x y = b := by
  refine Classical.byContradiction fun hn => ?_
  obtain ⟨f, hf⟩ : ∃ f : Nat → Nat, f = fun i => p (i / n) (i % n) * n + q (i / n) (i % n) := ⟨_, rfl⟩
  have hn0 : 0 < n := by omega
  have hdm : ∀ i, i < n * n → i / n < n ∧ i % n < n := fun i hi => ⟨(Nat.div_lt_iff_lt_mul hn0).2 hi, Nat.mod_lt _ hn0⟩
  have hlt : ∀ i, i < n * n → f i < n * n := fun i hi => by
    have h1 := hdm i hi
    have h2 := h.1 _ _ h1.1 h1.2
    rw [hf]
    have h3 : (p (i / n) (i % n) + 1) * n ≤ n * n := Nat.mul_le_mul_right _ h2.1
    rw [Nat.add_mul] at h3
    show p (i / n) (i % n) * n + q (i / n) (i % n) < n * n
    omega
  have hinj : ∀ i j, i < n * n → j < n * n → f i = f j → i = j := fun i j hi hj e => by
    have h1 := hdm i hi
    have h2 := hdm j hj
    have h3 := h.1 _ _ h1.1 h1.2
    have h4 := h.1 _ _ h2.1 h2.2
    rw [hf] at e
    obtain ⟨e1, e2⟩ := mul_add_inj h3.2 h4.2 e
    obtain ⟨e3, e4⟩ := h.2 _ _ _ _ h1.1 h1.2 h2.1 h2.2 e1 e2
    rw [← Nat.div_add_mod i n, ← Nat.div_add_mod j n, e3, e4]
  have hnd : ((a * n + b) :: (List.range (n * n)).map f).Nodup := by
    refine List.nodup_cons.2 ⟨fun hm => ?_, ?_⟩
    · obtain ⟨i, hi1, hi2⟩ := List.mem_map.1 hm
      have h1 := hdm i (List.mem_range.1 hi1)
      have h3 := h.1 _ _ h1.1 h1.2
      rw [hf] at hi2
      obtain ⟨e1, e2⟩ := mul_add_inj h3.2 hb hi2
      exact hn ⟨_, h1.1, _, h1.2, e1, e2⟩
    · unfold List.Nodup
      rw [List.pairwise_map]
      refine List.Pairwise.imp_of_mem ?_ List.nodup_range
      intro i j hi hj hij e
      exact hij (hinj i j (List.mem_range.1 hi) (List.mem_range.1 hj) e)
  have := nodup_len (n * n) _ hnd (fun x hx => by
    rcases List.mem_cons.1 hx with rfl | hx
    · have h3 : (a + 1) * n ≤ n * n := Nat.mul_le_mul_right _ ha
      rw [Nat.add_mul] at h3
      omega
    · obtain ⟨i, hi1, rfl⟩ := List.mem_map.1 hx
      exact hlt i (List.mem_range.1 hi1))
  simp at this
  omega
theorem moveP_end {p q F base : Nat → Nat → Nat} {n : Nat} (h : InjP p q n) {a b : Nat} (ha : a < n) (hb : b < n) : moveP p q F base n n 0 a b = F a b := by
  obtain ⟨x, hx, y, hy, e1, e2⟩ := h.onto ha hb
  unfold moveP doneP
  rw [decide_eq_true ⟨x, hx, y, hy, .inl hx, e1, e2⟩]; rfl
/-- There is a table into which the numbers v come. -/
theorem goal_ex {p q : Nat → Nat → Nat} {n : Nat} (h : InjP p q n) (v : Nat → Nat → Nat) : ∃ F : Nat → Nat → Nat, ∀ x y, x < n → y < n → F (p x y) (q x y) = v x y := by
  classical
  refine ⟨fun a b => if h : ∃ x, x < n ∧ ∃ y, y < n ∧ p x y = a ∧ q x y = b then v h.choose h.choose_spec.2.choose else 0, fun x y hx hy => ?_⟩
  have he : ∃ x', x' < n ∧ ∃ y', y' < n ∧ p x' y' = p x y ∧ q x' y' = q x y := ⟨x, hx, y, hy, rfl, rfl⟩
  show (if h : ∃ x', x' < n ∧ ∃ y', y' < n ∧ p x' y' = p x y ∧ q x' y' = q x y then v h.choose h.choose_spec.2.choose else 0) = v x y
  rw [dif_pos he]
  have h1 := he.choose_spec.1
  have h2 := he.choose_spec.2.choose_spec
  obtain ⟨e1, e2⟩ := h.2 _ _ _ _ h1 h2.1 hx hy h2.2.1 h2.2.2
  exact congr (congrArg v e1) e2
end Go.Proofs.YtiokcflomchdcaaDoor
