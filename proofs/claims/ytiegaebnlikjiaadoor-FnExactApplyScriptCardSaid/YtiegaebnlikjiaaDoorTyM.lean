/-
  The five moves of a script at two places: which fit, what each costs, and the first of the least.
-/
import Derived.Test.YtiegaebnlikjiaaDoorEdC
namespace Go.Proofs.YtiegaebnlikjiaaDoor
open Go.RowKit

/-- The moves in the order of their letters: over the same symbol, out of the first word, into it, another symbol, an exchange. -/
def mvA : Nat → Nat
  | 0 => 1 | 1 => 1 | 2 => 0 | 3 => 1 | _ => 2
def mvB : Nat → Nat
  | 0 => 1 | 1 => 0 | 2 => 1 | 3 => 1 | _ => 2
def mvC : Nat → Nat
  | 0 => 0 | _ => 1
def mvL : Nat → Nat
  | 0 => 61 | 1 => 68 | 2 => 73 | 3 => 83 | _ => 88
def eqH : List UInt8 → List UInt8 → Bool
  | c :: _, d :: _ => decide (c = d)
  | _, _ => false
def neH : List UInt8 → List UInt8 → Bool
  | c :: _, d :: _ => decide (¬ c = d)
  | _, _ => false
/-- Whether a script of two lists can begin with a move. -/
def fitL (m : Nat) (u v : List UInt8) : Bool :=
  match m with
  | 0 => eqH u v
  | 1 => !u.isEmpty
  | 2 => !v.isEmpty
  | 3 => neH u v
  | _ => xch u v
def fitM (a b : ByteArray) (i j m : Nat) : Bool := fitL m (a.data.toList.drop i) (b.data.toList.drop j)
def valM (a b : ByteArray) (i j m : Nat) : Nat := mvC m + cst true a b (i + mvA m) (j + mvB m)
def bestM (a b : ByteArray) (i j : Nat) : Nat → Option Nat
  | 0 => none
  | k + 1 =>
    if fitM a b i j k = true then
      match bestM a b i j k with
      | none => some k
      | some m => if valM a b i j k < valM a b i j m then some k else some m
    else bestM a b i j k
section
variable {a b : ByteArray} {i j : Nat}
theorem best_skip {k : Nat} (h : fitM a b i j k = false) : bestM a b i j (k + 1) = bestM a b i j k := by
  show (if fitM a b i j k = true then _ else _) = _
  rw [h]; rfl
theorem best_first {k : Nat} (h : fitM a b i j k = true) (h2 : bestM a b i j k = none) : bestM a b i j (k + 1) = some k := by
  show (if fitM a b i j k = true then _ else _) = _
  rw [if_pos h, h2]
theorem best_less {k m : Nat} (h : fitM a b i j k = true) (h2 : bestM a b i j k = some m) (h3 : valM a b i j k < valM a b i j m) : bestM a b i j (k + 1) = some k := by
  show (if fitM a b i j k = true then _ else _) = _
  rw [if_pos h, h2]
  show (if valM a b i j k < valM a b i j m then some k else some m) = _
  rw [if_pos h3]
theorem best_more {k m : Nat} (h : fitM a b i j k = true) (h2 : bestM a b i j k = some m) (h3 : ¬ valM a b i j k < valM a b i j m) : bestM a b i j (k + 1) = some m := by
  show (if fitM a b i j k = true then _ else _) = _
  rw [if_pos h, h2]
  show (if valM a b i j k < valM a b i j m then some k else some m) = _
  rw [if_neg h3]
theorem best_none : ∀ k, bestM a b i j k = none → ∀ m, m < k → fitM a b i j m = false := by
  intro k
  induction k with
  | zero => intro _ m hm; omega
  | succ k ih =>
    intro h m hm
    rcases hf : fitM a b i j k with _ | _
    · rw [best_skip hf] at h
      rcases Nat.lt_or_ge m k with h1 | h1
      · exact ih h m h1
      · obtain rfl : m = k := by omega
        exact hf
    · rcases hb : bestM a b i j k with _ | m2
      · rw [best_first hf hb] at h; cases h
      · by_cases hv : valM a b i j k < valM a b i j m2
        · rw [best_less hf hb hv] at h; cases h
        · rw [best_more hf hb hv] at h; cases h
theorem best_some : ∀ k m, bestM a b i j k = some m → m < k ∧ fitM a b i j m = true ∧ (∀ m', m' < k → fitM a b i j m' = true → valM a b i j m ≤ valM a b i j m') ∧ (∀ m', m' < m → fitM a b i j m' = true → valM a b i j m < valM a b i j m') := by
  intro k
  induction k with
  | zero => intro m h; cases h
  | succ k ih =>
    intro m h
    rcases hf : fitM a b i j k with _ | _
    · rw [best_skip hf] at h
      obtain ⟨h1, h2, h3, h4⟩ := ih m h
      refine ⟨by omega, h2, fun m' hm' hm2 => ?_, h4⟩
      rcases Nat.lt_or_ge m' k with h5 | h5
      · exact h3 m' h5 hm2
      · obtain rfl : m' = k := by omega
        rw [hf] at hm2; cases hm2
    · rcases hb : bestM a b i j k with _ | m2
      · rw [best_first hf hb] at h
        obtain rfl := Option.some.inj h
        have hn := best_none _ hb
        refine ⟨by omega, hf, fun m' hm' hm2 => ?_, fun m' hm' hm2 => ?_⟩
        · rcases Nat.lt_or_ge m' k with h5 | h5
          · rw [hn m' h5] at hm2; cases hm2
          · obtain rfl : m' = k := by omega
            exact Nat.le_refl _
        · rw [hn m' hm'] at hm2; cases hm2
      · obtain ⟨h1, h2, h3, h4⟩ := ih m2 hb
        by_cases hv : valM a b i j k < valM a b i j m2
        · rw [best_less hf hb hv] at h
          obtain rfl := Option.some.inj h
          refine ⟨by omega, hf, fun m' hm' hm2 => ?_, fun m' hm' hm2 => ?_⟩
          · rcases Nat.lt_or_ge m' k with h5 | h5
            · have := h3 m' h5 hm2; omega
            · obtain rfl : m' = k := by omega
              exact Nat.le_refl _
          · have := h3 m' hm' hm2; omega
        · rw [best_more hf hb hv] at h
          obtain rfl := Option.some.inj h
          refine ⟨by omega, h2, fun m' hm' hm2 => ?_, h4⟩
          rcases Nat.lt_or_ge m' k with h5 | h5
          · exact h3 m' h5 hm2
          · obtain rfl : m' = k := by omega
            omega
theorem fit0 (hi : i < a.size) (hj : j < b.size) : fitM a b i j 0 = decide (a[i] = b[j]) := by
  unfold fitM; rw [drop_at hi, drop_at hj]; rfl
theorem fit3 (hi : i < a.size) (hj : j < b.size) : fitM a b i j 3 = decide (¬ a[i] = b[j]) := by
  unfold fitM; rw [drop_at hi, drop_at hj]; rfl
theorem fit1 : fitM a b i j 1 = decide (i < a.size) := by
  unfold fitM
  by_cases h : i < a.size
  · rw [drop_at h]; simp [fitL, h]
  · rw [drop_none h]; simp [fitL, h]
theorem fit2 : fitM a b i j 2 = decide (j < b.size) := by
  unfold fitM
  by_cases h : j < b.size
  · rw [drop_at h]; simp [fitL, h]
  · rw [drop_none h]; simp [fitL, h]
theorem fit4 : fitM a b i j 4 = xchB a b i j := rfl
theorem fit_in {m : Nat} (hi : i ≤ a.size) (hj : j ≤ b.size) (h : fitM a b i j m = true) : i + mvA m ≤ a.size ∧ j + mvB m ≤ b.size := by
  have hno : ∀ {u v : List UInt8}, eqH u v = true ∨ neH u v = true → u ≠ [] ∧ v ≠ [] := by
    intro u v h
    rcases u with _ | ⟨c, u⟩ <;> rcases v with _ | ⟨d, v⟩ <;> simp [eqH, neH] at h ⊢
  have hne : ∀ {s : ByteArray} {q : Nat}, s.data.toList.drop q ≠ [] → q < s.size := by
    intro s q h
    rcases Nat.lt_or_ge q s.size with h1 | h1
    · exact h1
    · exact absurd (drop_none (by omega)) h
  match m, h with
  | 0, h => obtain ⟨h1, h2⟩ := hno (.inl h); have := hne h1; have := hne h2; simp only [mvA, mvB]; omega
  | 1, h =>
    rw [fit1] at h
    have := of_decide_eq_true h
    simp only [mvA, mvB]; omega
  | 2, h =>
    rw [fit2] at h
    have := of_decide_eq_true h
    simp only [mvA, mvB]; omega
  | 3, h => obtain ⟨h1, h2⟩ := hno (.inr h); have := hne h1; have := hne h2; simp only [mvA, mvB]; omega
  | m + 4, h =>
    obtain ⟨c, c', u, d, d', v, h1, h2⟩ := xch_two (show xch _ _ = true from h)
    have e1 := congrArg List.length h1
    have e2 := congrArg List.length h2
    rw [drop_len] at e1 e2
    simp only [List.length_cons] at e1 e2
    simp only [mvA, mvB]; omega
theorem fit_noA {m : Nat} (hi : ¬ i < a.size) (h : fitM a b i j m = true) : m = 2 := by
  have hd := drop_none (s := a) hi
  unfold fitM at h
  rw [hd] at h
  match m, h with
  | 0, h => simp [fitL, eqH] at h
  | 1, h => simp [fitL] at h
  | 2, _ => rfl
  | 3, h => simp [fitL, neH] at h
  | m + 4, h => simp [fitL, xch] at h
theorem fit_noB {m : Nat} (hj : ¬ j < b.size) (h : fitM a b i j m = true) : m = 1 := by
  have hd := drop_none (s := b) hj
  unfold fitM at h
  rw [hd] at h
  generalize List.drop i a.data.toList = u at h
  match m, h with
  | 0, h => rcases u with _ | ⟨c, u⟩ <;> simp [fitL, eqH] at h
  | 1, _ => rfl
  | 2, h => simp [fitL] at h
  | 3, h => rcases u with _ | ⟨c, u⟩ <;> simp [fitL, neH] at h
  | m + 4, h => rcases u with _ | ⟨c, _ | ⟨c', u⟩⟩ <;> simp [fitL, xch] at h
theorem cst_min (hi : i ≤ a.size) (hj : j ≤ b.size) (h : i < a.size ∨ j < b.size) :
    (∃ m, m < 5 ∧ fitM a b i j m = true ∧ valM a b i j m = cst true a b i j) ∧ ∀ m, m < 5 → fitM a b i j m = true → cst true a b i j ≤ valM a b i j m := by
  by_cases hia : i < a.size
  · by_cases hjb : j < b.size
    · have e := cst_in true hia hjb
      have f0 := fit0 hia hjb
      have f1 : fitM a b i j 1 = true := by rw [fit1]; simp [hia]
      have f2 : fitM a b i j 2 = true := by rw [fit2]; simp [hjb]
      have f3 := fit3 hia hjb
      have f4 : fitM a b i j 4 = xchB a b i j := fit4
      have v0 : valM a b i j 0 = cst true a b (i + 1) (j + 1) := by unfold valM; simp only [mvA, mvB, mvC]; omega
      have v1 : valM a b i j 1 = 1 + cst true a b (i + 1) j := rfl
      have v2 : valM a b i j 2 = 1 + cst true a b i (j + 1) := rfl
      have v3 : valM a b i j 3 = 1 + cst true a b (i + 1) (j + 1) := rfl
      have v4 : valM a b i j 4 = 1 + cst true a b (i + 2) (j + 2) := rfl
      simp only [Bool.true_and] at e
      have five : ∀ m, m < 5 → m = 0 ∨ m = 1 ∨ m = 2 ∨ m = 3 ∨ m = 4 := by omega
      by_cases hc : a[i] = b[j]
      · have hn : ne01 a[i] b[j] = 0 := by rw [hc]; exact ne01_same _
        rw [hn] at e
        have f0 : fitM a b i j 0 = true := by rw [f0]; simp [hc]
        have f3 : fitM a b i j 3 = false := by rw [f3]; simp [hc]
        rcases hx : xchB a b i j with _ | _
        · rw [hx] at e f4
          simp only [Bool.false_eq_true, if_false] at e
          constructor
          · have : cst true a b i j = valM a b i j 0 ∨ cst true a b i j = valM a b i j 1 ∨ cst true a b i j = valM a b i j 2 := by omega
            rcases this with h1 | h1 | h1
            · exact ⟨0, by omega, f0, h1.symm⟩
            · exact ⟨1, by omega, f1, h1.symm⟩
            · exact ⟨2, by omega, f2, h1.symm⟩
          · intro m hm hf
            rcases five m hm with rfl | rfl | rfl | rfl | rfl
            · omega
            · omega
            · omega
            · rw [f3] at hf; cases hf
            · rw [f4] at hf; cases hf
        · rw [hx] at e f4
          simp only [if_true] at e
          constructor
          · have : cst true a b i j = valM a b i j 0 ∨ cst true a b i j = valM a b i j 1 ∨ cst true a b i j = valM a b i j 2 ∨ cst true a b i j = valM a b i j 4 := by omega
            rcases this with h1 | h1 | h1 | h1
            · exact ⟨0, by omega, f0, h1.symm⟩
            · exact ⟨1, by omega, f1, h1.symm⟩
            · exact ⟨2, by omega, f2, h1.symm⟩
            · exact ⟨4, by omega, f4, h1.symm⟩
          · intro m hm hf
            rcases five m hm with rfl | rfl | rfl | rfl | rfl
            · omega
            · omega
            · omega
            · rw [f3] at hf; cases hf
            · omega
      · have hn : ne01 a[i] b[j] = 1 := ne01_ne hc
        rw [hn] at e
        have f0 : fitM a b i j 0 = false := by rw [f0]; simp [hc]
        have f3 : fitM a b i j 3 = true := by rw [f3]; simp [hc]
        rcases hx : xchB a b i j with _ | _
        · rw [hx] at e f4
          simp only [Bool.false_eq_true, if_false] at e
          constructor
          · have : cst true a b i j = valM a b i j 3 ∨ cst true a b i j = valM a b i j 1 ∨ cst true a b i j = valM a b i j 2 := by omega
            rcases this with h1 | h1 | h1
            · exact ⟨3, by omega, f3, h1.symm⟩
            · exact ⟨1, by omega, f1, h1.symm⟩
            · exact ⟨2, by omega, f2, h1.symm⟩
          · intro m hm hf
            rcases five m hm with rfl | rfl | rfl | rfl | rfl
            · rw [f0] at hf; cases hf
            · omega
            · omega
            · omega
            · rw [f4] at hf; cases hf
        · rw [hx] at e f4
          simp only [if_true] at e
          constructor
          · have : cst true a b i j = valM a b i j 3 ∨ cst true a b i j = valM a b i j 1 ∨ cst true a b i j = valM a b i j 2 ∨ cst true a b i j = valM a b i j 4 := by omega
            rcases this with h1 | h1 | h1 | h1
            · exact ⟨3, by omega, f3, h1.symm⟩
            · exact ⟨1, by omega, f1, h1.symm⟩
            · exact ⟨2, by omega, f2, h1.symm⟩
            · exact ⟨4, by omega, f4, h1.symm⟩
          · intro m hm hf
            rcases five m hm with rfl | rfl | rfl | rfl | rfl
            · rw [f0] at hf; cases hf
            · omega
            · omega
            · omega
            · omega
    · have e : cst true a b i j = a.size - i + (b.size - j) := cst_end (by omega)
      have e2 : cst true a b (i + 1) j = a.size - (i + 1) + (b.size - j) := cst_end (by omega)
      have v1 : valM a b i j 1 = 1 + cst true a b (i + 1) j := rfl
      constructor
      · exact ⟨1, by omega, by rw [fit1]; simp [hia], by omega⟩
      · intro m hm hf
        rw [fit_noB hjb hf]
        omega
  · have e : cst true a b i j = a.size - i + (b.size - j) := cst_end (by omega)
    have e2 : cst true a b i (j + 1) = a.size - i + (b.size - (j + 1)) := cst_end (by omega)
    have v2 : valM a b i j 2 = 1 + cst true a b i (j + 1) := rfl
    constructor
    · exact ⟨2, by omega, by rw [fit2]; simp; omega, by omega⟩
    · intro m hm hf
      rw [fit_noA hia hf]
      omega
theorem best_5 (hi : i ≤ a.size) (hj : j ≤ b.size) :
    (i = a.size ∧ j = b.size ∧ bestM a b i j 5 = none) ∨ ∃ m, m < 5 ∧ bestM a b i j 5 = some m ∧ fitM a b i j m = true ∧ valM a b i j m = cst true a b i j ∧ ∀ m', m' < m → fitM a b i j m' = true → cst true a b i j < valM a b i j m' := by
  by_cases h : i < a.size ∨ j < b.size
  · right
    obtain ⟨⟨m, hm, hf, hv⟩, hle⟩ := cst_min hi hj h
    rcases hb : bestM a b i j 5 with _ | m2
    · have := best_none 5 hb m hm
      rw [hf] at this; cases this
    · obtain ⟨h1, h2, h3, h4⟩ := best_some 5 m2 hb
      have h5 := h3 m hm hf
      have h6 := hle m2 h1 h2
      have h7 : valM a b i j m2 = cst true a b i j := by omega
      exact ⟨m2, h1, rfl, h2, h7, fun m' hm' hf' => by rw [← h7]; exact h4 m' hm' hf'⟩
  · left
    refine ⟨by omega, by omega, ?_⟩
    rcases hb : bestM a b i j 5 with _ | m2
    · rfl
    · obtain ⟨h1, h2, _, _⟩ := best_some 5 m2 hb
      have := fit_in hi hj h2
      have h8 := fit_noA (by omega) h2
      subst h8
      simp only [mvA, mvB] at this
      omega
end
end Go.Proofs.YtiegaebnlikjiaaDoor
