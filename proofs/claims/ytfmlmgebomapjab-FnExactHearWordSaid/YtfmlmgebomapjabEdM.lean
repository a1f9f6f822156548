/-
  Edit and typing distances of lists: the least costs, told from the first symbols on; the edit distance of the beginnings is told from the last ones on.
-/
import Derived.Test.YtfmlmgebomapjabBasic
namespace Go.Proofs.Ytfmlmgebomapjab

def ne01 (c d : UInt8) : Nat := if c = d then 0 else 1
theorem ne01_same (c : UInt8) : ne01 c c = 0 := by simp [ne01]
theorem ne01_ne {c d : UInt8} (h : ¬ c = d) : ne01 c d = 1 := by simp [ne01, h]
theorem ne01_le (c d : UInt8) : ne01 c d ≤ 1 := by unfold ne01; split <;> omega
theorem ne01_comm (c d : UInt8) : ne01 c d = ne01 d c := by
  unfold ne01
  by_cases h : c = d
  · subst h; rfl
  · rw [if_neg h, if_neg (fun e => h e.symm)]

/-- The first two symbols of both are exchanged, and differ. -/
def xch : List UInt8 → List UInt8 → Bool
  | c :: c' :: _, d :: d' :: _ => decide (c ≠ c') && (decide (c = d') && decide (c' = d))
  | _, _ => false
theorem xch_comm (a b : List UInt8) : xch a b = xch b a := by
  rcases a with _ | ⟨c, _ | ⟨c', a⟩⟩ <;> rcases b with _ | ⟨d, _ | ⟨d', b⟩⟩ <;> simp only [xch]
  rw [Bool.eq_iff_iff]
  simp only [Bool.and_eq_true, decide_eq_true_eq]
  constructor
  · rintro ⟨h, rfl, rfl⟩; exact ⟨fun e => h e.symm, rfl, rfl⟩
  · rintro ⟨h, rfl, rfl⟩; exact ⟨fun e => h e.symm, rfl, rfl⟩
theorem xch_two {a b : List UInt8} (h : xch a b = true) : ∃ c c' a' d d' b', a = c :: c' :: a' ∧ b = d :: d' :: b' := by
  rcases a with _ | ⟨c, _ | ⟨c', a⟩⟩ <;> rcases b with _ | ⟨d, _ | ⟨d', b⟩⟩ <;> simp [xch] at h
  exact ⟨c, c', a, d, d', b, rfl, rfl⟩

def levF (x : Bool) : Nat → List UInt8 → List UInt8 → Nat
  | 0, a, b => a.length + b.length
  | n + 1, a, b =>
    match a, b with
    | [], b => b.length
    | _ :: a, [] => a.length + 1
    | c :: a, d :: b => min (min (min (levF x n a b + ne01 c d) (levF x n a (d :: b) + 1)) (levF x n (c :: a) b + 1)) (if (x && xch (c :: a) (d :: b)) = true then levF x n (a.drop 1) (b.drop 1) + 1 else levF x n a b + 1)
theorem levF_more (x : Bool) : ∀ (n m : Nat) (a b : List UInt8), a.length + b.length ≤ n → a.length + b.length ≤ m → levF x n a b = levF x m a b := by
  have h0 : ∀ (m : Nat) (a b : List UInt8), a.length + b.length ≤ 0 → levF x 0 a b = levF x m a b := by
    intro m a b h
    have ha : a = [] := List.eq_nil_of_length_eq_zero (by omega)
    have hb : b = [] := List.eq_nil_of_length_eq_zero (by omega)
    subst ha; subst hb
    cases m <;> rfl
  intro n
  induction n with
  | zero => intro m a b h _; exact h0 m a b h
  | succ n ih =>
    intro m a b hn hm
    cases m with
    | zero => exact (h0 (n + 1) a b hm).symm
    | succ m =>
      rcases a with _ | ⟨c, a⟩
      · rfl
      · rcases b with _ | ⟨d, b⟩
        · rfl
        · simp only [List.length_cons] at hn hm
          have e1 := ih m a b (by omega) (by omega)
          have e2 := ih m a (d :: b) (by simp only [List.length_cons]; omega) (by simp only [List.length_cons]; omega)
          have e3 := ih m (c :: a) b (by simp only [List.length_cons]; omega) (by simp only [List.length_cons]; omega)
          have e4 := ih m (a.drop 1) (b.drop 1) (by simp only [List.length_drop]; omega) (by simp only [List.length_drop]; omega)
          simp only [levF, e1, e2, e3, e4]
/-- The least cost of a script, with exchanges or without. -/
def lev (x : Bool) (a b : List UInt8) : Nat := levF x (a.length + b.length) a b
theorem lev_nil (x : Bool) (b : List UInt8) : lev x [] b = b.length := by
  unfold lev; cases b <;> simp [levF]
theorem lev_nil' (x : Bool) (a : List UInt8) : lev x a [] = a.length := by
  unfold lev; cases a <;> simp [levF]
theorem lev_cons (x : Bool) (c d : UInt8) (a b : List UInt8) :
    lev x (c :: a) (d :: b) = min (min (min (lev x a b + ne01 c d) (lev x a (d :: b) + 1)) (lev x (c :: a) b + 1)) (if (x && xch (c :: a) (d :: b)) = true then lev x (a.drop 1) (b.drop 1) + 1 else lev x a b + 1) := by
  have e1 : levF x (a.length + (b.length + 1)) a b = lev x a b := levF_more x _ _ a b (by omega) (by omega)
  have e2 : levF x (a.length + (b.length + 1)) a (d :: b) = lev x a (d :: b) := levF_more x _ _ _ _ (by simp only [List.length_cons]; omega) (by simp only [List.length_cons]; omega)
  have e3 : levF x (a.length + (b.length + 1)) (c :: a) b = lev x (c :: a) b := levF_more x _ _ _ _ (by simp only [List.length_cons]; omega) (by simp only [List.length_cons]; omega)
  have e4 : levF x (a.length + (b.length + 1)) (a.drop 1) (b.drop 1) = lev x (a.drop 1) (b.drop 1) := levF_more x _ _ _ _ (by simp only [List.length_drop]; omega) (by simp only [List.length_drop]; omega)
  have e0 : (c :: a).length + (d :: b).length = (a.length + (b.length + 1)) + 1 := by simp only [List.length_cons]; omega
  rw [← e1, ← e2, ← e3, ← e4]
  show levF x ((c :: a).length + (d :: b).length) (c :: a) (d :: b) = _
  rw [e0]
  rfl
theorem lev_no {c d : UInt8} {a b : List UInt8} {x : Bool} (h : (x && xch (c :: a) (d :: b)) = false) :
    lev x (c :: a) (d :: b) = min (min (lev x a b + ne01 c d) (lev x a (d :: b) + 1)) (lev x (c :: a) b + 1) := by
  rw [lev_cons, h]
  have := ne01_le c d
  simp only [Bool.false_eq_true, if_false]
  omega
theorem lev_x {c d : UInt8} {a b : List UInt8} {x : Bool} (h : (x && xch (c :: a) (d :: b)) = true) :
    lev x (c :: a) (d :: b) = min (min (min (lev x a b + ne01 c d) (lev x a (d :: b) + 1)) (lev x (c :: a) b + 1)) (lev x (a.drop 1) (b.drop 1) + 1) := by
  rw [lev_cons, if_pos h]
theorem lev_f (c d : UInt8) (a b : List UInt8) :
    lev false (c :: a) (d :: b) = min (min (lev false a b + ne01 c d) (lev false a (d :: b) + 1)) (lev false (c :: a) b + 1) := lev_no rfl

theorem lev_comm (x : Bool) : ∀ (n : Nat) (a b : List UInt8), a.length + b.length ≤ n → lev x a b = lev x b a := by
  intro n
  induction n with
  | zero =>
    intro a b h
    have ha : a = [] := List.eq_nil_of_length_eq_zero (by omega)
    have hb : b = [] := List.eq_nil_of_length_eq_zero (by omega)
    subst ha; subst hb; rfl
  | succ n ih =>
    intro a b h
    rcases a with _ | ⟨c, a⟩
    · rw [lev_nil, lev_nil']
    · rcases b with _ | ⟨d, b⟩
      · rw [lev_nil, lev_nil']
      · simp only [List.length_cons] at h
        have e1 := ih a b (by omega)
        have e2 := ih a (d :: b) (by simp only [List.length_cons]; omega)
        have e3 := ih (c :: a) b (by simp only [List.length_cons]; omega)
        have e4 := ih (a.drop 1) (b.drop 1) (by simp only [List.length_drop]; omega)
        rw [lev_cons, lev_cons, e1, e2, e3, e4, ne01_comm c d, xch_comm (c :: a) (d :: b)]
        split <;> omega
theorem lev_symm (x : Bool) (a b : List UInt8) : lev x a b = lev x b a := lev_comm x _ a b (Nat.le_refl _)

theorem lev_ins (x : Bool) (d : UInt8) (a b : List UInt8) : lev x a (d :: b) ≤ lev x a b + 1 := by
  rcases a with _ | ⟨c, a⟩
  · rw [lev_nil, lev_nil]; simp
  · rw [lev_cons]; omega
theorem lev_del (x : Bool) (c : UInt8) (a b : List UInt8) : lev x (c :: a) b ≤ lev x a b + 1 := by
  rw [lev_symm, lev_symm x a b]; exact lev_ins x c b a
theorem lev_out (c : UInt8) (a : List UInt8) : ∀ b, lev false a b ≤ lev false (c :: a) b + 1 := by
  intro b
  induction b with
  | nil => rw [lev_nil', lev_nil']; simp; omega
  | cons d b ih =>
    have h1 := lev_ins false d a b
    rw [lev_f c d a b]
    omega
theorem lev_out' (c : UInt8) (a b : List UInt8) : lev false a b ≤ lev false a (c :: b) + 1 := by
  rw [lev_symm, lev_symm false a (c :: b)]; exact lev_out c b a
/-- The same first symbols cost nothing. -/
theorem lev_same (c : UInt8) (a b : List UInt8) : lev false (c :: a) (c :: b) = lev false a b := by
  have h1 := lev_out c a b
  have h2 := lev_out' c a b
  have h3 := lev_out' c a (b)
  have h4 : lev false a b ≤ lev false a (c :: b) + 1 := lev_out' c a b
  rw [lev_f, ne01_same]
  omega
theorem lev_diff {c d : UInt8} (h : ¬ c = d) (a b : List UInt8) : lev false (c :: a) (d :: b) = 1 + min (min (lev false a b) (lev false a (d :: b))) (lev false (c :: a) b) := by
  rw [lev_f, ne01_ne h]
  omega

theorem lev_snoc (c d : UInt8) : ∀ (n : Nat) (a b : List UInt8), a.length + b.length ≤ n →
    lev false (a ++ [c]) (b ++ [d]) = min (min (lev false a b + ne01 c d) (lev false a (b ++ [d]) + 1)) (lev false (a ++ [c]) b + 1) := by
  intro n
  induction n with
  | zero =>
    intro a b h
    have ha : a = [] := List.eq_nil_of_length_eq_zero (by omega)
    have hb : b = [] := List.eq_nil_of_length_eq_zero (by omega)
    subst ha; subst hb
    exact lev_f c d [] []
  | succ n ih =>
    intro a b h
    rcases a with _ | ⟨x, a⟩
    · rcases b with _ | ⟨y, b⟩
      · exact lev_f c d [] []
      · simp only [List.length_cons, List.length_nil] at h
        have e := ih [] b (by simp only [List.length_nil]; omega)
        simp only [List.nil_append, List.cons_append] at e ⊢
        rw [lev_f c y [] (b ++ [d]), e, lev_f c y [] b]
        simp only [lev_nil, List.length_cons, List.length_append, List.length_nil]
        have h1 := ne01_le c d
        have h2 := ne01_le c y
        omega
    · rcases b with _ | ⟨y, b⟩
      · simp only [List.length_cons, List.length_nil] at h
        have e := ih a [] (by simp only [List.length_nil]; omega)
        simp only [List.nil_append, List.cons_append] at e ⊢
        rw [lev_f x d (a ++ [c]) [], e, lev_f x d a []]
        simp only [lev_nil', List.length_cons, List.length_append, List.length_nil]
        have h1 := ne01_le c d
        have h2 := ne01_le x d
        omega
      · simp only [List.length_cons] at h
        have e1 := ih a b (by omega)
        have e2 := ih a (y :: b) (by simp only [List.length_cons]; omega)
        have e3 := ih (x :: a) b (by simp only [List.length_cons]; omega)
        simp only [List.cons_append] at e1 e2 e3 ⊢
        rw [lev_f x y (a ++ [c]) (b ++ [d]), e1, e2, e3, lev_f x y a b, lev_f x y a (b ++ [d]), lev_f x y (a ++ [c]) b]
        simp only [← Nat.add_min_add_right, Nat.add_assoc, Nat.add_comm (ne01 x y) 1, Nat.add_comm (ne01 c d) 1, Nat.add_comm (ne01 c d) (ne01 x y)]
        ac_rfl
theorem lev_rev : ∀ (n : Nat) (a b : List UInt8), a.length + b.length ≤ n → lev false a.reverse b.reverse = lev false a b := by
  intro n
  induction n with
  | zero =>
    intro a b h
    have ha : a = [] := List.eq_nil_of_length_eq_zero (by omega)
    have hb : b = [] := List.eq_nil_of_length_eq_zero (by omega)
    subst ha; subst hb; rfl
  | succ n ih =>
    intro a b h
    rcases a with _ | ⟨c, a⟩
    · simp only [List.reverse_nil, lev_nil, List.length_reverse]
    · rcases b with _ | ⟨d, b⟩
      · simp only [List.reverse_nil, lev_nil', List.length_reverse]
      · simp only [List.length_cons] at h
        have e1 := ih a b (by omega)
        have e2 := ih a (d :: b) (by simp only [List.length_cons]; omega)
        have e3 := ih (c :: a) b (by simp only [List.length_cons]; omega)
        simp only [List.reverse_cons] at e2 e3 ⊢
        rw [lev_snoc c d _ _ _ (Nat.le_refl _), e1, e2, e3, lev_f]

/-- The edit distance of the first i symbols and the first j ones. -/
def lvT (a b : List UInt8) (i j : Nat) : Nat := lev false (a.take i).reverse (b.take j).reverse
theorem take_rev {a : List UInt8} {i : Nat} {c : UInt8} (h : a[i]? = some c) : (a.take (i + 1)).reverse = c :: (a.take i).reverse := by
  rw [List.take_add_one, h]; simp
theorem lvT_zero (a b : List UInt8) (j : Nat) (hj : j ≤ b.length) : lvT a b 0 j = j := by
  unfold lvT; rw [List.take_zero, List.reverse_nil, lev_nil]; simp; omega
theorem lvT_zero' (a b : List UInt8) (i : Nat) (hi : i ≤ a.length) : lvT a b i 0 = i := by
  unfold lvT; rw [List.take_zero, List.reverse_nil, lev_nil']; simp; omega
theorem lvT_same {a b : List UInt8} {i j : Nat} {c : UInt8} (hi : a[i]? = some c) (hj : b[j]? = some c) : lvT a b (i + 1) (j + 1) = lvT a b i j := by
  unfold lvT; rw [take_rev hi, take_rev hj, lev_same]
theorem lvT_diff {a b : List UInt8} {i j : Nat} {c d : UInt8} (hi : a[i]? = some c) (hj : b[j]? = some d) (h : ¬ c = d) :
    lvT a b (i + 1) (j + 1) = 1 + min (min (lvT a b i j) (lvT a b i (j + 1))) (lvT a b (i + 1) j) := by
  unfold lvT; rw [take_rev hi, take_rev hj, lev_diff h]
theorem lvT_all (a b : List UInt8) : lvT a b a.length b.length = lev false a b := by
  unfold lvT; rw [List.take_length, List.take_length]; exact lev_rev _ a b (Nat.le_refl _)

theorem lev_le (x : Bool) : ∀ (n : Nat) (a b : List UInt8), a.length + b.length ≤ n → lev x a b ≤ max a.length b.length := by
  intro n
  induction n with
  | zero =>
    intro a b h
    have ha : a = [] := List.eq_nil_of_length_eq_zero (by omega)
    have hb : b = [] := List.eq_nil_of_length_eq_zero (by omega)
    subst ha; subst hb; rw [lev_nil]; simp
  | succ n ih =>
    intro a b h
    rcases a with _ | ⟨c, a⟩
    · rw [lev_nil]; simp
    · rcases b with _ | ⟨d, b⟩
      · rw [lev_nil']; simp
      · simp only [List.length_cons] at h ⊢
        have e1 := ih a b (by omega)
        have h1 := ne01_le c d
        rw [lev_cons]
        omega
theorem lev_max (x : Bool) (a b : List UInt8) : lev x a b ≤ max a.length b.length := lev_le x _ a b (Nat.le_refl _)
end Go.Proofs.Ytfmlmgebomapjab
