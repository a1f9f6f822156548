/-
  Tries as numbered nodes: where letters lead, which words end, what a new node and a new end change.
-/
import Derived.Test.YtfmlmgebomapjabBasic
namespace Go.Proofs.Ytfmlmgebomapjab

structure Tr where
  gs : List Nat
  en : Nat → Option Nat
  nx : Nat → Nat → Option Nat

/-- Where letters lead from a node. -/
def Tr.go (T : Tr) : Nat → List Nat → Option Nat
  | i, [] => some i
  | i, c :: l => match T.nx i c with
    | none => none
    | some j => T.go j l
/-- The index of a word, if it ends in the trie. -/
def Tr.acc (T : Tr) (u : List Nat) : Option Nat := match T.go 0 u with
  | none => none
  | some i => T.en i

structure Tr.Ok (T : Tr) : Prop where
  root : 0 < T.gs.length
  kid : ∀ i c j, T.nx i c = some j → i < j ∧ j < T.gs.length
  out : ∀ i c, T.gs.length ≤ i → T.nx i c = none
  par : ∀ i i' c c' j, T.nx i c = some j → T.nx i' c' = some j → i = i' ∧ c = c'
  enN : ∀ i, T.gs.length ≤ i → T.en i = none

theorem Tr.go_cons (T : Tr) (i c : Nat) (l : List Nat) : T.go i (c :: l) = match T.nx i c with
    | none => none
    | some j => T.go j l := rfl
theorem Tr.go_snoc (T : Tr) (c : Nat) : ∀ (l : List Nat) (i : Nat), T.go i (l ++ [c]) = match T.go i l with
    | none => none
    | some j => T.nx j c := by
  intro l
  induction l with
  | nil =>
    intro i
    show T.go i [c] = T.nx i c
    rw [Tr.go_cons]
    cases T.nx i c <;> rfl
  | cons d l ih =>
    intro i
    rw [List.cons_append, Tr.go_cons, Tr.go_cons]
    cases T.nx i d with
    | none => rfl
    | some j => exact ih j
theorem Tr.Ok.go_lt {T : Tr} (h : T.Ok) : ∀ (l : List Nat) (i k : Nat), i < T.gs.length → T.go i l = some k → k < T.gs.length := by
  intro l
  induction l with
  | nil => intro i k hi e; injection e with e; omega
  | cons c l ih =>
    intro i k hi e
    rw [Tr.go_cons] at e
    cases hn : T.nx i c with
    | none => rw [hn] at e; cases e
    | some j => rw [hn] at e; exact ih j k (h.kid i c j hn).2 e
theorem snoc_cases (l : List Nat) : l = [] ∨ ∃ l' c, l = l' ++ [c] := by
  rcases List.eq_nil_or_concat l with h | ⟨l', c, h⟩
  · exact .inl h
  · exact .inr ⟨l', c, by simpa using h⟩
theorem Tr.Ok.go_inj {T : Tr} (h : T.Ok) : ∀ (n : Nat) (u v : List Nat) (i : Nat), u.length ≤ n → T.go 0 u = some i → T.go 0 v = some i → u = v := by
  intro n
  induction n with
  | zero =>
    intro u v i hu e1 e2
    have hu0 : u = [] := List.eq_nil_of_length_eq_zero (by omega)
    subst hu0
    injection e1 with e1
    subst e1
    rcases snoc_cases v with rfl | ⟨v', c, rfl⟩
    · rfl
    · rw [Tr.go_snoc] at e2
      cases hg : T.go 0 v' with
      | none => rw [hg] at e2; cases e2
      | some j => rw [hg] at e2; have := (h.kid _ _ _ e2).1; omega
  | succ n ih =>
    intro u v i hu e1 e2
    rcases snoc_cases u with rfl | ⟨u', c, rfl⟩
    · exact ih [] v i (by simp) e1 e2
    · rw [Tr.go_snoc] at e1
      cases hg : T.go 0 u' with
      | none => rw [hg] at e1; cases e1
      | some j =>
        rw [hg] at e1
        rcases snoc_cases v with rfl | ⟨v', c', rfl⟩
        · injection e2 with e2
          subst e2
          have := (h.kid _ _ _ e1).1
          omega
        · rw [Tr.go_snoc] at e2
          cases hg' : T.go 0 v' with
          | none => rw [hg'] at e2; cases e2
          | some j' =>
            rw [hg'] at e2
            obtain ⟨rfl, rfl⟩ := h.par _ _ _ _ _ e1 e2
            rw [ih u' v' j (by simp at hu; omega) hg hg']

/-- A new node behind a node. -/
def Tr.grow (T : Tr) (i c g : Nat) : Tr := ⟨T.gs ++ [g], T.en, fun a b => if a = i ∧ b = c then some T.gs.length else T.nx a b⟩
theorem Tr.grow_nx {T : Tr} {i c g a b : Nat} : (T.grow i c g).nx a b = if a = i ∧ b = c then some T.gs.length else T.nx a b := rfl
theorem Tr.Ok.grow {T : Tr} (h : T.Ok) {i c : Nat} (g : Nat) (hi : i < T.gs.length) : (T.grow i c g).Ok := by
  have hl : (T.grow i c g).gs.length = T.gs.length + 1 := by simp [Tr.grow]
  constructor
  · omega
  · intro a b j e
    rw [Tr.grow_nx] at e
    split at e
    · rename_i hh; injection e with e; omega
    · have := h.kid a b j e; omega
  · intro a b ha
    rw [Tr.grow_nx, if_neg (by omega)]
    exact h.out a b (by omega)
  · intro a a' b b' j e e'
    rw [Tr.grow_nx] at e e'
    split at e
    · rename_i h1
      injection e with e
      subst e
      split at e'
      · rename_i h2; omega
      · have := h.kid _ _ _ e'; omega
    · split at e'
      · injection e' with e'
        subst e'
        have := h.kid _ _ _ e; omega
      · exact h.par _ _ _ _ _ e e'
  · intro a ha
    exact h.enN a (by omega)
theorem Tr.grow_go {T : Tr} {i c : Nat} (g : Nat) (hn : T.nx i c = none) : ∀ (l : List Nat) (a k : Nat), T.go a l = some k → (T.grow i c g).go a l = some k := by
  intro l
  induction l with
  | nil => intro a k e; exact e
  | cons d l ih =>
    intro a k e
    rw [Tr.go_cons] at e ⊢
    cases hx : T.nx a d with
    | none => rw [hx] at e; cases e
    | some j =>
      rw [hx] at e
      have : (T.grow i c g).nx a d = some j := by
        rw [Tr.grow_nx, if_neg (by rintro ⟨rfl, rfl⟩; rw [hn] at hx; cases hx), hx]
      rw [this]
      exact ih j k e
theorem Tr.Ok.grow_back {T : Tr} (h : T.Ok) {i c : Nat} (g : Nat) : ∀ (l : List Nat) (a k : Nat), a < T.gs.length → (T.grow i c g).go a l = some k → T.go a l = some k ∨ k = T.gs.length := by
  intro l
  induction l with
  | nil => intro a k _ e; exact .inl e
  | cons d l ih =>
    intro a k ha e
    rw [Tr.go_cons, Tr.grow_nx] at e
    rw [Tr.go_cons]
    by_cases hh : a = i ∧ d = c
    · rw [if_pos hh] at e
      right
      cases l with
      | nil => injection e with e; exact e.symm
      | cons d' l' =>
        change (T.grow i c g).go T.gs.length (d' :: l') = some k at e
        rw [Tr.go_cons, Tr.grow_nx, if_neg (by omega), h.out _ _ (Nat.le_refl _)] at e
        cases e
    · rw [if_neg hh] at e
      cases hx : T.nx a d with
      | none => rw [hx] at e; cases e
      | some j => rw [hx] at e; exact ih j k (h.kid _ _ _ hx).2 e
theorem Tr.Ok.grow_acc {T : Tr} (h : T.Ok) {i c : Nat} (g : Nat) (hn : T.nx i c = none) (u : List Nat) : (T.grow i c g).acc u = T.acc u := by
  unfold Tr.acc
  cases hg : T.go 0 u with
  | some k => rw [Tr.grow_go g hn u 0 k hg]; rfl
  | none =>
    cases hg' : (T.grow i c g).go 0 u with
    | none => rfl
    | some k =>
      rcases h.grow_back g u 0 k h.root hg' with h1 | h1
      · rw [hg] at h1; cases h1
      · subst h1; exact h.enN _ (Nat.le_refl _)
/-- A word ends in a node. -/
def Tr.mark (T : Tr) (i z : Nat) : Tr := ⟨T.gs, fun a => if a = i then some z else T.en a, T.nx⟩
theorem Tr.mark_go (T : Tr) (i z : Nat) : ∀ (l : List Nat) (a : Nat), (T.mark i z).go a l = T.go a l := by
  intro l
  induction l with
  | nil => intro a; rfl
  | cons d l ih =>
    intro a
    rw [Tr.go_cons, Tr.go_cons]
    show (match T.nx a d with | none => none | some j => (T.mark i z).go j l) = _
    cases T.nx a d with
    | none => rfl
    | some j => exact ih j
theorem Tr.Ok.mark {T : Tr} (h : T.Ok) {i z : Nat} (hi : i < T.gs.length) : (T.mark i z).Ok :=
  ⟨h.root, h.kid, h.out, h.par, fun a ha => by
    show (if a = i then some z else T.en a) = none
    rw [if_neg (by have : T.gs.length ≤ a := ha
                   omega)]
    exact h.enN a ha⟩
theorem Tr.Ok.mark_acc {T : Tr} (h : T.Ok) {i z : Nat} {w : List Nat} (hw : T.go 0 w = some i) (u : List Nat) : (T.mark i z).acc u = if u = w then some z else T.acc u := by
  unfold Tr.acc
  rw [Tr.mark_go]
  cases hg : T.go 0 u with
  | none =>
    rw [if_neg (by rintro rfl; rw [hg] at hw; cases hw)]
  | some k =>
    show (if k = i then some z else T.en k) = _
    by_cases hk : k = i
    · subst hk
      rw [if_pos rfl, if_pos (h.go_inj _ u w k (Nat.le_refl _) hg hw)]
    · rw [if_neg hk, if_neg (by rintro rfl; rw [hw] at hg; injection hg with hg; exact hk hg.symm)]

/-- No way from the root is longer. -/
def Tr.Deep (T : Tr) (d : Nat) : Prop := ∀ u i, T.go 0 u = some i → u.length ≤ d
theorem Tr.Ok.grow_new {T : Tr} {i c : Nat} (g : Nat) (hn : T.nx i c = none) {l : List Nat} (hl : T.go 0 l = some i) : (T.grow i c g).go 0 (l ++ [c]) = some T.gs.length := by
  rw [Tr.go_snoc, Tr.grow_go g hn l 0 i hl]
  show (T.grow i c g).nx i c = _
  rw [Tr.grow_nx, if_pos ⟨rfl, rfl⟩]
theorem Tr.Ok.grow_deep {T : Tr} (h : T.Ok) {i c d : Nat} (g : Nat) (hi : i < T.gs.length) (hn : T.nx i c = none) {l : List Nat} (hl : T.go 0 l = some i) (hd : T.Deep d) (hld : l.length + 1 ≤ d) : (T.grow i c g).Deep d := by
  intro u k e
  rcases h.grow_back g u 0 k h.root e with h1 | h1
  · exact hd u k h1
  · subst h1
    have := (h.grow g hi).go_inj _ u (l ++ [c]) T.gs.length (Nat.le_refl _) e (Tr.Ok.grow_new g hn hl)
    rw [this]
    simpa using hld
theorem Tr.mark_deep {T : Tr} {i z d : Nat} (hd : T.Deep d) : (T.mark i z).Deep d := fun u k e => hd u k (by rw [Tr.mark_go] at e; exact e)

/-- The words of the trie are these, by their indices. -/
def Tr.Has (T : Tr) (ws : List (List Nat)) : Prop := ∀ u z, T.acc u = some z ↔ ws[z]? = some u
theorem Tr.Has.add {T T' : Tr} {ws : List (List Nat)} {w : List Nat} (h : T.Has ws) (hn : T.acc w = none) (ha : ∀ u, T'.acc u = if u = w then some ws.length else T.acc u) : T'.Has (ws ++ [w]) := by
  intro u z
  rw [ha u]
  have hnot : ∀ z, ws[z]? ≠ some w := fun z e => by have := (h w z).2 e; rw [hn] at this; cases this
  by_cases hu : u = w
  · subst hu
    rw [if_pos rfl]
    constructor
    · intro e; injection e with e; subst e; simp
    · intro e
      by_cases hz : z < ws.length
      · rw [List.getElem?_append_left hz] at e; exact absurd e (hnot z)
      · rw [List.getElem?_append_right (by omega)] at e
        have : z - ws.length = 0 := by
          rcases hq : z - ws.length with _ | q
          · rfl
          · rw [hq] at e; simp at e
        congr 1; omega
  · rw [if_neg hu, h u z]
    constructor
    · intro e
      rw [List.getElem?_append_left (List.getElem?_eq_some_iff.1 e).1]; exact e
    · intro e
      by_cases hz : z < ws.length
      · rw [List.getElem?_append_left hz] at e; exact e
      · exfalso
        rw [List.getElem?_append_right (by omega)] at e
        rcases hq : z - ws.length with _ | q
        · rw [hq] at e; simp at e; exact hu e.symm
        · rw [hq] at e; simp at e
/-- The letters of a text, as numbers. -/
def lets (l : List UInt8) : List Nat := l.map fun b => b.toNat - 97
theorem lets_inj : ∀ (l m : List UInt8), (∀ b ∈ l, 97 ≤ b.toNat) → (∀ b ∈ m, 97 ≤ b.toNat) → lets l = lets m → l = m := by
  intro l
  induction l with
  | nil => intro m _ _ h; cases m with
    | nil => rfl
    | cons b m => simp [lets] at h
  | cons a l ih =>
    intro m ha hm h
    cases m with
    | nil => simp [lets] at h
    | cons b m =>
      simp only [lets, List.map_cons, List.cons.injEq] at h
      have h1 := ha a (by simp)
      have h2 := hm b (by simp)
      have e : a = b := UInt8.toNat_inj.1 (by omega)
      rw [e, ih m (fun x hx => ha x (by simp [hx])) (fun x hx => hm x (by simp [hx])) h.2]
end Go.Proofs.Ytfmlmgebomapjab
