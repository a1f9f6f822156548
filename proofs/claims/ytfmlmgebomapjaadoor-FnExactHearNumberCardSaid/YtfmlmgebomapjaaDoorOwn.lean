/-
  Slices of integers that a call makes itself, and the contracts of the laws' helpers: a copy, a comparison, marks that are written and marks that are still there.
-/
import Derived.Test.YtfmlmgebomapjaaDoorRow
import Derived.OwnWalk
import Derived.Deep.QuietTactic
import Derived.BigQuiet
namespace Go.Proofs.YtfmlmgebomapjaaDoor
open Go.RowKit

theorem info64 : (Tryd.prog.info? 2).map (fun i => (i.zero, i.size, i.bytes)) = some (some (.int .i64 0), 1, 8) := by kernel_rfl
abbrev cells64 (zs : List Int) : List Value := zs.map (Value.int .i64)

/-- The slice is the call's own: a row of its own from block B on, not frozen. -/
def Own (B : Nat) (w : World) (A : Option Addr) (n c : Nat) (zs : List Int) : Prop :=
  w.ownsRow B 2 1 (.slice A n c) n (cells64 zs) ∧ ∀ z ∈ zs, (Lit.int .i64 z).wf = true

section
variable {B B' : Nat} {w w' : World} {A : Option Addr} {n c : Nat} {zs : List Int}
theorem Own.len (h : Own B w A n c zs) : zs.length = n := by have := h.1.1; simpa using this
theorem Own.form (h : Own B w A n c zs) : (A = none ∧ n = 0 ∧ c = 0) ∨ ∃ g, A = some ⟨g, 0, none⟩ ∧ B ≤ g ∧ g < w.heap.size ∧ n ≤ c ∧ c ≤ maxLen := by
  rcases h.1.2 with ⟨hv, hn⟩ | ⟨g, cap, cur, hv, hb, hg, hnc, hcm, _⟩
  · injection hv with h1 h2 h3; exact .inl ⟨h1, hn, h3⟩
  · injection hv with h1 h2 h3
    subst h1; subst h3
    exact .inr ⟨g, rfl, hb, (Array.getElem?_eq_some_iff.1 hg).1, hnc, hcm⟩
theorem Own.row (h : Own B w A n c zs) : Row .i64 w A n zs := by
  have hl := h.len
  rcases h.form with ⟨rfl, rfl, _⟩ | ⟨g, rfl, hb, hg, hnc, hcm⟩
  · exact ⟨hl, by unfold maxLen; omega, h.2, fun h0 => absurd h0 (by omega)⟩
  · refine ⟨hl, by omega, h.2, fun h0 => ⟨g, 0, rfl, hg, fun j hj => ?_⟩⟩
    have := h.1.cellAt j (by omega)
    rw [Nat.zero_add, this]
    simp [List.getElem?_eq_getElem (show j < zs.length by omega), List.getD]
theorem Own.keep (h : Own B w A n c zs) (hk : ∀ g, A = some ⟨g, 0, none⟩ → w'.heap[g]? = w.heap[g]?) : Own B w' A n c zs := by
  refine ⟨⟨h.1.1, ?_⟩, h.2⟩
  rcases h.1.2 with hn | ⟨g, cap, cur, hv, hb, hg, rest⟩
  · exact .inl hn
  · refine .inr ⟨g, cap, cur, hv, hb, ?_, rest⟩
    injection hv with h1
    rw [hk g h1, hg]
theorem Own.below (h : Own B w A n c zs) (hb : Below w.heap.size w w') : Own B w' A n c zs :=
  h.keep fun g hg => by
    rcases h.form with ⟨hA, _⟩ | ⟨g', hA, _, hlt, _⟩
    · rw [hg] at hA; cases hA
    · rw [hg] at hA
      injection hA with hA
      injection hA with hA
      subst hA
      exact hb.block _ hlt
theorem Own.drewN (h : Own B w A n c zs) (m : Nat) : Own B (w.drewN m) A n c zs := h
theorem below_drewN {B : Nat} {a w : World} (h : Below B a w) (m : Nat) : Below B a (w.drewN m) := ⟨h.os, h.tape, h.output, h.size, h.block⟩
end

/-- What a copy is: a slice of the call's own with the same numbers. -/
def Made (B : Nat) (n : Nat) (zs : List Int) (w : World) (e : Ending) (w' : World) : Prop :=
  ∃ A c, e = .returned (.slice A n c) ∧ Own B w' A n c zs ∧ Below B w w'

theorem set_take {zs : List Int} {n k : Nat} {z : Int} (hl : zs.length = n) (hk : k < n) (hz : zs[k]? = some z) :
    (zs.take k ++ List.replicate (n - k) 0).set k z = zs.take (k + 1) ++ List.replicate (n - (k + 1)) 0 := by
  apply List.ext_getElem?
  intro j
  rcases Nat.lt_trichotomy j k with h | h | h
  · rw [List.getElem?_set_ne (by omega), List.getElem?_append_left (by simp; omega), List.getElem?_append_left (by simp; omega)]
    simp [h, show j < k + 1 by omega]
  · subst h
    rw [List.getElem?_set_self (by simp; omega), List.getElem?_append_left (by simp; omega)]
    simp [hz]
  · rw [List.getElem?_set_ne (by omega), List.getElem?_append_right (by simp; omega), List.getElem?_append_right (by simp; omega)]
    simp only [List.length_take, List.getElem?_replicate, hl]
    by_cases hj : j < n
    · rw [if_pos (by omega), if_pos (by omega)]
    · rw [if_neg (by omega), if_neg (by omega)]


/-- Of what was there only the block of the slice at A may have turned. -/
structure Only (A : Option Addr) (w w' : World) : Prop where
  os : w'.os = w.os
  tape : w'.tape = w.tape
  output : w'.output = w.output
  size : w'.heap.size = w.heap.size
  block : ∀ g, A ≠ some ⟨g, 0, none⟩ → w'.heap[g]? = w.heap[g]?
theorem Only.refl (A : Option Addr) (w : World) : Only A w w := ⟨rfl, rfl, rfl, rfl, fun _ _ => rfl⟩
theorem Only.set {g : Nat} {w w' : World} (h : Only (some ⟨g, 0, none⟩) w w') (k : Nat) (v : Value) : Only (some ⟨g, 0, none⟩) w (w'.setCell ⟨g, k, none⟩ v) :=
  ⟨h.os, h.tape, h.output, by simpa [World.setCell] using h.size, fun b hb => by
    rw [Below.heap_setCell w' ⟨g, k, none⟩ v b (fun e => hb (by rw [e]))]
    exact h.block b hb⟩
theorem Only.below {A : Option Addr} {B : Nat} {w w' : World} (h : Only A w w') (hB : ∀ g, A = some ⟨g, 0, none⟩ → B ≤ g) : Below B w w' :=
  ⟨h.os, h.tape, h.output, by rw [h.size]; exact Nat.le_refl _, fun k hk => h.block k fun e => by have := hB k e; omega⟩
theorem Only.sz {A : Option Addr} {m : Nat} {w w' : World} (h : Only A (w.drewN m) w') : w'.heap.size = w.heap.size := h.size
theorem Own.from {B n c : Nat} {w : World} {A : Option Addr} {zs : List Int} (h : Own B w A n c zs) : ∀ g, A = some ⟨g, 0, none⟩ → B ≤ g := by
  intro g hg
  rcases h.form with ⟨hA, _⟩ | ⟨g', hA, hb, _⟩
  · rw [hg] at hA; cases hA
  · rw [hg] at hA
    injection hA with hA
    injection hA with hA
    omega

theorem Own.lower {B B' n c : Nat} {w : World} {A : Option Addr} {zs : List Int} (h : Own B w A n c zs) (hB : B' ≤ B) : Own B' w A n c zs := by
  refine ⟨⟨h.1.1, ?_⟩, h.2⟩
  rcases h.1.2 with hh | ⟨g, cap, cur, hv, hg, rest⟩
  · exact .inl hh
  · exact .inr ⟨g, cap, cur, hv, Nat.le_trans hB hg, rest⟩
theorem Own.cap {B n c : Nat} {w : World} {A : Option Addr} {zs : List Int} (h : Own B w A n c zs) : n ≤ c := by
  rcases h.form with ⟨_, h0, _⟩ | ⟨_, _, _, _, h1, _⟩ <;> omega
theorem Own.lt {B n c : Nat} {w : World} {A : Option Addr} {zs : List Int} (h : Own B w A n c zs) : ∀ g, A = some ⟨g, 0, none⟩ → g < w.heap.size := by
  intro g hg
  rcases h.form with ⟨hA, _⟩ | ⟨g', hA, _, hl, _⟩
  · rw [hg] at hA; cases hA
  · rw [hg] at hA
    injection hA with hA
    injection hA with hA
    omega
/-- Another slice's block, below this one's, may turn. -/
theorem Own.only_lt {B n c : Nat} {w w' : World} {A A' : Option Addr} {zs : List Int} (h : Own B w A n c zs) (k : Only A' w w') (hl : ∀ g, A' = some ⟨g, 0, none⟩ → g < B) : Own B w' A n c zs :=
  h.keep fun g hg => k.block g fun e => by have h1 := hl g e; have h2 := h.from g hg; omega
/-- Another slice's block, above this one's, may turn. -/
theorem Own.only_gt {B B' n c : Nat} {w w' : World} {A A' : Option Addr} {zs : List Int} (h : Own B w A n c zs) (k : Only A' w w') (ht : ∀ g, A = some ⟨g, 0, none⟩ → g < B') (hl : ∀ g, A' = some ⟨g, 0, none⟩ → B' ≤ g) : Own B w' A n c zs :=
  h.keep fun g hg => k.block g fun e => by have h1 := hl g e; have h2 := ht g hg; omega

def marks (k n : Nat) : List Int := (List.range' k n).map Int.ofNat
theorem marks_len (k n : Nat) : (marks k n).length = n := by simp [marks]
theorem marks_at {k n i : Nat} (h : i < n) : (marks k n)[i]? = some ((k : Int) + (i : Int)) := by
  simp [marks, h]
theorem marks_wf {k n : Nat} (h : k + n ≤ 1000000000000) : ∀ z ∈ marks k n, (Lit.int .i64 z).wf = true := by
  intro z hz
  simp only [marks, List.mem_map, List.mem_range'_1] at hz
  obtain ⟨a, ha, rfl⟩ := hz
  exact WalkArith.wf_i64 (by simp; omega)
theorem marks_set {zs : List Int} {k i n : Nat} (hl : zs.length = n) (h : i < n) :
    (marks k i ++ zs.drop i).set i ((k : Int) + (i : Int)) = marks k (i + 1) ++ zs.drop (i + 1) := by
  apply List.ext_getElem?
  intro j
  have hm := marks_len k i
  have hm1 := marks_len k (i + 1)
  rcases Nat.lt_trichotomy j i with hj | hj | hj
  · rw [List.getElem?_set_ne (by omega), List.getElem?_append_left (by omega), List.getElem?_append_left (by omega), marks_at hj, marks_at (by omega)]
  · subst hj
    rw [List.getElem?_set_self (by simp; omega), List.getElem?_append_left (by omega), marks_at (by omega)]
  · rw [List.getElem?_set_ne (by omega), List.getElem?_append_right (by omega), List.getElem?_append_right (by omega)]
    simp only [List.getElem?_drop, hm, hm1]
    congr 1
    omega

end Go.Proofs.YtfmlmgebomapjaaDoor
