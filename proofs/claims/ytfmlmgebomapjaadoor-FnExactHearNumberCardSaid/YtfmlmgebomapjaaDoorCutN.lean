/-
  A text that is cut at a mark: the model's l01Cut, and the library's SplitN.
-/
import Derived.Test.YtfmlmgebomapjaaDoorBasic
import Derived.Test.YtfmlmgebomapjaaDoorOwn
import Derived.Lib.Split
namespace Go.Proofs.YtfmlmgebomapjaaDoor
open Go.RowKit

/-- The parts of a text between marks. -/
def cut (c : UInt8) : List UInt8 → List (List UInt8)
  | [] => [[]]
  | b :: l => if b = c then [] :: cut c l else ((b :: (cut c l).headD []) :: (cut c l).tail)
theorem cut_cons (c b : UInt8) (l : List UInt8) : cut c (b :: l) = if b = c then [] :: cut c l else ((b :: (cut c l).headD []) :: (cut c l).tail) := rfl
theorem splitK_next (sep : List UInt8) (k : Nat) (s : List UInt8) : Lib.splitK sep 0 (k + 1) s = if Lib.index s sep == -1 then [s] else s.take ((Lib.index s sep).toNat + 0) :: Lib.splitK sep 0 k (s.drop ((Lib.index s sep).toNat + sep.length)) := rfl
theorem cut_ne (c : UInt8) (l : List UInt8) : cut c l ≠ [] := by
  cases l with
  | nil => simp [cut]
  | cons b l => unfold cut; split <;> simp
theorem cut_free {c : UInt8} : ∀ {l : List UInt8}, (∀ b ∈ l, b ≠ c) → cut c l = [l] := by
  intro l
  induction l with
  | nil => intro _; rfl
  | cons b l ih =>
    intro h
    have := ih (fun x hx => h x (by simp [hx]))
    unfold cut
    rw [if_neg (h b (by simp)), this]
    rfl
theorem cut_hit {c : UInt8} (r : List UInt8) : ∀ {l : List UInt8}, (∀ b ∈ l, b ≠ c) → cut c (l ++ c :: r) = l :: cut c r := by
  intro l
  induction l with
  | nil => intro _; simp [cut]
  | cons b l ih =>
    intro h
    have := ih (fun x hx => h x (by simp [hx]))
    rw [List.cons_append, cut_cons, if_neg (h b (by simp)), this]
    rfl
theorem cut_len (c : UInt8) : ∀ l : List UInt8, (cut c l).length ≤ l.length + 1 := by
  intro l
  induction l with
  | nil => simp [cut]
  | cons b l ih =>
    unfold cut
    split
    · simp; exact ih
    · have := cut_ne c l
      have : 0 < (cut c l).length := List.length_pos_iff.2 this
      simp
      omega
theorem cut_le (c : UInt8) : ∀ l : List UInt8, ∀ p ∈ cut c l, p.length ≤ l.length := by
  intro l
  induction l with
  | nil => simp [cut]
  | cons b l ih =>
    intro p hp
    unfold cut at hp
    have hne := cut_ne c l
    split at hp
    · rcases List.mem_cons.1 hp with rfl | hp
      · simp
      · have := ih p hp; simp; omega
    · rcases List.mem_cons.1 hp with rfl | hp
      · obtain ⟨x, r, e⟩ := List.exists_cons_of_ne_nil hne
        have := ih x (by rw [e]; simp)
        rw [e]; simp; omega
      · have := ih p (List.mem_of_mem_tail hp); simp; omega
theorem index_one (c : UInt8) : ∀ l : List UInt8, (Lib.index l [c] = -1 ∧ ∀ b ∈ l, b ≠ c) ∨ ∃ p r, l = p ++ c :: r ∧ (∀ b ∈ p, b ≠ c) ∧ Lib.index l [c] = (p.length : Int) := by
  intro l
  induction l with
  | nil => exact .inl ⟨rfl, by simp⟩
  | cons b l ih =>
    by_cases hb : b = c
    · subst hb
      exact .inr ⟨[], l, rfl, by simp, by unfold Lib.index; simp⟩
    · have hp : ([c] : List UInt8).isPrefixOf (b :: l) = false := by simp [List.isPrefixOf]; exact fun e => hb e.symm
      rcases ih with ⟨h1, h2⟩ | ⟨p, r, rfl, h2, h3⟩
      · refine .inl ⟨by unfold Lib.index; rw [hp, h1]; rfl, ?_⟩
        intro x hx
        rcases List.mem_cons.1 hx with rfl | hx
        · exact hb
        · exact h2 x hx
      · refine .inr ⟨b :: p, r, rfl, ?_, ?_⟩
        · intro x hx
          rcases List.mem_cons.1 hx with rfl | hx
          · exact hb
          · exact h2 x hx
        · unfold Lib.index
          rw [hp, h3]
          have : (((p.length : Int)) == -1) = false := by rw [beq_eq_false_iff_ne]; omega
          simp [this]
theorem split_hit {c : UInt8} {p r : List UInt8} (k : Nat) (hi : Lib.index (p ++ c :: r) [c] = (p.length : Int)) : Lib.splitK [c] 0 (k + 1) (p ++ c :: r) = p :: Lib.splitK [c] 0 k r := by
  have : (Lib.index (p ++ c :: r) [c] == -1) = false := by rw [hi, beq_eq_false_iff_ne]; omega
  rw [splitK_next, this, hi]
  simp
theorem split_cut (c : UInt8) : ∀ (k : Nat) (l : List UInt8), ((cut c l).length ≤ k + 1 → Lib.splitK [c] 0 k l = cut c l) ∧ (k + 1 ≤ (cut c l).length → (Lib.splitK [c] 0 k l).length = k + 1) := by
  intro k
  induction k with
  | zero =>
    intro l
    refine ⟨fun h => ?_, fun _ => rfl⟩
    rcases index_one c l with ⟨_, h2⟩ | ⟨p, r, rfl, h2, _⟩
    · rw [cut_free h2]; rfl
    · rw [cut_hit r h2] at h
      have := List.length_pos_iff.2 (cut_ne c r)
      simp at h
      exact absurd h (cut_ne c r)
  | succ k ih =>
    intro l
    rcases index_one c l with ⟨h1, h2⟩ | ⟨p, r, rfl, h2, h3⟩
    · rw [cut_free h2]
      refine ⟨fun _ => ?_, fun h => ?_⟩
      · unfold Lib.splitK; rw [h1]; rfl
      · simp at h
    · rw [cut_hit r h2, split_hit k h3]
      have := ih r
      refine ⟨fun h => ?_, fun h => ?_⟩
      · rw [this.1 (by simpa using h)]
      · simp at h ⊢
        exact this.2 h
end Go.Proofs.YtfmlmgebomapjaaDoor
