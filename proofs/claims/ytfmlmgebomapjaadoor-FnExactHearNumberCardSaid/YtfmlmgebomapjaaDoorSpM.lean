/-
  Speeches: different letters, as the program and as the model test them.
-/
import Derived.Test.YtfmlmgebomapjaaDoorCho
import Derived.Lib.IndexAny
namespace Go.Proofs.YtfmlmgebomapjaaDoor
open Go Go.RowKit

abbrev alphaS : ByteArray := ⟨#[97, 98, 99, 100, 101, 102, 103, 104, 105, 106, 107, 108, 109, 110, 111, 112, 113, 114, 115, 116, 117, 118, 119, 120, 121, 122]⟩
theorem alpha_plain : plainB alphaS := by unfold plainB; decide
theorem alpha_mem (b : UInt8) : b ∈ alphaS.data.toList ↔ lowB b = true := by
  have h : ∀ n : Fin 256, (UInt8.ofNat n.val ∈ alphaS.data.toList) ↔ lowB (UInt8.ofNat n.val) = true := by decide +kernel
  have h2 := h ⟨b.toNat, b.toNat_lt⟩
  simpa using h2
theorem chM_some {a : List UInt8} : ∀ (l : List UInt8) (m : Nat), (chM a l m).isSome = true ↔ (∀ b ∈ l, ∃ k, ixO a b = some k ∧ m.testBit k = false) ∧ l.Nodup := by
  intro l
  induction l with
  | nil => intro m; simp [chM]
  | cons b l ih =>
    intro m
    rw [chM_cons]
    cases hx : ixO a b with
    | none =>
      simp only [Option.isSome_none, Bool.false_eq_true, false_iff]
      rintro ⟨h, _⟩
      obtain ⟨k, hk, _⟩ := h b (by simp)
      rw [hx] at hk; cases hk
    | some k =>
      dsimp only
      by_cases hb : m.testBit k = true
      · rw [if_pos hb]
        simp only [Option.isSome_none, Bool.false_eq_true, false_iff]
        rintro ⟨h, _⟩
        obtain ⟨j, hj, hj2⟩ := h b (by simp)
        rw [hx] at hj
        injection hj with hj
        subst hj
        rw [hb] at hj2; cases hj2
      · rw [if_neg hb, ih, List.nodup_cons]
        have hbf : m.testBit k = false := by simpa using hb
        constructor
        · rintro ⟨h1, h2⟩
          refine ⟨fun c hc => ?_, fun hmem => ?_, h2⟩
          · rcases List.mem_cons.1 hc with rfl | hc
            · exact ⟨k, hx, hbf⟩
            · obtain ⟨j, hj, hj2⟩ := h1 c hc
              rw [Nat.testBit_or, Bool.or_eq_false_iff] at hj2
              exact ⟨j, hj, hj2.1⟩
          · obtain ⟨j, hj, hj2⟩ := h1 b hmem
            rw [hx] at hj
            injection hj with hj
            subst hj
            rw [Nat.testBit_or, Nat.testBit_two_pow_self] at hj2
            simp at hj2
        · rintro ⟨h1, h2, h3⟩
          refine ⟨fun c hc => ?_, h3⟩
          obtain ⟨j, hj, hj2⟩ := h1 c (by simp [hc])
          refine ⟨j, hj, ?_⟩
          rw [Nat.testBit_or, hj2, Bool.false_or, Nat.testBit_two_pow]
          simp only [decide_eq_false_iff_not]
          rintro rfl
          have e1 := ixO_at _ _ _ hx
          have e2 := ixO_at _ _ _ hj
          rw [e1] at e2
          injection e2 with e2
          exact h2 (e2 ▸ hc)
theorem cho_letters (s : ByteArray) : (chM alphaS.data.toList s.data.toList 0).isSome = (letB s && decide s.data.toList.Nodup) := by
  rw [Bool.eq_iff_iff, chM_some, Bool.and_eq_true, decide_eq_true_eq]
  refine and_congr_left (fun _ => ?_)
  unfold letB
  rw [List.all_eq_true]
  constructor
  · intro h b hb
    obtain ⟨k, hk, _⟩ := h b hb
    exact (alpha_mem b).1 (by
      rcases hm : ixO alphaS.data.toList b with _ | j
      · rw [hm] at hk; cases hk
      · exact List.mem_of_getElem? (ixO_at _ _ _ hm))
  · intro h b hb
    cases hx : ixO alphaS.data.toList b with
    | none => exact absurd ((alpha_mem b).2 (h b hb)) ((ixO_none _ _).1 hx)
    | some k => exact ⟨k, rfl, by simp⟩
theorem any_none : ∀ (l chars : List UInt8), Lib.indexAny l chars = -1 ↔ ∀ b ∈ l, b ∉ chars := by
  intro l chars
  induction l with
  | nil => simp [Lib.indexAny]
  | cons b l ih =>
    have hge := Lib.indexAny_ge chars l
    unfold Lib.indexAny
    by_cases h : chars.contains b = true
    · rw [if_pos h]
      have hb : b ∈ chars := by simpa using h
      constructor
      · intro e; cases e
      · intro hh; exact absurd hb (hh b (by simp))
    · rw [if_neg h]
      have hb : b ∉ chars := by simpa using h
      by_cases h2 : Lib.indexAny l chars = -1
      · rw [if_pos (by rw [h2]; rfl)]
        refine ⟨fun _ c hc => ?_, fun _ => rfl⟩
        rcases List.mem_cons.1 hc with rfl | hc
        · exact hb
        · exact (ih.1 h2) c hc
      · rw [if_neg (by simpa using h2)]
        constructor
        · intro e; omega
        · intro hh; exact absurd (ih.2 (fun c hc => hh c (by simp [hc]))) h2
theorem any_not (l chars : List UInt8) : Lib.containsAny l chars = false ↔ ∀ b ∈ l, b ∉ chars := by
  have hge := Lib.indexAny_ge chars l
  rw [← any_none]
  unfold Lib.containsAny
  rw [decide_eq_false_iff_not]
  omega
/-- Whether a speech is valid. -/
def spB (F S : ByteArray) : Bool := (decide (1 ≤ F.size ∧ F.size ≤ 20) && (letB F && decide F.data.toList.Nodup)) && ((decide (1 ≤ S.size ∧ S.size ≤ 6) && (letB S && decide S.data.toList.Nodup)) && decide (∀ b ∈ F.data.toList, b ∉ S.data.toList))
def alB (s : ByteArray) (most : Nat) : Bool := decide (1 ≤ s.size ∧ s.size ≤ most) && (letB s && decide s.data.toList.Nodup)
theorem sp_al (F S : ByteArray) : spB F S = (alB F 20 && (alB S 6 && decide (∀ b ∈ F.data.toList, b ∉ S.data.toList))) := rfl
theorem let_plain {s : ByteArray} (h : letB s = true) : ∀ (j : Nat) (b : UInt8), s.data.toList[j]? = some b → b.toNat < 128 := fun j b hb => by
  have := List.all_eq_true.1 h b (List.mem_of_getElem? hb)
  simp only [lowB, decide_eq_true_eq] at this
  omega
end Go.Proofs.YtfmlmgebomapjaaDoor
