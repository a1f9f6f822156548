/-
  The weighting that a text is: a text with '/' is no text of a list, and what a cut with a limit gives.
-/
import Derived.Test.YtakkehjfdeghoacDoorMadeWB
import Derived.Test.YtakkehjfdeghoacDoorWIs
import Derived.Test.YtakkehjfdeghoacDoorNumbI
namespace Go.Proofs.YtakkehjfdeghoacDoor
open Go.RowKit

def rw4 (a b c d : List UInt8) : Option Wt :=
  (specP a).bind fun x => (specP b).bind fun y => (specP c).bind fun z => (listR d).bind fun ws => if wOk ⟨x, y, z, ws⟩ = true then some ⟨x, y, z, ws⟩ else none
/-- The weighting that a text is. -/
def rwO (l : List UInt8) : Option Wt :=
  match cut 47 l with
  | [a, b, c, d] => rw4 a b c d
  | _ => none
theorem rwO_four {l a b c d : List UInt8} (h : cut 47 l = [a, b, c, d]) : rwO l = rw4 a b c d := by simp [rwO, h]
theorem rwO_else {l : List UInt8} (h : (cut 47 l).length ≠ 4) : rwO l = none := by
  unfold rwO
  split
  · rename_i e; rw [e] at h; simp at h
  · rfl
theorem dec_slash : ∀ (l : List UInt8) (n : Nat), (47 : UInt8) ∈ l → Lib.decFrom n l = none := by
  intro l
  induction l with
  | nil => intro n h; simp at h
  | cons b l ih =>
    intro n h
    unfold Lib.decFrom
    rcases List.mem_cons.1 h with h | h
    · subst h; rfl
    · split
      · exact ih _ h
      · rfl
theorem spec_slash {l : List UInt8} (h : (47 : UInt8) ∈ l) : specP l = none := by
  refine spec_none_dig (dec_slash _ _ ?_)
  unfold restOf
  split
  · rename_i hn
    cases l with
    | nil => simp at h
    | cons b l =>
      rcases List.mem_cons.1 h with h | h
      · subst h; simp [isNeg] at hn
      · exact h
  · exact h
theorem cut_mem {c x : UInt8} (hx : x ≠ c) : ∀ l : List UInt8, x ∈ l → ∃ p ∈ cut c l, x ∈ p := by
  intro l
  induction l with
  | nil => intro h; simp at h
  | cons b l ih =>
    intro h
    rw [cut_cons]
    have hne := cut_ne c l
    obtain ⟨q, r, e⟩ := List.exists_cons_of_ne_nil hne
    by_cases hb : b = c
    · rw [if_pos hb]
      rcases List.mem_cons.1 h with h | h
      · exact absurd (h.trans hb) hx
      · obtain ⟨p, hp, hxp⟩ := ih h
        exact ⟨p, List.mem_cons_of_mem _ hp, hxp⟩
    · rw [if_neg hb, e]
      rcases List.mem_cons.1 h with h | h
      · exact ⟨b :: q, by simp, by rw [h]; simp⟩
      · obtain ⟨p, hp, hxp⟩ := ih h
        rw [e] at hp
        rcases List.mem_cons.1 hp with hp | hp
        · exact ⟨b :: q, by simp, by rw [← hp]; exact List.mem_cons_of_mem _ hxp⟩
        · exact ⟨p, by simp [hp], hxp⟩
theorem list_slash {l : List UInt8} (h : (47 : UInt8) ∈ l) : listR l = none := by
  have h1 : ¬ l = noneT := by
    intro e
    rw [e] at h
    simp [noneT] at h
  by_cases h2 : 40 < (cut 32 l).length
  · exact listR_long h1 h2
  · rw [listR_nums h1 h2]
    obtain ⟨p, hp, hx⟩ := cut_mem (c := 32) (by decide) l h
    obtain ⟨a, b, e⟩ := List.append_of_mem hp
    rw [e]
    exact nums_none (spec_slash hx)
theorem split_one (k : Nat) (c : UInt8) (l : List UInt8) (h : ∀ b ∈ l, b ≠ c) : Lib.splitK [c] 0 k l = [l] := by
  have := (split_cut c k l).1 (by rw [cut_free h]; simp)
  rw [this, cut_free h]
theorem split_zero (c : UInt8) (l : List UInt8) : Lib.splitK [c] 0 0 l = [l] := rfl
/-- A cut with a limit: no part is longer than the text, and where there are more parts than the limit, the last one holds the mark. -/
theorem split_last (c : UInt8) : ∀ (k : Nat) (l : List UInt8), (∀ p ∈ Lib.splitK [c] 0 k l, p.length ≤ l.length) ∧ (k + 2 ≤ (cut c l).length → ∃ a p, Lib.splitK [c] 0 k l = a ++ [p] ∧ c ∈ p) := by
  intro k
  induction k with
  | zero =>
    intro l
    rw [split_zero]
    refine ⟨by simp, fun h => ⟨[], l, rfl, ?_⟩⟩
    by_cases hc : c ∈ l
    · exact hc
    · rw [cut_free (fun b hb e => hc (by rw [← e]; exact hb))] at h
      simp at h
  | succ k ih =>
    intro l
    rcases index_one c l with ⟨_, h2⟩ | ⟨p, r, rfl, h2, h3⟩
    · rw [split_one _ _ _ h2]
      refine ⟨by simp, fun h => ?_⟩
      rw [cut_free h2] at h
      simp at h
    · rw [split_hit k h3, cut_hit r h2]
      obtain ⟨i1, i2⟩ := ih r
      refine ⟨fun q hq => ?_, fun h => ?_⟩
      · rcases List.mem_cons.1 hq with rfl | hq
        · simp
        · have := i1 q hq
          simp
          omega
      · obtain ⟨a, q, e, hq⟩ := i2 (by simp at h; omega)
        exact ⟨p :: a, q, by rw [e]; rfl, hq⟩
theorem rw4_slash {a b c d : List UInt8} (h : (47 : UInt8) ∈ d) : rw4 a b c d = none := by
  unfold rw4
  rw [list_slash h]
  cases specP a with
  | none => rfl
  | some x => cases specP b with
    | none => rfl
    | some y => cases specP c <;> rfl
/-- What the cut with the limit tells. -/
theorem split_rw (l : List UInt8) (K : Nat) (hK : K = min 4 (l.length + 1) - 1) :
    (Lib.splitK [47] 0 K l).length ≤ 4 ∧ ((Lib.splitK [47] 0 K l).length ≠ 4 → rwO l = none) ∧ (∀ a b c d, Lib.splitK [47] 0 K l = [a, b, c, d] → rwO l = rw4 a b c d) := by
  have hc := split_cut 47 K l
  have hcl := cut_len 47 l
  rcases Nat.lt_or_ge (K + 1) (cut 47 l).length with h1 | h1
  · have hK3 : K = 3 := by omega
    subst hK3
    have hlen := hc.2 (by omega)
    refine ⟨by omega, fun h => absurd hlen h, fun a b c d e => ?_⟩
    rw [rwO_else (by omega)]
    obtain ⟨x, p, e2, hp⟩ := (split_last 47 3 l).2 (by omega)
    rw [e] at e2
    have : p = d := by
      have := congrArg List.getLast? e2
      simpa using this.symm
    subst this
    rw [rw4_slash hp]
  · have e1 := hc.1 h1
    rw [e1]
    refine ⟨by omega, fun h => rwO_else h, fun a b c d e => rwO_four e⟩
theorem rw4_eq (a b c d : List UInt8) : rw4 a b c d = if ((((specP a).isSome && (specP b).isSome) && (specP c).isSome) && (listR d).isSome) && wOk ⟨(specP a).getD 0, (specP b).getD 0, (specP c).getD 0, (listR d).getD []⟩ = true then some ⟨(specP a).getD 0, (specP b).getD 0, (specP c).getD 0, (listR d).getD []⟩ else none := by
  unfold rw4
  cases specP a <;> cases specP b <;> cases specP c <;> cases listR d <;> simp
end Go.Proofs.YtakkehjfdeghoacDoor
