/-
  The program's copy of a table.
-/
import Derived.Test.YteggllmiapdmcaaOwn3
import Derived.Laws.CopyOwn
namespace Go.Proofs.Yteggllmiapdmcaa
open Go.RowKit

theorem Part2.step {B G n k nj c' : Nat} {w w' : World} {L : List SL} {zss : List (List Int)} {zs : List Int} {A' : Option Addr} (hp : Part2 B G w n k L zss) (hlt : k < n) (hl : zss.length = n) (hG : G < w.heap.size) (hB : B ≤ w.heap.size)
    (hz : zss[k]? = some zs) (ho : Own w.heap.size w' A' nj c' zs) (hout : w'.ownsRow B 34 1 (.slice (some ⟨G, 0, none⟩) n n) n ((L.map sliceV ++ List.replicate (n - k) nilV).set k (.slice A' nj c')))
    (hkeep : ∀ g, g < w.heap.size → g ≠ G → w'.heap[g]? = w.heap[g]?) : Part2 B G w' n (k + 1) (L ++ [(A', nj, c')]) zss := by
  have hlen := hp.len
  have hnew : ∀ (j : Nat) (t : SL) (g : Nat), L[j]? = some t → t.1 = some ⟨g, 0, none⟩ → g < w.heap.size ∧ g ≠ G := by
    intro j t g ht hg
    have hj := (List.getElem?_eq_some_iff.1 ht).1
    have hzj : zss[j]? = some (zss[j]'(by omega)) := List.getElem?_eq_getElem _
    have hi1 := hp.inner j t _ ht hzj
    refine ⟨hi1.lt g hg, fun e => ?_⟩
    subst e
    exact own_ne hi1.1 hp.outer (by decide) _ hg rfl
  have hown_ne := ho.from
  refine ⟨?_, by simp [hlen], ?_, ?_⟩
  · rw [rep_set (by simp [hlen]) hlt] at hout
    simpa using hout
  · intro j t zs' ht hz'
    rcases snoc_cases ht with ⟨ht, _⟩ | ⟨rfl, rfl⟩
    · refine (hp.inner j t zs' ht hz').keep fun g hg => ?_
      have h2 := hnew j t g ht hg
      exact hkeep g h2.1 h2.2
    · have e : zs' = zs := by rw [← hlen, hz'] at hz; exact Option.some.inj hz
      subst e
      exact ho.lower hB
  · intro i j s t g hs ht hij hg
    rcases snoc_cases hs with ⟨h1, _⟩ | ⟨rfl, rfl⟩ <;> rcases snoc_cases ht with ⟨h2, _⟩ | ⟨rfl, rfl⟩
    · exact hp.apart i j s t g h1 h2 hij hg
    · intro e
      have := hnew i s g h1 hg; have := hown_ne g e; omega
    · intro e
      have := hnew j t g h2 e; have := hown_ne g hg; omega
    · exact absurd rfl hij
theorem Part2.done {B G n : Nat} {w : World} {L : List SL} {zss : List (List Int)} (hp : Part2 B G w n n L zss) (hl : zss.length = n) : Own2 B w (some ⟨G, 0, none⟩) n n L zss := by
  have hlen := hp.len
  refine ⟨?_, by omega, hp.inner, hp.apart, ?_⟩
  · have := hp.outer
    simpa using this
  · intro j t g ht hg
    have hj := (List.getElem?_eq_some_iff.1 ht).1
    have hzj : zss[j]? = some (zss[j]'(by omega)) := List.getElem?_eq_getElem _
    exact own_ne (hp.inner j t _ ht hzj).1 hp.outer (by decide) g hg
/-- A row of full capacity is its block. -/
theorem own_block {B g n : Nat} {w : World} {t : TypeId} {xs : List Value} (h : w.ownsRow B t 1 (.slice (some ⟨g, 0, none⟩) n n) n xs) : w.heap[g]? = some (.cells xs.toArray t (0, 0)) := by
  rcases h.2 with ⟨hv, _⟩ | ⟨g', cap, cur, hv, _, hg, _, _, hs, ht⟩
  · cases hv
  · injection hv with h1 h2 h3
    injection h1 with h1
    injection h1 with h1
    subst h1; subst h3
    rw [List.take_of_length_le (by rw [Array.length_toList]; omega)] at ht
    rw [hg, ← ht]

end Go.Proofs.Yteggllmiapdmcaa
