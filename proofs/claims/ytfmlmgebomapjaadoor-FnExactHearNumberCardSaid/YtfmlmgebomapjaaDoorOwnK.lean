/-
  Rows of the call's own: kept, and spoken of from a lower block.
-/
import Derived.Test.YtfmlmgebomapjaaDoorOwn
namespace Go.Proofs.YtfmlmgebomapjaaDoor
open Go.RowKit

section
variable {B B' : Nat} {w w' : World} {A : Option Addr} {n c : Nat}
theorem ownsRow_form {t : TypeId} {xs : List Value} (h : w.ownsRow B t 1 (.slice A n c) n xs) : (A = none ∧ n = 0 ∧ c = 0) ∨ ∃ g, A = some ⟨g, 0, none⟩ ∧ B ≤ g ∧ g < w.heap.size ∧ n ≤ c ∧ c ≤ maxLen := by
  rcases h.2 with ⟨hv, hn⟩ | ⟨g, cap, cur, hv, hb, hg, hnc, hcm, _⟩
  · injection hv with h1 h2 h3; exact .inl ⟨h1, hn, h3⟩
  · injection hv with h1 h2 h3
    subst h1; subst h3
    exact .inr ⟨g, rfl, hb, (Array.getElem?_eq_some_iff.1 hg).1, hnc, hcm⟩
theorem ownsRow_keep {t : TypeId} {xs : List Value} {m : Nat} (h : w.ownsRow B t m (.slice A n c) n xs) (hk : ∀ g, A = some ⟨g, 0, none⟩ → w'.heap[g]? = w.heap[g]?) : w'.ownsRow B t m (.slice A n c) n xs := by
  refine ⟨h.1, ?_⟩
  rcases h.2 with hn | ⟨g, cap, cur, hv, hb, hg, rest⟩
  · exact .inl hn
  · refine .inr ⟨g, cap, cur, hv, hb, ?_, rest⟩
    injection hv with h1
    rw [hk g h1, hg]
theorem ownsRow_lower {t : TypeId} {v : Value} {xs : List Value} {m : Nat} (h : w.ownsRow B t m v n xs) (hB : B' ≤ B) : w.ownsRow B' t m v n xs := by
  refine ⟨h.1, ?_⟩
  rcases h.2 with hh | ⟨g, cap, cur, hv, hg, rest⟩
  · exact .inl hh
  · exact .inr ⟨g, cap, cur, hv, Nat.le_trans hB hg, rest⟩
end
end Go.Proofs.YtfmlmgebomapjaaDoor
