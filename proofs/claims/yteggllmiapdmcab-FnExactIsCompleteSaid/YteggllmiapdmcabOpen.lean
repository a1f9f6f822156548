/-
  A chain that came in as an argument reads as lists.
-/
import Derived.Test.YteggllmiapdmcabCh2
import Derived.Test.YteggllmiapdmcabOpenR
import Derived.ProofKit
import Derived.OpenShut
import Derived.ShutString
import Derived.ChangeOld
import Derived.Deep.Slices
namespace Go.Proofs.Yteggllmiapdmcab
open Go.RowKit Go.ChangeShapes Go.WideShapes Go.ChangeAt Go.Deep

theorem list_choice {α : Type} {n : Nat} {p : Nat → α → Prop} (h : ∀ i, i < n → ∃ x, p i x) : ∃ l : List α, l.length = n ∧ ∀ i, i < n → ∃ x, l[i]? = some x ∧ p i x := by
  induction n with
  | zero => exact ⟨[], rfl, fun i hi => by omega⟩
  | succ n ih =>
    obtain ⟨l, hl, hp⟩ := ih fun i hi => h i (by omega)
    obtain ⟨x, hx⟩ := h n (by omega)
    refine ⟨l ++ [x], by simp [hl], fun i hi => ?_⟩
    by_cases hin : i < n
    · obtain ⟨y, hy, hpy⟩ := hp i hin
      exact ⟨y, by rw [List.getElem?_append_left (by omega)]; exact hy, hpy⟩
    · obtain rfl : n = i := by omega
      exact ⟨x, by rw [List.getElem?_append_right (by omega)]; simp [hl], hx⟩

section
variable {H : Type} {enc : TypeId × Value → H} {w : World} {fuel : Nat} {v : Value} {x : DataW H × List MemPlace}
theorem addr_at {w : World} {a : Addr} {u : Nat → Value} {n : Nat} (h : ∀ i, i < n → w.cell? (a.add i) = some (u i)) (hn : 0 < n) : ∃ b off, a = ⟨b, off, none⟩ ∧ b < w.heap.size ∧ ∀ i, i < n → w.cell? ⟨b, off + i, none⟩ = some (u i) := by
  obtain ⟨b, off, spot⟩ := a
  have h1 := h 0 hn
  have hspot : spot = none := by simpa [Addr.add] using World.cell?_spot h1
  subst hspot
  have hb := block_of_cell h1
  refine ⟨b, off, rfl, by simpa [Addr.add] using hb, fun j hj => ?_⟩
  have h2 := h j hj
  by_cases hj0 : j = 0
  · subst hj0; simpa [Addr.add] using h2
  · simpa [Addr.add, hj0] using h2

theorem rows2_of_trod (h : DataW.trod enc Try.prog w 0 (fun _ => true) true fuel 22 [v] = some x) :
    ∃ A n c zss, v = .slice A n c ∧ n ≤ c ∧ Rows2 w.heap.size w A n zss := by
  rcases open_slice1 Try.underlying22 (by kernel_rfl) h with ⟨hcs, _⟩ | ⟨a, l, c, m, n, V, D, Pl, hcs, _, hl, hm, hmm, _, hi⟩
  · simp at hcs
    exact ⟨_, _, _, [], hcs, Nat.le_refl _, rfl, Nat.zero_le _, fun j hj => by omega⟩
  · simp at hcs
    simp at hmm
    subst hmm
    have hc : ∀ i, i < m → ∃ zs, ∃ A n c, V i = .slice A n c ∧ n ≤ c ∧ RowB .i64 w.heap.size w A n zs := fun i him => by
      obtain ⟨A, n, c, zs, h1, h2, h3⟩ := row_of_trod (hi i him).2
      exact ⟨zs, A, n, c, h1, h2, h3⟩
    obtain ⟨zss, hzl, hzp⟩ := list_choice (n := l) fun i hil => hc i (by omega)
    refine ⟨_, _, _, zss, hcs, hl, hzl, by omega, fun j hj => ?_⟩
    obtain ⟨b, off, rfl, hb, hcell⟩ := addr_at (u := V) (n := m) (fun i him => (hi i him).1) (by omega)
    obtain ⟨zs, hz, A, n, c, h1, h2, h3⟩ := hzp j hj
    refine ⟨b, off, A, n, c, zs, rfl, hb, hz, ?_, h2, h3⟩
    rw [hcell j (by omega), h1]

end
end Go.Proofs.Yteggllmiapdmcab
