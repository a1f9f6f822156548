/-
  Chains of a call's own, as what a law's walk holds of them.
-/
import Derived.Test.YtiokcflomchdcabMarkC
import Derived.Test.YtiokcflomchdcabEvI
import Derived.Test.YtiokcflomchdcabT2
namespace Go.Proofs.Ytiokcflomchdcab
open Go.RowKit

section
variable {B nT cT nP cP : Nat} {w : World} {c : Ch} {AT AP : Option Addr} {M : List SL} {LL : List (List SL)}
theorem OwnC.lts (h : OwnC B w c AT nT cT AP nP cP M LL) : ∀ L ∈ LL, ∀ t ∈ L, ∀ g, t.1 = some ⟨g, 0, none⟩ → g < w.heap.size := h.tabs.lts
theorem OwnC.plt (h : OwnC B w c AT nT cT AP nP cP M LL) : ∀ g, AP = some ⟨g, 0, none⟩ → g < w.heap.size := fun g hg => h.places.lt g hg
theorem OwnC.lensL (h : OwnC B w c AT nT cT AP nP cP M LL) : LL.map lens = c.T.map (fun t => t.map List.length) := by
  have h1 := h.tabs.lenM
  have h2 := h.tabs.lenL
  apply List.ext_getElem (by simp; omega)
  intro i hi1 hi2
  simp only [List.length_map] at hi1 hi2
  have e1 : LL[i]? = some (LL[i]'hi1) := List.getElem?_eq_getElem _
  have e2 : c.T[i]? = some (c.T[i]'hi2) := List.getElem?_eq_getElem _
  have e3 : M[i]? = some (M[i]'(by omega)) := List.getElem?_eq_getElem _
  simp only [List.getElem_map]
  exact (h.tabs.inner i _ _ _ e3 e1 e2).lens
theorem OwnC.slots (h : OwnC B w c AT nT cT AP nP cP M LL) : slots LL c.P.length ≤ totC c := by
  unfold Proofs.Ytiokcflomchdcab.slots totC
  rw [h.lensL]
  have : ∀ T : List (List (List Int)), (sums (T.map (fun t => t.map List.length))).sum ≤ (T.map tot2).sum := by
    intro T
    induction T with
    | nil => simp
    | cons x xs ih =>
      have := sum_le_tot2' x
      simp only [sums, List.map_cons, List.sum_cons] at ih ⊢
      omega
  have := this c.T
  unfold tot3
  omega
end
theorem evenR_tot (t : List (List Int)) (pl start stop : Int) (h : tot2 t ≤ 1048576) : totC (evenR t pl start stop) ≤ 2000000 := by
  rcases ho : evenOk t pl start stop with _ | _
  · rw [evenR_no ho]; decide
  · rw [evenR_yes ho]
    unfold evenOk at ho
    rw [Bool.and_eq_true] at ho
    have := inB_true.1 ho.1
    unfold EvenC totC tot3
    simp
    omega
end Go.Proofs.Ytiokcflomchdcab
