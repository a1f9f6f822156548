/-
  What the walks are told of a slice of integers: it reads as a list, its cells lie in memory that was there, and they are kept over whatever is made behind them.
-/
import Derived.Test.YtfmlmgebomapjaaDoorBasic
import Derived.Below
import Derived.Carry
import Derived.Laws.OwnMore
import Derived.Deep.Draws
import Derived.OpenShut
namespace Go.Proofs.YtfmlmgebomapjaaDoor
open Go.RowKit

/-- The slice at A of n integers reads as zs, and lies below block B. -/
def RowB (k : IntKind) (B : Nat) (w : World) (A : Option Addr) (n : Nat) (zs : List Int) : Prop :=
  zs.length = n ∧ n ≤ maxLen ∧ (∀ z ∈ zs, (Lit.int k z).wf = true) ∧
  (0 < n → ∃ b off, A = some ⟨b, off, none⟩ ∧ b < B ∧ ∀ j, j < n → w.cell? ⟨b, off + j, none⟩ = some (.int k (zs.getD j 0)))
abbrev Row (k : IntKind) (w : World) (A : Option Addr) (n : Nat) (zs : List Int) : Prop := RowB k w.heap.size w A n zs

theorem block_of_cell {w : World} {a : Addr} {v : Value} (h : w.cell? a = some v) : a.block < w.heap.size := by
  by_cases hb : a.block < w.heap.size
  · exact hb
  · have : w.heap[a.block]? = none := Array.getElem?_eq_none (by omega)
    simp [World.cell?, this] at h

theorem Row.of_is {k : IntKind} {w : World} {a : Option Addr} {len cap : Nat} {zs : List Int}
    (h : (a = none ∧ len = 0 ∧ cap = 0 ∧ zs = []) ∨ ∃ x, a = some x ∧ len ≤ cap ∧ cap ≤ maxLen ∧ zs.length = cap ∧ (∀ i, i < zs.length → w.cell? (x.add i) = some (.int k (zs.getD i 0))) ∧ ∀ n ∈ zs, (Lit.int k n).wf = true) :
    Row k w a len (zs.take len) := by
  rcases h with ⟨rfl, rfl, rfl, rfl⟩ | ⟨x, rfl, hl, hm, hz, hc, hw⟩
  · exact ⟨rfl, Nat.zero_le _, by simp, fun h => absurd h (by omega)⟩
  · refine ⟨by simp; omega, by omega, fun z hzz => hw z (List.mem_of_mem_take hzz), fun h0 => ?_⟩
    obtain ⟨b, off, spot⟩ := x
    have h1 := hc 0 (by omega)
    have hspot : spot = none := by simpa [Addr.add] using World.cell?_spot h1
    subst hspot
    have hb := block_of_cell h1
    refine ⟨b, off, rfl, by simpa [Addr.add] using hb, fun j hj => ?_⟩
    have h2 := hc j (by omega)
    have e : (zs.take len).getD j 0 = zs.getD j 0 := by simp [List.getD, hj]
    rw [e]
    by_cases hj0 : j = 0
    · subst hj0; simpa [Addr.add] using h2
    · simpa [Addr.add, hj0] using h2

section
variable {k : IntKind} {B B' : Nat} {w w' : World} {A : Option Addr} {n : Nat} {zs : List Int}
theorem RowB.below (h : RowB k B w A n zs) (hb : Below B w w') : RowB k B w' A n zs :=
  ⟨h.1, h.2.1, h.2.2.1, fun h0 => by
    obtain ⟨b, off, e, hb', hc⟩ := h.2.2.2 h0
    exact ⟨b, off, e, hb', fun j hj => (hb.cell (p := ⟨b, off + j, none⟩) hb').trans (hc j hj)⟩⟩
theorem RowB.more (h : RowB k B w A n zs) (hB : B ≤ B') : RowB k B' w A n zs :=
  ⟨h.1, h.2.1, h.2.2.1, fun h0 => by
    obtain ⟨b, off, e, hb', hc⟩ := h.2.2.2 h0
    exact ⟨b, off, e, by omega, hc⟩⟩
theorem RowB.drewN (h : RowB k B w A n zs) (m : Nat) : RowB k B (w.drewN m) A n zs := h
theorem RowB.upN (h : RowB k B w A n zs) (hB : B ≤ w.heap.size) (m : Nat) : Row k (w.drewN m) A n zs := h.more (B' := w.heap.size) hB
theorem RowB.up (h : RowB k B w A n zs) (hB : B ≤ w.heap.size) : Row k w A n zs := h.more hB
theorem RowB.len (h : RowB k B w A n zs) : zs.length = n := h.1
theorem RowB.le (h : RowB k B w A n zs) : n ≤ 9223372036854775807 := h.2.1
theorem RowB.at_ (h : RowB k B w A n zs) {j : Nat} (hj : j < n) : ∃ b off z, A = some ⟨b, off, none⟩ ∧ b < B ∧ zs[j]? = some z ∧ w.cell? ⟨b, off + j, none⟩ = some (.int k z) ∧ (Lit.int k z).wf = true := by
  obtain ⟨b, off, e, hb, hc⟩ := h.2.2.2 (by omega)
  have hl := h.1
  have hz : zs[j]? = some (zs[j]'(by omega)) := List.getElem?_eq_getElem (by omega)
  refine ⟨b, off, _, e, hb, hz, ?_, h.2.2.1 _ (List.getElem_mem _)⟩
  have h2 := hc j hj
  simpa [List.getD, hz] using h2
end
end Go.Proofs.YtfmlmgebomapjaaDoor
