/-
  The laws' helpers over whole chains.
-/
import Derived.Test.YteggllmiapdmcabCh
namespace Go.Proofs.Yteggllmiapdmcab
open Go.RowKit

def ChRows (B : Nat) (w : World) (c : Ch) (AT : Option Addr) (nT : Nat) (AP : Option Addr) (nP : Nat) : Prop := Rows3 B w AT nT c.T ∧ RowB .i64 B w AP nP c.P
section
variable {B B' : Nat} {w w' : World} {c : Ch} {AT AP : Option Addr} {nT nP : Nat}
theorem ChRows.below (h : ChRows B w c AT nT AP nP) (hb : Below B w w') : ChRows B w' c AT nT AP nP := ⟨h.1.below hb, h.2.below hb⟩
theorem ChRows.more (h : ChRows B w c AT nT AP nP) (hB : B ≤ B') : ChRows B' w c AT nT AP nP := ⟨h.1.more hB, h.2.more hB⟩
theorem ChRows.drewN (h : ChRows B w c AT nT AP nP) (m : Nat) : ChRows B (w.drewN m) c AT nT AP nP := h
end
def totC (c : Ch) : Nat := tot3 c.T + c.P.length


theorem le_sum_mem {l : List Nat} {x : Nat} (h : x ∈ l) : x ≤ l.sum := by
  induction l with
  | nil => cases h
  | cons y r ih =>
    rw [List.sum_cons]
    rcases List.mem_cons.1 h with rfl | h
    · omega
    · have := ih h; omega
theorem tot2_mem {zss : List (List Int)} {zs : List Int} (h : zs ∈ zss) : zs.length ≤ tot2 zss := by
  have := le_sum_mem (List.mem_map_of_mem (f := List.length) h)
  unfold tot2; omega
theorem tot3_mem {z3 : List (List (List Int))} {zss : List (List Int)} (h : zss ∈ z3) : tot2 zss ≤ tot3 z3 := by
  have := le_sum_mem (List.mem_map_of_mem (f := tot2) h)
  unfold tot3; omega

/-- The copy: a chain of the call's own; its places lie in a block from S on, all blocks of its tables below S. -/
def MadeC (B : Nat) (c : Ch) (w : World) (e : Ending) (w' : World) : Prop :=
  ∃ AT cT AP cP M LL S, e = .returned (chV c AT c.T.length cT AP c.P.length cP) ∧ Own3 B w' AT c.T.length cT M LL c.T ∧ Own S w' AP c.P.length cP c.P ∧ B ≤ S ∧ (∀ L ∈ LL, ∀ t ∈ L, ∀ g, t.1 = some ⟨g, 0, none⟩ → g < S) ∧ Below B w w'

theorem made_rows {B : Nat} {c : Ch} {w' : World} {AT AP : Option Addr} {cT cP S : Nat} {M : List SL} {LL : List (List SL)} (h3 : Own3 B w' AT c.T.length cT M LL c.T) (h1 : Own S w' AP c.P.length cP c.P) : ChRows w'.heap.size w' c AT c.T.length AP c.P.length := ⟨h3.row, h1.row⟩
end Go.Proofs.Yteggllmiapdmcab
