/-
  Pairs that clash, counted by the program.
-/
import Derived.Test.YtiokcflomchdcaaDoorSwS
import Derived.Test.YtiokcflomchdcaaDoorQI
import Derived.Test.YtiokcflomchdcaaDoorBlk
namespace Go.Proofs.YtiokcflomchdcaaDoor
open Go.RowKit

theorem row_lies {B n : Nat} {A : Option Addr} {t : List (List Int)} {w : World} (h : Rows2 B w A n t) (ht : tabOk n n t = true) {x : Nat} (hx : x < n) :
    ∃ b o b2 o2 c2, A = some ⟨b, o, none⟩ ∧ b < B ∧ w.cell? ⟨b, o + x, none⟩ = some (.slice (some ⟨b2, o2, none⟩) n c2) ∧ n ≤ c2 ∧ b2 < B ∧ ∀ y, y < n → w.cell? ⟨b2, o2 + y, none⟩ = some (.int .i64 (cellZ t x y : Int)) := by
  obtain ⟨b, o, b2, o2, c2, rfl, hb, hc, hn, hb2, _⟩ := cell_lies h ht hx (show 0 < n by omega)
  refine ⟨b, o, b2, o2, c2, rfl, hb, hc, hn, hb2, fun y hy => ?_⟩
  obtain ⟨b', o', b3, o3, c3, e2, _, hc3, _, _, hc4⟩ := cell_lies h ht hx hy
  injection e2 with e2
  injection e2 with e2 e3 _
  subst e2; subst e3
  rw [hc] at hc3
  injection hc3 with hc3
  injection hc3 with hc3 _ _
  injection hc3 with hc3
  injection hc3 with h1 h2 _
  subst h1; subst h2
  exact hc4


end Go.Proofs.YtiokcflomchdcaaDoor
