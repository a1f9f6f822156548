/-
  What a call on copies, whose result is laid into a variable, leaves in whatever order its memory was made.
-/
import Derived.Test.YteggllmiapdmcaaGp
import Derived.Test.YteggllmiapdmcaaHBlk
import Derived.Test.YteggllmiapdmcaaLast
import Derived.Deep.DeepCutAuto
namespace Go.Proofs.Yteggllmiapdmcaa
open Go Go.RowKit

section
variable {P : Program} {ops : Array Oper} {md : Region.Mode}
/-- Several may come up: the first of them. -/
theorem consD {Q : Exit → Act → World → Prop} {S : World → Prop} (i : Nat) (d : Option Tmp) {fuel : Nat} {listed : Array Bool} {a : Act} {w : World} {rs : List Nat} (hd : (ops[i]?).map (·.dst) = some d)
    (h : ∀ o, ops[i]? = some o → ∀ K : Act → World → Prop, Hid (∀ v w, S w → (S w → wpAnyH P md ops Q S fuel (listed.setIfInBounds i true) (a.put d v) w) → K (a.put d v) w) → o.dst = d → if Region.wanted o (yielded ops a.tmps) = true then Oper.wp P o a w K Q else K (a.put o.dst undef) w)
    (hs : AllReadyH P md ops Q S fuel listed a w rs) : AllReadyH P md ops Q S fuel listed a w (i :: rs) := by
  cases ho : ops[i]? with
  | none => rw [ho] at hd; cases hd
  | some o =>
    rw [ho] at hd
    have hd := Option.some.inj hd
    exact AllReadyH.cons ho (fun K hK => h o ho K (Lib.hid fun v w hS hW => hK.out _ _ hS hW) hd) hs
end

structure EndG (lo : Nat) (x : Gp) (w0 w : World) (A : Option Addr) (c : Nat) (L : List SL) (g : Nat) : Prop where
  box : Blk w g #[.slice A x.G.length c] 26
  own : Own2 lo w A x.G.length c L x.G
  low : lo ≤ g
  bel : Below lo w0 w
theorem EndG.made {lo B : Nat} {x : Gp} {w0 w : World} {A : Option Addr} {c : Nat} {L : List SL} {g : Nat} (hb : Blk w g #[nilV] 26) (ho : Own2 B w A x.G.length c L x.G) (hB : lo ≤ B) (hlo : lo ≤ g)
    (hbel : Below lo w0 w) (h1 : ∀ q, A = some ⟨q, 0, none⟩ → q ≠ g) (h2 : ∀ t ∈ L, ∀ q, t.1 = some ⟨q, 0, none⟩ → q ≠ g) : EndG lo x w0 (w.setCell ⟨g, 0, none⟩ (.slice A x.G.length c)) A c L g := by
  refine ⟨by simpa using hb.set 0 (.slice A x.G.length c), ?_, hlo, hbel.setCell hlo _⟩
  exact (ho.keepL (fun q hq => Below.heap_setCell w ⟨g, 0, none⟩ _ q (h1 q hq)) (fun t ht q hq => Below.heap_setCell w ⟨g, 0, none⟩ _ q (h2 t ht q hq))).lower hB
theorem below_drewL {B : Nat} (w : World) : Below B w w.drew := below_drew (Below.refl _ _)
theorem EndG.held {lo hi : Nat} {x : Gp} {w0 w : World} {A : Option Addr} {c : Nat} {L : List SL} {g : Nat} (h : EndG lo x w0 w A c L g) (hL : ∀ t ∈ L, ∀ q, t.1 = some ⟨q, 0, none⟩ → q < hi) (hA : ∀ q, A = some ⟨q, 0, none⟩ → q < hi) : Held (fun W => Own2 lo W A x.G.length c L x.G) lo hi w := held_own2 h.own hL hA
end Go.Proofs.Yteggllmiapdmcaa
