/-
  Contracts of CyclesOf, of the program and of the model.
-/
import Derived.Test.YtlgoopjbjamlmaaCycles
import Derived.Test.YtlgoopjbjamlmaaHeld
namespace Go.Proofs.Ytlgoopjbjamlmaa
open Go.RowKit

def cycR (zs : List Int) : List (List Int) := if isOrd zs = true then cycsZ (fnOf zs) zs.length zs.length else []
/-- What CyclesOf leaves. -/
def CycPost (zs : List Int) (w : World) (e : Ending) (w' : World) : Prop :=
  ∃ A c L, e = .returned (.tuple #[.slice A (cycR zs).length c, .bool (isOrd zs)]) ∧ Own2 w.heap.size w' A (cycR zs).length c L (cycR zs) ∧ Below w.heap.size w w'
theorem cyc_none {zs : List Int} {w w' : World} (h : isOrd zs = false) (hb : Below w.heap.size w w') : CycPost zs w (.returned (.tuple #[.slice none 0 0, .bool false])) w' := by
  have e : cycR zs = [] := by simp [cycR, h]
  refine ⟨none, 0, [], by rw [e, h]; rfl, ?_, hb⟩
  rw [e]; exact Own2.nil _ _
theorem cyc_some {zs : List Int} {w w' : World} {A : Option Addr} {n c : Nat} {L : List SL} (h : isOrd zs = true) (hn : zs.length = n) (ho : Own2 w.heap.size w' A (cycs (fnOf zs) n n).length c L (cycsZ (fnOf zs) n n)) (hb : Below w.heap.size w w') :
    CycPost zs w (.returned (.tuple #[.slice A (cycs (fnOf zs) n n).length c, .bool true])) w' := by
  have e : cycR zs = cycsZ (fnOf zs) n n := by unfold cycR; rw [if_pos h, hn]
  have el : (cycR zs).length = (cycs (fnOf zs) n n).length := by rw [e]; simp [cycsZ]
  refine ⟨A, c, L, by rw [el, h], ?_, hb⟩
  rw [el, e]; exact ho
theorem cycs_total (f : Nat → Nat) (n : Nat) (hp : Perm n f) (hn : n ≤ 36) : ∀ i, i ≤ n → (((cycs f n i).map ints).map List.length).sum ≤ 36 * i := by
  intro i
  induction i with
  | zero => intro _; simp [cycs]
  | succ i ih =>
    intro hi
    have h1 := ih (by omega)
    have h2 := (hp.per_spec (show i < n by omega)).1
    unfold cycs
    split
    · omega
    · simp only [List.map_append, List.map_cons, List.map_nil, List.sum_append, List.sum_cons, List.sum_nil]
      have : (ints (cyc f n i)).length = per f n i := by simp [ints, cyc_len]
      rw [this]
      omega
theorem cycR_total (zs : List Int) : ((cycR zs).map List.length).sum ≤ 1000000 := by
  unfold cycR
  split
  · next h =>
    have h1 := ord_len h
    have := cycs_total (fnOf zs) zs.length (ord_perm h) h1.2 zs.length (Nat.le_refl _)
    unfold cycsZ
    omega
  · simp
set_option maxHeartbeats 1000000 in
theorem implCyclesOf_any (A : Option Addr) (n c : Nat) (zs : List Int) (w : World) (h : Row .i64 w A n zs) :
    Calls Try.prog 20 #[.slice A n c] w (CycPost zs w) := by
  rcases ho : isOrd zs with _ | _
  · have HO := Lib.hid ho
    have C := implIsOrder_any A n c zs w h
    rw [ho] at C
    clear ho
    go_enter Try.func20, Try.ntmps20
    go_wp2_with fail
    (go_at_call 22; (with_reducible refine (C).mono ?_); rintro e w' ⟨rfl, hb⟩)
    go_wp2_with fail
    go_ret2
    exact cyc_none HO.out hb
  · have HO := Lib.hid ho
    have HL := Lib.hid h.1
    have C := implIsOrder_any A n c zs w h
    rw [ho] at C
    clear ho
    go_enter Try.func20, Try.ntmps20
    go_wp2_with fail
    (go_at_call 22; (with_reducible refine (C).mono ?_); rintro e w1 ⟨rfl, hb⟩)
    have h1 := (RowB.below h hb).up hb.size
    have hs := hb.size
    go_wp2_with fail
    (go_at_call 42; (with_reducible refine (implCycles_any _ _ _ _ _ h1 HO.out).mono ?_); rintro e w2 ⟨A1, c1, L1, rfl, o1, b1⟩)
    go_wp2_with fail
    go_ret2
    exact cyc_some HO.out HL.out (o1.lower (by omega)) (hb.trans (b1.mono hs))
end Go.Proofs.Ytlgoopjbjamlmaa
