/-
  Whether a table is totally antisymmetric, asked by the model and by the program.
-/
import Derived.Test.YtiokcflomchdcaaSwI
namespace Go.Proofs.Ytiokcflomchdcaa
open Go.RowKit

def totB (t : List (List Int)) : Bool := decide (swapsQ t = 0) && decide (chainsQ t = 0)
def totQ (t : List (List Int)) : Bool := isQ t && totB t

set_option maxHeartbeats 1000000 in
theorem l04Totally_any {B : Nat} (A : Option Addr) (n c : Nat) (t : List (List Int)) (w : World) (h : Rows2 B w A n t) (ht : tabOk n n t = true) (hn : n ≤ 36) :
    Calls Try.prog 134 #[.slice A n c] w fun e w' => e = .returned (.bool (totB t)) ∧ ∃ m, w' = w.drewN m := by
  have C1 := l04Swaps_any A n c t w h ht hn
  have C2 := fun m => l04Chains_any A n c t (w.drewN m) (h.drewN m) ht hn
  have hE : totB t = (decide (swapsQ t = 0) && decide (chainsQ t = 0)) := rfl
  generalize swapsQ t = s at C1 hE
  generalize chainsQ t = q at C2 hE
  have HE := Lib.hid hE
  clear hE
  by_cases hs : s = 0
  · subst hs
    by_cases hq : q = 0
    · subst hq
      go_enter Try.func134, Try.ntmps134
      go_wp2_with first | (go_at_call 158; (with_reducible refine (C1).mono ?_); rintro e w' ⟨rfl, m1, rfl⟩) | (go_at_call 159; (with_reducible refine (C2 _).mono ?_); rintro e w' ⟨rfl, m2, rfl⟩)
      go_ret
      exact ⟨ret_bool (by rw [HE.out]; rfl), _, rfl⟩
    · have g1 : ((q : Int) == 0) = false := by simp; omega
      go_enter Try.func134, Try.ntmps134
      go_wp2_with first | (go_at_call 158; (with_reducible refine (C1).mono ?_); rintro e w' ⟨rfl, m1, rfl⟩) | (go_at_call 159; (with_reducible refine (C2 _).mono ?_); rintro e w' ⟨rfl, m2, rfl⟩)
      go_ret
      exact ⟨ret_bool (by rw [HE.out]; simp [hq]), _, rfl⟩
  · have g1 : ((s : Int) == 0) = false := by simp; omega
    go_enter Try.func134, Try.ntmps134
    go_wp2_with (go_at_call 158; (with_reducible refine (C1).mono ?_); rintro e w' ⟨rfl, m1, rfl⟩)
    go_ret
    exact ⟨ret_bool (by rw [HE.out]; simp [hs]), m1, rfl⟩
set_option maxHeartbeats 2000000 in
theorem implTot_any {B : Nat} (A : Option Addr) (n c : Nat) (t : List (List Int)) (w : World) (h : Rows2 B w A n t) (hB : B ≤ w.heap.size) :
    Calls Try.prog 25 #[.slice A n c] w fun e w' => e = .returned (.bool (totQ t)) ∧ Below w.heap.size w w' := by
  have hl := h.len
  have CQ := implIsQ_any A n c t w h hB
  unfold totQ
  rcases hq : isQ t with _ | _
  · rw [hq] at CQ
    go_enter Try.func25, Try.ntmps25
    go_wp2_with (go_at_call 54; (with_reducible refine (CQ).mono ?_); rintro e w' ⟨rfl, hb⟩)
    go_ret
    exact ⟨rfl, hb⟩
  · rw [hq] at CQ
    have hp := isQ_parts hq hl
    have C1 : ∀ W, Below w.heap.size w W → Calls Try.prog 74 #[.slice A n c] W fun e w' => e = .returned (.int .i64 (swapsQ t : Int)) ∧ Below W.heap.size W w' := fun W hW => implSwaps_any A n c t W (h.below (hW.mono hB)) (Nat.le_trans hB hW.size) hp.2 hp.1.2
    have C2 : ∀ W, Below w.heap.size w W → Calls Try.prog 75 #[.slice A n c] W fun e w' => e = .returned (.int .i64 (chainsQ t : Int)) ∧ Below W.heap.size W w' := fun W hW => implChains_any A n c t W (h.below (hW.mono hB)) (Nat.le_trans hB hW.size) hp.2 hp.1.2
    have hE : totB t = (decide (swapsQ t = 0) && decide (chainsQ t = 0)) := rfl
    generalize swapsQ t = s at C1 hE
    generalize chainsQ t = q at C2 hE
    have HE := Lib.hid hE
    clear hE
    by_cases hs : s = 0
    · subst hs
      by_cases hq : q = 0
      · subst hq
        go_enter Try.func25, Try.ntmps25
        go_wp2_with fail
        (go_at_call 54; (with_reducible refine (CQ).mono ?_); rintro e w1 ⟨rfl, hb⟩)
        go_wp2_with fail
        (go_at_call 74; (with_reducible refine (C1 _ hb).mono ?_); rintro e w2 ⟨rfl, hb2⟩)
        have hb2w := hb.trans (hb2.mono hb.size)
        go_wp2_with fail
        (go_at_call 75; (with_reducible refine (C2 _ hb2w).mono ?_); rintro e w3 ⟨rfl, hb3⟩)
        go_wp2_with fail
        go_ret
        exact ⟨ret_bool (by rw [HE.out]; rfl), hb2w.trans (hb3.mono hb2w.size)⟩
      · have g1 : ((q : Int) == 0) = false := by simp; omega
        go_enter Try.func25, Try.ntmps25
        go_wp2_with fail
        (go_at_call 54; (with_reducible refine (CQ).mono ?_); rintro e w1 ⟨rfl, hb⟩)
        go_wp2_with fail
        (go_at_call 74; (with_reducible refine (C1 _ hb).mono ?_); rintro e w2 ⟨rfl, hb2⟩)
        have hb2w := hb.trans (hb2.mono hb.size)
        go_wp2_with fail
        (go_at_call 75; (with_reducible refine (C2 _ hb2w).mono ?_); rintro e w3 ⟨rfl, hb3⟩)
        go_wp2_with fail
        go_ret
        exact ⟨ret_bool (by rw [HE.out]; simp [hq]), hb2w.trans (hb3.mono hb2w.size)⟩
    · have g1 : ((s : Int) == 0) = false := by simp; omega
      go_enter Try.func25, Try.ntmps25
      go_wp2_with fail
      (go_at_call 54; (with_reducible refine (CQ).mono ?_); rintro e w1 ⟨rfl, hb⟩)
      go_wp2_with fail
      (go_at_call 74; (with_reducible refine (C1 _ hb).mono ?_); rintro e w2 ⟨rfl, hb2⟩)
      have hb2w := hb.trans (hb2.mono hb.size)
      go_wp2_with fail
      go_ret
      exact ⟨ret_bool (by rw [HE.out]; simp [hs]), hb2w⟩
end Go.Proofs.Ytiokcflomchdcaa
