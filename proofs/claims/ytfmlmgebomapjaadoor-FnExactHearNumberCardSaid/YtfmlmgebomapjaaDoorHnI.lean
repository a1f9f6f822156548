/-
  Heard numbers of the program.
-/
import Derived.Test.YtfmlmgebomapjaaDoorHnM
import Derived.Deep.QuietTactic
import Derived.BigQuiet
import Derived.IntWalk
namespace Go.Proofs.YtfmlmgebomapjaaDoor
open Go Go.RowKit

/-- A call of a quiet region behind another one. -/
theorem quietA {P : Program} {f : FuncId} {args : Array Value} {w : World} {a n : Nat} {v : Value} (h : Calls P f args (w.drewN (a + n)) fun e w' => e = .returned v ∧ w' = w.drewN (a + n)) :
    Calls P f args (w.drewN (a + n)) fun e w'' => e = .returned v ∧ ∃ m, w'' = w.drewN (a + m) := h.mono fun _ _ ⟨he, hm⟩ => ⟨he, n, hm⟩
theorem nmO_n1 {F S p : ByteArray} {h0 : 0 < p.size} (h : p.size = 2) (hx : ixO F.data.toList p[0] = none) : nmO F S p.data.toList = none := by
  rw [nmO_two h, hx]
theorem nmO_n2 {F S p : ByteArray} {h0 : 0 < p.size} {h1 : 1 < p.size} (h : p.size = 2) (hx : ixO S.data.toList p[1] = none) : nmO F S p.data.toList = none := by
  rw [nmO_two h, hx]
  cases ixO F.data.toList p[0] <;> rfl
theorem nmO_y {F S p : ByteArray} {h0 : 0 < p.size} {h1 : 1 < p.size} {a b : Nat} (h : p.size = 2) (hx : ixO F.data.toList p[0] = some a) (hy : ixO S.data.toList p[1] = some b) : nmO F S p.data.toList = some (a * S.size + b) := by
  rw [nmO_two h, hx, hy]

set_option maxRecDepth 100000 in
set_option maxHeartbeats 4000000 in
theorem numberOf_any (F S p : ByteArray) (w : World) (hF : F.size ≤ 20) (hS : S.size ≤ 6) :
    Calls Tryd.prog 66 #[spV F S, .string p] w fun e w' => e = hnE (nmO F S p.data.toList) ∧ Below w.heap.size w w' := by
  by_cases h2 : p.size = 2
  · have hg : ((p.size : Int) != 2) = false := by rw [h2]; rfl
    have h0 : 0 < p.size := by omega
    have h1 : 1 < p.size := by omega
    have h0i : (0 : Int) < (p.size : Int) := by omega
    have h1i : (1 : Int) < (p.size : Int) := by omega
    have C1 : ∀ W, Calls Tryd.prog 93 #[.string F, .int .u8 ((p[0]'h0).toNat : Int)] W fun e w' => e = .returned (.int .i64 (ixI F (p[0]'h0))) ∧ w' = W := fun W =>
      (Tryd.strings_IndexByte F (p[0]'h0).toNat W).mono fun e w' he => ⟨by rw [he.1]; refine ret_int ?_; rw [show (((p[0]'h0).toNat : Int)).toNat.toUInt8 = p[0]'h0 by simp, ixO_index]; rfl, he.2⟩
    have C2 : ∀ W, Calls Tryd.prog 93 #[.string S, .int .u8 ((p[1]'h1).toNat : Int)] W fun e w' => e = .returned (.int .i64 (ixI S (p[1]'h1))) ∧ w' = W := fun W =>
      (Tryd.strings_IndexByte S (p[1]'h1).toNat W).mono fun e w' he => ⟨by rw [he.1]; refine ret_int ?_; rw [show (((p[1]'h1).toNat : Int)).toNat.toUInt8 = p[1]'h1 by simp, ixO_index]; rfl, he.2⟩
    rcases hx : ixO F.data.toList (p[0]'h0) with _ | a
    · have HN : Hid (nmO F S p.data.toList = none) := Lib.hid (nmO_n1 (h0 := h0) h2 hx)
      have e1 : ixI F (p[0]'h0) = -1 := by unfold ixI; rw [hx]
      obtain ⟨y, hy⟩ : ∃ y, y = ixI S (p[1]'h1) := ⟨_, rfl⟩
      rw [e1] at C1
      rw [← hy] at C2
      clear hx e1 hy h2
      go_enter Tryd.func66, Tryd.ntmps66
      go_wp2_with fail
      go_quiet ((go_at_call 93; first | exact Calls.quiet_of_same (C1 _) | exact Calls.quiet_of_same (C2 _)))
      go_wp2_with fail
      go_ret2
      exact ⟨by rw [HN.out]; rfl, below_drewN ((Below.refl _ w).alloc (Nat.le_refl _) _) _⟩
    · have ha := ixO_lt hx
      have e1 : ixI F (p[0]'h0) = (a : Int) := by unfold ixI; rw [hx]
      rw [e1] at C1
      simp only [Array.length_toList] at ha
      have ha20 : a < 20 := Nat.lt_of_lt_of_le ha hF
      rcases hy : ixO S.data.toList (p[1]'h1) with _ | b
      · have HN : Hid (nmO F S p.data.toList = none) := Lib.hid (nmO_n2 (h0 := h0) (h1 := h1) h2 hy)
        have e2 : ixI S (p[1]'h1) = -1 := by unfold ixI; rw [hy]
        rw [e2] at C2
        clear hx hy e1 e2 h2 ha
        have han : ¬ (a : Int) < 0 := by omega
        go_enter Tryd.func66, Tryd.ntmps66
        go_wp2_with fail
        go_quiet ((go_at_call 93; first | exact Calls.quiet_of_same (C1 _) | exact Calls.quiet_of_same (C2 _)))
        go_wp2_with fail
        go_ret2
        exact ⟨by rw [HN.out]; rfl, below_drewN ((Below.refl _ w).alloc (Nat.le_refl _) _) _⟩
      · have HN : Hid (nmO F S p.data.toList = some (a * S.size + b)) := Lib.hid (nmO_y (h0 := h0) (h1 := h1) h2 hx hy)
        have e2 : ixI S (p[1]'h1) = (b : Int) := by unfold ixI; rw [hy]
        have hb := ixO_lt hy
        simp only [Array.length_toList] at hb
        have hb6 : b < 6 := Nat.lt_of_lt_of_le hb hS
        rw [e2] at C2
        obtain ⟨Y, hY⟩ : ∃ Y, Y = a * S.size := ⟨_, rfl⟩
        have hYb : Y ≤ 120 := by rw [hY]; exact Nat.le_trans (Nat.mul_le_mul (Nat.le_of_lt ha20) hS) (by decide)
        have hmul : (a : Int) * (S.size : Int) = (Y : Int) := by rw [hY]; simp
        rw [← hY] at HN
        clear hx hy e1 e2 h2 ha hb hY
        have han : ¬ (a : Int) < 0 := by omega
        have hbn : ¬ (b : Int) < 0 := by omega
        have hw1 : wrap64 (Y : Int) = (Y : Int) := IntWalk.wrap64_in _ (by omega)
        have hw1' : IntKind.i64.wrap (Y : Int) = (Y : Int) := IntWalk.i64_in _ (by omega)
        go_enter Tryd.func66, Tryd.ntmps66
        go_wp2_with fail
        go_quiet ((go_at_call 93; first | exact Calls.quiet_of_same (C1 _) | exact Calls.quiet_of_same (C2 _)))
        go_wp2_with fail
        go_ret2
        exact ⟨by rw [HN.out]; rfl, below_drewN ((Below.refl _ w).alloc (Nat.le_refl _) _) _⟩
  · have hg : ((p.size : Int) != 2) = true := by simp; omega
    have HN : Hid (nmO F S p.data.toList = none) := Lib.hid (nmO_bad h2)
    clear h2
    go_enter Tryd.func66, Tryd.ntmps66
    go_wp2_with fail
    go_ret2
    exact ⟨by rw [HN.out]; rfl, (Below.refl _ w).alloc (Nat.le_refl _) _⟩
end Go.Proofs.YtfmlmgebomapjaaDoor
