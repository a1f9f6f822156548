/-
  The model's typing distance, and the law's walk.
-/
import Derived.Test.YtiegaebnlikjiaaDoorEdT
import Derived.Test.YtiegaebnlikjiaaDoorTyD
namespace Go.Proofs.YtiegaebnlikjiaaDoor
open Go Go.RowKit

set_option maxRecDepth 100000 in
set_option maxHeartbeats 2000000 in
theorem l06Dist_any (a b : ByteArray) (w : World) (ha : a.size ≤ 20) (hb : b.size ≤ 20) :
    Calls Tryd.prog 30 #[.string a, .string b] w fun e w' => e = .returned (.int .i64 ((cst true a b 0 0 : Nat) : Int)) ∧ Below w.heap.size w w' := by
  have CC := fun W => l06CostsT_any a b W ha hb
  obtain ⟨N, hN⟩ : ∃ N : Nat, N = (a.size + 1) * (b.size + 1) := ⟨_, rfl⟩
  have hN1 : 1 ≤ N := by
    rw [hN]; exact Nat.mul_le_mul (show 1 ≤ a.size + 1 by omega) (show 1 ≤ b.size + 1 by omega)
  have hNb : N ≤ 441 := by
    rw [hN]; exact Nat.le_trans (Nat.mul_le_mul (show a.size + 1 ≤ 21 by omega) (show b.size + 1 ≤ 21 by omega)) (by decide)
  unfold GotCst at CC
  rw [← hN] at CC
  clear hN
  go_enter Tryd.func30, Tryd.ntmps30
  go_wp2_with fail
  (go_at_call 31; (with_reducible refine (CC _).mono ?_); rintro e w1 ⟨A, c, rfl, ho, b1⟩)
  rcases ho.form with ⟨_, h0, _⟩ | ⟨g, rfl, _⟩
  · omega
  have q0 : w1.cell? ⟨g, 0, none⟩ = some (.int .i64 ((cst true a b 0 0 : Nat) : Int)) := by
    have h1 := ho.1.cellAt 0 (by omega)
    rw [h1, cells64, List.getElem?_map]
    have h2 := flatE_get (s := b.size + 1) (N := N) (j := 0) (x := 0) (cst true a b) (by omega) (by omega)
    simp only [Nat.zero_mul, Nat.zero_add] at h2
    rw [h2]; rfl
  clear ho
  go_wp2_with fail
  go_ret
  exact ⟨rfl, b1⟩
set_option maxRecDepth 100000 in
set_option maxHeartbeats 2000000 in
theorem specTyping_any (a b : ByteArray) (w : World) (ha : a.size ≤ maxLen) (hb : b.size ≤ maxLen) :
    Calls Tryd.prog 14 #[.string a, .string b] w fun e w' => e = two (edV true a b) (edOk a b) ∧ Below w.heap.size w w' := by
  have C1 := fun W => l06Word20_any a W ha
  have C2 := fun W => l06Word20_any b W hb
  rcases hwa : wordB a 36 with _ | _
  · have H : Hid (edOk a b = false) := Lib.hid (by simp [edOk, hwa])
    rw [hwa] at C1
    clear hwa
    go_enter Tryd.func14, Tryd.ntmps14
    go_wp2_with (first | (go_at_call 29; (with_reducible refine (C1 _).mono ?_); rintro e w' ⟨rfl, rfl⟩) | (go_at_call 29; (with_reducible refine (C2 _).mono ?_); rintro e w' ⟨rfl, rfl⟩))
    go_ret2
    exact ⟨two_eq (by simp [edV, H.out]) H.out.symm, Below.refl _ _⟩
  · rcases hwb : wordB b 36 with _ | _
    · have H : Hid (edOk a b = false) := Lib.hid (by simp [edOk, hwb])
      rw [hwa] at C1
      rw [hwb] at C2
      clear hwa hwb
      go_enter Tryd.func14, Tryd.ntmps14
      go_wp2_with (first | (go_at_call 29; (with_reducible refine (C1 _).mono ?_); rintro e w' ⟨rfl, rfl⟩) | (go_at_call 29; (with_reducible refine (C2 _).mono ?_); rintro e w' ⟨rfl, rfl⟩))
      go_ret2
      exact ⟨two_eq (by simp [edV, H.out]) H.out.symm, Below.refl _ _⟩
    · have H : Hid (edOk a b = true) := Lib.hid (by simp [edOk, hwa, hwb])
      have HV : Hid (edV true a b = (cst true a b 0 0 : Nat)) := Lib.hid (by unfold edV; rw [if_pos H.out, cst_all])
      obtain ⟨ha20, hb20⟩ := ed_20 H.out
      have CD := fun W => l06Dist_any a b W ha20 hb20
      rw [hwa] at C1
      rw [hwb] at C2
      clear hwa hwb
      go_enter Tryd.func14, Tryd.ntmps14
      go_wp2_with (first | (go_at_call 29; (with_reducible refine (C1 _).mono ?_); rintro e w' ⟨rfl, rfl⟩) | (go_at_call 29; (with_reducible refine (C2 _).mono ?_); rintro e w' ⟨rfl, rfl⟩) | (go_at_call 30; (with_reducible refine (CD _).mono ?_); rintro e w1 ⟨rfl, b1⟩))
      go_ret2
      exact ⟨two_eq HV.out.symm H.out.symm, b1⟩
theorem typing_held {W : World} (hL : laidMetH Tryd.prog Rows.fnExactTypingDistanceRow.laid W) : HeldM W := by
  rw [MakeChecks.laidMetH_plain _ _ _ (by kernel_rfl)] at hL
  exact moves_held (rest := []) hL
set_option maxHeartbeats 1000000 in
theorem typing_walk (a b : ByteArray) (w : World) (hsa : a.size ≤ maxLen) (hsb : b.size ≤ maxLen) (hM : HeldM w) :
    Calls Tryd.prog 4 #[.string a, .string b] w fun e w' => e = .returned (.bool true) ∧ Below w.heap.size w w' := by
  have ha' := hsa
  have hb' := hsb
  unfold maxLen at ha' hb'
  by_cases hla : 1048576 < a.size
  · go_enter Tryd.func4, Tryd.ntmps4
    go_wp2
    go_ret
    exact ⟨rfl, Below.refl _ _⟩
  · by_cases hlb : 1048576 < b.size
    · go_enter Tryd.func4, Tryd.ntmps4
      go_wp2
      go_ret
      exact ⟨rfl, Below.refl _ _⟩
    · go_enter Tryd.func4, Tryd.ntmps4
      go_wp2_with fail
      (go_at_call 14; (with_reducible refine (specTyping_any _ _ _ hsa hsb).mono ?_); rintro e w1 ⟨rfl, b1⟩)
      go_wp2_with fail
      (go_at_call 11; (with_reducible refine (implTyping_any _ _ _ (hM.up b1) hsa hsb).mono ?_); rintro e w2 ⟨rfl, b2⟩)
      have hbel := Lib.hid (b1.trans (b2.mono b1.size))
      go_wp2_with fail
      go_ret
      exact ⟨rfl, hbel.out⟩
theorem typing_walkL (a b : ByteArray) (w : World) (hsa : a.size ≤ maxLen) (hsb : b.size ≤ maxLen) (hL : laidMetH Tryd.prog Rows.fnExactTypingDistanceRow.laid w) :
    Calls Tryd.prog 4 #[.string a, .string b] w fun e w' => e = .returned (.bool true) ∧ Below w.heap.size w w' := typing_walk a b w hsa hsb (typing_held hL)
end Go.Proofs.YtiegaebnlikjiaaDoor
