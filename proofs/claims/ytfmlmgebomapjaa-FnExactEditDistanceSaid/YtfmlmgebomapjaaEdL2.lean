/-
  The model's edit distance, and the law's walk.
-/
import Derived.Test.YtfmlmgebomapjaaEdS
import Derived.Test.YtfmlmgebomapjaaEdJ
namespace Go.Proofs.Ytfmlmgebomapjaa
open Go.RowKit

set_option maxRecDepth 100000 in
set_option maxHeartbeats 2000000 in
theorem specEdit_any (a b : ByteArray) (w : World) (ha : a.size ≤ maxLen) (hb : b.size ≤ maxLen) :
    Calls Try.prog 9 #[.string a, .string b] w fun e w' => e = two (edV false a b) (edOk a b) ∧ Below w.heap.size w w' := by
  have C1 := fun W => l06Word20_any a W ha
  have C2 := fun W => l06Word20_any b W hb
  rcases hwa : wordB a 36 with _ | _
  · have H : Hid (edOk a b = false) := Lib.hid (by simp [edOk, hwa])
    rw [hwa] at C1
    clear hwa
    go_enter Try.func9, Try.ntmps9
    go_wp2_with (first | (go_at_call 19; (with_reducible refine (C1 _).mono ?_); rintro e w' ⟨rfl, rfl⟩) | (go_at_call 19; (with_reducible refine (C2 _).mono ?_); rintro e w' ⟨rfl, rfl⟩))
    go_ret2
    exact ⟨two_eq (by simp [edV, H.out]) H.out.symm, Below.refl _ _⟩
  · rcases hwb : wordB b 36 with _ | _
    · have H : Hid (edOk a b = false) := Lib.hid (by simp [edOk, hwb])
      rw [hwa] at C1
      rw [hwb] at C2
      clear hwa hwb
      go_enter Try.func9, Try.ntmps9
      go_wp2_with (first | (go_at_call 19; (with_reducible refine (C1 _).mono ?_); rintro e w' ⟨rfl, rfl⟩) | (go_at_call 19; (with_reducible refine (C2 _).mono ?_); rintro e w' ⟨rfl, rfl⟩))
      go_ret2
      exact ⟨two_eq (by simp [edV, H.out]) H.out.symm, Below.refl _ _⟩
    · have H : Hid (edOk a b = true) := Lib.hid (by simp [edOk, hwa, hwb])
      have HV : Hid (edV false a b = (cst false a b 0 0 : Nat)) := Lib.hid (by unfold edV; rw [if_pos H.out, cst_all])
      have ha20 : a.size ≤ 20 := edW_size (most := 20) (by rw [edW_20]; exact hwa)
      have hb20 : b.size ≤ 20 := edW_size (most := 20) (by rw [edW_20]; exact hwb)
      have CC := fun W => l06CostsF_any a b W ha20 hb20
      obtain ⟨N, hN⟩ : ∃ N : Nat, N = (a.size + 1) * (b.size + 1) := ⟨_, rfl⟩
      have hN1 : 1 ≤ N := by
        rw [hN]; exact Nat.mul_le_mul (show 1 ≤ a.size + 1 by omega) (show 1 ≤ b.size + 1 by omega)
      have hNb : N ≤ 441 := by
        rw [hN]; exact Nat.le_trans (Nat.mul_le_mul (show a.size + 1 ≤ 21 by omega) (show b.size + 1 ≤ 21 by omega)) (by decide)
      unfold GotCst at CC
      rw [← hN] at CC
      rw [hwa] at C1
      rw [hwb] at C2
      clear hwa hwb hN
      go_enter Try.func9, Try.ntmps9
      go_wp2_with (first | (go_at_call 19; (with_reducible refine (C1 _).mono ?_); rintro e w' ⟨rfl, rfl⟩) | (go_at_call 19; (with_reducible refine (C2 _).mono ?_); rintro e w' ⟨rfl, rfl⟩))
      (go_at_call 20; (with_reducible refine (CC _).mono ?_); rintro e w1 ⟨A, c, rfl, ho, b1⟩)
      rcases ho.form with ⟨_, h0, _⟩ | ⟨g, rfl, _⟩
      · omega
      have q0 : w1.cell? ⟨g, 0, none⟩ = some (.int .i64 ((cst false a b 0 0 : Nat) : Int)) := by
        have h1 := ho.1.cellAt 0 (by omega)
        rw [h1, cells64, List.getElem?_map]
        have h2 := flatE_get (s := b.size + 1) (N := N) (j := 0) (x := 0) (cst false a b) (by omega) (by omega)
        simp only [Nat.zero_mul, Nat.zero_add] at h2
        rw [h2]; rfl
      clear ho
      go_wp2_with fail
      go_ret2
      exact ⟨two_eq HV.out.symm H.out.symm, b1⟩
set_option maxHeartbeats 1000000 in
theorem edit_walk (a b : ByteArray) (w : World) (hsa : a.size ≤ maxLen) (hsb : b.size ≤ maxLen) :
    Calls Try.prog 4 #[.string a, .string b] w fun e w' => e = .returned (.bool true) ∧ Below w.heap.size w w' := by
  have ha' := hsa
  have hb' := hsb
  unfold maxLen at ha' hb'
  by_cases hla : 1048576 < a.size
  · go_enter Try.func4, Try.ntmps4
    go_wp2
    go_ret
    exact ⟨rfl, Below.refl _ _⟩
  · by_cases hlb : 1048576 < b.size
    · go_enter Try.func4, Try.ntmps4
      go_wp2
      go_ret
      exact ⟨rfl, Below.refl _ _⟩
    · go_enter Try.func4, Try.ntmps4
      go_wp2_with fail
      (go_at_call 9; (with_reducible refine (specEdit_any _ _ _ hsa hsb).mono ?_); rintro e w1 ⟨rfl, b1⟩)
      go_wp2_with fail
      (go_at_call 10; (with_reducible refine (implEdit_any _ _ _ hsa hsb).mono ?_); rintro e w2 ⟨rfl, b2⟩)
      have hbel := Lib.hid (b1.trans (b2.mono b1.size))
      go_wp2_with fail
      go_ret
      exact ⟨rfl, hbel.out⟩
end Go.Proofs.Ytfmlmgebomapjaa
