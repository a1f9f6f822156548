/-
  The program's typing distance.
-/
import Derived.Test.YtiegaebnlikjiaaDoorTyO
import Derived.Test.YtiegaebnlikjiaaDoorEdI
namespace Go.Proofs.YtiegaebnlikjiaaDoor
open Go Go.RowKit

theorem ed_20 {a b : ByteArray} (h : edOk a b = true) : a.size ≤ 20 ∧ b.size ≤ 20 := by
  unfold edOk wordB at h
  simp only [Bool.and_eq_true, decide_eq_true_eq] at h
  exact ⟨h.1.2.1, h.2.2.1⟩
set_option maxRecDepth 100000 in
set_option maxHeartbeats 4000000 in
theorem implTyping_any (a b : ByteArray) (w : World) (hM : HeldM w) (ha : a.size ≤ maxLen) (hb : b.size ≤ maxLen) :
    Calls Tryd.prog 11 #[.string a, .string b] w fun e w' => e = two (edV true a b) (edOk a b) ∧ Below w.heap.size w w' := by
  have CW := fun W g h0 h1 => areWords_any a b g W ha hb h0 h1
  rcases hok : edOk a b with _ | _
  · have HV : Hid (edV true a b = 0) := Lib.hid (by unfold edV; rw [hok]; rfl)
    unfold edOk at hok
    rw [hok] at CW
    clear hok
    go_enter Tryd.func11, Tryd.ntmps11
    go_wp2_with (go_at_call 24; (with_reducible refine (CW _ _ (by simp) (by simp)).mono ?_); rintro e w1 ⟨rfl, b1⟩)
    go_ret2
    exact ⟨two_eq HV.out.symm rfl, ((Below.refl _ w).alloc (Nat.le_refl _) _).trans (b1.mono (by simp))⟩
  · have HV : Hid (edV true a b = (cst true a b 0 0 : Nat)) := Lib.hid (by unfold edV; rw [hok, cst_all]; rfl)
    obtain ⟨ha20, hb20⟩ := ed_20 hok
    have HM := Lib.hid hM
    unfold edOk at hok
    rw [hok] at CW
    clear hok ha hb hM
    go_enter Tryd.func11, Tryd.ntmps11
    go_wp2_with (go_at_call 24; (with_reducible refine (CW _ _ (by simp) (by simp)).mono ?_); rintro e w1 ⟨rfl, b1⟩)
    have bel1 : Below w.heap.size w w1 := ((Below.refl _ w).alloc (Nat.le_refl _) _).trans (b1.mono (by simp))
    have CT := typingOf_any a b w1 (HM.out.up bel1) ha20 hb20
    have HB1 := Lib.hid bel1
    clear b1 bel1 CW
    go_wp2_with fail
    (go_at_call 25; (with_reducible refine (CT).mono ?_); rintro e w2 ⟨g, F, rfl, hty, _, hF, b2⟩)
    have q0 : w2.cell? ⟨g, 2, none⟩ = some (.int .i64 ((cst true a b 0 0 : Nat) : Int)) := by
      have h1 := TyB.at_ hty (i := 0) (j := 0) (by omega) (by omega)
      rw [hF 0 0 (Nat.zero_le _) (Nat.zero_le _)] at h1
      simpa using h1
    have HBEL := Lib.hid (HB1.out.trans (b2.mono HB1.out.size))
    clear hty hF b2
    go_wp2_with fail
    go_ret2
    exact ⟨two_eq HV.out.symm rfl, HBEL.out⟩
end Go.Proofs.YtiegaebnlikjiaaDoor
