/-
  The program's edit distance, by the rows of costs.
-/
import Derived.Test.YtfmlmgebomapjaaEdC
import Derived.Test.YtfmlmgebomapjaaEdW
import Derived.Test.YtfmlmgebomapjaaWdI
import Derived.Laws.Cover1
import Derived.RegionTactic
namespace Go.Proofs.Ytfmlmgebomapjaa
open Go.RowKit

set_option maxRecDepth 100000 in
set_option maxHeartbeats 2000000 in
theorem areWords_any (a b : ByteArray) (g : Nat) (w : World) (ha : a.size ≤ maxLen) (hb : b.size ≤ maxLen) (h0 : w.cell? ⟨g, 0, none⟩ = some (.string a)) (h1 : w.cell? ⟨g, 1, none⟩ = some (.string b)) :
    Calls Try.prog 21 #[.slice (some ⟨g, 0, none⟩) 2 2] w fun e w' => e = .returned (.bool (wordB a 36 && wordB b 36)) ∧ Below w.heap.size w w' := by
  have hg := block_of_cell h0
  have CA : ∀ W, Calls Try.prog 36 #[.string a, .int .i64 36] W fun e w' => e = .returned (.bool (wordB a 36)) ∧ Below W.heap.size W w' := fun W => implIsWordE_any a 36 W ha
  have CB : ∀ W, Calls Try.prog 36 #[.string b, .int .i64 36] W fun e w' => e = .returned (.bool (wordB b 36)) ∧ Below W.heap.size W w' := fun W => implIsWordE_any b 36 W hb
  rcases hwa : wordB a 36 with _ | _
  · rw [hwa] at CA
    clear hwa
    go_enter Try.func21, Try.ntmps21
    go_wp2_with fail
    go_loopw [4, 7] (fun _ k wr => k = .int .i64 0 ∧ wr = w) (fun _ k _ => 2 - (intOf k).toNat)
    case atStart => exact ⟨rfl, rfl⟩
    case round =>
      obtain ⟨rfl, rfl⟩ := hrel
      go_wp2_with (go_at_call 36; (with_reducible refine (CA _).mono ?_); rintro e w1 ⟨rfl, b1⟩)
      go_ret
      exact ⟨rfl, b1⟩
  · rw [hwa] at CA
    rcases hwb : wordB b 36 with _ | _
    · rw [hwb] at CB
      clear hwa hwb
      go_enter Try.func21, Try.ntmps21
      go_wp2_with fail
      go_loopw [4, 7] (fun _ k wr => ∃ j : Nat, j ≤ 1 ∧ k = .int .i64 j ∧ Below w.heap.size w wr) (fun _ k _ => 2 - (intOf k).toNat)
      case atStart => exact ⟨0, by omega, rfl, Below.refl _ _⟩
      case round =>
        obtain ⟨j, hj, rfl, hbel⟩ := hrel
        have q0 := (hbel.cell (p := ⟨g, 0, none⟩) hg).trans h0
        have q1 := (hbel.cell (p := ⟨g, 1, none⟩) hg).trans h1
        have j3 : j = 0 ∨ j = 1 := by omega
        rcases j3 with rfl | rfl
        · go_wp2_with (go_at_call 36; (with_reducible refine (CA _).mono ?_); rintro e w1 ⟨rfl, b1⟩)
          go_roundw
          case rel => exact ⟨1, by omega, rfl, hbel.trans (b1.mono hbel.size)⟩
          case measure => simp [intOf]
        · go_wp2_with (go_at_call 36; (with_reducible refine (CB _).mono ?_); rintro e w1 ⟨rfl, b1⟩)
          go_ret
          exact ⟨rfl, hbel.trans (b1.mono hbel.size)⟩
    · rw [hwb] at CB
      clear hwa hwb
      go_enter Try.func21, Try.ntmps21
      go_wp2_with fail
      go_loopw [4, 7] (fun _ k wr => ∃ j : Nat, j ≤ 2 ∧ k = .int .i64 j ∧ Below w.heap.size w wr) (fun _ k _ => 2 - (intOf k).toNat)
      case atStart => exact ⟨0, by omega, rfl, Below.refl _ _⟩
      case round =>
        obtain ⟨j, hj, rfl, hbel⟩ := hrel
        have q0 := (hbel.cell (p := ⟨g, 0, none⟩) hg).trans h0
        have q1 := (hbel.cell (p := ⟨g, 1, none⟩) hg).trans h1
        have j3 : j = 0 ∨ j = 1 ∨ j = 2 := by omega
        rcases j3 with rfl | rfl | rfl
        · go_wp2_with (go_at_call 36; (with_reducible refine (CA _).mono ?_); rintro e w1 ⟨rfl, b1⟩)
          go_roundw
          case rel => exact ⟨1, by omega, rfl, hbel.trans (b1.mono hbel.size)⟩
          case measure => simp [intOf]
        · go_wp2_with (go_at_call 36; (with_reducible refine (CB _).mono ?_); rintro e w1 ⟨rfl, b1⟩)
          go_roundw
          case rel => exact ⟨2, by omega, rfl, hbel.trans (b1.mono hbel.size)⟩
          case measure => simp [intOf]
        · go_wp2_with fail
          go_ret
          exact ⟨rfl, hbel⟩

/-- The edit distance of two texts, where both are words. -/
def edOk (a b : ByteArray) : Bool := wordB a 36 && wordB b 36
def edV (x : Bool) (a b : ByteArray) : Int := if edOk a b = true then (lev x a.data.toList b.data.toList : Nat) else 0

set_option maxHeartbeats 1000000 in
theorem implEdit_any (a b : ByteArray) (w : World) (ha : a.size ≤ maxLen) (hb : b.size ≤ maxLen) :
    Calls Try.prog 10 #[.string a, .string b] w fun e w' => e = two (edV false a b) (edOk a b) ∧ Below w.heap.size w w' := by
  have CW := fun W g h0 h1 => areWords_any a b g W ha hb h0 h1
  rcases hok : edOk a b with _ | _
  · have HV : Hid (edV false a b = 0) := Lib.hid (by unfold edV; rw [hok]; rfl)
    unfold edOk at hok
    rw [hok] at CW
    clear hok
    go_enter Try.func10, Try.ntmps10
    go_wp2_with (go_at_call 21; (with_reducible refine (CW _ _ (by simp) (by simp)).mono ?_); rintro e w1 ⟨rfl, b1⟩)
    go_ret2
    exact ⟨two_eq HV.out.symm rfl, ((Below.refl _ w).alloc (Nat.le_refl _) _).trans (b1.mono (by simp))⟩
  · have HV : Hid (edV false a b = (lev false a.data.toList b.data.toList : Nat)) := Lib.hid (by unfold edV; rw [hok]; rfl)
    have hwa : a.size ≤ 20 ∧ b.size ≤ 20 := by
      unfold edOk wordB at hok
      simp only [Bool.and_eq_true, decide_eq_true_eq] at hok
      exact ⟨hok.1.2.1, hok.2.2.1⟩
    obtain ⟨ha20, hb20⟩ := hwa
    unfold edOk at hok
    rw [hok] at CW
    have CD := fun W => edits_any a b W ha20 hb20
    clear hok ha hb
    go_enter Try.func10, Try.ntmps10
    go_wp2_with fail
    (go_at_call 21; (with_reducible refine (CW _ _ (by simp) (by simp)).mono ?_); rintro e w1 ⟨rfl, b1⟩)
    have B1 : Hid (Below w.heap.size w w1) := Lib.hid (((Below.refl _ w).alloc (Nat.le_refl _) _).trans (b1.mono (by simp)))
    clear b1
    go_wp2_with fail
    (go_at_call 22; (with_reducible refine (CD _).mono ?_); rintro e w2 ⟨rfl, b2⟩)
    have B2 := Lib.hid (B1.out.trans (b2.mono B1.out.size))
    clear b2
    go_wp2_with fail
    go_ret2
    exact ⟨two_eq HV.out.symm rfl, B2.out⟩
end Go.Proofs.Ytfmlmgebomapjaa
