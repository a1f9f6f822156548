/-
  Speeches of the program.
-/
import Derived.Test.YtfmlmgebomapjaaDoorSpM
namespace Go.Proofs.YtfmlmgebomapjaaDoor
open Go Go.RowKit

set_option maxHeartbeats 1000000 in
theorem isAlphabet_any (s : ByteArray) (most : Nat) (m : Int) (hm : m = most) (w : World) (hs : s.size ≤ maxLen) :
    Calls Tryd.prog 75 #[.string alphaS, .string s, .int .i64 m] w fun e w' => e = .returned (.bool (alB s most)) ∧ Below w.heap.size w w' := by
  subst hm
  have CI := fun W => withinInt_any (s.size : Int) 1 (most : Int) W
  have hs' := hs
  unfold maxLen at hs'
  rcases hi : inB s.size 1 most with _ | _
  · have H : Hid (alB s most = false) := Lib.hid (by
      have h1 := inB_false.1 hi
      have h2 : ¬ (1 ≤ s.size ∧ s.size ≤ most) := by omega
      unfold alB
      rw [decide_eq_false h2]; rfl)
    rw [hi] at CI
    clear hi
    go_enter Tryd.func75, Tryd.ntmps75
    go_wp2_with (go_at_call 100; (with_reducible refine (CI _).mono ?_); rintro e w' ⟨rfl, rfl⟩)
    go_ret
    exact ⟨ret_bool H.out.symm, Below.refl _ _⟩
  · have H : Hid (alB s most = (chM alphaS.data.toList s.data.toList 0).isSome) := Lib.hid (by
      have h1 := inB_true.1 hi
      have h2 : 1 ≤ s.size ∧ s.size ≤ most := by omega
      rw [cho_letters]
      unfold alB
      rw [decide_eq_true h2, Bool.true_and])
    rw [hi] at CI
    have CC := fun W => choose_any alphaS s W alpha_plain (by decide) hs
    obtain ⟨ok, hok⟩ : ∃ ok, ok = (chM alphaS.data.toList s.data.toList 0).isSome := ⟨_, rfl⟩
    obtain ⟨M, hM⟩ : ∃ M : Nat, M = (chM alphaS.data.toList s.data.toList 0).getD 0 := ⟨_, rfl⟩
    have CC2 : ∀ W, Calls Tryd.prog 46 #[.string alphaS, .string s] W fun e w' => e = .returned (.tuple #[.int .u64 (M : Int), .bool ok]) ∧ Below W.heap.size W w' := fun W => (CC W).mono fun e w' he => ⟨he.1.trans (by unfold choE; rw [hok, hM]), he.2⟩
    rw [← hok] at H
    clear hi CC hok hM
    go_enter Tryd.func75, Tryd.ntmps75
    go_wp2_with (first | (go_at_call 100; (with_reducible refine (CI _).mono ?_); rintro e w' ⟨rfl, rfl⟩) | (go_at_call 46; (with_reducible refine (CC2 _).mono ?_); rintro e w1 ⟨rfl, b1⟩))
    go_ret
    exact ⟨ret_bool H.out.symm, b1⟩

abbrev spV (F S : ByteArray) : Value := .agg #[.string F, .string S]
set_option maxRecDepth 100000 in
set_option maxHeartbeats 2000000 in
theorem implSpeech_any (F S : ByteArray) (w : World) (hF : F.size ≤ 1048576) (hS : S.size ≤ 1048576) :
    Calls Tryd.prog 90 #[spV F S] w fun e w' => e = .returned (.bool (spB F S)) ∧ Below w.heap.size w w' := by
  have hFm : F.size ≤ maxLen := by unfold maxLen; omega
  have hSm : S.size ≤ maxLen := by unfold maxLen; omega
  have C1 := fun W => isAlphabet_any F 20 20 rfl W hFm
  have C2 := fun W => isAlphabet_any S 6 6 rfl W hSm
  rcases h1 : alB F 20 with _ | _
  · have H : Hid (spB F S = false) := Lib.hid (by rw [sp_al, h1]; rfl)
    rw [h1] at C1
    clear h1
    go_enter Tryd.func90, Tryd.ntmps90
    go_wp2_with (go_at_call 75; (with_reducible refine (C1 _).mono ?_); rintro e w1 ⟨rfl, b1⟩)
    go_ret
    exact ⟨ret_bool H.out.symm, ((Below.refl _ w).alloc (Nat.le_refl _) _).trans (b1.mono (by simp))⟩
  · rcases h2 : alB S 6 with _ | _
    · have H : Hid (spB F S = false) := Lib.hid (by rw [sp_al, h2]; simp)
      rw [h1] at C1
      rw [h2] at C2
      clear h1 h2
      go_enter Tryd.func90, Tryd.ntmps90
      go_wp2_with fail
      (go_at_call 75; (with_reducible refine (C1 _).mono ?_); rintro e w1 ⟨rfl, b1⟩)
      have B1 : Hid (Below w.heap.size w w1) := Lib.hid (((Below.refl _ w).alloc (Nat.le_refl _) _).trans (b1.mono (by simp)))
      have q1 : w1.cell? ⟨w.heap.size, 1, none⟩ = some (.string S) := (b1.cell (p := ⟨w.heap.size, 1, none⟩) (by simp)).trans (by simp)
      clear b1
      go_wp2_with (go_at_call 75; (with_reducible refine (C2 _).mono ?_); rintro e w2 ⟨rfl, b2⟩)
      go_ret
      exact ⟨ret_bool H.out.symm, B1.out.trans (b2.mono B1.out.size)⟩
    · have hp1 : ∀ (j : Nat) (b : UInt8), F.data.toList[j]? = some b → b.toNat < 128 := let_plain (by unfold alB at h1; simp only [Bool.and_eq_true] at h1; exact h1.2.1)
      have hp2 : ∀ (j : Nat) (b : UInt8), S.data.toList[j]? = some b → b.toNat < 128 := let_plain (by unfold alB at h2; simp only [Bool.and_eq_true] at h2; exact h2.2.1)
      have C3 := fun W => Tryd.strings_ContainsAny_laid F S W (by omega) (by omega) hp1 hp2
      have H : Hid (spB F S = !Lib.containsAny F.data.toList S.data.toList) := Lib.hid (by
        rw [sp_al, h1, h2, Bool.true_and, Bool.true_and]
        rw [Bool.eq_iff_iff, decide_eq_true_eq, Bool.not_eq_true']
        exact (any_not _ _).symm)
      obtain ⟨X, hX⟩ : ∃ X, X = Lib.containsAny F.data.toList S.data.toList := ⟨_, rfl⟩
      rw [← hX] at C3 H
      rw [h1] at C1
      rw [h2] at C2
      clear h1 h2 hp1 hp2 hX
      go_enter Tryd.func90, Tryd.ntmps90
      go_wp2_with fail
      (go_at_call 75; (with_reducible refine (C1 _).mono ?_); rintro e w1 ⟨rfl, b1⟩)
      have B1 : Hid (Below w.heap.size w w1) := Lib.hid (((Below.refl _ w).alloc (Nat.le_refl _) _).trans (b1.mono (by simp)))
      have q0 : w1.cell? ⟨w.heap.size, 0, none⟩ = some (.string F) := (b1.cell (p := ⟨w.heap.size, 0, none⟩) (by simp)).trans (by simp)
      have q1 : w1.cell? ⟨w.heap.size, 1, none⟩ = some (.string S) := (b1.cell (p := ⟨w.heap.size, 1, none⟩) (by simp)).trans (by simp)
      have hl1 : w.heap.size < w1.heap.size := by have := b1.size; simp at this; omega
      clear b1
      go_wp2_with fail
      (go_at_call 75; (with_reducible refine (C2 _).mono ?_); rintro e w2 ⟨rfl, b2⟩)
      have r0 : w2.cell? ⟨w.heap.size, 0, none⟩ = some (.string F) := (b2.cell (p := ⟨w.heap.size, 0, none⟩) hl1).trans q0
      have r1 : w2.cell? ⟨w.heap.size, 1, none⟩ = some (.string S) := (b2.cell (p := ⟨w.heap.size, 1, none⟩) hl1).trans q1
      have B2 := Lib.hid (B1.out.trans (b2.mono B1.out.size))
      clear b2 q0 q1
      go_wp2_with fail
      (go_at_call 111; (with_reducible refine (C3 _).mono ?_); rintro e w3 ⟨rfl, b3⟩)
      have B3 := Lib.hid (B2.out.trans (b3.mono B2.out.size))
      clear b3
      go_wp2_with fail
      go_ret
      exact ⟨ret_bool H.out.symm, B3.out⟩
end Go.Proofs.YtfmlmgebomapjaaDoor
