/-
  The law of ValidSpeech: a speech that came in, the helpers, and the walk.
-/
import Derived.Test.YtfmlmgebomapjaaSpS
import Derived.Test.YtfmlmgebomapjaaSpI
import Derived.Test.YtfmlmgebomapjaaOpenR
namespace Go.Proofs.Ytfmlmgebomapjaa
open Go Go.RowKit Go.ChangeShapes Go.WideShapes Go.ChangeAt Go.Deep

section
variable {H : Type} {enc : TypeId × Value → H} {w : World} {v : Value}
set_option maxRecDepth 100000 in
theorem open_speech {base : Nat} {d : DataW H} {p : List MemPlace} (hv : Value.okWide Try.prog w .any base 27 v) (h : DataW.Trod enc Try.prog w 0 (fun _ => true) true 27 v d p) :
    ∃ F S, v = .agg #[.string F, .string S] ∧ F.size ≤ maxLen ∧ S.size ≤ maxLen := by
  obtain ⟨cs, rfl, hsz⟩ := okWide_struct Try.underlying27 hv
  obtain ⟨fuel, hf⟩ := h
  obtain ⟨xs, n, _, _, hlen, hxl, hfs⟩ := DataW.trod_struct Try.underlying27 hf
  have hC : Try.prog.cellsOf 27 = 2 := by kernel_rfl
  have hc2 : Try.prog.cellsOf 9 = 1 := by kernel_rfl
  rw [hC] at hlen
  simp [Value.cells] at hlen
  obtain ⟨l⟩ := cs
  obtain ⟨v0, v1, rfl⟩ : ∃ v0 v1, l = [v0, v1] := by
    match l, hlen with
    | [v0, v1], _ => exact ⟨v0, v1, rfl⟩
  obtain ⟨y0, y1, rfl⟩ : ∃ y0 y1, xs = [y0, y1] := by
    match xs, hxl with
    | [y0, y1], _ => exact ⟨y0, y1, rfl⟩
  have f0 : DataW.trod enc Try.prog w 0 (fun _ => true) true n 9 (List.take (Try.prog.cellsOf 9) (List.drop 0 [v0, v1])) = some y0 := hfs 0 _ rfl
  have f1 : DataW.trod enc Try.prog w 0 (fun _ => true) true n 9 (List.take (Try.prog.cellsOf 9) (List.drop 1 [v0, v1])) = some y1 := hfs 1 _ rfl
  rw [hc2] at f0 f1
  simp only [List.drop, List.take] at f0 f1
  obtain ⟨F, e0, _, h0⟩ := DataW.trod_string Try.underlying9 f0
  obtain ⟨S, e1, _, h1⟩ := DataW.trod_string Try.underlying9 f1
  simp at e0 e1
  subst e0 e1
  exact ⟨F, S, rfl, h0, h1⟩
end

set_option maxHeartbeats 400000 in
theorem szSpeech_any (F S : ByteArray) (w : World) (hF : F.size ≤ maxLen) (hS : S.size ≤ maxLen) :
    Calls Try.prog 11 #[.agg #[.string F, .string S], .int .i64 1048576] w fun e w' => (∃ z : Int, e = .returned (.int .i64 z) ∧ (0 ≤ z → F.size ≤ 1048576 ∧ S.size ≤ 1048576)) ∧ Below w.heap.size w w' := by
  unfold maxLen at hF hS
  by_cases h1 : (1048576 : Int) - F.size < 0
  · go_enter Try.func11, Try.ntmps11
    go_wp2
    go_ret
    exact ⟨⟨_, rfl, fun h => by omega⟩, (Below.refl _ _).alloc (Nat.le_refl _) _⟩
  · by_cases h2 : (1048576 : Int) - F.size - S.size < 0
    · go_enter Try.func11, Try.ntmps11
      go_wp2
      go_ret
      exact ⟨⟨_, rfl, fun h => by omega⟩, (Below.refl _ _).alloc (Nat.le_refl _) _⟩
    · go_enter Try.func11, Try.ntmps11
      go_wp2
      go_ret
      exact ⟨⟨_, rfl, fun h => by omega⟩, (Below.refl _ _).alloc (Nat.le_refl _) _⟩
set_option maxRecDepth 100000 in
set_option maxHeartbeats 1000000 in
theorem toSpeech_any (F S : ByteArray) (w : World) :
    Calls Try.prog 13 #[.agg #[.string F, .string S]] w fun e w' => e = .returned (spV F S) ∧ Below w.heap.size w w' := by
  go_enter Try.func13, Try.ntmps13
  go_wp2
  exact bodyPost_ret (v := spV F S) (by simp [results, Try.results13, go_sem]) rfl ⟨rfl, ((((Below.refl _ _).alloc (Nat.le_refl _) _).alloc (by simp) _).alloc (by simp; omega) _)⟩

set_option maxHeartbeats 1000000 in
theorem specSpeech_any (F S : ByteArray) (w : World) (hF : F.size ≤ 1048576) (hS : S.size ≤ 1048576) :
    Calls Try.prog 12 #[spV F S] w fun e w' => e = .returned (.bool (spB F S)) ∧ Below w.heap.size w w' := by
  go_enter Try.func12, Try.ntmps12
  go_wp2_with (go_at_call 23; (with_reducible refine (l07Speech_any F S _ _ hF hS (by simp) (by simp)).mono ?_); rintro e w' ⟨rfl, m, rfl⟩)
  go_ret
  exact ⟨rfl, below_drewN ((Below.refl _ _).alloc (Nat.le_refl _) _) m⟩

set_option maxRecDepth 100000 in
set_option maxHeartbeats 2000000 in
theorem speech_walk (F S : ByteArray) (w : World) (hF : F.size ≤ maxLen) (hS : S.size ≤ maxLen) :
    Calls Try.prog 5 #[.agg #[.string F, .string S]] w fun e w' => e = .returned (.bool true) ∧ Below w.heap.size w w' := by
  obtain ⟨X, hX⟩ : ∃ X, X = spB F S := ⟨_, rfl⟩
  have HX := Lib.hid hX
  clear hX
  go_enter Try.func5, Try.ntmps5
  go_wp2_with fail
  (go_at_call 11; (with_reducible refine (szSpeech_any F S _ hF hS).mono ?_); rintro e w1 ⟨⟨z, rfl, hz⟩, b1⟩)
  have B1 : Hid (Below w.heap.size w w1) := Lib.hid (((Below.refl _ w).alloc (Nat.le_refl _) _).trans (b1.mono (by simp)))
  have q0 : w1.cell? ⟨w.heap.size, 0, none⟩ = some (.string F) := (b1.cell (p := ⟨w.heap.size, 0, none⟩) (by simp)).trans (by simp)
  have q1 : w1.cell? ⟨w.heap.size, 1, none⟩ = some (.string S) := (b1.cell (p := ⟨w.heap.size, 1, none⟩) (by simp)).trans (by simp)
  have l1 : w.heap.size < w1.heap.size := by have := b1.size; simp at this; omega
  clear b1
  by_cases hneg : z < 0
  · go_wp2_with fail
    go_ret
    exact ⟨rfl, B1.out⟩
  · obtain ⟨hF2, hS2⟩ := hz (by omega)
    clear hz
    go_wp2_with fail
    (go_at_call 13; (with_reducible refine (toSpeech_any F S _).mono ?_); rintro e w2 ⟨rfl, b2⟩)
    have r0 : w2.cell? ⟨w.heap.size, 0, none⟩ = some (.string F) := (b2.cell (p := ⟨w.heap.size, 0, none⟩) l1).trans q0
    have r1 : w2.cell? ⟨w.heap.size, 1, none⟩ = some (.string S) := (b2.cell (p := ⟨w.heap.size, 1, none⟩) l1).trans q1
    have l2 : w.heap.size < w2.heap.size := Nat.lt_of_lt_of_le l1 b2.size
    have B2 := Lib.hid (B1.out.trans (b2.mono B1.out.size))
    clear b2 q0 q1
    have CS : Calls Try.prog 12 #[spV F S] w2 fun e w' => e = .returned (.bool X) ∧ Below w2.heap.size w2 w' := (specSpeech_any F S w2 hF2 hS2).mono fun e w' he => ⟨he.1.trans (ret_bool HX.out.symm), he.2⟩
    go_wp2_with fail
    (go_at_call 12; (with_reducible refine (CS).mono ?_); rintro e w3 ⟨rfl, b3⟩)
    have s0 : w3.cell? ⟨w.heap.size, 0, none⟩ = some (.string F) := (b3.cell (p := ⟨w.heap.size, 0, none⟩) l2).trans r0
    have s1 : w3.cell? ⟨w.heap.size, 1, none⟩ = some (.string S) := (b3.cell (p := ⟨w.heap.size, 1, none⟩) l2).trans r1
    have B3 := Lib.hid (B2.out.trans (b3.mono B2.out.size))
    clear b3 r0 r1 CS
    go_wp2_with fail
    (go_at_call 13; (with_reducible refine (toSpeech_any F S _).mono ?_); rintro e w4 ⟨rfl, b4⟩)
    have B4 := Lib.hid (B3.out.trans (b4.mono B3.out.size))
    have CI : Calls Try.prog 14 #[spV F S] w4 fun e w' => e = .returned (.bool X) ∧ Below w4.heap.size w4 w' := (implSpeech_any F S w4 hF2 hS2).mono fun e w' he => ⟨he.1.trans (ret_bool HX.out.symm), he.2⟩
    clear b4
    go_wp2_with fail
    (go_at_call 14; (with_reducible refine (CI).mono ?_); rintro e w5 ⟨rfl, b5⟩)
    have B5 := Lib.hid (B4.out.trans (b5.mono B4.out.size))
    clear b5 CI
    have hbe : (X != X) = false := by simp
    go_wp2_with fail
    go_ret
    exact ⟨rfl, B5.out⟩
end Go.Proofs.Ytfmlmgebomapjaa
