/-
  The law of ValidSpeech: a speech that came in, the helpers, and the walk.
-/
import Derived.Test.YtfmlmgebomapjaaDoorSpS
import Derived.Test.YtfmlmgebomapjaaDoorSpI
import Derived.Test.YtfmlmgebomapjaaDoorOpenR
namespace Go.Proofs.YtfmlmgebomapjaaDoor
open Go Go.RowKit Go.ChangeShapes Go.WideShapes Go.ChangeAt Go.Deep

section
variable {H : Type} {enc : TypeId × Value → H} {w : World} {v : Value}
set_option maxRecDepth 100000 in
theorem open_speech {base : Nat} {d : DataW H} {p : List MemPlace} (hv : Value.okWide Tryd.prog w .any base 46 v) (h : DataW.Trod enc Tryd.prog w 0 (fun _ => true) true 46 v d p) :
    ∃ F S, v = .agg #[.string F, .string S] ∧ F.size ≤ maxLen ∧ S.size ≤ maxLen := by
  obtain ⟨cs, rfl, hsz⟩ := okWide_struct Tryd.underlying46 hv
  obtain ⟨fuel, hf⟩ := h
  obtain ⟨xs, n, _, _, hlen, hxl, hfs⟩ := DataW.trod_struct Tryd.underlying46 hf
  have hC : Tryd.prog.cellsOf 46 = 2 := by kernel_rfl
  have hc2 : Tryd.prog.cellsOf 9 = 1 := by kernel_rfl
  rw [hC] at hlen
  simp [Value.cells] at hlen
  obtain ⟨l⟩ := cs
  obtain ⟨v0, v1, rfl⟩ : ∃ v0 v1, l = [v0, v1] := by
    match l, hlen with
    | [v0, v1], _ => exact ⟨v0, v1, rfl⟩
  obtain ⟨y0, y1, rfl⟩ : ∃ y0 y1, xs = [y0, y1] := by
    match xs, hxl with
    | [y0, y1], _ => exact ⟨y0, y1, rfl⟩
  have f0 : DataW.trod enc Tryd.prog w 0 (fun _ => true) true n 9 (List.take (Tryd.prog.cellsOf 9) (List.drop 0 [v0, v1])) = some y0 := hfs 0 _ rfl
  have f1 : DataW.trod enc Tryd.prog w 0 (fun _ => true) true n 9 (List.take (Tryd.prog.cellsOf 9) (List.drop 1 [v0, v1])) = some y1 := hfs 1 _ rfl
  rw [hc2] at f0 f1
  simp only [List.drop, List.take] at f0 f1
  obtain ⟨F, e0, _, h0⟩ := DataW.trod_string Tryd.underlying9 f0
  obtain ⟨S, e1, _, h1⟩ := DataW.trod_string Tryd.underlying9 f1
  simp at e0 e1
  subst e0 e1
  exact ⟨F, S, rfl, h0, h1⟩
end

set_option maxHeartbeats 400000 in
theorem szSpeech_any (F S : ByteArray) (w : World) (hF : F.size ≤ maxLen) (hS : S.size ≤ maxLen) :
    Calls Tryd.prog 32 #[.agg #[.string F, .string S], .int .i64 1048576] w fun e w' => (∃ z : Int, e = .returned (.int .i64 z) ∧ (0 ≤ z → F.size ≤ 1048576 ∧ S.size ≤ 1048576)) ∧ Below w.heap.size w w' := by
  unfold maxLen at hF hS
  by_cases h1 : (1048576 : Int) - F.size < 0
  · go_enter Tryd.func32, Tryd.ntmps32
    go_wp2
    go_ret
    exact ⟨⟨_, rfl, fun h => by omega⟩, (Below.refl _ _).alloc (Nat.le_refl _) _⟩
  · by_cases h2 : (1048576 : Int) - F.size - S.size < 0
    · go_enter Tryd.func32, Tryd.ntmps32
      go_wp2
      go_ret
      exact ⟨⟨_, rfl, fun h => by omega⟩, (Below.refl _ _).alloc (Nat.le_refl _) _⟩
    · go_enter Tryd.func32, Tryd.ntmps32
      go_wp2
      go_ret
      exact ⟨⟨_, rfl, fun h => by omega⟩, (Below.refl _ _).alloc (Nat.le_refl _) _⟩
set_option maxRecDepth 100000 in
set_option maxHeartbeats 1000000 in
theorem toSpeech_any (F S : ByteArray) (w : World) :
    Calls Tryd.prog 34 #[.agg #[.string F, .string S]] w fun e w' => e = .returned (spV F S) ∧ Below w.heap.size w w' := by
  go_enter Tryd.func34, Tryd.ntmps34
  go_wp2
  exact bodyPost_ret (v := spV F S) (by simp [results, Tryd.results34, go_sem]) rfl ⟨rfl, ((((Below.refl _ _).alloc (Nat.le_refl _) _).alloc (by simp) _).alloc (by simp; omega) _)⟩


end Go.Proofs.YtfmlmgebomapjaaDoor
