/-
  A group that came in as an argument reads as a table.
-/
import Derived.Test.YteggllmiapdmcaaGp
import Derived.Test.YteggllmiapdmcaaOpen
namespace Go.Proofs.Yteggllmiapdmcaa
open Go.RowKit Go.ChangeShapes Go.WideShapes Go.ChangeAt Go.Deep

section
variable {H : Type} {enc : TypeId × Value → H} {w : World} {v : Value}
set_option maxRecDepth 100000 in
theorem open_group {base : Nat} {d : DataW H} {p : List MemPlace} (hv : Value.okWide Try.prog w .any base 54 v) (h : DataW.Trod enc Try.prog w 0 (fun _ => true) true 54 v d p) :
    ∃ x A n c, v = gpV x A n c ∧ Rows2 w.heap.size w A n x.G := by
  obtain ⟨cs, rfl, hsz⟩ := okWide_struct Try.underlying54 hv
  obtain ⟨fuel, hf⟩ := h
  obtain ⟨xs, n, _, _, hlen, hxl, hfs⟩ := DataW.trod_struct Try.underlying54 hf
  have hC : Try.prog.cellsOf 54 = 1 := by kernel_rfl
  have hcP : Try.prog.cellsOf 24 = 1 := by kernel_rfl
  rw [hC] at hlen
  simp [Value.cells] at hlen
  obtain ⟨l⟩ := cs
  obtain ⟨v0, rfl⟩ : ∃ v0, l = [v0] := by
    match l, hlen with
    | [v0], _ => exact ⟨v0, rfl⟩
  obtain ⟨y0, rfl⟩ : ∃ y0, xs = [y0] := by
    match xs, hxl with
    | [y0], _ => exact ⟨y0, rfl⟩
  have f0 : DataW.trod enc Try.prog w 0 (fun _ => true) true n 24 (List.take (Try.prog.cellsOf 24) (List.drop 0 [v0])) = some y0 := hfs 0 _ rfl
  rw [hcP] at f0
  simp only [List.drop, List.take] at f0
  obtain ⟨A, m, c, T, e3, _, r3⟩ := rows2_of_trod f0
  subst e3
  exact ⟨⟨T⟩, A, m, c, rfl, r3⟩
end
end Go.Proofs.Yteggllmiapdmcaa
