/-
  A weighting that came in as an argument reads as a list.
-/
import Derived.Test.YtiokcflomchdcaaWt
import Derived.Test.YtiokcflomchdcaaOpenR
namespace Go.Proofs.Ytiokcflomchdcaa
open Go.RowKit Go.ChangeShapes Go.WideShapes Go.ChangeAt Go.Deep

section
variable {H : Type} {enc : TypeId × Value → H} {w : World} {v : Value}
set_option maxRecDepth 100000 in
theorem open_weighting {base : Nat} {d : DataW H} {p : List MemPlace} (hv : Value.okWide Try.prog w .any base 63 v) (h : DataW.Trod enc Try.prog w 0 (fun _ => true) true 63 v d p) :
    ∃ x A n c, v = wtV x A n c ∧ RowB .i64 w.heap.size w A n x.W := by
  obtain ⟨cs, rfl, hsz⟩ := okWide_struct Try.underlying63 hv
  obtain ⟨fuel, hf⟩ := h
  obtain ⟨xs, n, _, _, hlen, hxl, hfs⟩ := DataW.trod_struct Try.underlying63 hf
  have hC : Try.prog.cellsOf 63 = 4 := by kernel_rfl
  have hc2 : Try.prog.cellsOf 2 = 1 := by kernel_rfl
  have hcP : Try.prog.cellsOf 24 = 1 := by kernel_rfl
  rw [hC] at hlen
  simp [Value.cells] at hlen
  obtain ⟨l⟩ := cs
  obtain ⟨v0, v1, v2, v3, rfl⟩ : ∃ v0 v1 v2 v3, l = [v0, v1, v2, v3] := by
    match l, hlen with
    | [v0, v1, v2, v3], _ => exact ⟨v0, v1, v2, v3, rfl⟩
  obtain ⟨y0, y1, y2, y3, rfl⟩ : ∃ y0 y1 y2 y3, xs = [y0, y1, y2, y3] := by
    match xs, hxl with
    | [y0, y1, y2, y3], _ => exact ⟨y0, y1, y2, y3, rfl⟩
  have f0 : DataW.trod enc Try.prog w 0 (fun _ => true) true n 2 (List.take (Try.prog.cellsOf 2) (List.drop 0 [v0, v1, v2, v3])) = some y0 := hfs 0 _ rfl
  have f1 : DataW.trod enc Try.prog w 0 (fun _ => true) true n 2 (List.take (Try.prog.cellsOf 2) (List.drop 1 [v0, v1, v2, v3])) = some y1 := hfs 1 _ rfl
  have f2 : DataW.trod enc Try.prog w 0 (fun _ => true) true n 2 (List.take (Try.prog.cellsOf 2) (List.drop 2 [v0, v1, v2, v3])) = some y2 := hfs 2 _ rfl
  have f3 : DataW.trod enc Try.prog w 0 (fun _ => true) true n 24 (List.take (Try.prog.cellsOf 24) (List.drop 3 [v0, v1, v2, v3])) = some y3 := hfs 3 _ rfl
  rw [hc2] at f0 f1 f2
  rw [hcP] at f3
  simp only [List.drop, List.take] at f0 f1 f2 f3
  obtain ⟨n0, e0, _⟩ := DataW.trod_int Try.underlying2 f0
  obtain ⟨n1, e1, _⟩ := DataW.trod_int Try.underlying2 f1
  obtain ⟨n2, e2, _⟩ := DataW.trod_int Try.underlying2 f2
  obtain ⟨A, m, c, W, e3, _, r3⟩ := row_of_trod f3
  simp at e0 e1 e2
  subst e0 e1 e2 e3
  exact ⟨⟨n0, n1, n2, W⟩, A, m, c, rfl, r3⟩
end
end Go.Proofs.Ytiokcflomchdcaa
