/-
  A chain that came in as an argument reads as lists.
-/
import Derived.Test.YteggllmiapdmcaaCh2
import Derived.Test.YteggllmiapdmcaaOpenR
import Derived.ProofKit
import Derived.OpenShut
import Derived.ShutString
import Derived.ChangeOld
import Derived.Deep.Slices
namespace Go.Proofs.Yteggllmiapdmcaa
open Go.RowKit Go.ChangeShapes Go.WideShapes Go.ChangeAt Go.Deep

theorem list_choice {α : Type} {n : Nat} {p : Nat → α → Prop} (h : ∀ i, i < n → ∃ x, p i x) : ∃ l : List α, l.length = n ∧ ∀ i, i < n → ∃ x, l[i]? = some x ∧ p i x := by
  induction n with
  | zero => exact ⟨[], rfl, fun i hi => by omega⟩
  | succ n ih =>
    obtain ⟨l, hl, hp⟩ := ih fun i hi => h i (by omega)
    obtain ⟨x, hx⟩ := h n (by omega)
    refine ⟨l ++ [x], by simp [hl], fun i hi => ?_⟩
    by_cases hin : i < n
    · obtain ⟨y, hy, hpy⟩ := hp i hin
      exact ⟨y, by rw [List.getElem?_append_left (by omega)]; exact hy, hpy⟩
    · obtain rfl : n = i := by omega
      exact ⟨x, by rw [List.getElem?_append_right (by omega)]; simp [hl], hx⟩

section
variable {H : Type} {enc : TypeId × Value → H} {w : World} {fuel : Nat} {v : Value} {x : DataW H × List MemPlace}
theorem addr_at {w : World} {a : Addr} {u : Nat → Value} {n : Nat} (h : ∀ i, i < n → w.cell? (a.add i) = some (u i)) (hn : 0 < n) : ∃ b off, a = ⟨b, off, none⟩ ∧ b < w.heap.size ∧ ∀ i, i < n → w.cell? ⟨b, off + i, none⟩ = some (u i) := by
  obtain ⟨b, off, spot⟩ := a
  have h1 := h 0 hn
  have hspot : spot = none := by simpa [Addr.add] using World.cell?_spot h1
  subst hspot
  have hb := block_of_cell h1
  refine ⟨b, off, rfl, by simpa [Addr.add] using hb, fun j hj => ?_⟩
  have h2 := h j hj
  by_cases hj0 : j = 0
  · subst hj0; simpa [Addr.add] using h2
  · simpa [Addr.add, hj0] using h2

theorem rows2_of_trod (h : DataW.trod enc Try.prog w 0 (fun _ => true) true fuel 24 [v] = some x) :
    ∃ A n c zss, v = .slice A n c ∧ n ≤ c ∧ Rows2 w.heap.size w A n zss := by
  rcases open_slice1 Try.underlying24 (by kernel_rfl) h with ⟨hcs, _⟩ | ⟨a, l, c, m, n, V, D, Pl, hcs, _, hl, hm, hmm, _, hi⟩
  · simp at hcs
    exact ⟨_, _, _, [], hcs, Nat.le_refl _, rfl, Nat.zero_le _, fun j hj => by omega⟩
  · simp at hcs
    simp at hmm
    subst hmm
    have hc : ∀ i, i < m → ∃ zs, ∃ A n c, V i = .slice A n c ∧ n ≤ c ∧ RowB .i64 w.heap.size w A n zs := fun i him => by
      obtain ⟨A, n, c, zs, h1, h2, h3⟩ := row_of_trod (hi i him).2
      exact ⟨zs, A, n, c, h1, h2, h3⟩
    obtain ⟨zss, hzl, hzp⟩ := list_choice (n := l) fun i hil => hc i (by omega)
    refine ⟨_, _, _, zss, hcs, hl, hzl, by omega, fun j hj => ?_⟩
    obtain ⟨b, off, rfl, hb, hcell⟩ := addr_at (u := V) (n := m) (fun i him => (hi i him).1) (by omega)
    obtain ⟨zs, hz, A, n, c, h1, h2, h3⟩ := hzp j hj
    refine ⟨b, off, A, n, c, zs, rfl, hb, hz, ?_, h2, h3⟩
    rw [hcell j (by omega), h1]

theorem rows3_of_trod (h : DataW.trod enc Try.prog w 0 (fun _ => true) true fuel 43 [v] = some x) :
    ∃ A n c z3, v = .slice A n c ∧ n ≤ c ∧ Rows3 w.heap.size w A n z3 := by
  rcases open_slice1 Try.underlying43 (by kernel_rfl) h with ⟨hcs, _⟩ | ⟨a, l, c, m, n, V, D, Pl, hcs, _, hl, hm, hmm, _, hi⟩
  · simp at hcs
    exact ⟨_, _, _, [], hcs, Nat.le_refl _, rfl, Nat.zero_le _, fun j hj => by omega⟩
  · simp at hcs
    simp at hmm
    subst hmm
    have hc : ∀ i, i < m → ∃ zs, ∃ A n c, V i = .slice A n c ∧ n ≤ c ∧ Rows2 w.heap.size w A n zs := fun i him => by
      obtain ⟨A, n, c, zs, h1, h2, h3⟩ := rows2_of_trod (hi i him).2
      exact ⟨zs, A, n, c, h1, h2, h3⟩
    obtain ⟨zss, hzl, hzp⟩ := list_choice (n := l) fun i hil => hc i (by omega)
    refine ⟨_, _, _, zss, hcs, hl, hzl, by omega, fun j hj => ?_⟩
    obtain ⟨b, off, rfl, hb, hcell⟩ := addr_at (u := V) (n := m) (fun i him => (hi i him).1) (by omega)
    obtain ⟨zs, hz, A, n, c, h1, h2, h3⟩ := hzp j hj
    refine ⟨b, off, A, n, c, zs, rfl, hb, hz, ?_, h2, h3⟩
    rw [hcell j (by omega), h1]

set_option maxRecDepth 100000 in
theorem open_chain {base : Nat} {d : DataW H} {p : List MemPlace} (hv : Value.okWide Try.prog w .any base 45 v) (h : DataW.Trod enc Try.prog w 0 (fun _ => true) true 45 v d p) :
    ∃ c AT nT cT AP nP cP, v = chV c AT nT cT AP nP cP ∧ ChRows w.heap.size w c AT nT AP nP := by
  obtain ⟨cs, rfl, hsz⟩ := okWide_struct Try.underlying45 hv
  obtain ⟨fuel, hf⟩ := h
  obtain ⟨xs, n, _, _, hlen, hxl, hfs⟩ := DataW.trod_struct Try.underlying45 hf
  have hC : Try.prog.cellsOf 45 = 6 := by kernel_rfl
  have hc2 : Try.prog.cellsOf 2 = 1 := by kernel_rfl
  have hcT : Try.prog.cellsOf 43 = 1 := by kernel_rfl
  have hcP : Try.prog.cellsOf 34 = 1 := by kernel_rfl
  rw [hC] at hlen
  simp [Value.cells] at hlen
  obtain ⟨l⟩ := cs
  obtain ⟨v0, v1, v2, v3, v4, v5, rfl⟩ : ∃ v0 v1 v2 v3 v4 v5, l = [v0, v1, v2, v3, v4, v5] := by
    match l, hlen with
    | [v0, v1, v2, v3, v4, v5], _ => exact ⟨v0, v1, v2, v3, v4, v5, rfl⟩
  obtain ⟨y0, y1, y2, y3, y4, y5, rfl⟩ : ∃ y0 y1 y2 y3 y4 y5, xs = [y0, y1, y2, y3, y4, y5] := by
    match xs, hxl with
    | [y0, y1, y2, y3, y4, y5], _ => exact ⟨y0, y1, y2, y3, y4, y5, rfl⟩
  have f0 : DataW.trod enc Try.prog w 0 (fun _ => true) true n 2 (List.take (Try.prog.cellsOf 2) (List.drop 0 [v0, v1, v2, v3, v4, v5])) = some y0 := hfs 0 _ rfl
  have f1 : DataW.trod enc Try.prog w 0 (fun _ => true) true n 2 (List.take (Try.prog.cellsOf 2) (List.drop 1 [v0, v1, v2, v3, v4, v5])) = some y1 := hfs 1 _ rfl
  have f2 : DataW.trod enc Try.prog w 0 (fun _ => true) true n 2 (List.take (Try.prog.cellsOf 2) (List.drop 2 [v0, v1, v2, v3, v4, v5])) = some y2 := hfs 2 _ rfl
  have f3 : DataW.trod enc Try.prog w 0 (fun _ => true) true n 2 (List.take (Try.prog.cellsOf 2) (List.drop 3 [v0, v1, v2, v3, v4, v5])) = some y3 := hfs 3 _ rfl
  have f4 : DataW.trod enc Try.prog w 0 (fun _ => true) true n 43 (List.take (Try.prog.cellsOf 43) (List.drop 4 [v0, v1, v2, v3, v4, v5])) = some y4 := hfs 4 _ rfl
  have f5 : DataW.trod enc Try.prog w 0 (fun _ => true) true n 34 (List.take (Try.prog.cellsOf 34) (List.drop 5 [v0, v1, v2, v3, v4, v5])) = some y5 := hfs 5 _ rfl
  rw [hc2] at f0 f1 f2 f3
  rw [hcT] at f4
  rw [hcP] at f5
  simp only [List.drop, List.take] at f0 f1 f2 f3 f4 f5
  obtain ⟨n0, e0, _⟩ := DataW.trod_int Try.underlying2 f0
  obtain ⟨n1, e1, _⟩ := DataW.trod_int Try.underlying2 f1
  obtain ⟨n2, e2, _⟩ := DataW.trod_int Try.underlying2 f2
  obtain ⟨n3, e3, _⟩ := DataW.trod_int Try.underlying2 f3
  obtain ⟨AT, nT, cT, T, e4, _, r4⟩ := rows3_of_trod f4
  obtain ⟨AP, nP, cP, P, e5, _, r5⟩ := row_of_trod f5
  simp at e0 e1 e2 e3
  subst e0 e1 e2 e3 e4 e5
  exact ⟨⟨n0, n1, n2, n3, T, P⟩, AT, nT, cT, AP, nP, cP, rfl, r4, r5⟩
end
end Go.Proofs.Yteggllmiapdmcaa
