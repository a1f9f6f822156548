/-
  The moves, which a package-level variable lists: what its cells read as.
-/
import Derived.Test.YtiegaebnlikjiaaDoorTyB
import Derived.Lib.LaidTab
import Derived.SevenTiedAt
import Derived.LaidMore
import Derived.Below
namespace Go.Proofs.YtiegaebnlikjiaaDoor
open Go.RowKit Go.ChangeShapes

def mvCs (m : Nat) : Array Value := #[.int .i32 (mvL m : Nat), .int .i64 (mvC m : Nat), .int .i64 (mvA m : Nat), .int .i64 (mvB m : Nat)]
def mvAll : List Value := [.int .i32 61, .int .i64 0, .int .i64 1, .int .i64 1, .int .i32 68, .int .i64 1, .int .i64 1, .int .i64 0, .int .i32 73, .int .i64 1, .int .i64 0, .int .i64 1, .int .i32 83, .int .i64 1, .int .i64 1, .int .i64 1, .int .i32 88, .int .i64 1, .int .i64 2, .int .i64 2]
/-- The variable holds the five moves. -/
def HeldM (w : World) : Prop := ∃ t fr, w.heap[0]? = some (.cells mvAll.toArray t fr)
theorem HeldM.lt {w : World} (h : HeldM w) : 0 < w.heap.size := by
  obtain ⟨_, _, h⟩ := h
  exact (Array.getElem?_eq_some_iff.1 h).1
theorem HeldM.below {B : Nat} {w w' : World} (h : HeldM w) (hb : Below B w w') (hB : 0 < B) : HeldM w' := by
  obtain ⟨t, fr, h⟩ := h
  exact ⟨t, fr, (hb.block _ hB).trans h⟩
theorem HeldM.up {w w' : World} (h : HeldM w) (hb : Below w.heap.size w w') : HeldM w' := h.below hb h.lt
theorem HeldM.drewN {w : World} (h : HeldM w) (m : Nat) : HeldM (w.drewN m) := h

section
variable {H : Type} {enc : TypeId × Value → H} {w : World}
set_option maxRecDepth 100000 in
theorem move_cells {base fuel : Nat} {sp : Nat → Bool} {held : Bool} {cs : List Value} {a b c d : Int} {p : List MemPlace} (h : DataW.trod enc Tryd.prog w base sp held fuel 51 cs = some (.agg [.lit (.int .i32 a), .lit (.int .i64 b), .lit (.int .i64 c), .lit (.int .i64 d)], p)) :
    cs = [.int .i32 a, .int .i64 b, .int .i64 c, .int .i64 d] := by
  obtain ⟨xs, n, _, hx, hlen, hxl, hfs⟩ := DataW.trod_struct Tryd.underlying51 h
  have hC : Tryd.prog.cellsOf 51 = 4 := by kernel_rfl
  have hr : Tryd.prog.cellsOf 21 = 1 := by kernel_rfl
  have h2 : Tryd.prog.cellsOf 2 = 1 := by kernel_rfl
  have h3 : Tryd.prog.cellsOf 3 = 1 := by kernel_rfl
  rw [hC] at hlen
  obtain ⟨v0, v1, v2, v3, rfl⟩ : ∃ v0 v1 v2 v3, cs = [v0, v1, v2, v3] := by
    match cs, hlen with
    | [v0, v1, v2, v3], _ => exact ⟨v0, v1, v2, v3, rfl⟩
  obtain ⟨y0, y1, y2, y3, rfl⟩ : ∃ y0 y1 y2 y3, xs = [y0, y1, y2, y3] := by
    match xs, hxl with
    | [y0, y1, y2, y3], _ => exact ⟨y0, y1, y2, y3, rfl⟩
  have f0 : DataW.trod enc Tryd.prog w base sp held n 21 (List.take (Tryd.prog.cellsOf 21) (List.drop 0 [v0, v1, v2, v3])) = some y0 := hfs 0 _ rfl
  have f1 : DataW.trod enc Tryd.prog w base sp held n 2 (List.take (Tryd.prog.cellsOf 2) (List.drop 1 [v0, v1, v2, v3])) = some y1 := hfs 1 _ rfl
  have f2 : DataW.trod enc Tryd.prog w base sp held n 3 (List.take (Tryd.prog.cellsOf 3) (List.drop 2 [v0, v1, v2, v3])) = some y2 := hfs 2 _ rfl
  have f3 : DataW.trod enc Tryd.prog w base sp held n 3 (List.take (Tryd.prog.cellsOf 3) (List.drop 3 [v0, v1, v2, v3])) = some y3 := hfs 3 _ rfl
  rw [hr] at f0
  rw [h2] at f1
  rw [h3] at f2 f3
  simp only [List.drop, List.take] at f0 f1 f2 f3
  obtain ⟨n0, e0, g0, _⟩ := DataW.trod_int Tryd.underlying21 f0
  obtain ⟨n1, e1, g1, _⟩ := DataW.trod_int Tryd.underlying2 f1
  obtain ⟨n2, e2, g2, _⟩ := DataW.trod_int Tryd.underlying3 f2
  obtain ⟨n3, e3, g3, _⟩ := DataW.trod_int Tryd.underlying3 f3
  subst g0 g1 g2 g3
  simp at hx e0 e1 e2 e3
  obtain ⟨⟨rfl, rfl, rfl, rfl⟩, _⟩ := hx
  subst e0 e1 e2 e3
  rfl
set_option maxRecDepth 100000 in
theorem moves_held {rest : List (String × DataW Unit)} (h : laidMet Tryd.prog (("loop.example/g01130/impl.moves", Rows.laid_loop_example_g01130_impl_moves) :: rest) w) : HeldM w := by
  have hg : Tryd.prog.globalNamed "loop.example/g01130/impl.moves" = some 0 := by kernel_rfl
  have hty : (Tryd.prog.globals[0]?).map (·.type) = some 76 := by kernel_rfl
  have hce : Tryd.prog.cellsOf 51 = 4 := by kernel_rfl
  have hct : Tryd.prog.cellsOf 76 = 20 := by kernel_rfl
  obtain ⟨ps, ⟨g', t', cs, fuel, p, q, hg', ht', hvar, hd, _, _⟩, _⟩ := h
  obtain rfl := Option.some.inj (hg.symm.trans hg')
  obtain rfl := Option.some.inj (hty.symm.trans ht')
  obtain ⟨l⟩ := cs
  have hd : DataW.trod (fun _ => ()) Tryd.prog w 0 (fun _ => true) false fuel 76 l = some (Rows.laid_loop_example_g01130_impl_moves, p) := hd
  have hcs : l = mvAll := by
    cases fuel with
    | zero => simp [DataW.trod] at hd
    | succ fuel =>
      simp only [DataW.trod, Tryd.underlying76, hce, hct] at hd
      split at hd
      · rename_i hl
        obtain ⟨xs, hm, hx⟩ := Option.map_eq_some_iff.1 hd
        have hxs := congrArg Prod.fst hx
        simp only [Rows.laid_loop_example_g01130_impl_moves, DataW.agg.injEq] at hxs
        have hxl : xs.length = 5 := by simpa using Lib.mapM_length hm
        obtain ⟨y0, y1, y2, y3, y4, rfl⟩ : ∃ y0 y1 y2 y3 y4, xs = [y0, y1, y2, y3, y4] := by
          match xs, hxl with
          | [y0, y1, y2, y3, y4], _ => exact ⟨y0, y1, y2, y3, y4, rfl⟩
        simp only [List.map_cons, List.map_nil, List.cons.injEq, and_true] at hxs
        obtain ⟨x0, x1, x2, x3, x4⟩ := hxs
        obtain ⟨b0, hb0, hf0⟩ := Lib.mapM_at hm 0 0 (by rfl)
        obtain ⟨b1, hb1, hf1⟩ := Lib.mapM_at hm 1 1 (by rfl)
        obtain ⟨b2, hb2, hf2⟩ := Lib.mapM_at hm 2 2 (by rfl)
        obtain ⟨b3, hb3, hf3⟩ := Lib.mapM_at hm 3 3 (by rfl)
        obtain ⟨b4, hb4, hf4⟩ := Lib.mapM_at hm 4 4 (by rfl)
        simp at hb0 hb1 hb2 hb3 hb4
        subst hb0 hb1 hb2 hb3 hb4
        obtain ⟨d0, p0⟩ := y0
        obtain ⟨d1, p1⟩ := y1
        obtain ⟨d2, p2⟩ := y2
        obtain ⟨d3, p3⟩ := y3
        obtain ⟨d4, p4⟩ := y4
        simp only at x0 x1 x2 x3 x4
        subst x0 x1 x2 x3 x4
        have c0 := move_cells hf0
        have c1 := move_cells hf1
        have c2 := move_cells hf2
        have c3 := move_cells hf3
        have c4 := move_cells hf4
        have hl2 : l.length = 20 := hl
        have e : l = (l.drop 0).take 4 ++ (l.drop 4).take 4 ++ (l.drop 8).take 4 ++ (l.drop 12).take 4 ++ (l.drop 16).take 4 := by
          match l, hl2 with
          | [v0, v1, v2, v3, v4, v5, v6, v7, v8, v9, v10, v11, v12, v13, v14, v15, v16, v17, v18, v19], _ => rfl
        simp only [Nat.zero_mul, Nat.one_mul, Nat.reduceMul] at c0 c1 c2 c3 c4
        rw [e, c0, c1, c2, c3, c4]
        rfl
      · cases hd
  subst hcs
  unfold World.var? at hvar
  rw [hg] at hvar
  simp only [Option.bind_some] at hvar
  rcases hh : w.heap[0]? with _ | o
  · rw [hh] at hvar; simp at hvar
  · rw [hh] at hvar
    rcases o with ⟨cs, t, fr⟩
    all_goals simp at hvar
    subst hvar
    exact ⟨_, _, hh⟩
end
end Go.Proofs.YtiegaebnlikjiaaDoor
