/-
  The walk of the law of ReadDecimal.
-/
import Derived.Test.YtlgoopjbjamlmaaDoorValue
import Derived.LaidLaws
namespace Go.Proofs.YtlgoopjbjamlmaaDoor
open Go.RowKit

theorem star_name : "*" ++ "errors.errorString" = "*errors.errorString" := by decide
theorem row_err (u : TypeId) (h : Tryd.prog.typeName? 3 u = some "*errors.errorString") : u = 104 :=
  typeName_ptr_named (nm := "errors.errorString") (by rw [star_name]; kernel_rfl) (by kernel_rfl) (by decide) u (by rw [star_name]; exact h)
theorem held_err {W : World} {n : String} {text : List UInt8} {r : List (String × DataW Unit)} {g : Nat} (h : laidMet Tryd.prog ((n, .iface "*errors.errorString" (.ptr (.agg [.lit (.string text)]))) :: r) W)
    (hg : Tryd.prog.globalNamed n = some g) (ht : (Tryd.prog.globals[g]?).map (·.type) = some 54) : (∃ t p, W.cell? ⟨g, 0, none⟩ = some (.iface t p)) ∧ g < W.heap.size := by
  obtain ⟨a0, s0, hv0, _⟩ := laid_sentinel h hg ht Tryd.underlying54 row_err Tryd.underlying104 Tryd.underlying106 rfl rfl Tryd.underlying9 (by kernel_rfl) (by kernel_rfl)
  have h0 : W.cell? ⟨g, 0, none⟩ = some (.iface 104 (.pointer (some a0))) := by
    have := World.var?_cell hg hv0 0; simpa using this
  refine ⟨⟨_, _, h0⟩, ?_⟩
  by_cases hb : g < W.heap.size
  · exact hb
  · have : W.heap[g]? = none := Array.getElem?_eq_none (by omega)
    simp [World.cell?, this] at h0

theorem read_held {W : World} (hL : laidMetH Tryd.prog Rows.fnExactReadDecimalRow.laid W) : Held W := by
  rw [MakeChecks.laidMetH_plain _ _ _ (by kernel_rfl)] at hL
  have h3 : laidMet Tryd.prog [("internal/strconv.uint64pow10", Rows.laid_internal_strconv_uint64pow10), ("strconv.ErrRange", Rows.laid_strconv_ErrRange), ("strconv.ErrSyntax", Rows.laid_strconv_ErrSyntax)] W := laidMet.tail (laidMet.tail hL)
  obtain ⟨hr, lr⟩ := held_err (g := 4) (laidMet.tail h3) (by kernel_rfl) (by kernel_rfl)
  obtain ⟨hs, ls⟩ := held_err (g := 3) (laidMet.tail (laidMet.tail h3)) (by kernel_rfl) (by kernel_rfl)
  refine ⟨?_, hs, hr, ls, lr⟩
  exact Lib.tabIs_of_head (g := 2) (t := 92) (e := 62) (n := 20) (by kernel_rfl) (by kernel_rfl) Tryd.underlying92 Tryd.underlying62 (by kernel_rfl) (by kernel_rfl) h3

theorem l01Value_any (s : ByteArray) (w : World) (hs : s.size ≤ 1048576) :
    Calls Tryd.prog 34 #[.string s] w fun e w' => e = optTwo (specP s.data.toList) ∧ Below w.heap.size w w' := by
  rcases h : isNeg s.data.toList with _ | _
  · exact value_pos s w hs h
  · exact value_neg s w hs h
set_option maxHeartbeats 400000 in
theorem specRead_any (s : ByteArray) (w : World) (hs : s.size ≤ 1048576) :
    Calls Tryd.prog 18 #[.string s] w fun e w' => e = optTwo (specP s.data.toList) ∧ Below w.heap.size w w' := by
  have C : Calls Tryd.prog 34 #[.string s] w fun e w' => e = .returned (.tuple #[.int .i64 ((specP s.data.toList).getD 0), .bool (specP s.data.toList).isSome]) ∧ Below w.heap.size w w' := l01Value_any s w hs
  go_enter Tryd.func18, Tryd.ntmps18
  go_wp2_with (go_at_call 34; (with_reducible refine (C).mono ?_); rintro e w' ⟨rfl, hb⟩)
  go_ret2
  exact ⟨rfl, hb⟩
set_option maxHeartbeats 400000 in
theorem read_walk (s : ByteArray) (w : World) (hs : s.size ≤ maxLen) (hL : laidMetH Tryd.prog Rows.fnExactReadDecimalRow.laid w) :
    Calls Tryd.prog 5 #[.string s] w fun e w' => e = .returned (.bool true) ∧ Below w.heap.size w w' := by
  have HH := Lib.hid (read_held hL)
  clear hL
  unfold maxLen at hs
  by_cases hlong : 1048576 < s.size
  · go_enter Tryd.func5, Tryd.ntmps5
    go_wp2
    go_ret
    exact ⟨rfl, Below.refl _ _⟩
  · obtain ⟨o, ho⟩ : ∃ o, o = specP s.data.toList := ⟨_, rfl⟩
    have CS : Calls Tryd.prog 18 #[.string s] w fun e w' => e = .returned (.tuple #[.int .i64 (o.getD 0), .bool o.isSome]) ∧ Below w.heap.size w w' := by
      rw [ho]; exact specRead_any s w (by omega)
    have CI : ∀ W, Below w.heap.size w W → Calls Tryd.prog 19 #[.string s] W fun e w' => e = .returned (.tuple #[.int .i64 (o.getD 0), .bool o.isSome]) ∧ Below W.heap.size W w' := by
      intro W hW
      rw [ho, ← implP_eq]; exact implRead_any s W (by omega) (held_below HH.out hW)
    clear ho
    go_enter Tryd.func5, Tryd.ntmps5
    go_wp2_with fail
    (go_at_call 18; (with_reducible refine (CS).mono ?_); rintro e w1 ⟨rfl, b1⟩)
    go_wp2_with fail
    (go_at_call 19; (with_reducible refine (CI _ b1).mono ?_); rintro e w2 ⟨rfl, b2⟩)
    go_wp2_with fail
    go_ret
    exact ⟨rfl, b1.trans (b2.mono b1.size)⟩
end Go.Proofs.YtlgoopjbjamlmaaDoor
