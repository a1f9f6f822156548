/-
  The source that the laws draw from: each draw gives a small number, and turns the source's own block alone.
-/
import Derived.Test.YtlgoopjbjamlmaaOnlyT
import Derived.Laws.Bits64b
import Derived.Laws.Closers25b
namespace Go.Proofs.Ytlgoopjbjamlmaa
open Go.RowKit

/-- The source in block g, over the bytes of the slice at A; it has been asked at most k times. -/
def SrcAt (w : World) (g : Nat) (A : Option Addr) (n c k : Nat) : Prop :=
  ∃ (a : Nat) (s : Int), w.heap[g]? = some (.cells #[.slice A n c, .int .i64 a, .int .u64 s] 64) ∧ a ≤ k ∧ 0 ≤ s ∧ s ≤ 18446744073709551615
/-- What a draw leaves: a number from 0 to m. -/
def Drawn (m : Int) (g : Nat) (A : Option Addr) (n c k : Nat) (w : World) (e : Ending) (w' : World) : Prop :=
  ∃ x : Int, e = .returned (.int .i64 x) ∧ 0 ≤ x ∧ x ≤ m ∧ SrcAt w' g A n c k ∧ Only (some ⟨g, 0, none⟩) w w'
theorem mask255 (y : Int) : 0 ≤ wrap64 (bits BinOp.and IntKind.u64 (IntKind.u64.wrap y / 1099511627776) 255) ∧ wrap64 (bits BinOp.and IntKind.u64 (IntKind.u64.wrap y / 1099511627776) 255) ≤ 255 := by
  have h0 := (wrap_within .u64 y).1
  have h1 := (wrap_within .u64 y).2
  have h1' : IntKind.u64.wrap y ≤ 18446744073709551615 := h1
  have h0' : 0 ≤ IntKind.u64.wrap y := h0
  obtain ⟨q, hq⟩ := Int.eq_ofNat_of_zero_le (show 0 ≤ IntKind.u64.wrap y / 1099511627776 by omega)
  rw [hq]
  have e := bits_and_u64_nat q 255 (by omega) (by omega)
  have hle : q &&& 255 ≤ 255 := Nat.and_le_right
  have e' : bits BinOp.and IntKind.u64 (q : Int) 255 = ((q &&& 255 : Nat) : Int) := e
  rw [e']
  have hw : wrap64 ((q &&& 255 : Nat) : Int) = ((q &&& 255 : Nat) : Int) := by unfold wrap64; omega
  rw [hw]
  omega
theorem wrap_u64_bd (y : Int) : 0 ≤ IntKind.u64.wrap y ∧ IntKind.u64.wrap y ≤ 18446744073709551615 := ⟨(wrap_within .u64 y).1, (wrap_within .u64 y).2⟩
/-- Two cells of a source turn: it is a source still. -/
theorem SrcAt.set {g : Nat} {w w1 : World} {A : Option Addr} {n c a k : Nat} {s s' : Int} (hg : w.heap[g]? = some (.cells #[.slice A n c, .int .i64 a, .int .u64 s] 64)) (h1 : w1.heap = w.heap) (ha : a ≤ k) (hs : 0 ≤ s' ∧ s' ≤ 18446744073709551615) :
    SrcAt ((w1.setCell ⟨g, 1, none⟩ (.int .i64 ((a : Int) + 1))).setCell ⟨g, 2, none⟩ (.int .u64 s')) g A n c (k + 1) := by
  rw [← h1] at hg
  have e1 := heap_setCell_same w1 g 1 _ _ (.int .i64 ((a : Int) + 1)) hg
  have e2 := heap_setCell_same _ g 2 _ _ (.int .u64 s') e1
  exact ⟨a + 1, s', e2, by omega, hs.1, hs.2⟩

set_option maxRecDepth 100000 in
set_option maxHeartbeats 1000000 in
theorem next_any {B : Nat} (g : Nat) (A : Option Addr) (n c k : Nat) (zs : List Int) (w : World) (h : RowB .u8 B w A n zs) (hs : SrcAt w g A n c k) (hk : k ≤ 1000000000) :
    Calls Try.prog 60 #[.pointer (some ⟨g, 0, none⟩)] w (Drawn 255 g A n c (k + 1) w) := by
  have hle := h.le
  obtain ⟨a, s, hg, ha, hs0, hs1⟩ := hs
  have c0 : w.cell? ⟨g, 0, none⟩ = some (.slice A n c) := cell_of_row w g 0 _ _ (0, 0) hg
  have c1 : w.cell? ⟨g, 1, none⟩ = some (.int .i64 a) := cell_of_row w g 1 _ _ (0, 0) hg
  have c2 : w.cell? ⟨g, 2, none⟩ = some (.int .u64 s) := cell_of_row w g 2 _ _ (0, 0) hg
  have f1 : w.frozen? ⟨g, 1, none⟩ = false := frozen_of_row w g 1 _ _ hg
  have f2 : w.frozen? ⟨g, 2, none⟩ = false := frozen_of_row w g 2 _ _ hg
  have HG := Lib.hid hg
  clear hg
  by_cases hlt : a < n
  · obtain ⟨b, o, z, rfl, hb, _, hc, hw⟩ := h.at_ hlt
    have hz := bounds_u8 hw
    have t1 : (a : Int) + 1 ≤ n := by omega
    go_enter Try.func60, Try.ntmps60
    go_wp2
    go_quiet (fail)
    go_wp2
    go_quiet (fail)
    go_wp2
    go_quiet (fail)
    go_wp2
    go_ret
    exact ⟨_, rfl, by omega, by omega, SrcAt.set HG.out rfl ha (wrap_u64_bd _), ((((Only.refl _ w).drew' _).set _ _).set _ _).drew' _⟩
  · have t1 : (n : Int) < (a : Int) + 1 := by omega
    go_enter Try.func60, Try.ntmps60
    go_wp2
    go_quiet (fail)
    go_wp2
    go_quiet (fail)
    go_wp2
    go_ret
    exact ⟨_, rfl, (mask255 _).1, (mask255 _).2, SrcAt.set HG.out rfl ha (wrap_u64_bd _), ((((Only.refl _ w).drew' _).set _ _).set _ _).drew' _⟩
theorem SrcAt.mono {w : World} {g : Nat} {A : Option Addr} {n c k k' : Nat} (h : SrcAt w g A n c k) (hk : k ≤ k') : SrcAt w g A n c k' := by
  obtain ⟨a, s, h1, h2, h3⟩ := h
  exact ⟨a, s, h1, by omega, h3⟩
theorem SrcAt.keep {w w' : World} {g : Nat} {A : Option Addr} {n c k : Nat} (h : SrcAt w g A n c k) (hw : w'.heap[g]? = w.heap[g]?) : SrcAt w' g A n c k := by
  obtain ⟨a, s, h1, h2, h3⟩ := h
  exact ⟨a, s, hw.trans h1, h2, h3⟩
theorem SrcAt.lt {w : World} {g : Nat} {A : Option Addr} {n c k : Nat} (h : SrcAt w g A n c k) : g < w.heap.size := by
  obtain ⟨a, s, h1, _⟩ := h
  exact (Array.getElem?_eq_some_iff.1 h1).1
theorem RowB.only {k : IntKind} {B g n : Nat} {w w' : World} {A : Option Addr} {zs : List Int} (h : RowB k B w A n zs) (hB : B ≤ g) (ho : Only (some ⟨g, 0, none⟩) w w') : RowB k B w' A n zs :=
  h.below (ho.below fun g' e => by injection e with e; injection e with e; omega)
def Picked (m : Int) (g : Nat) (A : Option Addr) (n c k : Nat) (w : World) (e : Ending) (w' : World) : Prop :=
  ∃ x : Int, e = .returned (.int .i64 x) ∧ 0 ≤ x ∧ (x < m ∨ x = 0) ∧ SrcAt w' g A n c k ∧ Only (some ⟨g, 0, none⟩) w w'
set_option maxRecDepth 100000 in
set_option maxHeartbeats 1000000 in
theorem pick_any {B : Nat} (g : Nat) (A : Option Addr) (n c k : Nat) (m : Int) (zs : List Int) (w : World) (h : RowB .u8 B w A n zs) (hB : B ≤ g) (hs : SrcAt w g A n c k) (hk : k ≤ 100000000) :
    Calls Try.prog 55 #[.pointer (some ⟨g, 0, none⟩), .int .i64 m] w (Picked m g A n c (k + 2) w) := by
  by_cases h1 : m ≤ 1
  · go_enter Try.func55, Try.ntmps55
    go_wp2
    go_ret
    exact ⟨_, rfl, by omega, by omega, hs.mono (by omega), Only.refl _ _⟩
  · by_cases h2 : m ≤ 200
    · go_enter Try.func55, Try.ntmps55
      go_wp2_with fail
      (go_at_call 60; (with_reducible refine (next_any g A n c k zs w h hs (by omega)).mono ?_); rintro e w1 ⟨x, rfl, hx0, hx1, hs1, ho1⟩)
      go_wp2_with fail
      go_ret
      have e1 := Int.emod_nonneg x (show m ≠ 0 by omega)
      have e2 := Int.emod_lt_of_pos x (show 0 < m by omega)
      exact ⟨_, rfl, by omega, by omega, hs1.mono (by omega), ho1⟩
    · go_enter Try.func55, Try.ntmps55
      go_wp2_with fail
      (go_at_call 60; (with_reducible refine (next_any g A n c k zs w h hs (by omega)).mono ?_); rintro e w1 ⟨x, rfl, hx0, hx1, hs1, ho1⟩)
      go_wp2_with fail
      (go_at_call 60; (with_reducible refine (next_any g A n c (k + 1) zs w1 (h.only hB ho1) hs1 (by omega)).mono ?_); rintro e w2 ⟨y, rfl, hy0, hy1, hs2, ho2⟩)
      go_wp2_with fail
      go_ret
      have e1 := Int.emod_nonneg (x * 256 + y) (show m ≠ 0 by omega)
      have e2 := Int.emod_lt_of_pos (x * 256 + y) (show 0 < m by omega)
      exact ⟨_, rfl, by omega, by omega, hs2.mono (by omega), ho1.trans' ho2⟩
end Go.Proofs.Ytlgoopjbjamlmaa
