/-
  A quasigroup with what a function makes of its triples, as the program makes it.
-/
import Derived.Test.YtiokcflomchdcaaDoorMove
import Derived.Test.YtiokcflomchdcaaDoorBlank
import Derived.Test.YtiokcflomchdcaaDoorSwI
namespace Go.Proofs.YtiokcflomchdcaaDoor
open Go.RowKit

theorem grid_self {n : Nat} {t : List (List Int)} (h : tabOk n n t = true) : t = gridOf n n (cellZ t) := by
  apply List.ext_getElem?
  intro x
  by_cases hx : x < n
  · obtain ⟨r, h1, h2, h3⟩ := tabOk_row h hx
    rw [h1, grid_row hx]
    congr 1
    apply List.ext_getElem?
    intro y
    by_cases hy : y < n
    · have hz : r[y]? = some (r[y]'(by omega)) := List.getElem?_eq_getElem (by omega)
      have h4 := h3 y _ hz
      rw [row_cell hy, tab_at h1 hz, hz]
      congr 1
      omega
    · rw [List.getElem?_eq_none (by omega), List.getElem?_eq_none (by rw [row_len]; omega)]
  · rw [List.getElem?_eq_none (by rw [tabOk_len h]; omega), List.getElem?_eq_none (by rw [grid_len]; omega)]



set_option maxRecDepth 100000 in
set_option maxHeartbeats 4000000 in
theorem rearrTurn_any {B : Nat} (A : Option Addr) (n c : Nat) (t : List (List Int)) (p q v F : Nat → Nat → Nat) (cap0 : Value) (w : World) (h : Rows2 B w A n t) (hB : B ≤ w.heap.size) (ht : tabOk n n t = true) (hn : n ≤ 36) (hP : InjP p q n)
    (hF : ∀ x y, x < n → y < n → F (p x y) (q x y) = v x y) (hv : ∀ x y, x < n → y < n → v x y < 1000000)
    (hC : ∀ W, Below w.heap.size w W → ∀ x y, x < n → y < n → Calls Tryd.prog 19 #[.agg #[.int .i64 (x : Nat), .int .i64 (y : Nat), .int .i64 (cellZ t x y : Nat)], cap0] W fun e w' => e = .returned (.agg #[.int .i64 (p x y : Nat), .int .i64 (q x y : Nat), .int .i64 (v x y : Nat)]) ∧ Below W.heap.size W w') :
    Calls Tryd.prog 18 #[.slice A n c, .func (.func 19) #[] #[cap0]] w (MadeG w.heap.size n F w) := by
  have hl := h.len
  have hle := h.le
  have HC := Lib.hid hC
  have HR := Lib.hid h
  have HT := Lib.hid ht
  have HP := Lib.hid hP
  have HF := Lib.hid hF
  have HV := Lib.hid hv
  have CP := copied_any A n c t w h hB (by omega) (fun zs hz => by
    obtain ⟨x, hx, rfl⟩ := List.mem_iff_getElem.1 hz
    obtain ⟨r, h1, h2, _⟩ := tabOk_row ht (show x < n by omega)
    rw [List.getElem?_eq_getElem hx] at h1
    injection h1 with h1
    rw [h1]; omega)
  rw [grid_self ht] at CP
  clear h hC ht hP hF hv
  go_enter Tryd.func18, Tryd.ntmps18
  go_wp2_with fail
  (go_at_call 27; (with_reducible refine (CP).mono ?_); rintro e w1 ⟨A', c', L, rfl, hown, hbel⟩)
  clear CP
  go_wp2_with fail
  go_loopw [6, 7, 8, 9, 10, 15] (fun _ _ _ _ _ i wr => ∃ k : Nat, k ≤ n ∧ i = .int .i64 k ∧ Hid (Own2 w.heap.size wr A' n c' L (gridOf n n (moveP p q F (cellZ t) n k 0))) ∧ Below w.heap.size w wr) (fun _ _ _ _ _ i _ => n - (intOf i).toNat)
  case atStart =>
    refine ⟨0, by omega, rfl, Lib.hid ?_, hbel⟩
    rw [grid_congr (G := cellZ t) (fun x y _ _ => (moveP_start p q F (cellZ t) n x y).symm)]
    exact hown
  case round =>
    obtain ⟨k, hk, rfl, ho, hb⟩ := hrel
    clear hown hbel
    by_cases hlt : k < n
    · obtain ⟨b, o, b2, o2, c2, e1, hbB, hc1, _, hb2B, hrow⟩ := row_lies (HR.out.below (hb.mono hB)) HT.out hlt
      subst e1
      have HROW : Hid (∀ y, y < n → w.cell? ⟨b2, o2 + y, none⟩ = some (.int .i64 (cellZ t k y : Int))) := Lib.hid (fun y hy => (hb.cell (p := ⟨b2, o2 + y, none⟩) (show b2 < w.heap.size by omega)).symm.trans (hrow y hy))
      clear hrow
      go_wp2
      go_loopw [8, 9, 10, 22] (fun _ _ _ j wq => ∃ i : Nat, i ≤ n ∧ j = .int .i64 i ∧ Hid (Own2 w.heap.size wq A' n c' L (gridOf n n (moveP p q F (cellZ t) n k i))) ∧ Below w.heap.size w wq) (fun _ _ _ j _ => n - (intOf j).toNat)
      case atStart => exact ⟨0, by omega, rfl, ho, hb⟩
      case round =>
        obtain ⟨i, hi, rfl, ho2, hb2⟩ := hrel
        obtain ⟨wq, rfl⟩ : ∃ wq, wq = wr := ⟨_, rfl⟩
        by_cases hin : i < n
        · have hz := (hb2.cell (p := ⟨b2, o2 + i, none⟩) (show b2 < w.heap.size by omega)).trans (HROW.out i hin)
          have CC := HC.out wq hb2 k i hlt hin
          have hpq := HP.out.1 k i hlt hin
          have hFv := HF.out k i hlt hin
          have hvb := HV.out k i hlt hin
          have HST := Lib.hid (fun a b => moveP_step (base := cellZ t) hlt hin hFv a b)
          generalize p k i = pp at CC hpq HST hFv
          generalize q k i = qq at CC hpq HST hFv
          generalize v k i = vv at CC hvb HST hFv
          clear hFv
          go_wp2_with fail
          (go_at_call 19; (with_reducible refine (CC).mono ?_); rintro e w3 ⟨rfl, hb3⟩)
          obtain ⟨W4, hW4⟩ : ∃ W4, W4 = w3.alloc (.cells #[.int .i64 (pp : Int), .int .i64 (qq : Int), .int .i64 (vv : Int)] 39) := ⟨_, rfl⟩
          have k4 : Blk W4 w3.heap.size #[.int .i64 (pp : Int), .int .i64 (qq : Int), .int .i64 (vv : Int)] 39 := by rw [hW4]; exact Blk.new _ _ _
          have bel4 : Below wq.heap.size wq W4 := by rw [hW4]; exact hb3.alloc hb3.size _
          have f0 : W4.cell? ⟨w3.heap.size, 0, none⟩ = some (.int .i64 (pp : Int)) := k4.cell 0
          have f1 : W4.cell? ⟨w3.heap.size, 1, none⟩ = some (.int .i64 (qq : Int)) := k4.cell 1
          have f2 : W4.cell? ⟨w3.heap.size, 2, none⟩ = some (.int .i64 (vv : Int)) := k4.cell 2
          have ho4 := ho2.out.below bel4
          obtain ⟨g0, g, cr, rfl, _, hd1, hd2, hfr, hL, hBg, hgs, _⟩ := ho4.cells (grid_row hpq.1) (row_cell hpq.2)
          rw [row_len] at hd1 hL
          have HOWN : Hid (Own2 w.heap.size (W4.setCell ⟨g, qq, none⟩ (.int .i64 (vv : Int))) (some ⟨g0, 0, none⟩) n c' L (gridOf n n (moveP p q F (cellZ t) n k (i + 1)))) := Lib.hid (by
            have h4 := ho4.store (x := qq) (z := ((vv : Nat) : Int)) (grid_row hpq.1) (by rw [row_len]; exact hL) (WalkArith.wf_i64 (by omega))
            rw [grid_set (G := moveP p q F (cellZ t) n k (i + 1)) (v := vv) (fun a b _ _ => HST.out a b)] at h4
            exact h4)
          have HBB : Hid (Below w.heap.size w (W4.setCell ⟨g, qq, none⟩ (.int .i64 (vv : Int)))) := Lib.hid ((hb2.trans (bel4.mono hb2.size)).setCell hBg _)
          clear hb3 k4 bel4 ho4 hL
          go_wp2_with fail
          rw [← hW4]
          have HW4 := Lib.hid hW4
          clear hW4
          go_region
          go_wp2
          go_roundw
          case rel => exact ⟨i + 1, by omega, by go_num, Lib.hid (HOWN.out.keep fun _ _ _ => rfl), HBB.out.drew⟩
          case measure => simp [intOf]; omega
        · obtain rfl : n = i := by omega
          go_wp2
          go_roundw
          case rel => exact ⟨k + 1, by omega, by go_num, Lib.hid (by
            have h4 := ho2.out
            rw [grid_congr (G := moveP p q F (cellZ t) n (k + 1) 0) (fun a b _ _ => moveP_row p q F (cellZ t) n k a b)] at h4
            exact h4), hb2⟩
          case measure => simp [intOf]; omega
    · obtain rfl : n = k := by omega
      have h4 := ho.out
      rw [grid_congr (G := F) (fun a b ha hb => moveP_end HP.out ha hb)] at h4
      go_wp2
      go_ret
      exact ⟨A', c', L, rfl, h4, hb⟩
end Go.Proofs.YtiokcflomchdcaaDoor
