/-
  The quasigroup with zeros in its diagonal: where the zeros lie, and the model's way.
-/
import Derived.Test.YtiokcflomchdcabRearr
import Derived.Test.YtiokcflomchdcabGot
import Derived.RegionTactic
namespace Go.Proofs.Ytiokcflomchdcab
open Go.RowKit

/-- The first column with 0 in the row x. -/
def zc (t : List (List Int)) (n x : Nat) : Nat := ((List.range n).find? fun y => cellZ t x y == 0).getD 0
theorem isQ_fresh_all {t : List (List Int)} {n : Nat} (h : isQ t = true) (hl : t.length = n) {x y : Nat} (hx : x < n) (hy : y < n) : freshR t x y = true ∧ freshC t x y = true := by
  unfold isQ at h
  simp only [Bool.and_eq_true] at h
  exact (freshAll_iff.1 h.2.2) x y (by omega) (by omega)
theorem isQ_row_inj {t : List (List Int)} {n : Nat} (h : isQ t = true) (hl : t.length = n) {x y y' : Nat} (hx : x < n) (hy : y < n) (hy' : y' < n) (e : cellZ t x y = cellZ t x y') : y = y' := by
  have h1 := of_decide_eq_true (isQ_fresh_all h hl hx hy).1
  have h2 := of_decide_eq_true (isQ_fresh_all h hl hx hy').1
  rcases Nat.lt_trichotomy y y' with h3 | h3 | h3
  · exact absurd e (h2 y h3)
  · exact h3
  · exact absurd e.symm (h1 y' h3)
theorem isQ_col_inj {t : List (List Int)} {n : Nat} (h : isQ t = true) (hl : t.length = n) {x x' y : Nat} (hx : x < n) (hx' : x' < n) (hy : y < n) (e : cellZ t x y = cellZ t x' y) : x = x' := by
  have h1 := of_decide_eq_true (isQ_fresh_all h hl hx hy).2
  have h2 := of_decide_eq_true (isQ_fresh_all h hl hx' hy).2
  rcases Nat.lt_trichotomy x x' with h3 | h3 | h3
  · exact absurd e (h2 x h3)
  · exact h3
  · exact absurd e.symm (h1 x' h3)
theorem zc_spec {t : List (List Int)} {n : Nat} (h : isQ t = true) (hl : t.length = n) {x : Nat} (hx : x < n) : zc t n x < n ∧ cellZ t x (zc t n x) = 0 ∧ ∀ y, y < zc t n x → cellZ t x y ≠ 0 := by
  have hp := isQ_parts h hl
  have hex : ∃ y, y < n ∧ cellZ t x y = 0 := by
    refine Classical.byContradiction fun hn => ?_
    have hf : freshAll t = true := by
      unfold isQ at h
      simp only [Bool.and_eq_true] at h
      exact h.2.2
    have h1 := ((fresh_masks hp.2).1 hf x hx).1
    have h2 : (rowM t x n).testBit 0 = false := xmF_none n (fun y hy e => hn ⟨y, hy, e⟩)
    rw [h1, Nat.testBit_two_pow_sub_one] at h2
    simp at h2
    omega
  obtain ⟨y0, hy0, he0⟩ := hex
  unfold zc
  cases hf : (List.range n).find? fun y => cellZ t x y == 0 with
  | none =>
    have := List.find?_eq_none.1 hf y0 (List.mem_range.2 hy0)
    simp [he0] at this
  | some z =>
    have h1 := List.find?_some hf
    have h2 := List.mem_of_find?_eq_some hf
    refine ⟨List.mem_range.1 h2, by simpa using h1, fun y hy e => ?_⟩
    rw [List.find?_range_eq_some] at hf
    have := hf.2.2 y hy
    simp [e] at this
theorem zc_inj {t : List (List Int)} {n : Nat} (h : isQ t = true) (hl : t.length = n) {x x' : Nat} (hx : x < n) (hx' : x' < n) (e : zc t n x = zc t n x') : x = x' := by
  have h1 := zc_spec h hl hx
  have h2 := zc_spec h hl hx'
  rw [← e] at h2
  exact isQ_col_inj h hl hx hx' h1.1 (h1.2.1.trans h2.2.1.symm)
def zeroF (t : List (List Int)) (n a b : Nat) : Nat := cellZ t a (zc t n b)
theorem swap_inj (n : Nat) : InjP (fun _ y => y) (fun x _ => x) n := ⟨fun _ _ hx hy => ⟨hy, hx⟩, fun _ _ _ _ _ _ _ _ e1 e2 => ⟨e2, e1⟩⟩

set_option maxRecDepth 100000 in
set_option maxHeartbeats 8000000 in
theorem specZero_any {B : Nat} (A : Option Addr) (n c : Nat) (t : List (List Int)) (w : World) (h : Rows2 B w A n t) (hB : B ≤ w.heap.size) :
    Calls Try.prog 14 #[.slice A n c] w (GotT (optB (isQ t) (gridOf n n (zeroF t n))) w) := by
  have hl := h.len
  have hle := h.le
  have CQ := l04Is_any A n c t w h hB
  have HFF : Hid (isQ t = true → (tabOk n n t = true ∧ (∀ x, x < n → zc t n x < n ∧ cellZ t x (zc t n x) = 0 ∧ ∀ y, y < zc t n x → cellZ t x y ≠ 0) ∧ 1 ≤ n ∧ n ≤ 36)) := Lib.hid (fun hq => ⟨(isQ_parts hq hl).2, fun x hx => zc_spec hq hl hx, (isQ_parts hq hl).1⟩)
  obtain ⟨o, ho⟩ : ∃ o, o = isQ t := ⟨_, rfl⟩
  rw [← ho] at HFF CQ ⊢
  clear ho
  have HR := Lib.hid h
  clear h
  rcases o with _ | _
  · go_enter Try.func14, Try.ntmps14
    go_wp2_with (go_at_call 42; (with_reducible refine (CQ).mono ?_); rintro e w' ⟨rfl, hb⟩)
    go_ret2
    exact gotT_none hb
  · obtain ⟨ht, hz, hn1, hn36⟩ := HFF.out rfl
    have HT := Lib.hid ht
    have HZ := Lib.hid hz
    have CB : ∀ W, Calls Try.prog 43 #[.int .i64 n] W (MadeG W.heap.size n (fun _ _ => 0) W) := fun W => l04Blank_any n W hn36
    clear ht hz HFF
    go_enter Try.func14, Try.ntmps14
    go_wp2_with fail
    (go_at_call 42; (with_reducible refine (CQ).mono ?_); rintro e w1 ⟨rfl, hb⟩)
    go_wp2_with fail
    (go_at_call 43; (with_reducible refine (CB _).mono ?_); rintro e w2 ⟨A', c', L, rfl, hown, hbel⟩)
    have hbw : Below w.heap.size w w2 := hb.trans (hbel.mono hb.size)
    have hown := hown.lower hb.size
    clear hb hbel CQ CB
    go_wp2_with fail
    go_loopw [5, 6, 7] (fun x _ _ wr => ∃ k : Nat, k ≤ n ∧ x = .int .i64 k ∧ Hid (Own2 w.heap.size wr A' n c' L (gridOf n n (moveP (fun _ y => y) (fun x _ => x) (zeroF t n) (fun _ _ => 0) n k 0))) ∧ Below w.heap.size w wr) (fun x _ _ _ => n - (intOf x).toNat)
    case atStart =>
      refine ⟨0, by omega, rfl, Lib.hid ?_, hbw⟩
      rw [grid_congr (G := fun _ _ => 0) (fun x y _ _ => (moveP_start _ _ (zeroF t n) (fun _ _ => 0) n x y).symm)]
      exact hown
    case round =>
      obtain ⟨k, hk, rfl, ho, hb1⟩ := hrel
      clear hown hbw
      by_cases hlt : k < n
      · obtain ⟨hz1, hz2, hz3⟩ := HZ.out k hlt
        have HFe : Hid (∀ a, zeroF t n a k = cellZ t a (zc t n k)) := Lib.hid (fun a => rfl)
        generalize zc t n k = z0 at hz1 hz2 hz3 HFe
        have HZ3 := Lib.hid hz3
        clear hz3
        obtain ⟨b, o, b2, o2, c2, e1, hbB, hc1, _, hb2B, hrow⟩ := row_lies (HR.out.below (hb1.mono hB)) HT.out hlt
        subst e1
        have HROW := Lib.hid hrow
        clear hrow
        go_wp2
        go_loop [6] (fun f => ∃ j : Nat, j ≤ z0 ∧ f = .int .i64 j) (fun f => z0 - (intOf f).toNat)
        case atStart => exact ⟨0, by omega, rfl⟩
        case round =>
          obtain ⟨j, hj, rfl⟩ := hrel
          have hcj := HROW.out j (by omega)
          by_cases hjz : j < z0
          · have hne := HZ3.out j hjz
            have g1 : (((cellZ t k j : Nat) : Int) != 0) = true := by simp; omega
            generalize cellZ t k j = cc at hcj g1 hne
            go_wp2
            go_round
            case rel => exact ⟨j + 1, by omega, by go_num⟩
            case measure => simp [intOf]; omega
          · obtain rfl : j = z0 := by omega
            rw [hz2] at hcj
            go_wp2
            go_loopw [7] (fun y wq => ∃ i : Nat, i ≤ n ∧ y = .int .i64 i ∧ Hid (Own2 w.heap.size wq A' n c' L (gridOf n n (moveP (fun _ y => y) (fun x _ => x) (zeroF t n) (fun _ _ => 0) n k i))) ∧ Below w.heap.size w wq) (fun y _ => n - (intOf y).toNat)
            case atStart => exact ⟨0, by omega, rfl, ho, hb1⟩
            case round =>
              obtain ⟨i, hi, rfl, ho2, hb2⟩ := hrel
              obtain ⟨wq, rfl⟩ : ∃ wq, wq = wr := ⟨_, rfl⟩
              by_cases hin : i < n
              · have hzl := (tabOk_cell HT.out hin hz1).1
                obtain ⟨b', o', b3, o3, c3, e2, _, ha1, _, _, ha2⟩ := cell_lies (HR.out.below (hb2.mono hB)) HT.out hin hz1
                injection e2 with e2
                injection e2 with e2 e3 _
                subst e2; subst e3
                have hFv : zeroF t n i k = cellZ t i j := HFe.out i
                have HST := Lib.hid (fun a b => moveP_step (p := fun _ y => y) (q := fun x _ => x) (base := fun _ _ => 0) hlt hin hFv a b)
                generalize cellZ t i j = vv at ha2 hzl hFv HST
                clear hFv
                obtain ⟨g0, g, cr, rfl, _, hd1, hd2, hfr, hL, hBg, hgs, _⟩ := ho2.out.cells (grid_row hin) (row_cell hlt)
                rw [row_len] at hd1 hL
                have HOWN : Hid (Own2 w.heap.size (wq.setCell ⟨g, k, none⟩ (.int .i64 (vv : Int))) (some ⟨g0, 0, none⟩) n c' L (gridOf n n (moveP (fun _ y => y) (fun x _ => x) (zeroF t n) (fun _ _ => 0) n k (i + 1)))) := Lib.hid (by
                  have h4 := ho2.out.store (x := k) (z := ((vv : Nat) : Int)) (grid_row hin) (by rw [row_len]; exact hL) (WalkArith.wf_i64 (by omega))
                  rw [grid_set (G := moveP (fun _ y => y) (fun x _ => x) (zeroF t n) (fun _ _ => 0) n k (i + 1)) (v := vv) (fun a b _ _ => HST.out a b)] at h4
                  exact h4)
                have HBB : Hid (Below w.heap.size w (wq.setCell ⟨g, k, none⟩ (.int .i64 (vv : Int)))) := Lib.hid (hb2.setCell hBg _)
                clear hL
                go_wp2
                go_region
                go_wp2
                go_roundw
                case rel => exact ⟨i + 1, by omega, by go_num, Lib.hid (HOWN.out.keep fun _ _ _ => rfl), HBB.out.drew⟩
                case measure => simp [intOf]; omega
              · obtain rfl : n = i := by omega
                go_wp2
                go_roundw
                case rel => exact ⟨k + 1, by omega, by go_num, Lib.hid (by
                  have h4 := ho2.out
                  rw [grid_congr (G := moveP (fun _ y => y) (fun x _ => x) (zeroF t n) (fun _ _ => 0) n (k + 1) 0) (fun a b _ _ => moveP_row _ _ (zeroF t n) (fun _ _ => 0) n k a b)] at h4
                  exact h4), hb2⟩
                case measure => simp [intOf]; omega
      · obtain rfl : n = k := by omega
        have h4 := ho.out
        rw [grid_congr (G := zeroF t n) (fun a b ha hb => moveP_end (swap_inj n) ha hb)] at h4
        go_wp2
        go_ret2
        exact gotT_some h4 hb1
end Go.Proofs.Ytiokcflomchdcab
