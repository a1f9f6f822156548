/-
  Turned quasigroups: which cells go where, and the model's way.
-/
import Derived.Test.YtiokcflomchdcaaDoorRearr
import Derived.Test.YtiokcflomchdcaaDoorGot
import Derived.Test.YtiokcflomchdcaaDoorQS
namespace Go.Proofs.YtiokcflomchdcaaDoor
open Go.RowKit

theorem isQ_fresh_allT {t : List (List Int)} {n : Nat} (h : isQ t = true) (hl : t.length = n) {x y : Nat} (hx : x < n) (hy : y < n) : freshR t x y = true ∧ freshC t x y = true := by
  unfold isQ at h
  simp only [Bool.and_eq_true] at h
  exact (freshAll_iff.1 h.2.2) x y (by omega) (by omega)
theorem isQ_row_injT {t : List (List Int)} {n : Nat} (h : isQ t = true) (hl : t.length = n) {x y y' : Nat} (hx : x < n) (hy : y < n) (hy' : y' < n) (e : cellZ t x y = cellZ t x y') : y = y' := by
  have h1 := of_decide_eq_true (isQ_fresh_allT h hl hx hy).1
  have h2 := of_decide_eq_true (isQ_fresh_allT h hl hx hy').1
  rcases Nat.lt_trichotomy y y' with h3 | h3 | h3
  · exact absurd e (h2 y h3)
  · exact h3
  · exact absurd e.symm (h1 y' h3)
theorem isQ_col_injT {t : List (List Int)} {n : Nat} (h : isQ t = true) (hl : t.length = n) {x x' y : Nat} (hx : x < n) (hx' : x' < n) (hy : y < n) (e : cellZ t x y = cellZ t x' y) : x = x' := by
  have h1 := of_decide_eq_true (isQ_fresh_allT h hl hx hy).2
  have h2 := of_decide_eq_true (isQ_fresh_allT h hl hx' hy).2
  rcases Nat.lt_trichotomy x x' with h3 | h3 | h3
  · exact absurd e (h2 x h3)
  · exact h3
  · exact absurd e.symm (h1 x' h3)
theorem turn_inj0 {t : List (List Int)} {n : Nat} (h : isQ t = true) (hl : t.length = n) : InjP (fun _ y => y) (fun x _ => x) n := by
  have hp := (isQ_parts h hl).2
  refine ⟨fun x y hx hy => ⟨hy, hx⟩, fun x y x' y' hx hy hx' hy' e1 e2 => ?_⟩
  have _ := hp
  have _ := hx'
  have _ := hy'
  dsimp only at e1 e2
  exact ⟨e2, e1⟩
theorem turn_inj1 {t : List (List Int)} {n : Nat} (h : isQ t = true) (hl : t.length = n) : InjP (fun x _ => x) (cellZ t) n := by
  have hp := (isQ_parts h hl).2
  refine ⟨fun x y hx hy => ⟨hx, (tabOk_cell hp hx hy).1⟩, fun x y x' y' hx hy hx' hy' e1 e2 => ?_⟩
  have _ := hp
  have _ := hx'
  have _ := hy'
  dsimp only at e1 e2
  exact ⟨e1, by subst e1; exact isQ_row_injT h hl hx hy hy' e2⟩
theorem turn_inj2 {t : List (List Int)} {n : Nat} (h : isQ t = true) (hl : t.length = n) : InjP (cellZ t) (fun _ y => y) n := by
  have hp := (isQ_parts h hl).2
  refine ⟨fun x y hx hy => ⟨(tabOk_cell hp hx hy).1, hy⟩, fun x y x' y' hx hy hx' hy' e1 e2 => ?_⟩
  have _ := hp
  have _ := hx'
  have _ := hy'
  dsimp only at e1 e2
  exact ⟨by subst e2; exact isQ_col_injT h hl hx hx' hy e1, e2⟩
theorem turn_inj3 {t : List (List Int)} {n : Nat} (h : isQ t = true) (hl : t.length = n) : InjP (fun _ y => y) (cellZ t) n := by
  have hp := (isQ_parts h hl).2
  refine ⟨fun x y hx hy => ⟨hy, (tabOk_cell hp hx hy).1⟩, fun x y x' y' hx hy hx' hy' e1 e2 => ?_⟩
  have _ := hp
  have _ := hx'
  have _ := hy'
  dsimp only at e1 e2
  exact ⟨by subst e1; exact isQ_col_injT h hl hx hx' hy e2, e1⟩
theorem turn_inj4 {t : List (List Int)} {n : Nat} (h : isQ t = true) (hl : t.length = n) : InjP (cellZ t) (fun x _ => x) n := by
  have hp := (isQ_parts h hl).2
  refine ⟨fun x y hx hy => ⟨(tabOk_cell hp hx hy).1, hx⟩, fun x y x' y' hx hy hx' hy' e1 e2 => ?_⟩
  have _ := hp
  have _ := hx'
  have _ := hy'
  dsimp only at e1 e2
  exact ⟨e2, by subst e2; exact isQ_row_injT h hl hx hy hy' e1⟩

set_option maxRecDepth 100000 in
set_option maxHeartbeats 8000000 in
theorem l04Turn0_any {B : Nat} (A : Option Addr) (n c : Nat) (t : List (List Int)) (F : Nat → Nat → Nat) (w : World) (h : Rows2 B w A n t) (hB : B ≤ w.heap.size) (ht : tabOk n n t = true) (hn : n ≤ 36) (hP : InjP (fun _ y => y) (fun x _ => x) n)
    (hF : ∀ x y, x < n → y < n → F ((fun _ y => y) x y) ((fun x _ => x) x y) = (cellZ t) x y) :
    Calls Tryd.prog 14 #[.slice A n c, .int .i64 0] w (MadeG w.heap.size n F w) := by
  have hl := h.len
  have hle := h.le
  have HR := Lib.hid h
  have HT := Lib.hid ht
  have HF := Lib.hid hF
  have HP := Lib.hid hP
  have CB := l04Blank_any n w hn
  clear h ht hF hP
  go_enter Tryd.func14, Tryd.ntmps14
  go_wp2_with (go_at_call 23; (with_reducible refine (CB).mono ?_); rintro e w1 ⟨A', c', L, rfl, hown, hbel⟩)
  clear CB
  go_loopw [6, 7, 8] (fun i _ _ wr => ∃ k : Nat, k ≤ n ∧ i = .int .i64 k ∧ Hid (Own2 w.heap.size wr A' n c' L (gridOf n n (moveP (fun _ y => y) (fun x _ => x) F (fun _ _ => 0) n k 0))) ∧ Below w.heap.size w wr) (fun i _ _ _ => n - (intOf i).toNat)
  case atStart =>
    refine ⟨0, by omega, rfl, Lib.hid ?_, hbel⟩
    rw [grid_congr (G := fun _ _ => 0) (fun x y _ _ => (moveP_start _ _ F (fun _ _ => 0) n x y).symm)]
    exact hown
  case round =>
    obtain ⟨k, hk, rfl, ho, hb⟩ := hrel
    clear hown hbel
    by_cases hlt : k < n
    · go_wp2
      go_loopw [7, 8] (fun j _ wq => ∃ i : Nat, i ≤ n ∧ j = .int .i64 i ∧ Hid (Own2 w.heap.size wq A' n c' L (gridOf n n (moveP (fun _ y => y) (fun x _ => x) F (fun _ _ => 0) n k i))) ∧ Below w.heap.size w wq) (fun j _ _ => n - (intOf j).toNat)
      case atStart => exact ⟨0, by omega, rfl, ho, hb⟩
      case round =>
        obtain ⟨i, hi, rfl, ho2, hb2⟩ := hrel
        obtain ⟨wq, rfl⟩ : ∃ wq, wq = wr := ⟨_, rfl⟩
        by_cases hin : i < n
        · have hzl := (tabOk_cell HT.out hlt hin).1
          obtain ⟨b, o, b2, o2, c2', e1, _, ha1, _, _, ha2⟩ := cell_lies (HR.out.below (hb2.mono hB)) HT.out hlt hin
          subst e1
          have hp : (fun _ y => y) k i < n := (HP.out.1 k i hlt hin).1
          have hq : (fun x _ => x) k i < n := (HP.out.1 k i hlt hin).2
          have hFv := HF.out k i hlt hin
          have HST : Hid (∀ a b, moveP (fun _ y => y) (fun x _ => x) F (fun _ _ => 0) n k (i + 1) a b = if a = i ∧ b = k then (cellZ t k i) else moveP (fun _ y => y) (fun x _ => x) F (fun _ _ => 0) n k i a b) := Lib.hid (fun a b => moveP_step (p := fun _ y => y) (q := fun x _ => x) (base := fun _ _ => 0) hlt hin hFv a b)
          obtain ⟨g0, g, cr, rfl, _, hd1, hd2, hfr, hL, hBg, hgs, _⟩ := ho2.out.cells (grid_row hp) (row_cell hq)
          rw [row_len] at hd1 hL
          dsimp only at hp hq hd1 hd2 hfr hL
          have HOWN : Hid (Own2 w.heap.size (wq.setCell ⟨g, k, none⟩ (.int .i64 (((cellZ t k i) : Nat) : Int))) (some ⟨g0, 0, none⟩) n c' L (gridOf n n (moveP (fun _ y => y) (fun x _ => x) F (fun _ _ => 0) n k (i + 1)))) := Lib.hid (by
            have h4 := ho2.out.store (x := k) (z := (((cellZ t k i) : Nat) : Int)) (grid_row hp) (by rw [row_len]; exact hL) (WalkArith.wf_i64 (by omega))
            rw [grid_set (G := moveP (fun _ y => y) (fun x _ => x) F (fun _ _ => 0) n k (i + 1)) (v := (cellZ t k i)) (fun a b _ _ => HST.out a b)] at h4
            exact h4)
          have HBB : Hid (Below w.heap.size w (wq.setCell ⟨g, k, none⟩ (.int .i64 (((cellZ t k i) : Nat) : Int)))) := Lib.hid (hb2.setCell hBg _)
          clear hL hFv HST
          generalize cellZ t k i = zz at *
          go_wp2
          go_roundw
          case rel => exact ⟨i + 1, by omega, by go_num, Lib.hid (HOWN.out.keep fun _ _ _ => rfl), HBB.out⟩
          case measure => simp [intOf]; omega
        · obtain rfl : n = i := by omega
          go_wp2
          go_roundw
          case rel => exact ⟨k + 1, by omega, by go_num, Lib.hid (by
            have h4 := ho2.out
            rw [grid_congr (G := moveP (fun _ y => y) (fun x _ => x) F (fun _ _ => 0) n (k + 1) 0) (fun a b _ _ => moveP_row _ _ F (fun _ _ => 0) n k a b)] at h4
            exact h4), hb2⟩
          case measure => simp [intOf]; omega
    · obtain rfl : n = k := by omega
      have h4 := ho.out
      rw [grid_congr (G := F) (fun a b ha hb => moveP_end HP.out ha hb)] at h4
      go_wp2
      go_ret
      exact ⟨A', c', L, rfl, h4, hb⟩

set_option maxRecDepth 100000 in
set_option maxHeartbeats 8000000 in
theorem l04Turn1_any {B : Nat} (A : Option Addr) (n c : Nat) (t : List (List Int)) (F : Nat → Nat → Nat) (w : World) (h : Rows2 B w A n t) (hB : B ≤ w.heap.size) (ht : tabOk n n t = true) (hn : n ≤ 36) (hP : InjP (fun x _ => x) (cellZ t) n)
    (hF : ∀ x y, x < n → y < n → F ((fun x _ => x) x y) ((cellZ t) x y) = (fun _ y => y) x y) :
    Calls Tryd.prog 14 #[.slice A n c, .int .i64 1] w (MadeG w.heap.size n F w) := by
  have hl := h.len
  have hle := h.le
  have HR := Lib.hid h
  have HT := Lib.hid ht
  have HF := Lib.hid hF
  have HP := Lib.hid hP
  have CB := l04Blank_any n w hn
  clear h ht hF hP
  go_enter Tryd.func14, Tryd.ntmps14
  go_wp2_with (go_at_call 23; (with_reducible refine (CB).mono ?_); rintro e w1 ⟨A', c', L, rfl, hown, hbel⟩)
  clear CB
  go_loopw [6, 7, 8] (fun i _ _ wr => ∃ k : Nat, k ≤ n ∧ i = .int .i64 k ∧ Hid (Own2 w.heap.size wr A' n c' L (gridOf n n (moveP (fun x _ => x) (cellZ t) F (fun _ _ => 0) n k 0))) ∧ Below w.heap.size w wr) (fun i _ _ _ => n - (intOf i).toNat)
  case atStart =>
    refine ⟨0, by omega, rfl, Lib.hid ?_, hbel⟩
    rw [grid_congr (G := fun _ _ => 0) (fun x y _ _ => (moveP_start _ _ F (fun _ _ => 0) n x y).symm)]
    exact hown
  case round =>
    obtain ⟨k, hk, rfl, ho, hb⟩ := hrel
    clear hown hbel
    by_cases hlt : k < n
    · go_wp2
      go_loopw [7, 8] (fun j _ wq => ∃ i : Nat, i ≤ n ∧ j = .int .i64 i ∧ Hid (Own2 w.heap.size wq A' n c' L (gridOf n n (moveP (fun x _ => x) (cellZ t) F (fun _ _ => 0) n k i))) ∧ Below w.heap.size w wq) (fun j _ _ => n - (intOf j).toNat)
      case atStart => exact ⟨0, by omega, rfl, ho, hb⟩
      case round =>
        obtain ⟨i, hi, rfl, ho2, hb2⟩ := hrel
        obtain ⟨wq, rfl⟩ : ∃ wq, wq = wr := ⟨_, rfl⟩
        by_cases hin : i < n
        · have hzl := (tabOk_cell HT.out hlt hin).1
          obtain ⟨b, o, b2, o2, c2', e1, _, ha1, _, _, ha2⟩ := cell_lies (HR.out.below (hb2.mono hB)) HT.out hlt hin
          subst e1
          have hp : (fun x _ => x) k i < n := (HP.out.1 k i hlt hin).1
          have hq : (cellZ t) k i < n := (HP.out.1 k i hlt hin).2
          have hFv := HF.out k i hlt hin
          have HST : Hid (∀ a b, moveP (fun x _ => x) (cellZ t) F (fun _ _ => 0) n k (i + 1) a b = if a = k ∧ b = (cellZ t k i) then i else moveP (fun x _ => x) (cellZ t) F (fun _ _ => 0) n k i a b) := Lib.hid (fun a b => moveP_step (p := fun x _ => x) (q := cellZ t) (base := fun _ _ => 0) hlt hin hFv a b)
          obtain ⟨g0, g, cr, rfl, _, hd1, hd2, hfr, hL, hBg, hgs, _⟩ := ho2.out.cells (grid_row hp) (row_cell hq)
          rw [row_len] at hd1 hL
          dsimp only at hp hq hd1 hd2 hfr hL
          have HOWN : Hid (Own2 w.heap.size (wq.setCell ⟨g, (cellZ t k i), none⟩ (.int .i64 ((i : Nat) : Int))) (some ⟨g0, 0, none⟩) n c' L (gridOf n n (moveP (fun x _ => x) (cellZ t) F (fun _ _ => 0) n k (i + 1)))) := Lib.hid (by
            have h4 := ho2.out.store (x := (cellZ t k i)) (z := ((i : Nat) : Int)) (grid_row hp) (by rw [row_len]; exact hL) (WalkArith.wf_i64 (by omega))
            rw [grid_set (G := moveP (fun x _ => x) (cellZ t) F (fun _ _ => 0) n k (i + 1)) (v := i) (fun a b _ _ => HST.out a b)] at h4
            exact h4)
          have HBB : Hid (Below w.heap.size w (wq.setCell ⟨g, (cellZ t k i), none⟩ (.int .i64 ((i : Nat) : Int)))) := Lib.hid (hb2.setCell hBg _)
          clear hL hFv HST
          generalize cellZ t k i = zz at *
          go_wp2
          go_roundw
          case rel => exact ⟨i + 1, by omega, by go_num, Lib.hid (HOWN.out.keep fun _ _ _ => rfl), HBB.out⟩
          case measure => simp [intOf]; omega
        · obtain rfl : n = i := by omega
          go_wp2
          go_roundw
          case rel => exact ⟨k + 1, by omega, by go_num, Lib.hid (by
            have h4 := ho2.out
            rw [grid_congr (G := moveP (fun x _ => x) (cellZ t) F (fun _ _ => 0) n (k + 1) 0) (fun a b _ _ => moveP_row _ _ F (fun _ _ => 0) n k a b)] at h4
            exact h4), hb2⟩
          case measure => simp [intOf]; omega
    · obtain rfl : n = k := by omega
      have h4 := ho.out
      rw [grid_congr (G := F) (fun a b ha hb => moveP_end HP.out ha hb)] at h4
      go_wp2
      go_ret
      exact ⟨A', c', L, rfl, h4, hb⟩

set_option maxRecDepth 100000 in
set_option maxHeartbeats 8000000 in
theorem l04Turn2_any {B : Nat} (A : Option Addr) (n c : Nat) (t : List (List Int)) (F : Nat → Nat → Nat) (w : World) (h : Rows2 B w A n t) (hB : B ≤ w.heap.size) (ht : tabOk n n t = true) (hn : n ≤ 36) (hP : InjP (cellZ t) (fun _ y => y) n)
    (hF : ∀ x y, x < n → y < n → F ((cellZ t) x y) ((fun _ y => y) x y) = (fun x _ => x) x y) :
    Calls Tryd.prog 14 #[.slice A n c, .int .i64 2] w (MadeG w.heap.size n F w) := by
  have hl := h.len
  have hle := h.le
  have HR := Lib.hid h
  have HT := Lib.hid ht
  have HF := Lib.hid hF
  have HP := Lib.hid hP
  have CB := l04Blank_any n w hn
  clear h ht hF hP
  go_enter Tryd.func14, Tryd.ntmps14
  go_wp2_with (go_at_call 23; (with_reducible refine (CB).mono ?_); rintro e w1 ⟨A', c', L, rfl, hown, hbel⟩)
  clear CB
  go_loopw [6, 7, 8] (fun i _ _ wr => ∃ k : Nat, k ≤ n ∧ i = .int .i64 k ∧ Hid (Own2 w.heap.size wr A' n c' L (gridOf n n (moveP (cellZ t) (fun _ y => y) F (fun _ _ => 0) n k 0))) ∧ Below w.heap.size w wr) (fun i _ _ _ => n - (intOf i).toNat)
  case atStart =>
    refine ⟨0, by omega, rfl, Lib.hid ?_, hbel⟩
    rw [grid_congr (G := fun _ _ => 0) (fun x y _ _ => (moveP_start _ _ F (fun _ _ => 0) n x y).symm)]
    exact hown
  case round =>
    obtain ⟨k, hk, rfl, ho, hb⟩ := hrel
    clear hown hbel
    by_cases hlt : k < n
    · go_wp2
      go_loopw [7, 8] (fun j _ wq => ∃ i : Nat, i ≤ n ∧ j = .int .i64 i ∧ Hid (Own2 w.heap.size wq A' n c' L (gridOf n n (moveP (cellZ t) (fun _ y => y) F (fun _ _ => 0) n k i))) ∧ Below w.heap.size w wq) (fun j _ _ => n - (intOf j).toNat)
      case atStart => exact ⟨0, by omega, rfl, ho, hb⟩
      case round =>
        obtain ⟨i, hi, rfl, ho2, hb2⟩ := hrel
        obtain ⟨wq, rfl⟩ : ∃ wq, wq = wr := ⟨_, rfl⟩
        by_cases hin : i < n
        · have hzl := (tabOk_cell HT.out hlt hin).1
          obtain ⟨b, o, b2, o2, c2', e1, _, ha1, _, _, ha2⟩ := cell_lies (HR.out.below (hb2.mono hB)) HT.out hlt hin
          subst e1
          have hp : (cellZ t) k i < n := (HP.out.1 k i hlt hin).1
          have hq : (fun _ y => y) k i < n := (HP.out.1 k i hlt hin).2
          have hFv := HF.out k i hlt hin
          have HST : Hid (∀ a b, moveP (cellZ t) (fun _ y => y) F (fun _ _ => 0) n k (i + 1) a b = if a = (cellZ t k i) ∧ b = i then k else moveP (cellZ t) (fun _ y => y) F (fun _ _ => 0) n k i a b) := Lib.hid (fun a b => moveP_step (p := cellZ t) (q := fun _ y => y) (base := fun _ _ => 0) hlt hin hFv a b)
          obtain ⟨g0, g, cr, rfl, _, hd1, hd2, hfr, hL, hBg, hgs, _⟩ := ho2.out.cells (grid_row hp) (row_cell hq)
          rw [row_len] at hd1 hL
          dsimp only at hp hq hd1 hd2 hfr hL
          have HOWN : Hid (Own2 w.heap.size (wq.setCell ⟨g, i, none⟩ (.int .i64 ((k : Nat) : Int))) (some ⟨g0, 0, none⟩) n c' L (gridOf n n (moveP (cellZ t) (fun _ y => y) F (fun _ _ => 0) n k (i + 1)))) := Lib.hid (by
            have h4 := ho2.out.store (x := i) (z := ((k : Nat) : Int)) (grid_row hp) (by rw [row_len]; exact hL) (WalkArith.wf_i64 (by omega))
            rw [grid_set (G := moveP (cellZ t) (fun _ y => y) F (fun _ _ => 0) n k (i + 1)) (v := k) (fun a b _ _ => HST.out a b)] at h4
            exact h4)
          have HBB : Hid (Below w.heap.size w (wq.setCell ⟨g, i, none⟩ (.int .i64 ((k : Nat) : Int)))) := Lib.hid (hb2.setCell hBg _)
          clear hL hFv HST
          generalize cellZ t k i = zz at *
          go_wp2
          go_roundw
          case rel => exact ⟨i + 1, by omega, by go_num, Lib.hid (HOWN.out.keep fun _ _ _ => rfl), HBB.out⟩
          case measure => simp [intOf]; omega
        · obtain rfl : n = i := by omega
          go_wp2
          go_roundw
          case rel => exact ⟨k + 1, by omega, by go_num, Lib.hid (by
            have h4 := ho2.out
            rw [grid_congr (G := moveP (cellZ t) (fun _ y => y) F (fun _ _ => 0) n (k + 1) 0) (fun a b _ _ => moveP_row _ _ F (fun _ _ => 0) n k a b)] at h4
            exact h4), hb2⟩
          case measure => simp [intOf]; omega
    · obtain rfl : n = k := by omega
      have h4 := ho.out
      rw [grid_congr (G := F) (fun a b ha hb => moveP_end HP.out ha hb)] at h4
      go_wp2
      go_ret
      exact ⟨A', c', L, rfl, h4, hb⟩

set_option maxRecDepth 100000 in
set_option maxHeartbeats 8000000 in
theorem l04Turn3_any {B : Nat} (A : Option Addr) (n c : Nat) (t : List (List Int)) (F : Nat → Nat → Nat) (w : World) (h : Rows2 B w A n t) (hB : B ≤ w.heap.size) (ht : tabOk n n t = true) (hn : n ≤ 36) (hP : InjP (fun _ y => y) (cellZ t) n)
    (hF : ∀ x y, x < n → y < n → F ((fun _ y => y) x y) ((cellZ t) x y) = (fun x _ => x) x y) :
    Calls Tryd.prog 14 #[.slice A n c, .int .i64 3] w (MadeG w.heap.size n F w) := by
  have hl := h.len
  have hle := h.le
  have HR := Lib.hid h
  have HT := Lib.hid ht
  have HF := Lib.hid hF
  have HP := Lib.hid hP
  have CB := l04Blank_any n w hn
  clear h ht hF hP
  go_enter Tryd.func14, Tryd.ntmps14
  go_wp2_with (go_at_call 23; (with_reducible refine (CB).mono ?_); rintro e w1 ⟨A', c', L, rfl, hown, hbel⟩)
  clear CB
  go_loopw [6, 7, 8] (fun i _ _ wr => ∃ k : Nat, k ≤ n ∧ i = .int .i64 k ∧ Hid (Own2 w.heap.size wr A' n c' L (gridOf n n (moveP (fun _ y => y) (cellZ t) F (fun _ _ => 0) n k 0))) ∧ Below w.heap.size w wr) (fun i _ _ _ => n - (intOf i).toNat)
  case atStart =>
    refine ⟨0, by omega, rfl, Lib.hid ?_, hbel⟩
    rw [grid_congr (G := fun _ _ => 0) (fun x y _ _ => (moveP_start _ _ F (fun _ _ => 0) n x y).symm)]
    exact hown
  case round =>
    obtain ⟨k, hk, rfl, ho, hb⟩ := hrel
    clear hown hbel
    by_cases hlt : k < n
    · go_wp2
      go_loopw [7, 8] (fun j _ wq => ∃ i : Nat, i ≤ n ∧ j = .int .i64 i ∧ Hid (Own2 w.heap.size wq A' n c' L (gridOf n n (moveP (fun _ y => y) (cellZ t) F (fun _ _ => 0) n k i))) ∧ Below w.heap.size w wq) (fun j _ _ => n - (intOf j).toNat)
      case atStart => exact ⟨0, by omega, rfl, ho, hb⟩
      case round =>
        obtain ⟨i, hi, rfl, ho2, hb2⟩ := hrel
        obtain ⟨wq, rfl⟩ : ∃ wq, wq = wr := ⟨_, rfl⟩
        by_cases hin : i < n
        · have hzl := (tabOk_cell HT.out hlt hin).1
          obtain ⟨b, o, b2, o2, c2', e1, _, ha1, _, _, ha2⟩ := cell_lies (HR.out.below (hb2.mono hB)) HT.out hlt hin
          subst e1
          have hp : (fun _ y => y) k i < n := (HP.out.1 k i hlt hin).1
          have hq : (cellZ t) k i < n := (HP.out.1 k i hlt hin).2
          have hFv := HF.out k i hlt hin
          have HST : Hid (∀ a b, moveP (fun _ y => y) (cellZ t) F (fun _ _ => 0) n k (i + 1) a b = if a = i ∧ b = (cellZ t k i) then k else moveP (fun _ y => y) (cellZ t) F (fun _ _ => 0) n k i a b) := Lib.hid (fun a b => moveP_step (p := fun _ y => y) (q := cellZ t) (base := fun _ _ => 0) hlt hin hFv a b)
          obtain ⟨g0, g, cr, rfl, _, hd1, hd2, hfr, hL, hBg, hgs, _⟩ := ho2.out.cells (grid_row hp) (row_cell hq)
          rw [row_len] at hd1 hL
          dsimp only at hp hq hd1 hd2 hfr hL
          have HOWN : Hid (Own2 w.heap.size (wq.setCell ⟨g, (cellZ t k i), none⟩ (.int .i64 ((k : Nat) : Int))) (some ⟨g0, 0, none⟩) n c' L (gridOf n n (moveP (fun _ y => y) (cellZ t) F (fun _ _ => 0) n k (i + 1)))) := Lib.hid (by
            have h4 := ho2.out.store (x := (cellZ t k i)) (z := ((k : Nat) : Int)) (grid_row hp) (by rw [row_len]; exact hL) (WalkArith.wf_i64 (by omega))
            rw [grid_set (G := moveP (fun _ y => y) (cellZ t) F (fun _ _ => 0) n k (i + 1)) (v := k) (fun a b _ _ => HST.out a b)] at h4
            exact h4)
          have HBB : Hid (Below w.heap.size w (wq.setCell ⟨g, (cellZ t k i), none⟩ (.int .i64 ((k : Nat) : Int)))) := Lib.hid (hb2.setCell hBg _)
          clear hL hFv HST
          generalize cellZ t k i = zz at *
          go_wp2
          go_roundw
          case rel => exact ⟨i + 1, by omega, by go_num, Lib.hid (HOWN.out.keep fun _ _ _ => rfl), HBB.out⟩
          case measure => simp [intOf]; omega
        · obtain rfl : n = i := by omega
          go_wp2
          go_roundw
          case rel => exact ⟨k + 1, by omega, by go_num, Lib.hid (by
            have h4 := ho2.out
            rw [grid_congr (G := moveP (fun _ y => y) (cellZ t) F (fun _ _ => 0) n (k + 1) 0) (fun a b _ _ => moveP_row _ _ F (fun _ _ => 0) n k a b)] at h4
            exact h4), hb2⟩
          case measure => simp [intOf]; omega
    · obtain rfl : n = k := by omega
      have h4 := ho.out
      rw [grid_congr (G := F) (fun a b ha hb => moveP_end HP.out ha hb)] at h4
      go_wp2
      go_ret
      exact ⟨A', c', L, rfl, h4, hb⟩

set_option maxRecDepth 100000 in
set_option maxHeartbeats 8000000 in
theorem l04Turn4_any {B : Nat} (A : Option Addr) (n c : Nat) (t : List (List Int)) (F : Nat → Nat → Nat) (w : World) (h : Rows2 B w A n t) (hB : B ≤ w.heap.size) (ht : tabOk n n t = true) (hn : n ≤ 36) (hP : InjP (cellZ t) (fun x _ => x) n)
    (hF : ∀ x y, x < n → y < n → F ((cellZ t) x y) ((fun x _ => x) x y) = (fun _ y => y) x y) :
    Calls Tryd.prog 14 #[.slice A n c, .int .i64 4] w (MadeG w.heap.size n F w) := by
  have hl := h.len
  have hle := h.le
  have HR := Lib.hid h
  have HT := Lib.hid ht
  have HF := Lib.hid hF
  have HP := Lib.hid hP
  have CB := l04Blank_any n w hn
  clear h ht hF hP
  go_enter Tryd.func14, Tryd.ntmps14
  go_wp2_with (go_at_call 23; (with_reducible refine (CB).mono ?_); rintro e w1 ⟨A', c', L, rfl, hown, hbel⟩)
  clear CB
  go_loopw [6, 7, 8] (fun i _ _ wr => ∃ k : Nat, k ≤ n ∧ i = .int .i64 k ∧ Hid (Own2 w.heap.size wr A' n c' L (gridOf n n (moveP (cellZ t) (fun x _ => x) F (fun _ _ => 0) n k 0))) ∧ Below w.heap.size w wr) (fun i _ _ _ => n - (intOf i).toNat)
  case atStart =>
    refine ⟨0, by omega, rfl, Lib.hid ?_, hbel⟩
    rw [grid_congr (G := fun _ _ => 0) (fun x y _ _ => (moveP_start _ _ F (fun _ _ => 0) n x y).symm)]
    exact hown
  case round =>
    obtain ⟨k, hk, rfl, ho, hb⟩ := hrel
    clear hown hbel
    by_cases hlt : k < n
    · go_wp2
      go_loopw [7, 8] (fun j _ wq => ∃ i : Nat, i ≤ n ∧ j = .int .i64 i ∧ Hid (Own2 w.heap.size wq A' n c' L (gridOf n n (moveP (cellZ t) (fun x _ => x) F (fun _ _ => 0) n k i))) ∧ Below w.heap.size w wq) (fun j _ _ => n - (intOf j).toNat)
      case atStart => exact ⟨0, by omega, rfl, ho, hb⟩
      case round =>
        obtain ⟨i, hi, rfl, ho2, hb2⟩ := hrel
        obtain ⟨wq, rfl⟩ : ∃ wq, wq = wr := ⟨_, rfl⟩
        by_cases hin : i < n
        · have hzl := (tabOk_cell HT.out hlt hin).1
          obtain ⟨b, o, b2, o2, c2', e1, _, ha1, _, _, ha2⟩ := cell_lies (HR.out.below (hb2.mono hB)) HT.out hlt hin
          subst e1
          have hp : (cellZ t) k i < n := (HP.out.1 k i hlt hin).1
          have hq : (fun x _ => x) k i < n := (HP.out.1 k i hlt hin).2
          have hFv := HF.out k i hlt hin
          have HST : Hid (∀ a b, moveP (cellZ t) (fun x _ => x) F (fun _ _ => 0) n k (i + 1) a b = if a = (cellZ t k i) ∧ b = k then i else moveP (cellZ t) (fun x _ => x) F (fun _ _ => 0) n k i a b) := Lib.hid (fun a b => moveP_step (p := cellZ t) (q := fun x _ => x) (base := fun _ _ => 0) hlt hin hFv a b)
          obtain ⟨g0, g, cr, rfl, _, hd1, hd2, hfr, hL, hBg, hgs, _⟩ := ho2.out.cells (grid_row hp) (row_cell hq)
          rw [row_len] at hd1 hL
          dsimp only at hp hq hd1 hd2 hfr hL
          have HOWN : Hid (Own2 w.heap.size (wq.setCell ⟨g, k, none⟩ (.int .i64 ((i : Nat) : Int))) (some ⟨g0, 0, none⟩) n c' L (gridOf n n (moveP (cellZ t) (fun x _ => x) F (fun _ _ => 0) n k (i + 1)))) := Lib.hid (by
            have h4 := ho2.out.store (x := k) (z := ((i : Nat) : Int)) (grid_row hp) (by rw [row_len]; exact hL) (WalkArith.wf_i64 (by omega))
            rw [grid_set (G := moveP (cellZ t) (fun x _ => x) F (fun _ _ => 0) n k (i + 1)) (v := i) (fun a b _ _ => HST.out a b)] at h4
            exact h4)
          have HBB : Hid (Below w.heap.size w (wq.setCell ⟨g, k, none⟩ (.int .i64 ((i : Nat) : Int)))) := Lib.hid (hb2.setCell hBg _)
          clear hL hFv HST
          generalize cellZ t k i = zz at *
          go_wp2
          go_roundw
          case rel => exact ⟨i + 1, by omega, by go_num, Lib.hid (HOWN.out.keep fun _ _ _ => rfl), HBB.out⟩
          case measure => simp [intOf]; omega
        · obtain rfl : n = i := by omega
          go_wp2
          go_roundw
          case rel => exact ⟨k + 1, by omega, by go_num, Lib.hid (by
            have h4 := ho2.out
            rw [grid_congr (G := moveP (cellZ t) (fun x _ => x) F (fun _ _ => 0) n (k + 1) 0) (fun a b _ _ => moveP_row _ _ F (fun _ _ => 0) n k a b)] at h4
            exact h4), hb2⟩
          case measure => simp [intOf]; omega
    · obtain rfl : n = k := by omega
      have h4 := ho.out
      rw [grid_congr (G := F) (fun a b ha hb => moveP_end HP.out ha hb)] at h4
      go_wp2
      go_ret
      exact ⟨A', c', L, rfl, h4, hb⟩
end Go.Proofs.YtiokcflomchdcaaDoor
