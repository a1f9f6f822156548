/-
  Quasigroups with other rows, columns and numbers, made by the model and by the program.
-/
import Derived.Test.YtiokcflomchdcaaRearr
import Derived.Test.YtiokcflomchdcaaGot
import Derived.Test.YtiokcflomchdcaaCyc
namespace Go.Proofs.Ytiokcflomchdcaa
open Go.RowKit

def ordL (n : Nat) (zs : List Int) : Bool := ordGo n [] zs && decide ((zs.length : Int) = n)
def renOk (t : List (List Int)) (rs cs vs : List Int) : Bool := isQ t && (ordL t.length rs && (ordL t.length cs && ordL t.length vs))
theorem ordL_eq {n m : Nat} {zs : List Int} (hl : zs.length = m) : ordL n zs = (ordGo n [] zs && decide ((m : Int) = n)) := by unfold ordL; rw [hl]
theorem ordL_isOrd {n : Nat} {zs : List Int} (hn : 1 ≤ n ∧ n ≤ 36) (hl : zs.length = n) : isOrd zs = ordL n zs := by
  rw [isOrd_len hl]
  unfold ordL
  rw [hl, decide_eq_true hn]
  simp
theorem ordL_len {n : Nat} {zs : List Int} (h : ¬ zs.length = n) : ordL n zs = false := by
  unfold ordL
  rw [decide_eq_false (by omega)]; simp
theorem ordL_parts {n : Nat} {zs : List Int} (hn : 1 ≤ n ∧ n ≤ 36) (h : ordL n zs = true) : zs.length = n ∧ isOrd zs = true := by
  have h2 := h
  unfold ordL at h2
  simp only [Bool.and_eq_true, decide_eq_true_eq] at h2
  have hl : zs.length = n := by omega
  exact ⟨hl, by rw [ordL_isOrd hn hl]; exact h⟩
theorem ord_cell {B n x : Nat} {A : Option Addr} {zs : List Int} {w : World} (h : RowB .i64 B w A n zs) (ho : isOrd zs = true) (hx : x < n) :
    ∃ b o, A = some ⟨b, o, none⟩ ∧ b < B ∧ w.cell? ⟨b, o + x, none⟩ = some (.int .i64 ((fnOf zs x : Nat) : Int)) := by
  obtain ⟨b, o, z, rfl, hb, hz, hc, _⟩ := h.at_ hx
  have hl := h.len
  have h1 := ord_at ho (show x < zs.length by omega)
  rw [hz] at h1
  injection h1 with h1
  exact ⟨b, o, rfl, hb, by rw [hc, h1]⟩
theorem ord_lt {n x : Nat} {zs : List Int} (ho : isOrd zs = true) (hl : zs.length = n) (hx : x < n) : fnOf zs x < n := by
  have := (ord_perm ho).lt x (by omega)
  omega
theorem ren_inj {n : Nat} {rs cs : List Int} (h1 : isOrd rs = true) (h2 : isOrd cs = true) (l1 : rs.length = n) (l2 : cs.length = n) : InjP (fun x _ => fnOf rs x) (fun _ y => fnOf cs y) n :=
  ⟨fun x y hx hy => ⟨ord_lt h1 l1 hx, ord_lt h2 l2 hy⟩, fun x y x' y' hx hy hx' hy' e1 e2 => ⟨(ord_perm h1).inj x x' (by omega) (by omega) e1, (ord_perm h2).inj y y' (by omega) (by omega) e2⟩⟩

set_option maxRecDepth 100000 in
set_option maxHeartbeats 8000000 in
theorem l04Rename_any {B : Nat} (A A1 A2 A3 : Option Addr) (n c c1 c2 c3 : Nat) (t : List (List Int)) (rs cs vs : List Int) (F : Nat → Nat → Nat) (w : World) (h : Rows2 B w A n t) (hB : B ≤ w.heap.size) (ht : tabOk n n t = true) (hn : n ≤ 36)
    (h1 : RowB .i64 B w A1 n rs) (o1 : isOrd rs = true) (h2 : RowB .i64 B w A2 n cs) (o2 : isOrd cs = true) (h3 : RowB .i64 B w A3 n vs) (o3 : isOrd vs = true)
    (hF : ∀ x y, x < n → y < n → F (fnOf rs x) (fnOf cs y) = fnOf vs (cellZ t x y)) :
    Calls Try.prog 114 #[.slice A n c, .slice A1 n c1, .slice A2 n c2, .slice A3 n c3] w (MadeG w.heap.size n F w) := by
  have hl := h.len
  have hle := h.le
  have l1 := h1.len
  have l2 := h2.len
  have l3 := h3.len
  have HR := Lib.hid h
  have HT := Lib.hid ht
  have H1 := Lib.hid h1
  have H2 := Lib.hid h2
  have H3 := Lib.hid h3
  have O1 := Lib.hid o1
  have O2 := Lib.hid o2
  have O3 := Lib.hid o3
  have HF := Lib.hid hF
  have HP := Lib.hid (ren_inj o1 o2 l1 l2)
  have CB := l04Blank_any n w hn
  clear h ht h1 h2 h3 o1 o2 o3 hF
  go_enter Try.func114, Try.ntmps114
  go_wp2_with (go_at_call 82; (with_reducible refine (CB).mono ?_); rintro e w1 ⟨A', c', L, rfl, hown, hbel⟩)
  clear CB
  go_loopw [10, 11] (fun i _ wr => ∃ k : Nat, k ≤ n ∧ i = .int .i64 k ∧ Hid (Own2 w.heap.size wr A' n c' L (gridOf n n (moveP (fun x _ => fnOf rs x) (fun _ y => fnOf cs y) F (fun _ _ => 0) n k 0))) ∧ Below w.heap.size w wr) (fun i _ _ => n - (intOf i).toNat)
  case atStart =>
    refine ⟨0, by omega, rfl, Lib.hid ?_, hbel⟩
    rw [grid_congr (G := fun _ _ => 0) (fun x y _ _ => (moveP_start _ _ F (fun _ _ => 0) n x y).symm)]
    exact hown
  case round =>
    obtain ⟨k, hk, rfl, ho, hb⟩ := hrel
    clear hown hbel
    by_cases hlt : k < n
    · go_wp2
      go_loopw [11] (fun j wq => ∃ i : Nat, i ≤ n ∧ j = .int .i64 i ∧ Hid (Own2 w.heap.size wq A' n c' L (gridOf n n (moveP (fun x _ => fnOf rs x) (fun _ y => fnOf cs y) F (fun _ _ => 0) n k i))) ∧ Below w.heap.size w wq) (fun j _ => n - (intOf j).toNat)
      case atStart => exact ⟨0, by omega, rfl, ho, hb⟩
      case round =>
        obtain ⟨i, hi, rfl, ho2, hb2⟩ := hrel
        obtain ⟨wq, rfl⟩ : ∃ wq, wq = wr := ⟨_, rfl⟩
        by_cases hin : i < n
        · have hzl := (tabOk_cell HT.out hlt hin).1
          obtain ⟨b, o, b2, o2, c2', e1, _, ha1, _, _, ha2⟩ := cell_lies (HR.out.below (hb2.mono hB)) HT.out hlt hin
          subst e1
          obtain ⟨br, or', e2, _, ha3⟩ := ord_cell (H1.out.below (hb2.mono hB)) O1.out hlt
          subst e2
          obtain ⟨bc, oc, e3, _, ha4⟩ := ord_cell (H2.out.below (hb2.mono hB)) O2.out hin
          subst e3
          obtain ⟨bv, ov, e4, _, ha5⟩ := ord_cell (H3.out.below (hb2.mono hB)) O3.out hzl
          subst e4
          have hp := ord_lt O1.out l1 hlt
          have hq := ord_lt O2.out l2 hin
          have hv := ord_lt O3.out l3 hzl
          have hFv := HF.out k i hlt hin
          have HST := Lib.hid (fun a b => moveP_step (p := fun x _ => fnOf rs x) (q := fun _ y => fnOf cs y) (base := fun _ _ => 0) hlt hin hFv a b)
          generalize cellZ t k i = zz at ha2 hzl ha5 hv hFv HST
          generalize fnOf rs k = pp at ha3 hp hFv HST
          generalize fnOf cs i = qq at ha4 hq hFv HST
          generalize fnOf vs zz = vv at ha5 hv hFv HST
          clear hFv
          obtain ⟨g0, g, cr, rfl, _, hd1, hd2, hfr, hL, hBg, hgs, _⟩ := ho2.out.cells (grid_row hp) (row_cell hq)
          rw [row_len] at hd1 hL
          have HOWN : Hid (Own2 w.heap.size (wq.setCell ⟨g, qq, none⟩ (.int .i64 (vv : Int))) (some ⟨g0, 0, none⟩) n c' L (gridOf n n (moveP (fun x _ => fnOf rs x) (fun _ y => fnOf cs y) F (fun _ _ => 0) n k (i + 1)))) := Lib.hid (by
            have h4 := ho2.out.store (x := qq) (z := ((vv : Nat) : Int)) (grid_row hp) (by rw [row_len]; exact hL) (WalkArith.wf_i64 (by omega))
            rw [grid_set (G := moveP (fun x _ => fnOf rs x) (fun _ y => fnOf cs y) F (fun _ _ => 0) n k (i + 1)) (v := vv) (fun a b _ _ => HST.out a b)] at h4
            exact h4)
          have HBB : Hid (Below w.heap.size w (wq.setCell ⟨g, qq, none⟩ (.int .i64 (vv : Int)))) := Lib.hid (hb2.setCell hBg _)
          clear hL
          go_wp2
          go_region
          go_wp2
          go_roundw
          case rel => exact ⟨i + 1, by omega, by go_num, Lib.hid (HOWN.out.keep fun _ _ _ => rfl), HBB.out.drew⟩
          case measure => simp [intOf]; omega
        · obtain rfl : n = i := by omega
          go_wp2
          go_roundw
          case rel => exact ⟨k + 1, by omega, by go_num, Lib.hid (by
            have h4 := ho2.out
            rw [grid_congr (G := moveP (fun x _ => fnOf rs x) (fun _ y => fnOf cs y) F (fun _ _ => 0) n (k + 1) 0) (fun a b _ _ => moveP_row _ _ F (fun _ _ => 0) n k a b)] at h4
            exact h4), hb2⟩
          case measure => simp [intOf]; omega
    · obtain rfl : n = k := by omega
      have h4 := ho.out
      rw [grid_congr (G := F) (fun a b ha hb => moveP_end HP.out ha hb)] at h4
      go_wp2
      go_ret
      exact ⟨A', c', L, rfl, h4, hb⟩

set_option maxRecDepth 100000 in
set_option maxHeartbeats 4000000 in
theorem specRen_any {B : Nat} (A A1 A2 A3 : Option Addr) (n c n1 c1 n2 c2 n3 c3 : Nat) (t : List (List Int)) (rs cs vs : List Int) (F : Nat → Nat → Nat) (w : World) (h : Rows2 B w A n t) (hB : B ≤ w.heap.size)
    (h1 : RowB .i64 B w A1 n1 rs) (hc1 : n1 ≤ c1) (h2 : RowB .i64 B w A2 n2 cs) (hc2 : n2 ≤ c2) (h3 : RowB .i64 B w A3 n3 vs) (hc3 : n3 ≤ c3)
    (hF : renOk t rs cs vs = true → ∀ x y, x < n → y < n → F (fnOf rs x) (fnOf cs y) = fnOf vs (cellZ t x y)) :
    Calls Try.prog 55 #[.slice A n c, .slice A1 n1 c1, .slice A2 n2 c2, .slice A3 n3 c3] w (GotT (optB (renOk t rs cs vs) (gridOf n n F)) w) := by
  have hl := h.len
  have hle := h.le
  have l1 := h1.len
  have l2 := h2.len
  have l3 := h3.len
  have CQ := l04Is_any A n c t w h hB
  have HO : Hid (renOk t rs cs vs = (isQ t && (ordL n rs && (ordL n cs && ordL n vs)))) := Lib.hid (by unfold renOk; rw [hl])
  have HFF := Lib.hid hF
  obtain ⟨o, ho⟩ : ∃ o, o = renOk t rs cs vs := ⟨_, rfl⟩
  rw [← ho] at HO HFF ⊢
  clear ho hF
  rcases hq : isQ t with _ | _
  · rw [hq] at CQ HO
    obtain rfl : o = false := HO.out
    go_enter Try.func55, Try.ntmps55
    go_wp2_with (go_at_call 109; (with_reducible refine (CQ).mono ?_); rintro e w' ⟨rfl, hb⟩)
    go_ret2
    exact gotT_none hb
  · rw [hq] at CQ HO
    have hp := isQ_parts hq hl
    have hn1 := hp.1.1
    have hn36 := hp.1.2
    have HT := Lib.hid hp.2
    clear hp hq
    have C1 : ∀ W, Below w.heap.size w W → Calls Try.prog 113 #[.slice A1 n1 c1, .int .i64 n] W fun e w' => e = .returned (.bool (ordL n rs)) ∧ ∃ m, w' = W.drewN m := fun W hW => by rw [ordL_eq l1]; exact l01Order_any A1 n1 c1 n rs W (h1.below (hW.mono hB)) hc1 (by omega) (by omega)
    have C2 : ∀ W, Below w.heap.size w W → Calls Try.prog 113 #[.slice A2 n2 c2, .int .i64 n] W fun e w' => e = .returned (.bool (ordL n cs)) ∧ ∃ m, w' = W.drewN m := fun W hW => by rw [ordL_eq l2]; exact l01Order_any A2 n2 c2 n cs W (h2.below (hW.mono hB)) hc2 (by omega) (by omega)
    have C3 : ∀ W, Below w.heap.size w W → Calls Try.prog 113 #[.slice A3 n3 c3, .int .i64 n] W fun e w' => e = .returned (.bool (ordL n vs)) ∧ ∃ m, w' = W.drewN m := fun W hW => by rw [ordL_eq l3]; exact l01Order_any A3 n3 c3 n vs W (h3.below (hW.mono hB)) hc3 (by omega) (by omega)
    have HR := Lib.hid h
    have H1 := Lib.hid h1
    have H2 := Lib.hid h2
    have H3 := Lib.hid h3
    clear h h1 h2 h3
    rcases hr : ordL n rs with _ | _
    · rw [hr] at C1 HO
      clear hr
      obtain rfl : o = false := HO.out
      go_enter Try.func55, Try.ntmps55
      go_wp2_with fail
      (go_at_call 109; (with_reducible refine (CQ).mono ?_); rintro e w1 ⟨rfl, hb⟩)
      go_wp2_with fail
      (go_at_call 113; (with_reducible refine (C1 _ hb).mono ?_); rintro e w' ⟨rfl, m1, rfl⟩)
      go_wp2_with fail
      go_ret2
      exact gotT_none (below_drewN hb m1)
    · rw [hr] at C1 HO
      have p1 := ordL_parts ⟨hn1, hn36⟩ hr
      clear hr
      rcases hc : ordL n cs with _ | _
      · rw [hc] at C2 HO
        clear hc
        obtain rfl : o = false := HO.out
        go_enter Try.func55, Try.ntmps55
        go_wp2_with fail
        (go_at_call 109; (with_reducible refine (CQ).mono ?_); rintro e w1 ⟨rfl, hb⟩)
        go_wp2_with fail
        (go_at_call 113; (with_reducible refine (C1 _ hb).mono ?_); rintro e w' ⟨rfl, m1, rfl⟩)
        go_wp2_with fail
        (go_at_call 113; (with_reducible refine (C2 _ (below_drewN hb m1)).mono ?_); rintro e w' ⟨rfl, m2, rfl⟩)
        go_wp2_with fail
        go_ret2
        exact gotT_none (below_drewN hb (m1 + m2))
      · rw [hc] at C2 HO
        have p2 := ordL_parts ⟨hn1, hn36⟩ hc
        clear hc
        rcases hv : ordL n vs with _ | _
        · rw [hv] at C3 HO
          clear hv
          obtain rfl : o = false := HO.out
          go_enter Try.func55, Try.ntmps55
          go_wp2_with fail
          (go_at_call 109; (with_reducible refine (CQ).mono ?_); rintro e w1 ⟨rfl, hb⟩)
          go_wp2_with fail
          (go_at_call 113; (with_reducible refine (C1 _ hb).mono ?_); rintro e w' ⟨rfl, m1, rfl⟩)
          go_wp2_with fail
          (go_at_call 113; (with_reducible refine (C2 _ (below_drewN hb m1)).mono ?_); rintro e w' ⟨rfl, m2, rfl⟩)
          go_wp2_with fail
          (go_at_call 113; (with_reducible refine (C3 _ (below_drewN hb (m1 + m2))).mono ?_); rintro e w' ⟨rfl, m3, rfl⟩)
          go_wp2_with fail
          go_ret2
          exact gotT_none (below_drewN hb (m1 + m2 + m3))
        · rw [hv] at C3 HO
          have p3 := ordL_parts ⟨hn1, hn36⟩ hv
          clear hv
          obtain rfl : o = true := HO.out
          have e1 : n1 = n := by omega
          have e2 : n2 = n := by omega
          have e3 : n3 = n := by omega
          subst e1 e2 e3
          have CR : ∀ W, Below w.heap.size w W → Calls Try.prog 114 #[.slice A n3 c, .slice A1 n3 c1, .slice A2 n3 c2, .slice A3 n3 c3] W (MadeG W.heap.size n3 F W) := fun W hW => l04Rename_any A A1 A2 A3 n3 c c1 c2 c3 t rs cs vs F W (HR.out.below (hW.mono hB)) (Nat.le_trans hB hW.size) HT.out hn36 (H1.out.below (hW.mono hB)) p1.2 (H2.out.below (hW.mono hB)) p2.2 (H3.out.below (hW.mono hB)) p3.2 (HFF.out rfl)
          clear p1 p2 p3
          go_enter Try.func55, Try.ntmps55
          go_wp2_with fail
          (go_at_call 109; (with_reducible refine (CQ).mono ?_); rintro e w1 ⟨rfl, hb⟩)
          go_wp2_with fail
          (go_at_call 113; (with_reducible refine (C1 _ hb).mono ?_); rintro e w' ⟨rfl, m1, rfl⟩)
          go_wp2_with fail
          (go_at_call 113; (with_reducible refine (C2 _ (below_drewN hb m1)).mono ?_); rintro e w' ⟨rfl, m2, rfl⟩)
          go_wp2_with fail
          (go_at_call 113; (with_reducible refine (C3 _ (below_drewN hb (m1 + m2))).mono ?_); rintro e w3 ⟨rfl, m3, hW3⟩)
          have B3 : Below w.heap.size w w3 := by rw [hW3]; exact below_drewN (below_drewN hb (m1 + m2)) m3
          have HW3 := Lib.hid hW3
          clear hW3
          go_wp2_with fail
          (go_at_call 114; (with_reducible refine (CR _ B3).mono ?_); rintro e w4 ⟨A', c', L, rfl, hown, hbel⟩)
          go_wp2_with fail
          go_ret2
          exact gotT_some (hown.lower B3.size) (B3.trans (hbel.mono B3.size))
end Go.Proofs.Ytiokcflomchdcaa
