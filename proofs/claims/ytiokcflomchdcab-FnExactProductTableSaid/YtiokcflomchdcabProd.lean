/-
  Products of quasigroups, made by the model and by the program.
-/
import Derived.Test.YtiokcflomchdcabLin
import Derived.Test.YtiokcflomchdcabSwI
import Derived.BigRegion
namespace Go.Proofs.Ytiokcflomchdcab
open Go.RowKit

def prodF (s t : List (List Int)) (m x y : Nat) : Nat := cellZ s (x / m) (y / m) * m + cellZ t (x % m) (y % m)
def prodO (s t : List (List Int)) : Option (List (List Int)) :=
  if isQ s && (isQ t && decide (s.length * t.length ≤ 36)) then some (gridOf (s.length * t.length) (s.length * t.length) (prodF s t t.length)) else none
theorem prodO_sum (s t : List (List Int)) : (((prodO s t).getD []).map List.length).sum ≤ 1000000 := by
  unfold prodO
  split
  · next h =>
    simp only [Bool.and_eq_true, decide_eq_true_eq] at h
    exact Nat.le_trans (grid_sum _ _ h.2.2) (by decide)
  · simp
theorem prod_lt {n m x : Nat} (hx : x < n * m) : x / m < n ∧ x % m < m := by
  have hm : 0 < m := by
    rcases Nat.eq_zero_or_pos m with h | h
    · rw [h, Nat.mul_zero] at hx; omega
    · exact h
  exact ⟨(Nat.div_lt_iff_lt_mul hm).2 hx, Nat.mod_lt _ hm⟩
theorem prod_cell {s t : List (List Int)} {n m x y : Nat} (hs : tabOk n n s = true) (ht : tabOk m m t = true) (hx : x < n * m) (hy : y < n * m) (hn : n ≤ 36) (hm : m ≤ 36) : prodF s t m x y < 1332 := by
  have h1 := (tabOk_cell hs (prod_lt hx).1 (prod_lt hy).1).1
  have h2 := (tabOk_cell ht (prod_lt hx).2 (prod_lt hy).2).1
  have h3 : cellZ s (x / m) (y / m) * m ≤ 36 * 36 := Nat.mul_le_mul (by omega) hm
  unfold prodF
  omega

set_option maxRecDepth 100000 in
set_option maxHeartbeats 8000000 in
theorem specProd_any {B1 B2 : Nat} (A1 A2 : Option Addr) (n c1 m c2 : Nat) (s t : List (List Int)) (w : World) (h1 : Rows2 B1 w A1 n s) (hB1 : B1 ≤ w.heap.size) (h2 : Rows2 B2 w A2 m t) (hB2 : B2 ≤ w.heap.size) :
    Calls Try.prog 28 #[.slice A1 n c1, .slice A2 m c2] w (GotT (prodO s t) w) := by
  have hl1 := h1.len
  have hl2 := h2.len
  have hle1 := h1.le
  have hle2 := h2.le
  have HO : Hid (prodO s t = if isQ s && (isQ t && decide (n * m ≤ 36)) then some (gridOf (n * m) (n * m) (prodF s t m)) else none) := Lib.hid (by unfold prodO; rw [hl1, hl2])
  generalize prodO s t = o at HO ⊢
  have CQ1 := l04Is_any A1 n c1 s w h1 hB1
  have CQ2 : ∀ W, Below w.heap.size w W → Calls Try.prog 42 #[.slice A2 m c2] W fun e w' => e = .returned (.bool (isQ t)) ∧ Below W.heap.size W w' := fun W hW => l04Is_any A2 m c2 t W (h2.below (hW.mono hB2)) (Nat.le_trans hB2 hW.size)
  rcases hq1 : isQ s with _ | _
  · rw [hq1] at CQ1 HO
    obtain rfl : o = none := HO.out
    clear hq1
    go_enter Try.func28, Try.ntmps28
    go_wp2_with (go_at_call 42; (with_reducible refine (CQ1).mono ?_); rintro e w' ⟨rfl, hb⟩)
    go_ret2
    exact gotT_none hb
  · rw [hq1] at CQ1 HO
    have hp1 := isQ_parts hq1 hl1
    clear hq1
    rcases hq2 : isQ t with _ | _
    · rw [hq2] at CQ2 HO
      obtain rfl : o = none := HO.out
      clear hq2
      go_enter Try.func28, Try.ntmps28
      go_wp2_with fail
      (go_at_call 42; (with_reducible refine (CQ1).mono ?_); rintro e w1 ⟨rfl, hb⟩)
      go_wp2_with fail
      (go_at_call 42; (with_reducible refine (CQ2 _ hb).mono ?_); rintro e w2 ⟨rfl, hb2⟩)
      go_wp2_with fail
      go_ret2
      exact gotT_none (hb.trans (hb2.mono hb.size))
    · rw [hq2] at CQ2 HO
      have hp2 := isQ_parts hq2 hl2
      clear hq2
      have hn36 := hp1.1.2
      have hm36 := hp2.1.2
      have hn1 := hp1.1.1
      have hm1 := hp2.1.1
      obtain ⟨N, hN⟩ : ∃ N, N = n * m := ⟨_, rfl⟩
      have hNI : (n : Int) * (m : Int) = (N : Int) := by rw [hN]; simp
      have hNb : N ≤ 1296 := by rw [hN]; exact Nat.le_trans (Nat.mul_le_mul hn36 hm36) (by decide)
      rw [← hN] at HO
      have HN := Lib.hid hN
      have HT1 := Lib.hid hp1.2
      have HT2 := Lib.hid hp2.2
      clear hp1 hp2 hN
      by_cases hN36 : N ≤ 36
      · have HO2 : o = some (gridOf N N (prodF s t m)) := by rw [HO.out]; simp [hN36]
        subst HO2
        clear HO
        have CB : ∀ W, Calls Try.prog 43 #[.int .i64 N] W (MadeG W.heap.size N (fun _ _ => 0) W) := fun W => l04Blank_any N W hN36
        have HR1 := Lib.hid h1
        have HR2 := Lib.hid h2
        have hmI : ¬ (m : Int) = 0 := by omega
        clear h1 h2
        go_enter Try.func28, Try.ntmps28
        go_wp2_with fail
        (go_at_call 42; (with_reducible refine (CQ1).mono ?_); rintro e w1 ⟨rfl, hb⟩)
        go_wp2_with fail
        (go_at_call 42; (with_reducible refine (CQ2 _ hb).mono ?_); rintro e w2 ⟨rfl, hb2⟩)
        have hb2w : Below w.heap.size w w2 := hb.trans (hb2.mono hb.size)
        go_wp2_with fail
        (go_at_call 43; (with_reducible refine (CB _).mono ?_); rintro e w3 ⟨A, cc, L, rfl, hown, hbel⟩)
        have hbw : Below w.heap.size w w3 := hb2w.trans (hbel.mono hb2w.size)
        have hown := hown.lower hb2w.size
        clear hb hb2 hb2w hbel CQ1 CQ2 CB
        go_wp2_with fail
        go_loopw [8, 9] (fun x _ wr => ∃ k : Nat, k ≤ N ∧ x = .int .i64 k ∧ Hid (Own2 w.heap.size wr A N cc L (gridOf N N (fillG (prodF s t m) k 0))) ∧ Below w.heap.size w wr) (fun x _ _ => N - (intOf x).toNat)
        case atStart =>
          refine ⟨0, by omega, rfl, Lib.hid ?_, hbw⟩
          rw [grid_congr (G := fun _ _ => 0) (fun x y _ _ => (fillG_start _ x y).symm)]
          exact hown
        case round =>
          obtain ⟨k, hk, rfl, ho, hb1⟩ := hrel
          clear hown hbw
          by_cases hlt : k < N
          · go_wp2
            go_loopw [9] (fun y wq => ∃ j : Nat, j ≤ N ∧ y = .int .i64 j ∧ Hid (Own2 w.heap.size wq A N cc L (gridOf N N (fillG (prodF s t m) k j))) ∧ Below w.heap.size w wq) (fun y _ => N - (intOf y).toNat)
            case atStart => exact ⟨0, by omega, rfl, ho, hb1⟩
            case round =>
              obtain ⟨j, hj, rfl, ho2, hb2⟩ := hrel
              obtain ⟨wq, rfl⟩ : ∃ wq, wq = wr := ⟨_, rfl⟩
              by_cases hjn : j < N
              · obtain ⟨g0, g, cr, rfl, _, hc1, hc2, hfr, hL, hBg, hgs, _⟩ := ho2.out.cells (grid_row hlt) (row_cell hjn)
                rw [row_len] at hc1 hL
                have hkN := prod_lt (n := n) (m := m) (x := k) (by rw [← HN.out]; exact hlt)
                have hjN := prod_lt (n := n) (m := m) (x := j) (by rw [← HN.out]; exact hjn)
                have hFb := prod_cell HT1.out HT2.out (show k < n * m by rw [← HN.out]; exact hlt) (show j < n * m by rw [← HN.out]; exact hjn) hn36 hm36
                have hcs := (tabOk_cell HT1.out hkN.1 hjN.1).1
                have hct := (tabOk_cell HT2.out hkN.2 hjN.2).1
                obtain ⟨b, o, b2, o2, c2', e1, _, ha1, _, _, ha2⟩ := cell_lies (HR1.out.below (hb2.mono hB1)) HT1.out hkN.1 hjN.1
                subst e1
                obtain ⟨b', o', b3, o3, c3, e2, _, ha3, _, _, ha4⟩ := cell_lies (HR2.out.below (hb2.mono hB2)) HT2.out hkN.2 hjN.2
                subst e2
                obtain ⟨v, hv⟩ : ∃ v, v = prodF s t m k j := ⟨_, rfl⟩
                have hFe : v = cellZ s (k / m) (j / m) * m + cellZ t (k % m) (j % m) := by rw [hv]; rfl
                generalize cellZ s (k / m) (j / m) = za at ha2 hFe hcs
                generalize cellZ t (k % m) (j % m) = zb at ha4 hFe hct
                obtain ⟨kd, hkd⟩ : ∃ kd, kd = k / m := ⟨_, rfl⟩
                obtain ⟨jd, hjd⟩ : ∃ jd, jd = j / m := ⟨_, rfl⟩
                obtain ⟨kr, hkr⟩ : ∃ kr, kr = k % m := ⟨_, rfl⟩
                obtain ⟨jr, hjr⟩ : ∃ jr, jr = j % m := ⟨_, rfl⟩
                have i1 : (k : Int).tdiv (m : Int) = (kd : Int) := by rw [hkd]; rfl
                have i2 : (j : Int).tdiv (m : Int) = (jd : Int) := by rw [hjd]; rfl
                have i3 : (k : Int).tmod (m : Int) = (kr : Int) := by rw [hkr]; rfl
                have i4 : (j : Int).tmod (m : Int) = (jr : Int) := by rw [hjr]; rfl
                rw [← hkd] at ha1 hkN
                rw [← hjd] at ha2 hjN
                rw [← hkr] at ha3 hkN
                rw [← hjr] at ha4 hjN
                obtain ⟨p, hp⟩ : ∃ p, p = za * m := ⟨_, rfl⟩
                have hpI : (za : Int) * (m : Int) = (p : Int) := by rw [hp]; simp
                have hpb : p ≤ 1296 := by rw [hp]; exact Nat.le_trans (Nat.mul_le_mul (show za ≤ 36 by omega) hm36) (by decide)
                have hvI : (p : Int) + (zb : Int) = (v : Int) := by rw [hFe, hp]; simp
                rw [← hv] at hFb
                have HOWN : Hid (Own2 w.heap.size (wq.setCell ⟨g, j, none⟩ (.int .i64 (v : Int))) (some ⟨g0, 0, none⟩) N cc L (gridOf N N (fillG (prodF s t m) k (j + 1)))) := Lib.hid (by
                  have h4 := ho2.out.store (x := j) (z := ((v : Nat) : Int)) (grid_row hlt) (by rw [row_len]; exact hL) (WalkArith.wf_i64 (by omega))
                  rw [grid_set (G := fillG (prodF s t m) k (j + 1)) (v := v) (fun x y _ _ => by rw [hv]; exact fillG_step _ k j x y)] at h4
                  exact h4)
                have HBB : Hid (Below w.heap.size w (wq.setCell ⟨g, j, none⟩ (.int .i64 (v : Int)))) := Lib.hid (hb2.setCell hBg _)
                clear hp hv hFe hL hkd hjd hkr hjr
                go_wp2
                go_region
                go_wp2
                go_roundw
                case rel => exact ⟨j + 1, by omega, by go_num, Lib.hid (HOWN.out.keep fun _ _ _ => rfl), HBB.out.drew⟩
                case measure => simp [intOf]; omega
              · obtain rfl : N = j := by omega
                go_wp2
                go_roundw
                case rel => exact ⟨k + 1, by omega, by go_num, Lib.hid (by
                  have h4 := ho2.out
                  rw [grid_congr (G := fillG (prodF s t m) (k + 1) 0) (fun x y _ hy => fillG_row _ hy)] at h4
                  exact h4), hb2⟩
                case measure => simp [intOf]; omega
          · obtain rfl : N = k := by omega
            have h4 := ho.out
            rw [grid_congr (G := prodF s t m) (fun x y hx _ => fillG_end _ hx)] at h4
            have H4 := Lib.hid h4
            clear h4
            go_wp2_with fail
            go_ret2
            exact ⟨A, cc, L, by simp [grid_len], by simpa [grid_len] using H4.out, hb1⟩
      · have HO2 : o = none := by rw [HO.out]; simp [hN36]
        subst HO2
        clear HO
        go_enter Try.func28, Try.ntmps28
        go_wp2_with fail
        (go_at_call 42; (with_reducible refine (CQ1).mono ?_); rintro e w1 ⟨rfl, hb⟩)
        go_wp2_with fail
        (go_at_call 42; (with_reducible refine (CQ2 _ hb).mono ?_); rintro e w2 ⟨rfl, hb2⟩)
        go_wp2_with fail
        go_ret2
        exact gotT_none (hb.trans (hb2.mono hb.size))

set_option maxRecDepth 100000 in
set_option maxHeartbeats 4000000 in
theorem prodClo_any {B1 B2 g1 g2 g3 : Nat} (A1 A2 : Option Addr) (n c1 m c2 x y : Nat) (s t : List (List Int)) (w : World) (d1 : w.cell? ⟨g1, 0, none⟩ = some (.slice A1 n c1)) (d2 : w.cell? ⟨g2, 0, none⟩ = some (.int .i64 (m : Int))) (d3 : w.cell? ⟨g3, 0, none⟩ = some (.slice A2 m c2))
    (h1 : Rows2 B1 w A1 n s) (h2 : Rows2 B2 w A2 m t) (ht1 : tabOk n n s = true) (ht2 : tabOk m m t = true) (hn36 : n ≤ 36) (hm36 : m ≤ 36) (hm1 : 1 ≤ m) (hx : x < n * m) (hy : y < n * m) (hN : n * m ≤ 36) :
    Calls Try.prog 62 #[.int .i64 x, .int .i64 y, .pointer (some ⟨g1, 0, none⟩), .pointer (some ⟨g2, 0, none⟩), .pointer (some ⟨g3, 0, none⟩)] w fun e w' => e = .returned (.int .i64 ((prodF s t m x y : Nat) : Int)) ∧ ∃ m', w' = w.drewN m' := by
  have hle1 := h1.le
  have hle2 := h2.le
  have hxN := prod_lt hx
  have hyN := prod_lt hy
  have hx36 : x < 36 := by omega
  have hy36 : y < 36 := by omega
  have hFb := prod_cell ht1 ht2 hx hy hn36 hm36
  have hcs := (tabOk_cell ht1 hxN.1 hyN.1).1
  have hct := (tabOk_cell ht2 hxN.2 hyN.2).1
  obtain ⟨b, o, b2, o2, c2', e1, _, ha1, _, _, ha2⟩ := cell_lies h1 ht1 hxN.1 hyN.1
  subst e1
  obtain ⟨b', o', b3, o3, c3, e2, _, ha3, _, _, ha4⟩ := cell_lies h2 ht2 hxN.2 hyN.2
  subst e2
  obtain ⟨v, hv⟩ : ∃ v, v = prodF s t m x y := ⟨_, rfl⟩
  have hFe : v = cellZ s (x / m) (y / m) * m + cellZ t (x % m) (y % m) := by rw [hv]; rfl
  rw [← hv] at hFb ⊢
  generalize cellZ s (x / m) (y / m) = za at ha2 hFe hcs
  generalize cellZ t (x % m) (y % m) = zb at ha4 hFe hct
  obtain ⟨kd, hkd⟩ : ∃ kd, kd = x / m := ⟨_, rfl⟩
  obtain ⟨jd, hjd⟩ : ∃ jd, jd = y / m := ⟨_, rfl⟩
  obtain ⟨kr, hkr⟩ : ∃ kr, kr = x % m := ⟨_, rfl⟩
  obtain ⟨jr, hjr⟩ : ∃ jr, jr = y % m := ⟨_, rfl⟩
  have i1 : (x : Int).tdiv (m : Int) = (kd : Int) := by rw [hkd]; rfl
  have i2 : (y : Int).tdiv (m : Int) = (jd : Int) := by rw [hjd]; rfl
  have i3 : (x : Int).tmod (m : Int) = (kr : Int) := by rw [hkr]; rfl
  have i4 : (y : Int).tmod (m : Int) = (jr : Int) := by rw [hjr]; rfl
  rw [← hkd] at ha1 hxN
  rw [← hjd] at ha2 hyN
  rw [← hkr] at ha3 hxN
  rw [← hjr] at ha4 hyN
  obtain ⟨p, hp⟩ : ∃ p, p = za * m := ⟨_, rfl⟩
  have hpI : (za : Int) * (m : Int) = (p : Int) := by rw [hp]; simp
  have hpb : p ≤ 1296 := by rw [hp]; exact Nat.le_trans (Nat.mul_le_mul (show za ≤ 36 by omega) hm36) (by decide)
  have hvI : (p : Int) + (zb : Int) = (v : Int) := by rw [hFe, hp]; simp
  have hmI : ¬ (m : Int) = 0 := by omega
  clear hp hv hFe hkd hjd hkr hjr h1 h2 hx hy hN
  go_enter Try.func62, Try.ntmps62
  go_wp2
  go_quiet (fail)
  go_wp2
  go_ret
  exact ⟨rfl, _, rfl⟩

set_option maxRecDepth 100000 in
set_option maxHeartbeats 8000000 in
theorem implProd_any {B1 B2 : Nat} (A1 A2 : Option Addr) (n c1 m c2 : Nat) (s t : List (List Int)) (w : World) (h1 : Rows2 B1 w A1 n s) (hB1 : B1 ≤ w.heap.size) (h2 : Rows2 B2 w A2 m t) (hB2 : B2 ≤ w.heap.size) :
    Calls Try.prog 29 #[.slice A1 n c1, .slice A2 m c2] w (GotT (prodO s t) w) := by
  have hl1 := h1.len
  have hl2 := h2.len
  have hle1 := h1.le
  have hle2 := h2.le
  have HO : Hid (prodO s t = if isQ s && (isQ t && decide (n * m ≤ 36)) then some (gridOf (n * m) (n * m) (prodF s t m)) else none) := Lib.hid (by unfold prodO; rw [hl1, hl2])
  generalize prodO s t = o at HO ⊢
  obtain ⟨w2, hw2⟩ : ∃ w2, w2 = (w.alloc (.cells #[.slice A1 n c1] 22)).alloc (.cells #[.slice A2 m c2] 22) := ⟨_, rfl⟩
  have bel2 : Below w.heap.size w w2 := by rw [hw2]; exact ((Below.refl _ w).alloc (Nat.le_refl _) _).alloc (by simp) _
  have s2 : w2.heap.size = w.heap.size + 1 + 1 := by rw [hw2]; simp
  have k1 : Blk w2 w.heap.size #[.slice A1 n c1] 22 := by rw [hw2]; exact (Blk.new _ _ _).alloc _
  have k2 : Blk w2 (w.heap.size + 1) #[.slice A2 m c2] 22 := by
    rw [hw2]
    have := Blk.new (w.alloc (.cells #[.slice A1 n c1] 22)) #[.slice A2 m c2] 22
    simpa using this
  have d1 : w2.cell? ⟨w.heap.size, 0, none⟩ = some (.slice A1 n c1) := k1.cell 0
  have d2 : w2.cell? ⟨w.heap.size + 1, 0, none⟩ = some (.slice A2 m c2) := k2.cell 0
  have r1 := h1.below (bel2.mono hB1)
  have r2 := h2.below (bel2.mono hB2)
  have BEL := Lib.hid bel2
  have D1 := Lib.hid d1
  have D2 := Lib.hid d2
  clear bel2 k1 k2 h1 h2
  have CQ1 := implIsQ_any A1 n c1 s w2 r1 (by omega)
  have CQ2 : ∀ W, Below w2.heap.size w2 W → Calls Try.prog 45 #[.slice A2 m c2] W fun e w' => e = .returned (.bool (isQ t)) ∧ Below W.heap.size W w' := fun W hW => implIsQ_any A2 m c2 t W (r2.below (hW.mono (by omega))) (by have := hW.size; omega)
  have HR1 := Lib.hid r1
  have HR2 := Lib.hid r2
  clear r1 r2
  rcases hq1 : isQ s with _ | _
  · rw [hq1] at CQ1 HO
    obtain rfl : o = none := HO.out
    clear hq1
    go_enter Try.func29, Try.ntmps29
    go_wp2_with fail
    rw [← hw2]
    have HW2 := Lib.hid hw2
    clear hw2
    go_wp2_with (go_at_call 45; (with_reducible refine (CQ1).mono ?_); rintro e w3 ⟨rfl, hb⟩)
    go_ret2
    exact gotT_none (BEL.out.trans (hb.mono BEL.out.size))
  · rw [hq1] at CQ1 HO
    have hp1 := isQ_parts hq1 hl1
    clear hq1
    rcases hq2 : isQ t with _ | _
    · rw [hq2] at CQ2 HO
      obtain rfl : o = none := HO.out
      clear hq2
      go_enter Try.func29, Try.ntmps29
      go_wp2_with fail
      rw [← hw2]
      have HW2 := Lib.hid hw2
      clear hw2
      (go_at_call 45; (with_reducible refine (CQ1).mono ?_); rintro e w3 ⟨rfl, hb⟩)
      have e2 : w3.cell? ⟨w.heap.size + 1, 0, none⟩ = some (.slice A2 m c2) := (hb.cell (p := ⟨w.heap.size + 1, 0, none⟩) (show w.heap.size + 1 < w2.heap.size by omega)).trans D2.out
      go_wp2_with fail
      (go_at_call 45; (with_reducible refine (CQ2 _ hb).mono ?_); rintro e w4 ⟨rfl, hb2⟩)
      go_wp2_with fail
      go_ret2
      exact gotT_none (BEL.out.trans ((hb.trans (hb2.mono hb.size)).mono BEL.out.size))
    · rw [hq2] at CQ2 HO
      have hp2 := isQ_parts hq2 hl2
      clear hq2
      have hn36 := hp1.1.2
      have hm36 := hp2.1.2
      have hn1 := hp1.1.1
      have hm1 := hp2.1.1
      obtain ⟨N, hN⟩ : ∃ N, N = n * m := ⟨_, rfl⟩
      have hNI : (n : Int) * (m : Int) = (N : Int) := by rw [hN]; simp
      have hNb : N ≤ 1296 := by rw [hN]; exact Nat.le_trans (Nat.mul_le_mul hn36 hm36) (by decide)
      rw [← hN] at HO
      have HN := Lib.hid hN
      have HT1 := Lib.hid hp1.2
      have HT2 := Lib.hid hp2.2
      clear hp1 hp2 hN
      by_cases hN36 : N ≤ 36
      · have HO2 : o = some (gridOf N N (prodF s t m)) := by rw [HO.out]; simp [hN36]
        subst HO2
        clear HO
        go_enter Try.func29, Try.ntmps29
        go_wp2_with fail
        rw [← hw2]
        have HW2 := Lib.hid hw2
        clear hw2
        (go_at_call 45; (with_reducible refine (CQ1).mono ?_); rintro e w3 ⟨rfl, hb⟩)
        have e2 : w3.cell? ⟨w.heap.size + 1, 0, none⟩ = some (.slice A2 m c2) := (hb.cell (p := ⟨w.heap.size + 1, 0, none⟩) (show w.heap.size + 1 < w2.heap.size by omega)).trans D2.out
        go_wp2_with fail
        (go_at_call 45; (with_reducible refine (CQ2 _ hb).mono ?_); rintro e w4 ⟨rfl, hb2⟩)
        have hb4 : Below w2.heap.size w2 w4 := hb.trans (hb2.mono hb.size)
        have s4 := hb4.size
        have f1 : w4.cell? ⟨w.heap.size, 0, none⟩ = some (.slice A1 n c1) := (hb4.cell (p := ⟨w.heap.size, 0, none⟩) (show w.heap.size < w2.heap.size by omega)).trans D1.out
        have f2 : w4.cell? ⟨w.heap.size + 1, 0, none⟩ = some (.slice A2 m c2) := (hb4.cell (p := ⟨w.heap.size + 1, 0, none⟩) (show w.heap.size + 1 < w2.heap.size by omega)).trans D2.out
        clear hb hb2 e2 CQ1 CQ2
        have q1 : w.heap.size < w4.heap.size := by omega
        have q2 : w.heap.size ≠ w4.heap.size := by omega
        have q3 : w.heap.size + 1 < w4.heap.size := by omega
        have q4 : w.heap.size + 1 ≠ w4.heap.size := by omega
        go_wp2_with fail
        go_region
        obtain ⟨w5, hw5⟩ : ∃ w5, w5 = (w4.alloc (.cells #[.int .i64 (m : Int)] 2)).drew := ⟨_, rfl⟩
        rw [← hw5]
        have k5 : Blk w5 w4.heap.size #[.int .i64 (m : Int)] 2 := by rw [hw5]; exact Blk.new _ _ _
        have bel5 : Below w4.heap.size w4 w5 := by rw [hw5]; exact ((Below.refl _ _).alloc (Nat.le_refl _) _).drew
        have g1 : w5.cell? ⟨w.heap.size, 0, none⟩ = some (.slice A1 n c1) := (bel5.cell (p := ⟨w.heap.size, 0, none⟩) q1).trans f1
        have g2 : w5.cell? ⟨w.heap.size + 1, 0, none⟩ = some (.slice A2 m c2) := (bel5.cell (p := ⟨w.heap.size + 1, 0, none⟩) q3).trans f2
        have g3 : w5.cell? ⟨w4.heap.size, 0, none⟩ = some (.int .i64 (m : Int)) := k5.cell 0
        have lt5 := k5.lt
        have B45 : Below w2.heap.size w2 w5 := hb4.trans (bel5.mono s4)
        have B5 : Hid (Below w.heap.size w w5) := Lib.hid (BEL.out.trans (B45.mono BEL.out.size))
        have CT := tabProduct_any N (prodF s t m) (.pointer (some ⟨w.heap.size, 0, none⟩)) (.pointer (some ⟨w4.heap.size, 0, none⟩)) (.pointer (some ⟨w.heap.size + 1, 0, none⟩)) w5 hN36 (fun x y hx hy => by have := prod_cell HT1.out HT2.out (show x < n * m by rw [← HN.out]; exact hx) (show y < n * m by rw [← HN.out]; exact hy) hn36 hm36; omega)
          (fun W hW x y hx hy => prodClo_any A1 A2 n c1 m c2 x y s t W ((hW.cell (p := ⟨w.heap.size, 0, none⟩) (show w.heap.size < w5.heap.size by omega)).trans g1) ((hW.cell (p := ⟨w4.heap.size, 0, none⟩) lt5).trans g3) ((hW.cell (p := ⟨w.heap.size + 1, 0, none⟩) (show w.heap.size + 1 < w5.heap.size by omega)).trans g2)
            ((HR1.out.below (B45.mono (by omega))).below (hW.mono (by have := B45.size; omega))) ((HR2.out.below (B45.mono (by omega))).below (hW.mono (by have := B45.size; omega))) HT1.out HT2.out hn36 hm36 hm1 (by rw [← HN.out]; exact hx) (by rw [← HN.out]; exact hy) (by rw [← HN.out]; exact hN36))
        have HW5 := Lib.hid hw5
        clear hw5 k5 bel5 g1 g2 g3 B45 f1 f2
        go_wp2_with (go_at_call 61; (with_reducible refine (CT).mono ?_); rintro e w6 ⟨A, cc, L, rfl, hown, hbel⟩)
        go_ret2
        exact ⟨A, cc, L, by simp [grid_len], by simpa [grid_len] using hown.lower B5.out.size, B5.out.trans (hbel.mono B5.out.size)⟩
      · have HO2 : o = none := by rw [HO.out]; simp [hN36]
        subst HO2
        clear HO
        go_enter Try.func29, Try.ntmps29
        go_wp2_with fail
        rw [← hw2]
        have HW2 := Lib.hid hw2
        clear hw2
        (go_at_call 45; (with_reducible refine (CQ1).mono ?_); rintro e w3 ⟨rfl, hb⟩)
        have e2 : w3.cell? ⟨w.heap.size + 1, 0, none⟩ = some (.slice A2 m c2) := (hb.cell (p := ⟨w.heap.size + 1, 0, none⟩) (show w.heap.size + 1 < w2.heap.size by omega)).trans D2.out
        go_wp2_with fail
        (go_at_call 45; (with_reducible refine (CQ2 _ hb).mono ?_); rintro e w4 ⟨rfl, hb2⟩)
        have hb4 : Below w2.heap.size w2 w4 := hb.trans (hb2.mono hb.size)
        have f1 : w4.cell? ⟨w.heap.size, 0, none⟩ = some (.slice A1 n c1) := (hb4.cell (p := ⟨w.heap.size, 0, none⟩) (show w.heap.size < w2.heap.size by omega)).trans D1.out
        have f2 : w4.cell? ⟨w.heap.size + 1, 0, none⟩ = some (.slice A2 m c2) := (hb4.cell (p := ⟨w.heap.size + 1, 0, none⟩) (show w.heap.size + 1 < w2.heap.size by omega)).trans D2.out
        go_wp2_with fail
        go_ret2
        exact gotT_none (BEL.out.trans (hb4.mono BEL.out.size))
end Go.Proofs.Ytiokcflomchdcab
