/-
  Quasigroups with other rows, columns and numbers, made by the program.
-/
import Derived.Test.YtiokcflomchdcaaRenC
namespace Go.Proofs.Ytiokcflomchdcaa
open Go.RowKit

set_option maxRecDepth 100000 in
set_option maxHeartbeats 8000000 in
theorem implRen_any {B : Nat} (A A1 A2 A3 : Option Addr) (n c n1 c1 n2 c2 n3 c3 : Nat) (t : List (List Int)) (rs cs vs : List Int) (F : Nat → Nat → Nat) (w : World) (h : Rows2 B w A n t) (hB : B ≤ w.heap.size)
    (h1 : RowB .i64 B w A1 n1 rs) (h2 : RowB .i64 B w A2 n2 cs) (h3 : RowB .i64 B w A3 n3 vs)
    (hF : renOk t rs cs vs = true → ∀ x y, x < n → y < n → F (fnOf rs x) (fnOf cs y) = fnOf vs (cellZ t x y)) :
    Calls Try.prog 57 #[.slice A n c, .slice A1 n1 c1, .slice A2 n2 c2, .slice A3 n3 c3] w (GotT (optB (renOk t rs cs vs) (gridOf n n F)) w) := by
  have hl := h.len
  have hle := h.le
  have l1 := h1.len
  have l2 := h2.len
  have l3 := h3.len
  have e1 := h1.le
  have e2 := h2.le
  have e3 := h3.le
  have HO : Hid (renOk t rs cs vs = (isQ t && (ordL n rs && (ordL n cs && ordL n vs)))) := Lib.hid (by unfold renOk; rw [hl])
  have HFF := Lib.hid hF
  obtain ⟨o, ho⟩ : ∃ o, o = renOk t rs cs vs := ⟨_, rfl⟩
  rw [← ho] at HO HFF ⊢
  clear ho hF
  obtain ⟨w3, hw3⟩ : ∃ w3, w3 = ((w.alloc (.cells #[.slice A1 n1 c1] 24)).alloc (.cells #[.slice A2 n2 c2] 24)).alloc (.cells #[.slice A3 n3 c3] 24) := ⟨_, rfl⟩
  have bel3 : Below w.heap.size w w3 := by rw [hw3]; exact (((Below.refl _ w).alloc (Nat.le_refl _) _).alloc (by simp) _).alloc (by simp; omega) _
  have s3 : w3.heap.size = w.heap.size + 1 + 1 + 1 := by rw [hw3]; simp
  have k1 : Blk w3 w.heap.size #[.slice A1 n1 c1] 24 := by rw [hw3]; exact ((Blk.new _ _ _).alloc _).alloc _
  have k2 : Blk w3 (w.heap.size + 1) #[.slice A2 n2 c2] 24 := by
    rw [hw3]
    have := (Blk.new (w.alloc (.cells #[.slice A1 n1 c1] 24)) #[.slice A2 n2 c2] 24).alloc (.cells #[.slice A3 n3 c3] 24)
    simpa using this
  have k3 : Blk w3 (w.heap.size + 1 + 1) #[.slice A3 n3 c3] 24 := by
    rw [hw3]
    have := Blk.new ((w.alloc (.cells #[.slice A1 n1 c1] 24)).alloc (.cells #[.slice A2 n2 c2] 24)) #[.slice A3 n3 c3] 24
    simpa using this
  have D1 : Hid (w3.cell? ⟨w.heap.size, 0, none⟩ = some (.slice A1 n1 c1)) := Lib.hid (k1.cell 0)
  have D2 : Hid (w3.cell? ⟨w.heap.size + 1, 0, none⟩ = some (.slice A2 n2 c2)) := Lib.hid (k2.cell 0)
  have D3 : Hid (w3.cell? ⟨w.heap.size + 1 + 1, 0, none⟩ = some (.slice A3 n3 c3)) := Lib.hid (k3.cell 0)
  have R0 := h.below (bel3.mono hB)
  have R1 := RowB.below h1 (bel3.mono hB)
  have R2 := RowB.below h2 (bel3.mono hB)
  have R3 := RowB.below h3 (bel3.mono hB)
  have CQ := implIsQ_any A n c t w3 R0 (by omega)
  have BEL := Lib.hid bel3
  have HR0 := Lib.hid R0
  have HR1 := Lib.hid R1
  have HR2 := Lib.hid R2
  have HR3 := Lib.hid R3
  clear bel3 k1 k2 k3 R0 R1 R2 R3 h h1 h2 h3
  rcases hq : isQ t with _ | _
  · rw [hq] at CQ HO
    obtain rfl : o = false := HO.out
    go_enter Try.func57, Try.ntmps57
    go_wp2_with fail
    rw [← hw3]
    have HW3 := Lib.hid hw3
    clear hw3
    (go_at_call 54; (with_reducible refine (CQ).mono ?_); rintro e w4 ⟨rfl, hb⟩)
    go_wp2_with fail
    go_ret2
    exact gotT_none (BEL.out.trans (hb.mono BEL.out.size))
  · rw [hq] at CQ HO
    have hp := isQ_parts hq hl
    have hn1 := hp.1.1
    have hn36 := hp.1.2
    have HT := Lib.hid hp.2
    clear hp hq
    go_enter Try.func57, Try.ntmps57
    go_wp2_with fail
    rw [← hw3]
    have HW3 := Lib.hid hw3
    clear hw3
    (go_at_call 54; (with_reducible refine (CQ).mono ?_); rintro e w4 ⟨rfl, hb⟩)
    have s4 := hb.size
    have d1 := (hb.cell (p := ⟨w.heap.size, 0, none⟩) (show w.heap.size < w3.heap.size by omega)).trans D1.out
    have d2 := (hb.cell (p := ⟨w.heap.size + 1, 0, none⟩) (show w.heap.size + 1 < w3.heap.size by omega)).trans D2.out
    have d3 := (hb.cell (p := ⟨w.heap.size + 1 + 1, 0, none⟩) (show w.heap.size + 1 + 1 < w3.heap.size by omega)).trans D3.out
    obtain ⟨w5, hw5⟩ : ∃ w5, w5 = w4.alloc (.cells #[.slice A1 n1 c1, .slice A2 n2 c2, .slice A3 n3 c3] 24) := ⟨_, rfl⟩
    have bel5 : Below w4.heap.size w4 w5 := by rw [hw5]; exact (Below.refl _ _).alloc (Nat.le_refl _) _
    have k5 : Blk w5 w4.heap.size #[.slice A1 n1 c1, .slice A2 n2 c2, .slice A3 n3 c3] 24 := by rw [hw5]; exact Blk.new _ _ _
    have B35 : Hid (Below w3.heap.size w3 w5) := Lib.hid (hb.trans (bel5.mono s4))
    have K5 := Lib.hid k5
    have lt5 := k5.lt
    clear bel5 k5 CQ
    go_wp2_with fail
    rw [← hw5]
    have HW5 := Lib.hid hw5
    clear hw5
    go_wp2_with fail
    go_loopw [8, 9, 11, 20] (fun _ _ _ i wr => ∃ k : Nat, k ≤ 3 ∧ i = .int .i64 k ∧ Hid ((0 < k → ordL n rs = true) ∧ (1 < k → ordL n cs = true) ∧ (2 < k → ordL n vs = true)) ∧ Below w5.heap.size w5 wr) (fun _ _ _ i _ => 3 - (intOf i).toNat)
    case atStart => exact ⟨0, by omega, rfl, Lib.hid ⟨fun h => by omega, fun h => by omega, fun h => by omega⟩, Below.refl _ _⟩
    case round =>
      obtain ⟨k, hk, rfl, hok, hbr⟩ := hrel
      have B3r : Below w3.heap.size w3 wr := B35.out.trans (hbr.mono (by have := B35.out.size; omega))
      have hsr := hbr.size
      have g0 : wr.cell? ⟨w4.heap.size, 0, none⟩ = some (.slice A1 n1 c1) := (hbr.cell (p := ⟨w4.heap.size, 0, none⟩) lt5).trans (K5.out.cell 0)
      have g1 : wr.cell? ⟨w4.heap.size, 1, none⟩ = some (.slice A2 n2 c2) := (hbr.cell (p := ⟨w4.heap.size, 1, none⟩) lt5).trans (K5.out.cell 1)
      have g2 : wr.cell? ⟨w4.heap.size, 2, none⟩ = some (.slice A3 n3 c3) := (hbr.cell (p := ⟨w4.heap.size, 2, none⟩) lt5).trans (K5.out.cell 2)
      have HB3 := Lib.hid B3r
      have HBR := Lib.hid hbr
      clear B3r hbr
      by_cases hk3 : k < 3
      · rcases (show k = 0 ∨ k = 1 ∨ k = 2 by omega) with rfl | rfl | rfl
        · by_cases hlen : n1 = n
          · have CI := implIsOrder_any A1 n1 c1 rs wr ((RowB.below HR1.out (HB3.out.mono (by omega))).more (by omega))
            rw [ordL_isOrd ⟨hn1, hn36⟩ (by omega)] at CI
            have gl : ((n1 : Int) != (n : Int)) = false := by simp; omega
            clear hlen
            rcases hv : ordL n rs with _ | _
            · rw [hv] at CI
              have HO2 : o = false := by rw [HO.out,  hv]; simp
              subst HO2
              go_wp2_with (go_at_call 115; (with_reducible refine (CI).mono ?_); rintro e w6 ⟨rfl, hb6⟩)
              go_ret2
              exact gotT_none (BEL.out.trans ((HB3.out.trans (hb6.mono (by omega))).mono BEL.out.size))
            · rw [hv] at CI
              have HV := Lib.hid hv
              clear hv
              go_wp2_with (go_at_call 115; (with_reducible refine (CI).mono ?_); rintro e w6 ⟨rfl, hb6⟩)
              go_roundw
              case rel => exact ⟨0+1, by omega, by go_num, Lib.hid ⟨fun _ => by first | exact HV.out | trivial, fun h => by omega, fun h => by omega⟩, HBR.out.trans (hb6.mono (by omega))⟩
              case measure => simp [intOf]
          · have gl : ((n1 : Int) != (n : Int)) = true := by simp; omega
            have HO2 : o = false := by rw [HO.out,  ordL_len (show ¬ rs.length = n by omega)]; simp
            subst HO2
            go_wp2
            go_ret2
            exact gotT_none (BEL.out.trans (HB3.out.mono BEL.out.size))
        · by_cases hlen : n2 = n
          · have CI := implIsOrder_any A2 n2 c2 cs wr ((RowB.below HR2.out (HB3.out.mono (by omega))).more (by omega))
            rw [ordL_isOrd ⟨hn1, hn36⟩ (by omega)] at CI
            have gl : ((n2 : Int) != (n : Int)) = false := by simp; omega
            clear hlen
            rcases hv : ordL n cs with _ | _
            · rw [hv] at CI
              have HO2 : o = false := by rw [HO.out, hok.out.1 (by omega), hv]; simp
              subst HO2
              go_wp2_with (go_at_call 115; (with_reducible refine (CI).mono ?_); rintro e w6 ⟨rfl, hb6⟩)
              go_ret2
              exact gotT_none (BEL.out.trans ((HB3.out.trans (hb6.mono (by omega))).mono BEL.out.size))
            · rw [hv] at CI
              have HV := Lib.hid hv
              clear hv
              go_wp2_with (go_at_call 115; (with_reducible refine (CI).mono ?_); rintro e w6 ⟨rfl, hb6⟩)
              go_roundw
              case rel => exact ⟨1+1, by omega, by go_num, Lib.hid ⟨fun h => hok.out.1 (by omega), fun _ => by first | exact HV.out | trivial, fun h => by omega⟩, HBR.out.trans (hb6.mono (by omega))⟩
              case measure => simp [intOf]
          · have gl : ((n2 : Int) != (n : Int)) = true := by simp; omega
            have HO2 : o = false := by rw [HO.out, hok.out.1 (by omega), ordL_len (show ¬ cs.length = n by omega)]; simp
            subst HO2
            go_wp2
            go_ret2
            exact gotT_none (BEL.out.trans (HB3.out.mono BEL.out.size))
        · by_cases hlen : n3 = n
          · have CI := implIsOrder_any A3 n3 c3 vs wr ((RowB.below HR3.out (HB3.out.mono (by omega))).more (by omega))
            rw [ordL_isOrd ⟨hn1, hn36⟩ (by omega)] at CI
            have gl : ((n3 : Int) != (n : Int)) = false := by simp; omega
            clear hlen
            rcases hv : ordL n vs with _ | _
            · rw [hv] at CI
              have HO2 : o = false := by rw [HO.out, hok.out.1 (by omega), hok.out.2.1 (by omega), hv]; simp
              subst HO2
              go_wp2_with (go_at_call 115; (with_reducible refine (CI).mono ?_); rintro e w6 ⟨rfl, hb6⟩)
              go_ret2
              exact gotT_none (BEL.out.trans ((HB3.out.trans (hb6.mono (by omega))).mono BEL.out.size))
            · rw [hv] at CI
              have HV := Lib.hid hv
              clear hv
              go_wp2_with (go_at_call 115; (with_reducible refine (CI).mono ?_); rintro e w6 ⟨rfl, hb6⟩)
              go_roundw
              case rel => exact ⟨2+1, by omega, by go_num, Lib.hid ⟨fun h => hok.out.1 (by omega), fun h => hok.out.2.1 (by omega), fun _ => by first | exact HV.out | trivial⟩, HBR.out.trans (hb6.mono (by omega))⟩
              case measure => simp [intOf]
          · have gl : ((n3 : Int) != (n : Int)) = true := by simp; omega
            have HO2 : o = false := by rw [HO.out, hok.out.1 (by omega), hok.out.2.1 (by omega), ordL_len (show ¬ vs.length = n by omega)]; simp
            subst HO2
            go_wp2
            go_ret2
            exact gotT_none (BEL.out.trans (HB3.out.mono BEL.out.size))
      · obtain rfl : k = 3 := by omega
        have p1 := ordL_parts ⟨hn1, hn36⟩ (hok.out.1 (by omega))
        have p2 := ordL_parts ⟨hn1, hn36⟩ (hok.out.2.1 (by omega))
        have p3 := ordL_parts ⟨hn1, hn36⟩ (hok.out.2.2 (by omega))
        have HO2 : o = true := by rw [HO.out, hok.out.1 (by omega), hok.out.2.1 (by omega), hok.out.2.2 (by omega)]; rfl
        subst HO2
        have q1 : n1 = n := by omega
        have q2 : n2 = n := by omega
        have q3 : n3 = n := by omega
        subst q1 q2 q3
        have hzl := fun x y hx hy => (tabOk_cell HT.out (x := x) (y := y) hx hy).1
        have m1 := (HB3.out.cell (p := ⟨w.heap.size, 0, none⟩) (show w.heap.size < w3.heap.size by omega)).trans D1.out
        have m2 := (HB3.out.cell (p := ⟨w.heap.size + 1, 0, none⟩) (show w.heap.size + 1 < w3.heap.size by omega)).trans D2.out
        have m3 := (HB3.out.cell (p := ⟨w.heap.size + 1 + 1, 0, none⟩) (show w.heap.size + 1 + 1 < w3.heap.size by omega)).trans D3.out
        have hs3 := HB3.out.size
        have CR := rearrRen_any A n3 c t (fun x _ => fnOf rs x) (fun _ y => fnOf cs y) (fun x y => fnOf vs (cellZ t x y)) F (.pointer (some ⟨w.heap.size, 0, none⟩)) (.pointer (some ⟨w.heap.size + 1, 0, none⟩)) (.pointer (some ⟨w.heap.size + 1 + 1, 0, none⟩)) wr (HR0.out.below (HB3.out.mono (by omega))) (by omega) HT.out hn36 (ren_inj p1.2 p2.2 p1.1 p2.1) (HFF.out rfl) (fun x y hx hy => by have := ord_lt p3.2 p3.1 (hzl x y hx hy); omega)
          (fun W hW x y hx hy => renClo_any A1 A2 A3 n3 c1 c2 c3 x y (cellZ t x y) rs cs vs W ((hW.cell (p := ⟨w.heap.size, 0, none⟩) (show w.heap.size < wr.heap.size by omega)).trans m1) ((hW.cell (p := ⟨w.heap.size + 1, 0, none⟩) (show w.heap.size + 1 < wr.heap.size by omega)).trans m2) ((hW.cell (p := ⟨w.heap.size + 1 + 1, 0, none⟩) (show w.heap.size + 1 + 1 < wr.heap.size by omega)).trans m3)
            (RowB.below (RowB.below HR1.out (HB3.out.mono (by omega))) (hW.mono (by omega))) p1.2 (RowB.below (RowB.below HR2.out (HB3.out.mono (by omega))) (hW.mono (by omega))) p2.2 (RowB.below (RowB.below HR3.out (HB3.out.mono (by omega))) (hW.mono (by omega))) p3.2 hx hy (hzl x y hx hy))
        have BW : Hid (Below w.heap.size w wr) := Lib.hid (BEL.out.trans (HB3.out.mono BEL.out.size))
        clear p1 p2 p3 hzl m1 m2 m3 d1 d2 d3 g0 g1 g2
        go_wp2_with (go_at_call 116; (with_reducible refine (CR).mono ?_); rintro e w6 ⟨A', c', L, rfl, hown, hbel⟩)
        go_ret2
        exact gotT_some (hown.lower BW.out.size) (BW.out.trans (hbel.mono BW.out.size))
end Go.Proofs.Ytiokcflomchdcaa
