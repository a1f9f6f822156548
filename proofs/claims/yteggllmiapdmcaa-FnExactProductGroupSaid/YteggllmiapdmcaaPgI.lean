/-
  Products of groups, by the program.
-/
import Derived.Test.YteggllmiapdmcaaCyI
import Derived.Test.YteggllmiapdmcaaPrG
import Derived.Test.YteggllmiapdmcaaGV
import Derived.Test.YteggllmiapdmcaaHBlk
namespace Go.Proofs.Yteggllmiapdmcaa
open Go.RowKit
set_option linter.unusedSimpArgs false
set_option linter.unusedVariables false

/-- The products of pairs. -/
def pgF (s t : List (List Int)) (m x y : Nat) : Nat := m * cellZ s (x / m) (y / m) + cellZ t (x % m) (y % m)
def pgOk (s t : List (List Int)) : Bool := grpOk s && (grpOk t && decide (s.length * t.length ≤ 10))
def pgR (s t : List (List Int)) : Gp := if pgOk s t = true then ⟨gridOf (s.length * t.length) (s.length * t.length) (pgF s t t.length)⟩ else ⟨[]⟩
theorem pgR_no {s t : List (List Int)} (h : pgOk s t = false) : pgR s t = ⟨[]⟩ := by unfold pgR; rw [h]; rfl
theorem pgR_yes {s t : List (List Int)} {n m N : Nat} (h1 : s.length = n) (h2 : t.length = m) (hN : N = n * m) (h : pgOk s t = true) : pgR s t = ⟨gridOf N N (pgF s t m)⟩ := by unfold pgR; rw [if_pos h, h1, h2, hN]
theorem pgR_sum (s t : List (List Int)) : ((pgR s t).G.map List.length).sum ≤ 2000000 := by
  rcases h : pgOk s t with _ | _
  · rw [pgR_no h]; simp
  · have h2 := h
    unfold pgOk at h2
    simp only [Bool.and_eq_true, decide_eq_true_eq] at h2
    rw [pgR_yes rfl rfl rfl h]
    exact Nat.le_trans (grid_sum _ _ (by omega)) (by decide)
theorem pg_lt {n m x : Nat} (hx : x < n * m) : x / m < n ∧ x % m < m := by
  have hm : 0 < m := by
    rcases Nat.eq_zero_or_pos m with h | h
    · rw [h, Nat.mul_zero] at hx; omega
    · exact h
  exact ⟨(Nat.div_lt_iff_lt_mul hm).2 hx, Nat.mod_lt _ hm⟩

set_option maxRecDepth 100000 in
set_option maxHeartbeats 4000000 in
theorem pgClo_any {bp bq g g2 n m e e2 : Nat} {s t : List (List Int)} (x y : Nat) (W : World) (hc1 : W.cell? ⟨bq, 0, none⟩ = some (ptr g2)) (hc2 : W.cell? ⟨bp, 0, none⟩ = some (ptr g)) (h1 : Pr W g n e s) (h2 : Pr W g2 m e2 t) (hg1 : Grp s n e) (hg2 : Grp t m e2) (hx : x < n * m) (hy : y < n * m) :
    Calls Try.prog 100 #[.int .i64 x, .int .i64 y, ptr bq, ptr bp] W fun r w' => r = .returned (.int .i64 ((pgF s t m x y : Nat) : Int)) ∧ ∃ q, w' = W.drewN q := by
  have z2 := h2.size
  have lx := pg_lt hx
  have ly := pg_lt hy
  have C1 : ∀ q, Calls Try.prog 101 #[ptr g, .int .i64 ((x / m : Nat) : Int), .int .i64 ((y / m : Nat) : Int)] (W.drewN q) fun r w' => r = .returned (.int .i64 (cellZ s (x / m) (y / m) : Int)) ∧ ∃ m', w' = (W.drewN q).drewN m' := fun q => prOf_any _ _ (W.drewN q) (h1.drewN q) hg1.n10 lx.1 ly.1
  have C2 : ∀ q, Calls Try.prog 101 #[ptr g2, .int .i64 ((x % m : Nat) : Int), .int .i64 ((y % m : Nat) : Int)] (W.drewN q) fun r w' => r = .returned (.int .i64 (cellZ t (x % m) (y % m) : Int)) ∧ ∃ m', w' = (W.drewN q).drewN m' := fun q => prOf_any _ _ (W.drewN q) (h2.drewN q) hg2.n10 lx.2 ly.2
  have p1 := hg1.cell lx.1 ly.1
  have p2 := hg2.cell lx.2 ly.2
  have hm10 := hg2.n10
  have hn10 := hg1.n10
  have hm1 := hg2.n1
  obtain ⟨V, hV⟩ : ∃ V, V = pgF s t m x y := ⟨_, rfl⟩
  rw [← hV]
  unfold pgF at hV
  obtain ⟨kd, hkd⟩ : ∃ kd, kd = x / m := ⟨_, rfl⟩
  obtain ⟨jd, hjd⟩ : ∃ jd, jd = y / m := ⟨_, rfl⟩
  obtain ⟨kr, hkr⟩ : ∃ kr, kr = x % m := ⟨_, rfl⟩
  obtain ⟨jr, hjr⟩ : ∃ jr, jr = y % m := ⟨_, rfl⟩
  have i1 : (x : Int).tdiv (m : Int) = (kd : Int) := by rw [hkd]; rfl
  have i2 : (y : Int).tdiv (m : Int) = (jd : Int) := by rw [hjd]; rfl
  have i3 : (x : Int).tmod (m : Int) = (kr : Int) := by rw [hkr]; rfl
  have i4 : (y : Int).tmod (m : Int) = (jr : Int) := by rw [hjr]; rfl
  have hm0 : ¬ (m : Int) = 0 := by omega
  rw [← hkd, ← hjd] at C1 p1 hV
  rw [← hkr, ← hjr] at C2 p2 hV
  have hkdb : kd ≤ 10 := by omega
  have hjdb : jd ≤ 10 := by omega
  have hkrb : kr ≤ 10 := by omega
  have hjrb : jr ≤ 10 := by omega
  generalize cellZ s kd jd = Z1 at C1 p1 hV
  generalize cellZ t kr jr = Z2 at C2 p2 hV
  obtain ⟨M1, hM1⟩ : ∃ M1, M1 = m * Z1 := ⟨_, rfl⟩
  have j1 : (m : Int) * (Z1 : Int) = (M1 : Int) := by rw [hM1]; simp
  have hM1b : M1 ≤ 100 := by rw [hM1]; exact Nat.le_trans (Nat.mul_le_mul hm10 (show Z1 ≤ 10 by omega)) (by decide)
  rw [← hM1] at hV
  have j2 : (M1 : Int) + (Z2 : Int) = (V : Int) := by omega
  clear h1 h2 hg1 hg2 hx hy hkd hjd hkr hjr hM1 lx ly hV
  go_enter Try.func100, Try.ntmps100
  go_wp2
  go_quiet ((first | (go_at_call 101; first | ((with_reducible refine (C1 _).mono ?_); first | exact (fun _ _ ⟨he, _, hm⟩ => ⟨he, _, hm.trans (World.drewN_drewN _ _ _)⟩) | exact (fun _ _ ⟨he, _, hm⟩ => ⟨he, _, hm.trans ((World.drewN_drewN _ _ _).trans (by rw [Nat.add_assoc]))⟩)) | ((with_reducible refine (C2 _).mono ?_); first | exact (fun _ _ ⟨he, _, hm⟩ => ⟨he, _, hm.trans (World.drewN_drewN _ _ _)⟩) | exact (fun _ _ ⟨he, _, hm⟩ => ⟨he, _, hm.trans ((World.drewN_drewN _ _ _).trans (by rw [Nat.add_assoc]))⟩)))))
  go_wp2
  go_ret
  exact ⟨rfl, _, rfl⟩
set_option maxRecDepth 100000 in
set_option maxHeartbeats 8000000 in
theorem implPg_any {B1 B2 : Nat} (x y : Gp) (A : Option Addr) (n c : Nat) (A2 : Option Addr) (m c2 : Nat) (w : World) (h1 : Rows2 B1 w A n x.G) (hB1 : B1 ≤ w.heap.size) (h2 : Rows2 B2 w A2 m y.G) (hB2 : B2 ≤ w.heap.size) :
    Calls Try.prog 51 #[gpV x A n c, gpV y A2 m c2] w (MadeGB w.heap.size (pgR x.G y.G) (pgOk x.G y.G) w) := by
  obtain ⟨w1, hw1⟩ : ∃ w1, w1 = ((w.alloc (.cells #[.slice A n c] 26)).alloc (.cells #[.slice A2 m c2] 26)).alloc (.cells #[nilV] 26) := ⟨_, rfl⟩
  have bel1 : Below w.heap.size w w1 := by rw [hw1]; exact (((Below.refl _ w).alloc (Nat.le_refl _) _).alloc (by simp) _).alloc (by simp; omega) _
  have hs1 : w1.heap.size = w.heap.size + 1 + 1 + 1 := by rw [hw1]; simp
  have b0 : Blk w1 w.heap.size #[.slice A n c] 26 := by rw [hw1]; exact ((Blk.new _ _ _).alloc _).alloc _
  have b1 : Blk w1 (w.heap.size + 1) #[.slice A2 m c2] 26 := by
    rw [hw1]
    have h1 := Blk.new (w.alloc (.cells #[.slice A n c] 26)) #[.slice A2 m c2] 26
    exact Blk.alloc (by simpa using h1) _
  have b2 : Blk w1 (w.heap.size + 1 + 1) #[nilV] 26 := by
    rw [hw1]
    have h1 := Blk.new ((w.alloc (.cells #[.slice A n c] 26)).alloc (.cells #[.slice A2 m c2] 26)) #[nilV] 26
    simpa using h1
  have q0 := b0.cell 0
  have q1 := b1.cell 0
  have h1w := h1.below (bel1.mono hB1)
  have h2w := h2.below (bel1.mono hB2)
  have hl1 := h1.len
  have hl2 := h2.len
  have HB1 := Lib.hid b1
  have HB2 := Lib.hid b2
  have BEL := Lib.hid bel1
  have H2 := Lib.hid h2w
  rcases hq1 : grpOk x.G with _ | _
  · have CP1 := productsNo_any x A n c w1 h1w (show B1 ≤ w1.heap.size by omega) hq1
    have HOK : Hid (pgOk x.G y.G = false) := Lib.hid (by unfold pgOk; rw [hq1]; rfl)
    rcases hq2 : grpOk y.G with _ | _
    · have HQ2 := Lib.hid hq2
      clear bel1 b0 b1 b2 h1 h2 h1w h2w hq1 hq2
      go_enter Try.func51, Try.ntmps51
      go_wp2_with fail
      rw [← hw1]
      have HW1 := Lib.hid hw1
      clear hw1
      go_wp2_with fail
      (go_at_call 56; (with_reducible refine (CP1).mono ?_); rintro e w2 ⟨rfl, hb⟩)
      obtain ⟨w3, hw3⟩ : ∃ w3, w3 = w2.alloc (.cells #[.pointer (none)] 67) := ⟨_, rfl⟩
      have bel3 : Below w2.heap.size w2 w3 := by rw [hw3]; exact (Below.refl _ _).alloc (Nat.le_refl _) _
      have b3 : Blk w3 w2.heap.size #[.pointer (none)] 67 := by rw [hw3]; exact Blk.new _ _ _
      have hs2 := hb.size
      have hs3 := bel3.size
      have hb13 : Below w1.heap.size w1 w3 := hb.trans (bel3.mono hs2)
      have k1 : w3.cell? ⟨w.heap.size + 1, 0, none⟩ = some (.slice A2 m c2) := (hb13.cell (p := ⟨w.heap.size + 1, 0, none⟩) (show w.heap.size + 1 < w1.heap.size by omega)).trans q1
      have h2w3 := H2.out.below (hb13.mono (show B2 ≤ w1.heap.size by omega))
      have CP2 := productsNo_any y A2 m c2 w3 h2w3 (show B2 ≤ w3.heap.size by omega) HQ2.out
      have B3 := Lib.hid b3
      have HB13 := Lib.hid hb13
      have k1b := k1
      rw [hw3] at k1b
      clear bel3 b3 hb13 h2w3
      go_wp2_with fail
      rw [← hw3]
      have HW3 := Lib.hid hw3
      clear hw3
      go_wp2_with fail
      (go_at_call 56; (with_reducible refine (CP2).mono ?_); rintro e w4 ⟨rfl, hb4⟩)
      obtain ⟨w5, hw5⟩ : ∃ w5, w5 = w4.alloc (.cells #[.pointer (none)] 67) := ⟨_, rfl⟩
      have bel5 : Below w4.heap.size w4 w5 := by rw [hw5]; exact (Below.refl _ _).alloc (Nat.le_refl _) _
      have b5 : Blk w5 w4.heap.size #[.pointer (none)] 67 := by rw [hw5]; exact Blk.new _ _ _
      have hs4 := hb4.size
      have hs5 := bel5.size
      have hlt5 := b5.lt
      have hb35 : Below w3.heap.size w3 w5 := hb4.trans (bel5.mono hs4)
      have HB15 : Hid (Below w1.heap.size w1 w5) := Lib.hid (HB13.out.trans (hb35.mono (by omega)))
      have hlt3 := B3.out.lt
      have r6 : w5.cell? ⟨w2.heap.size, 0, none⟩ = some (.pointer (none)) := (hb35.cell (p := ⟨w2.heap.size, 0, none⟩) hlt3).trans (B3.out.cell 0)
      have r8 : w5.cell? ⟨w4.heap.size, 0, none⟩ = some (.pointer (none)) := b5.cell 0
      clear bel5 b5 hb35
      go_wp2_with fail
      rw [← hw5]
      have HW5 := Lib.hid hw5
      clear hw5
      have res5 : Blk w5 (w.heap.size + 1 + 1) #[nilV] 26 := HB2.out.below HB15.out (by omega)
      go_quiet (fail)
      obtain ⟨w6, hw6⟩ : ∃ w6, w6 = w5.drewN nq := ⟨_, rfl⟩
      rw [← hw6]
      have res6 : Blk w6 (w.heap.size + 1 + 1) #[nilV] 26 := by rw [hw6]; exact res5.drewN nq
      have bel6 : Below w.heap.size w w6 := by rw [hw6]; exact below_drewN (BEL.out.trans (HB15.out.mono (by omega))) nq
      have p6 := res6.cell 0
      have f6 := res6.frozen 0
      have BEL6 := Lib.hid bel6
      have RES6 := Lib.hid res6
      clear hw6 bel6 res6
      go_wp2_with fail
      obtain ⟨w9, hw9⟩ : ∃ w9, w9 = w6.setCell ⟨w.heap.size + 1 + 1, 0, none⟩ nilV := ⟨_, rfl⟩
      have hb9 := RES6.out.set 0 nilV
      rw [← hw9] at hb9
      have q9 : w9.cell? ⟨w.heap.size + 1 + 1, 0, none⟩ = some nilV := by have := hb9.cell 0; simpa using this
      have bel9 : Below w.heap.size w w9 := by rw [hw9]; exact BEL6.out.setCell (show w.heap.size ≤ w.heap.size + 1 + 1 by omega) _
      rw [← hw9]
      refine bodyPost_ret (v := .tuple #[.agg #[.slice none 0 0], .bool false]) (by simp [results, Try.results51, go_sem, q9]) rfl ?_
      exact madeGB_no (pgR_no HOK.out) HOK.out bel9
    · obtain ⟨e2, hg2⟩ := grp_of hl2 hq2
      have HG2 := Lib.hid hg2
      clear bel1 b0 b1 b2 h1 h2 h1w h2w hq1 hq2 hg2
      go_enter Try.func51, Try.ntmps51
      go_wp2_with fail
      rw [← hw1]
      have HW1 := Lib.hid hw1
      clear hw1
      go_wp2_with fail
      (go_at_call 56; (with_reducible refine (CP1).mono ?_); rintro e w2 ⟨rfl, hb⟩)
      obtain ⟨w3, hw3⟩ : ∃ w3, w3 = w2.alloc (.cells #[.pointer (none)] 67) := ⟨_, rfl⟩
      have bel3 : Below w2.heap.size w2 w3 := by rw [hw3]; exact (Below.refl _ _).alloc (Nat.le_refl _) _
      have b3 : Blk w3 w2.heap.size #[.pointer (none)] 67 := by rw [hw3]; exact Blk.new _ _ _
      have hs2 := hb.size
      have hs3 := bel3.size
      have hb13 : Below w1.heap.size w1 w3 := hb.trans (bel3.mono hs2)
      have k1 : w3.cell? ⟨w.heap.size + 1, 0, none⟩ = some (.slice A2 m c2) := (hb13.cell (p := ⟨w.heap.size + 1, 0, none⟩) (show w.heap.size + 1 < w1.heap.size by omega)).trans q1
      have h2w3 := H2.out.below (hb13.mono (show B2 ≤ w1.heap.size by omega))
      have CP2 := productsYes_any y A2 m c2 e2 w3 h2w3 (show B2 ≤ w3.heap.size by omega) HG2.out
      have B3 := Lib.hid b3
      have HB13 := Lib.hid hb13
      have k1b := k1
      rw [hw3] at k1b
      clear bel3 b3 hb13 h2w3
      go_wp2_with fail
      rw [← hw3]
      have HW3 := Lib.hid hw3
      clear hw3
      go_wp2_with fail
      (go_at_call 56; (with_reducible refine (CP2).mono ?_); rintro e w4 ⟨g2, rfl, hP2, hge2, hb4⟩)
      have hb4 := hb4.out
      obtain ⟨w5, hw5⟩ : ∃ w5, w5 = w4.alloc (.cells #[.pointer (some ⟨g2, 0, none⟩)] 67) := ⟨_, rfl⟩
      have bel5 : Below w4.heap.size w4 w5 := by rw [hw5]; exact (Below.refl _ _).alloc (Nat.le_refl _) _
      have b5 : Blk w5 w4.heap.size #[.pointer (some ⟨g2, 0, none⟩)] 67 := by rw [hw5]; exact Blk.new _ _ _
      have hs4 := hb4.size
      have hs5 := bel5.size
      have hlt5 := b5.lt
      have hb35 : Below w3.heap.size w3 w5 := hb4.trans (bel5.mono hs4)
      have HB15 : Hid (Below w1.heap.size w1 w5) := Lib.hid (HB13.out.trans (hb35.mono (by omega)))
      have hlt3 := B3.out.lt
      have r6 : w5.cell? ⟨w2.heap.size, 0, none⟩ = some (.pointer (none)) := (hb35.cell (p := ⟨w2.heap.size, 0, none⟩) hlt3).trans (B3.out.cell 0)
      have r8 : w5.cell? ⟨w4.heap.size, 0, none⟩ = some (.pointer (some ⟨g2, 0, none⟩)) := b5.cell 0
      clear bel5 b5 hb35
      go_wp2_with fail
      rw [← hw5]
      have HW5 := Lib.hid hw5
      clear hw5
      have res5 : Blk w5 (w.heap.size + 1 + 1) #[nilV] 26 := HB2.out.below HB15.out (by omega)
      go_quiet (fail)
      obtain ⟨w6, hw6⟩ : ∃ w6, w6 = w5.drewN nq := ⟨_, rfl⟩
      rw [← hw6]
      have res6 : Blk w6 (w.heap.size + 1 + 1) #[nilV] 26 := by rw [hw6]; exact res5.drewN nq
      have bel6 : Below w.heap.size w w6 := by rw [hw6]; exact below_drewN (BEL.out.trans (HB15.out.mono (by omega))) nq
      have p6 := res6.cell 0
      have f6 := res6.frozen 0
      have BEL6 := Lib.hid bel6
      have RES6 := Lib.hid res6
      clear hw6 bel6 res6
      go_wp2_with fail
      obtain ⟨w9, hw9⟩ : ∃ w9, w9 = w6.setCell ⟨w.heap.size + 1 + 1, 0, none⟩ nilV := ⟨_, rfl⟩
      have hb9 := RES6.out.set 0 nilV
      rw [← hw9] at hb9
      have q9 : w9.cell? ⟨w.heap.size + 1 + 1, 0, none⟩ = some nilV := by have := hb9.cell 0; simpa using this
      have bel9 : Below w.heap.size w w9 := by rw [hw9]; exact BEL6.out.setCell (show w.heap.size ≤ w.heap.size + 1 + 1 by omega) _
      rw [← hw9]
      refine bodyPost_ret (v := .tuple #[.agg #[.slice none 0 0], .bool false]) (by simp [results, Try.results51, go_sem, q9]) rfl ?_
      exact madeGB_no (pgR_no HOK.out) HOK.out bel9
  · obtain ⟨e, hg1⟩ := grp_of hl1 hq1
    have CP1 := productsYes_any x A n c e w1 h1w (show B1 ≤ w1.heap.size by omega) hg1
    have HG1 := Lib.hid hg1
    rcases hq2 : grpOk y.G with _ | _
    · have HQ2 := Lib.hid hq2
      have HOK : Hid (pgOk x.G y.G = false) := Lib.hid (by unfold pgOk; rw [hq2]; simp)
      clear bel1 b0 b1 b2 h1 h2 h1w h2w hq1 hq2 hg1
      go_enter Try.func51, Try.ntmps51
      go_wp2_with fail
      rw [← hw1]
      have HW1 := Lib.hid hw1
      clear hw1
      go_wp2_with fail
      (go_at_call 56; (with_reducible refine (CP1).mono ?_); rintro e w2 ⟨g, rfl, hP, hge, hb⟩)
      have hb := hb.out
      obtain ⟨w3, hw3⟩ : ∃ w3, w3 = w2.alloc (.cells #[.pointer (some ⟨g, 0, none⟩)] 67) := ⟨_, rfl⟩
      have bel3 : Below w2.heap.size w2 w3 := by rw [hw3]; exact (Below.refl _ _).alloc (Nat.le_refl _) _
      have b3 : Blk w3 w2.heap.size #[.pointer (some ⟨g, 0, none⟩)] 67 := by rw [hw3]; exact Blk.new _ _ _
      have hs2 := hb.size
      have hs3 := bel3.size
      have hb13 : Below w1.heap.size w1 w3 := hb.trans (bel3.mono hs2)
      have k1 : w3.cell? ⟨w.heap.size + 1, 0, none⟩ = some (.slice A2 m c2) := (hb13.cell (p := ⟨w.heap.size + 1, 0, none⟩) (show w.heap.size + 1 < w1.heap.size by omega)).trans q1
      have h2w3 := H2.out.below (hb13.mono (show B2 ≤ w1.heap.size by omega))
      have CP2 := productsNo_any y A2 m c2 w3 h2w3 (show B2 ≤ w3.heap.size by omega) HQ2.out
      have B3 := Lib.hid b3
      have HB13 := Lib.hid hb13
      have k1b := k1
      rw [hw3] at k1b
      clear bel3 b3 hb13 h2w3
      go_wp2_with fail
      rw [← hw3]
      have HW3 := Lib.hid hw3
      clear hw3
      go_wp2_with fail
      (go_at_call 56; (with_reducible refine (CP2).mono ?_); rintro e w4 ⟨rfl, hb4⟩)
      obtain ⟨w5, hw5⟩ : ∃ w5, w5 = w4.alloc (.cells #[.pointer (none)] 67) := ⟨_, rfl⟩
      have bel5 : Below w4.heap.size w4 w5 := by rw [hw5]; exact (Below.refl _ _).alloc (Nat.le_refl _) _
      have b5 : Blk w5 w4.heap.size #[.pointer (none)] 67 := by rw [hw5]; exact Blk.new _ _ _
      have hs4 := hb4.size
      have hs5 := bel5.size
      have hlt5 := b5.lt
      have hb35 : Below w3.heap.size w3 w5 := hb4.trans (bel5.mono hs4)
      have HB15 : Hid (Below w1.heap.size w1 w5) := Lib.hid (HB13.out.trans (hb35.mono (by omega)))
      have hlt3 := B3.out.lt
      have r6 : w5.cell? ⟨w2.heap.size, 0, none⟩ = some (.pointer (some ⟨g, 0, none⟩)) := (hb35.cell (p := ⟨w2.heap.size, 0, none⟩) hlt3).trans (B3.out.cell 0)
      have r8 : w5.cell? ⟨w4.heap.size, 0, none⟩ = some (.pointer (none)) := b5.cell 0
      clear bel5 b5 hb35
      go_wp2_with fail
      rw [← hw5]
      have HW5 := Lib.hid hw5
      clear hw5
      have res5 : Blk w5 (w.heap.size + 1 + 1) #[nilV] 26 := HB2.out.below HB15.out (by omega)
      go_quiet (fail)
      obtain ⟨w6, hw6⟩ : ∃ w6, w6 = w5.drewN nq := ⟨_, rfl⟩
      rw [← hw6]
      have res6 : Blk w6 (w.heap.size + 1 + 1) #[nilV] 26 := by rw [hw6]; exact res5.drewN nq
      have bel6 : Below w.heap.size w w6 := by rw [hw6]; exact below_drewN (BEL.out.trans (HB15.out.mono (by omega))) nq
      have p6 := res6.cell 0
      have f6 := res6.frozen 0
      have BEL6 := Lib.hid bel6
      have RES6 := Lib.hid res6
      clear hw6 bel6 res6
      go_wp2_with fail
      obtain ⟨w9, hw9⟩ : ∃ w9, w9 = w6.setCell ⟨w.heap.size + 1 + 1, 0, none⟩ nilV := ⟨_, rfl⟩
      have hb9 := RES6.out.set 0 nilV
      rw [← hw9] at hb9
      have q9 : w9.cell? ⟨w.heap.size + 1 + 1, 0, none⟩ = some nilV := by have := hb9.cell 0; simpa using this
      have bel9 : Below w.heap.size w w9 := by rw [hw9]; exact BEL6.out.setCell (show w.heap.size ≤ w.heap.size + 1 + 1 by omega) _
      rw [← hw9]
      refine bodyPost_ret (v := .tuple #[.agg #[.slice none 0 0], .bool false]) (by simp [results, Try.results51, go_sem, q9]) rfl ?_
      exact madeGB_no (pgR_no HOK.out) HOK.out bel9
    · obtain ⟨e2, hg2⟩ := grp_of hl2 hq2
      have HG2 := Lib.hid hg2
      have hn10 := hg1.n10
      have hm10 := hg2.n10
      have hm1 := hg2.n1
      obtain ⟨N, hN⟩ : ∃ N, N = n * m := ⟨_, rfl⟩
      have hNI : (n : Int) * (m : Int) = (N : Int) := by rw [hN]; simp
      have hNb : N ≤ 100 := by rw [hN]; exact Nat.le_trans (Nat.mul_le_mul hn10 hm10) (by decide)
      have HN := Lib.hid hN
      have HOK0 : Hid (pgOk x.G y.G = decide (N ≤ 10)) := Lib.hid (by unfold pgOk; rw [hq1, hq2, hl1, hl2, hN]; rfl)
      clear bel1 b0 b1 b2 h1 h2 h1w h2w hq1 hq2 hg1 hg2 hN
      by_cases hbig : N ≤ 10
      · have HOK : Hid (pgOk x.G y.G = true) := Lib.hid (by rw [HOK0.out]; simp [hbig])
        go_enter Try.func51, Try.ntmps51
        go_wp2_with fail
        rw [← hw1]
        have HW1 := Lib.hid hw1
        clear hw1
        go_wp2_with fail
        (go_at_call 56; (with_reducible refine (CP1).mono ?_); rintro e w2 ⟨g, rfl, hP, hge, hb⟩)
        have hb := hb.out
        obtain ⟨w3, hw3⟩ : ∃ w3, w3 = w2.alloc (.cells #[.pointer (some ⟨g, 0, none⟩)] 67) := ⟨_, rfl⟩
        have bel3 : Below w2.heap.size w2 w3 := by rw [hw3]; exact (Below.refl _ _).alloc (Nat.le_refl _) _
        have b3 : Blk w3 w2.heap.size #[.pointer (some ⟨g, 0, none⟩)] 67 := by rw [hw3]; exact Blk.new _ _ _
        have hs2 := hb.size
        have hs3 := bel3.size
        have hb13 : Below w1.heap.size w1 w3 := hb.trans (bel3.mono hs2)
        have k1 : w3.cell? ⟨w.heap.size + 1, 0, none⟩ = some (.slice A2 m c2) := (hb13.cell (p := ⟨w.heap.size + 1, 0, none⟩) (show w.heap.size + 1 < w1.heap.size by omega)).trans q1
        have h2w3 := H2.out.below (hb13.mono (show B2 ≤ w1.heap.size by omega))
        have CP2 := productsYes_any y A2 m c2 e2 w3 h2w3 (show B2 ≤ w3.heap.size by omega) HG2.out
        have B3 := Lib.hid b3
        have HB13 := Lib.hid hb13
        have k1b := k1
        rw [hw3] at k1b
        clear bel3 b3 hb13 h2w3
        go_wp2_with fail
        rw [← hw3]
        have HW3 := Lib.hid hw3
        clear hw3
        go_wp2_with fail
        (go_at_call 56; (with_reducible refine (CP2).mono ?_); rintro e w4 ⟨g2, rfl, hP2, hge2, hb4⟩)
        have hb4 := hb4.out
        obtain ⟨w5, hw5⟩ : ∃ w5, w5 = w4.alloc (.cells #[.pointer (some ⟨g2, 0, none⟩)] 67) := ⟨_, rfl⟩
        have bel5 : Below w4.heap.size w4 w5 := by rw [hw5]; exact (Below.refl _ _).alloc (Nat.le_refl _) _
        have b5 : Blk w5 w4.heap.size #[.pointer (some ⟨g2, 0, none⟩)] 67 := by rw [hw5]; exact Blk.new _ _ _
        have hs4 := hb4.size
        have hs5 := bel5.size
        have hlt5 := b5.lt
        have hb35 : Below w3.heap.size w3 w5 := hb4.trans (bel5.mono hs4)
        have HB15 : Hid (Below w1.heap.size w1 w5) := Lib.hid (HB13.out.trans (hb35.mono (by omega)))
        have hlt3 := B3.out.lt
        have r6 : w5.cell? ⟨w2.heap.size, 0, none⟩ = some (.pointer (some ⟨g, 0, none⟩)) := (hb35.cell (p := ⟨w2.heap.size, 0, none⟩) hlt3).trans (B3.out.cell 0)
        have r8 : w5.cell? ⟨w4.heap.size, 0, none⟩ = some (.pointer (some ⟨g2, 0, none⟩)) := b5.cell 0
        have hP5 : Pr w5 g n e x.G := (hP.out.below (Below.refl _ _) hP.out.lt |>.below (show Below w2.heap.size w2 w5 from ((by rw [HW3.out]; exact (Below.refl _ _).alloc (Nat.le_refl _) _ : Below w2.heap.size w2 w3)).trans (hb35.mono (by omega))) hP.out.lt)
        have hP52 : Pr w5 g2 m e2 y.G := hP2.out.below bel5 hP2.out.lt
        have z1 := hP5.size
        have z2 := hP52.size
        have hgl := hP5.lt
        have hgl2 := hP52.lt
        have HP5 := Lib.hid hP5
        have HP52 := Lib.hid hP52
        clear hP5 hP52
        clear bel5 b5 hb35
        go_wp2_with fail
        rw [← hw5]
        have HW5 := Lib.hid hw5
        clear hw5
        have res5 : Blk w5 (w.heap.size + 1 + 1) #[nilV] 26 := HB2.out.below HB15.out (by omega)
        go_quiet (fail)
        obtain ⟨w6, hw6⟩ : ∃ w6, w6 = w5.drewN nq := ⟨_, rfl⟩
        rw [← hw6]
        have res6 : Blk w6 (w.heap.size + 1 + 1) #[nilV] 26 := by rw [hw6]; exact res5.drewN nq
        have bel6 : Below w.heap.size w w6 := by rw [hw6]; exact below_drewN (BEL.out.trans (HB15.out.mono (by omega))) nq
        have y1 : w6.cell? ⟨w2.heap.size, 0, none⟩ = some (ptr g) := by rw [hw6]; exact r6
        have y2 : w6.cell? ⟨w4.heap.size, 0, none⟩ = some (ptr g2) := by rw [hw6]; exact r8
        have y3 : w6.cell? ⟨g, 0, none⟩ = some (.int .i64 n) := by rw [hw6]; exact z1
        have y4 : w6.cell? ⟨g2, 0, none⟩ = some (.int .i64 m) := by rw [hw6]; exact z2
        have hs6 : w6.heap.size = w5.heap.size := by rw [hw6]; rfl
        have s1 : w2.heap.size < w6.heap.size := by omega
        have s2 : w4.heap.size < w6.heap.size := by omega
        have s3 : g < w6.heap.size := by omega
        have s4 : g2 < w6.heap.size := by omega
        have s5 : w.heap.size + 1 + 1 < w6.heap.size := by omega
        have hge' := hge.out
        have hge2' := hge2.out
        have n1 : w2.heap.size ≠ w.heap.size + 1 + 1 := by omega
        have n2 : w4.heap.size ≠ w.heap.size + 1 + 1 := by omega
        have n3 : g ≠ w.heap.size + 1 + 1 := by omega
        have n4 : g2 ≠ w.heap.size + 1 + 1 := by omega
        have CG : Calls Try.prog 62 #[.int .i64 N, .func (.func 100) #[] #[ptr w4.heap.size, ptr w2.heap.size]] w6.drew (MadeA w6.heap.size N (pgF x.G y.G m) w6.drew) := by
          refine (groupOfProd_any N (pgF x.G y.G m) (ptr w4.heap.size) (ptr w2.heap.size) w6.drew (by omega) (fun a b ha hb => ?_) (fun W hW a b ha hb => ?_)).mono (fun _ _ => madeA_of)
          · have ha' : a < n * m := by rw [← HN.out]; exact ha
            have hb' : b < n * m := by rw [← HN.out]; exact hb
            have l1 := pg_lt ha'
            have l2 := pg_lt hb'
            have c1 := HG1.out.cell l1.1 l2.1
            have c2 := HG2.out.cell l1.2 l2.2
            have := Nat.mul_le_mul hm10 (show cellZ x.G (a / m) (b / m) ≤ 10 by omega)
            unfold pgF
            omega
          · have hb6 : Below w6.heap.size w6 W := ⟨hW.os, hW.tape, hW.output, hW.size, hW.block⟩
            have P1 : Pr w6 g n e x.G := by rw [hw6]; exact HP5.out.drewN nq
            have P2 : Pr w6 g2 m e2 y.G := by rw [hw6]; exact HP52.out.drewN nq
            exact pgClo_any a b W ((hb6.cell (p := ⟨w4.heap.size, 0, none⟩) s2).trans y2) ((hb6.cell (p := ⟨w2.heap.size, 0, none⟩) s1).trans y1) (P1.below hb6 s3) (P2.below hb6 s4) HG1.out HG2.out (by rw [← HN.out]; exact ha) (by rw [← HN.out]; exact hb)
        have HSZ6 : Hid (w.heap.size ≤ w6.heap.size) := Lib.hid (by omega)
        have BEL6 := Lib.hid bel6
        have RES6 := Lib.hid res6
        clear hw6 bel6 res6
        go_wp2_with fail
        refine region_held_n 13 (fun w' => w'.cell? ⟨w2.heap.size, 0, none⟩ = some (ptr g) ∧ w'.cell? ⟨w4.heap.size, 0, none⟩ = some (ptr g2) ∧ w'.cell? ⟨g, 0, none⟩ = some (.int .i64 n) ∧ w'.cell? ⟨g2, 0, none⟩ = some (.int .i64 m)) (by kernel_rfl) (by kernel_rfl) ⟨y1, y2, y3, y4⟩ (fun hS => ?_)
        refine takeD 0 (some 39) (v := ?_) rfl (by kernel_rfl) (by kernel_rfl) (by kernel_rfl) (fun _ _ _ h => h) hS (fun o ho => Or.inl ⟨by cases ho; rfl, ?_⟩) ?_
        rotate_left
        · cases ho
          intro w' hw'
          (try dsimp only at hw')
          go_simp
          (try with_reducible rfl)
        (try simp only [Act.put, List.setIfInBounds_toArray, List.set_cons_zero, List.set_cons_succ])
        refine takeD 1 (some 40) (v := ?_) rfl (by kernel_rfl) (by kernel_rfl) (by kernel_rfl) (fun _ _ _ h => h) hS (fun o ho => Or.inl ⟨by cases ho; rfl, ?_⟩) ?_
        rotate_left
        · cases ho
          intro w' hw'
          (try dsimp only at hw')
          go_simp
          (try with_reducible rfl)
        (try simp only [Act.put, List.setIfInBounds_toArray, List.set_cons_zero, List.set_cons_succ])
        refine takeD 2 (some 41) (v := ?_) rfl (by kernel_rfl) (by kernel_rfl) (by kernel_rfl) (fun _ _ _ h => h) hS (fun o ho => Or.inl ⟨by cases ho; rfl, ?_⟩) ?_
        rotate_left
        · cases ho
          intro w' hw'
          (try dsimp only at hw')
          go_simp
          (try with_reducible rfl)
        (try simp only [Act.put, List.setIfInBounds_toArray, List.set_cons_zero, List.set_cons_succ])
        refine takeD 3 (some 42) (v := ?_) rfl (by kernel_rfl) (by kernel_rfl) (by kernel_rfl) (fun _ _ _ h => h) hS (fun o ho => Or.inl ⟨by cases ho; rfl, ?_⟩) ?_
        rotate_left
        · cases ho
          intro w' hw'
          (try dsimp only at hw')
          go_simp
          (try with_reducible rfl)
        (try simp only [Act.put, List.setIfInBounds_toArray, List.set_cons_zero, List.set_cons_succ])
        refine takeD 4 (some 43) (v := ?_) rfl (by kernel_rfl) (by kernel_rfl) (by kernel_rfl) (fun _ _ _ h => h) hS (fun o ho => Or.inl ⟨by cases ho; rfl, ?_⟩) ?_
        rotate_left
        · cases ho
          intro w' hw'
          (try dsimp only at hw')
          go_simp
          (try with_reducible rfl)
        (try simp only [Act.put, List.setIfInBounds_toArray, List.set_cons_zero, List.set_cons_succ])
        refine takeD 5 (some 44) (v := ?_) rfl (by kernel_rfl) (by kernel_rfl) (by kernel_rfl) (fun _ _ _ h => h) hS (fun o ho => Or.inl ⟨by cases ho; rfl, ?_⟩) ?_
        rotate_left
        · cases ho
          intro w' hw'
          (try dsimp only at hw')
          go_simp
          (try with_reducible rfl)
        (try simp only [Act.put, List.setIfInBounds_toArray, List.set_cons_zero, List.set_cons_succ])
        refine takeD 6 (some 45) (v := ?_) rfl (by kernel_rfl) (by kernel_rfl) (by kernel_rfl) (fun _ _ _ h => h) hS (fun o ho => Or.inl ⟨by cases ho; rfl, ?_⟩) ?_
        rotate_left
        · cases ho
          intro w' hw'
          (try dsimp only at hw')
          go_simp
          (try with_reducible rfl)
        (try simp only [Act.put, List.setIfInBounds_toArray, List.set_cons_zero, List.set_cons_succ])
        refine takeD 7 (some 46) (v := ?_) rfl (by kernel_rfl) (by kernel_rfl) (by kernel_rfl) (fun _ _ _ h => h) hS (fun o ho => Or.inl ⟨by cases ho; rfl, ?_⟩) ?_
        rotate_left
        · cases ho
          intro w' hw'
          (try dsimp only at hw')
          go_simp
          (try with_reducible rfl)
        (try simp only [Act.put, List.setIfInBounds_toArray, List.set_cons_zero, List.set_cons_succ])
        refine takeD 8 (some 47) (v := ?_) rfl (by kernel_rfl) (by kernel_rfl) (by kernel_rfl) (fun _ _ _ h => h) hS (fun o ho => Or.inl ⟨by cases ho; rfl, ?_⟩) ?_
        rotate_left
        · cases ho
          intro w' hw'
          (try dsimp only at hw')
          go_simp
          (try with_reducible rfl)
        (try simp only [Act.put, List.setIfInBounds_toArray, List.set_cons_zero, List.set_cons_succ])
        refine takeD 9 (some 48) (v := ?_) rfl (by kernel_rfl) (by kernel_rfl) (by kernel_rfl) (fun _ _ _ h => h) hS (fun o ho => Or.inl ⟨by cases ho; rfl, ?_⟩) ?_
        rotate_left
        · cases ho
          intro w' hw'
          (try dsimp only at hw')
          go_simp
          (try with_reducible rfl)
        (try simp only [Act.put, List.setIfInBounds_toArray, List.set_cons_zero, List.set_cons_succ])
        refine oneD 10 (some 49) (by kernel_rfl) rfl (fun o ho K hK hdo => ?_)
        simp only [List.getElem?_toArray, List.getElem?_cons_succ, List.getElem?_cons_zero, Option.some.injEq] at ho
        subst ho
        clear hdo
        rw [if_pos (by rfl)]
        go_wp2_with fail
        (go_at_call 62; (with_reducible refine (CG).mono ?_); rintro e w7 ⟨A3, c3, L, rfl, ho, hb7⟩)
        have HO7 := Lib.hid ho
        have HB7 := Lib.hid hb7
        have x1 := (hb7.cell (p := ⟨w2.heap.size, 0, none⟩) s1).trans y1
        have x2 := (hb7.cell (p := ⟨w4.heap.size, 0, none⟩) s2).trans y2
        have x3 := (hb7.cell (p := ⟨g, 0, none⟩) s3).trans y3
        have x4 := (hb7.cell (p := ⟨g2, 0, none⟩) s4).trans y4
        have res7 := RES6.out.below (show Below w6.heap.size w6 w7 from ⟨hb7.os, hb7.tape, hb7.output, hb7.size, hb7.block⟩) s5
        have p7 := res7.cell 0
        have f7 := res7.frozen 0
        clear ho hb7
        refine hK.out _ _ ?_ (fun hS => ?_)
        · exact ⟨x1, x2, x3, x4⟩
        clear hK K
        (try simp only [Act.put, List.setIfInBounds_toArray, List.set_cons_zero, List.set_cons_succ])
        refine oneD 11 none (by kernel_rfl) rfl (fun o ho K hK hdo => ?_)
        simp only [List.getElem?_toArray, List.getElem?_cons_succ, List.getElem?_cons_zero, Option.some.injEq] at ho
        subst ho
        clear hdo
        rw [if_pos (by rfl)]
        go_wp2_with (fail)
        refine hK.out undef _ ?_ (fun hS => ?_)
        · exact ⟨(World.cell?_of_block (Below.heap_setCell w7 ⟨w.heap.size + 1 + 1, 0, none⟩ (.slice A3 N c3) _ n1)).trans x1, (World.cell?_of_block (Below.heap_setCell w7 ⟨w.heap.size + 1 + 1, 0, none⟩ (.slice A3 N c3) _ n2)).trans x2, (World.cell?_of_block (Below.heap_setCell w7 ⟨w.heap.size + 1 + 1, 0, none⟩ (.slice A3 N c3) _ n3)).trans x3, (World.cell?_of_block (Below.heap_setCell w7 ⟨w.heap.size + 1 + 1, 0, none⟩ (.slice A3 N c3) _ n4)).trans x4⟩
        clear hK K
        (try simp only [Act.put, List.setIfInBounds_toArray, List.set_cons_zero, List.set_cons_succ])
        refine takeD 12 (some 5) (v := ?_) rfl (by kernel_rfl) (by kernel_rfl) (by kernel_rfl) (fun _ _ _ h => h) hS (fun o ho => Or.inl ⟨by cases ho; rfl, ?_⟩) ?_
        rotate_left
        · cases ho
          intro w' hw'
          (try dsimp only at hw')
          go_simp
          (try with_reducible rfl)
        (try simp only [Act.put, List.setIfInBounds_toArray, List.set_cons_zero, List.set_cons_succ])
        refine wpAnyH_done (by kernel_rfl) ?_ _
        clear hS
        go_wp2_with fail
        obtain ⟨w9, hw9⟩ : ∃ w9, w9 = w7.setCell ⟨w.heap.size + 1 + 1, 0, none⟩ (.slice A3 N c3) := ⟨_, rfl⟩
        have hb9 := res7.set 0 (.slice A3 N c3)
        rw [← hw9] at hb9
        have q9 : w9.cell? ⟨w.heap.size + 1 + 1, 0, none⟩ = some (.slice A3 N c3) := by have := hb9.cell 0; simpa using this
        have hown9 : Own2 w.heap.size w9 A3 N c3 L (gridOf N N (pgF x.G y.G m)) := by
          have ho := HO7.out
          rw [hw9]
          exact (ho.keepL (fun q hq => Below.heap_setCell w7 ⟨w.heap.size + 1 + 1, 0, none⟩ _ q (by have := ho.ofrom q hq; show q ≠ w.heap.size + 1 + 1; omega)) (fun t ht q hq => Below.heap_setCell w7 ⟨w.heap.size + 1 + 1, 0, none⟩ _ q (by have := ho.from t ht q hq; show q ≠ w.heap.size + 1 + 1; omega))).lower HSZ6.out
        have bel9 : Below w.heap.size w w9 := by
          rw [hw9]
          exact ((below_drew BEL6.out).trans (HB7.out.mono HSZ6.out)).setCell (show w.heap.size ≤ w.heap.size + 1 + 1 by omega) _
        rw [← hw9]
        refine bodyPost_ret (v := .tuple #[.agg #[.slice A3 N c3], .bool true]) (by simp [results, Try.results51, go_sem, q9]) rfl ?_
        exact madeGB_yes (pgR_yes hl1 hl2 HN.out HOK.out) HOK.out hown9 bel9
      · have HOK : Hid (pgOk x.G y.G = false) := Lib.hid (by rw [HOK0.out]; simp [hbig])
        have hbig2 : (10 : Int) < (N : Int) := by omega
        go_enter Try.func51, Try.ntmps51
        go_wp2_with fail
        rw [← hw1]
        have HW1 := Lib.hid hw1
        clear hw1
        go_wp2_with fail
        (go_at_call 56; (with_reducible refine (CP1).mono ?_); rintro e w2 ⟨g, rfl, hP, hge, hb⟩)
        have hb := hb.out
        obtain ⟨w3, hw3⟩ : ∃ w3, w3 = w2.alloc (.cells #[.pointer (some ⟨g, 0, none⟩)] 67) := ⟨_, rfl⟩
        have bel3 : Below w2.heap.size w2 w3 := by rw [hw3]; exact (Below.refl _ _).alloc (Nat.le_refl _) _
        have b3 : Blk w3 w2.heap.size #[.pointer (some ⟨g, 0, none⟩)] 67 := by rw [hw3]; exact Blk.new _ _ _
        have hs2 := hb.size
        have hs3 := bel3.size
        have hb13 : Below w1.heap.size w1 w3 := hb.trans (bel3.mono hs2)
        have k1 : w3.cell? ⟨w.heap.size + 1, 0, none⟩ = some (.slice A2 m c2) := (hb13.cell (p := ⟨w.heap.size + 1, 0, none⟩) (show w.heap.size + 1 < w1.heap.size by omega)).trans q1
        have h2w3 := H2.out.below (hb13.mono (show B2 ≤ w1.heap.size by omega))
        have CP2 := productsYes_any y A2 m c2 e2 w3 h2w3 (show B2 ≤ w3.heap.size by omega) HG2.out
        have B3 := Lib.hid b3
        have HB13 := Lib.hid hb13
        have k1b := k1
        rw [hw3] at k1b
        clear bel3 b3 hb13 h2w3
        go_wp2_with fail
        rw [← hw3]
        have HW3 := Lib.hid hw3
        clear hw3
        go_wp2_with fail
        (go_at_call 56; (with_reducible refine (CP2).mono ?_); rintro e w4 ⟨g2, rfl, hP2, hge2, hb4⟩)
        have hb4 := hb4.out
        obtain ⟨w5, hw5⟩ : ∃ w5, w5 = w4.alloc (.cells #[.pointer (some ⟨g2, 0, none⟩)] 67) := ⟨_, rfl⟩
        have bel5 : Below w4.heap.size w4 w5 := by rw [hw5]; exact (Below.refl _ _).alloc (Nat.le_refl _) _
        have b5 : Blk w5 w4.heap.size #[.pointer (some ⟨g2, 0, none⟩)] 67 := by rw [hw5]; exact Blk.new _ _ _
        have hs4 := hb4.size
        have hs5 := bel5.size
        have hlt5 := b5.lt
        have hb35 : Below w3.heap.size w3 w5 := hb4.trans (bel5.mono hs4)
        have HB15 : Hid (Below w1.heap.size w1 w5) := Lib.hid (HB13.out.trans (hb35.mono (by omega)))
        have hlt3 := B3.out.lt
        have r6 : w5.cell? ⟨w2.heap.size, 0, none⟩ = some (.pointer (some ⟨g, 0, none⟩)) := (hb35.cell (p := ⟨w2.heap.size, 0, none⟩) hlt3).trans (B3.out.cell 0)
        have r8 : w5.cell? ⟨w4.heap.size, 0, none⟩ = some (.pointer (some ⟨g2, 0, none⟩)) := b5.cell 0
        have hP5 : Pr w5 g n e x.G := (hP.out.below (Below.refl _ _) hP.out.lt |>.below (show Below w2.heap.size w2 w5 from ((by rw [HW3.out]; exact (Below.refl _ _).alloc (Nat.le_refl _) _ : Below w2.heap.size w2 w3)).trans (hb35.mono (by omega))) hP.out.lt)
        have hP52 : Pr w5 g2 m e2 y.G := hP2.out.below bel5 hP2.out.lt
        have z1 := hP5.size
        have z2 := hP52.size
        have hgl := hP5.lt
        have hgl2 := hP52.lt
        have HP5 := Lib.hid hP5
        have HP52 := Lib.hid hP52
        clear hP5 hP52
        clear bel5 b5 hb35
        go_wp2_with fail
        rw [← hw5]
        have HW5 := Lib.hid hw5
        clear hw5
        have res5 : Blk w5 (w.heap.size + 1 + 1) #[nilV] 26 := HB2.out.below HB15.out (by omega)
        go_quiet (fail)
        obtain ⟨w6, hw6⟩ : ∃ w6, w6 = w5.drewN nq := ⟨_, rfl⟩
        rw [← hw6]
        have res6 : Blk w6 (w.heap.size + 1 + 1) #[nilV] 26 := by rw [hw6]; exact res5.drewN nq
        have bel6 : Below w.heap.size w w6 := by rw [hw6]; exact below_drewN (BEL.out.trans (HB15.out.mono (by omega))) nq
        have p6 := res6.cell 0
        have f6 := res6.frozen 0
        have BEL6 := Lib.hid bel6
        have RES6 := Lib.hid res6
        clear hw6 bel6 res6
        go_wp2_with fail
        obtain ⟨w9, hw9⟩ : ∃ w9, w9 = w6.setCell ⟨w.heap.size + 1 + 1, 0, none⟩ nilV := ⟨_, rfl⟩
        have hb9 := RES6.out.set 0 nilV
        rw [← hw9] at hb9
        have q9 : w9.cell? ⟨w.heap.size + 1 + 1, 0, none⟩ = some nilV := by have := hb9.cell 0; simpa using this
        have bel9 : Below w.heap.size w w9 := by rw [hw9]; exact BEL6.out.setCell (show w.heap.size ≤ w.heap.size + 1 + 1 by omega) _
        rw [← hw9]
        refine bodyPost_ret (v := .tuple #[.agg #[.slice none 0 0], .bool false]) (by simp [results, Try.results51, go_sem, q9]) rfl ?_
        exact madeGB_no (pgR_no HOK.out) HOK.out bel9
end Go.Proofs.Yteggllmiapdmcaa
