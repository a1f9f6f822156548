/-
  Products of groups, by the model.
-/
import Derived.Test.YteggllmiapdmcaaPgI
import Derived.Test.YteggllmiapdmcaaLast
import Derived.Deep.AppendLies
namespace Go.Proofs.Yteggllmiapdmcaa
open Go.RowKit
set_option linter.unusedSimpArgs false
set_option linter.unusedVariables false

set_option maxRecDepth 100000 in
set_option maxHeartbeats 8000000 in
theorem specPg_any {B1 B2 : Nat} (x y : Gp) (A : Option Addr) (n c : Nat) (A2 : Option Addr) (m c2 : Nat) (w : World) (h1 : Rows2 B1 w A n x.G) (hB1 : B1 ≤ w.heap.size) (h2 : Rows2 B2 w A2 m y.G) (hB2 : B2 ≤ w.heap.size) :
    Calls Try.prog 50 #[gpV x A n c, gpV y A2 m c2] w (MadeGB w.heap.size (pgR x.G y.G) (pgOk x.G y.G) w) := by
  obtain ⟨w1, hw1⟩ : ∃ w1, w1 = ((w.alloc (.cells #[.slice A n c] 26)).alloc (.cells #[.slice A2 m c2] 26)).alloc (.cells #[nilV] 26) := ⟨_, rfl⟩
  have bel1 : Below w.heap.size w w1 := by rw [hw1]; exact (((Below.refl _ w).alloc (Nat.le_refl _) _).alloc (by simp) _).alloc (by simp; omega) _
  have hs1 : w1.heap.size = w.heap.size + 1 + 1 + 1 := by rw [hw1]; simp
  have b0 : Blk w1 w.heap.size #[.slice A n c] 26 := by rw [hw1]; exact ((Blk.new _ _ _).alloc _).alloc _
  have b1 : Blk w1 (w.heap.size + 1) #[.slice A2 m c2] 26 := by
    rw [hw1]
    have h1 := Blk.new (w.alloc (.cells #[.slice A n c] 26)) #[.slice A2 m c2] 26
    exact Blk.alloc (by simpa using h1) _
  have b2 : Blk w1 (w.heap.size + 1 + 1) #[nilV] 26 := by
    rw [hw1]
    have h1 := Blk.new ((w.alloc (.cells #[.slice A n c] 26)).alloc (.cells #[.slice A2 m c2] 26)) #[nilV] 26
    simpa using h1
  have q0 := b0.cell 0
  have q1 := b1.cell 0
  have h1w := h1.below (bel1.mono hB1)
  have h2w := h2.below (bel1.mono hB2)
  have hl1 := h1.len
  have hl2 := h2.len
  have HB1 := Lib.hid b1
  have HB2 := Lib.hid b2
  have BEL := Lib.hid bel1
  have H2 := Lib.hid h2w
  have CI1 := l05Is_any A n c x.G w1 q0 h1w
  have hle1 := h1.le
  have hle2 := h2.le
  rcases hq1 : grpOk x.G with _ | _
  · rw [hq1] at CI1
    have HOK : Hid (pgOk x.G y.G = false) := Lib.hid (by unfold pgOk; rw [hq1]; rfl)
    clear bel1 b0 b1 b2 h1 h2 h1w h2w hq1
    go_enter Try.func50, Try.ntmps50
    go_wp2_with fail
    rw [← hw1]
    have HW1 := Lib.hid hw1
    clear hw1
    go_wp2_with fail
    (go_at_call 69; (with_reducible refine (CI1).mono ?_); rintro e w' ⟨rfl, q, rfl⟩)
    obtain ⟨w6, hw6⟩ : ∃ w6, w6 = w1.drewN q := ⟨_, rfl⟩
    rw [← hw6]
    have res6 : Blk w6 (w.heap.size + 1 + 1) #[nilV] 26 := by rw [hw6]; exact HB2.out.drewN q
    have bel6 : Below w.heap.size w w6 := by rw [hw6]; exact below_drewN BEL.out q
    have p6 := res6.cell 0
    have f6 := res6.frozen 0
    have q06 : w6.cell? ⟨w.heap.size, 0, none⟩ = some (.slice A n c) := by rw [hw6]; exact q0
    have q16 : w6.cell? ⟨w.heap.size + 1, 0, none⟩ = some (.slice A2 m c2) := by rw [hw6]; exact q1
    have BEL6 := Lib.hid bel6
    have RES6 := Lib.hid res6
    clear hw6 bel6 res6
    go_wp2_with fail
    obtain ⟨w9, hw9⟩ : ∃ w9, w9 = w6.setCell ⟨w.heap.size + 1 + 1, 0, none⟩ nilV := ⟨_, rfl⟩
    have hb9 := RES6.out.set 0 nilV
    rw [← hw9] at hb9
    have q9 : w9.cell? ⟨w.heap.size + 1 + 1, 0, none⟩ = some nilV := by have := hb9.cell 0; simpa using this
    have bel9 : Below w.heap.size w w9 := by rw [hw9]; exact BEL6.out.setCell (show w.heap.size ≤ w.heap.size + 1 + 1 by omega) _
    rw [← hw9]
    refine bodyPost_ret (v := .tuple #[.agg #[.slice none 0 0], .bool false]) (by simp [results, Try.results50, go_sem, q9]) rfl ?_
    exact madeGB_no (pgR_no HOK.out) HOK.out bel9
  · rw [hq1] at CI1
    obtain ⟨e, hg1⟩ := grp_of hl1 hq1
    have CI2 : ∀ q, Calls Try.prog 69 #[ptr (w.heap.size + 1)] (w1.drewN q) fun r w' => r = .returned (.bool (grpOk y.G)) ∧ ∃ m', w' = w1.drewN m' := fun q => (l05Is_any A2 m c2 y.G (w1.drewN q) q1 (h2w.drewN q)).mono fun r w' ⟨h1, m', h2⟩ => ⟨h1, q + m', by rw [h2, World.drewN_drewN]⟩
    rcases hq2 : grpOk y.G with _ | _
    · rw [hq2] at CI2
      have HOK : Hid (pgOk x.G y.G = false) := Lib.hid (by unfold pgOk; rw [hq2]; simp)
      clear bel1 b0 b1 b2 h1 h2 h1w h2w hq1 hq2 hg1
      go_enter Try.func50, Try.ntmps50
      go_wp2_with fail
      rw [← hw1]
      have HW1 := Lib.hid hw1
      clear hw1
      go_wp2_with fail
      (go_at_call 69; (with_reducible refine (CI1).mono ?_); rintro e w' ⟨rfl, q, rfl⟩)
      go_wp2_with fail
      (go_at_call 69; (with_reducible refine (CI2 q).mono ?_); rintro e w' ⟨rfl, q2, rfl⟩)
      obtain ⟨w6, hw6⟩ : ∃ w6, w6 = w1.drewN q2 := ⟨_, rfl⟩
      rw [← hw6]
      have res6 : Blk w6 (w.heap.size + 1 + 1) #[nilV] 26 := by rw [hw6]; exact HB2.out.drewN q2
      have bel6 : Below w.heap.size w w6 := by rw [hw6]; exact below_drewN BEL.out q2
      have p6 := res6.cell 0
      have f6 := res6.frozen 0
      have q06 : w6.cell? ⟨w.heap.size, 0, none⟩ = some (.slice A n c) := by rw [hw6]; exact q0
      have q16 : w6.cell? ⟨w.heap.size + 1, 0, none⟩ = some (.slice A2 m c2) := by rw [hw6]; exact q1
      have BEL6 := Lib.hid bel6
      have RES6 := Lib.hid res6
      clear hw6 bel6 res6
      go_wp2_with fail
      obtain ⟨w9, hw9⟩ : ∃ w9, w9 = w6.setCell ⟨w.heap.size + 1 + 1, 0, none⟩ nilV := ⟨_, rfl⟩
      have hb9 := RES6.out.set 0 nilV
      rw [← hw9] at hb9
      have q9 : w9.cell? ⟨w.heap.size + 1 + 1, 0, none⟩ = some nilV := by have := hb9.cell 0; simpa using this
      have bel9 : Below w.heap.size w w9 := by rw [hw9]; exact BEL6.out.setCell (show w.heap.size ≤ w.heap.size + 1 + 1 by omega) _
      rw [← hw9]
      refine bodyPost_ret (v := .tuple #[.agg #[.slice none 0 0], .bool false]) (by simp [results, Try.results50, go_sem, q9]) rfl ?_
      exact madeGB_no (pgR_no HOK.out) HOK.out bel9
    · rw [hq2] at CI2
      obtain ⟨e2, hg2⟩ := grp_of hl2 hq2
      have HG1 := Lib.hid hg1
      have HG2 := Lib.hid hg2
      have hn10 := hg1.n10
      have hm10 := hg2.n10
      have hn1 := hg1.n1
      have hm1 := hg2.n1
      obtain ⟨N, hN⟩ : ∃ N, N = n * m := ⟨_, rfl⟩
      have hNI : (n : Int) * (m : Int) = (N : Int) := by rw [hN]; simp
      have hNb : N ≤ 100 := by rw [hN]; exact Nat.le_trans (Nat.mul_le_mul hn10 hm10) (by decide)
      have HN := Lib.hid hN
      have HOK0 : Hid (pgOk x.G y.G = decide (N ≤ 10)) := Lib.hid (by unfold pgOk; rw [hq1, hq2, hl1, hl2, hN]; rfl)
      by_cases hbig : N ≤ 10
      · have HOK : Hid (pgOk x.G y.G = true) := Lib.hid (by rw [HOK0.out]; simp [hbig])
        obtain ⟨b, o, P, Q, C, rfl, hT1⟩ := tabR_of h1w hg1.tab (show 0 < n by omega)
        obtain ⟨b', o', P', Q', C', rfl, hT2⟩ := tabR_of h2w hg2.tab (show 0 < m by omega)
        have HTS := Lib.hid hT1
        have HTT := Lib.hid hT2
        have HFB : Hid (∀ a d, a < N → d < N → pgF x.G y.G m a d ≤ 110) := Lib.hid (fun a d ha hd => by
          have l1 := pg_lt (show a < n * m by rw [← hN]; exact ha)
          have l2 := pg_lt (show d < n * m by rw [← hN]; exact hd)
          have c1 := hg1.cell l1.1 l2.1
          have c2 := hg2.cell l1.2 l2.2
          have := Nat.mul_le_mul hm10 (show cellZ x.G (a / m) (d / m) ≤ 10 by omega)
          unfold pgF
          omega)
        obtain ⟨i0, hin, hz0, hz1, hz2⟩ := info_parts infoS
        obtain ⟨ii, hiin, hiz0, hiz1, hiz2⟩ := info_parts info64
        clear bel1 b0 b1 b2 h1 h2 h1w h2w hq1 hq2 hg1 hg2 hN hT1 hT2
        go_enter Try.func50, Try.ntmps50
        go_wp2_with fail
        rw [← hw1]
        have HW1 := Lib.hid hw1
        clear hw1
        go_wp2_with fail
        (go_at_call 69; (with_reducible refine (CI1).mono ?_); rintro e w' ⟨rfl, q, rfl⟩)
        go_wp2_with fail
        (go_at_call 69; (with_reducible refine (CI2 q).mono ?_); rintro e w' ⟨rfl, q2, rfl⟩)
        obtain ⟨w6, hw6⟩ : ∃ w6, w6 = w1.drewN q2 := ⟨_, rfl⟩
        rw [← hw6]
        have hs6 : w6.heap.size = w.heap.size + 1 + 1 + 1 := by rw [hw6]; exact hs1
        have q06 : w6.cell? ⟨w.heap.size, 0, none⟩ = some (.slice (some ⟨b, o, none⟩) n c) := by rw [hw6]; exact q0
        have q16 : w6.cell? ⟨w.heap.size + 1, 0, none⟩ = some (.slice (some ⟨b', o', none⟩) m c2) := by rw [hw6]; exact q1
        obtain ⟨w2, hw2⟩ : ∃ w2, w2 = w6.alloc (.cells #[nilV] 26) := ⟨_, rfl⟩
        have bl2 : Below w6.heap.size w6 w2 := by rw [hw2]; exact (Below.refl _ _).alloc (Nat.le_refl _) _
        have bl16 : Below w1.heap.size w1 w6 := by rw [hw6]; exact below_drewN (Below.refl _ _) q2
        have HW12 : Hid (Below w.heap.size w1 w2) := Lib.hid ((bl16.mono (by omega)).trans (bl2.mono (by omega)))
        have BEL2 : Hid (Below w.heap.size w w2) := Lib.hid (BEL.out.trans HW12.out)
        have HB0 : Hid (Blk w2 (w.heap.size + 1 + 1) #[nilV] 26) := Lib.hid (((HB2.out).below bl16 (by omega)).below bl2 (by omega))
        have HE0 : Hid (w2.cell? ⟨w.heap.size, 0, none⟩ = some (.slice (some ⟨b, o, none⟩) n c)) := Lib.hid ((bl2.cell (p := ⟨w.heap.size, 0, none⟩) (show w.heap.size < w6.heap.size by omega)).trans q06)
        have HE1 : Hid (w2.cell? ⟨w.heap.size + 1, 0, none⟩ = some (.slice (some ⟨b', o', none⟩) m c2)) := Lib.hid ((bl2.cell (p := ⟨w.heap.size + 1, 0, none⟩) (show w.heap.size + 1 < w6.heap.size by omega)).trans q16)
        have hnew : Blk w2 (w.heap.size + 1 + 1 + 1) #[nilV] 26 := by rw [hw2, ← hs6]; exact Blk.new _ _ _
        have HB : Hid (Bld (w.heap.size + 1 + 1 + 1) 0 w2 w2 none 0 [] []) := Lib.hid ⟨hnew, Own2.nil _ _, Below.refl _ _⟩
        have HW6 := Lib.hid hw6
        clear hw6 bl2 bl16 hnew
        go_wp2_with fail
        rw [← hw2]
        have HW2 := Lib.hid hw2
        clear hw2
        go_wp2_with fail
        go_loopw [8, 9, 10] (fun i _ _ wr => ∃ k : Nat, k ≤ N ∧ i = .int .i64 k ∧ ∃ A3 c3 L, Hid (Bld (w.heap.size + 1 + 1 + 1) k w2 wr A3 c3 L ((gridOf N N (pgF x.G y.G m)).take k))) (fun i _ _ _ => N - (intOf i).toNat)
        case atStart => exact ⟨0, by omega, rfl, none, 0, [], HB⟩
        case round =>
          obtain ⟨k, hk, rfl, A3, c3, L, hbd⟩ := hrel
          obtain ⟨W, hW⟩ : ∃ W, W = wr := ⟨_, rfl⟩
          rw [← hW] at hbd ⊢
          clear hW
          have k0W : W.cell? ⟨w.heap.size, 0, none⟩ = some (.slice (some ⟨b, o, none⟩) n c) := (hbd.out.bel.cell (p := ⟨w.heap.size, 0, none⟩) (show w.heap.size < w.heap.size + 1 + 1 + 1 by omega)).trans HE0.out
          have hWs : w.heap.size + 1 + 1 + 1 < W.heap.size := hbd.out.fld.lt
          by_cases hlt : k < N
          · go_wp2_with fail
            go_loopw [9, 10] (fun v i wq => ∃ j : Nat, j ≤ N ∧ i = .int .i64 j ∧ (∃ A' c', v = .slice A' j c') ∧ Hid (wq.ownsRow W.heap.size 2 1 v j (cells64 ((rowOf N (pgF x.G y.G m) k).take j))) ∧ Below W.heap.size W wq) (fun _ i _ => N - (intOf i).toNat)
            case atStart => exact ⟨0, by omega, rfl, ⟨_, _, rfl⟩, Lib.hid (World.ownsRow_lit (size := 1) W #[] 0 (Nat.le_refl _) (by unfold maxLen; omega) rfl), (Below.refl _ _).alloc (Nat.le_refl _) _⟩
            case round =>
              obtain ⟨j, hj, rfl, ⟨A', c', rfl⟩, hown, hbq⟩ := hrel
              obtain ⟨wq, hwq⟩ : ∃ wq, wq = wr := ⟨_, rfl⟩
              rw [← hwq] at hown hbq ⊢
              clear hwq
              have hsq := hbq.size
              have e0 : wq.cell? ⟨w.heap.size, 0, none⟩ = some (.slice (some ⟨b, o, none⟩) n c) := (hbq.cell (p := ⟨w.heap.size, 0, none⟩) (show w.heap.size < W.heap.size by omega)).trans k0W
              by_cases hjn : j < N
              · have HD : Hid (cells64 ((rowOf N (pgF x.G y.G m) k).take j) ++ [.int .i64 (pgF x.G y.G m k j : Int)] = cells64 ((rowOf N (pgF x.G y.G m) k).take (j + 1))) := Lib.hid (by
                  rw [List.take_add_one, row_cell hjn]; simp [cells64])
                have hown2 := hown.out
                obtain ⟨cs, hcs⟩ : ∃ cs, cs = cells64 ((rowOf N (pgF x.G y.G m) k).take j) := ⟨_, rfl⟩
                rw [← hcs] at hown2 HD
                clear hcs
                obtain ⟨V, hV⟩ : ∃ V, V = pgF x.G y.G m k j := ⟨_, rfl⟩
                rw [← hV] at HD
                have hkN : k < n * m := by rw [← HN.out]; exact hlt
                have hjN : j < n * m := by rw [← HN.out]; exact hjn
                have lx := pg_lt hkN
                have ly := pg_lt hjN
                have hWQ : Below w.heap.size w1 wq := (HW12.out.trans (hbd.out.bel.mono (show w.heap.size ≤ w.heap.size + 1 + 1 + 1 by omega))).trans (hbq.mono (by have := hbd.out.fld.lt; omega))
                have hTs := HTS.out.below (hWQ.mono hB1)
                have hTt := HTT.out.below (hWQ.mono hB2)
                have hgW : w.heap.size + 1 + 1 + 1 < W.heap.size := hbd.out.fld.lt
                have r1 := hTs.row lx.1
                have d1 := hTs.cell lx.1 ly.1
                have r2 := hTt.row lx.2
                have d2 := hTt.cell lx.2 ly.2
                have u1 : P (k / m) < B1 := (hTs.2 _ lx.1).2.2.1
                have u2 : P' (k % m) < B2 := (hTt.2 _ lx.2).2.2.1
                have ub := hTs.1
                have ub' := hTt.1
                have p1 := HG1.out.cell lx.1 ly.1
                have p2 := HG2.out.cell lx.2 ly.2
                have hbq3 : Below (w.heap.size + 1 + 1 + 1) w2 wq := hbd.out.bel.trans (hbq.mono (by omega))
                have e1 : wq.cell? ⟨w.heap.size + 1, 0, none⟩ = some (.slice (some ⟨b', o', none⟩) m c2) := (hbq3.cell (p := ⟨w.heap.size + 1, 0, none⟩) (show w.heap.size + 1 < w.heap.size + 1 + 1 + 1 by omega)).trans HE1.out
                unfold pgF at hV
                obtain ⟨kd, hkd⟩ : ∃ kd, kd = k / m := ⟨_, rfl⟩
                obtain ⟨jd, hjd⟩ : ∃ jd, jd = j / m := ⟨_, rfl⟩
                obtain ⟨kr, hkr⟩ : ∃ kr, kr = k % m := ⟨_, rfl⟩
                obtain ⟨jr, hjr⟩ : ∃ jr, jr = j % m := ⟨_, rfl⟩
                have i1 : (k : Int).tdiv (m : Int) = (kd : Int) := by rw [hkd]; rfl
                have i2 : (j : Int).tdiv (m : Int) = (jd : Int) := by rw [hjd]; rfl
                have i3 : (k : Int).tmod (m : Int) = (kr : Int) := by rw [hkr]; rfl
                have i4 : (j : Int).tmod (m : Int) = (jr : Int) := by rw [hjr]; rfl
                have hm0 : ¬ (m : Int) = 0 := by omega
                rw [← hkd] at r1 lx
                rw [← hkd] at u1
                rw [← hkd, ← hjd] at d1 p1 hV
                rw [← hjd] at ly
                rw [← hkr] at r2 u2 lx
                rw [← hkr, ← hjr] at d2 p2 hV
                rw [← hjr] at ly
                have lx1 := lx.1
                have lx2 := lx.2
                have ly1 := ly.1
                have ly2 := ly.2
                generalize cellZ x.G kd jd = Z1 at d1 p1 hV
                generalize cellZ y.G kr jr = Z2 at d2 p2 hV
                generalize P kd = P1 at r1 d1 u1
                generalize Q kd = Q1 at r1 d1
                generalize C kd = C1 at r1
                generalize P' kr = P2 at r2 d2 u2
                generalize Q' kr = Q2 at r2 d2
                generalize C' kr = C2 at r2
                obtain ⟨M1, hM1⟩ : ∃ M1, M1 = m * Z1 := ⟨_, rfl⟩
                have j1 : (m : Int) * (Z1 : Int) = (M1 : Int) := by rw [hM1]; simp
                have hM1b : M1 ≤ 100 := by rw [hM1]; exact Nat.le_trans (Nat.mul_le_mul hm10 (show Z1 ≤ 10 by omega)) (by decide)
                rw [← hM1] at hV
                have j2 : (M1 : Int) + (Z2 : Int) = (V : Int) := by omega
                have hVb : V ≤ 110 := by omega
                have hmN : ¬ m = 0 := by omega
                have wk : IntKind.i64.wrap (kd : Int) = (kd : Int) := IntWalk.i64_in _ (by omega)
                have wj : IntKind.i64.wrap (jd : Int) = (jd : Int) := IntWalk.i64_in _ (by omega)
                have wM : IntKind.i64.wrap (M1 : Int) = (M1 : Int) := IntWalk.i64_in _ (by omega)
                have wV : IntKind.i64.wrap (V : Int) = (V : Int) := IntWalk.i64_in _ (by omega)
                have hAf : ∀ q, A' = some ⟨q, 0, none⟩ → W.heap.size ≤ q := fun q hq => (hown2.lt q (by rw [hq]; rfl)).1
                have HXC : Hid (∀ X : World, (∀ g, g < wq.heap.size → A' ≠ some ⟨g, 0, none⟩ → X.heap[g]? = wq.heap[g]?) → X.cell? ⟨w.heap.size, 0, none⟩ = some (.slice (some ⟨b, o, none⟩) n c) ∧ X.cell? ⟨w.heap.size + 1, 0, none⟩ = some (.slice (some ⟨b', o', none⟩) m c2) ∧ X.cell? ⟨b, o + kd, none⟩ = some (.slice (some ⟨P1, Q1, none⟩) n C1) ∧ X.cell? ⟨P1, Q1 + jd, none⟩ = some (.int .i64 (Z1 : Int)) ∧ X.cell? ⟨b', o' + kr, none⟩ = some (.slice (some ⟨P2, Q2, none⟩) m C2) ∧ X.cell? ⟨P2, Q2 + jr, none⟩ = some (.int .i64 (Z2 : Int))) := Lib.hid (fun X hX => by
                  have K : ∀ g, g < W.heap.size → X.heap[g]? = wq.heap[g]? := fun g hg => hX g (by omega) (fun e => by have := hAf g e; omega)
                  exact ⟨(World.cell?_of_block (K w.heap.size (by omega))).trans e0, (World.cell?_of_block (K (w.heap.size + 1) (by omega))).trans e1, (World.cell?_of_block (K b (by omega))).trans r1, (World.cell?_of_block (K P1 (by omega))).trans d1, (World.cell?_of_block (K b' (by omega))).trans r2, (World.cell?_of_block (K P2 (by omega))).trans d2⟩)
                have hS0 := HXC.out wq (fun _ _ _ => rfl)
                have hown2 : wq.drew.ownsRow W.heap.size 2 1 (.slice A' j c') j cs := hown2
                clear hTs hTt hWQ hbq3 r1 d1 r2 d2 e0 e1 hkd hjd hkr hjr hM1 hV lx ly hAf hkN hjN
                go_wp2_with fail
                refine region_held_n 31 (fun w' => w'.cell? ⟨w.heap.size, 0, none⟩ = some (.slice (some ⟨b, o, none⟩) n c) ∧ w'.cell? ⟨w.heap.size + 1, 0, none⟩ = some (.slice (some ⟨b', o', none⟩) m c2) ∧ w'.cell? ⟨b, o + kd, none⟩ = some (.slice (some ⟨P1, Q1, none⟩) n C1) ∧ w'.cell? ⟨P1, Q1 + jd, none⟩ = some (.int .i64 (Z1 : Int)) ∧ w'.cell? ⟨b', o' + kr, none⟩ = some (.slice (some ⟨P2, Q2, none⟩) m C2) ∧ w'.cell? ⟨P2, Q2 + jr, none⟩ = some (.int .i64 (Z2 : Int))) (by kernel_rfl) (by kernel_rfl) hS0 (fun hS => ?_)
                refine takeD 0 (some 51) (v := ?_) rfl (by kernel_rfl) (by kernel_rfl) (by kernel_rfl) (fun _ _ _ h => h) hS (fun o ho => Or.inl ⟨by cases ho; rfl, ?_⟩) ?_
                rotate_left
                · cases ho
                  intro w' hw'
                  (try dsimp only at hw')
                  go_simp
                  (try with_reducible rfl)
                (try simp only [Act.put, List.setIfInBounds_toArray, List.set_cons_zero, List.set_cons_succ])
                refine takeD 1 (some 52) (v := ?_) rfl (by kernel_rfl) (by kernel_rfl) (by kernel_rfl) (fun _ _ _ h => h) hS (fun o ho => Or.inl ⟨by cases ho; rfl, ?_⟩) ?_
                rotate_left
                · cases ho
                  intro w' hw'
                  (try dsimp only at hw')
                  go_simp
                  (try with_reducible rfl)
                (try simp only [Act.put, List.setIfInBounds_toArray, List.set_cons_zero, List.set_cons_succ])
                refine takeD 2 (some 53) (v := ?_) rfl (by kernel_rfl) (by kernel_rfl) (by kernel_rfl) (fun _ _ _ h => h) hS (fun o ho => Or.inl ⟨by cases ho; rfl, ?_⟩) ?_
                rotate_left
                · cases ho
                  intro w' hw'
                  (try dsimp only at hw')
                  go_simp
                  (try with_reducible rfl)
                (try simp only [Act.put, List.setIfInBounds_toArray, List.set_cons_zero, List.set_cons_succ])
                refine takeD 3 (some 54) (v := ?_) rfl (by kernel_rfl) (by kernel_rfl) (by kernel_rfl) (fun _ _ _ h => h) hS (fun o ho => Or.inl ⟨by cases ho; rfl, ?_⟩) ?_
                rotate_left
                · cases ho
                  intro w' hw'
                  (try dsimp only at hw')
                  go_simp
                  (try with_reducible rfl)
                (try simp only [Act.put, List.setIfInBounds_toArray, List.set_cons_zero, List.set_cons_succ])
                refine takeD 4 (some 55) (v := ?_) rfl (by kernel_rfl) (by kernel_rfl) (by kernel_rfl) (fun _ _ _ h => h) hS (fun o ho => Or.inl ⟨by cases ho; rfl, ?_⟩) ?_
                rotate_left
                · cases ho
                  intro w' hw'
                  (try dsimp only at hw')
                  go_simp
                  (try with_reducible rfl)
                (try simp only [Act.put, List.setIfInBounds_toArray, List.set_cons_zero, List.set_cons_succ])
                refine takeD 5 (some 56) (v := ?_) rfl (by kernel_rfl) (by kernel_rfl) (by kernel_rfl) (fun _ _ _ h => h) hS (fun o ho => Or.inl ⟨by cases ho; rfl, ?_⟩) ?_
                rotate_left
                · cases ho
                  intro w' hw'
                  (try dsimp only at hw')
                  go_simp
                  (try with_reducible rfl)
                (try simp only [Act.put, List.setIfInBounds_toArray, List.set_cons_zero, List.set_cons_succ])
                refine takeD 6 (some 57) (v := .int .i64 (kd : Int)) rfl (by kernel_rfl) (by kernel_rfl) (by kernel_rfl) (fun _ _ _ h => h) hS (fun o ho => Or.inl ⟨by cases ho; rfl, ?_⟩) ?_
                · cases ho
                  intro w' hw'
                  (try dsimp only at hw')
                  go_simp
                (try simp only [Act.put, List.setIfInBounds_toArray, List.set_cons_zero, List.set_cons_succ])
                refine takeD 7 (some 58) (v := ?_) rfl (by kernel_rfl) (by kernel_rfl) (by kernel_rfl) (fun _ _ _ h => h) hS (fun o ho => Or.inl ⟨by cases ho; rfl, ?_⟩) ?_
                rotate_left
                · cases ho
                  intro w' hw'
                  (try dsimp only at hw')
                  go_simp
                  (try with_reducible rfl)
                (try simp only [Act.put, List.setIfInBounds_toArray, List.set_cons_zero, List.set_cons_succ])
                refine takeD 8 (some 59) (v := ?_) rfl (by kernel_rfl) (by kernel_rfl) (by kernel_rfl) (fun _ _ _ h => h) hS (fun o ho => Or.inl ⟨by cases ho; rfl, ?_⟩) ?_
                rotate_left
                · cases ho
                  intro w' hw'
                  (try dsimp only at hw')
                  go_simp
                  (try with_reducible rfl)
                (try simp only [Act.put, List.setIfInBounds_toArray, List.set_cons_zero, List.set_cons_succ])
                refine takeD 9 (some 60) (v := ?_) rfl (by kernel_rfl) (by kernel_rfl) (by kernel_rfl) (fun _ _ _ h => h) hS (fun o ho => Or.inl ⟨by cases ho; rfl, ?_⟩) ?_
                rotate_left
                · cases ho
                  intro w' hw'
                  (try dsimp only at hw')
                  go_simp
                  (try with_reducible rfl)
                (try simp only [Act.put, List.setIfInBounds_toArray, List.set_cons_zero, List.set_cons_succ])
                refine takeD 10 (some 61) (v := ?_) rfl (by kernel_rfl) (by kernel_rfl) (by kernel_rfl) (fun _ _ _ h => h) hS (fun o ho => Or.inl ⟨by cases ho; rfl, ?_⟩) ?_
                rotate_left
                · cases ho
                  intro w' hw'
                  (try dsimp only at hw')
                  go_simp
                  (try with_reducible rfl)
                (try simp only [Act.put, List.setIfInBounds_toArray, List.set_cons_zero, List.set_cons_succ])
                refine takeD 11 (some 62) (v := .int .i64 (jd : Int)) rfl (by kernel_rfl) (by kernel_rfl) (by kernel_rfl) (fun _ _ _ h => h) hS (fun o ho => Or.inl ⟨by cases ho; rfl, ?_⟩) ?_
                · cases ho
                  intro w' hw'
                  (try dsimp only at hw')
                  go_simp
                (try simp only [Act.put, List.setIfInBounds_toArray, List.set_cons_zero, List.set_cons_succ])
                refine takeD 12 (some 63) (v := ?_) rfl (by kernel_rfl) (by kernel_rfl) (by kernel_rfl) (fun _ _ _ h => h) hS (fun o ho => Or.inl ⟨by cases ho; rfl, ?_⟩) ?_
                rotate_left
                · cases ho
                  intro w' hw'
                  (try dsimp only at hw')
                  go_simp
                  (try with_reducible rfl)
                (try simp only [Act.put, List.setIfInBounds_toArray, List.set_cons_zero, List.set_cons_succ])
                refine takeD 13 (some 64) (v := ?_) rfl (by kernel_rfl) (by kernel_rfl) (by kernel_rfl) (fun _ _ _ h => h) hS (fun o ho => Or.inl ⟨by cases ho; rfl, ?_⟩) ?_
                rotate_left
                · cases ho
                  intro w' hw'
                  (try dsimp only at hw')
                  go_simp
                  (try with_reducible rfl)
                (try simp only [Act.put, List.setIfInBounds_toArray, List.set_cons_zero, List.set_cons_succ])
                refine takeD 14 (some 65) (v := .int .i64 (M1 : Int)) rfl (by kernel_rfl) (by kernel_rfl) (by kernel_rfl) (fun _ _ _ h => h) hS (fun o ho => Or.inl ⟨by cases ho; rfl, ?_⟩) ?_
                · cases ho
                  intro w' hw'
                  (try dsimp only at hw')
                  go_simp
                (try simp only [Act.put, List.setIfInBounds_toArray, List.set_cons_zero, List.set_cons_succ])
                refine takeD 15 (some 66) (v := ?_) rfl (by kernel_rfl) (by kernel_rfl) (by kernel_rfl) (fun _ _ _ h => h) hS (fun o ho => Or.inl ⟨by cases ho; rfl, ?_⟩) ?_
                rotate_left
                · cases ho
                  intro w' hw'
                  (try dsimp only at hw')
                  go_simp
                  (try with_reducible rfl)
                (try simp only [Act.put, List.setIfInBounds_toArray, List.set_cons_zero, List.set_cons_succ])
                refine takeD 16 (some 67) (v := ?_) rfl (by kernel_rfl) (by kernel_rfl) (by kernel_rfl) (fun _ _ _ h => h) hS (fun o ho => Or.inl ⟨by cases ho; rfl, ?_⟩) ?_
                rotate_left
                · cases ho
                  intro w' hw'
                  (try dsimp only at hw')
                  go_simp
                  (try with_reducible rfl)
                (try simp only [Act.put, List.setIfInBounds_toArray, List.set_cons_zero, List.set_cons_succ])
                refine takeD 17 (some 68) (v := ?_) rfl (by kernel_rfl) (by kernel_rfl) (by kernel_rfl) (fun _ _ _ h => h) hS (fun o ho => Or.inl ⟨by cases ho; rfl, ?_⟩) ?_
                rotate_left
                · cases ho
                  intro w' hw'
                  (try dsimp only at hw')
                  go_simp
                  (try with_reducible rfl)
                (try simp only [Act.put, List.setIfInBounds_toArray, List.set_cons_zero, List.set_cons_succ])
                refine takeD 18 (some 69) (v := ?_) rfl (by kernel_rfl) (by kernel_rfl) (by kernel_rfl) (fun _ _ _ h => h) hS (fun o ho => Or.inl ⟨by cases ho; rfl, ?_⟩) ?_
                rotate_left
                · cases ho
                  intro w' hw'
                  (try dsimp only at hw')
                  go_simp
                  (try with_reducible rfl)
                (try simp only [Act.put, List.setIfInBounds_toArray, List.set_cons_zero, List.set_cons_succ])
                refine takeD 19 (some 70) (v := .int .i64 (kr : Int)) rfl (by kernel_rfl) (by kernel_rfl) (by kernel_rfl) (fun _ _ _ h => h) hS (fun o ho => Or.inl ⟨by cases ho; rfl, ?_⟩) ?_
                · cases ho
                  intro w' hw'
                  (try dsimp only at hw')
                  go_simp
                (try simp only [Act.put, List.setIfInBounds_toArray, List.set_cons_zero, List.set_cons_succ])
                refine takeD 20 (some 71) (v := ?_) rfl (by kernel_rfl) (by kernel_rfl) (by kernel_rfl) (fun _ _ _ h => h) hS (fun o ho => Or.inl ⟨by cases ho; rfl, ?_⟩) ?_
                rotate_left
                · cases ho
                  intro w' hw'
                  (try dsimp only at hw')
                  go_simp
                  (try with_reducible rfl)
                (try simp only [Act.put, List.setIfInBounds_toArray, List.set_cons_zero, List.set_cons_succ])
                refine takeD 21 (some 72) (v := ?_) rfl (by kernel_rfl) (by kernel_rfl) (by kernel_rfl) (fun _ _ _ h => h) hS (fun o ho => Or.inl ⟨by cases ho; rfl, ?_⟩) ?_
                rotate_left
                · cases ho
                  intro w' hw'
                  (try dsimp only at hw')
                  go_simp
                  (try with_reducible rfl)
                (try simp only [Act.put, List.setIfInBounds_toArray, List.set_cons_zero, List.set_cons_succ])
                refine takeD 22 (some 73) (v := ?_) rfl (by kernel_rfl) (by kernel_rfl) (by kernel_rfl) (fun _ _ _ h => h) hS (fun o ho => Or.inl ⟨by cases ho; rfl, ?_⟩) ?_
                rotate_left
                · cases ho
                  intro w' hw'
                  (try dsimp only at hw')
                  go_simp
                  (try with_reducible rfl)
                (try simp only [Act.put, List.setIfInBounds_toArray, List.set_cons_zero, List.set_cons_succ])
                refine takeD 23 (some 74) (v := ?_) rfl (by kernel_rfl) (by kernel_rfl) (by kernel_rfl) (fun _ _ _ h => h) hS (fun o ho => Or.inl ⟨by cases ho; rfl, ?_⟩) ?_
                rotate_left
                · cases ho
                  intro w' hw'
                  (try dsimp only at hw')
                  go_simp
                  (try with_reducible rfl)
                (try simp only [Act.put, List.setIfInBounds_toArray, List.set_cons_zero, List.set_cons_succ])
                refine takeD 24 (some 75) (v := .int .i64 (jr : Int)) rfl (by kernel_rfl) (by kernel_rfl) (by kernel_rfl) (fun _ _ _ h => h) hS (fun o ho => Or.inl ⟨by cases ho; rfl, ?_⟩) ?_
                · cases ho
                  intro w' hw'
                  (try dsimp only at hw')
                  go_simp
                (try simp only [Act.put, List.setIfInBounds_toArray, List.set_cons_zero, List.set_cons_succ])
                refine takeD 25 (some 76) (v := ?_) rfl (by kernel_rfl) (by kernel_rfl) (by kernel_rfl) (fun _ _ _ h => h) hS (fun o ho => Or.inl ⟨by cases ho; rfl, ?_⟩) ?_
                rotate_left
                · cases ho
                  intro w' hw'
                  (try dsimp only at hw')
                  go_simp
                  (try with_reducible rfl)
                (try simp only [Act.put, List.setIfInBounds_toArray, List.set_cons_zero, List.set_cons_succ])
                refine takeD 26 (some 77) (v := ?_) rfl (by kernel_rfl) (by kernel_rfl) (by kernel_rfl) (fun _ _ _ h => h) hS (fun o ho => Or.inl ⟨by cases ho; rfl, ?_⟩) ?_
                rotate_left
                · cases ho
                  intro w' hw'
                  (try dsimp only at hw')
                  go_simp
                  (try with_reducible rfl)
                (try simp only [Act.put, List.setIfInBounds_toArray, List.set_cons_zero, List.set_cons_succ])
                refine takeD 27 (some 78) (v := .int .i64 (V : Int)) rfl (by kernel_rfl) (by kernel_rfl) (by kernel_rfl) (fun _ _ _ h => h) hS (fun o ho => Or.inl ⟨by cases ho; rfl, ?_⟩) ?_
                · cases ho
                  intro w' hw'
                  (try dsimp only at hw')
                  go_simp
                (try simp only [Act.put, List.setIfInBounds_toArray, List.set_cons_zero, List.set_cons_succ])
                refine oneD 28 (some 79) (by kernel_rfl) rfl (fun o ho K hK hdo => ?_)
                simp only [List.getElem?_toArray, List.getElem?_cons_succ, List.getElem?_cons_zero, Option.some.injEq] at ho
                subst ho
                clear hdo
                rw [if_pos (by rfl)]
                go_wp2_with (fail)
                refine hK.out _ _ ?_ (fun hS => ?_)
                · exact HXC.out _ (fun g hg _ => Below.heap_alloc _ _ _ hg)
                clear hK K
                (try simp only [Act.put, List.setIfInBounds_toArray, List.set_cons_zero, List.set_cons_succ])
                refine oneD 29 (some 80) (by kernel_rfl) rfl (fun o ho K hK hdo => ?_)
                simp only [List.getElem?_toArray, List.getElem?_cons_succ, List.getElem?_cons_zero, Option.some.injEq] at ho
                subst ho
                clear hdo
                refine step_append_lies _ rfl (.tmp 51) (.tmp 79) 34 rfl W.heap.size 2 ii (.int .i64 0) 1 8 Try.underlying34 hiin hiz0 hiz1 hiz2 rfl (by decide) (.slice A' j c') j cs rfl (hown2.alloc _) ⟨wq.heap.size, 0, none⟩ 1 1 [.int .i64 (V : Int)] rfl rfl (cell_oneG _ _ _) (fun u hu => by simp at hu; subst hu; rfl) (by decide) ?d1 ?d2 ?d3 _ rfl ?_
                case d1 => unfold maxLen; omega
                case d2 => omega
                case d3 => simp; omega
                intro g3 cc3 W3 ho3 hg3 _ _
                have hk3 : ∀ g, g < wq.heap.size → A' ≠ some ⟨g, 0, none⟩ → W3.heap[g]? = wq.heap[g]? := fun g hg hne => by
                  rw [hg3.block g (by simp; omega) (fun e => hne (by
                    rcases ownsRow_form hown2 with ⟨hA, _⟩ | ⟨g', hA, _⟩
                    · rw [hA] at e; simp [Value.ownBlock] at e
                    · rw [hA] at e ⊢; simp [Value.ownBlock] at e; rw [e]))]
                  exact Below.heap_alloc wq _ g hg
                have hbw3 : Below W.heap.size W W3 := Below.grown ((below_drew hbq).alloc (show W.heap.size ≤ wq.heap.size by omega) _) hg3 (by simp; omega) (fun q hq => (hown2.lt q hq).1)
                have HBW3 := Lib.hid hbw3
                have hs3 := HXC.out W3 hk3
                rw [HD.out] at ho3
                have HO := Lib.hid ho3
                clear hk3 ho3 hg3 hbw3
                refine hK.out _ _ ?_ (fun hS => ?_)
                · exact hs3
                clear hK K
                (try simp only [Act.put, List.setIfInBounds_toArray, List.set_cons_zero, List.set_cons_succ])
                refine takeD 30 (some 9) (v := ?_) rfl (by kernel_rfl) (by kernel_rfl) (by kernel_rfl) (fun _ _ _ h => h) hS (fun o ho => Or.inl ⟨by cases ho; rfl, ?_⟩) ?_
                rotate_left
                · cases ho
                  intro w' hw'
                  (try dsimp only at hw')
                  go_simp
                  (try with_reducible rfl)
                (try simp only [Act.put, List.setIfInBounds_toArray, List.set_cons_zero, List.set_cons_succ])
                refine wpAnyH_done (by kernel_rfl) ?_ _
                clear hS
                clear hS0
                go_wp2_with fail
                go_roundw
                case rel => exact ⟨j + 1, by omega, by go_num, ⟨_, _, rfl⟩, HO, HBW3.out⟩
                case measure => simp [intOf]; omega

              · obtain rfl : N = j := by omega
                have hrow : Own W.heap.size wq A' (N) c' (rowOf N (pgF x.G y.G m) k) := by
                  refine ⟨?_, fun z hz => ?_⟩
                  · have h4 := hown.out
                    rw [List.take_of_length_le (by rw [row_len]; exact Nat.le_refl _)] at h4
                    exact h4
                  · unfold rowOf at hz
                    obtain ⟨y', hy', rfl⟩ := List.mem_map.1 hz
                    exact wf_small (by have := HFB.out k y' hlt (List.mem_range.1 hy'); omega)
                have hf1 := (hbd.out.at_ hbq).fld
                have q1 : wq.cell? ⟨w.heap.size + 1 + 1 + 1, 0, none⟩ = some (.slice A3 k c3) := hf1.cell 0
                have howq := (hbd.out.at_ hbq).own
                have HNX := Lib.hid (fun A4 c4 w3 o ho3 hg3 => hbd.out.next (A3 := A4) (c3 := c4) (w3 := w3) (o := o) hbq hrow ho3 hg3)
                have hkl : L.length = k := by have := hbd.out.own.n_eq; omega
                have hgW : w.heap.size + 1 + 1 + 1 < W.heap.size := hbd.out.fld.lt
                clear hrow hf1
                go_wp2_with (at_builtin; refine wpList_append_own _ rfl _ _ 24 rfl (w.heap.size + 1 + 1 + 1 + 1) 34 i0 (.slice none 0 0) 1 24 Try.underlying24 hin hz0 hz1 hz2 rfl (by decide) _ _ _ rfl (howq.outer.alloc _) ⟨wq.heap.size, 0, none⟩ 1 1 [.slice A' (N) c'] rfl rfl (cell_oneG _ _ _) (fun u hu => by simp at hu; subst hu; rfl) ?c1 ?c2 ?c3 ?_)
                case c1 => unfold maxLen; omega
                case c2 => omega
                case c3 => simp; omega
                intro v3 w3 ho3 hg3 _
                obtain ⟨A4, c4, rfl⟩ := slice_atG ho3
                have HX := HNX.out A4 c4 w3 _ ho3 hg3
                have q2 := HX.1.cell 0
                have q3 := HX.1.frozen 0
                have HX2 := Lib.hid HX.2
                have hgz : Hid ((gridOf N N (pgF x.G y.G m)).take k ++ [rowOf N (pgF x.G y.G m) k] = (gridOf N N (pgF x.G y.G m)).take (k + 1)) := Lib.hid (by
                  rw [List.take_add_one, grid_row hlt]; simp)
                clear HNX HX ho3 hg3 q1 howq
                go_wp2_with fail
                go_roundw
                case rel => exact ⟨k + 1, by omega, by go_num, A4, c4, _, Lib.hid (by have h5 := HX2.out; rw [hgz.out] at h5; exact h5)⟩
                case measure => simp [intOf]; omega
          · obtain rfl : N = k := by omega
            have hb0w : Blk W (w.heap.size + 1 + 1) #[nilV] 26 := HB0.out.below hbd.out.bel (by omega)
            have q1w : W.cell? ⟨w.heap.size + 1 + 1 + 1, 0, none⟩ = some (.slice A3 N c3) := hbd.out.fld.cell 0
            have q0w := hb0w.cell 0
            have f0w := hb0w.frozen 0
            obtain ⟨w9, hw9⟩ : ∃ w9, w9 = W.setCell ⟨w.heap.size + 1 + 1, 0, none⟩ (.slice A3 N c3) := ⟨_, rfl⟩
            have hb9 := hb0w.set 0 (.slice A3 N c3)
            rw [← hw9] at hb9
            have q9 : w9.cell? ⟨w.heap.size + 1 + 1, 0, none⟩ = some (.slice A3 N c3) := by have := hb9.cell 0; simpa using this
            have hlen : (gridOf N N (pgF x.G y.G m)).length = N := grid_len _ _ _
            have hown9 : Own2 w.heap.size w9 A3 N c3 L (gridOf N N (pgF x.G y.G m)) := by
              have h6 := hbd.out.own
              rw [List.take_of_length_le (by rw [hlen]; exact Nat.le_refl _)] at h6
              rw [hw9]
              exact (h6.keepL (fun q hq => Below.heap_setCell W ⟨w.heap.size + 1 + 1, 0, none⟩ _ q (by have := h6.ofrom q hq; show q ≠ w.heap.size + 1 + 1; omega)) (fun t ht q hq => Below.heap_setCell W ⟨w.heap.size + 1 + 1, 0, none⟩ _ q (by have := h6.from t ht q hq; show q ≠ w.heap.size + 1 + 1; omega))).lower (by omega)
            have bel9 : Below w.heap.size w w9 := by
              rw [hw9]
              exact (BEL2.out.trans (hbd.out.bel.mono (by omega))).setCell (show w.heap.size ≤ w.heap.size + 1 + 1 by omega) _
            have HO9 := Lib.hid hown9
            have HB9 := Lib.hid bel9
            clear hb0w hb9 hown9 bel9
            go_wp2_with fail
            rw [← hw9]
            refine bodyPost_ret (v := .tuple #[.agg #[.slice A3 N c3], .bool true]) (by simp [results, Try.results50, go_sem, q9]) rfl ?_
            exact madeGB_yes (pgR_yes hl1 hl2 HN.out HOK.out) HOK.out HO9.out HB9.out
      · have HOK : Hid (pgOk x.G y.G = false) := Lib.hid (by rw [HOK0.out]; simp [hbig])
        have hbig2 : (10 : Int) < (N : Int) := by omega
        clear bel1 b0 b1 b2 h1 h2 h1w h2w hq1 hq2 hg1 hg2 hN
        go_enter Try.func50, Try.ntmps50
        go_wp2_with fail
        rw [← hw1]
        have HW1 := Lib.hid hw1
        clear hw1
        go_wp2_with fail
        (go_at_call 69; (with_reducible refine (CI1).mono ?_); rintro e w' ⟨rfl, q, rfl⟩)
        go_wp2_with fail
        (go_at_call 69; (with_reducible refine (CI2 q).mono ?_); rintro e w' ⟨rfl, q2, rfl⟩)
        obtain ⟨w6, hw6⟩ : ∃ w6, w6 = w1.drewN q2 := ⟨_, rfl⟩
        rw [← hw6]
        have res6 : Blk w6 (w.heap.size + 1 + 1) #[nilV] 26 := by rw [hw6]; exact HB2.out.drewN q2
        have bel6 : Below w.heap.size w w6 := by rw [hw6]; exact below_drewN BEL.out q2
        have p6 := res6.cell 0
        have f6 := res6.frozen 0
        have q06 : w6.cell? ⟨w.heap.size, 0, none⟩ = some (.slice A n c) := by rw [hw6]; exact q0
        have q16 : w6.cell? ⟨w.heap.size + 1, 0, none⟩ = some (.slice A2 m c2) := by rw [hw6]; exact q1
        have BEL6 := Lib.hid bel6
        have RES6 := Lib.hid res6
        clear hw6 bel6 res6
        go_wp2_with fail
        obtain ⟨w9, hw9⟩ : ∃ w9, w9 = w6.setCell ⟨w.heap.size + 1 + 1, 0, none⟩ nilV := ⟨_, rfl⟩
        have hb9 := RES6.out.set 0 nilV
        rw [← hw9] at hb9
        have q9 : w9.cell? ⟨w.heap.size + 1 + 1, 0, none⟩ = some nilV := by have := hb9.cell 0; simpa using this
        have bel9 : Below w.heap.size w w9 := by rw [hw9]; exact BEL6.out.setCell (show w.heap.size ≤ w.heap.size + 1 + 1 by omega) _
        rw [← hw9]
        refine bodyPost_ret (v := .tuple #[.agg #[.slice none 0 0], .bool false]) (by simp [results, Try.results50, go_sem, q9]) rfl ?_
        exact madeGB_no (pgR_no HOK.out) HOK.out bel9
end Go.Proofs.Yteggllmiapdmcaa
