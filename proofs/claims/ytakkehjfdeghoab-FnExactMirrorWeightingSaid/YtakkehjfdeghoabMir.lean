/-
  MirrorWeighting, of the model and of the program.
-/
import Derived.Test.YtakkehjfdeghoabWRet
import Derived.Test.YtakkehjfdeghoabRev
namespace Go.Proofs.Ytakkehjfdeghoab
open Go.RowKit

def mirR (x : Wt) : Wt := if wOk x = true then ⟨x.base, x.modulus, x.target, x.W.reverse⟩ else zeroW
theorem mirR_yes {x : Wt} (h : wOk x = true) : mirR x = ⟨x.base, x.modulus, x.target, x.W.reverse⟩ := by simp [mirR, h]
theorem mirR_no {x : Wt} (h : wOk x = false) : mirR x = zeroW := by simp [mirR, h]
theorem mirR_len (x : Wt) : (mirR x).W.length ≤ 1000000 := by
  rcases h : wOk x with _ | _
  · rw [mirR_no h]; simp [zeroW]
  · rw [mirR_yes h]
    obtain ⟨b, m, n, f⟩ := Wt.fine h
    have := f.len; have := f.n20
    simp; omega

set_option maxRecDepth 100000 in
set_option maxHeartbeats 4000000 in
theorem specMir_any {B : Nat} (x : Wt) (A : Option Addr) (n c : Nat) (w : World) (hr : RowB .i64 B w A n x.W) (hB : B ≤ w.heap.size) :
    Calls Try.prog 44 #[wtV x A n c] w (MadeWB w.heap.size (mirR x) (wOk x) w) := by
  have hl := hr.len
  have hn := hr.le
  obtain ⟨i0, hi, hz0, hz1, hz2⟩ := info_parts info64
  obtain ⟨w1, hw1⟩ : ∃ w1, w1 = w.alloc (.cells (wtCells x A n c) 44) := ⟨_, rfl⟩
  obtain ⟨w2, hw2⟩ : ∃ w2, w2 = w1.alloc (.cells #[.int .i64 0, .int .i64 0, .int .i64 0, nilV] 44) := ⟨_, rfl⟩
  have sz1 : w1.heap.size = w.heap.size + 1 := by rw [hw1]; simp
  have bel : Below w.heap.size w w2 := by rw [hw2, hw1]; exact ((Below.refl _ w).alloc (Nat.le_refl _) _).alloc (by simp) _
  have b1 : Blk w2 w.heap.size (wtCells x A n c) 44 := by
    have h : Blk w1 w.heap.size (wtCells x A n c) 44 := by rw [hw1]; exact Blk.new _ _ _
    rw [hw2]; exact h.alloc _
  have b2 : Blk w2 (w.heap.size + 1) #[.int .i64 0, .int .i64 0, .int .i64 0, nilV] 44 := by
    have h := Blk.new w1 #[.int .i64 0, .int .i64 0, .int .i64 0, nilV] 44
    rw [sz1] at h
    rw [hw2]; exact h
  have r2 := RowB.below hr (bel.mono hB)
  have CI := l03Is_any x A n c w2 b1 r2
  have BEL := Lib.hid bel
  have R2 := Lib.hid r2
  have B1 := Lib.hid b1
  have B2 := Lib.hid b2
  have hs2 : w.heap.size + 1 < w2.heap.size := b2.lt
  clear bel b1 b2 r2 hr sz1
  rcases h1 : wOk x with _ | _
  · rw [h1] at CI
    have HO := Lib.hid h1
    clear h1
    go_enter Try.func44, Try.ntmps44
    go_wp2_with fail
    rw [← hw1, ← hw2]
    have HW1 := Lib.hid hw1
    have HW2 := Lib.hid hw2
    clear hw1 hw2
    (go_at_call 77; (with_reducible refine (CI).mono ?_); rintro e w3 ⟨rfl, m, hw3⟩)
    have bl3 : Below w.heap.size w w3 := by rw [hw3]; exact below_drewN BEL.out m
    have d1 : Blk w3 w.heap.size (wtCells x A n c) 44 := by rw [hw3]; exact B1.out
    have d2 : Blk w3 (w.heap.size + 1) #[.int .i64 0, .int .i64 0, .int .i64 0, nilV] 44 := by rw [hw3]; exact B2.out
    have r3 : RowB .i64 B w3 A n x.W := by rw [hw3]; exact RowB.drewN R2.out m
    have hs3 := d2.lt
    have hs3a := d1.lt
    have hs3b : w.heap.size ≠ w3.heap.size := by omega
    have BL3 := Lib.hid bl3
    have D1 := Lib.hid d1
    have D2 := Lib.hid d2
    have R3 := Lib.hid r3
    clear CI hw3 bl3 d1 d2 r3
    have k0 := D2.out.cell 0
    have k1 := D2.out.cell 1
    have k2 := D2.out.cell 2
    have k3 := D2.out.cell 3
    have f0 := D2.out.frozen 0
    have f1 := D2.out.frozen 1
    have f2 := D2.out.frozen 2
    have f3 := D2.out.frozen 3
    go_wp2_with fail
    have q : Blk (four w3 (w.heap.size + 1) (.int .i64 0) (.int .i64 0) (.int .i64 0) nilV) (w.heap.size + 1) #[.int .i64 0, .int .i64 0, .int .i64 0, nilV] 44 := four_blk D2.out _ _ _ _
    have FB : Hid (Below w.heap.size w (four w3 (w.heap.size + 1) (.int .i64 0) (.int .i64 0) (.int .i64 0) nilV)) := Lib.hid (four_below BL3.out (by omega) _ _ _ _)
    obtain ⟨w8, hw8⟩ : ∃ w8, w8 = four w3 (w.heap.size + 1) (.int .i64 0) (.int .i64 0) (.int .i64 0) nilV := ⟨_, rfl⟩
    rw [← hw8] at q FB
    unfold four at hw8
    rw [← hw8]
    have q0 := q.cell 0
    have q1 := q.cell 1
    have q2 := q.cell 2
    have q3 := q.cell 3
    refine bodyPost_ret (v := .tuple #[.agg #[.int .i64 0, .int .i64 0, .int .i64 0, .slice none 0 0], .bool false]) (by simp [results, Try.results44, go_sem, q0, q1, q2, q3]) rfl ?_
    rw [mirR_no HO.out]
    exact made_zero FB.out
  · rw [h1] at CI
    obtain ⟨bs, md, kk, f⟩ := Wt.fine h1
    have HO := Lib.hid h1
    have hkn : n = kk := by have := f.len; omega
    subst hkn
    have hn20 := f.n20
    have hn1 := f.n1
    have HW35 := Lib.hid f.w35
    clear h1 f
    go_enter Try.func44, Try.ntmps44
    go_wp2_with fail
    rw [← hw1, ← hw2]
    have HW1 := Lib.hid hw1
    have HW2 := Lib.hid hw2
    clear hw1 hw2
    (go_at_call 77; (with_reducible refine (CI).mono ?_); rintro e w3 ⟨rfl, m, hw3⟩)
    have bl3 : Below w.heap.size w w3 := by rw [hw3]; exact below_drewN BEL.out m
    have d1 : Blk w3 w.heap.size (wtCells x A n c) 44 := by rw [hw3]; exact B1.out
    have d2 : Blk w3 (w.heap.size + 1) #[.int .i64 0, .int .i64 0, .int .i64 0, nilV] 44 := by rw [hw3]; exact B2.out
    have r3 : RowB .i64 B w3 A n x.W := by rw [hw3]; exact RowB.drewN R2.out m
    have hs3 := d2.lt
    have hs3a := d1.lt
    have hs3b : w.heap.size ≠ w3.heap.size := by omega
    have BL3 := Lib.hid bl3
    have D1 := Lib.hid d1
    have D2 := Lib.hid d2
    have R3 := Lib.hid r3
    clear CI hw3 bl3 d1 d2 r3
    have k0 := D1.out.cell 0
    have k1 := D1.out.cell 1
    have k2 := D1.out.cell 2
    have k3 := D1.out.cell 3
    have START : ∀ X : World, X = w3.alloc (.cells #[.int .i64 x.base, .int .i64 x.modulus, .int .i64 x.target, nilV] 44) → Hid (FillAt w.heap.size w3.heap.size 0 n c x A x.base x.modulus x.target x.W.reverse w X none 0) := by
      rintro X rfl
      exact Lib.hid ⟨Blk.new _ _ _, D1.out.alloc _, D2.out.alloc _, ⟨⟨rfl, .inl ⟨rfl, rfl⟩⟩, by simp⟩, hs3, BL3.out.alloc (by omega) _⟩
    go_wp2_with fail
    clear k0 k1 k2 k3
    go_loopw [5] (fun i wr => ∃ (k : Nat) (Ak : Option Addr) (cc : Nat), k ≤ n ∧ i = .int .i64 ((n : Int) - 1 - (k : Int)) ∧ Hid (FillAt w.heap.size w3.heap.size k n c x A x.base x.modulus x.target x.W.reverse w wr Ak cc)) (fun i _ => (intOf i + 1).toNat)
    case atStart => exact ⟨0, none, 0, by omega, by simp, START _ rfl⟩
    case round =>
      obtain ⟨k, Ak, cc, hk, rfl, E⟩ := hrel
      obtain ⟨W, rfl⟩ : ∃ W, W = wr := ⟨_, rfl⟩
      by_cases hlt : k < n
      · have hge : (0 : Int) ≤ (n : Int) - 1 - (k : Int) := by omega
        obtain ⟨q, hq⟩ : ∃ q : Nat, q = n - 1 - k := ⟨_, rfl⟩
        have hqi : (n : Int) - 1 - (k : Int) = (q : Int) := by omega
        have hqn : q < n := by omega
        have rW := RowB.below R3.out (Below.mono (show Below w.heap.size w3 W from ⟨E.out.bel.os.trans BL3.out.os.symm, E.out.bel.tape.trans BL3.out.tape.symm, E.out.bel.output.trans BL3.out.output.symm, by have := E.out.out.lt; omega, fun g hg => (E.out.bel.block g hg).trans (BL3.out.block g hg).symm⟩) hB)
        obtain ⟨bW, oW, z, rfl, hbW, hz, hcz, hwf⟩ := rW.at_ hqn
        have hz2 : x.W.reverse[k]? = some z := by rw [List.getElem?_reverse (by omega), ← hz]; congr 1; omega
        have hXc : ∀ X : World, (∀ g, g < W.heap.size → Ak ≠ some ⟨g, 0, none⟩ → X.heap[g]? = W.heap[g]?) → X.cell? ⟨w3.heap.size, 3, none⟩ = some (.slice Ak k cc) ∧ X.cell? ⟨w.heap.size, 3, none⟩ = some (.slice (some ⟨bW, oW, none⟩) n c) ∧ X.cell? ⟨bW, oW + q, none⟩ = some (.int .i64 z) := by
          intro X hX
          refine ⟨(E.out.cells hX).1, (E.out.cells hX).2, (World.cell?_of_block (hX bW (by have := E.out.par.lt; omega) (fun e => ?_))).trans hcz⟩
          have := E.out.own.from _ e
          omega
        have hX0 := hXc W (fun _ _ _ => rfl)
        have hout : W.drew.ownsRow w.heap.size 2 1 (.slice Ak k cc) k (cells64 (x.W.reverse.take k)) := E.out.own.1
        have HZ := Lib.hid hz2
        have HQI := Lib.hid hqi
        have HXC := Lib.hid hXc
        rw [hqi]
        rw [hqi] at hge
        have hlq : (q : Int) < (n : Int) := by omega
        clear hz hz2 hcz rW hq hqi hXc
        go_wp2_with fail
        refine region_last 10 10 (fun w' => w'.cell? ⟨w3.heap.size, 3, none⟩ = some (.slice Ak k cc) ∧ w'.cell? ⟨w.heap.size, 3, none⟩ = some (.slice (some ⟨bW, oW, none⟩) n c) ∧ w'.cell? ⟨bW, oW + q, none⟩ = some (.int .i64 z)) (by kernel_rfl) (by kernel_rfl) (by kernel_rfl) hX0 (fun hS => ?_)
        refine takeD 0 (some 24) (v := ?_) rfl (by kernel_rfl) (by kernel_rfl) (by kernel_rfl) (fun _ _ _ h => h) hS (fun o ho => Or.inl ⟨by cases ho; rfl, ?_⟩) ?_
        rotate_left
        · cases ho
          intro w' hw'
          (try dsimp only at hw')
          go_simp
          (try with_reducible rfl)
        (try simp only [Act.put, List.setIfInBounds_toArray, List.set_cons_zero, List.set_cons_succ])
        refine takeD 1 (some 25) (v := ?_) rfl (by kernel_rfl) (by kernel_rfl) (by kernel_rfl) (fun _ _ _ h => h) hS (fun o ho => Or.inl ⟨by cases ho; rfl, ?_⟩) ?_
        rotate_left
        · cases ho
          intro w' hw'
          (try dsimp only at hw')
          go_simp
          (try with_reducible rfl)
        (try simp only [Act.put, List.setIfInBounds_toArray, List.set_cons_zero, List.set_cons_succ])
        refine takeD 2 (some 26) (v := ?_) rfl (by kernel_rfl) (by kernel_rfl) (by kernel_rfl) (fun _ _ _ h => h) hS (fun o ho => Or.inl ⟨by cases ho; rfl, ?_⟩) ?_
        rotate_left
        · cases ho
          intro w' hw'
          (try dsimp only at hw')
          go_simp
          (try with_reducible rfl)
        (try simp only [Act.put, List.setIfInBounds_toArray, List.set_cons_zero, List.set_cons_succ])
        refine takeD 3 (some 27) (v := ?_) rfl (by kernel_rfl) (by kernel_rfl) (by kernel_rfl) (fun _ _ _ h => h) hS (fun o ho => Or.inl ⟨by cases ho; rfl, ?_⟩) ?_
        rotate_left
        · cases ho
          intro w' hw'
          (try dsimp only at hw')
          go_simp
          (try with_reducible rfl)
        (try simp only [Act.put, List.setIfInBounds_toArray, List.set_cons_zero, List.set_cons_succ])
        refine takeD 4 (some 28) (v := ?_) rfl (by kernel_rfl) (by kernel_rfl) (by kernel_rfl) (fun _ _ _ h => h) hS (fun o ho => Or.inl ⟨by cases ho; rfl, ?_⟩) ?_
        rotate_left
        · cases ho
          intro w' hw'
          (try dsimp only at hw')
          go_simp
          (try with_reducible rfl)
        (try simp only [Act.put, List.setIfInBounds_toArray, List.set_cons_zero, List.set_cons_succ])
        refine takeD 5 (some 29) (v := ?_) rfl (by kernel_rfl) (by kernel_rfl) (by kernel_rfl) (fun _ _ _ h => h) hS (fun o ho => Or.inl ⟨by cases ho; rfl, ?_⟩) ?_
        rotate_left
        · cases ho
          intro w' hw'
          (try dsimp only at hw')
          go_simp
          (try with_reducible rfl)
        (try simp only [Act.put, List.setIfInBounds_toArray, List.set_cons_zero, List.set_cons_succ])
        refine takeD 6 (some 30) (v := ?_) rfl (by kernel_rfl) (by kernel_rfl) (by kernel_rfl) (fun _ _ _ h => h) hS (fun o ho => Or.inl ⟨by cases ho; rfl, ?_⟩) ?_
        rotate_left
        · cases ho
          intro w' hw'
          (try dsimp only at hw')
          go_simp
          (try with_reducible rfl)
        (try simp only [Act.put, List.setIfInBounds_toArray, List.set_cons_zero, List.set_cons_succ])
        refine oneD 7 (some 31) (by kernel_rfl) rfl (fun o ho K hK hdo => ?_)
        simp only [List.getElem?_toArray, List.getElem?_cons_succ, List.getElem?_cons_zero, Option.some.injEq] at ho
        subst ho
        clear hdo
        rw [if_pos (by rfl)]
        go_wp2_with (fail)
        refine hK.out _ _ ?_ (fun hS => ?_)
        · exact HXC.out _ (fun g hg _ => Below.heap_alloc _ _ _ hg)
        clear hK K
        (try simp only [Act.put, List.setIfInBounds_toArray, List.set_cons_zero, List.set_cons_succ])
        refine oneD 8 (some 32) (by kernel_rfl) rfl (fun o ho K hK hdo => ?_)
        simp only [List.getElem?_toArray, List.getElem?_cons_succ, List.getElem?_cons_zero, Option.some.injEq] at ho
        subst ho
        clear hdo
        refine step_append_lies _ rfl (.tmp 25) (.tmp 31) 23 rfl w.heap.size 2 i0 (.int .i64 0) 1 8 Try.underlying23 hi hz0 hz1 hz2 rfl (by decide) (.slice Ak k cc) k (cells64 (x.W.reverse.take k)) rfl (hout.alloc _) ⟨W.heap.size, 0, none⟩ 1 1 [.int .i64 z] rfl rfl (cell_oneW _ _ _) (fun u hu => by simp at hu; subst hu; rfl) (by decide) ?d1 ?d2 ?d3 _ rfl ?_
        case d1 => unfold maxLen; omega
        case d2 => omega
        case d3 => have := E.out.par.lt; simp; omega
        intro g3 cc3 W3 ho3 hg3 _ _
        have hk3 : ∀ g, g < W.heap.size → Ak ≠ some ⟨g, 0, none⟩ → W3.heap[g]? = W.heap[g]? := fun g hg hne => by
          rw [hg3.block g (by simp; omega) (fun e => hne (by
            rcases E.out.own.form with ⟨hA, _⟩ | ⟨g', hA, _⟩
            · rw [hA] at e; cases e
            · rw [hA] at e ⊢; simp [Value.ownBlock] at e; rw [e]))]
          exact Below.heap_alloc W _ g hg
        refine hK.out _ _ ?_ (fun hS => ?_)
        · exact HXC.out _ hk3
        clear hK K
        (try simp only [Act.put, List.setIfInBounds_toArray, List.set_cons_zero, List.set_cons_succ])
        refine takeD 9 (some 33) (v := ?_) rfl (by kernel_rfl) (by kernel_rfl) (by kernel_rfl) (fun _ _ _ h => h) hS (fun o ho => Or.inl ⟨by cases ho; rfl, ?_⟩) ?_
        rotate_left
        · cases ho
          intro w' hw'
          (try dsimp only at hw')
          go_simp
          (try with_reducible rfl)
        (try simp only [Act.put, List.setIfInBounds_toArray, List.set_cons_zero, List.set_cons_succ])
        refine wpAnyH_done (by kernel_rfl) ?_ _
        refine thenD rfl (fun o ho K hK => ?_)
        simp only [List.getElem?_toArray, List.getElem?_cons_succ, List.getElem?_cons_zero, Option.some.injEq] at ho
        subst ho
        clear hS
        have zc : W3.cell? ⟨w3.heap.size, 3, none⟩ = some (.slice Ak k cc) := (HXC.out _ hk3).1
        have zf : W3.frozen? ⟨w3.heap.size, 3, none⟩ = false := by
          have hh : Blk W3 w3.heap.size _ _ := (hk3 _ E.out.out.lt (blk_neW E.out.out E.out.own.1 (by decide))).trans E.out.out
          exact hh.frozen 3
        have FIN : Hid (FillAt w.heap.size w3.heap.size (k + 1) n c x (some ⟨bW, oW, none⟩) x.base x.modulus x.target x.W.reverse w (W3.setCell ⟨w3.heap.size, 3, none⟩ (.slice (some ⟨g3, 0, none⟩) (k + 1) cc3)) (some ⟨g3, 0, none⟩) cc3) := Lib.hid ((E.out.drew 1).next HZ.out hwf ho3 hg3)
        clear E hk3 ho3 hg3 hout hX0
        go_wp2_with fail
        refine hK.out _ _ ?_
        clear hK K
        go_wp2_with fail
        go_roundw
        case rel => exact ⟨k + 1, _, cc3, by omega, by rw [← HQI.out]; go_num, FIN⟩
        case measure => simp [intOf]
      · obtain rfl : n = k := by omega
        have hge : ¬ (0 : Int) ≤ (n : Int) - 1 - (n : Int) := by omega
        obtain ⟨q, FB⟩ := E.out.done (by simp; exact hl)
        have FB := Lib.hid FB
        have k0 := E.out.out.cell 0
        have k1 := E.out.out.cell 1
        have k2 := E.out.out.cell 2
        have k3 := E.out.out.cell 3
        have e0 := E.out.ret.cell 0
        have e1 := E.out.ret.cell 1
        have e2 := E.out.ret.cell 2
        have e3 := E.out.ret.cell 3
        have f0 := E.out.ret.frozen 0
        have f1 := E.out.ret.frozen 1
        have f2 := E.out.ret.frozen 2
        have f3 := E.out.ret.frozen 3
        have hne : w.heap.size + 1 ≠ w3.heap.size := by omega
        clear E
        go_wp2_with fail
        obtain ⟨w8, hw8⟩ : ∃ w8, w8 = four W (w.heap.size + 1) (.int .i64 x.base) (.int .i64 x.modulus) (.int .i64 x.target) (.slice Ak n cc) := ⟨_, rfl⟩
        rw [← hw8] at q FB
        unfold four at hw8
        rw [← hw8]
        have q0 := q.cell 0
        have q1 := q.cell 1
        have q2 := q.cell 2
        have q3 := q.cell 3
        refine bodyPost_ret (v := .tuple #[.agg #[.int .i64 x.base, .int .i64 x.modulus, .int .i64 x.target, .slice Ak n cc], .bool true]) (by simp [results, Try.results44, go_sem, q0, q1, q2, q3]) rfl ?_
        rw [mirR_yes HO.out]
        exact FB.out
set_option maxRecDepth 100000 in
set_option maxHeartbeats 4000000 in
theorem implMir_any {B : Nat} (x : Wt) (A : Option Addr) (n c : Nat) (w : World) (hr : RowB .i64 B w A n x.W) (hB : B ≤ w.heap.size) :
    Calls Try.prog 45 #[wtV x A n c] w (MadeWB w.heap.size (mirR x) (wOk x) w) := by
  have hl := hr.len
  have hn := hr.le
  obtain ⟨w1, hw1⟩ : ∃ w1, w1 = w.alloc (.cells (wtCells x A n c) 44) := ⟨_, rfl⟩
  obtain ⟨w2, hw2⟩ : ∃ w2, w2 = w1.alloc (.cells #[.int .i64 0, .int .i64 0, .int .i64 0, nilV] 44) := ⟨_, rfl⟩
  have sz1 : w1.heap.size = w.heap.size + 1 := by rw [hw1]; simp
  have bel : Below w.heap.size w w2 := by rw [hw2, hw1]; exact ((Below.refl _ w).alloc (Nat.le_refl _) _).alloc (by simp) _
  have b1 : Blk w2 w.heap.size (wtCells x A n c) 44 := by
    have h : Blk w1 w.heap.size (wtCells x A n c) 44 := by rw [hw1]; exact Blk.new _ _ _
    rw [hw2]; exact h.alloc _
  have b2 : Blk w2 (w.heap.size + 1) #[.int .i64 0, .int .i64 0, .int .i64 0, nilV] 44 := by
    have h := Blk.new w1 #[.int .i64 0, .int .i64 0, .int .i64 0, nilV] 44
    rw [sz1] at h
    rw [hw2]; exact h
  have r2 := RowB.below hr (bel.mono hB)
  have CV := validW_any x A n c w2 r2 (Nat.le_trans hB bel.size)
  have BEL := Lib.hid bel
  have R2 := Lib.hid r2
  have B1 := Lib.hid b1
  have B2 := Lib.hid b2
  have hs2 : w.heap.size + 1 < w2.heap.size := b2.lt
  clear bel b1 b2 r2 hr sz1
  rcases h1 : wOk x with _ | _
  · rw [h1] at CV
    have HO := Lib.hid h1
    clear h1
    have k0 := B1.out.cell 0
    have k1 := B1.out.cell 1
    have k2 := B1.out.cell 2
    have k3 := B1.out.cell 3
    have hs2b : w.heap.size ≠ w.heap.size + 1 := by omega
    go_enter Try.func45, Try.ntmps45
    go_wp2_with fail
    rw [← hw1, ← hw2]
    have HW1 := Lib.hid hw1
    have HW2 := Lib.hid hw2
    clear hw1 hw2
    (go_at_call 78; (with_reducible refine (CV).mono ?_); rintro e w3 ⟨rfl, be2⟩)
    have bl3 : Below w.heap.size w w3 := BEL.out.trans (be2.mono BEL.out.size)
    have d1 : Blk w3 w.heap.size (wtCells x A n c) 44 := B1.out.below be2 (by omega)
    have d2 : Blk w3 (w.heap.size + 1) #[.int .i64 0, .int .i64 0, .int .i64 0, nilV] 44 := B2.out.below be2 hs2
    have r3 : RowB .i64 B w3 A n x.W := RowB.below R2.out (be2.mono (Nat.le_trans hB BEL.out.size))
    have hs3 := d2.lt
    have BL3 := Lib.hid bl3
    have D1 := Lib.hid d1
    have D2 := Lib.hid d2
    have R3 := Lib.hid r3
    clear CV be2 bl3 d1 d2 r3 k0 k1 k2 k3
    have e0 := D2.out.cell 0
    have e1 := D2.out.cell 1
    have e2 := D2.out.cell 2
    have e3 := D2.out.cell 3
    have fe0 := D2.out.frozen 0
    have fe1 := D2.out.frozen 1
    have fe2 := D2.out.frozen 2
    have fe3 := D2.out.frozen 3
    go_wp2_with fail
    have q : Blk (four w3 (w.heap.size + 1) (.int .i64 0) (.int .i64 0) (.int .i64 0) (.slice none 0 0)) (w.heap.size + 1) #[.int .i64 0, .int .i64 0, .int .i64 0, .slice none 0 0] 44 := four_blk D2.out _ _ _ _
    have FB : Hid (Below w.heap.size w (four w3 (w.heap.size + 1) (.int .i64 0) (.int .i64 0) (.int .i64 0) (.slice none 0 0))) := Lib.hid (four_below BL3.out (by omega) _ _ _ _)
    obtain ⟨w8, hw8⟩ : ∃ w8, w8 = four w3 (w.heap.size + 1) (.int .i64 0) (.int .i64 0) (.int .i64 0) (.slice none 0 0) := ⟨_, rfl⟩
    rw [← hw8] at q FB
    unfold four at hw8
    rw [← hw8]
    have q0 := q.cell 0
    have q1 := q.cell 1
    have q2 := q.cell 2
    have q3 := q.cell 3
    refine bodyPost_ret (v := .tuple #[.agg #[.int .i64 0, .int .i64 0, .int .i64 0, .slice none 0 0], .bool false]) (by simp [results, Try.results45, go_sem, q0, q1, q2, q3]) rfl ?_
    rw [mirR_no HO.out]
    exact made_zero FB.out
  · rw [h1] at CV
    obtain ⟨bs, md, kk, f⟩ := Wt.fine h1
    have HO := Lib.hid h1
    have hkn : n = kk := by have := f.len; omega
    subst hkn
    have hn20 := f.n20
    have hn1 := f.n1
    clear h1 f
    have k0 := B1.out.cell 0
    have k1 := B1.out.cell 1
    have k2 := B1.out.cell 2
    have k3 := B1.out.cell 3
    have hs2b : w.heap.size ≠ w.heap.size + 1 := by omega
    go_enter Try.func45, Try.ntmps45
    go_wp2_with fail
    rw [← hw1, ← hw2]
    have HW1 := Lib.hid hw1
    have HW2 := Lib.hid hw2
    clear hw1 hw2
    (go_at_call 78; (with_reducible refine (CV).mono ?_); rintro e w3 ⟨rfl, be2⟩)
    have bl3 : Below w.heap.size w w3 := BEL.out.trans (be2.mono BEL.out.size)
    have d1 : Blk w3 w.heap.size (wtCells x A n c) 44 := B1.out.below be2 (by omega)
    have d2 : Blk w3 (w.heap.size + 1) #[.int .i64 0, .int .i64 0, .int .i64 0, nilV] 44 := B2.out.below be2 hs2
    have r3 : RowB .i64 B w3 A n x.W := RowB.below R2.out (be2.mono (Nat.le_trans hB BEL.out.size))
    have hs3 := d2.lt
    have BL3 := Lib.hid bl3
    have D1 := Lib.hid d1
    have D2 := Lib.hid d2
    have R3 := Lib.hid r3
    clear CV be2 bl3 d1 d2 r3 k0 k1 k2 k3
    have CC := clone_any A n c x.W w3 R3.out (by omega) (by omega)
    have k3 := D1.out.cell 3
    go_wp2_with fail
    (go_at_call 96; (with_reducible refine (CC).mono ?_); rintro e w4 ⟨A4, c4, rfl, ho4, be4⟩)
    clear CC k3
    have d1 := D1.out.below be4 (by omega)
    have d2 := D2.out.below be4 hs3
    have bl4 : Below w.heap.size w w4 := BL3.out.trans (be4.mono BL3.out.size)
    have k3 := d1.cell 3
    have fk3 := d1.frozen 3
    obtain ⟨w5, hw5⟩ : ∃ w5, w5 = w4.setCell ⟨w.heap.size, 3, none⟩ (.slice A4 n c4) := ⟨_, rfl⟩
    have p5 : Blk w5 w.heap.size #[.int .i64 x.base, .int .i64 x.modulus, .int .i64 x.target, .slice A4 n c4] 44 := by rw [hw5]; simpa using d1.set 3 (.slice A4 n c4)
    have q5 : Blk w5 (w.heap.size + 1) #[.int .i64 0, .int .i64 0, .int .i64 0, nilV] 44 := by rw [hw5]; exact d2.other _ (by omega)
    have o5 : Own w3.heap.size w5 A4 n c4 x.W := ho4.keep fun g hg => by rw [hw5]; exact heap_setCell_other _ _ _ _ (by have := ho4.from g hg; show g ≠ w.heap.size; omega)
    have b5 : Below w.heap.size w w5 := by rw [hw5]; exact bl4.setCell (by simp) _
    have CR := reverse_any A4 n c4 x.W w5 o5
    have P5 := Lib.hid p5
    have Q5 := Lib.hid q5
    have B5 := Lib.hid b5
    have O5 := Lib.hid o5
    clear d1 d2 bl4 be4 ho4 p5 q5 b5 o5
    go_wp2_with fail
    rw [← hw5]
    have HW5 := Lib.hid hw5
    clear hw5 k3 fk3
    (go_at_call 97; (with_reducible refine (CR).mono ?_); rintro e w6 ⟨rfl, ho6, w0, m, hw6, on6⟩)
    have hfr : ∀ g, A4 = some ⟨g, 0, none⟩ → w3.heap.size ≤ g := O5.out.from
    have p6 : Blk w6 w.heap.size #[.int .i64 x.base, .int .i64 x.modulus, .int .i64 x.target, .slice A4 n c4] 44 := by
      rw [hw6]
      exact (on6.block _ (fun e => by have := hfr _ e; omega)).trans P5.out
    have q6 : Blk w6 (w.heap.size + 1) #[.int .i64 0, .int .i64 0, .int .i64 0, nilV] 44 := by
      rw [hw6]
      exact (on6.block _ (fun e => by have := hfr _ e; omega)).trans Q5.out
    have b6 : Below w.heap.size w w6 := by
      rw [hw6]
      exact below_drewN (B5.out.trans (on6.below fun g hg => by have := hfr g hg; omega)) m
    have q : Blk (four w6 (w.heap.size + 1) (.int .i64 x.base) (.int .i64 x.modulus) (.int .i64 x.target) (.slice A4 n c4)) (w.heap.size + 1) #[.int .i64 x.base, .int .i64 x.modulus, .int .i64 x.target, .slice A4 n c4] 44 := four_blk q6 _ _ _ _
    have FB : Hid (MadeWB w.heap.size ⟨x.base, x.modulus, x.target, x.W.reverse⟩ true w (.returned (.tuple #[.agg #[.int .i64 x.base, .int .i64 x.modulus, .int .i64 x.target, .slice A4 n c4], .bool true])) (four w6 (w.heap.size + 1) (.int .i64 x.base) (.int .i64 x.modulus) (.int .i64 x.target) (.slice A4 n c4))) := Lib.hid (by
      have hlr : x.W.reverse.length = n := by simp; exact hl
      refine ⟨A4, c4, by rw [hlr], ?_, four_below b6 (by omega) _ _ _ _⟩
      rw [hlr]
      exact (ho6.keep fun g hg => four_heap _ _ _ _ _ _ (by have := hfr g hg; omega)).lower BL3.out.size)
    have k0 := p6.cell 0
    have k1 := p6.cell 1
    have k2 := p6.cell 2
    have k3 := p6.cell 3
    have e0 := q6.cell 0
    have e1 := q6.cell 1
    have e2 := q6.cell 2
    have e3 := q6.cell 3
    have fe0 := q6.frozen 0
    have fe1 := q6.frozen 1
    have fe2 := q6.frozen 2
    have fe3 := q6.frozen 3
    clear CR hw6 on6 ho6 p6 q6 b6 hfr
    go_wp2_with fail
    obtain ⟨w8, hw8⟩ : ∃ w8, w8 = four w6 (w.heap.size + 1) (.int .i64 x.base) (.int .i64 x.modulus) (.int .i64 x.target) (.slice A4 n c4) := ⟨_, rfl⟩
    rw [← hw8] at q FB
    unfold four at hw8
    rw [← hw8]
    have q0 := q.cell 0
    have q1 := q.cell 1
    have q2 := q.cell 2
    have q3 := q.cell 3
    refine bodyPost_ret (v := .tuple #[.agg #[.int .i64 x.base, .int .i64 x.modulus, .int .i64 x.target, .slice A4 n c4], .bool true]) (by simp [results, Try.results45, go_sem, q0, q1, q2, q3]) rfl ?_
    rw [mirR_yes HO.out]
    exact FB.out
end Go.Proofs.Ytakkehjfdeghoab
