/-
  The quasigroup with zeros in its diagonal: the program's way.
-/
import Derived.Test.YtiokcflomchdcabZero
import Derived.Test.YtiokcflomchdcabLast
namespace Go.Proofs.Ytiokcflomchdcab
open Go.RowKit

/-- A row of numbers by a function. -/
def natArr (m : Nat) (f : Nat → Nat) : Array Value := ((List.range m).map fun j : Nat => Value.int .i64 ((f j : Nat) : Int)).toArray
theorem natArr_at {m : Nat} (f : Nat → Nat) {j : Nat} (h : j < m) : (natArr m f)[j]? = some (.int .i64 ((f j : Nat) : Int)) := by
  simp [natArr, h]
theorem natArr_set (m : Nat) (f : Nat → Nat) (j v : Nat) : (natArr m f).setIfInBounds j (.int .i64 (v : Int)) = natArr m (fun x => if j = x then v else f x) := by
  apply Array.ext_getElem?
  intro i
  rw [Array.getElem?_setIfInBounds]
  have hs1 : (natArr m f).size = m := by simp [natArr]
  have hs2 : (natArr m (fun x => if j = x then v else f x)).size = m := by simp [natArr]
  by_cases hi : i < m
  · rw [natArr_at _ hi, natArr_at _ hi]
    by_cases he : j = i
    · subst he
      simp [hs1, hi]
    · rw [if_neg he, if_neg he]
  · rw [Array.getElem?_eq_none (by omega : (natArr m (fun x => if j = x then v else f x)).size ≤ i)]
    split
    · next he => rw [if_neg (by omega)]
    · rw [Array.getElem?_eq_none (by omega)]
theorem natArr_congr {m : Nat} {f g : Nat → Nat} (h : ∀ x, f x = g x) : natArr m f = natArr m g := by
  have : f = g := funext h
  rw [this]
/-- The row in which each column has 0, as far as k rows have come. -/
def cfn (z : Nat → Nat) : Nat → Nat → Nat
  | 0, _ => 0
  | k + 1, y => if z k = y then k else cfn z k y
theorem cfn_at {z : Nat → Nat} {n : Nat} (hi : ∀ x x', x < n → x' < n → z x = z x' → x = x') : ∀ k, k ≤ n → ∀ x, x < k → cfn z k (z x) = x
  | 0, _, x, hx => by omega
  | k + 1, hk, x, hx => by
    show (if z k = z x then k else cfn z k (z x)) = x
    by_cases h : z k = z x
    · rw [if_pos h]; exact hi k x (by omega) (by omega) h
    · rw [if_neg h]
      have : x ≠ k := fun e => h (by rw [e])
      exact cfn_at hi k (by omega) x (by omega)
/-- Each column has its row. -/
theorem zc_onto {t : List (List Int)} {n : Nat} (h : isQ t = true) (hl : t.length = n) {y : Nat} (hy : y < n) : ∃ x, x < n ∧ zc t n x = y := by
  refine Classical.byContradiction fun hn => ?_
  have hnd : (y :: (List.range n).map (zc t n)).Nodup := by
    refine List.nodup_cons.2 ⟨fun hm => ?_, ?_⟩
    · obtain ⟨i, hi1, hi2⟩ := List.mem_map.1 hm
      exact hn ⟨i, List.mem_range.1 hi1, hi2⟩
    · unfold List.Nodup
      rw [List.pairwise_map]
      refine List.Pairwise.imp_of_mem ?_ List.nodup_range
      intro a b ha hb hab hf
      exact hab (zc_inj h hl (List.mem_range.1 ha) (List.mem_range.1 hb) hf)
  have := nodup_len n _ hnd (fun x hx => by
    rcases List.mem_cons.1 hx with rfl | hx
    · exact hy
    · obtain ⟨i, hi1, rfl⟩ := List.mem_map.1 hx
      exact (zc_spec h hl (List.mem_range.1 hi1)).1)
  simp at this
  omega
theorem cfn_zc {t : List (List Int)} {n : Nat} (h : isQ t = true) (hl : t.length = n) {y : Nat} (hy : y < n) : cfn (zc t n) n y < n ∧ zc t n (cfn (zc t n) n y) = y := by
  obtain ⟨x, hx, rfl⟩ := zc_onto h hl hy
  rw [cfn_at (fun a b ha hb e => zc_inj h hl ha hb e) n (Nat.le_refl _) x hx]
  exact ⟨hx, rfl⟩
theorem zero_inj {t : List (List Int)} {n : Nat} (h : isQ t = true) (hl : t.length = n) : InjP (fun x _ => x) (fun _ y => cfn (zc t n) n y) n :=
  ⟨fun _ _ hx hy => ⟨hx, (cfn_zc h hl hy).1⟩, fun _ y _ y' _ hy _ hy' e1 e2 => ⟨e1, by rw [← (cfn_zc h hl hy).2, ← (cfn_zc h hl hy').2]; exact congrArg _ e2⟩⟩
theorem zero_goal {t : List (List Int)} {n : Nat} (h : isQ t = true) (hl : t.length = n) {x y : Nat} (hy : y < n) : zeroF t n x (cfn (zc t n) n y) = cellZ t x y := by
  unfold zeroF; rw [(cfn_zc h hl hy).2]

set_option maxHeartbeats 1000000 in
theorem index_zero {b o : Nat} (f : Nat → Nat) (n c : Nat) (hn : n ≤ maxLen) (z : Nat) (w : World) (h1 : z < n) (h2 : f z = 0) (h3 : ∀ y, y < z → f y ≠ 0) (h : ∀ y, y < n → w.cell? ⟨b, o + y, none⟩ = some (.int .i64 ((f y : Nat) : Int))) :
    Calls Try.prog 46 #[.slice (some ⟨b, o, none⟩) n c, .int .i64 0] w fun e w' => e = .returned (.int .i64 (z : Int)) ∧ w' = w := by
  have H3 := Lib.hid h3
  have H := Lib.hid h
  unfold maxLen at hn
  clear h3 h
  go_enter Try.func46, Try.ntmps46
  go_wp2
  go_loop [5, 8] (fun _ i => ∃ k : Nat, k ≤ z ∧ i = .int .i64 k) (fun _ i => z - (intOf i).toNat)
  case atStart => exact ⟨0, by omega, rfl⟩
  case round =>
    obtain ⟨k, hk, rfl⟩ := hrel
    have hc := H.out k (by omega)
    by_cases hlt : k < z
    · have hne := H3.out k hlt
      generalize f k = v at hc hne
      have g1 : ((0 : Int) == (v : Int)) = false := by simp; omega
      go_wp2
      go_round
      case rel => exact ⟨k + 1, by omega, by go_num⟩
      case measure => simp [intOf]; omega
    · obtain rfl : k = z := by omega
      rw [h2] at hc
      go_wp2
      go_ret
      exact ⟨rfl, rfl⟩

set_option maxRecDepth 100000 in
set_option maxHeartbeats 4000000 in
theorem zeroClo_any {g1 b1 o1 : Nat} (n c x y z q : Nat) (w : World) (d1 : w.cell? ⟨g1, 0, none⟩ = some (.slice (some ⟨b1, o1, none⟩) n c)) (d2 : w.cell? ⟨b1, o1 + y, none⟩ = some (.int .i64 (q : Int))) (hy : y < n) :
    Calls Try.prog 48 #[.agg #[.int .i64 x, .int .i64 y, .int .i64 z], .pointer (some ⟨g1, 0, none⟩)] w fun e w' => e = .returned (.agg #[.int .i64 (x : Nat), .int .i64 (q : Nat), .int .i64 (z : Nat)]) ∧ Below w.heap.size w w' := by
  have m1 : g1 < w.heap.size := block_of_cell d1
  have m2 : b1 < w.heap.size := block_of_cell d2
  obtain ⟨w2, hw2⟩ : ∃ w2, w2 = (w.alloc (.cells #[.int .i64 x, .int .i64 y, .int .i64 z] 54)).alloc (.cells #[.int .i64 0, .int .i64 0, .int .i64 0] 54) := ⟨_, rfl⟩
  have bel2 : Below w.heap.size w w2 := by rw [hw2]; exact ((Below.refl _ w).alloc (Nat.le_refl _) _).alloc (by simp) _
  have k1 : Blk w2 w.heap.size #[.int .i64 x, .int .i64 y, .int .i64 z] 54 := by rw [hw2]; exact (Blk.new _ _ _).alloc _
  have k2 : Blk w2 (w.heap.size + 1) #[.int .i64 0, .int .i64 0, .int .i64 0] 54 := by
    rw [hw2]
    have := Blk.new (w.alloc (.cells #[.int .i64 x, .int .i64 y, .int .i64 z] 54)) #[.int .i64 0, .int .i64 0, .int .i64 0] 54
    simpa using this
  have f1 := (bel2.cell (p := ⟨g1, 0, none⟩) m1).trans d1
  have f4 := (bel2.cell (p := ⟨b1, o1 + y, none⟩) m2).trans d2
  have t0 : w2.cell? ⟨w.heap.size, 0, none⟩ = some (.int .i64 (x : Int)) := k1.cell 0
  have t1 : w2.cell? ⟨w.heap.size, 1, none⟩ = some (.int .i64 (y : Int)) := k1.cell 1
  have t2 : w2.cell? ⟨w.heap.size, 2, none⟩ = some (.int .i64 (z : Int)) := k1.cell 2
  have r0 : w2.cell? ⟨w.heap.size + 1, 0, none⟩ = some (.int .i64 0) := k2.cell 0
  have r1 : w2.cell? ⟨w.heap.size + 1, 1, none⟩ = some (.int .i64 0) := k2.cell 1
  have r2 : w2.cell? ⟨w.heap.size + 1, 2, none⟩ = some (.int .i64 0) := k2.cell 2
  have u0 : w2.frozen? ⟨w.heap.size + 1, 0, none⟩ = false := k2.frozen 0
  have u1 : w2.frozen? ⟨w.heap.size + 1, 1, none⟩ = false := k2.frozen 1
  have u2 : w2.frozen? ⟨w.heap.size + 1, 2, none⟩ = false := k2.frozen 2
  have K2 := Lib.hid k2
  have BEL := Lib.hid bel2
  clear k1 k2 bel2 d1 d2
  go_enter Try.func48, Try.ntmps48
  go_wp2_with fail
  rw [← hw2]
  have HW2 := Lib.hid hw2
  clear hw2
  go_region
  obtain ⟨W3, hW3⟩ : ∃ W3, W3 = (((w2.setCell ⟨w.heap.size + 1, 0, none⟩ (.int .i64 (x : Int))).setCell ⟨w.heap.size + 1, 1, none⟩ (.int .i64 (q : Int))).setCell ⟨w.heap.size + 1, 2, none⟩ (.int .i64 (z : Int))).drew := ⟨_, rfl⟩
  rw [← hW3]
  have K3 : Hid (W3.heap[w.heap.size + 1]? = some (.cells #[.int .i64 (x : Int), .int .i64 (q : Int), .int .i64 (z : Int)] 54)) := Lib.hid (by
    rw [hW3]
    exact ((K2.out.set 0 (.int .i64 (x : Int))).set 1 (.int .i64 (q : Int))).set 2 (.int .i64 (z : Int)))
  have B3 : Hid (Below w.heap.size w W3) := Lib.hid (by
    rw [hW3]
    exact (((BEL.out.setCell (p := ⟨w.heap.size + 1, 0, none⟩) (Nat.le_succ _) _).setCell (p := ⟨w.heap.size + 1, 1, none⟩) (Nat.le_succ _) _).setCell (p := ⟨w.heap.size + 1, 2, none⟩) (Nat.le_succ _) _).drew)
  clear hW3
  go_wp2_with fail
  exact bodyPost_ret (v := .agg #[.int .i64 (x : Int), .int .i64 (q : Int), .int .i64 (z : Int)]) (results_cell_row rfl _ W3 (w.heap.size + 1) _ #[.int .i64 (x : Int), .int .i64 (q : Int), .int .i64 (z : Int)] (0, 0) _ rfl K3.out Try.underlying54 rfl (by kernel_rfl)) rfl ⟨rfl, B3.out⟩

theorem info64Z : (Try.prog.info? 2).map (fun i => (i.zero, i.size, i.bytes)) = some (some (.int .i64 0), 1, 8) := by kernel_rfl
set_option maxRecDepth 100000 in
set_option maxHeartbeats 8000000 in
theorem implZero_any {B : Nat} (A : Option Addr) (n c : Nat) (t : List (List Int)) (w : World) (h : Rows2 B w A n t) (hB : B ≤ w.heap.size) :
    Calls Try.prog 16 #[.slice A n c] w (GotT (optB (isQ t) (gridOf n n (zeroF t n))) w) := by
  have hl := h.len
  have hle := h.le
  have CQ := implIsQ_any A n c t w h hB
  have HFF : Hid (isQ t = true → (tabOk n n t = true ∧ (∀ x, x < n → zc t n x < n ∧ cellZ t x (zc t n x) = 0 ∧ ∀ y, y < zc t n x → cellZ t x y ≠ 0) ∧ (1 ≤ n ∧ n ≤ 36) ∧ InjP (fun x _ => x) (fun _ y => cfn (zc t n) n y) n ∧ ∀ x y, x < n → y < n → zeroF t n x (cfn (zc t n) n y) = cellZ t x y)) := Lib.hid (fun hq => ⟨(isQ_parts hq hl).2, fun x hx => zc_spec hq hl hx, (isQ_parts hq hl).1, zero_inj hq hl, fun x y _ hy => zero_goal hq hl hy⟩)
  obtain ⟨o, ho⟩ : ∃ o, o = isQ t := ⟨_, rfl⟩
  rw [← ho] at HFF CQ ⊢
  clear ho
  have HR := Lib.hid h
  clear h
  rcases o with _ | _
  · go_enter Try.func16, Try.ntmps16
    go_wp2_with (go_at_call 45; (with_reducible refine (CQ).mono ?_); rintro e w' ⟨rfl, hb⟩)
    go_ret2
    exact gotT_none hb
  · obtain ⟨ht, hz, ⟨hn1, hn36⟩, hinj, hgoal⟩ := HFF.out rfl
    have HT := Lib.hid ht
    have HZ := Lib.hid hz
    have HI := Lib.hid hinj
    have HG := Lib.hid hgoal
    obtain ⟨iZ, hiZ, hzZ0, hzZ1, hzZ2⟩ := info_parts info64Z
    clear ht hz HFF hinj hgoal
    go_enter Try.func16, Try.ntmps16
    go_wp2_with fail
    (go_at_call 45; (with_reducible refine (CQ).mono ?_); rintro e w1 ⟨rfl, hb0⟩)
    have HB0 := Lib.hid hb0
    clear hb0 CQ
    go_wp2_with (refine wpList_make_full _ rfl _ _ 38 rfl w1.heap.size 2 iZ (.int .i64 0) 1 Try.underlying38 hiZ hzZ0 hzZ1 .i64 .i64 n n n rfl rfl rfl rfl ?m1 ?m2 (Nat.le_refl _) ?_)
    case m1 => rw [hzZ2]; omega
    case m2 => unfold maxLen; omega
    intro w2 hrow hg2
    have hb2 : Below w1.heap.size w1 w2 := (Below.refl _ w1).grown hg2 (Nat.le_refl _) (fun k hk => by cases hk)
    have hc2 : w2.heap[w1.heap.size]? = some (.cells (natArr n (fun _ => 0)) 2) := by
      have e := row_exact hrow
      rw [e]
      congr 2
      apply Array.ext'
      simp [natArr, toList_madeCells_one, List.map_const']
    have hlt2 : w1.heap.size < w2.heap.size := (Array.getElem?_eq_some_iff.1 hc2).1
    obtain ⟨w3, hw3⟩ : ∃ w3, w3 = w2.alloc (.cells #[.slice (some ⟨w1.heap.size, 0, none⟩) n n] 38) := ⟨_, rfl⟩
    have k3 : Blk w3 w2.heap.size #[.slice (some ⟨w1.heap.size, 0, none⟩) n n] 38 := by rw [hw3]; exact Blk.new _ _ _
    have HC3 : Hid (w3.heap[w1.heap.size]? = some (.cells (natArr n (fun _ => 0)) 2)) := Lib.hid (by rw [hw3, Below.heap_alloc _ _ _ hlt2]; exact hc2)
    have B13 : Hid (Below w1.heap.size w1 w3) := Lib.hid (by rw [hw3]; exact hb2.alloc hb2.size _)
    have K3 := Lib.hid k3
    have lt3 := k3.lt
    clear hrow hg2 hb2 hc2 k3
    go_wp2_with fail
    rw [← hw3]
    have HW3 := Lib.hid hw3
    clear hw3
    go_wp2_with fail
    go_loopw [5, 6, 15] (fun _ _ i wr => ∃ k : Nat, k ≤ n ∧ i = .int .i64 k ∧ Hid (wr.heap[w1.heap.size]? = some (.cells (natArr n (cfn (zc t n) k)) 2)) ∧ Hid (wr.heap[w2.heap.size]? = some (.cells #[.slice (some ⟨w1.heap.size, 0, none⟩) n n] 38)) ∧ Below w1.heap.size w1 wr) (fun _ _ i _ => n - (intOf i).toNat)
    case atStart => exact ⟨0, by omega, rfl, HC3, Lib.hid K3.out, B13.out⟩
    case round =>
      obtain ⟨k, hk, rfl, hcols, hbox, hb⟩ := hrel
      obtain ⟨wq, rfl⟩ : ∃ wq, wq = wr := ⟨_, rfl⟩
      have hbw : Below w.heap.size w wq := HB0.out.trans (hb.mono HB0.out.size)
      have s01 := HB0.out.size
      have hs := hb.size
      by_cases hlt : k < n
      · obtain ⟨hz1, hz2, hz3⟩ := HZ.out k hlt
        obtain ⟨zz, hzz⟩ : ∃ zz, zz = zc t n k := ⟨_, rfl⟩
        rw [← hzz] at hz1 hz2 hz3
        have HZQ : Hid (zz = zc t n k) := Lib.hid hzz
        have HZ3 := Lib.hid hz3
        clear hz3 hzz
        obtain ⟨b, o, b2, o2, c2, e1, hbB, hc1, _, hb2B, hrow⟩ := row_lies (HR.out.below (hbw.mono hB)) HT.out hlt
        subst e1
        have HROW := Lib.hid hrow
        clear hrow
        have hbx : wq.cell? ⟨w2.heap.size, 0, none⟩ = some (.slice (some ⟨w1.heap.size, 0, none⟩) n n) := (show Blk wq w2.heap.size #[.slice (some ⟨w1.heap.size, 0, none⟩) n n] 38 from hbox.out).cell 0
        have hcz : wq.cell? ⟨w1.heap.size, zz, none⟩ = some (.int .i64 (cfn (zc t n) k zz : Nat)) := (cell_of_row wq w1.heap.size zz _ _ (0, 0) hcols.out).trans (natArr_at _ hz1)
        have hfz : wq.frozen? ⟨w1.heap.size, zz, none⟩ = false := frozen_of_row wq w1.heap.size zz _ _ hcols.out
        have HRD : Hid (∀ y, y < n → wq.drew.cell? ⟨b2, o2 + y, none⟩ = some (.int .i64 ((cellZ t k y : Nat) : Int))) := Lib.hid HROW.out
        have HNM : Hid (n ≤ maxLen) := Lib.hid (by unfold maxLen; omega)
        go_wp2_with fail
        refine region_last 5 5 (fun w' => w'.cell? ⟨w2.heap.size, 0, none⟩ = some (.slice (some ⟨w1.heap.size, 0, none⟩) n n)) (by kernel_rfl) (by kernel_rfl) (by kernel_rfl) (hbx) (fun hS => ?_)
        refine takeD 0 (some 20) (v := ?_) rfl (by kernel_rfl) (by kernel_rfl) (by kernel_rfl) (fun _ _ _ h => h) hS (fun o ho => Or.inl ⟨by cases ho; rfl, ?_⟩) ?_
        rotate_left
        · cases ho
          intro w' hw'
          (try dsimp only at hw')
          go_simp
          (try with_reducible rfl)
        (try simp only [Act.put, List.setIfInBounds_toArray, List.set_cons_zero, List.set_cons_succ])
        refine takeD 1 (some 21) (v := ?_) rfl (by kernel_rfl) (by kernel_rfl) (by kernel_rfl) (fun _ _ _ h => h) hS (fun o ho => Or.inl ⟨by cases ho; rfl, ?_⟩) ?_
        rotate_left
        · cases ho
          intro w' hw'
          (try dsimp only at hw')
          go_simp
          (try with_reducible rfl)
        (try simp only [Act.put, List.setIfInBounds_toArray, List.set_cons_zero, List.set_cons_succ])
        refine takeD 3 (some 23) (v := ?_) rfl (by kernel_rfl) (by kernel_rfl) (by kernel_rfl) (fun _ _ _ h => h) hS (fun o ho => Or.inl ⟨by cases ho; rfl, ?_⟩) ?_
        rotate_left
        · cases ho
          intro w' hw'
          (try dsimp only at hw')
          go_simp
          (try with_reducible rfl)
        (try simp only [Act.put, List.setIfInBounds_toArray, List.set_cons_zero, List.set_cons_succ])
        refine oneD 2 (some 22) (by kernel_rfl) rfl (fun o ho K hK hdo => ?_)
        simp only [List.getElem?_toArray, List.getElem?_cons_succ, List.getElem?_cons_zero, Option.some.injEq] at ho
        subst ho
        clear hdo
        rw [if_pos (by rfl)]
        go_wp2_with fail
        (go_at_call 46; (with_reducible refine (index_zero _ n c2 HNM.out zz wq.drew hz1 hz2 HZ3.out HRD.out).mono ?_); rintro e W3 ⟨rfl, hW3⟩)
        have BL3 : Below wq.heap.size wq W3 := by rw [hW3]; exact (Below.refl _ _).drew
        have hd1 : W3.cell? ⟨w2.heap.size, 0, none⟩ = some (.slice (some ⟨w1.heap.size, 0, none⟩) n n) := by rw [hW3]; exact hbx
        have hd2 : W3.cell? ⟨w1.heap.size, zz, none⟩ = some (.int .i64 (cfn (zc t n) k zz : Nat)) := by rw [hW3]; exact hcz
        have hd3 : W3.frozen? ⟨w1.heap.size, zz, none⟩ = false := by rw [hW3]; exact hfz
        have HC3 : Hid ((W3.setCell ⟨w1.heap.size, zz, none⟩ (.int .i64 (k : Int))).heap[w1.heap.size]? = some (.cells (natArr n (cfn (zc t n) (k + 1))) 2)) := Lib.hid (by
          have e := heap_setCell_same W3 w1.heap.size zz _ _ (.int .i64 (k : Int)) ((show W3.heap[w1.heap.size]? = some (.cells (natArr n (cfn (zc t n) k)) 2) by rw [hW3]; exact hcols.out))
          rw [natArr_set] at e
          rw [e, natArr_congr (f := fun x => if zz = x then k else cfn (zc t n) k x) (g := cfn (zc t n) (k + 1)) (fun i => by rw [HZQ.out]; rfl)])
        have HX3 : Hid ((W3.setCell ⟨w1.heap.size, zz, none⟩ (.int .i64 (k : Int))).heap[w2.heap.size]? = some (.cells #[.slice (some ⟨w1.heap.size, 0, none⟩) n n] 38)) := Lib.hid (by
          rw [heap_setCell_other _ _ _ _ (show w2.heap.size ≠ w1.heap.size by omega), hW3]; exact hbox.out)
        have HB3 : Hid (Below w1.heap.size w1 W3) := Lib.hid (hb.trans (BL3.mono hb.size))
        have HW3 := Lib.hid hW3
        clear hW3 BL3 hbx hcz hfz
        refine hK.out _ _ ?_ (fun hS => ?_)
        · exact hd1
        clear hK K
        (try simp only [Act.put, List.setIfInBounds_toArray, List.set_cons_zero, List.set_cons_succ])
        refine takeD 4 (some 24) (v := ?_) rfl (by kernel_rfl) (by kernel_rfl) (by kernel_rfl) (fun _ _ _ h => h) hS (fun o ho => Or.inl ⟨by cases ho; rfl, ?_⟩) ?_
        rotate_left
        · cases ho
          intro w' hw'
          (try dsimp only at hw')
          go_simp
          (try with_reducible rfl)
        (try simp only [Act.put, List.setIfInBounds_toArray, List.set_cons_zero, List.set_cons_succ])
        refine wpAnyH_done (by kernel_rfl) ?_ _
        refine thenD rfl (fun o ho K hK => ?_)
        simp only [List.getElem?_toArray, List.getElem?_cons_succ, List.getElem?_cons_zero, Option.some.injEq] at ho
        subst ho
        clear hS
        go_wp2_with fail
        refine hK.out _ _ ?_
        clear hK K
        go_wp2_with fail
        go_roundw
        case rel => exact ⟨k + 1, by omega, by go_num, HC3, HX3, HB3.out.setCell (Nat.le_refl _) _⟩
        case measure => simp [intOf]; omega
      · obtain rfl : n = k := by omega
        have hbx : wq.cell? ⟨w2.heap.size, 0, none⟩ = some (.slice (some ⟨w1.heap.size, 0, none⟩) n n) := (show Blk wq w2.heap.size #[.slice (some ⟨w1.heap.size, 0, none⟩) n n] 38 from hbox.out).cell 0
        have hlw2 : w2.heap.size < wq.heap.size := (Array.getElem?_eq_some_iff.1 hbox.out).1
        have CR := rearrZero_any A n c t (fun x _ => x) (fun _ y => cfn (zc t n) n y) (cellZ t) (zeroF t n) (.pointer (some ⟨w2.heap.size, 0, none⟩)) wq (HR.out.below (hbw.mono hB)) (by have := hbw.size; omega) HT.out hn36 HI.out HG.out (fun x y hx hy => by have := (tabOk_cell HT.out hx hy).1; omega)
          (fun W hW x y hx hy => zeroClo_any n n x y (cellZ t x y) (cfn (zc t n) n y) W ((hW.cell (p := ⟨w2.heap.size, 0, none⟩) hlw2).trans hbx) (by
            have e := (hW.cell (p := ⟨w1.heap.size, y, none⟩) (show w1.heap.size < wq.heap.size by omega)).trans ((cell_of_row wq w1.heap.size y _ _ (0, 0) hcols.out).trans (natArr_at _ hy))
            simpa using e) hy)
        have HBW := Lib.hid hbw
        clear hbx hbw
        go_wp2_with (go_at_call 47; (with_reducible refine (CR).mono ?_); rintro e w6 ⟨A', c', L, rfl, hown, hbel⟩)
        go_ret2
        exact gotT_some (hown.lower HBW.out.size) (HBW.out.trans (hbel.mono HBW.out.size))
end Go.Proofs.Ytiokcflomchdcab
