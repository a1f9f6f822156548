/-
  The model's grid of ways to the end.
-/
import Derived.Test.YteggllmiapdmcaaWays
import Derived.Deep.RegionWith
import Derived.Deep.RegionHeld3
import Derived.Deep.RegionLaw
import Derived.IntWalk
import Derived.Test.YteggllmiapdmcaaLast
namespace Go.Proofs.Yteggllmiapdmcaa
open Go.RowKit

theorem cell_oneE (w : World) (x : Value) (t : TypeId) : ∀ j u, [x][j]? = some u → (w.alloc (.cells #[x] t)).cell? ((⟨w.heap.size, 0, none⟩ : Addr).add j) = some u := by
  intro j u hj
  match j, hj with
  | 0, hj => simp at hj; subst hj; simp [Addr.add]
  | j + 1, hj => simp at hj
theorem full_last {c : Ch} {b s n e : Nat} (he : c.stop = e) : (gridOf (n + 1) s (fun _ _ => 0)).set n ((rowOf s (fun _ _ => 0) n).set e ((1 : Nat) : Int)) = gridOf (n + 1) s (c.full b n n) := by
  apply grid_set
  intro j y hj _
  unfold Ch.full
  by_cases h : n ≤ j
  · rw [if_pos h]
    obtain rfl : j = n := by omega
    rw [Nat.sub_self]
    unfold Ch.ways
    by_cases h2 : y = e
    · rw [if_pos (by omega), if_pos ⟨rfl, h2⟩]
    · rw [if_neg (by omega), if_neg (fun q => h2 q.2)]
  · rw [if_neg h, if_neg (by omega)]

def EndsPost (c : Ch) (b s n : Nat) (w : World) (e : Ending) (w' : World) : Prop :=
  ∃ A cc L, e = .returned (.slice A (n + 1) cc) ∧ Own2 w.heap.size w' A (n + 1) cc L (gridOf (n + 1) s (c.full b n 0)) ∧ Below w.heap.size w w'

set_option maxRecDepth 100000 in
set_option maxHeartbeats 8000000 in
theorem l02Ends_any {B b : Nat} (c : Ch) (AT AP : Option Addr) (nT cT nP cP : Nat) (w : World) (hb : Blk w b (chCells c AT nT cT AP nP cP) 48) (hr : ChRows B w c AT nT AP nP) (hB : B ≤ w.heap.size) {bs s n : Nat} (f : c.Fine bs s n) :
    Calls Try.prog 76 #[.pointer (some ⟨b, 0, none⟩)] w (EndsPost c bs s n w) := by
  obtain ⟨i0, hi, hz0, hz1, hz2⟩ := info_parts info64
  obtain ⟨iS, hiS, hzS0, hzS1, hzS2⟩ := info_parts infoS
  have hnP : nP = n := by have := hr.2.len; have := f.len; omega
  have hn20 := f.n20
  have hs36 := f.s36
  have hb36 := f.b36
  have hs1 := f.s1
  obtain ⟨e, he⟩ : ∃ e : Nat, c.stop = e := ⟨c.stop.toNat, by have := f.stop0; omega⟩
  have hes : e < s := by have := f.stop; omega
  have F := Lib.hid f
  have HB := Lib.hid hb
  have HR := Lib.hid hr
  have LTB := Lib.hid hb.lt
  have HE := Lib.hid he
  have c0 : w.cell? ⟨b, 0, none⟩ = some (.int .i64 bs) := by rw [hb.cell 0]; simp [f.base]
  have c1 : w.cell? ⟨b, 1, none⟩ = some (.int .i64 s) := by rw [hb.cell 1]; simp [f.states]
  have c3 : w.cell? ⟨b, 3, none⟩ = some (.int .i64 e) := by rw [hb.cell 3]; simp [he]
  have c5 : w.cell? ⟨b, 5, none⟩ = some (.slice AP n cP) := by rw [hb.cell 5, ← hnP]; rfl
  clear hb hr f he
  go_enter Try.func76, Try.ntmps76
  go_wp2_with fail
  obtain ⟨w1, hw1⟩ : ∃ w1, w1 = w.alloc (.cells #[] 34) := ⟨_, rfl⟩
  go_loopw [4, 5] (fun v i wr => ∃ (k : Nat) (A : Option Addr) (cc : Nat) (L : List SL), k ≤ n + 1 ∧ i = .int .i64 k ∧ v = .slice A k cc ∧ Hid (Own2 w.heap.size wr A k cc L (List.replicate k (List.replicate s 0))) ∧ Below w.heap.size w wr) (fun _ i _ => n + 1 - (intOf i).toNat)
  case atStart =>
    refine ⟨0, _, 0, [], by omega, rfl, rfl, Lib.hid ⟨World.ownsRow_made _ _ _ (Nat.le_refl _) (by unfold maxLen; omega) rfl, rfl, fun j t zs ht _ => by simp at ht, fun i j s t g hs => by simp at hs, fun j t g ht => by simp at ht⟩, (Below.refl _ _).alloc (Nat.le_refl _) _⟩
  case round =>
    obtain ⟨k, A, cc, L, hk, rfl, rfl, hown, hbel⟩ := hrel
    obtain ⟨W0, rfl⟩ : ∃ W0, W0 = wr := ⟨_, rfl⟩
    have hbs := hbel.size
    have d1 : W0.cell? ⟨b, 1, none⟩ = some (.int .i64 s) := (hbel.cell (p := ⟨b, 1, none⟩) LTB.out).trans c1
    by_cases hlt : k < n + 1
    · go_wp2_with (refine wpList_make_full _ rfl _ _ 34 rfl W0.heap.size 2 i0 (.int .i64 0) 1 Try.underlying34 hi hz0 hz1 .i64 .i64 s s s rfl rfl rfl rfl ?m1 ?m2 (Nat.le_refl _) ?_)
      case m1 => rw [hz2]; omega
      case m2 => unfold maxLen; omega
      intro w2 hrow hg
      have hb2 : Below W0.heap.size W0 w2 := (Below.refl _ W0).grown hg (Nat.le_refl _) (fun k hk => by cases hk)
      have e2 : (madeCells #[Value.int .i64 0] s).toList = cells64 (List.replicate s 0) := by simp [cells64, toList_madeCells_one]
      rw [e2] at hrow
      have ho2 : Own W0.heap.size w2 (some ⟨W0.heap.size, 0, none⟩) s s (List.replicate s 0) := ⟨hrow, fun z hz => by rw [List.eq_of_mem_replicate hz]; rfl⟩
      have hown2 : Own2 w.heap.size w2 A k cc L (List.replicate k (List.replicate s 0)) := hown.out.below hb2
      have hout := hown2.outer
      have hs2 : W0.heap.size < w2.heap.size := ho2.lt _ rfl
      have HO2 := Lib.hid ho2
      have HB2 := Lib.hid hb2
      have HOWN2 := Lib.hid hown2
      clear hrow hg e2 hown2 ho2 hb2
      go_wp2_with (at_builtin; refine wpList_append_own _ rfl _ _ 24 rfl w.heap.size 34 iS nilV 1 24 Try.underlying24 hiS hzS0 hzS1 hzS2 rfl (by decide) _ _ _ rfl (hout.alloc _) ⟨w2.heap.size, 0, none⟩ 1 1 [.slice (some ⟨W0.heap.size, 0, none⟩) s s] rfl rfl (cell_oneE _ _ _) (fun u hu => by simp at hu; subst hu; rfl) ?d1 ?d2 ?d3 ?_)
      case d1 => unfold maxLen; omega
      case d2 => omega
      case d3 => simp; omega
      intro v3 w3 ho3 hg3 _
      obtain ⟨A3, cc3, rfl⟩ : ∃ A3 cc3, v3 = .slice A3 (k + 1) cc3 := by
        rcases ho3.2 with ⟨hv, hn⟩ | ⟨g, cap, cur, hv, _⟩
        · omega
        · exact ⟨_, _, hv⟩
      have hkeep : ∀ g, g < w2.heap.size → A ≠ some ⟨g, 0, none⟩ → w3.heap[g]? = w2.heap[g]? := fun g hg hne => by
        rw [hg3.block g (by simp; omega) (fun e => hne (by
          rcases ownsRow_form HOWN2.out.outer with ⟨hA, _⟩ | ⟨g', hA, _⟩
          · rw [hA] at e; cases e
          · rw [hA] at e ⊢; simp [Value.ownBlock] at e; rw [e])), Below.heap_alloc _ _ _ hg]
      have hA2 : ∀ g, A = some ⟨g, 0, none⟩ → g < W0.heap.size := fun g hg => by
        rcases ownsRow_form hown.out.outer with ⟨hA, _⟩ | ⟨g', hA, _, hl, _⟩
        · rw [hA] at hg; cases hg
        · rw [hA] at hg; injection hg with hg; injection hg with hg; omega
      have X : Hid (Own2 w.heap.size w3 A3 (k + 1) cc3 (L ++ [(some ⟨W0.heap.size, 0, none⟩, s, s)]) (List.replicate (k + 1) (List.replicate s 0))) := Lib.hid (by
        rw [List.replicate_succ']
        refine Own2.snoc HOWN2.out ho3 ?_ ?_ ?_
        · refine (HO2.out.keep fun g hg => hkeep g (by injection hg with hg; injection hg with hg; omega) (fun e => ?_)).lower hbs
          injection hg with hg
          injection hg with hg
          have := hA2 g e
          omega
        · intro j t g ht hg
          have hj := (List.getElem?_eq_some_iff.1 ht).1
          have hl := HOWN2.out.len
          have hz : (List.replicate k (List.replicate s (0 : Int)))[j]? = some _ := List.getElem?_eq_getElem (by omega)
          exact hkeep g ((HOWN2.out.inner j t _ ht hz).lt g hg) (HOWN2.out.out j t g ht hg)
        · intro j t g ht hg e
          injection e with e
          injection e with e
          have hj := (List.getElem?_eq_some_iff.1 ht).1
          have hl := hown.out.len
          have hz : (List.replicate k (List.replicate s (0 : Int)))[j]? = some _ := List.getElem?_eq_getElem (by omega)
          have := (hown.out.inner j t _ ht hz).lt g hg
          omega)
      have Y : Hid (Below w.heap.size w w3) := Lib.hid (by
        have : Below w.heap.size w w2 := hbel.trans (HB2.out.mono hbs)
        exact Below.grown (this.alloc (by omega) _) hg3 (by simp; omega) (fun q hq => (HOWN2.out.outer.lt q hq).1))
      clear ho3 hg3 hkeep hA2 hout
      go_wp2_with fail
      go_roundw
      case rel => exact ⟨k + 1, A3, cc3, _, by omega, by go_num, rfl, X, Y.out⟩
      case measure => simp [intOf]; omega
    · have hkN : k = n + 1 := by omega
      have hz0g : List.replicate k (List.replicate s (0 : Int)) = gridOf (n + 1) s (fun _ _ => 0) := by rw [grid_zero, hkN]
      have hownz := hown.out
      rw [hz0g] at hownz
      have hown := Lib.hid hownz
      have hnk : (n : Int) < (k : Int) := by omega
      have HKN := Lib.hid hkN
      have hxk : ¬ (k : Int) ≤ (n : Int) := by omega
      clear hownz hz0g hkN hk hlt
      obtain ⟨g0, ge, cre, rfl, _, z1, z2, z3, z4, z5, z6, _⟩ := hown.out.cells (grid_row (F := fun _ _ => 0) (show n < n + 1 by omega)) (row_cell hes)
      rw [row_len] at z1 z4
      have d3 : W0.cell? ⟨b, 3, none⟩ = some (.int .i64 e) := (hbel.cell (p := ⟨b, 3, none⟩) LTB.out).trans c3
      have OWN1 : Hid (Own2 w.heap.size (W0.setCell ⟨ge, e, none⟩ (.int .i64 1)) (some ⟨g0, 0, none⟩) k cc L (gridOf (n + 1) s (c.full bs n n))) := Lib.hid (by
        rw [← full_last HE.out]
        exact hown.out.store (grid_row (F := fun _ _ => 0) (show n < n + 1 by omega)) (by rw [row_len]; exact z4) (by rfl))
      have BEL1 : Hid (Below w.heap.size w (W0.setCell ⟨ge, e, none⟩ (.int .i64 1))) := Lib.hid (hbel.setCell (by simpa using z5) _)
      clear d1 z4 hown
      go_wp2_with fail
      go_region
      clear z1 z2 z3 z5 z6 d3
      go_wp2_with fail
      go_loopw [6, 7, 8] (fun i _ _ wr => ∃ q : Nat, q ≤ n ∧ i = .int .i64 ((q : Int) - 1) ∧ Hid (Own2 w.heap.size wr (some ⟨g0, 0, none⟩) k cc L (gridOf (n + 1) s (c.full bs n q))) ∧ Below w.heap.size w wr) (fun i _ _ _ => (intOf i + 1).toNat)
      case atStart => exact ⟨n, by omega, rfl, Lib.hid (OWN1.out.drewN 1), below_drewN BEL1.out 1⟩
      case round =>
        obtain ⟨q, hq, rfl, hown, hbel⟩ := hrel
        by_cases hk0 : q = 0
        · subst hk0
          go_wp2_with fail
          go_ret
          have hown1 := hown.out
          have e1 : k = n + 1 := HKN.out
          subst e1
          exact ⟨_, _, _, rfl, hown1, hbel⟩
        · obtain ⟨i, rfl⟩ : ∃ i, q = i + 1 := ⟨q - 1, by omega⟩
          rw [show (((i + 1 : Nat) : Int) - 1) = (i : Int) by omega]
          clear hk0
          have d1 : wr.cell? ⟨b, 1, none⟩ = some (.int .i64 s) := (hbel.cell (p := ⟨b, 1, none⟩) LTB.out).trans c1
          have HOWNk : Hid (Own2 w.heap.size wr (some ⟨g0, 0, none⟩) k cc L (gridOf (n + 1) s (c.fill bs n i 0 0))) := Lib.hid (by
            rw [← grid_congr (fun j y _ _ => fill_start c bs n i j y)]; exact hown.out)
          clear hown
          go_wp2_with fail
          go_loopw [7, 8] (fun xx _ wr => ∃ x : Nat, x ≤ s ∧ xx = .int .i64 x ∧ Hid (Own2 w.heap.size wr (some ⟨g0, 0, none⟩) k cc L (gridOf (n + 1) s (c.fill bs n i x 0))) ∧ Below w.heap.size w wr) (fun xx _ _ => s - (intOf xx).toNat)
          case atStart => exact ⟨0, by omega, rfl, HOWNk, hbel⟩
          case round =>
            obtain ⟨x, hx, rfl, hown, hbel⟩ := hrel
            have d1 : wr.cell? ⟨b, 1, none⟩ = some (.int .i64 s) := (hbel.cell (p := ⟨b, 1, none⟩) LTB.out).trans c1
            by_cases hltx : x < s
            · have d0 : wr.cell? ⟨b, 0, none⟩ = some (.int .i64 bs) := (hbel.cell (p := ⟨b, 0, none⟩) LTB.out).trans c0
              have HOWNx := hown
              clear hown
              go_wp2_with fail
              go_loopw [8] (fun dd wr => ∃ d : Nat, d ≤ bs ∧ dd = .int .i64 d ∧ Hid (Own2 w.heap.size wr (some ⟨g0, 0, none⟩) k cc L (gridOf (n + 1) s (c.fill bs n i x d))) ∧ Below w.heap.size w wr) (fun dd _ => bs - (intOf dd).toNat)
              case atStart => exact ⟨0, by omega, rfl, HOWNx, hbel⟩
              case round =>
                obtain ⟨d, hd, rfl, hown, hbel⟩ := hrel
                have d0 : wr.cell? ⟨b, 0, none⟩ = some (.int .i64 bs) := (hbel.cell (p := ⟨b, 0, none⟩) LTB.out).trans c0
                by_cases hltd : d < bs
                · obtain ⟨g0', gi, cri, e0, _, z1, z2, z3, z4, z5, z6, _⟩ := hown.out.cells (grid_row (F := c.fill bs n i x d) (show i < n + 1 by omega)) (row_cell hltx)
                  have e0 := Option.some.inj e0
                  injection e0 with e0
                  subst e0
                  have hnx : c.nx i x d < s := (F.out.nx (by omega) hltx hltd).2.choose_spec.2.2.2
                  obtain ⟨g0'', g1, cr1, e0, _, y1, y2, _, _, y5, y6, _⟩ := hown.out.cells (grid_row (F := c.fill bs n i x d) (show i + 1 < n + 1 by omega)) (row_cell hnx)
                  have e0 := Option.some.inj e0
                  injection e0 with e0
                  subst e0
                  rw [row_len] at z1 z4 y1
                  have ev : c.fill bs n i x d i x = c.wsum bs n (n - (i + 1)) x d := by unfold Ch.fill; rw [if_neg (by omega), if_pos rfl, if_neg (by omega), if_pos rfl]
                  have ew : c.fill bs n i x d (i + 1) (c.nx i x d) = c.ways bs n (n - (i + 1)) (c.nx i x d) := by unfold Ch.fill; rw [if_pos (by omega)]
                  rw [ev] at z2
                  rw [ew] at y2
                  have hsum : c.wsum bs n (n - (i + 1)) x d + c.ways bs n (n - (i + 1)) (c.nx i x d) ≤ 1000000000000000 := by
                    have h1 := c.wsum_le bs n (n - (i + 1)) x (show d + 1 ≤ bs by omega)
                    rw [Ch.wsum_succ, show n - (n - (i + 1) + 1) = i by omega] at h1
                    have h2 := F.out.pow_le (k := n - (i + 1) + 1) (by omega)
                    omega
                  have OWN2 : ∀ (V : Nat), V = c.wsum bs n (n - (i + 1)) x d + c.ways bs n (n - (i + 1)) (c.nx i x d) → Own2 w.heap.size (wr.setCell ⟨gi, x, none⟩ (.int .i64 (V : Nat))) (some ⟨g0, 0, none⟩) k cc L (gridOf (n + 1) s (c.fill bs n i x (d + 1))) := by
                    intro V hV
                    rw [← grid_set (F := c.fill bs n i x d) (i := i) (x := x) (v := V) (fun j y _ _ => by rw [fill_step, show n - (n - (i + 1) + 1) = i by omega, hV])]
                    exact hown.out.store (grid_row (show i < n + 1 by omega)) (by rw [row_len]; exact z4) (WalkArith.wf_i64 (by omega))
                  have BEL2 : ∀ V : Value, Below w.heap.size w (wr.setCell ⟨gi, x, none⟩ V) := fun V => hbel.setCell (by simpa using z5) _
                  have CN : ∀ W, W = wr.drew → Calls Try.prog 86 #[.pointer (some ⟨b, 0, none⟩), .int .i64 i, .int .i64 x, .int .i64 d] W fun e w' => e = .returned (.int .i64 (c.nx i x d : Nat)) ∧ ∃ m, w' = wr.drewN m := by
                    rintro W rfl
                    have := l02Next_any c AT AP nT cT nP cP (wr.drewN 1) ((HB.out.below hbel LTB.out).drewN 1) ((HR.out.below (hbel.mono hB)).drewN 1) F.out i x d (by omega) hltx hltd
                    exact this.mono fun e w' ⟨he, m, hm⟩ => ⟨he, _, hm.trans (World.drewN_drewN _ _ _)⟩
                  have OWN2 := Lib.hid OWN2
                  have BEL2 := Lib.hid BEL2
                  generalize c.wsum bs n (n - (i + 1)) x d = V1 at z2 hsum OWN2
                  generalize c.ways bs n (n - (i + 1)) (c.nx i x d) = V2 at y2 hsum OWN2
                  obtain ⟨nx, hnxe⟩ : ∃ nx, nx = c.nx i x d := ⟨_, rfl⟩
                  rw [← hnxe] at hnx y2 CN
                  have OWN3 := OWN2.out (V1 + V2) rfl
                  have BEL3 := BEL2.out (.int .i64 ((V1 + V2 : Nat) : Int))
                  rw [show (((V1 + V2 : Nat) : Int)) = (V1 : Int) + (V2 : Int) by omega] at OWN3 BEL3
                  have OWN4 := Lib.hid OWN3
                  have BEL4 := Lib.hid BEL3
                  clear OWN2 BEL2 OWN3 BEL3
                  have a2 : (0 : Int) ≤ (i : Int) + 1 := by omega
                  have a3 : ((i : Int) + 1).toNat = i + 1 := by omega
                  have f1 : (0 : Int) ≤ (i : Int) := by omega
                  have f2 : (i : Int) < (k : Int) := by omega
                  have f3 : (0 : Int) ≤ (x : Int) := by omega
                  have f4 : (x : Int) < (s : Int) := by omega
                  have f5 : (i : Int) + 1 < (k : Int) := by omega
                  have f6 : (0 : Int) ≤ (nx : Int) := by omega
                  have f7 : (nx : Int) < (s : Int) := by omega
                  have hq1 : (-9223372036854775808 : Int) ≤ (i : Int) + 1 ∧ (i : Int) + 1 ≤ 9223372036854775807 := by omega
                  have hq4 : (-9223372036854775808 : Int) ≤ (V1 : Int) + (V2 : Int) ∧ (V1 : Int) + (V2 : Int) ≤ 9223372036854775807 := by omega
                  have a1 : IntKind.i64.wrap ((i : Int) + 1) = (i : Int) + 1 := IntWalk.i64_in _ hq1
                  have a4 : IntKind.i64.wrap ((V1 : Int) + (V2 : Int)) = (V1 : Int) + (V2 : Int) := IntWalk.i64_in _ hq4
                  clear hq1 hq4
                  clear hown z4 ev ew hnxe
                  go_wp2_with fail
                  refine region_last 21 21 (fun w' => w'.cell? ⟨g0, i, none⟩ = some (.slice (some ⟨gi, 0, none⟩) s cri) ∧ w'.cell? ⟨gi, x, none⟩ = some (.int .i64 V1) ∧ w'.cell? ⟨g0, i + 1, none⟩ = some (.slice (some ⟨g1, 0, none⟩) s cr1) ∧ w'.cell? ⟨g1, nx, none⟩ = some (.int .i64 V2)) (by kernel_rfl) (by kernel_rfl) (by kernel_rfl) ⟨z1, z2, y1, y2⟩ (fun hS => ?_)
                  refine takeD 0 (some 59) (v := ?_) rfl (by kernel_rfl) (by kernel_rfl) (by kernel_rfl) (fun _ _ _ h => h) hS (fun o ho => Or.inl ⟨by cases ho; rfl, ?_⟩) ?_
                  rotate_left
                  · cases ho
                    intro w' hw'
                    (try dsimp only at hw')
                    go_simp
                    (try with_reducible rfl)
                  (try simp only [Act.put, List.setIfInBounds_toArray, List.set_cons_zero, List.set_cons_succ])
                  refine takeD 1 (some 60) (v := ?_) rfl (by kernel_rfl) (by kernel_rfl) (by kernel_rfl) (fun _ _ _ h => h) hS (fun o ho => Or.inl ⟨by cases ho; rfl, ?_⟩) ?_
                  rotate_left
                  · cases ho
                    intro w' hw'
                    (try dsimp only at hw')
                    go_simp
                    (try with_reducible rfl)
                  (try simp only [Act.put, List.setIfInBounds_toArray, List.set_cons_zero, List.set_cons_succ])
                  refine takeD 2 (some 61) (v := ?_) rfl (by kernel_rfl) (by kernel_rfl) (by kernel_rfl) (fun _ _ _ h => h) hS (fun o ho => Or.inl ⟨by cases ho; rfl, ?_⟩) ?_
                  rotate_left
                  · cases ho
                    intro w' hw'
                    (try dsimp only at hw')
                    go_simp
                    (try with_reducible rfl)
                  (try simp only [Act.put, List.setIfInBounds_toArray, List.set_cons_zero, List.set_cons_succ])
                  refine takeD 3 (some 62) (v := ?_) rfl (by kernel_rfl) (by kernel_rfl) (by kernel_rfl) (fun _ _ _ h => h) hS (fun o ho => Or.inl ⟨by cases ho; rfl, ?_⟩) ?_
                  rotate_left
                  · cases ho
                    intro w' hw'
                    (try dsimp only at hw')
                    go_simp
                    (try with_reducible rfl)
                  (try simp only [Act.put, List.setIfInBounds_toArray, List.set_cons_zero, List.set_cons_succ])
                  refine takeD 4 (some 63) (v := ?_) rfl (by kernel_rfl) (by kernel_rfl) (by kernel_rfl) (fun _ _ _ h => h) hS (fun o ho => Or.inl ⟨by cases ho; rfl, ?_⟩) ?_
                  rotate_left
                  · cases ho
                    intro w' hw'
                    (try dsimp only at hw')
                    go_simp
                    (try with_reducible rfl)
                  (try simp only [Act.put, List.setIfInBounds_toArray, List.set_cons_zero, List.set_cons_succ])
                  refine takeD 5 (some 64) (v := ?_) rfl (by kernel_rfl) (by kernel_rfl) (by kernel_rfl) (fun _ _ _ h => h) hS (fun o ho => Or.inl ⟨by cases ho; rfl, ?_⟩) ?_
                  rotate_left
                  · cases ho
                    intro w' hw'
                    (try dsimp only at hw')
                    go_simp
                    (try with_reducible rfl)
                  (try simp only [Act.put, List.setIfInBounds_toArray, List.set_cons_zero, List.set_cons_succ])
                  refine takeD 6 (some 65) (v := ?_) rfl (by kernel_rfl) (by kernel_rfl) (by kernel_rfl) (fun _ _ _ h => h) hS (fun o ho => Or.inl ⟨by cases ho; rfl, ?_⟩) ?_
                  rotate_left
                  · cases ho
                    intro w' hw'
                    (try dsimp only at hw')
                    go_simp
                    (try with_reducible rfl)
                  (try simp only [Act.put, List.setIfInBounds_toArray, List.set_cons_zero, List.set_cons_succ])
                  refine takeD 7 (some 66) (v := ?_) rfl (by kernel_rfl) (by kernel_rfl) (by kernel_rfl) (fun _ _ _ h => h) hS (fun o ho => Or.inl ⟨by cases ho; rfl, ?_⟩) ?_
                  rotate_left
                  · cases ho
                    intro w' hw'
                    (try dsimp only at hw')
                    go_simp
                    (try with_reducible rfl)
                  (try simp only [Act.put, List.setIfInBounds_toArray, List.set_cons_zero, List.set_cons_succ])
                  refine takeD 8 (some 67) (v := ?_) rfl (by kernel_rfl) (by kernel_rfl) (by kernel_rfl) (fun _ _ _ h => h) hS (fun o ho => Or.inl ⟨by cases ho; rfl, ?_⟩) ?_
                  rotate_left
                  · cases ho
                    intro w' hw'
                    (try dsimp only at hw')
                    go_simp
                    (try with_reducible rfl)
                  (try simp only [Act.put, List.setIfInBounds_toArray, List.set_cons_zero, List.set_cons_succ])
                  refine takeD 9 (some 68) (v := ?_) rfl (by kernel_rfl) (by kernel_rfl) (by kernel_rfl) (fun _ _ _ h => h) hS (fun o ho => Or.inl ⟨by cases ho; rfl, ?_⟩) ?_
                  rotate_left
                  · cases ho
                    intro w' hw'
                    (try dsimp only at hw')
                    go_simp
                    (try with_reducible rfl)
                  (try simp only [Act.put, List.setIfInBounds_toArray, List.set_cons_zero, List.set_cons_succ])
                  refine takeD 10 (some 69) (v := ?_) rfl (by kernel_rfl) (by kernel_rfl) (by kernel_rfl) (fun _ _ _ h => h) hS (fun o ho => Or.inl ⟨by cases ho; rfl, ?_⟩) ?_
                  rotate_left
                  · cases ho
                    intro w' hw'
                    (try dsimp only at hw')
                    go_simp
                    (try with_reducible rfl)
                  (try simp only [Act.put, List.setIfInBounds_toArray, List.set_cons_zero, List.set_cons_succ])
                  refine takeD 11 (some 70) (v := ?_) rfl (by kernel_rfl) (by kernel_rfl) (by kernel_rfl) (fun _ _ _ h => h) hS (fun o ho => Or.inl ⟨by cases ho; rfl, ?_⟩) ?_
                  rotate_left
                  · cases ho
                    intro w' hw'
                    (try dsimp only at hw')
                    go_simp
                    (try with_reducible rfl)
                  (try simp only [Act.put, List.setIfInBounds_toArray, List.set_cons_zero, List.set_cons_succ])
                  refine takeD 12 (some 71) (v := ?_) rfl (by kernel_rfl) (by kernel_rfl) (by kernel_rfl) (fun _ _ _ h => h) hS (fun o ho => Or.inl ⟨by cases ho; rfl, ?_⟩) ?_
                  rotate_left
                  · cases ho
                    intro w' hw'
                    (try dsimp only at hw')
                    go_simp
                    (try with_reducible rfl)
                  (try simp only [Act.put, List.setIfInBounds_toArray, List.set_cons_zero, List.set_cons_succ])
                  refine takeD 13 (some 72) (v := ?_) rfl (by kernel_rfl) (by kernel_rfl) (by kernel_rfl) (fun _ _ _ h => h) hS (fun o ho => Or.inl ⟨by cases ho; rfl, ?_⟩) ?_
                  rotate_left
                  · cases ho
                    intro w' hw'
                    (try dsimp only at hw')
                    go_simp
                    (try with_reducible rfl)
                  (try simp only [Act.put, List.setIfInBounds_toArray, List.set_cons_zero, List.set_cons_succ])
                  refine takeD 14 (some 73) (v := ?_) rfl (by kernel_rfl) (by kernel_rfl) (by kernel_rfl) (fun _ _ _ h => h) hS (fun o ho => Or.inl ⟨by cases ho; rfl, ?_⟩) ?_
                  rotate_left
                  · cases ho
                    intro w' hw'
                    (try dsimp only at hw')
                    go_simp
                    (try with_reducible rfl)
                  (try simp only [Act.put, List.setIfInBounds_toArray, List.set_cons_zero, List.set_cons_succ])
                  refine takeD 15 (some 74) (v := ?_) rfl (by kernel_rfl) (by kernel_rfl) (by kernel_rfl) (fun _ _ _ h => h) hS (fun o ho => Or.inl ⟨by cases ho; rfl, ?_⟩) ?_
                  rotate_left
                  · cases ho
                    intro w' hw'
                    (try dsimp only at hw')
                    go_simp
                    (try with_reducible rfl)
                  (try simp only [Act.put, List.setIfInBounds_toArray, List.set_cons_zero, List.set_cons_succ])
                  refine oneD 16 (some 75) (by kernel_rfl) rfl (fun o ho K hK hdo => ?_)
                  simp only [List.getElem?_toArray, List.getElem?_cons_succ, List.getElem?_cons_zero, Option.some.injEq] at ho
                  subst ho
                  clear hdo
                  go_wp2_with (go_at_call 86; with_reducible refine (CN _ rfl).mono ?_; rintro e w2 ⟨rfl, m, rfl⟩)
                  refine hK.out _ _ ?_ (fun hS => ?_)
                  · exact ⟨z1, z2, y1, y2⟩
                  clear hK K
                  (try simp only [Act.put, List.setIfInBounds_toArray, List.set_cons_zero, List.set_cons_succ])
                  refine takeD 17 (some 76) (v := ?_) rfl (by kernel_rfl) (by kernel_rfl) (by kernel_rfl) (fun _ _ _ h => h) hS (fun o ho => Or.inl ⟨by cases ho; rfl, ?_⟩) ?_
                  rotate_left
                  · cases ho
                    intro w' hw'
                    (try dsimp only at hw')
                    go_simp
                    (try with_reducible rfl)
                  (try simp only [Act.put, List.setIfInBounds_toArray, List.set_cons_zero, List.set_cons_succ])
                  refine takeD 18 (some 77) (v := ?_) rfl (by kernel_rfl) (by kernel_rfl) (by kernel_rfl) (fun _ _ _ h => h) hS (fun o ho => Or.inl ⟨by cases ho; rfl, ?_⟩) ?_
                  rotate_left
                  · cases ho
                    intro w' hw'
                    (try dsimp only at hw')
                    go_simp
                    (try with_reducible rfl)
                  (try simp only [Act.put, List.setIfInBounds_toArray, List.set_cons_zero, List.set_cons_succ])
                  refine takeD 19 (some 78) (v := ?_) rfl (by kernel_rfl) (by kernel_rfl) (by kernel_rfl) (fun _ _ _ h => h) hS (fun o ho => Or.inl ⟨by cases ho; rfl, ?_⟩) ?_
                  rotate_left
                  · cases ho
                    intro w' hw'
                    (try dsimp only at hw')
                    go_simp
                    (try with_reducible rfl)
                  (try simp only [Act.put, List.setIfInBounds_toArray, List.set_cons_zero, List.set_cons_succ])
                  refine takeD 20 (some 79) (v := ?_) rfl (by kernel_rfl) (by kernel_rfl) (by kernel_rfl) (fun _ _ _ h => h) hS (fun o ho => Or.inl ⟨by cases ho; rfl, ?_⟩) ?_
                  rotate_left
                  · cases ho
                    intro w' hw'
                    (try dsimp only at hw')
                    go_simp
                    (try with_reducible rfl)
                  (try simp only [Act.put, List.setIfInBounds_toArray, List.set_cons_zero, List.set_cons_succ])
                  refine wpAnyH_done (by kernel_rfl) ?_ _
                  refine thenD rfl (fun o ho K hK => ?_)
                  simp only [List.getElem?_toArray, List.getElem?_cons_succ, List.getElem?_cons_zero, Option.some.injEq] at ho
                  subst ho
                  clear hS CN y1 y2 z1 a1 a2 a3 a4 f1 f2 f3 f4 f5 f6 f7 hsum
                  have z2' : (wr.drewN m).cell? ⟨gi, x, none⟩ = some (.int .i64 V1) := z2
                  have z3' : (wr.drewN m).frozen? ⟨gi, x, none⟩ = false := z3
                  go_wp2_with fail
                  refine hK.out _ _ ?_
                  clear hK K z2 z3 z2' z3'
                  go_wp2_with fail
                  go_roundw
                  case rel =>
                    exact ⟨d + 1, by omega, by go_num, Lib.hid (OWN4.out.keep fun _ _ _ => rfl), below_drewN BEL4.out m⟩
                  case measure => simp [intOf]; omega
                · obtain rfl : bs = d := by omega
                  have HX : Hid (Own2 w.heap.size wr (some ⟨g0, 0, none⟩) k cc L (gridOf (n + 1) s (c.fill bs n i (x + 1) 0))) := Lib.hid (by
                    rw [← grid_congr (fun j y _ _ => fill_next (show i < n by omega) j y)]; exact hown.out)
                  clear hown
                  go_wp2_with fail
                  go_roundw
                  case rel => exact ⟨x + 1, by omega, by go_num, HX, hbel⟩
                  case measure => simp [intOf]; omega
            · obtain rfl : s = x := by omega
              have HX : Hid (Own2 w.heap.size wr (some ⟨g0, 0, none⟩) k cc L (gridOf (n + 1) s (c.full bs n i))) := Lib.hid (by
                rw [← grid_congr (fun j y _ hy => fill_end j y hy)]; exact hown.out)
              clear hown
              go_wp2_with fail
              go_roundw
              case rel => exact ⟨i, by omega, by go_num, HX, hbel⟩
              case measure => simp [intOf]
end Go.Proofs.Yteggllmiapdmcaa
