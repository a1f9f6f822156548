/-
  A table of steps, as the program makes it out of a function.
-/
import Derived.Test.YteggllmiapdmcaaFill
import Derived.Test.YteggllmiapdmcaaBlank
import Derived.Test.YteggllmiapdmcaaLast
namespace Go.Proofs.Yteggllmiapdmcaa
open Go.RowKit

theorem wf_small {x : Nat} (h : x < 1000000) : (Lit.int .i64 (x : Int)).wf = true := by
  exact WalkArith.wf_i64 (by omega)


set_option maxRecDepth 100000 in
set_option maxHeartbeats 4000000 in
theorem tabCyclic_any (n : Nat) (F : Nat → Nat → Nat) (cap0 : Value) (w : World) (hn : n ≤ 36) (hF : ∀ x y, x < n → y < n → F x y < 1000000)
    (hC : ∀ W, Below w.heap.size w W → ∀ x y, x < n → y < n → Calls Try.prog 64 #[.int .i64 (x : Nat), .int .i64 (y : Nat), cap0] W fun e w' => e = .returned (.int .i64 ((F x y : Nat) : Int)) ∧ ∃ m, w' = W.drewN m) :
    Calls Try.prog 115 #[.func (.func 64) #[] #[cap0], .int .i64 n, .int .i64 n] w (MadeG w.heap.size n F w) := by
  obtain ⟨i0, hi, hz0, hz1, hz2⟩ := info_parts infoS
  obtain ⟨iZ, hiZ, hzZ0, hzZ1, hzZ2⟩ := info_parts info64
  have HC := Lib.hid hC
  have HFB := Lib.hid hF
  clear hC hF
  go_enter Try.func115, Try.ntmps115
  go_wp2_with (refine wpList_make_full _ rfl _ _ 24 rfl w.heap.size 34 i0 nilV 1 Try.underlying24 hi hz0 hz1 .i64 .i64 n n n rfl rfl rfl rfl ?c1 ?c2 (Nat.le_refl _) ?_)
  case c1 => rw [hz2]; omega
  case c2 => unfold maxLen; omega
  intro w1 hown hg
  have hbel : Below w.heap.size w w1 := (Below.refl _ w).grown hg (Nat.le_refl _) (fun k hk => by cases hk)
  have hpart : Part2 w.heap.size w.heap.size w1 n 0 [] (gridOf n n (fillG F 0 0)) := by
    refine ⟨?_, rfl, fun j t zs h => by simp at h, fun i j s t g h => by simp at h⟩
    have e : ([] : List SL).map sliceV ++ List.replicate (n - 0) nilV = (madeCells #[nilV] n).toList := by
      simp [toList_madeCells_one]
    rw [e]; exact hown
  clear hown
  go_wp2
  go_loopw [8, 9, 13] (fun _ _ i wr => ∃ k : Nat, k ≤ n ∧ i = .int .i64 k ∧ ∃ L, Hid (Part2 w.heap.size w.heap.size wr n k L (gridOf n n (fillG F k 0))) ∧ Below w.heap.size w wr) (fun _ _ i _ => n - (intOf i).toNat)
  case atStart => exact ⟨0, by omega, rfl, [], Lib.hid hpart, hbel⟩
  case round =>
    obtain ⟨k, hk, rfl, L, hp, hb⟩ := hrel
    obtain ⟨W, rfl⟩ : ∃ W, W = wr := ⟨_, rfl⟩
    by_cases hlt : k < n
    · have hG : w.heap.size < W.heap.size := by
        rcases ownsRow_form hp.out.outer with ⟨h0, _⟩ | ⟨g, hA, _, hl, _⟩
        · cases h0
        · injection hA with hA; injection hA with hA; omega
      clear hpart
      go_wp2_with (refine wpList_make_full _ rfl _ _ 34 rfl W.heap.size 2 iZ (.int .i64 0) 1 Try.underlying34 hiZ hzZ0 hzZ1 .i64 .i64 n n n rfl rfl rfl rfl ?m1 ?m2 (Nat.le_refl _) ?_)
      case m1 => rw [hzZ2]; omega
      case m2 => unfold maxLen; omega
      intro w2 hrow hg2
      have hb2 : Below W.heap.size W w2 := (Below.refl _ W).grown hg2 (Nat.le_refl _) (fun k hk => by cases hk)
      have e2 : (madeCells #[Value.int .i64 0] n).toList = cells64 (List.replicate n 0) := by simp [cells64, toList_madeCells_one]
      rw [e2] at hrow
      have hout : w2.ownsRow w.heap.size 34 1 (.slice (some ⟨w.heap.size, 0, none⟩) n n) n (L.map sliceV ++ List.replicate (n - k) nilV) :=
        ownsRow_keep hp.out.outer fun g hg => hb2.block g (by injection hg with hg; injection hg with hg; omega)
      have hlen := hp.out.len
      have hc2 : w2.cell? ⟨w.heap.size, k, none⟩ = some nilV := by
        rw [hout.cellAt k (by omega), List.getElem?_append_right (by simp [hlen])]
        simp [hlen, List.getElem?_replicate]; omega
      have hfr := hout.frozenAt k
      obtain ⟨WS, hWS⟩ : ∃ WS, WS = w2.setCell ⟨w.heap.size, k, none⟩ (.slice (some ⟨W.heap.size, 0, none⟩) n n) := ⟨_, rfl⟩
      have HS : Own W.heap.size WS (some ⟨W.heap.size, 0, none⟩) n n (List.replicate n 0) := by
        refine (show Own W.heap.size w2 (some ⟨W.heap.size, 0, none⟩) n n (List.replicate n 0) from ⟨hrow, fun z hz => by rw [List.eq_of_mem_replicate hz]; rfl⟩).keep fun g hg => ?_
        rw [hWS]
        exact Below.heap_setCell w2 _ _ g (by injection hg with hg; injection hg with hg; show g ≠ w.heap.size; omega)
      have ez : (gridOf n n (fillG F k 0))[k]? = some (List.replicate n 0) := by
        rw [grid_row hlt]
        congr 1
        unfold rowOf
        rw [List.eq_replicate_iff]
        refine ⟨by simp, fun z hz => ?_⟩
        obtain ⟨y, _, rfl⟩ := List.mem_map.1 hz
        unfold fillG
        rw [if_neg (by omega)]; rfl
      have HP : Hid (Part2 w.heap.size w.heap.size WS n (k + 1) (L ++ [(some ⟨W.heap.size, 0, none⟩, n, n)]) (gridOf n n (fillG F k 0))) := Lib.hid (hp.out.step hlt (grid_len _ _ _) hG hb.size ez HS
        (by rw [hWS]; exact (hout.stored k (.slice (some ⟨W.heap.size, 0, none⟩) n n)).1)
        (fun g h1 h2 => by rw [hWS, Below.heap_setCell w2 ⟨w.heap.size, k, none⟩ _ g (fun e => h2 e), hb2.block g h1]))
      have HBW : Hid (Below w.heap.size w WS) := Lib.hid (by rw [hWS]; exact (hb.trans (hb2.mono hb.size)).setCell (Nat.le_refl _) _)
      clear hrow hg2 e2 hb2 hout HS
      go_wp2_with fail
      rw [← hWS]
      have HWS := Lib.hid hWS
      clear hWS hc2 hfr
      go_wp2_with fail
      go_loopw [9, 22] (fun _ q wq => ∃ j : Nat, j ≤ n ∧ q = .int .i64 j ∧ Hid (Part2 w.heap.size w.heap.size wq n (k + 1) (L ++ [(some ⟨W.heap.size, 0, none⟩, n, n)]) (gridOf n n (fillG F k j))) ∧ Below w.heap.size w wq) (fun _ q _ => n - (intOf q).toNat)
      case atStart => exact ⟨0, by omega, rfl, HP, HBW.out⟩
      case round =>
        obtain ⟨j, hj, rfl, hp2, hb2⟩ := hrel
        obtain ⟨wq, rfl⟩ : ∃ wq, wq = wr := ⟨_, rfl⟩
        by_cases hjn : j < n
        · have hFb := HFB.out k j hlt hjn
          obtain ⟨g, cr, hc1, hc2, hfr, hL, hBg, hgs, _⟩ := hp2.out.cells (by omega) (grid_len _ _ _) (show k < k + 1 by omega) (grid_row hlt) (row_cell hjn)
          rw [row_len] at hc1 hL
          have hGq : w.heap.size < wq.heap.size := by
            rcases ownsRow_form hp2.out.outer with ⟨h0, _⟩ | ⟨g, hA, _, hl, _⟩
            · cases h0
            · injection hA with hA; injection hA with hA; omega
          have HL2 := Lib.hid hL
          clear hL
          go_wp2_with fail
          refine region_last 10 10 (fun w' => w'.cell? ⟨w.heap.size, k, none⟩ = some (.slice (some ⟨g, 0, none⟩) n cr)) (by kernel_rfl) (by kernel_rfl) (by kernel_rfl) (hc1) (fun hS => ?_)
          refine takeD 0 (some 25) (v := ?_) rfl (by kernel_rfl) (by kernel_rfl) (by kernel_rfl) (fun _ _ _ h => h) hS (fun o ho => Or.inl ⟨by cases ho; rfl, ?_⟩) ?_
          rotate_left
          · cases ho
            intro w' hw'
            (try dsimp only at hw')
            go_simp
            (try with_reducible rfl)
          (try simp only [Act.put, List.setIfInBounds_toArray, List.set_cons_zero, List.set_cons_succ])
          refine takeD 1 (some 26) (v := ?_) rfl (by kernel_rfl) (by kernel_rfl) (by kernel_rfl) (fun _ _ _ h => h) hS (fun o ho => Or.inl ⟨by cases ho; rfl, ?_⟩) ?_
          rotate_left
          · cases ho
            intro w' hw'
            (try dsimp only at hw')
            go_simp
            (try with_reducible rfl)
          (try simp only [Act.put, List.setIfInBounds_toArray, List.set_cons_zero, List.set_cons_succ])
          refine takeD 2 (some 27) (v := ?_) rfl (by kernel_rfl) (by kernel_rfl) (by kernel_rfl) (fun _ _ _ h => h) hS (fun o ho => Or.inl ⟨by cases ho; rfl, ?_⟩) ?_
          rotate_left
          · cases ho
            intro w' hw'
            (try dsimp only at hw')
            go_simp
            (try with_reducible rfl)
          (try simp only [Act.put, List.setIfInBounds_toArray, List.set_cons_zero, List.set_cons_succ])
          refine takeD 3 (some 28) (v := ?_) rfl (by kernel_rfl) (by kernel_rfl) (by kernel_rfl) (fun _ _ _ h => h) hS (fun o ho => Or.inl ⟨by cases ho; rfl, ?_⟩) ?_
          rotate_left
          · cases ho
            intro w' hw'
            (try dsimp only at hw')
            go_simp
            (try with_reducible rfl)
          (try simp only [Act.put, List.setIfInBounds_toArray, List.set_cons_zero, List.set_cons_succ])
          refine takeD 4 (some 29) (v := ?_) rfl (by kernel_rfl) (by kernel_rfl) (by kernel_rfl) (fun _ _ _ h => h) hS (fun o ho => Or.inl ⟨by cases ho; rfl, ?_⟩) ?_
          rotate_left
          · cases ho
            intro w' hw'
            (try dsimp only at hw')
            go_simp
            (try with_reducible rfl)
          (try simp only [Act.put, List.setIfInBounds_toArray, List.set_cons_zero, List.set_cons_succ])
          refine takeD 5 (some 30) (v := ?_) rfl (by kernel_rfl) (by kernel_rfl) (by kernel_rfl) (fun _ _ _ h => h) hS (fun o ho => Or.inl ⟨by cases ho; rfl, ?_⟩) ?_
          rotate_left
          · cases ho
            intro w' hw'
            (try dsimp only at hw')
            go_simp
            (try with_reducible rfl)
          (try simp only [Act.put, List.setIfInBounds_toArray, List.set_cons_zero, List.set_cons_succ])
          refine takeD 6 (some 31) (v := ?_) rfl (by kernel_rfl) (by kernel_rfl) (by kernel_rfl) (fun _ _ _ h => h) hS (fun o ho => Or.inl ⟨by cases ho; rfl, ?_⟩) ?_
          rotate_left
          · cases ho
            intro w' hw'
            (try dsimp only at hw')
            go_simp
            (try with_reducible rfl)
          (try simp only [Act.put, List.setIfInBounds_toArray, List.set_cons_zero, List.set_cons_succ])
          refine takeD 7 (some 32) (v := ?_) rfl (by kernel_rfl) (by kernel_rfl) (by kernel_rfl) (fun _ _ _ h => h) hS (fun o ho => Or.inl ⟨by cases ho; rfl, ?_⟩) ?_
          rotate_left
          · cases ho
            intro w' hw'
            (try dsimp only at hw')
            go_simp
            (try with_reducible rfl)
          (try simp only [Act.put, List.setIfInBounds_toArray, List.set_cons_zero, List.set_cons_succ])
          refine oneD 8 (some 33) (by kernel_rfl) rfl (fun o ho K hK hdo => ?_)
          simp only [List.getElem?_toArray, List.getElem?_cons_succ, List.getElem?_cons_zero, Option.some.injEq] at ho
          subst ho
          clear hdo
          rw [if_pos (by rfl)]
          go_wp2_with fail
          (go_at_call 64; (with_reducible refine (HC.out _ hb2.drew _ _ hlt hjn).mono ?_); rintro e W3 ⟨rfl, m3, hW3⟩)
          have BL3 : Below wq.heap.size wq W3 := by rw [hW3]; exact below_drewN (Below.refl _ _).drew m3
          have hd1 : W3.cell? ⟨w.heap.size, k, none⟩ = some (.slice (some ⟨g, 0, none⟩) n cr) := (BL3.cell (p := ⟨w.heap.size, k, none⟩) hGq).trans hc1
          have hd2 : W3.cell? ⟨g, j, none⟩ = some (.int .i64 ((fillG F k j k j : Nat) : Int)) := (BL3.cell (p := ⟨g, j, none⟩) hgs).trans hc2
          have hd3 : W3.frozen? ⟨g, j, none⟩ = false := by rw [hW3]; exact hfr
          have hwf : (Lit.int .i64 ((F k j : Nat) : Int)).wf = true := wf_small hFb
          have HP2 : Hid (Part2 w.heap.size w.heap.size (W3.setCell ⟨g, j, none⟩ (.int .i64 ((F k j : Nat) : Int))) n (k + 1) (L ++ [(some ⟨W.heap.size, 0, none⟩, n, n)]) (gridOf n n (fillG F k (j + 1)))) := Lib.hid (by
            have h4 := (hp2.out.below hGq BL3).store (x := j) (z := ((F k j : Nat) : Int)) (grid_row hlt) (by rw [row_len]; exact HL2.out) hwf
            rw [grid_set (G := fillG F k (j + 1)) (v := F k j) (fun a b _ _ => fillG_step F k j a b)] at h4
            exact h4)
          have HB3 : Hid (Below w.heap.size w W3) := Lib.hid (hb2.trans (BL3.mono hb2.size))
          have HW3 := Lib.hid hW3
          clear hW3 BL3 hc1 hc2 hfr
          refine hK.out _ _ ?_ (fun hS => ?_)
          · exact hd1
          clear hK K
          (try simp only [Act.put, List.setIfInBounds_toArray, List.set_cons_zero, List.set_cons_succ])
          refine takeD 9 (some 34) (v := ?_) rfl (by kernel_rfl) (by kernel_rfl) (by kernel_rfl) (fun _ _ _ h => h) hS (fun o ho => Or.inl ⟨by cases ho; rfl, ?_⟩) ?_
          rotate_left
          · cases ho
            intro w' hw'
            (try dsimp only at hw')
            go_simp
            (try with_reducible rfl)
          (try simp only [Act.put, List.setIfInBounds_toArray, List.set_cons_zero, List.set_cons_succ])
          refine wpAnyH_done (by kernel_rfl) ?_ _
          refine thenD rfl (fun o ho K hK => ?_)
          simp only [List.getElem?_toArray, List.getElem?_cons_succ, List.getElem?_cons_zero, Option.some.injEq] at ho
          subst ho
          clear hS
          go_wp2_with fail
          refine hK.out _ _ ?_
          clear hK K
          go_wp2_with fail
          go_roundw
          case rel => exact ⟨j + 1, by omega, by go_num, HP2, HB3.out.setCell (by omega) _⟩
          case measure => simp [intOf]; omega
        · obtain rfl : n = j := by omega
          go_wp2
          go_roundw
          case rel => exact ⟨k + 1, by omega, by go_num, _, Lib.hid (by
            have h4 := hp2.out
            rw [grid_congr (G := fillG F (k + 1) 0) (fun a b _ hb => fillG_row F hb)] at h4
            exact h4), hb2⟩
          case measure => simp [intOf]; omega
    · obtain rfl : n = k := by omega
      go_wp2
      go_ret
      refine ⟨_, _, L, rfl, ?_, hb⟩
      have h4 := hp.out.done (grid_len _ _ _)
      rw [grid_congr (G := F) (fun a b ha _ => fillG_end F ha)] at h4
      exact h4

set_option maxRecDepth 100000 in
set_option maxHeartbeats 4000000 in
theorem tabDihedral_any (n : Nat) (F : Nat → Nat → Nat) (cap0 : Value) (w : World) (hn : n ≤ 36) (hF : ∀ x y, x < n → y < n → F x y < 1000000)
    (hC : ∀ W, Below w.heap.size w W → ∀ x y, x < n → y < n → Calls Try.prog 63 #[.int .i64 (x : Nat), .int .i64 (y : Nat), cap0] W fun e w' => e = .returned (.int .i64 ((F x y : Nat) : Int)) ∧ ∃ m, w' = W.drewN m) :
    Calls Try.prog 115 #[.func (.func 63) #[] #[cap0], .int .i64 n, .int .i64 n] w (MadeG w.heap.size n F w) := by
  obtain ⟨i0, hi, hz0, hz1, hz2⟩ := info_parts infoS
  obtain ⟨iZ, hiZ, hzZ0, hzZ1, hzZ2⟩ := info_parts info64
  have HC := Lib.hid hC
  have HFB := Lib.hid hF
  clear hC hF
  go_enter Try.func115, Try.ntmps115
  go_wp2_with (refine wpList_make_full _ rfl _ _ 24 rfl w.heap.size 34 i0 nilV 1 Try.underlying24 hi hz0 hz1 .i64 .i64 n n n rfl rfl rfl rfl ?c1 ?c2 (Nat.le_refl _) ?_)
  case c1 => rw [hz2]; omega
  case c2 => unfold maxLen; omega
  intro w1 hown hg
  have hbel : Below w.heap.size w w1 := (Below.refl _ w).grown hg (Nat.le_refl _) (fun k hk => by cases hk)
  have hpart : Part2 w.heap.size w.heap.size w1 n 0 [] (gridOf n n (fillG F 0 0)) := by
    refine ⟨?_, rfl, fun j t zs h => by simp at h, fun i j s t g h => by simp at h⟩
    have e : ([] : List SL).map sliceV ++ List.replicate (n - 0) nilV = (madeCells #[nilV] n).toList := by
      simp [toList_madeCells_one]
    rw [e]; exact hown
  clear hown
  go_wp2
  go_loopw [8, 9, 13] (fun _ _ i wr => ∃ k : Nat, k ≤ n ∧ i = .int .i64 k ∧ ∃ L, Hid (Part2 w.heap.size w.heap.size wr n k L (gridOf n n (fillG F k 0))) ∧ Below w.heap.size w wr) (fun _ _ i _ => n - (intOf i).toNat)
  case atStart => exact ⟨0, by omega, rfl, [], Lib.hid hpart, hbel⟩
  case round =>
    obtain ⟨k, hk, rfl, L, hp, hb⟩ := hrel
    obtain ⟨W, rfl⟩ : ∃ W, W = wr := ⟨_, rfl⟩
    by_cases hlt : k < n
    · have hG : w.heap.size < W.heap.size := by
        rcases ownsRow_form hp.out.outer with ⟨h0, _⟩ | ⟨g, hA, _, hl, _⟩
        · cases h0
        · injection hA with hA; injection hA with hA; omega
      clear hpart
      go_wp2_with (refine wpList_make_full _ rfl _ _ 34 rfl W.heap.size 2 iZ (.int .i64 0) 1 Try.underlying34 hiZ hzZ0 hzZ1 .i64 .i64 n n n rfl rfl rfl rfl ?m1 ?m2 (Nat.le_refl _) ?_)
      case m1 => rw [hzZ2]; omega
      case m2 => unfold maxLen; omega
      intro w2 hrow hg2
      have hb2 : Below W.heap.size W w2 := (Below.refl _ W).grown hg2 (Nat.le_refl _) (fun k hk => by cases hk)
      have e2 : (madeCells #[Value.int .i64 0] n).toList = cells64 (List.replicate n 0) := by simp [cells64, toList_madeCells_one]
      rw [e2] at hrow
      have hout : w2.ownsRow w.heap.size 34 1 (.slice (some ⟨w.heap.size, 0, none⟩) n n) n (L.map sliceV ++ List.replicate (n - k) nilV) :=
        ownsRow_keep hp.out.outer fun g hg => hb2.block g (by injection hg with hg; injection hg with hg; omega)
      have hlen := hp.out.len
      have hc2 : w2.cell? ⟨w.heap.size, k, none⟩ = some nilV := by
        rw [hout.cellAt k (by omega), List.getElem?_append_right (by simp [hlen])]
        simp [hlen, List.getElem?_replicate]; omega
      have hfr := hout.frozenAt k
      obtain ⟨WS, hWS⟩ : ∃ WS, WS = w2.setCell ⟨w.heap.size, k, none⟩ (.slice (some ⟨W.heap.size, 0, none⟩) n n) := ⟨_, rfl⟩
      have HS : Own W.heap.size WS (some ⟨W.heap.size, 0, none⟩) n n (List.replicate n 0) := by
        refine (show Own W.heap.size w2 (some ⟨W.heap.size, 0, none⟩) n n (List.replicate n 0) from ⟨hrow, fun z hz => by rw [List.eq_of_mem_replicate hz]; rfl⟩).keep fun g hg => ?_
        rw [hWS]
        exact Below.heap_setCell w2 _ _ g (by injection hg with hg; injection hg with hg; show g ≠ w.heap.size; omega)
      have ez : (gridOf n n (fillG F k 0))[k]? = some (List.replicate n 0) := by
        rw [grid_row hlt]
        congr 1
        unfold rowOf
        rw [List.eq_replicate_iff]
        refine ⟨by simp, fun z hz => ?_⟩
        obtain ⟨y, _, rfl⟩ := List.mem_map.1 hz
        unfold fillG
        rw [if_neg (by omega)]; rfl
      have HP : Hid (Part2 w.heap.size w.heap.size WS n (k + 1) (L ++ [(some ⟨W.heap.size, 0, none⟩, n, n)]) (gridOf n n (fillG F k 0))) := Lib.hid (hp.out.step hlt (grid_len _ _ _) hG hb.size ez HS
        (by rw [hWS]; exact (hout.stored k (.slice (some ⟨W.heap.size, 0, none⟩) n n)).1)
        (fun g h1 h2 => by rw [hWS, Below.heap_setCell w2 ⟨w.heap.size, k, none⟩ _ g (fun e => h2 e), hb2.block g h1]))
      have HBW : Hid (Below w.heap.size w WS) := Lib.hid (by rw [hWS]; exact (hb.trans (hb2.mono hb.size)).setCell (Nat.le_refl _) _)
      clear hrow hg2 e2 hb2 hout HS
      go_wp2_with fail
      rw [← hWS]
      have HWS := Lib.hid hWS
      clear hWS hc2 hfr
      go_wp2_with fail
      go_loopw [9, 22] (fun _ q wq => ∃ j : Nat, j ≤ n ∧ q = .int .i64 j ∧ Hid (Part2 w.heap.size w.heap.size wq n (k + 1) (L ++ [(some ⟨W.heap.size, 0, none⟩, n, n)]) (gridOf n n (fillG F k j))) ∧ Below w.heap.size w wq) (fun _ q _ => n - (intOf q).toNat)
      case atStart => exact ⟨0, by omega, rfl, HP, HBW.out⟩
      case round =>
        obtain ⟨j, hj, rfl, hp2, hb2⟩ := hrel
        obtain ⟨wq, rfl⟩ : ∃ wq, wq = wr := ⟨_, rfl⟩
        by_cases hjn : j < n
        · have hFb := HFB.out k j hlt hjn
          obtain ⟨g, cr, hc1, hc2, hfr, hL, hBg, hgs, _⟩ := hp2.out.cells (by omega) (grid_len _ _ _) (show k < k + 1 by omega) (grid_row hlt) (row_cell hjn)
          rw [row_len] at hc1 hL
          have hGq : w.heap.size < wq.heap.size := by
            rcases ownsRow_form hp2.out.outer with ⟨h0, _⟩ | ⟨g, hA, _, hl, _⟩
            · cases h0
            · injection hA with hA; injection hA with hA; omega
          have HL2 := Lib.hid hL
          clear hL
          go_wp2_with fail
          refine region_last 10 10 (fun w' => w'.cell? ⟨w.heap.size, k, none⟩ = some (.slice (some ⟨g, 0, none⟩) n cr)) (by kernel_rfl) (by kernel_rfl) (by kernel_rfl) (hc1) (fun hS => ?_)
          refine takeD 0 (some 25) (v := ?_) rfl (by kernel_rfl) (by kernel_rfl) (by kernel_rfl) (fun _ _ _ h => h) hS (fun o ho => Or.inl ⟨by cases ho; rfl, ?_⟩) ?_
          rotate_left
          · cases ho
            intro w' hw'
            (try dsimp only at hw')
            go_simp
            (try with_reducible rfl)
          (try simp only [Act.put, List.setIfInBounds_toArray, List.set_cons_zero, List.set_cons_succ])
          refine takeD 1 (some 26) (v := ?_) rfl (by kernel_rfl) (by kernel_rfl) (by kernel_rfl) (fun _ _ _ h => h) hS (fun o ho => Or.inl ⟨by cases ho; rfl, ?_⟩) ?_
          rotate_left
          · cases ho
            intro w' hw'
            (try dsimp only at hw')
            go_simp
            (try with_reducible rfl)
          (try simp only [Act.put, List.setIfInBounds_toArray, List.set_cons_zero, List.set_cons_succ])
          refine takeD 2 (some 27) (v := ?_) rfl (by kernel_rfl) (by kernel_rfl) (by kernel_rfl) (fun _ _ _ h => h) hS (fun o ho => Or.inl ⟨by cases ho; rfl, ?_⟩) ?_
          rotate_left
          · cases ho
            intro w' hw'
            (try dsimp only at hw')
            go_simp
            (try with_reducible rfl)
          (try simp only [Act.put, List.setIfInBounds_toArray, List.set_cons_zero, List.set_cons_succ])
          refine takeD 3 (some 28) (v := ?_) rfl (by kernel_rfl) (by kernel_rfl) (by kernel_rfl) (fun _ _ _ h => h) hS (fun o ho => Or.inl ⟨by cases ho; rfl, ?_⟩) ?_
          rotate_left
          · cases ho
            intro w' hw'
            (try dsimp only at hw')
            go_simp
            (try with_reducible rfl)
          (try simp only [Act.put, List.setIfInBounds_toArray, List.set_cons_zero, List.set_cons_succ])
          refine takeD 4 (some 29) (v := ?_) rfl (by kernel_rfl) (by kernel_rfl) (by kernel_rfl) (fun _ _ _ h => h) hS (fun o ho => Or.inl ⟨by cases ho; rfl, ?_⟩) ?_
          rotate_left
          · cases ho
            intro w' hw'
            (try dsimp only at hw')
            go_simp
            (try with_reducible rfl)
          (try simp only [Act.put, List.setIfInBounds_toArray, List.set_cons_zero, List.set_cons_succ])
          refine takeD 5 (some 30) (v := ?_) rfl (by kernel_rfl) (by kernel_rfl) (by kernel_rfl) (fun _ _ _ h => h) hS (fun o ho => Or.inl ⟨by cases ho; rfl, ?_⟩) ?_
          rotate_left
          · cases ho
            intro w' hw'
            (try dsimp only at hw')
            go_simp
            (try with_reducible rfl)
          (try simp only [Act.put, List.setIfInBounds_toArray, List.set_cons_zero, List.set_cons_succ])
          refine takeD 6 (some 31) (v := ?_) rfl (by kernel_rfl) (by kernel_rfl) (by kernel_rfl) (fun _ _ _ h => h) hS (fun o ho => Or.inl ⟨by cases ho; rfl, ?_⟩) ?_
          rotate_left
          · cases ho
            intro w' hw'
            (try dsimp only at hw')
            go_simp
            (try with_reducible rfl)
          (try simp only [Act.put, List.setIfInBounds_toArray, List.set_cons_zero, List.set_cons_succ])
          refine takeD 7 (some 32) (v := ?_) rfl (by kernel_rfl) (by kernel_rfl) (by kernel_rfl) (fun _ _ _ h => h) hS (fun o ho => Or.inl ⟨by cases ho; rfl, ?_⟩) ?_
          rotate_left
          · cases ho
            intro w' hw'
            (try dsimp only at hw')
            go_simp
            (try with_reducible rfl)
          (try simp only [Act.put, List.setIfInBounds_toArray, List.set_cons_zero, List.set_cons_succ])
          refine oneD 8 (some 33) (by kernel_rfl) rfl (fun o ho K hK hdo => ?_)
          simp only [List.getElem?_toArray, List.getElem?_cons_succ, List.getElem?_cons_zero, Option.some.injEq] at ho
          subst ho
          clear hdo
          rw [if_pos (by rfl)]
          go_wp2_with fail
          (go_at_call 63; (with_reducible refine (HC.out _ hb2.drew _ _ hlt hjn).mono ?_); rintro e W3 ⟨rfl, m3, hW3⟩)
          have BL3 : Below wq.heap.size wq W3 := by rw [hW3]; exact below_drewN (Below.refl _ _).drew m3
          have hd1 : W3.cell? ⟨w.heap.size, k, none⟩ = some (.slice (some ⟨g, 0, none⟩) n cr) := (BL3.cell (p := ⟨w.heap.size, k, none⟩) hGq).trans hc1
          have hd2 : W3.cell? ⟨g, j, none⟩ = some (.int .i64 ((fillG F k j k j : Nat) : Int)) := (BL3.cell (p := ⟨g, j, none⟩) hgs).trans hc2
          have hd3 : W3.frozen? ⟨g, j, none⟩ = false := by rw [hW3]; exact hfr
          have hwf : (Lit.int .i64 ((F k j : Nat) : Int)).wf = true := wf_small hFb
          have HP2 : Hid (Part2 w.heap.size w.heap.size (W3.setCell ⟨g, j, none⟩ (.int .i64 ((F k j : Nat) : Int))) n (k + 1) (L ++ [(some ⟨W.heap.size, 0, none⟩, n, n)]) (gridOf n n (fillG F k (j + 1)))) := Lib.hid (by
            have h4 := (hp2.out.below hGq BL3).store (x := j) (z := ((F k j : Nat) : Int)) (grid_row hlt) (by rw [row_len]; exact HL2.out) hwf
            rw [grid_set (G := fillG F k (j + 1)) (v := F k j) (fun a b _ _ => fillG_step F k j a b)] at h4
            exact h4)
          have HB3 : Hid (Below w.heap.size w W3) := Lib.hid (hb2.trans (BL3.mono hb2.size))
          have HW3 := Lib.hid hW3
          clear hW3 BL3 hc1 hc2 hfr
          refine hK.out _ _ ?_ (fun hS => ?_)
          · exact hd1
          clear hK K
          (try simp only [Act.put, List.setIfInBounds_toArray, List.set_cons_zero, List.set_cons_succ])
          refine takeD 9 (some 34) (v := ?_) rfl (by kernel_rfl) (by kernel_rfl) (by kernel_rfl) (fun _ _ _ h => h) hS (fun o ho => Or.inl ⟨by cases ho; rfl, ?_⟩) ?_
          rotate_left
          · cases ho
            intro w' hw'
            (try dsimp only at hw')
            go_simp
            (try with_reducible rfl)
          (try simp only [Act.put, List.setIfInBounds_toArray, List.set_cons_zero, List.set_cons_succ])
          refine wpAnyH_done (by kernel_rfl) ?_ _
          refine thenD rfl (fun o ho K hK => ?_)
          simp only [List.getElem?_toArray, List.getElem?_cons_succ, List.getElem?_cons_zero, Option.some.injEq] at ho
          subst ho
          clear hS
          go_wp2_with fail
          refine hK.out _ _ ?_
          clear hK K
          go_wp2_with fail
          go_roundw
          case rel => exact ⟨j + 1, by omega, by go_num, HP2, HB3.out.setCell (by omega) _⟩
          case measure => simp [intOf]; omega
        · obtain rfl : n = j := by omega
          go_wp2
          go_roundw
          case rel => exact ⟨k + 1, by omega, by go_num, _, Lib.hid (by
            have h4 := hp2.out
            rw [grid_congr (G := fillG F (k + 1) 0) (fun a b _ hb => fillG_row F hb)] at h4
            exact h4), hb2⟩
          case measure => simp [intOf]; omega
    · obtain rfl : n = k := by omega
      go_wp2
      go_ret
      refine ⟨_, _, L, rfl, ?_, hb⟩
      have h4 := hp.out.done (grid_len _ _ _)
      rw [grid_congr (G := F) (fun a b ha _ => fillG_end F ha)] at h4
      exact h4

set_option maxRecDepth 100000 in
set_option maxHeartbeats 4000000 in
theorem tabGroup_any (n : Nat) (F : Nat → Nat → Nat) (cap0 cap1 : Value) (w : World) (hn : n ≤ 36) (hF : ∀ x y, x < n → y < n → F x y < 1000000)
    (hC : ∀ W, Below w.heap.size w W → ∀ x y, x < n → y < n → Calls Try.prog 100 #[.int .i64 (x : Nat), .int .i64 (y : Nat), cap0, cap1] W fun e w' => e = .returned (.int .i64 ((F x y : Nat) : Int)) ∧ ∃ m, w' = W.drewN m) :
    Calls Try.prog 115 #[.func (.func 100) #[] #[cap0, cap1], .int .i64 n, .int .i64 n] w (MadeG w.heap.size n F w) := by
  obtain ⟨i0, hi, hz0, hz1, hz2⟩ := info_parts infoS
  obtain ⟨iZ, hiZ, hzZ0, hzZ1, hzZ2⟩ := info_parts info64
  have HC := Lib.hid hC
  have HFB := Lib.hid hF
  clear hC hF
  go_enter Try.func115, Try.ntmps115
  go_wp2_with (refine wpList_make_full _ rfl _ _ 24 rfl w.heap.size 34 i0 nilV 1 Try.underlying24 hi hz0 hz1 .i64 .i64 n n n rfl rfl rfl rfl ?c1 ?c2 (Nat.le_refl _) ?_)
  case c1 => rw [hz2]; omega
  case c2 => unfold maxLen; omega
  intro w1 hown hg
  have hbel : Below w.heap.size w w1 := (Below.refl _ w).grown hg (Nat.le_refl _) (fun k hk => by cases hk)
  have hpart : Part2 w.heap.size w.heap.size w1 n 0 [] (gridOf n n (fillG F 0 0)) := by
    refine ⟨?_, rfl, fun j t zs h => by simp at h, fun i j s t g h => by simp at h⟩
    have e : ([] : List SL).map sliceV ++ List.replicate (n - 0) nilV = (madeCells #[nilV] n).toList := by
      simp [toList_madeCells_one]
    rw [e]; exact hown
  clear hown
  go_wp2
  go_loopw [8, 9, 13] (fun _ _ i wr => ∃ k : Nat, k ≤ n ∧ i = .int .i64 k ∧ ∃ L, Hid (Part2 w.heap.size w.heap.size wr n k L (gridOf n n (fillG F k 0))) ∧ Below w.heap.size w wr) (fun _ _ i _ => n - (intOf i).toNat)
  case atStart => exact ⟨0, by omega, rfl, [], Lib.hid hpart, hbel⟩
  case round =>
    obtain ⟨k, hk, rfl, L, hp, hb⟩ := hrel
    obtain ⟨W, rfl⟩ : ∃ W, W = wr := ⟨_, rfl⟩
    by_cases hlt : k < n
    · have hG : w.heap.size < W.heap.size := by
        rcases ownsRow_form hp.out.outer with ⟨h0, _⟩ | ⟨g, hA, _, hl, _⟩
        · cases h0
        · injection hA with hA; injection hA with hA; omega
      clear hpart
      go_wp2_with (refine wpList_make_full _ rfl _ _ 34 rfl W.heap.size 2 iZ (.int .i64 0) 1 Try.underlying34 hiZ hzZ0 hzZ1 .i64 .i64 n n n rfl rfl rfl rfl ?m1 ?m2 (Nat.le_refl _) ?_)
      case m1 => rw [hzZ2]; omega
      case m2 => unfold maxLen; omega
      intro w2 hrow hg2
      have hb2 : Below W.heap.size W w2 := (Below.refl _ W).grown hg2 (Nat.le_refl _) (fun k hk => by cases hk)
      have e2 : (madeCells #[Value.int .i64 0] n).toList = cells64 (List.replicate n 0) := by simp [cells64, toList_madeCells_one]
      rw [e2] at hrow
      have hout : w2.ownsRow w.heap.size 34 1 (.slice (some ⟨w.heap.size, 0, none⟩) n n) n (L.map sliceV ++ List.replicate (n - k) nilV) :=
        ownsRow_keep hp.out.outer fun g hg => hb2.block g (by injection hg with hg; injection hg with hg; omega)
      have hlen := hp.out.len
      have hc2 : w2.cell? ⟨w.heap.size, k, none⟩ = some nilV := by
        rw [hout.cellAt k (by omega), List.getElem?_append_right (by simp [hlen])]
        simp [hlen, List.getElem?_replicate]; omega
      have hfr := hout.frozenAt k
      obtain ⟨WS, hWS⟩ : ∃ WS, WS = w2.setCell ⟨w.heap.size, k, none⟩ (.slice (some ⟨W.heap.size, 0, none⟩) n n) := ⟨_, rfl⟩
      have HS : Own W.heap.size WS (some ⟨W.heap.size, 0, none⟩) n n (List.replicate n 0) := by
        refine (show Own W.heap.size w2 (some ⟨W.heap.size, 0, none⟩) n n (List.replicate n 0) from ⟨hrow, fun z hz => by rw [List.eq_of_mem_replicate hz]; rfl⟩).keep fun g hg => ?_
        rw [hWS]
        exact Below.heap_setCell w2 _ _ g (by injection hg with hg; injection hg with hg; show g ≠ w.heap.size; omega)
      have ez : (gridOf n n (fillG F k 0))[k]? = some (List.replicate n 0) := by
        rw [grid_row hlt]
        congr 1
        unfold rowOf
        rw [List.eq_replicate_iff]
        refine ⟨by simp, fun z hz => ?_⟩
        obtain ⟨y, _, rfl⟩ := List.mem_map.1 hz
        unfold fillG
        rw [if_neg (by omega)]; rfl
      have HP : Hid (Part2 w.heap.size w.heap.size WS n (k + 1) (L ++ [(some ⟨W.heap.size, 0, none⟩, n, n)]) (gridOf n n (fillG F k 0))) := Lib.hid (hp.out.step hlt (grid_len _ _ _) hG hb.size ez HS
        (by rw [hWS]; exact (hout.stored k (.slice (some ⟨W.heap.size, 0, none⟩) n n)).1)
        (fun g h1 h2 => by rw [hWS, Below.heap_setCell w2 ⟨w.heap.size, k, none⟩ _ g (fun e => h2 e), hb2.block g h1]))
      have HBW : Hid (Below w.heap.size w WS) := Lib.hid (by rw [hWS]; exact (hb.trans (hb2.mono hb.size)).setCell (Nat.le_refl _) _)
      clear hrow hg2 e2 hb2 hout HS
      go_wp2_with fail
      rw [← hWS]
      have HWS := Lib.hid hWS
      clear hWS hc2 hfr
      go_wp2_with fail
      go_loopw [9, 22] (fun _ q wq => ∃ j : Nat, j ≤ n ∧ q = .int .i64 j ∧ Hid (Part2 w.heap.size w.heap.size wq n (k + 1) (L ++ [(some ⟨W.heap.size, 0, none⟩, n, n)]) (gridOf n n (fillG F k j))) ∧ Below w.heap.size w wq) (fun _ q _ => n - (intOf q).toNat)
      case atStart => exact ⟨0, by omega, rfl, HP, HBW.out⟩
      case round =>
        obtain ⟨j, hj, rfl, hp2, hb2⟩ := hrel
        obtain ⟨wq, rfl⟩ : ∃ wq, wq = wr := ⟨_, rfl⟩
        by_cases hjn : j < n
        · have hFb := HFB.out k j hlt hjn
          obtain ⟨g, cr, hc1, hc2, hfr, hL, hBg, hgs, _⟩ := hp2.out.cells (by omega) (grid_len _ _ _) (show k < k + 1 by omega) (grid_row hlt) (row_cell hjn)
          rw [row_len] at hc1 hL
          have hGq : w.heap.size < wq.heap.size := by
            rcases ownsRow_form hp2.out.outer with ⟨h0, _⟩ | ⟨g, hA, _, hl, _⟩
            · cases h0
            · injection hA with hA; injection hA with hA; omega
          have HL2 := Lib.hid hL
          clear hL
          go_wp2_with fail
          refine region_last 10 10 (fun w' => w'.cell? ⟨w.heap.size, k, none⟩ = some (.slice (some ⟨g, 0, none⟩) n cr)) (by kernel_rfl) (by kernel_rfl) (by kernel_rfl) (hc1) (fun hS => ?_)
          refine takeD 0 (some 25) (v := ?_) rfl (by kernel_rfl) (by kernel_rfl) (by kernel_rfl) (fun _ _ _ h => h) hS (fun o ho => Or.inl ⟨by cases ho; rfl, ?_⟩) ?_
          rotate_left
          · cases ho
            intro w' hw'
            (try dsimp only at hw')
            go_simp
            (try with_reducible rfl)
          (try simp only [Act.put, List.setIfInBounds_toArray, List.set_cons_zero, List.set_cons_succ])
          refine takeD 1 (some 26) (v := ?_) rfl (by kernel_rfl) (by kernel_rfl) (by kernel_rfl) (fun _ _ _ h => h) hS (fun o ho => Or.inl ⟨by cases ho; rfl, ?_⟩) ?_
          rotate_left
          · cases ho
            intro w' hw'
            (try dsimp only at hw')
            go_simp
            (try with_reducible rfl)
          (try simp only [Act.put, List.setIfInBounds_toArray, List.set_cons_zero, List.set_cons_succ])
          refine takeD 2 (some 27) (v := ?_) rfl (by kernel_rfl) (by kernel_rfl) (by kernel_rfl) (fun _ _ _ h => h) hS (fun o ho => Or.inl ⟨by cases ho; rfl, ?_⟩) ?_
          rotate_left
          · cases ho
            intro w' hw'
            (try dsimp only at hw')
            go_simp
            (try with_reducible rfl)
          (try simp only [Act.put, List.setIfInBounds_toArray, List.set_cons_zero, List.set_cons_succ])
          refine takeD 3 (some 28) (v := ?_) rfl (by kernel_rfl) (by kernel_rfl) (by kernel_rfl) (fun _ _ _ h => h) hS (fun o ho => Or.inl ⟨by cases ho; rfl, ?_⟩) ?_
          rotate_left
          · cases ho
            intro w' hw'
            (try dsimp only at hw')
            go_simp
            (try with_reducible rfl)
          (try simp only [Act.put, List.setIfInBounds_toArray, List.set_cons_zero, List.set_cons_succ])
          refine takeD 4 (some 29) (v := ?_) rfl (by kernel_rfl) (by kernel_rfl) (by kernel_rfl) (fun _ _ _ h => h) hS (fun o ho => Or.inl ⟨by cases ho; rfl, ?_⟩) ?_
          rotate_left
          · cases ho
            intro w' hw'
            (try dsimp only at hw')
            go_simp
            (try with_reducible rfl)
          (try simp only [Act.put, List.setIfInBounds_toArray, List.set_cons_zero, List.set_cons_succ])
          refine takeD 5 (some 30) (v := ?_) rfl (by kernel_rfl) (by kernel_rfl) (by kernel_rfl) (fun _ _ _ h => h) hS (fun o ho => Or.inl ⟨by cases ho; rfl, ?_⟩) ?_
          rotate_left
          · cases ho
            intro w' hw'
            (try dsimp only at hw')
            go_simp
            (try with_reducible rfl)
          (try simp only [Act.put, List.setIfInBounds_toArray, List.set_cons_zero, List.set_cons_succ])
          refine takeD 6 (some 31) (v := ?_) rfl (by kernel_rfl) (by kernel_rfl) (by kernel_rfl) (fun _ _ _ h => h) hS (fun o ho => Or.inl ⟨by cases ho; rfl, ?_⟩) ?_
          rotate_left
          · cases ho
            intro w' hw'
            (try dsimp only at hw')
            go_simp
            (try with_reducible rfl)
          (try simp only [Act.put, List.setIfInBounds_toArray, List.set_cons_zero, List.set_cons_succ])
          refine takeD 7 (some 32) (v := ?_) rfl (by kernel_rfl) (by kernel_rfl) (by kernel_rfl) (fun _ _ _ h => h) hS (fun o ho => Or.inl ⟨by cases ho; rfl, ?_⟩) ?_
          rotate_left
          · cases ho
            intro w' hw'
            (try dsimp only at hw')
            go_simp
            (try with_reducible rfl)
          (try simp only [Act.put, List.setIfInBounds_toArray, List.set_cons_zero, List.set_cons_succ])
          refine oneD 8 (some 33) (by kernel_rfl) rfl (fun o ho K hK hdo => ?_)
          simp only [List.getElem?_toArray, List.getElem?_cons_succ, List.getElem?_cons_zero, Option.some.injEq] at ho
          subst ho
          clear hdo
          rw [if_pos (by rfl)]
          go_wp2_with fail
          (go_at_call 100; (with_reducible refine (HC.out _ hb2.drew _ _ hlt hjn).mono ?_); rintro e W3 ⟨rfl, m3, hW3⟩)
          have BL3 : Below wq.heap.size wq W3 := by rw [hW3]; exact below_drewN (Below.refl _ _).drew m3
          have hd1 : W3.cell? ⟨w.heap.size, k, none⟩ = some (.slice (some ⟨g, 0, none⟩) n cr) := (BL3.cell (p := ⟨w.heap.size, k, none⟩) hGq).trans hc1
          have hd2 : W3.cell? ⟨g, j, none⟩ = some (.int .i64 ((fillG F k j k j : Nat) : Int)) := (BL3.cell (p := ⟨g, j, none⟩) hgs).trans hc2
          have hd3 : W3.frozen? ⟨g, j, none⟩ = false := by rw [hW3]; exact hfr
          have hwf : (Lit.int .i64 ((F k j : Nat) : Int)).wf = true := wf_small hFb
          have HP2 : Hid (Part2 w.heap.size w.heap.size (W3.setCell ⟨g, j, none⟩ (.int .i64 ((F k j : Nat) : Int))) n (k + 1) (L ++ [(some ⟨W.heap.size, 0, none⟩, n, n)]) (gridOf n n (fillG F k (j + 1)))) := Lib.hid (by
            have h4 := (hp2.out.below hGq BL3).store (x := j) (z := ((F k j : Nat) : Int)) (grid_row hlt) (by rw [row_len]; exact HL2.out) hwf
            rw [grid_set (G := fillG F k (j + 1)) (v := F k j) (fun a b _ _ => fillG_step F k j a b)] at h4
            exact h4)
          have HB3 : Hid (Below w.heap.size w W3) := Lib.hid (hb2.trans (BL3.mono hb2.size))
          have HW3 := Lib.hid hW3
          clear hW3 BL3 hc1 hc2 hfr
          refine hK.out _ _ ?_ (fun hS => ?_)
          · exact hd1
          clear hK K
          (try simp only [Act.put, List.setIfInBounds_toArray, List.set_cons_zero, List.set_cons_succ])
          refine takeD 9 (some 34) (v := ?_) rfl (by kernel_rfl) (by kernel_rfl) (by kernel_rfl) (fun _ _ _ h => h) hS (fun o ho => Or.inl ⟨by cases ho; rfl, ?_⟩) ?_
          rotate_left
          · cases ho
            intro w' hw'
            (try dsimp only at hw')
            go_simp
            (try with_reducible rfl)
          (try simp only [Act.put, List.setIfInBounds_toArray, List.set_cons_zero, List.set_cons_succ])
          refine wpAnyH_done (by kernel_rfl) ?_ _
          refine thenD rfl (fun o ho K hK => ?_)
          simp only [List.getElem?_toArray, List.getElem?_cons_succ, List.getElem?_cons_zero, Option.some.injEq] at ho
          subst ho
          clear hS
          go_wp2_with fail
          refine hK.out _ _ ?_
          clear hK K
          go_wp2_with fail
          go_roundw
          case rel => exact ⟨j + 1, by omega, by go_num, HP2, HB3.out.setCell (by omega) _⟩
          case measure => simp [intOf]; omega
        · obtain rfl : n = j := by omega
          go_wp2
          go_roundw
          case rel => exact ⟨k + 1, by omega, by go_num, _, Lib.hid (by
            have h4 := hp2.out
            rw [grid_congr (G := fillG F (k + 1) 0) (fun a b _ hb => fillG_row F hb)] at h4
            exact h4), hb2⟩
          case measure => simp [intOf]; omega
    · obtain rfl : n = k := by omega
      go_wp2
      go_ret
      refine ⟨_, _, L, rfl, ?_, hb⟩
      have h4 := hp.out.done (grid_len _ _ _)
      rw [grid_congr (G := F) (fun a b ha _ => fillG_end F ha)] at h4
      exact h4



end Go.Proofs.Yteggllmiapdmcaa
