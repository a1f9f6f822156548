/-
  The cyclic group, as the model makes it and as the program does.
-/
import Derived.Test.YteggllmiapdmcaaBld
import Derived.Test.YteggllmiapdmcaaStepT
namespace Go.Proofs.Yteggllmiapdmcaa
open Go.RowKit

theorem slice_atG {w : World} {B n : Nat} {v : Value} {xs : List Value} (h : w.ownsRow B 34 1 v n xs) : ∃ A c, v = .slice A n c := by
  rcases h.2 with ⟨h1, h2⟩ | ⟨g, cap, cur, h1, _⟩
  · exact ⟨_, _, by rw [h1, h2]⟩
  · exact ⟨_, _, h1⟩
theorem slice_atJ {w : World} {B n : Nat} {v : Value} {xs : List Value} (h : w.ownsRow B 2 1 v n xs) : ∃ A c, v = .slice A n c := by
  rcases h.2 with ⟨h1, h2⟩ | ⟨g, cap, cur, h1, _⟩
  · exact ⟨_, _, by rw [h1, h2]⟩
  · exact ⟨_, _, h1⟩

def cycF (n x y : Nat) : Nat := (x + y) % n
theorem cycF_lt {n : Nat} (h : 1 ≤ n) (x y : Nat) : cycF n x y < n := Nat.mod_lt _ (by omega)
set_option maxRecDepth 100000 in
set_option maxHeartbeats 4000000 in
theorem l05Cyclic_any (n : Nat) (w : World) (hn1 : 1 ≤ n) (hn : n ≤ 10) :
    Calls Try.prog 96 #[.int .i64 n] w (MadeGp w.heap.size ⟨gridOf n n (cycF n)⟩ w) := by
  obtain ⟨i0, hin, hz0, hz1, hz2⟩ := info_parts infoS
  obtain ⟨ii, hiin, hiz0, hiz1, hiz2⟩ := info_parts info64
  obtain ⟨w2, hw2⟩ : ∃ w2, w2 = (w.alloc (.cells #[nilV] 26)).alloc (.cells #[nilV] 26) := ⟨_, rfl⟩
  have hb0 : Blk w2 w.heap.size #[nilV] 26 := by
    rw [hw2]
    exact (Blk.new _ _ _).alloc _
  have hb1 : Blk w2 (w.heap.size + 1) #[nilV] 26 := by
    rw [hw2]
    have h1 := Blk.new (w.alloc (.cells #[nilV] 26)) #[nilV] 26
    simpa using h1
  have bel2 : Below w.heap.size w w2 := by
    rw [hw2]
    exact ((Below.refl _ w).alloc (Nat.le_refl _) _).alloc (by simp) _
  have hB : Bld (w.heap.size + 1) 0 w2 w2 none 0 [] [] := ⟨hb1, Own2.nil _ _, Below.refl _ _⟩
  have HB0 := Lib.hid hb0
  have HBEL := Lib.hid bel2
  have HB := Lib.hid hB
  clear hb0 hb1 bel2 hB
  go_enter Try.func96, Try.ntmps96
  go_wp2_with fail
  rw [← hw2]
  have HW2 := Lib.hid hw2
  clear hw2
  go_wp2_with fail
  go_loopw [4, 5, 6] (fun x _ _ wr => ∃ k : Nat, k ≤ n ∧ x = .int .i64 k ∧ ∃ A c L, Hid (Bld (w.heap.size + 1) k w2 wr A c L ((gridOf n n (cycF n)).take k))) (fun x _ _ _ => n - (intOf x).toNat)
  case atStart => exact ⟨0, by omega, rfl, none, 0, [], HB⟩
  case round =>
    obtain ⟨k, hk, rfl, A, c, L, hbd⟩ := hrel
    obtain ⟨W, hW⟩ : ∃ W, W = wr := ⟨_, rfl⟩
    rw [← hW] at hbd ⊢
    clear hW
    by_cases hlt : k < n
    · go_wp2_with fail
      go_loopw [5, 6] (fun v y  wq => ∃ j : Nat, j ≤ n ∧ y = .int .i64 j ∧ (∃ A' c', v = .slice A' j c') ∧ Hid (wq.ownsRow W.heap.size 2 1 v j (cells64 ((rowOf n (cycF n) k).take j))) ∧ Below W.heap.size W wq) (fun _ y  _ => n - (intOf y).toNat)
      case atStart => exact ⟨0, by omega, rfl, ⟨_, _, rfl⟩, Lib.hid (World.ownsRow_lit (size := 1) W #[] 0 (Nat.le_refl _) (by unfold maxLen; omega) rfl), (Below.refl _ _).alloc (Nat.le_refl _) _⟩
      case round =>
        obtain ⟨j, hj, rfl, ⟨A', c', rfl⟩, hown, hbq⟩ := hrel
        obtain ⟨wq, hwq⟩ : ∃ wq, wq = wr := ⟨_, rfl⟩
        rw [← hwq] at hown hbq ⊢
        clear hwq
        have hsq := hbq.size
        by_cases hjn : j < n
        · have HD : Hid (cells64 ((rowOf n (cycF n) k).take j) ++ [.int .i64 (cycF n k j : Int)] = cells64 ((rowOf n (cycF n) k).take (j + 1))) := Lib.hid (by
            rw [List.take_add_one, row_cell hjn]; simp [cells64])
          have hown2 := hown.out
          obtain ⟨cs, hcs⟩ : ∃ cs, cs = cells64 ((rowOf n (cycF n) k).take j) := ⟨_, rfl⟩
          rw [← hcs] at hown2 HD
          clear hcs
          obtain ⟨V, hV⟩ : ∃ V, V = cycF n k j := ⟨_, rfl⟩
          rw [← hV] at HD
          have hVI : ((k : Int) + (j : Int)).tmod (n : Int) = (V : Int) := by rw [hV]; rfl
          have hn0 : ¬ (n : Int) = 0 := by omega
          clear hV
          go_wp2_with (at_builtin; refine wpList_append_own _ rfl _ _ 34 rfl W.heap.size 2 ii (.int .i64 0) 1 8 Try.underlying34 hiin hiz0 hiz1 hiz2 rfl (by decide) _ _ _ rfl (hown2.alloc _) ⟨wq.heap.size, 0, none⟩ 1 1 [.int .i64 (V : Int)] rfl rfl (cell_oneG _ _ _) (fun u hu => by simp at hu; subst hu; rfl) ?c1 ?c2 ?c3 ?_)
          case c1 => unfold maxLen; omega
          case c2 => omega
          case c3 => simp; omega
          intro v3 w3 ho3 hg3 _
          have hbw3 : Below W.heap.size W w3 := Below.grown (hbq.alloc (by omega) _) hg3 (by simp; omega) (fun q hq => (hown2.lt q hq).1)
          rw [HD.out] at ho3
          obtain ⟨A3, c3, rfl⟩ := slice_atJ ho3
          have HO := Lib.hid ho3
          clear ho3 hg3
          go_wp2_with fail
          go_roundw
          case rel => exact ⟨j + 1, by omega, by go_num, ⟨A3, c3, rfl⟩, HO, hbw3⟩
          case measure => simp [intOf]; omega

        · obtain rfl : n = j := by omega
          have hrow : Own W.heap.size wq A' (n) c' (rowOf n (cycF n) k) := by
            refine ⟨?_, fun z hz => ?_⟩
            · have h4 := hown.out
              rw [List.take_of_length_le (by rw [row_len]; exact Nat.le_refl _)] at h4
              exact h4
            · unfold rowOf at hz
              obtain ⟨y, _, rfl⟩ := List.mem_map.1 hz
              exact wf_small (by have := cycF_lt hn1 k y; omega)
          have hf1 := (hbd.out.at_ hbq).fld
          have q1 : wq.cell? ⟨w.heap.size + 1, 0, none⟩ = some (.slice A k c) := hf1.cell 0
          have howq := (hbd.out.at_ hbq).own
          have HN := Lib.hid (fun A3 c3 w3 o ho3 hg3 => hbd.out.next (A3 := A3) (c3 := c3) (w3 := w3) (o := o) hbq hrow ho3 hg3)
          have hkl : L.length = k := by have := hbd.out.own.n_eq; omega
          have hgW : w.heap.size + 1 < W.heap.size := hbd.out.fld.lt
          clear hrow hf1
          go_wp2_with (at_builtin; refine wpList_append_own _ rfl _ _ 24 rfl (w.heap.size + 1 + 1) 34 i0 (.slice none 0 0) 1 24 Try.underlying24 hin hz0 hz1 hz2 rfl (by decide) _ _ _ rfl (howq.outer.alloc _) ⟨wq.heap.size, 0, none⟩ 1 1 [.slice A' (n) c'] rfl rfl (cell_oneG _ _ _) (fun u hu => by simp at hu; subst hu; rfl) ?c1 ?c2 ?c3 ?_)
          case c1 => unfold maxLen; omega
          case c2 => omega
          case c3 => simp; omega
          intro v3 w3 ho3 hg3 _
          obtain ⟨A3, c3, rfl⟩ := slice_atG ho3
          have HX := HN.out A3 c3 w3 _ ho3 hg3
          have q2 := HX.1.cell 0
          have q3 := HX.1.frozen 0
          have HX2 := Lib.hid HX.2
          have hgz : Hid ((gridOf n n (cycF n)).take k ++ [rowOf n (cycF n) k] = (gridOf n n (cycF n)).take (k + 1)) := Lib.hid (by
            rw [List.take_add_one, grid_row hlt]; simp)
          clear HN HX ho3 hg3 q1 howq
          go_wp2_with fail
          go_roundw
          case rel => exact ⟨k + 1, by omega, by go_num, A3, c3, _, Lib.hid (by have h5 := HX2.out; rw [hgz.out] at h5; exact h5)⟩
          case measure => simp [intOf]; omega
    · obtain rfl : n = k := by omega
      have hb0w : Blk W w.heap.size #[nilV] 26 := HB0.out.below hbd.out.bel (by omega)
      have q1 : W.cell? ⟨w.heap.size + 1, 0, none⟩ = some (.slice A (n) c) := hbd.out.fld.cell 0
      have q0 := hb0w.cell 0
      have f0 := hb0w.frozen 0
      obtain ⟨w9, hw9⟩ : ∃ w9, w9 = W.setCell ⟨w.heap.size, 0, none⟩ (.slice A (n) c) := ⟨_, rfl⟩
      have hb9 := hb0w.set 0 (.slice A (n) c)
      rw [← hw9] at hb9
      have q9 : w9.cell? ⟨w.heap.size, 0, none⟩ = some (.slice A (n) c) := by have := hb9.cell 0; simpa using this
      have hlen : (gridOf n n (cycF n)).length = n := grid_len _ _ _
      have hown9 : Own2 w.heap.size w9 A (n) c L (gridOf n n (cycF n)) := by
        have h6 := hbd.out.own
        rw [List.take_of_length_le (by rw [hlen]; exact Nat.le_refl _)] at h6
        rw [hw9]
        exact (h6.keepL (fun q hq => Below.heap_setCell W ⟨w.heap.size, 0, none⟩ _ q (by have := h6.ofrom q hq; show q ≠ w.heap.size; omega)) (fun t ht q hq => Below.heap_setCell W ⟨w.heap.size, 0, none⟩ _ q (by have := h6.from t ht q hq; show q ≠ w.heap.size; omega))).lower (by omega)
      have bel9 : Below w.heap.size w w9 := by
        rw [hw9]
        exact ((HBEL.out).trans (hbd.out.bel.mono (by omega))).setCell (Nat.le_refl _) _
      have HO9 := Lib.hid hown9
      have HB9 := Lib.hid bel9
      clear hb0w hb9 hown9 bel9
      go_wp2_with fail
      rw [← hw9]
      refine bodyPost_ret (v := gpV ⟨gridOf n n (cycF n)⟩ A (n) c) (by simp [results, Try.results96, go_sem, q9]) rfl ?_
      refine ⟨A, c, L, ?_, ?_, HB9.out⟩
      · show Ending.returned (gpV _ A (n) c) = Ending.returned (gpV _ A ((gridOf n n (cycF n)).length) c)
        rw [hlen]
      · show Own2 w.heap.size w9 A ((gridOf n n (cycF n)).length) c L (gridOf n n (cycF n))
        rw [hlen]; exact HO9.out
end Go.Proofs.Yteggllmiapdmcaa
