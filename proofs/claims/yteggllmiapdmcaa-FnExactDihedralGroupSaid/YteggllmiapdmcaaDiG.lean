/-
  The dihedral group, as the model makes it.
-/
import Derived.Test.YteggllmiapdmcaaCyI
import Derived.Test.YteggllmiapdmcaaRem
namespace Go.Proofs.Yteggllmiapdmcaa
open Go.RowKit

def dihF (n x y : Nat) : Nat := if x < n ∧ y < n then (x + y) % n else if x < n then n + (x + y) % n else if y < n then n + (x + n - y) % n else (x + n - y) % n
theorem dihF_lt {n : Nat} (h : 1 ≤ n) (x y : Nat) : dihF n x y < 2 * n := by
  have h1 := Nat.mod_lt (x + y) (show n > 0 by omega)
  have h2 := Nat.mod_lt (x + n - y) (show n > 0 by omega)
  unfold dihF
  split
  · omega
  · split
    · omega
    · split <;> omega
theorem modZ_emod (a m : Int) (h : 1 ≤ m) : modZ a m = a % m := by
  have hb := tmod_bd a m h
  have ht : a % m = a.tmod m % m := by
    have h2 := Int.mul_tdiv_add_tmod a m
    have h3 : a % m = (m * a.tdiv m + a.tmod m) % m := by rw [h2]
    rw [h3, Int.mul_add_emod_self_left]
  unfold modZ
  split
  · rw [ht, ← Int.add_emod_right, Int.emod_eq_of_lt (by omega) (by omega)]
  · rw [ht, Int.emod_eq_of_lt (by omega) (by omega)]
theorem modZ_dih {a : Int} {n m : Nat} {q : Int} (h : 1 ≤ n) (ha : a + q * n = m) : modZ a (n : Int) = ((m % n : Nat) : Int) := by
  rw [modZ_emod a n (by omega)]
  have h1 : a % (n : Int) = (a + q * n) % (n : Int) := by rw [Int.add_mul_emod_self_right]
  rw [h1, ha]
  rfl
set_option maxRecDepth 100000 in
set_option maxHeartbeats 4000000 in
theorem l05Dihedral_any (n N : Nat) (w : World) (hN : N = 2 * n) (hn1 : 1 ≤ n) (hn : N ≤ 10) :
    Calls Try.prog 99 #[.int .i64 n] w (MadeGp w.heap.size ⟨gridOf N N (dihF n)⟩ w) := by
  obtain ⟨i0, hin, hz0, hz1, hz2⟩ := info_parts infoS
  obtain ⟨ii, hiin, hiz0, hiz1, hiz2⟩ := info_parts info64
  have h2n : (2 : Int) * (n : Int) = (N : Int) := by omega
  have hNa : N ≤ 2 * n := by omega
  have hNb : 2 * n ≤ N := by omega
  clear hN
  obtain ⟨w2, hw2⟩ : ∃ w2, w2 = (w.alloc (.cells #[nilV] 26)).alloc (.cells #[nilV] 26) := ⟨_, rfl⟩
  have hb0 : Blk w2 w.heap.size #[nilV] 26 := by
    rw [hw2]
    exact (Blk.new _ _ _).alloc _
  have hb1 : Blk w2 (w.heap.size + 1) #[nilV] 26 := by
    rw [hw2]
    have h1 := Blk.new (w.alloc (.cells #[nilV] 26)) #[nilV] 26
    simpa using h1
  have bel2 : Below w.heap.size w w2 := by
    rw [hw2]
    exact ((Below.refl _ w).alloc (Nat.le_refl _) _).alloc (by simp) _
  have hB : Bld (w.heap.size + 1) 0 w2 w2 none 0 [] [] := ⟨hb1, Own2.nil _ _, Below.refl _ _⟩
  have HB0 := Lib.hid hb0
  have HBEL := Lib.hid bel2
  have HB := Lib.hid hB
  clear hb0 hb1 bel2 hB
  go_enter Try.func99, Try.ntmps99
  go_wp2_with fail
  rw [← hw2]
  have HW2 := Lib.hid hw2
  clear hw2
  go_wp2_with fail
  go_loopw [4, 5, 6, 29, 46, 62] (fun x _ _ _ _ _ wr => ∃ k : Nat, k ≤ N ∧ x = .int .i64 k ∧ ∃ A c L, Hid (Bld (w.heap.size + 1) k w2 wr A c L ((gridOf N N (dihF n)).take k))) (fun x _ _ _ _ _ _ => N - (intOf x).toNat)
  case atStart => exact ⟨0, by omega, rfl, none, 0, [], HB⟩
  case round =>
    obtain ⟨k, hk, rfl, A, c, L, hbd⟩ := hrel
    obtain ⟨W, hW⟩ : ∃ W, W = wr := ⟨_, rfl⟩
    rw [← hW] at hbd ⊢
    clear hW
    by_cases hlt : k < N
    · go_wp2_with fail
      go_loopw [5, 6, 29, 46, 62] (fun v y _ _ _ wq => ∃ j : Nat, j ≤ N ∧ y = .int .i64 j ∧ (∃ A' c', v = .slice A' j c') ∧ Hid (wq.ownsRow W.heap.size 2 1 v j (cells64 ((rowOf N (dihF n) k).take j))) ∧ Below W.heap.size W wq) (fun _ y _ _ _ _ => N - (intOf y).toNat)
      case atStart => exact ⟨0, by omega, rfl, ⟨_, _, rfl⟩, Lib.hid (World.ownsRow_lit (size := 1) W #[] 0 (Nat.le_refl _) (by unfold maxLen; omega) rfl), (Below.refl _ _).alloc (Nat.le_refl _) _⟩
      case round =>
        obtain ⟨j, hj, rfl, ⟨A', c', rfl⟩, hown, hbq⟩ := hrel
        obtain ⟨wq, hwq⟩ : ∃ wq, wq = wr := ⟨_, rfl⟩
        rw [← hwq] at hown hbq ⊢
        clear hwq
        have hsq := hbq.size
        by_cases hjn : j < N
        · have HD : Hid (cells64 ((rowOf N (dihF n) k).take j) ++ [.int .i64 (dihF n k j : Int)] = cells64 ((rowOf N (dihF n) k).take (j + 1))) := Lib.hid (by
            rw [List.take_add_one, row_cell hjn]; simp [cells64])
          have hown2 := hown.out
          obtain ⟨cs, hcs⟩ : ∃ cs, cs = cells64 ((rowOf N (dihF n) k).take j) := ⟨_, rfl⟩
          rw [← hcs] at hown2 HD
          clear hcs
          obtain ⟨V, hV⟩ : ∃ V, V = dihF n k j := ⟨_, rfl⟩
          rw [← hV] at HD
          have hn0 : ¬ (n : Int) = 0 := by omega
          have hFk : dihF n k j = V := hV.symm
          unfold dihF at hFk
          clear hV
          by_cases hx : k < n
          · by_cases hy : j < n
            · rw [if_pos ⟨hx, hy⟩] at hFk
              have hVI : ((k : Int) + (j : Int)).tmod (n : Int) = (V : Int) := by rw [← hFk]; rfl
              clear hFk
              go_wp2_with (at_builtin; refine wpList_append_own _ rfl _ _ 34 rfl W.heap.size 2 ii (.int .i64 0) 1 8 Try.underlying34 hiin hiz0 hiz1 hiz2 rfl (by decide) _ _ _ rfl (hown2.alloc _) ⟨wq.heap.size, 0, none⟩ 1 1 [.int .i64 (V : Int)] rfl rfl (cell_oneG _ _ _) (fun u hu => by simp at hu; subst hu; rfl) ?c1 ?c2 ?c3 ?_)
              case c1 => unfold maxLen; omega
              case c2 => omega
              case c3 => simp; omega
              intro v3 w3 ho3 hg3 _
              have hbw3 : Below W.heap.size W w3 := Below.grown (hbq.alloc (by omega) _) hg3 (by simp; omega) (fun q hq => (hown2.lt q hq).1)
              rw [HD.out] at ho3
              obtain ⟨A3, c3, rfl⟩ := slice_atJ ho3
              have HO := Lib.hid ho3
              clear ho3 hg3
              go_wp2_with fail
              go_roundw
              case rel => exact ⟨j + 1, by omega, by go_num, ⟨A3, c3, rfl⟩, HO, hbw3⟩
              case measure => simp [intOf]; omega
            · rw [if_neg (by omega), if_pos hx] at hFk
              obtain ⟨U, hU⟩ : ∃ U, U = (k + j) % n := ⟨_, rfl⟩
              have hUI : ((k : Int) + (j : Int) - (n : Int)).tmod (n : Int) = (U : Int) := by
                rw [show (k : Int) + (j : Int) - (n : Int) = ((k + j - n : Nat) : Int) by omega]
                show (((k + j - n) % n : Nat) : Int) = _
                rw [hU, show k + j = (k + j - n) + n by omega, Nat.add_mod_right]
                congr 2; omega
              have hVU : (n : Int) + (U : Int) = (V : Int) := by rw [← hFk, hU]; omega
              have hUl : U < n := by rw [hU]; exact Nat.mod_lt _ (by omega)
              clear hFk hU
              go_wp2_with (at_builtin; refine wpList_append_own _ rfl _ _ 34 rfl W.heap.size 2 ii (.int .i64 0) 1 8 Try.underlying34 hiin hiz0 hiz1 hiz2 rfl (by decide) _ _ _ rfl (hown2.alloc _) ⟨wq.heap.size, 0, none⟩ 1 1 [.int .i64 (V : Int)] rfl rfl (cell_oneG _ _ _) (fun u hu => by simp at hu; subst hu; rfl) ?c1 ?c2 ?c3 ?_)
              case c1 => unfold maxLen; omega
              case c2 => omega
              case c3 => simp; omega
              intro v3 w3 ho3 hg3 _
              have hbw3 : Below W.heap.size W w3 := Below.grown (hbq.alloc (by omega) _) hg3 (by simp; omega) (fun q hq => (hown2.lt q hq).1)
              rw [HD.out] at ho3
              obtain ⟨A3, c3, rfl⟩ := slice_atJ ho3
              have HO := Lib.hid ho3
              clear ho3 hg3
              go_wp2_with fail
              go_roundw
              case rel => exact ⟨j + 1, by omega, by go_num, ⟨A3, c3, rfl⟩, HO, hbw3⟩
              case measure => simp [intOf]; omega
          · by_cases hy : j < n
            · rw [if_neg (by omega), if_neg hx, if_pos hy] at hFk
              have CM : ∀ W, Calls Try.prog 138 #[.int .i64 ((k : Int) - (n : Int) - (j : Int)), .int .i64 n] W fun e w' => e = .returned (.int .i64 (((k + n - j) % n : Nat) : Int)) ∧ W = w' := fun W => by
                rw [← modZ_dih (a := (k : Int) - (n : Int) - (j : Int)) (m := k + n - j) (q := 2) hn1 (by omega)]
                exact l01Mod_any _ _ W (by omega) (by omega)
              have hUl : (k + n - j) % n < n := Nat.mod_lt _ (by omega)
              generalize (k + n - j) % n = U at CM hFk hUl
              have hVU : (n : Int) + (U : Int) = (V : Int) := by rw [← hFk]; omega
              clear hFk
              go_wp2_with fail
              (go_at_call 138; (with_reducible refine (CM _).mono ?_); rintro e w' ⟨rfl, rfl⟩)
              go_wp2_with (at_builtin; refine wpList_append_own _ rfl _ _ 34 rfl W.heap.size 2 ii (.int .i64 0) 1 8 Try.underlying34 hiin hiz0 hiz1 hiz2 rfl (by decide) _ _ _ rfl (hown2.alloc _) ⟨wq.heap.size, 0, none⟩ 1 1 [.int .i64 (V : Int)] rfl rfl (cell_oneG _ _ _) (fun u hu => by simp at hu; subst hu; rfl) ?c1 ?c2 ?c3 ?_)
              case c1 => unfold maxLen; omega
              case c2 => omega
              case c3 => simp; omega
              intro v3 w3 ho3 hg3 _
              have hbw3 : Below W.heap.size W w3 := Below.grown (hbq.alloc (by omega) _) hg3 (by simp; omega) (fun q hq => (hown2.lt q hq).1)
              rw [HD.out] at ho3
              obtain ⟨A3, c3, rfl⟩ := slice_atJ ho3
              have HO := Lib.hid ho3
              clear ho3 hg3
              go_wp2_with fail
              go_roundw
              case rel => exact ⟨j + 1, by omega, by go_num, ⟨A3, c3, rfl⟩, HO, hbw3⟩
              case measure => simp [intOf]; omega
            · rw [if_neg (by omega), if_neg hx, if_neg hy] at hFk
              have CM : ∀ W, Calls Try.prog 138 #[.int .i64 ((k : Int) - (j : Int)), .int .i64 n] W fun e w' => e = .returned (.int .i64 (V : Int)) ∧ W = w' := fun W => by
                rw [← hFk, ← modZ_dih (a := (k : Int) - (j : Int)) (m := k + n - j) (q := 1) hn1 (by omega)]
                exact l01Mod_any _ _ W (by omega) (by omega)
              have hUl : V < n := by rw [← hFk]; exact Nat.mod_lt _ (by omega)
              clear hFk
              go_wp2_with fail
              (go_at_call 138; (with_reducible refine (CM _).mono ?_); rintro e w' ⟨rfl, rfl⟩)
              go_wp2_with (at_builtin; refine wpList_append_own _ rfl _ _ 34 rfl W.heap.size 2 ii (.int .i64 0) 1 8 Try.underlying34 hiin hiz0 hiz1 hiz2 rfl (by decide) _ _ _ rfl (hown2.alloc _) ⟨wq.heap.size, 0, none⟩ 1 1 [.int .i64 (V : Int)] rfl rfl (cell_oneG _ _ _) (fun u hu => by simp at hu; subst hu; rfl) ?c1 ?c2 ?c3 ?_)
              case c1 => unfold maxLen; omega
              case c2 => omega
              case c3 => simp; omega
              intro v3 w3 ho3 hg3 _
              have hbw3 : Below W.heap.size W w3 := Below.grown (hbq.alloc (by omega) _) hg3 (by simp; omega) (fun q hq => (hown2.lt q hq).1)
              rw [HD.out] at ho3
              obtain ⟨A3, c3, rfl⟩ := slice_atJ ho3
              have HO := Lib.hid ho3
              clear ho3 hg3
              go_wp2_with fail
              go_roundw
              case rel => exact ⟨j + 1, by omega, by go_num, ⟨A3, c3, rfl⟩, HO, hbw3⟩
              case measure => simp [intOf]; omega

        · obtain rfl : N = j := by omega
          have hrow : Own W.heap.size wq A' (N) c' (rowOf N (dihF n) k) := by
            refine ⟨?_, fun z hz => ?_⟩
            · have h4 := hown.out
              rw [List.take_of_length_le (by rw [row_len]; exact Nat.le_refl _)] at h4
              exact h4
            · unfold rowOf at hz
              obtain ⟨y, _, rfl⟩ := List.mem_map.1 hz
              exact wf_small (by have := dihF_lt hn1 k y; omega)
          have hf1 := (hbd.out.at_ hbq).fld
          have q1 : wq.cell? ⟨w.heap.size + 1, 0, none⟩ = some (.slice A k c) := hf1.cell 0
          have howq := (hbd.out.at_ hbq).own
          have HN := Lib.hid (fun A3 c3 w3 o ho3 hg3 => hbd.out.next (A3 := A3) (c3 := c3) (w3 := w3) (o := o) hbq hrow ho3 hg3)
          have hkl : L.length = k := by have := hbd.out.own.n_eq; omega
          have hgW : w.heap.size + 1 < W.heap.size := hbd.out.fld.lt
          clear hrow hf1
          go_wp2_with (at_builtin; refine wpList_append_own _ rfl _ _ 24 rfl (w.heap.size + 1 + 1) 34 i0 (.slice none 0 0) 1 24 Try.underlying24 hin hz0 hz1 hz2 rfl (by decide) _ _ _ rfl (howq.outer.alloc _) ⟨wq.heap.size, 0, none⟩ 1 1 [.slice A' (N) c'] rfl rfl (cell_oneG _ _ _) (fun u hu => by simp at hu; subst hu; rfl) ?c1 ?c2 ?c3 ?_)
          case c1 => unfold maxLen; omega
          case c2 => omega
          case c3 => simp; omega
          intro v3 w3 ho3 hg3 _
          obtain ⟨A3, c3, rfl⟩ := slice_atG ho3
          have HX := HN.out A3 c3 w3 _ ho3 hg3
          have q2 := HX.1.cell 0
          have q3 := HX.1.frozen 0
          have HX2 := Lib.hid HX.2
          have hgz : Hid ((gridOf N N (dihF n)).take k ++ [rowOf N (dihF n) k] = (gridOf N N (dihF n)).take (k + 1)) := Lib.hid (by
            rw [List.take_add_one, grid_row hlt]; simp)
          clear HN HX ho3 hg3 q1 howq
          go_wp2_with fail
          go_roundw
          case rel => exact ⟨k + 1, by omega, by go_num, A3, c3, _, Lib.hid (by have h5 := HX2.out; rw [hgz.out] at h5; exact h5)⟩
          case measure => simp [intOf]; omega
    · obtain rfl : N = k := by omega
      have hb0w : Blk W w.heap.size #[nilV] 26 := HB0.out.below hbd.out.bel (by omega)
      have q1 : W.cell? ⟨w.heap.size + 1, 0, none⟩ = some (.slice A (N) c) := hbd.out.fld.cell 0
      have q0 := hb0w.cell 0
      have f0 := hb0w.frozen 0
      obtain ⟨w9, hw9⟩ : ∃ w9, w9 = W.setCell ⟨w.heap.size, 0, none⟩ (.slice A (N) c) := ⟨_, rfl⟩
      have hb9 := hb0w.set 0 (.slice A (N) c)
      rw [← hw9] at hb9
      have q9 : w9.cell? ⟨w.heap.size, 0, none⟩ = some (.slice A (N) c) := by have := hb9.cell 0; simpa using this
      have hlen : (gridOf N N (dihF n)).length = N := grid_len _ _ _
      have hown9 : Own2 w.heap.size w9 A (N) c L (gridOf N N (dihF n)) := by
        have h6 := hbd.out.own
        rw [List.take_of_length_le (by rw [hlen]; exact Nat.le_refl _)] at h6
        rw [hw9]
        exact (h6.keepL (fun q hq => Below.heap_setCell W ⟨w.heap.size, 0, none⟩ _ q (by have := h6.ofrom q hq; show q ≠ w.heap.size; omega)) (fun t ht q hq => Below.heap_setCell W ⟨w.heap.size, 0, none⟩ _ q (by have := h6.from t ht q hq; show q ≠ w.heap.size; omega))).lower (by omega)
      have bel9 : Below w.heap.size w w9 := by
        rw [hw9]
        exact ((HBEL.out).trans (hbd.out.bel.mono (by omega))).setCell (Nat.le_refl _) _
      have HO9 := Lib.hid hown9
      have HB9 := Lib.hid bel9
      clear hb0w hb9 hown9 bel9
      go_wp2_with fail
      rw [← hw9]
      refine bodyPost_ret (v := gpV ⟨gridOf N N (dihF n)⟩ A (N) c) (by simp [results, Try.results99, go_sem, q9]) rfl ?_
      refine ⟨A, c, L, ?_, ?_, HB9.out⟩
      · show Ending.returned (gpV _ A (N) c) = Ending.returned (gpV _ A ((gridOf N N (dihF n)).length) c)
        rw [hlen]
      · show Own2 w.heap.size w9 A ((gridOf N N (dihF n)).length) c L (gridOf N N (dihF n))
        rw [hlen]; exact HO9.out
end Go.Proofs.Yteggllmiapdmcaa
