/-
  Pairs that clash, counted by the program.
-/
import Derived.Test.YtiokcflomchdcaaSwS
import Derived.Test.YtiokcflomchdcaaQI
import Derived.Test.YtiokcflomchdcaaBlk
namespace Go.Proofs.Ytiokcflomchdcaa
open Go.RowKit

theorem row_lies {B n : Nat} {A : Option Addr} {t : List (List Int)} {w : World} (h : Rows2 B w A n t) (ht : tabOk n n t = true) {x : Nat} (hx : x < n) :
    ∃ b o b2 o2 c2, A = some ⟨b, o, none⟩ ∧ b < B ∧ w.cell? ⟨b, o + x, none⟩ = some (.slice (some ⟨b2, o2, none⟩) n c2) ∧ n ≤ c2 ∧ b2 < B ∧ ∀ y, y < n → w.cell? ⟨b2, o2 + y, none⟩ = some (.int .i64 (cellZ t x y : Int)) := by
  obtain ⟨b, o, b2, o2, c2, rfl, hb, hc, hn, hb2, _⟩ := cell_lies h ht hx (show 0 < n by omega)
  refine ⟨b, o, b2, o2, c2, rfl, hb, hc, hn, hb2, fun y hy => ?_⟩
  obtain ⟨b', o', b3, o3, c3, e2, _, hc3, _, _, hc4⟩ := cell_lies h ht hx hy
  injection e2 with e2
  injection e2 with e2 e3 _
  subst e2; subst e3
  rw [hc] at hc3
  injection hc3 with hc3
  injection hc3 with hc3 _ _
  injection hc3 with hc3
  injection hc3 with h1 h2 _
  subst h1; subst h2
  exact hc4

set_option maxRecDepth 100000 in
set_option maxHeartbeats 2000000 in
theorem swapClo_any {B g : Nat} (A : Option Addr) (n c : Nat) (t : List (List Int)) (x y : Nat) (w : World) (hg : w.cell? ⟨g, 0, none⟩ = some (.slice A n c)) (h : Rows2 B w A n t) (ht : tabOk n n t = true) (hx : x < n) (hy : y < n) :
    Calls Try.prog 128 #[.int .i64 x, .int .i64 y, .pointer (some ⟨g, 0, none⟩)] w fun e w' => e = .returned (.bool (swapC t x y)) ∧ ∃ m, w' = w.drewN m := by
  have hle := h.le
  obtain ⟨b, o, b2, o2, c2, e1, _, hc1, _, _, hc2⟩ := cell_lies h ht hx hy
  subst e1
  obtain ⟨b', o', b3, o3, c3, e2, _, hc3, _, _, hc4⟩ := cell_lies h ht hy hx
  injection e2 with e2
  injection e2 with e2 e3 _
  subst e2; subst e3
  have hFe : swapC t x y = decide (cellZ t x y = cellZ t y x) := rfl
  obtain ⟨za, hza⟩ : ∃ za, za = cellZ t x y := ⟨_, rfl⟩
  obtain ⟨zb, hzb⟩ : ∃ zb, zb = cellZ t y x := ⟨_, rfl⟩
  rw [← hza, ← hzb] at hFe
  rw [← hza] at hc2
  rw [← hzb] at hc4
  clear hza hzb h
  have HF := Lib.hid hFe
  clear hFe
  by_cases he : za = zb
  · subst he
    go_enter Try.func128, Try.ntmps128
    go_wp2
    go_quiet (fail)
    go_wp2
    go_ret
    exact ⟨ret_bool (by rw [HF.out]; simp), _, rfl⟩
  · have g1 : ((za : Int) == (zb : Int)) = false := by simp; omega
    go_enter Try.func128, Try.ntmps128
    go_wp2
    go_quiet (fail)
    go_wp2
    go_ret
    exact ⟨ret_bool (by rw [HF.out]; simp [he]), _, rfl⟩

set_option maxRecDepth 100000 in
set_option maxHeartbeats 2000000 in
theorem countSwaps_any (n : Nat) (F : Nat → Nat → Bool) (cap : Value) (w : World) (hn : n ≤ 36)
    (hC : ∀ m x y, x < n → y < n → Calls Try.prog 128 #[.int .i64 (x : Nat), .int .i64 (y : Nat), cap] (w.drewN m) fun e w' => e = .returned (.bool (F x y)) ∧ ∃ m', w' = w.drewN m') :
    Calls Try.prog 127 #[.int .i64 n, .func (.func 128) #[] #[cap]] w fun e w' => e = .returned (.int .i64 (pairsY F n : Int)) ∧ ∃ m, w' = w.drewN m := by
  have HC := Lib.hid hC
  clear hC
  go_enter Try.func127, Try.ntmps127
  go_wp2
  go_loopw [5, 6, 7, 9] (fun o _ _ y wr => ∃ k : Nat, k ≤ n ∧ y = .int .i64 k ∧ o = .int .i64 ((sumN (fun y => sumN (fun x => b1 (F x y)) y) k : Nat) : Int) ∧ ∃ m, wr = w.drewN m) (fun _ _ _ y _ => n - (intOf y).toNat)
  case atStart => exact ⟨0, by omega, rfl, rfl, 0, rfl⟩
  case round =>
    obtain ⟨k, hk, rfl, rfl, m, rfl⟩ := hrel
    by_cases hlt : k < n
    · obtain ⟨S, hS⟩ : ∃ S, S = sumN (fun y => sumN (fun x => b1 (F x y)) y) k := ⟨_, rfl⟩
      rw [← hS]
      have HS := Lib.hid hS
      clear hS
      go_wp2
      go_loopw [5, 7, 13] (fun o _ x wq => ∃ j : Nat, j ≤ k ∧ x = .int .i64 j ∧ o = .int .i64 ((S + sumN (fun x => b1 (F x k)) j : Nat) : Int) ∧ ∃ m, wq = w.drewN m) (fun _ _ x _ => k - (intOf x).toNat)
      case atStart => exact ⟨0, by omega, rfl, rfl, m, rfl⟩
      case round =>
        obtain ⟨j, hj, rfl, rfl, m2, rfl⟩ := hrel
        by_cases hjn : j < k
        · have hpl := partY_le F hn (show j ≤ k by omega) (show k ≤ n by omega)
          rw [← HS.out] at hpl
          obtain ⟨T, hT⟩ : ∃ T, T = S + sumN (fun x => b1 (F x k)) j := ⟨_, rfl⟩
          have hnx : Hid (S + sumN (fun x => b1 (F x k)) (j + 1) = T + b1 (F j k)) := Lib.hid (by rw [sumN_succ, hT]; omega)
          rw [← hT] at hpl ⊢
          clear hT
          have C1 := HC.out m2 j k (by omega) hlt
          rcases hf : F j k with _ | _
          · rw [hf] at C1 hnx
            rw [b1_false] at hnx
            clear hf
            go_wp2_with (go_at_call 128; (with_reducible refine (C1).mono ?_); rintro e w' ⟨rfl, m3, rfl⟩)
            go_roundw
            case rel => exact ⟨j + 1, by omega, by go_num, by rw [hnx.out]; go_num, m3, rfl⟩
            case measure => simp [intOf]; omega
          · rw [hf] at C1 hnx
            rw [b1_true] at hnx
            clear hf
            go_wp2_with (go_at_call 128; (with_reducible refine (C1).mono ?_); rintro e w' ⟨rfl, m3, rfl⟩)
            go_roundw
            case rel => exact ⟨j + 1, by omega, by go_num, by rw [hnx.out]; go_num, m3, rfl⟩
            case measure => simp [intOf]; omega
        · obtain rfl : k = j := by omega
          go_wp2
          go_roundw
          case rel => exact ⟨k + 1, by omega, by go_num, by rw [sumN_succ, HS.out], m2, rfl⟩
          case measure => simp [intOf]; omega
    · obtain rfl : n = k := by omega
      go_wp2
      go_ret
      exact ⟨rfl, m, rfl⟩

set_option maxHeartbeats 2000000 in
theorem implSwaps_any {B : Nat} (A : Option Addr) (n c : Nat) (t : List (List Int)) (w : World) (h : Rows2 B w A n t) (hB : B ≤ w.heap.size) (ht : tabOk n n t = true) (hn : n ≤ 36) :
    Calls Try.prog 74 #[.slice A n c] w fun e w' => e = .returned (.int .i64 (swapsQ t : Int)) ∧ Below w.heap.size w w' := by
  have hl := h.len
  have hle := h.le
  obtain ⟨w1, hw1⟩ : ∃ w1, w1 = w.alloc (.cells #[.slice A n c] 39) := ⟨_, rfl⟩
  have bel : Below w.heap.size w w1 := by rw [hw1]; exact (Below.refl _ w).alloc (Nat.le_refl _) _
  have hb1 : Blk w1 w.heap.size #[.slice A n c] 39 := by rw [hw1]; exact Blk.new _ _ _
  have c0 := hb1.cell 0
  have hr1 := h.below (bel.mono hB)
  have CC := countSwaps_any n (swapC t) (.pointer (some ⟨w.heap.size, 0, none⟩)) w1 hn (fun m x y hx hy => (swapClo_any A n c t x y (w1.drewN m) c0 (hr1.drewN m) ht hx hy).mono fun e w' ⟨h1, m', h2⟩ => ⟨h1, m + m', by rw [h2, World.drewN_drewN]⟩)
  have HE : Hid (pairsY (swapC t) n = swapsQ t) := Lib.hid (by rw [← pairs_eq]; unfold swapsQ; rw [hl])
  have BEL := Lib.hid bel
  clear bel hb1 hr1 h
  go_enter Try.func74, Try.ntmps74
  go_wp2_with fail
  rw [← hw1]
  have HW1 := Lib.hid hw1
  clear hw1
  go_wp2_with (go_at_call 127; (with_reducible refine (CC).mono ?_); rintro e w' ⟨rfl, m, rfl⟩)
  go_ret
  exact ⟨ret_int (by rw [HE.out]), below_drewN BEL.out m⟩

set_option maxRecDepth 100000 in
set_option maxHeartbeats 4000000 in
theorem chainClo_any {B g g2 b2 o2 c2 : Nat} (A : Option Addr) (n c i : Nat) (t : List (List Int)) (x y : Nat) (w : World) (hg : w.cell? ⟨g, 0, none⟩ = some (.slice A n c)) (hg2 : w.cell? ⟨g2, 0, none⟩ = some (.slice (some ⟨b2, o2, none⟩) n c2)) (h : Rows2 B w A n t) (ht : tabOk n n t = true)
    (hrow : ∀ x, x < n → w.cell? ⟨b2, o2 + x, none⟩ = some (.int .i64 (cellZ t i x : Int))) (hi : i < n) (hx : x < n) (hy : y < n) :
    Calls Try.prog 129 #[.int .i64 x, .int .i64 y, .pointer (some ⟨g, 0, none⟩), .pointer (some ⟨g2, 0, none⟩)] w fun e w' => e = .returned (.bool (chainC t i x y)) ∧ ∃ m, w' = w.drewN m := by
  have hle := h.le
  have l1 := (tabOk_cell ht hi hx).1
  have l2 := (tabOk_cell ht hi hy).1
  have hc2 := hrow x hx
  have hc3 := hrow y hy
  obtain ⟨b, o, b3, o3, c3, e1, _, hc4, _, _, hc5⟩ := cell_lies h ht l1 hy
  subst e1
  obtain ⟨b', o', b4, o4, c4, e2, _, hc6, _, _, hc7⟩ := cell_lies h ht l2 hx
  injection e2 with e2
  injection e2 with e2 e3 _
  subst e2; subst e3
  have hFe : chainC t i x y = decide (cellZ t (cellZ t i x) y = cellZ t (cellZ t i y) x) := rfl
  obtain ⟨xa, hxa⟩ : ∃ xa, xa = cellZ t i x := ⟨_, rfl⟩
  obtain ⟨xb, hxb⟩ : ∃ xb, xb = cellZ t i y := ⟨_, rfl⟩
  rw [← hxa] at hFe hc2 hc4 hc5 l1
  rw [← hxb] at hFe hc3 hc6 hc7 l2
  obtain ⟨za, hza⟩ : ∃ za, za = cellZ t xa y := ⟨_, rfl⟩
  obtain ⟨zb, hzb⟩ : ∃ zb, zb = cellZ t xb x := ⟨_, rfl⟩
  rw [← hza] at hc5 hFe
  rw [← hzb] at hc7 hFe
  clear hza hzb h hxa hxb hrow
  have HF := Lib.hid hFe
  clear hFe
  by_cases he : za = zb
  · subst he
    go_enter Try.func129, Try.ntmps129
    go_wp2
    go_quiet (fail)
    go_wp2
    go_ret
    exact ⟨ret_bool (by rw [HF.out]; simp), _, rfl⟩
  · have g1 : ((za : Int) == (zb : Int)) = false := by simp; omega
    go_enter Try.func129, Try.ntmps129
    go_wp2
    go_quiet (fail)
    go_wp2
    go_ret
    exact ⟨ret_bool (by rw [HF.out]; simp [he]), _, rfl⟩

set_option maxRecDepth 100000 in
set_option maxHeartbeats 2000000 in
theorem countChains_any (n : Nat) (F : Nat → Nat → Bool) (cap cap2 : Value) (w : World) (hn : n ≤ 36)
    (hC : ∀ m x y, x < n → y < n → Calls Try.prog 129 #[.int .i64 (x : Nat), .int .i64 (y : Nat), cap, cap2] (w.drewN m) fun e w' => e = .returned (.bool (F x y)) ∧ ∃ m', w' = w.drewN m') :
    Calls Try.prog 127 #[.int .i64 n, .func (.func 129) #[] #[cap, cap2]] w fun e w' => e = .returned (.int .i64 (pairsY F n : Int)) ∧ ∃ m, w' = w.drewN m := by
  have HC := Lib.hid hC
  clear hC
  go_enter Try.func127, Try.ntmps127
  go_wp2
  go_loopw [5, 6, 7, 9] (fun o _ _ y wr => ∃ k : Nat, k ≤ n ∧ y = .int .i64 k ∧ o = .int .i64 ((sumN (fun y => sumN (fun x => b1 (F x y)) y) k : Nat) : Int) ∧ ∃ m, wr = w.drewN m) (fun _ _ _ y _ => n - (intOf y).toNat)
  case atStart => exact ⟨0, by omega, rfl, rfl, 0, rfl⟩
  case round =>
    obtain ⟨k, hk, rfl, rfl, m, rfl⟩ := hrel
    by_cases hlt : k < n
    · obtain ⟨S, hS⟩ : ∃ S, S = sumN (fun y => sumN (fun x => b1 (F x y)) y) k := ⟨_, rfl⟩
      rw [← hS]
      have HS := Lib.hid hS
      clear hS
      go_wp2
      go_loopw [5, 7, 13] (fun o _ x wq => ∃ j : Nat, j ≤ k ∧ x = .int .i64 j ∧ o = .int .i64 ((S + sumN (fun x => b1 (F x k)) j : Nat) : Int) ∧ ∃ m, wq = w.drewN m) (fun _ _ x _ => k - (intOf x).toNat)
      case atStart => exact ⟨0, by omega, rfl, rfl, m, rfl⟩
      case round =>
        obtain ⟨j, hj, rfl, rfl, m2, rfl⟩ := hrel
        by_cases hjn : j < k
        · have hpl := partY_le F hn (show j ≤ k by omega) (show k ≤ n by omega)
          rw [← HS.out] at hpl
          obtain ⟨T, hT⟩ : ∃ T, T = S + sumN (fun x => b1 (F x k)) j := ⟨_, rfl⟩
          have hnx : Hid (S + sumN (fun x => b1 (F x k)) (j + 1) = T + b1 (F j k)) := Lib.hid (by rw [sumN_succ, hT]; omega)
          rw [← hT] at hpl ⊢
          clear hT
          have C1 := HC.out m2 j k (by omega) hlt
          rcases hf : F j k with _ | _
          · rw [hf] at C1 hnx
            rw [b1_false] at hnx
            clear hf
            go_wp2_with (go_at_call 129; (with_reducible refine (C1).mono ?_); rintro e w' ⟨rfl, m3, rfl⟩)
            go_roundw
            case rel => exact ⟨j + 1, by omega, by go_num, by rw [hnx.out]; go_num, m3, rfl⟩
            case measure => simp [intOf]; omega
          · rw [hf] at C1 hnx
            rw [b1_true] at hnx
            clear hf
            go_wp2_with (go_at_call 129; (with_reducible refine (C1).mono ?_); rintro e w' ⟨rfl, m3, rfl⟩)
            go_roundw
            case rel => exact ⟨j + 1, by omega, by go_num, by rw [hnx.out]; go_num, m3, rfl⟩
            case measure => simp [intOf]; omega
        · obtain rfl : k = j := by omega
          go_wp2
          go_roundw
          case rel => exact ⟨k + 1, by omega, by go_num, by rw [sumN_succ, HS.out], m2, rfl⟩
          case measure => simp [intOf]; omega
    · obtain rfl : n = k := by omega
      go_wp2
      go_ret
      exact ⟨rfl, m, rfl⟩

set_option maxRecDepth 100000 in
set_option maxHeartbeats 4000000 in
theorem implChains_any {B : Nat} (A : Option Addr) (n c : Nat) (t : List (List Int)) (w : World) (h : Rows2 B w A n t) (hB : B ≤ w.heap.size) (ht : tabOk n n t = true) (hn : n ≤ 36) :
    Calls Try.prog 75 #[.slice A n c] w fun e w' => e = .returned (.int .i64 (chainsQ t : Int)) ∧ Below w.heap.size w w' := by
  have hl := h.len
  have hle := h.le
  obtain ⟨w1, hw1⟩ : ∃ w1, w1 = w.alloc (.cells #[.slice A n c] 39) := ⟨_, rfl⟩
  have bel : Below w.heap.size w w1 := by rw [hw1]; exact (Below.refl _ w).alloc (Nat.le_refl _) _
  have hb1 : Blk w1 w.heap.size #[.slice A n c] 39 := by rw [hw1]; exact Blk.new _ _ _
  have c0 := hb1.cell 0
  have hs1 : w1.heap.size = w.heap.size + 1 := by rw [hw1]; simp
  have HE : Hid (chainsQ t = sumN (fun c => pairsY (chainC t c) n) n) := Lib.hid (by unfold chainsQ; rw [hl]; exact sumN_congr n (fun c _ => pairs_eq _ _))
  have BEL := Lib.hid bel
  have HB1 := Lib.hid hb1
  have HR := Lib.hid h
  have HT := Lib.hid ht
  clear bel hb1 h ht
  go_enter Try.func75, Try.ntmps75
  go_wp2_with fail
  rw [← hw1]
  have HW1 := Lib.hid hw1
  clear hw1
  go_wp2_with fail
  go_loopw [3, 5, 8] (fun o _ x wr => ∃ i : Nat, i ≤ n ∧ x = .int .i64 i ∧ o = .int .i64 ((sumN (fun c => pairsY (chainC t c) n) i : Nat) : Int) ∧ Below w1.heap.size w1 wr) (fun _ _ x _ => n - (intOf x).toNat)
  case atStart => exact ⟨0, by omega, rfl, rfl, Below.refl _ _⟩
  case round =>
    obtain ⟨i, hi, rfl, rfl, hb⟩ := hrel
    by_cases hin : i < n
    · have hbw := BEL.out.trans (hb.mono (show w.heap.size ≤ w1.heap.size by omega))
      have hRr := HR.out.below (hbw.mono hB)
      obtain ⟨b, o, b2, o2, c2, e1, _, hc1, _, hb2, hrow⟩ := row_lies hRr HT.out hin
      subst e1
      have c0r : wr.cell? ⟨w.heap.size, 0, none⟩ = some (.slice (some ⟨b, o, none⟩) n c) := (hb.cell (p := ⟨w.heap.size, 0, none⟩) (show w.heap.size < w1.heap.size by omega)).trans (HB1.out.cell 0)
      have hlw : w.heap.size < wr.heap.size := by have := hb.size; omega
      have hne : w.heap.size ≠ wr.heap.size := by omega
      obtain ⟨W2, hW2⟩ : ∃ W2, W2 = wr.alloc (.cells #[.slice (some ⟨b2, o2, none⟩) n c2] 24) := ⟨_, rfl⟩
      have bel2 : Below wr.heap.size wr W2 := by rw [hW2]; exact (Below.refl _ wr).alloc (Nat.le_refl _) _
      have hb2k : Blk W2 wr.heap.size #[.slice (some ⟨b2, o2, none⟩) n c2] 24 := by rw [hW2]; exact Blk.new _ _ _
      have d0 : W2.cell? ⟨w.heap.size, 0, none⟩ = some (.slice (some ⟨b, o, none⟩) n c) := (bel2.cell (p := ⟨w.heap.size, 0, none⟩) hlw).trans c0r
      have d1 : W2.cell? ⟨wr.heap.size, 0, none⟩ = some (.slice (some ⟨b2, o2, none⟩) n c2) := hb2k.cell 0
      have hR2 := hRr.below (bel2.mono (show B ≤ wr.heap.size by omega))
      have hrow2 : ∀ x, x < n → W2.cell? ⟨b2, o2 + x, none⟩ = some (.int .i64 (cellZ t i x : Int)) := fun x hx => (bel2.cell (p := ⟨b2, o2 + x, none⟩) (show b2 < wr.heap.size by omega)).trans (hrow x hx)
      have CC := countChains_any n (chainC t i) (.pointer (some ⟨w.heap.size, 0, none⟩)) (.pointer (some ⟨wr.heap.size, 0, none⟩)) W2 hn (fun m x y hx hy => (chainClo_any (some ⟨b, o, none⟩) n c i t x y (W2.drewN m) d0 d1 (hR2.drewN m) HT.out hrow2 hin hx hy).mono fun e w' ⟨h1, m', h2⟩ => ⟨h1, m + m', by rw [h2, World.drewN_drewN]⟩)
      have hSb : sumN (fun c => pairsY (chainC t c) n) i ≤ 46656 := by
        have h1 := sumN_le (f := fun c => pairsY (chainC t c) n) (m := 1296) i (fun c _ => by show pairsY (chainC t c) n ≤ 1296; rw [← pairs_eq]; exact pairsX_le (chainC t c) hn)
        have h2 : i * 1296 ≤ 36 * 1296 := Nat.mul_le_mul_right _ (by omega)
        omega
      have hPb : pairsY (chainC t i) n ≤ 1296 := by rw [← pairs_eq]; exact pairsX_le (chainC t i) hn
      have hnx : Hid (sumN (fun c => pairsY (chainC t c) n) (i + 1) = sumN (fun c => pairsY (chainC t c) n) i + pairsY (chainC t i) n) := Lib.hid rfl
      generalize sumN (fun c => pairsY (chainC t c) n) i = S at hSb hnx ⊢
      generalize pairsY (chainC t i) n = T at hPb hnx CC
      have B2 : Hid (Below w1.heap.size w1 W2) := Lib.hid (hb.trans (bel2.mono hb.size))
      clear bel2 hb2k d0 d1 hR2 hrow2 hrow hRr hbw
      go_wp2_with fail
      rw [← hW2]
      have HW2 := Lib.hid hW2
      clear hW2
      go_wp2_with (go_at_call 127; (with_reducible refine (CC).mono ?_); rintro e w' ⟨rfl, m, rfl⟩)
      go_roundw
      case rel => exact ⟨i + 1, by omega, by go_num, by rw [hnx.out]; go_num, below_drewN B2.out m⟩
      case measure => simp [intOf]; omega
    · obtain rfl : n = i := by omega
      go_wp2
      go_ret
      exact ⟨ret_int (by rw [HE.out]), BEL.out.trans (hb.mono (by omega))⟩
set_option maxHeartbeats 400000 in
theorem implSwapsQ_any {B : Nat} (A : Option Addr) (n c : Nat) (t : List (List Int)) (w : World) (h : Rows2 B w A n t) (hB : B ≤ w.heap.size) :
    Calls Try.prog 23 #[.slice A n c] w fun e w' => e = two (valQ (swapsQ t : Int) t) (isQ t) ∧ Below w.heap.size w w' := by
  have hl := h.len
  have CQ := implIsQ_any A n c t w h hB
  unfold valQ
  rcases hq : isQ t with _ | _
  · rw [hq] at CQ
    go_enter Try.func23, Try.ntmps23
    go_wp2_with (go_at_call 54; (with_reducible refine (CQ).mono ?_); rintro e w' ⟨rfl, hb⟩)
    go_ret2
    exact ⟨rfl, hb⟩
  · rw [hq] at CQ
    have hp := isQ_parts hq hl
    go_enter Try.func23, Try.ntmps23
    go_wp2_with fail
    (go_at_call 54; (with_reducible refine (CQ).mono ?_); rintro e w1 ⟨rfl, hb⟩)
    go_wp2_with fail
    (go_at_call 74; (with_reducible refine (implSwaps_any _ _ _ t _ (h.below (hb.mono hB)) (Nat.le_trans hB hb.size) hp.2 hp.1.2).mono ?_); rintro e w2 ⟨rfl, hb2⟩)
    go_wp2_with fail
    go_ret2
    exact ⟨rfl, hb.trans (hb2.mono hb.size)⟩
set_option maxHeartbeats 400000 in
theorem implChainsQ_any {B : Nat} (A : Option Addr) (n c : Nat) (t : List (List Int)) (w : World) (h : Rows2 B w A n t) (hB : B ≤ w.heap.size) :
    Calls Try.prog 24 #[.slice A n c] w fun e w' => e = two (valQ (chainsQ t : Int) t) (isQ t) ∧ Below w.heap.size w w' := by
  have hl := h.len
  have CQ := implIsQ_any A n c t w h hB
  unfold valQ
  rcases hq : isQ t with _ | _
  · rw [hq] at CQ
    go_enter Try.func24, Try.ntmps24
    go_wp2_with (go_at_call 54; (with_reducible refine (CQ).mono ?_); rintro e w' ⟨rfl, hb⟩)
    go_ret2
    exact ⟨rfl, hb⟩
  · rw [hq] at CQ
    have hp := isQ_parts hq hl
    go_enter Try.func24, Try.ntmps24
    go_wp2_with fail
    (go_at_call 54; (with_reducible refine (CQ).mono ?_); rintro e w1 ⟨rfl, hb⟩)
    go_wp2_with fail
    (go_at_call 75; (with_reducible refine (implChains_any _ _ _ t _ (h.below (hb.mono hB)) (Nat.le_trans hB hb.size) hp.2 hp.1.2).mono ?_); rintro e w2 ⟨rfl, hb2⟩)
    go_wp2_with fail
    go_ret2
    exact ⟨rfl, hb.trans (hb2.mono hb.size)⟩
end Go.Proofs.Ytiokcflomchdcaa
