/-
  Complete mappings and antisymmetric orders, by the model and by the program.
-/
import Derived.Test.YteggllmiapdmcabFit
import Derived.Test.YteggllmiapdmcabGV
namespace Go.Proofs.Yteggllmiapdmcab
open Go.RowKit

set_option maxHeartbeats 2000000 in
theorem l05Maps_any {B gb n m : Nat} (A A2 : Option Addr) (c c2 : Nat) (zs : List Int) (t : List (List Int)) (w : World) (hg : w.cell? ⟨gb, 0, none⟩ = some (.slice A n c)) (h : Rows2 B w A n t) (hr : RowB .i64 B w A2 m zs) (hc2 : m ≤ c2) :
    Calls Try.prog 68 #[ptr gb, .slice A2 m c2] w fun r w' => r = .returned (.bool (grpOk t && ordL n zs)) ∧ ∃ m', w' = w.drewN m' := by
  have CI := l05Is_any A n c t w hg h
  have hl := h.len
  have hzl := hr.len
  rcases hq : grpOk t with _ | _
  · rw [hq] at CI
    clear hq h hr
    go_enter Try.func68, Try.ntmps68
    go_wp2_with fail
    (go_at_call 60; (with_reducible refine (CI).mono ?_); rintro e w' ⟨rfl, m1, rfl⟩)
    go_wp2_with fail
    go_ret
    exact ⟨rfl, m1, rfl⟩
  · rw [hq] at CI
    obtain ⟨e, hgr⟩ := grp_of hl hq
    have hn10 := hgr.n10
    have CO : ∀ q, Calls Try.prog 74 #[.slice A2 m c2, .int .i64 n] (w.drewN q) fun e w' => e = .returned (.bool (ordL n zs)) ∧ ∃ m', w' = w.drewN m' := fun q => (l01Order_any A2 m c2 n zs (w.drewN q) (hr.drewN q) hc2 (by omega) (by omega)).mono fun e w' ⟨h1, m', h2⟩ => ⟨by rw [h1, ordL_eq hzl], q + m', by rw [h2, World.drewN_drewN]⟩
    clear hq h hr hgr
    go_enter Try.func68, Try.ntmps68
    go_wp2_with fail
    (go_at_call 60; (with_reducible refine (CI).mono ?_); rintro e w' ⟨rfl, m1, rfl⟩)
    go_wp2_with fail
    (go_at_call 74; (with_reducible refine (CO m1).mono ?_); rintro e w' ⟨rfl, m2, rfl⟩)
    go_wp2_with fail
    go_ret
    exact ⟨rfl, m2, rfl⟩
set_option maxHeartbeats 2000000 in
theorem isOrder_any {b n : Nat} {e : Int} {t : List (List Int)} (A2 : Option Addr) (m c2 : Nat) (zs : List Int) (w : World) (h : Pr w b n e t) (hr : Row .i64 w A2 m zs) :
    Calls Try.prog 78 #[ptr b, .slice A2 m c2] w fun r w' => r = .returned (.bool (decide (m = n) && isOrd zs)) ∧ Below w.heap.size w w' := by
  have c0 := h.size
  have hle := hr.le
  have CO := implIsOrder_any A2 m c2 zs w hr
  clear h hr
  by_cases hmn : m = n
  · subst hmn
    go_enter Try.func78, Try.ntmps78
    go_wp2_with fail
    (go_at_call 107; (with_reducible refine (CO).mono ?_); rintro e w2 ⟨rfl, hb⟩)
    go_wp2_with fail
    go_ret
    exact ⟨ret_bool (by simp), hb⟩
  · have g1 : ((m : Int) == (n : Int)) = false := by simp; omega
    go_enter Try.func78, Try.ntmps78
    go_wp2
    go_ret
    exact ⟨ret_bool (by simp [hmn]), Below.refl _ _⟩
set_option maxRecDepth 100000 in
set_option maxHeartbeats 2000000 in
theorem countKeeps_any (n : Nat) (F : Nat → Nat → Bool) (cap cap2 : Value) (w : World) (hn : n ≤ 36)
    (hC : ∀ V, Below w.heap.size w V → ∀ x y, x < n → y < n → Calls Try.prog 103 #[.int .i64 (x : Nat), .int .i64 (y : Nat), cap, cap2] V fun e w' => e = .returned (.bool (F x y)) ∧ Below V.heap.size V w') :
    Calls Try.prog 102 #[.int .i64 n, .func (.func 103) #[] #[cap, cap2]] w fun e w' => e = .returned (.int .i64 (pairsY F n : Int)) ∧ Below w.heap.size w w' := by
  have HC := Lib.hid hC
  clear hC
  go_enter Try.func102, Try.ntmps102
  go_wp2
  go_loopw [5, 6, 7, 9] (fun o _ _ y wr => ∃ k : Nat, k ≤ n ∧ y = .int .i64 k ∧ o = .int .i64 ((sumN (fun y => sumN (fun x => b1 (F x y)) y) k : Nat) : Int) ∧ Below w.heap.size w wr) (fun _ _ _ y _ => n - (intOf y).toNat)
  case atStart => exact ⟨0, by omega, rfl, rfl, Below.refl _ _⟩
  case round =>
    obtain ⟨k, hk, rfl, rfl, hb⟩ := hrel
    by_cases hlt : k < n
    · obtain ⟨S, hS⟩ : ∃ S, S = sumN (fun y => sumN (fun x => b1 (F x y)) y) k := ⟨_, rfl⟩
      rw [← hS]
      have HS := Lib.hid hS
      clear hS
      go_wp2
      go_loopw [5, 7, 13] (fun o _ x wq => ∃ j : Nat, j ≤ k ∧ x = .int .i64 j ∧ o = .int .i64 ((S + sumN (fun x => b1 (F x k)) j : Nat) : Int) ∧ Below w.heap.size w wq) (fun _ _ x _ => k - (intOf x).toNat)
      case atStart => exact ⟨0, by omega, rfl, rfl, hb⟩
      case round =>
        obtain ⟨j, hj, rfl, rfl, hb2⟩ := hrel
        by_cases hjn : j < k
        · have hpl := partY_le F hn (show j ≤ k by omega) (show k ≤ n by omega)
          rw [← HS.out] at hpl
          obtain ⟨T, hT⟩ : ∃ T, T = S + sumN (fun x => b1 (F x k)) j := ⟨_, rfl⟩
          have hnx : Hid (S + sumN (fun x => b1 (F x k)) (j + 1) = T + b1 (F j k)) := Lib.hid (by rw [sumN_succ, hT]; omega)
          rw [← hT] at hpl ⊢
          clear hT
          have C1 := HC.out _ hb2 j k (by omega) hlt
          rcases hf : F j k with _ | _
          · rw [hf] at C1 hnx
            rw [b1_false] at hnx
            clear hf
            go_wp2_with (go_at_call 103; (with_reducible refine (C1).mono ?_); rintro e w3 ⟨rfl, hb3⟩)
            go_roundw
            case rel => exact ⟨j + 1, by omega, by go_num, by rw [hnx.out]; go_num, hb2.trans (hb3.mono hb2.size)⟩
            case measure => simp [intOf]; omega
          · rw [hf] at C1 hnx
            rw [b1_true] at hnx
            clear hf
            go_wp2_with (go_at_call 103; (with_reducible refine (C1).mono ?_); rintro e w3 ⟨rfl, hb3⟩)
            go_roundw
            case rel => exact ⟨j + 1, by omega, by go_num, by rw [hnx.out]; go_num, hb2.trans (hb3.mono hb2.size)⟩
            case measure => simp [intOf]; omega
        · obtain rfl : k = j := by omega
          go_wp2
          go_roundw
          case rel => exact ⟨k + 1, by omega, by go_num, by rw [sumN_succ, HS.out], hb2⟩
          case measure => simp [intOf]; omega
    · obtain rfl : n = k := by omega
      go_wp2
      go_ret
      exact ⟨rfl, hb⟩
set_option maxRecDepth 100000 in
set_option maxHeartbeats 2000000 in
theorem clash_true {b b2 o2 n : Nat} {e : Int} {t : List (List Int)} (c2 : Nat) (f : Nat → Nat) (x y : Nat) (w : World) (h : Pr w b n e t) (hn : n ≤ 10) (hx : x < n) (hy : y < n) (hf : ∀ x, x < n → f x < n ∧ w.cell? ⟨b2, o2 + x, none⟩ = some (.int .i64 (f x : Int))) (hb2 : b2 < w.heap.size) :
    Calls Try.prog 160 #[.agg #[ptr b], .slice (some ⟨b2, o2, none⟩) n c2, .int .i64 x, .int .i64 y] w fun r w' => r = .returned (.bool (clashF true t f x y)) ∧ Below w.heap.size w w' := by
  obtain ⟨w1, hw1⟩ : ∃ w1, w1 = w.alloc (.cells #[ptr b] 85) := ⟨_, rfl⟩
  have bel : Below w.heap.size w w1 := by rw [hw1]; exact (Below.refl _ w).alloc (Nat.le_refl _) _
  have b1 : Blk w1 w.heap.size #[ptr b] 85 := by rw [hw1]; exact Blk.new _ _ _
  have q1 : w1.cell? ⟨w.heap.size, 0, none⟩ = some (ptr b) := b1.cell 0
  have hP := h.below bel h.lt
  obtain ⟨hfx, e1⟩ := hf x hx
  obtain ⟨hfy, e2⟩ := hf y hy
  have k1 : w1.cell? ⟨b2, o2 + x, none⟩ = some (.int .i64 (f x : Int)) := (bel.cell (p := ⟨b2, o2 + x, none⟩) hb2).trans e1
  have k2 : w1.cell? ⟨b2, o2 + y, none⟩ = some (.int .i64 (f y : Int)) := (bel.cell (p := ⟨b2, o2 + y, none⟩) hb2).trans e2
  have C1 : ∀ q, Calls Try.prog 80 #[ptr b, .int .i64 x, .int .i64 (f x)] (w1.drewN q) fun r w' => r = .returned (.int .i64 (cellZ t x (f x) : Int)) ∧ ∃ m', w' = (w1.drewN q).drewN m' := fun q => prOf_any x (f x) (w1.drewN q) (hP.drewN q) hn hx hfx
  have C2 : ∀ q, Calls Try.prog 80 #[ptr b, .int .i64 y, .int .i64 (f y)] (w1.drewN q) fun r w' => r = .returned (.int .i64 (cellZ t y (f y) : Int)) ∧ ∃ m', w' = (w1.drewN q).drewN m' := fun q => prOf_any y (f y) (w1.drewN q) (hP.drewN q) hn hy hfy
  have hFe : clashF true t f x y = decide (cellZ t x (f x) = cellZ t y (f y)) := rfl
  have BEL := Lib.hid bel
  clear h hP bel b1 e1 e2 hf
  generalize cellZ t x (f x) = za at C1 hFe
  generalize cellZ t y (f y) = zb at C2 hFe
  generalize f x = fx at C1 C2 k1 hfx
  generalize f y = fy at C1 C2 k2 hfy
  by_cases ha : za = zb
  · have HF : Hid (clashF true t f x y = true) := Lib.hid (by rw [hFe]; simp [ha])
    subst ha
    clear hFe
    go_enter Try.func160, Try.ntmps160
    go_wp2_with fail
    rw [← hw1]
    have HW1 := Lib.hid hw1
    clear hw1
    go_quiet ((go_at_call 80; first | ((with_reducible refine (C1 _).mono ?_); first | exact (fun _ _ ⟨he, _, hm⟩ => ⟨he, _, hm.trans (World.drewN_drewN _ _ _)⟩) | exact (fun _ _ ⟨he, _, hm⟩ => ⟨he, _, hm.trans ((World.drewN_drewN _ _ _).trans (by rw [Nat.add_assoc]))⟩)) | ((with_reducible refine (C2 _).mono ?_); first | exact (fun _ _ ⟨he, _, hm⟩ => ⟨he, _, hm.trans (World.drewN_drewN _ _ _)⟩) | exact (fun _ _ ⟨he, _, hm⟩ => ⟨he, _, hm.trans ((World.drewN_drewN _ _ _).trans (by rw [Nat.add_assoc]))⟩))))
    go_wp2
    go_ret
    exact ⟨ret_bool HF.out.symm, below_drewN BEL.out _⟩
  · have HF : Hid (clashF true t f x y = false) := Lib.hid (by rw [hFe]; simp [ha])
    have g1 : ((za : Int) == (zb : Int)) = false := by simp; omega
    clear hFe
    go_enter Try.func160, Try.ntmps160
    go_wp2_with fail
    rw [← hw1]
    have HW1 := Lib.hid hw1
    clear hw1
    go_quiet ((go_at_call 80; first | ((with_reducible refine (C1 _).mono ?_); first | exact (fun _ _ ⟨he, _, hm⟩ => ⟨he, _, hm.trans (World.drewN_drewN _ _ _)⟩) | exact (fun _ _ ⟨he, _, hm⟩ => ⟨he, _, hm.trans ((World.drewN_drewN _ _ _).trans (by rw [Nat.add_assoc]))⟩)) | ((with_reducible refine (C2 _).mono ?_); first | exact (fun _ _ ⟨he, _, hm⟩ => ⟨he, _, hm.trans (World.drewN_drewN _ _ _)⟩) | exact (fun _ _ ⟨he, _, hm⟩ => ⟨he, _, hm.trans ((World.drewN_drewN _ _ _).trans (by rw [Nat.add_assoc]))⟩))))
    go_wp2
    go_ret
    exact ⟨ret_bool HF.out.symm, below_drewN BEL.out _⟩
set_option maxRecDepth 100000 in
set_option maxHeartbeats 2000000 in
theorem clash_false {b b2 o2 n : Nat} {e : Int} {t : List (List Int)} (c2 : Nat) (f : Nat → Nat) (x y : Nat) (w : World) (h : Pr w b n e t) (hn : n ≤ 10) (hx : x < n) (hy : y < n) (hf : ∀ x, x < n → f x < n ∧ w.cell? ⟨b2, o2 + x, none⟩ = some (.int .i64 (f x : Int))) (hb2 : b2 < w.heap.size) :
    Calls Try.prog 161 #[.agg #[ptr b], .slice (some ⟨b2, o2, none⟩) n c2, .int .i64 x, .int .i64 y] w fun r w' => r = .returned (.bool (clashF false t f x y)) ∧ Below w.heap.size w w' := by
  obtain ⟨w1, hw1⟩ : ∃ w1, w1 = w.alloc (.cells #[ptr b] 88) := ⟨_, rfl⟩
  have bel : Below w.heap.size w w1 := by rw [hw1]; exact (Below.refl _ w).alloc (Nat.le_refl _) _
  have b1 : Blk w1 w.heap.size #[ptr b] 88 := by rw [hw1]; exact Blk.new _ _ _
  have q1 : w1.cell? ⟨w.heap.size, 0, none⟩ = some (ptr b) := b1.cell 0
  have hP := h.below bel h.lt
  obtain ⟨hfx, e1⟩ := hf x hx
  obtain ⟨hfy, e2⟩ := hf y hy
  have k1 : w1.cell? ⟨b2, o2 + x, none⟩ = some (.int .i64 (f x : Int)) := (bel.cell (p := ⟨b2, o2 + x, none⟩) hb2).trans e1
  have k2 : w1.cell? ⟨b2, o2 + y, none⟩ = some (.int .i64 (f y : Int)) := (bel.cell (p := ⟨b2, o2 + y, none⟩) hb2).trans e2
  have C1 : ∀ q, Calls Try.prog 80 #[ptr b, .int .i64 x, .int .i64 (f y)] (w1.drewN q) fun r w' => r = .returned (.int .i64 (cellZ t x (f y) : Int)) ∧ ∃ m', w' = (w1.drewN q).drewN m' := fun q => prOf_any x (f y) (w1.drewN q) (hP.drewN q) hn hx hfy
  have C2 : ∀ q, Calls Try.prog 80 #[ptr b, .int .i64 y, .int .i64 (f x)] (w1.drewN q) fun r w' => r = .returned (.int .i64 (cellZ t y (f x) : Int)) ∧ ∃ m', w' = (w1.drewN q).drewN m' := fun q => prOf_any y (f x) (w1.drewN q) (hP.drewN q) hn hy hfx
  have hFe : clashF false t f x y = decide (cellZ t x (f y) = cellZ t y (f x)) := rfl
  have BEL := Lib.hid bel
  clear h hP bel b1 e1 e2 hf
  generalize cellZ t x (f y) = za at C1 hFe
  generalize cellZ t y (f x) = zb at C2 hFe
  generalize f x = fx at C1 C2 k1 hfx
  generalize f y = fy at C1 C2 k2 hfy
  by_cases ha : za = zb
  · have HF : Hid (clashF false t f x y = true) := Lib.hid (by rw [hFe]; simp [ha])
    subst ha
    clear hFe
    go_enter Try.func161, Try.ntmps161
    go_wp2_with fail
    rw [← hw1]
    have HW1 := Lib.hid hw1
    clear hw1
    go_quiet ((go_at_call 80; first | ((with_reducible refine (C1 _).mono ?_); first | exact (fun _ _ ⟨he, _, hm⟩ => ⟨he, _, hm.trans (World.drewN_drewN _ _ _)⟩) | exact (fun _ _ ⟨he, _, hm⟩ => ⟨he, _, hm.trans ((World.drewN_drewN _ _ _).trans (by rw [Nat.add_assoc]))⟩)) | ((with_reducible refine (C2 _).mono ?_); first | exact (fun _ _ ⟨he, _, hm⟩ => ⟨he, _, hm.trans (World.drewN_drewN _ _ _)⟩) | exact (fun _ _ ⟨he, _, hm⟩ => ⟨he, _, hm.trans ((World.drewN_drewN _ _ _).trans (by rw [Nat.add_assoc]))⟩))))
    go_wp2
    go_ret
    exact ⟨ret_bool HF.out.symm, below_drewN BEL.out _⟩
  · have HF : Hid (clashF false t f x y = false) := Lib.hid (by rw [hFe]; simp [ha])
    have g1 : ((za : Int) == (zb : Int)) = false := by simp; omega
    clear hFe
    go_enter Try.func161, Try.ntmps161
    go_wp2_with fail
    rw [← hw1]
    have HW1 := Lib.hid hw1
    clear hw1
    go_quiet ((go_at_call 80; first | ((with_reducible refine (C1 _).mono ?_); first | exact (fun _ _ ⟨he, _, hm⟩ => ⟨he, _, hm.trans (World.drewN_drewN _ _ _)⟩) | exact (fun _ _ ⟨he, _, hm⟩ => ⟨he, _, hm.trans ((World.drewN_drewN _ _ _).trans (by rw [Nat.add_assoc]))⟩)) | ((with_reducible refine (C2 _).mono ?_); first | exact (fun _ _ ⟨he, _, hm⟩ => ⟨he, _, hm.trans (World.drewN_drewN _ _ _)⟩) | exact (fun _ _ ⟨he, _, hm⟩ => ⟨he, _, hm.trans ((World.drewN_drewN _ _ _).trans (by rw [Nat.add_assoc]))⟩))))
    go_wp2
    go_ret
    exact ⟨ret_bool HF.out.symm, below_drewN BEL.out _⟩
set_option maxRecDepth 100000 in
set_option maxHeartbeats 2000000 in
theorem keepClo_true {b b2 o2 n p4 p5 : Nat} {e : Int} {t : List (List Int)} (c2 : Nat) (f : Nat → Nat) (x y : Nat) (w : World) (k4 : w.cell? ⟨p4, 0, none⟩ = some (.iface 85 (.agg #[ptr b]))) (k5 : w.cell? ⟨p5, 0, none⟩ = some (.slice (some ⟨b2, o2, none⟩) n c2))
    (h : Pr w b n e t) (hn : n ≤ 10) (hx : x < n) (hy : y < n) (hf : ∀ x, x < n → f x < n ∧ w.cell? ⟨b2, o2 + x, none⟩ = some (.int .i64 (f x : Int))) (hb2 : b2 < w.heap.size) :
    Calls Try.prog 103 #[.int .i64 x, .int .i64 y, ptr p4, ptr p5] w fun r w' => r = .returned (.bool (clashF true t f x y)) ∧ Below w.heap.size w w' := by
  have CC := clash_true c2 f x y w h hn hx hy hf hb2
  have hm : ∀ W : World, (method 272 85 (.agg #[ptr b]) "loop.example/g01130/impl.clash").run Try.prog W = .ok (160, .agg #[ptr b]) W := fun _ => by kernel_rfl
  clear h hf
  go_enter Try.func103, Try.ntmps103
  go_wp2_with fail
  (go_at_call 160; (with_reducible refine (CC).mono ?_); rintro e w2 ⟨rfl, hb⟩)
  go_wp2_with fail
  go_ret
  exact ⟨rfl, hb⟩
set_option maxRecDepth 100000 in
set_option maxHeartbeats 4000000 in
theorem keeps_true {B b n m e : Nat} {t : List (List Int)} (A2 : Option Addr) (c2 : Nat) (zs : List Int) (w : World) (h : Pr w b n e t) (hg : Grp t n e) (hr : RowB .i64 B w A2 m zs) (hB : B ≤ w.heap.size) :
    Calls Try.prog 70 #[ptr b, .iface 85 (.agg #[ptr b]), .slice A2 m c2] w fun r w' => r = .returned (.bool (ordL n zs && fitA true t (fnOf zs) n)) ∧ Below w.heap.size w w' := by
  obtain ⟨w1, hw1⟩ : ∃ w1, w1 = (w.alloc (.cells #[.iface 85 (.agg #[ptr b])] 116)).alloc (.cells #[.slice A2 m c2] 36) := ⟨_, rfl⟩
  have bel : Below w.heap.size w w1 := by rw [hw1]; exact ((Below.refl _ w).alloc (Nat.le_refl _) _).alloc (by simp) _
  have b4 : Blk w1 w.heap.size #[.iface 85 (.agg #[ptr b])] 116 := by rw [hw1]; exact (Blk.new _ _ _).alloc _
  have b5 : Blk w1 (w.heap.size + 1) #[.slice A2 m c2] 36 := by
    rw [hw1]
    have := Blk.new (w.alloc (.cells #[.iface 85 (.agg #[ptr b])] 116)) #[.slice A2 m c2] 36
    simpa using this
  have hs1 : w1.heap.size = w.heap.size + 1 + 1 := by rw [hw1]; simp
  have k5 : w1.cell? ⟨w.heap.size + 1, 0, none⟩ = some (.slice A2 m c2) := b5.cell 0
  have hP := h.below bel h.lt
  have hr1 := hr.below (bel.mono hB)
  have hn10 := hg.n10
  have hn1 := hg.n1
  have hl := hr.len
  have hle := hr.le
  have CO := isOrder_any A2 m c2 zs w1 hP (hr1.up (by omega))
  rcases hq : (decide (m = n) && isOrd zs) with _ | _
  · rw [hq] at CO
    have HN : Hid (ordL n zs = false) := Lib.hid (by
      by_cases hmn : m = n
      · have h2 : isOrd zs = false := by simpa [hmn] using hq
        rw [← ordL_isOrd ⟨hn1, by omega⟩ (by omega)]; exact h2
      · exact ordL_len (by omega))
    have BEL := Lib.hid bel
    clear hq bel b4 b5 h hP hr hr1 hg
    go_enter Try.func70, Try.ntmps70
    go_wp2_with fail
    rw [← hw1]
    have HW1 := Lib.hid hw1
    clear hw1
    go_wp2_with fail
    (go_at_call 78; (with_reducible refine (CO).mono ?_); rintro e w2 ⟨rfl, hb⟩)
    go_wp2_with fail
    go_ret
    exact ⟨ret_bool (by rw [HN.out]; rfl), BEL.out.trans (hb.mono (by omega))⟩
  · rw [hq] at CO
    rw [Bool.and_eq_true, decide_eq_true_eq] at hq
    obtain ⟨rfl, ho⟩ := hq
    have HO : Hid (ordL m zs = true) := Lib.hid (by rw [← ordL_isOrd ⟨hn1, by omega⟩ hl]; exact ho)
    obtain ⟨b2, o2, rfl, hb2, _⟩ := ord_cell hr1 ho (show 0 < m by omega)
    have hf : ∀ x, x < m → fnOf zs x < m ∧ w1.cell? ⟨b2, o2 + x, none⟩ = some (.int .i64 (fnOf zs x : Int)) := fun x hx => by
      obtain ⟨b', o', e', _, hc⟩ := ord_cell hr1 ho hx
      injection e' with e'
      injection e' with e' e2 _
      subst e'; subst e2
      exact ⟨ord_lt ho hl hx, hc⟩
    have CP : Hid (∀ W, Below w1.heap.size w1 W → Calls Try.prog 102 #[.int .i64 (m : Nat), .func (.func 103) #[] #[ptr w.heap.size, ptr (w.heap.size + 1)]] W fun r w' => r = .returned (.int .i64 (pairsY (clashF true t (fnOf zs)) m : Int)) ∧ Below W.heap.size W w') := Lib.hid (fun W hW =>
      countKeeps_any m (clashF true t (fnOf zs)) (ptr w.heap.size) (ptr (w.heap.size + 1)) W (by omega) (fun V hV x y hx hy => by
        have hb := hW.trans (hV.mono hW.size)
        exact keepClo_true c2 (fnOf zs) x y V ((hb.cell (p := ⟨w.heap.size, 0, none⟩) (show w.heap.size < w1.heap.size by omega)).trans (b4.cell 0)) ((hb.cell (p := ⟨w.heap.size + 1, 0, none⟩) (show w.heap.size + 1 < w1.heap.size by omega)).trans k5) (hP.below hb hP.lt) hn10 hx hy (fun x hx => ⟨(hf x hx).1, (hb.cell (p := ⟨b2, o2 + x, none⟩) (show b2 < w1.heap.size by omega)).trans (hf x hx).2⟩) (by have := hb.size; omega)))
    have HF : Hid (fitA true t (fnOf zs) m = decide (pairsY (clashF true t (fnOf zs)) m = 0)) := Lib.hid (fitA_pairs (fun x y hx hy he => (ord_perm ho).inj x y (by omega) (by omega) he))
    have hple : pairsY (clashF true t (fnOf zs)) m ≤ 1332 := by
      have := partY_le (clashF true t (fnOf zs)) (show m ≤ 36 by omega) (Nat.zero_le m) (Nat.le_refl m)
      unfold pairsY; omega
    have BEL := Lib.hid bel
    generalize pairsY (clashF true t (fnOf zs)) m = K at CP HF hple
    clear bel b4 b5 h hP hr hr1 hg hf ho
    by_cases hK : K = 0
    · subst hK
      go_enter Try.func70, Try.ntmps70
      go_wp2_with fail
      rw [← hw1]
      have HW1 := Lib.hid hw1
      clear hw1
      go_wp2_with fail
      (go_at_call 78; (with_reducible refine (CO).mono ?_); rintro e w2 ⟨rfl, hb⟩)
      have k6 : w2.cell? ⟨w.heap.size + 1, 0, none⟩ = some (.slice (some ⟨b2, o2, none⟩) m c2) := (hb.cell (p := ⟨w.heap.size + 1, 0, none⟩) (show w.heap.size + 1 < w1.heap.size by omega)).trans k5
      have hs2 := hb.size
      go_wp2_with fail
      (go_at_call 102; (with_reducible refine (CP.out w2 hb).mono ?_); rintro e w3 ⟨rfl, hb3⟩)
      go_wp2_with fail
      go_ret
      exact ⟨ret_bool (by rw [HO.out, HF.out]; rfl), (BEL.out.trans (hb.mono (by omega))).trans (hb3.mono (by omega))⟩
    · have g1 : ((K : Int) == 0) = false := by simp; omega
      go_enter Try.func70, Try.ntmps70
      go_wp2_with fail
      rw [← hw1]
      have HW1 := Lib.hid hw1
      clear hw1
      go_wp2_with fail
      (go_at_call 78; (with_reducible refine (CO).mono ?_); rintro e w2 ⟨rfl, hb⟩)
      have k6 : w2.cell? ⟨w.heap.size + 1, 0, none⟩ = some (.slice (some ⟨b2, o2, none⟩) m c2) := (hb.cell (p := ⟨w.heap.size + 1, 0, none⟩) (show w.heap.size + 1 < w1.heap.size by omega)).trans k5
      have hs2 := hb.size
      go_wp2_with fail
      (go_at_call 102; (with_reducible refine (CP.out w2 hb).mono ?_); rintro e w3 ⟨rfl, hb3⟩)
      go_wp2_with fail
      go_ret
      exact ⟨ret_bool (by rw [HO.out, HF.out]; simp [hK]), (BEL.out.trans (hb.mono (by omega))).trans (hb3.mono (by omega))⟩
set_option maxRecDepth 100000 in
set_option maxHeartbeats 2000000 in
theorem implIsComplete_any {B B2 : Nat} (x : Gp) (A : Option Addr) (n c : Nat) (A2 : Option Addr) (m c2 : Nat) (zs : List Int) (w : World) (h : Rows2 B w A n x.G) (hB : B ≤ w.heap.size) (hr : RowB .i64 B2 w A2 m zs) (hB2 : B2 ≤ w.heap.size) :
    Calls Try.prog 33 #[gpV x A n c, .slice A2 m c2] w fun e w' => e = .returned (.bool (mapB true x.G zs)) ∧ Below w.heap.size w w' := by
  obtain ⟨w1, hw1⟩ : ∃ w1, w1 = w.alloc (.cells #[.slice A n c] 28) := ⟨_, rfl⟩
  have bel : Below w.heap.size w w1 := by rw [hw1]; exact (Below.refl _ w).alloc (Nat.le_refl _) _
  have b1 : Blk w1 w.heap.size #[.slice A n c] 28 := by rw [hw1]; exact Blk.new _ _ _
  have q1 := b1.cell 0
  have hs := bel.size
  have h1 := h.below (bel.mono hB)
  have hl := h.len
  have hr1 := hr.below (bel.mono hB2)
  rcases hq : grpOk x.G with _ | _
  · have CP := productsNo_any x A n c w1 h1 (by omega) hq
    have HM : Hid (mapB true x.G zs = false) := Lib.hid (by unfold mapB; rw [hq]; rfl)
    have BEL := Lib.hid bel
    clear bel b1 h h1 hq hr hr1
    go_enter Try.func33, Try.ntmps33
    go_wp2_with fail
    rw [← hw1]
    have HW1 := Lib.hid hw1
    clear hw1
    go_wp2_with fail
    (go_at_call 55; (with_reducible refine (CP).mono ?_); rintro e w2 ⟨rfl, hb⟩)
    go_wp2_with fail
    go_ret
    exact ⟨ret_bool HM.out.symm, BEL.out.trans (hb.mono hs)⟩
  · obtain ⟨e, hg⟩ := grp_of hl hq
    have CP := productsYes_any x A n c e w1 h1 (by omega) hg
    have HM : Hid (mapB true x.G zs = (ordL n zs && fitA true x.G (fnOf zs) n)) := Lib.hid (by unfold mapB; rw [hq, hl]; rfl)
    have BEL := Lib.hid bel
    have HR := Lib.hid hr1
    have HG := Lib.hid hg
    clear bel b1 h h1 hq hr hr1 hg
    go_enter Try.func33, Try.ntmps33
    go_wp2_with fail
    rw [← hw1]
    have HW1 := Lib.hid hw1
    clear hw1
    go_wp2_with fail
    (go_at_call 55; (with_reducible refine (CP).mono ?_); rintro e w2 ⟨g, rfl, hP, hge, hb⟩)
    have CK := keeps_true A2 c2 zs w2 hP.out HG.out (HR.out.below (hb.out.mono (show B2 ≤ w1.heap.size by omega))) (show B2 ≤ w2.heap.size by have := hb.out.size; omega)
    have hs2 := hb.out.size
    go_wp2_with fail
    (go_at_call 70; (with_reducible refine (CK).mono ?_); rintro e w3 ⟨rfl, hb3⟩)
    go_wp2_with fail
    go_ret
    exact ⟨ret_bool (by rw [HM.out]), (BEL.out.trans (hb.out.mono hs)).trans (hb3.mono (by omega))⟩
set_option maxHeartbeats 2000000 in
theorem specIsComplete_any {B B2 : Nat} (x : Gp) (A : Option Addr) (n c : Nat) (A2 : Option Addr) (m c2 : Nat) (zs : List Int) (w : World) (h : Rows2 B w A n x.G) (hB : B ≤ w.heap.size) (hr : RowB .i64 B2 w A2 m zs) (hB2 : B2 ≤ w.heap.size) (hc2 : m ≤ c2) :
    Calls Try.prog 32 #[gpV x A n c, .slice A2 m c2] w fun e w' => e = .returned (.bool (mapB true x.G zs)) ∧ Below w.heap.size w w' := by
  obtain ⟨w1, hw1⟩ : ∃ w1, w1 = w.alloc (.cells #[.slice A n c] 28) := ⟨_, rfl⟩
  have bel : Below w.heap.size w w1 := by rw [hw1]; exact (Below.refl _ w).alloc (Nat.le_refl _) _
  have b1 : Blk w1 w.heap.size #[.slice A n c] 28 := by rw [hw1]; exact Blk.new _ _ _
  have q1 := b1.cell 0
  have h1 := (h.below (bel.mono hB)).more hB
  have hr1 := (hr.below (bel.mono hB2)).more hB2
  have hl := h.len
  have hzl := hr.len
  have BEL := Lib.hid bel
  have CM := l05Maps_any A A2 c c2 zs x.G w1 q1 h1 hr1 hc2
  rcases hq : (grpOk x.G && ordL n zs) with _ | _
  · rw [hq] at CM
    have HM : Hid (mapB true x.G zs = false) := Lib.hid (by unfold mapB; rw [hl, ← Bool.and_assoc, hq]; rfl)
    clear bel b1 h h1 hq hr hr1
    go_enter Try.func32, Try.ntmps32
    go_wp2_with fail
    rw [← hw1]
    have HW1 := Lib.hid hw1
    clear hw1
    go_wp2_with fail
    (go_at_call 68; (with_reducible refine (CM).mono ?_); rintro e w' ⟨rfl, m2, rfl⟩)
    go_wp2_with fail
    go_ret
    exact ⟨ret_bool HM.out.symm, below_drewN BEL.out m2⟩
  · rw [hq] at CM
    have HM : Hid (mapB true x.G zs = fitA true x.G (fnOf zs) n) := Lib.hid (by unfold mapB; rw [hl, ← Bool.and_assoc, hq]; rfl)
    rw [Bool.and_eq_true] at hq
    obtain ⟨e, hg⟩ := grp_of hl hq.1
    obtain ⟨hzn, ho⟩ := ordL_parts (show 1 ≤ n ∧ n ≤ 36 from ⟨hg.n1, by have := hg.n10; omega⟩) hq.2
    obtain rfl : m = n := by omega
    have CA : ∀ q, Calls Try.prog 69 #[ptr w.heap.size, .slice A2 m c2, .bool true] (w1.drewN q) fun r w' => r = .returned (.bool (fitA true x.G (fnOf zs) m)) ∧ ∃ m', w' = (w1.drewN q).drewN m' := fun q => l05All_any true A A2 c c2 zs x.G (w1.drewN q) q1 (h1.drewN q) hg.tab hg.n10 hg.n1 (hr1.drewN q) ho hc2
    clear bel b1 h h1 hq hr hr1 hg ho
    go_enter Try.func32, Try.ntmps32
    go_wp2_with fail
    rw [← hw1]
    have HW1 := Lib.hid hw1
    clear hw1
    go_wp2_with fail
    (go_at_call 68; (with_reducible refine (CM).mono ?_); rintro e w' ⟨rfl, m2, rfl⟩)
    go_wp2_with fail
    (go_at_call 69; (with_reducible refine (CA m2).mono ?_); rintro e w' ⟨rfl, m3, rfl⟩)
    go_wp2_with fail
    go_ret
    exact ⟨ret_bool HM.out.symm, by first | exact below_drewN (below_drewN BEL.out m2) m3 | exact below_drewN BEL.out _⟩
set_option maxRecDepth 100000 in
set_option maxHeartbeats 2000000 in
theorem keepClo_false {b b2 o2 n p4 p5 : Nat} {e : Int} {t : List (List Int)} (c2 : Nat) (f : Nat → Nat) (x y : Nat) (w : World) (k4 : w.cell? ⟨p4, 0, none⟩ = some (.iface 88 (.agg #[ptr b]))) (k5 : w.cell? ⟨p5, 0, none⟩ = some (.slice (some ⟨b2, o2, none⟩) n c2))
    (h : Pr w b n e t) (hn : n ≤ 10) (hx : x < n) (hy : y < n) (hf : ∀ x, x < n → f x < n ∧ w.cell? ⟨b2, o2 + x, none⟩ = some (.int .i64 (f x : Int))) (hb2 : b2 < w.heap.size) :
    Calls Try.prog 103 #[.int .i64 x, .int .i64 y, ptr p4, ptr p5] w fun r w' => r = .returned (.bool (clashF false t f x y)) ∧ Below w.heap.size w w' := by
  have CC := clash_false c2 f x y w h hn hx hy hf hb2
  have hm : ∀ W : World, (method 272 88 (.agg #[ptr b]) "loop.example/g01130/impl.clash").run Try.prog W = .ok (161, .agg #[ptr b]) W := fun _ => by kernel_rfl
  clear h hf
  go_enter Try.func103, Try.ntmps103
  go_wp2_with fail
  (go_at_call 161; (with_reducible refine (CC).mono ?_); rintro e w2 ⟨rfl, hb⟩)
  go_wp2_with fail
  go_ret
  exact ⟨rfl, hb⟩
set_option maxRecDepth 100000 in
set_option maxHeartbeats 4000000 in
theorem keeps_false {B b n m e : Nat} {t : List (List Int)} (A2 : Option Addr) (c2 : Nat) (zs : List Int) (w : World) (h : Pr w b n e t) (hg : Grp t n e) (hr : RowB .i64 B w A2 m zs) (hB : B ≤ w.heap.size) :
    Calls Try.prog 70 #[ptr b, .iface 88 (.agg #[ptr b]), .slice A2 m c2] w fun r w' => r = .returned (.bool (ordL n zs && fitA false t (fnOf zs) n)) ∧ Below w.heap.size w w' := by
  obtain ⟨w1, hw1⟩ : ∃ w1, w1 = (w.alloc (.cells #[.iface 88 (.agg #[ptr b])] 116)).alloc (.cells #[.slice A2 m c2] 36) := ⟨_, rfl⟩
  have bel : Below w.heap.size w w1 := by rw [hw1]; exact ((Below.refl _ w).alloc (Nat.le_refl _) _).alloc (by simp) _
  have b4 : Blk w1 w.heap.size #[.iface 88 (.agg #[ptr b])] 116 := by rw [hw1]; exact (Blk.new _ _ _).alloc _
  have b5 : Blk w1 (w.heap.size + 1) #[.slice A2 m c2] 36 := by
    rw [hw1]
    have := Blk.new (w.alloc (.cells #[.iface 88 (.agg #[ptr b])] 116)) #[.slice A2 m c2] 36
    simpa using this
  have hs1 : w1.heap.size = w.heap.size + 1 + 1 := by rw [hw1]; simp
  have k5 : w1.cell? ⟨w.heap.size + 1, 0, none⟩ = some (.slice A2 m c2) := b5.cell 0
  have hP := h.below bel h.lt
  have hr1 := hr.below (bel.mono hB)
  have hn10 := hg.n10
  have hn1 := hg.n1
  have hl := hr.len
  have hle := hr.le
  have CO := isOrder_any A2 m c2 zs w1 hP (hr1.up (by omega))
  rcases hq : (decide (m = n) && isOrd zs) with _ | _
  · rw [hq] at CO
    have HN : Hid (ordL n zs = false) := Lib.hid (by
      by_cases hmn : m = n
      · have h2 : isOrd zs = false := by simpa [hmn] using hq
        rw [← ordL_isOrd ⟨hn1, by omega⟩ (by omega)]; exact h2
      · exact ordL_len (by omega))
    have BEL := Lib.hid bel
    clear hq bel b4 b5 h hP hr hr1 hg
    go_enter Try.func70, Try.ntmps70
    go_wp2_with fail
    rw [← hw1]
    have HW1 := Lib.hid hw1
    clear hw1
    go_wp2_with fail
    (go_at_call 78; (with_reducible refine (CO).mono ?_); rintro e w2 ⟨rfl, hb⟩)
    go_wp2_with fail
    go_ret
    exact ⟨ret_bool (by rw [HN.out]; rfl), BEL.out.trans (hb.mono (by omega))⟩
  · rw [hq] at CO
    rw [Bool.and_eq_true, decide_eq_true_eq] at hq
    obtain ⟨rfl, ho⟩ := hq
    have HO : Hid (ordL m zs = true) := Lib.hid (by rw [← ordL_isOrd ⟨hn1, by omega⟩ hl]; exact ho)
    obtain ⟨b2, o2, rfl, hb2, _⟩ := ord_cell hr1 ho (show 0 < m by omega)
    have hf : ∀ x, x < m → fnOf zs x < m ∧ w1.cell? ⟨b2, o2 + x, none⟩ = some (.int .i64 (fnOf zs x : Int)) := fun x hx => by
      obtain ⟨b', o', e', _, hc⟩ := ord_cell hr1 ho hx
      injection e' with e'
      injection e' with e' e2 _
      subst e'; subst e2
      exact ⟨ord_lt ho hl hx, hc⟩
    have CP : Hid (∀ W, Below w1.heap.size w1 W → Calls Try.prog 102 #[.int .i64 (m : Nat), .func (.func 103) #[] #[ptr w.heap.size, ptr (w.heap.size + 1)]] W fun r w' => r = .returned (.int .i64 (pairsY (clashF false t (fnOf zs)) m : Int)) ∧ Below W.heap.size W w') := Lib.hid (fun W hW =>
      countKeeps_any m (clashF false t (fnOf zs)) (ptr w.heap.size) (ptr (w.heap.size + 1)) W (by omega) (fun V hV x y hx hy => by
        have hb := hW.trans (hV.mono hW.size)
        exact keepClo_false c2 (fnOf zs) x y V ((hb.cell (p := ⟨w.heap.size, 0, none⟩) (show w.heap.size < w1.heap.size by omega)).trans (b4.cell 0)) ((hb.cell (p := ⟨w.heap.size + 1, 0, none⟩) (show w.heap.size + 1 < w1.heap.size by omega)).trans k5) (hP.below hb hP.lt) hn10 hx hy (fun x hx => ⟨(hf x hx).1, (hb.cell (p := ⟨b2, o2 + x, none⟩) (show b2 < w1.heap.size by omega)).trans (hf x hx).2⟩) (by have := hb.size; omega)))
    have HF : Hid (fitA false t (fnOf zs) m = decide (pairsY (clashF false t (fnOf zs)) m = 0)) := Lib.hid (fitA_pairs (fun x y hx hy he => (ord_perm ho).inj x y (by omega) (by omega) he))
    have hple : pairsY (clashF false t (fnOf zs)) m ≤ 1332 := by
      have := partY_le (clashF false t (fnOf zs)) (show m ≤ 36 by omega) (Nat.zero_le m) (Nat.le_refl m)
      unfold pairsY; omega
    have BEL := Lib.hid bel
    generalize pairsY (clashF false t (fnOf zs)) m = K at CP HF hple
    clear bel b4 b5 h hP hr hr1 hg hf ho
    by_cases hK : K = 0
    · subst hK
      go_enter Try.func70, Try.ntmps70
      go_wp2_with fail
      rw [← hw1]
      have HW1 := Lib.hid hw1
      clear hw1
      go_wp2_with fail
      (go_at_call 78; (with_reducible refine (CO).mono ?_); rintro e w2 ⟨rfl, hb⟩)
      have k6 : w2.cell? ⟨w.heap.size + 1, 0, none⟩ = some (.slice (some ⟨b2, o2, none⟩) m c2) := (hb.cell (p := ⟨w.heap.size + 1, 0, none⟩) (show w.heap.size + 1 < w1.heap.size by omega)).trans k5
      have hs2 := hb.size
      go_wp2_with fail
      (go_at_call 102; (with_reducible refine (CP.out w2 hb).mono ?_); rintro e w3 ⟨rfl, hb3⟩)
      go_wp2_with fail
      go_ret
      exact ⟨ret_bool (by rw [HO.out, HF.out]; rfl), (BEL.out.trans (hb.mono (by omega))).trans (hb3.mono (by omega))⟩
    · have g1 : ((K : Int) == 0) = false := by simp; omega
      go_enter Try.func70, Try.ntmps70
      go_wp2_with fail
      rw [← hw1]
      have HW1 := Lib.hid hw1
      clear hw1
      go_wp2_with fail
      (go_at_call 78; (with_reducible refine (CO).mono ?_); rintro e w2 ⟨rfl, hb⟩)
      have k6 : w2.cell? ⟨w.heap.size + 1, 0, none⟩ = some (.slice (some ⟨b2, o2, none⟩) m c2) := (hb.cell (p := ⟨w.heap.size + 1, 0, none⟩) (show w.heap.size + 1 < w1.heap.size by omega)).trans k5
      have hs2 := hb.size
      go_wp2_with fail
      (go_at_call 102; (with_reducible refine (CP.out w2 hb).mono ?_); rintro e w3 ⟨rfl, hb3⟩)
      go_wp2_with fail
      go_ret
      exact ⟨ret_bool (by rw [HO.out, HF.out]; simp [hK]), (BEL.out.trans (hb.mono (by omega))).trans (hb3.mono (by omega))⟩
set_option maxRecDepth 100000 in
set_option maxHeartbeats 2000000 in
theorem implIsAntisymmetric_any {B B2 : Nat} (x : Gp) (A : Option Addr) (n c : Nat) (A2 : Option Addr) (m c2 : Nat) (zs : List Int) (w : World) (h : Rows2 B w A n x.G) (hB : B ≤ w.heap.size) (hr : RowB .i64 B2 w A2 m zs) (hB2 : B2 ≤ w.heap.size) :
    Calls Try.prog 37 #[gpV x A n c, .slice A2 m c2] w fun e w' => e = .returned (.bool (mapB false x.G zs)) ∧ Below w.heap.size w w' := by
  obtain ⟨w1, hw1⟩ : ∃ w1, w1 = w.alloc (.cells #[.slice A n c] 28) := ⟨_, rfl⟩
  have bel : Below w.heap.size w w1 := by rw [hw1]; exact (Below.refl _ w).alloc (Nat.le_refl _) _
  have b1 : Blk w1 w.heap.size #[.slice A n c] 28 := by rw [hw1]; exact Blk.new _ _ _
  have q1 := b1.cell 0
  have hs := bel.size
  have h1 := h.below (bel.mono hB)
  have hl := h.len
  have hr1 := hr.below (bel.mono hB2)
  rcases hq : grpOk x.G with _ | _
  · have CP := productsNo_any x A n c w1 h1 (by omega) hq
    have HM : Hid (mapB false x.G zs = false) := Lib.hid (by unfold mapB; rw [hq]; rfl)
    have BEL := Lib.hid bel
    clear bel b1 h h1 hq hr hr1
    go_enter Try.func37, Try.ntmps37
    go_wp2_with fail
    rw [← hw1]
    have HW1 := Lib.hid hw1
    clear hw1
    go_wp2_with fail
    (go_at_call 55; (with_reducible refine (CP).mono ?_); rintro e w2 ⟨rfl, hb⟩)
    go_wp2_with fail
    go_ret
    exact ⟨ret_bool HM.out.symm, BEL.out.trans (hb.mono hs)⟩
  · obtain ⟨e, hg⟩ := grp_of hl hq
    have CP := productsYes_any x A n c e w1 h1 (by omega) hg
    have HM : Hid (mapB false x.G zs = (ordL n zs && fitA false x.G (fnOf zs) n)) := Lib.hid (by unfold mapB; rw [hq, hl]; rfl)
    have BEL := Lib.hid bel
    have HR := Lib.hid hr1
    have HG := Lib.hid hg
    clear bel b1 h h1 hq hr hr1 hg
    go_enter Try.func37, Try.ntmps37
    go_wp2_with fail
    rw [← hw1]
    have HW1 := Lib.hid hw1
    clear hw1
    go_wp2_with fail
    (go_at_call 55; (with_reducible refine (CP).mono ?_); rintro e w2 ⟨g, rfl, hP, hge, hb⟩)
    have CK := keeps_false A2 c2 zs w2 hP.out HG.out (HR.out.below (hb.out.mono (show B2 ≤ w1.heap.size by omega))) (show B2 ≤ w2.heap.size by have := hb.out.size; omega)
    have hs2 := hb.out.size
    go_wp2_with fail
    (go_at_call 70; (with_reducible refine (CK).mono ?_); rintro e w3 ⟨rfl, hb3⟩)
    go_wp2_with fail
    go_ret
    exact ⟨ret_bool (by rw [HM.out]), (BEL.out.trans (hb.out.mono hs)).trans (hb3.mono (by omega))⟩
set_option maxHeartbeats 2000000 in
theorem specIsAntisymmetric_any {B B2 : Nat} (x : Gp) (A : Option Addr) (n c : Nat) (A2 : Option Addr) (m c2 : Nat) (zs : List Int) (w : World) (h : Rows2 B w A n x.G) (hB : B ≤ w.heap.size) (hr : RowB .i64 B2 w A2 m zs) (hB2 : B2 ≤ w.heap.size) (hc2 : m ≤ c2) :
    Calls Try.prog 36 #[gpV x A n c, .slice A2 m c2] w fun e w' => e = .returned (.bool (mapB false x.G zs)) ∧ Below w.heap.size w w' := by
  obtain ⟨w1, hw1⟩ : ∃ w1, w1 = w.alloc (.cells #[.slice A n c] 28) := ⟨_, rfl⟩
  have bel : Below w.heap.size w w1 := by rw [hw1]; exact (Below.refl _ w).alloc (Nat.le_refl _) _
  have b1 : Blk w1 w.heap.size #[.slice A n c] 28 := by rw [hw1]; exact Blk.new _ _ _
  have q1 := b1.cell 0
  have h1 := (h.below (bel.mono hB)).more hB
  have hr1 := (hr.below (bel.mono hB2)).more hB2
  have hl := h.len
  have hzl := hr.len
  have BEL := Lib.hid bel
  have CM := l05Maps_any A A2 c c2 zs x.G w1 q1 h1 hr1 hc2
  rcases hq : (grpOk x.G && ordL n zs) with _ | _
  · rw [hq] at CM
    have HM : Hid (mapB false x.G zs = false) := Lib.hid (by unfold mapB; rw [hl, ← Bool.and_assoc, hq]; rfl)
    clear bel b1 h h1 hq hr hr1
    go_enter Try.func36, Try.ntmps36
    go_wp2_with fail
    rw [← hw1]
    have HW1 := Lib.hid hw1
    clear hw1
    go_wp2_with fail
    (go_at_call 68; (with_reducible refine (CM).mono ?_); rintro e w' ⟨rfl, m2, rfl⟩)
    go_wp2_with fail
    go_ret
    exact ⟨ret_bool HM.out.symm, below_drewN BEL.out m2⟩
  · rw [hq] at CM
    have HM : Hid (mapB false x.G zs = fitA false x.G (fnOf zs) n) := Lib.hid (by unfold mapB; rw [hl, ← Bool.and_assoc, hq]; rfl)
    rw [Bool.and_eq_true] at hq
    obtain ⟨e, hg⟩ := grp_of hl hq.1
    obtain ⟨hzn, ho⟩ := ordL_parts (show 1 ≤ n ∧ n ≤ 36 from ⟨hg.n1, by have := hg.n10; omega⟩) hq.2
    obtain rfl : m = n := by omega
    have CA : ∀ q, Calls Try.prog 69 #[ptr w.heap.size, .slice A2 m c2, .bool false] (w1.drewN q) fun r w' => r = .returned (.bool (fitA false x.G (fnOf zs) m)) ∧ ∃ m', w' = (w1.drewN q).drewN m' := fun q => l05All_any false A A2 c c2 zs x.G (w1.drewN q) q1 (h1.drewN q) hg.tab hg.n10 hg.n1 (hr1.drewN q) ho hc2
    clear bel b1 h h1 hq hr hr1 hg ho
    go_enter Try.func36, Try.ntmps36
    go_wp2_with fail
    rw [← hw1]
    have HW1 := Lib.hid hw1
    clear hw1
    go_wp2_with fail
    (go_at_call 68; (with_reducible refine (CM).mono ?_); rintro e w' ⟨rfl, m2, rfl⟩)
    go_wp2_with fail
    (go_at_call 69; (with_reducible refine (CA m2).mono ?_); rintro e w' ⟨rfl, m3, rfl⟩)
    go_wp2_with fail
    go_ret
    exact ⟨ret_bool HM.out.symm, by first | exact below_drewN (below_drewN BEL.out m2) m3 | exact below_drewN BEL.out _⟩
end Go.Proofs.Yteggllmiapdmcab
