/-
  Orders and powers of elements, by the model and by the program.
-/
import Derived.Test.YteggllmiapdmcabGV
namespace Go.Proofs.Yteggllmiapdmcab
open Go.RowKit

def ordR (t : List (List Int)) (x : Int) : Int := if withB t x = true then ((((ordO t t.length ((idOf t t.length).getD 0) x.toNat).getD 0) + 1 : Nat) : Int) else 0
theorem ordR_no {t : List (List Int)} {x : Int} (h : withB t x = false) : ordR t x = 0 := by unfold ordR; rw [h]; rfl
theorem ordR_yes {t : List (List Int)} {n e x d : Nat} (h : Grp t n e) (hx : x < n) (hd : ordO t n e x = some d) : ordR t (x : Int) = ((d + 1 : Nat) : Int) := by
  unfold ordR
  rw [if_pos (by rw [withB_yes h]; exact inB_true.2 (by omega)), h.len, h.id]
  show ((((ordO t n e x).getD 0) + 1 : Nat) : Int) = _
  rw [hd]; rfl
def powB (t : List (List Int)) (x m : Int) : Bool := withB t x && inB m 0 1000000000000000
def powR6 (t : List (List Int)) (x m : Int) : Int := if powB t x m = true then ((pw t ((idOf t t.length).getD 0) x.toNat (m.toNat % (((ordO t t.length ((idOf t t.length).getD 0) x.toNat).getD 0) + 1)) : Nat) : Int) else 0
theorem powB_no {t : List (List Int)} {x : Int} (m : Int) (h : withB t x = false) : powB t x m = false := by unfold powB; rw [h]; rfl
theorem powB_yes {t : List (List Int)} {x : Int} (m : Int) (h : withB t x = true) : powB t x m = inB m 0 1000000000000000 := by unfold powB; rw [h]; rfl
theorem powR_no6 {t : List (List Int)} {x m : Int} (h : powB t x m = false) : powR6 t x m = 0 := by unfold powR6; rw [h]; rfl
theorem powR_yes6 {t : List (List Int)} {n e x d m : Nat} (h : Grp t n e) (hd : ordO t n e x = some d) (hm : powB t (x : Int) (m : Int) = true) : powR6 t (x : Int) (m : Int) = ((pw t e x (m % (d + 1)) : Nat) : Int) := by
  unfold powR6
  rw [if_pos hm, h.len, h.id]
  show ((pw t e x (m % (((ordO t n e x).getD 0) + 1)) : Nat) : Int) = _
  rw [hd]; rfl

set_option maxRecDepth 100000 in
set_option maxHeartbeats 2000000 in
theorem prPeriod_any {b n e d D : Nat} {t : List (List Int)} (x : Nat) (w : World) (h : Pr w b n e t) (hg : Grp t n e) (hx : x < n) (hd : ordO t n e x = some d) (hD : D = d + 1) :
    Calls Try.prog 59 #[ptr b, .int .i64 x] w fun r w' => r = .returned (.int .i64 (D : Nat)) ∧ ∃ m, w' = w.drewN m := by
  have c1 := h.ident
  obtain ⟨d1, d2, d3⟩ := firstN_is hd
  have hd10 : d < 10 := by have := hg.n10; omega
  have CO : ∀ m y, y < n → Calls Try.prog 80 #[ptr b, .int .i64 (y : Nat), .int .i64 x] (w.drewN m) fun r w' => r = .returned (.int .i64 (cellZ t y x : Int)) ∧ ∃ m', w' = w.drewN m' := fun m y hy => (prOf_any y x (w.drewN m) (h.drewN m) hg.n10 hy hx).mono fun r w' ⟨h1, m', h2⟩ => ⟨h1, m + m', by rw [h2, World.drewN_drewN]⟩
  have HC := Lib.hid CO
  have HG := Lib.hid hg
  have HD := Lib.hid hD
  have H2 : Hid (pw t e x (d + 1) = e) := Lib.hid (by simpa using d2)
  have H3 : Hid (∀ j, j < d → pw t e x (j + 1) ≠ e) := Lib.hid (fun j hj he => by have := d3 j hj; simp [he] at this)
  have hp1 : Hid (pw t e x 1 = x) := Lib.hid (hg.pw_one hx)
  clear CO h hd d1 d2 d3 hg hD
  go_enter Try.func59, Try.ntmps59
  go_wp2
  go_loopw [5, 6] (fun q y wr => ∃ k Y : Nat, k ≤ d ∧ q = .int .i64 ((k + 1 : Nat) : Int) ∧ y = .int .i64 (Y : Int) ∧ Hid (Y = pw t e x (k + 1)) ∧ ∃ m, wr = w.drewN m) (fun q _ _ => d + 1 - (intOf q).toNat)
  case atStart => exact ⟨0, x, by omega, rfl, rfl, Lib.hid hp1.out.symm, 0, rfl⟩
  case round =>
    obtain ⟨k, Y, hk, rfl, rfl, hY, m, rfl⟩ := hrel
    by_cases hye : Y = e
    · have hkd : k = d := by
        rcases Nat.lt_or_ge k d with h1 | h1
        · exact absurd (hY.out.symm.trans hye) (H3.out k h1)
        · omega
      have HKD := Lib.hid hkd
      subst hye
      clear hkd
      go_wp2
      go_ret
      exact ⟨ret_int (by rw [HD.out, HKD.out]), m, rfl⟩
    · have g1 : ((Y : Int) != (e : Int)) = true := by simp; omega
      have hkd : k < d := by
        rcases Nat.lt_or_ge k d with h1 | h1
        · exact h1
        · obtain rfl : k = d := by omega
          exact absurd (hY.out.trans H2.out) hye
      have hYn : Y < n := by rw [hY.out]; exact HG.out.pw_lt hx _
      have CY := HC.out m Y hYn
      have HY2 : Hid (cellZ t Y x = pw t e x (k + 1 + 1)) := Lib.hid (by rw [hY.out]; rfl)
      generalize cellZ t Y x = Z at CY HY2
      clear hYn
      go_wp2_with fail
      (go_at_call 80; (with_reducible refine (CY).mono ?_); rintro e w' ⟨rfl, m2, rfl⟩)
      go_wp2_with fail
      go_roundw
      case rel => exact ⟨k + 1, Z, by omega, by go_num, rfl, HY2, m2, rfl⟩
      case measure => simp [intOf]; omega
set_option maxRecDepth 100000 in
set_option maxHeartbeats 2000000 in
theorem prPower_any {b n e d : Nat} {t : List (List Int)} (x m : Nat) (w : World) (h : Pr w b n e t) (hg : Grp t n e) (hx : x < n) (hd : ordO t n e x = some d) :
    Calls Try.prog 58 #[ptr b, .int .i64 x, .int .i64 m] w fun r w' => r = .returned (.int .i64 (pw t e x (m % (d + 1)) : Nat)) ∧ ∃ m, w' = w.drewN m := by
  have c1 := h.ident
  obtain ⟨D, hD⟩ : ∃ D, D = d + 1 := ⟨_, rfl⟩
  have CP := prPeriod_any x w h hg hx hd hD
  have CO : ∀ m y, y < n → Calls Try.prog 80 #[ptr b, .int .i64 (y : Nat), .int .i64 x] (w.drewN m) fun r w' => r = .returned (.int .i64 (cellZ t y x : Int)) ∧ ∃ m', w' = w.drewN m' := fun m y hy => (prOf_any y x (w.drewN m) (h.drewN m) hg.n10 hy hx).mono fun r w' ⟨h1, m', h2⟩ => ⟨h1, m + m', by rw [h2, World.drewN_drewN]⟩
  have HC := Lib.hid CO
  have HG := Lib.hid hg
  obtain ⟨R, hR⟩ : ∃ R, R = m % (d + 1) := ⟨_, rfl⟩
  rw [← hR]
  rw [← hD] at hR
  have hRI : (m : Int).tmod (D : Int) = (R : Int) := by rw [hR]; rfl
  have hD0 : ¬ (D : Int) = 0 := by omega
  have hRD : R < D := by rw [hR]; exact Nat.mod_lt _ (by omega)
  have hD1 : D ≤ 10 := by have := (firstN_is hd).1; have := hg.n10; omega
  clear CO h hd hg hD hR
  go_enter Try.func58, Try.ntmps58
  go_wp2_with fail
  (go_at_call 59; (with_reducible refine (CP).mono ?_); rintro e w' ⟨rfl, m1, rfl⟩)
  go_wp2_with fail
  go_loopw [7, 17] (fun y q wr => ∃ k Y : Nat, k ≤ R ∧ q = .int .i64 (k : Int) ∧ y = .int .i64 (Y : Int) ∧ Hid (Y = pw t e x k) ∧ ∃ m, wr = w.drewN m) (fun _ q _ => R - (intOf q).toNat)
  case atStart => exact ⟨0, e, by omega, rfl, rfl, Lib.hid rfl, m1, rfl⟩
  case round =>
    obtain ⟨k, Y, hk, rfl, rfl, hY, m3, rfl⟩ := hrel
    by_cases hlt : k < R
    · have hYn : Y < n := by rw [hY.out]; exact HG.out.pw_lt hx _
      have CY := HC.out m3 Y hYn
      have HY2 : Hid (cellZ t Y x = pw t e x (k + 1)) := Lib.hid (by rw [hY.out]; rfl)
      generalize cellZ t Y x = Z at CY HY2
      clear hYn
      go_wp2_with fail
      (go_at_call 80; (with_reducible refine (CY).mono ?_); rintro e w' ⟨rfl, m2, rfl⟩)
      go_wp2_with fail
      go_roundw
      case rel => exact ⟨k + 1, Z, by omega, by go_num, rfl, HY2, m2, rfl⟩
      case measure => simp [intOf]; omega
    · obtain rfl : R = k := by omega
      go_wp2
      go_ret
      exact ⟨ret_int (by rw [hY.out]), m3, rfl⟩
set_option maxRecDepth 100000 in
set_option maxHeartbeats 2000000 in
theorem l05Order_any {B gb n e d D : Nat} {t : List (List Int)} (A : Option Addr) (c x : Nat) (w : World) (hgb : w.cell? ⟨gb, 0, none⟩ = some (.slice A n c)) (h : Rows2 B w A n t) (hg : Grp t n e) (hx : x < n) (hd : ordO t n e x = some d) (hD : D = d + 1) :
    Calls Try.prog 54 #[ptr gb, .int .i64 x] w fun r w' => r = .returned (.int .i64 (D : Nat)) ∧ ∃ m, w' = w.drewN m := by
  obtain ⟨d1, d2, d3⟩ := firstN_is hd
  have hle := h.le
  have hd10 : d < 10 := by have := hg.n10; omega
  obtain ⟨b, o, P, Q, C, rfl, hT⟩ := tabR_of h hg.tab (show 0 < n by omega)
  have CI : Calls Try.prog 53 #[.slice (some ⟨b, o, none⟩) n c] w fun r w' => r = .returned (.int .i64 (e : Int)) ∧ ∃ m', w' = w.drewN m' := (l05Identity_any _ n c t w h hg.tab hg.n10).mono fun r w' ⟨h1, m', h2⟩ => ⟨by rw [h1, hg.id]; rfl, m', h2⟩
  have HT := Lib.hid hT
  have HG := Lib.hid hg
  have HD := Lib.hid hD
  have H2 : Hid (pw t e x (d + 1) = e) := Lib.hid (by simpa using d2)
  have H3 : Hid (∀ j, j < d → pw t e x (j + 1) ≠ e) := Lib.hid (fun j hj he => by have := d3 j hj; simp [he] at this)
  have hp1 : Hid (pw t e x 1 = x) := Lib.hid (hg.pw_one hx)
  clear h hd d1 d2 d3 hg hD hT
  go_enter Try.func54, Try.ntmps54
  go_wp2_with fail
  (go_at_call 53; (with_reducible refine (CI).mono ?_); rintro e w' ⟨rfl, m0, rfl⟩)
  go_wp2_with fail
  go_loopw [6, 7] (fun q y wr => ∃ k Y : Nat, k ≤ d ∧ q = .int .i64 ((k + 1 : Nat) : Int) ∧ y = .int .i64 (Y : Int) ∧ Hid (Y = pw t e x (k + 1)) ∧ ∃ m, wr = w.drewN m) (fun q _ _ => d + 1 - (intOf q).toNat)
  case atStart => exact ⟨0, x, by omega, rfl, rfl, Lib.hid hp1.out.symm, m0, rfl⟩
  case round =>
    obtain ⟨k, Y, hk, rfl, rfl, hY, m, rfl⟩ := hrel
    by_cases hye : Y = e
    · have hkd : k = d := by
        rcases Nat.lt_or_ge k d with h1 | h1
        · exact absurd (hY.out.symm.trans hye) (H3.out k h1)
        · omega
      have HKD := Lib.hid hkd
      subst hye
      clear hkd
      go_wp2
      go_ret
      exact ⟨ret_int (by rw [HD.out, HKD.out]), m, rfl⟩
    · have g1 : ((Y : Int) != (e : Int)) = true := by simp; omega
      have hkd : k < d := by
        rcases Nat.lt_or_ge k d with h1 | h1
        · exact h1
        · obtain rfl : k = d := by omega
          exact absurd (hY.out.trans H2.out) hye
      have hYn : Y < n := by rw [hY.out]; exact HG.out.pw_lt hx _
      have hr1 := HT.out.row hYn
      have hr2 := HT.out.cell hYn hx
      have HY2 : Hid (cellZ t Y x = pw t e x (k + 1 + 1)) := Lib.hid (by rw [hY.out]; rfl)
      generalize cellZ t Y x = Z at hr2 HY2
      generalize P Y = PY at hr1 hr2
      generalize Q Y = QY at hr1 hr2
      generalize C Y = CY at hr1
      go_wp2
      go_roundw
      case rel => exact ⟨k + 1, Z, by omega, by go_num, rfl, HY2, m, rfl⟩
      case measure => simp [intOf]; omega
theorem ord_ex {t : List (List Int)} {n e x : Nat} (h : Grp t n e) (hx : x < n) : ∃ d D, ordO t n e x = some d ∧ D = d + 1 := by
  obtain ⟨d, hd⟩ := h.order hx
  exact ⟨d, _, hd, rfl⟩

set_option maxHeartbeats 2000000 in
theorem specOrd_any {B : Nat} (x : Gp) (A : Option Addr) (n c : Nat) (y : Int) (w : World) (h : Rows2 B w A n x.G) (hB : B ≤ w.heap.size) :
    Calls Try.prog 19 #[gpV x A n c, .int .i64 y] w fun e w' => e = two (ordR x.G y) (withB x.G y) ∧ Below w.heap.size w w' := by
  obtain ⟨w1, hw1⟩ : ∃ w1, w1 = w.alloc (.cells #[.slice A n c] 28) := ⟨_, rfl⟩
  have bel : Below w.heap.size w w1 := by rw [hw1]; exact (Below.refl _ w).alloc (Nat.le_refl _) _
  have b1 : Blk w1 w.heap.size #[.slice A n c] 28 := by rw [hw1]; exact Blk.new _ _ _
  have q1 := b1.cell 0
  have h1 := h.below (bel.mono hB)
  have CI := l05With_any A n c x.G y w1 q1 h1
  have BEL := Lib.hid bel
  have hl := h.len
  clear bel b1 h
  rcases hq : withB x.G y with _ | _
  · rw [hq] at CI
    have HV := Lib.hid (ordR_no hq)
    clear hq h1
    go_enter Try.func19, Try.ntmps19
    go_wp2_with fail
    rw [← hw1]
    have HW1 := Lib.hid hw1
    clear hw1
    go_wp2_with fail
    (go_at_call 51; (with_reducible refine (CI).mono ?_); rintro e w' ⟨rfl, m, rfl⟩)
    go_wp2_with fail
    go_ret2
    exact ⟨two_eq HV.out.symm rfl, below_drewN BEL.out m⟩
  · rw [hq] at CI
    have hq2 := hq
    unfold withB at hq2
    rw [Bool.and_eq_true] at hq2
    obtain ⟨e, hg⟩ := grp_of hl hq2.1
    have hy := inB_true.1 hq2.2
    rw [hl] at hy
    obtain ⟨k, rfl⟩ := Int.eq_ofNat_of_zero_le hy.1
    have hk : k < n := by omega
    obtain ⟨d, D, hd, hD⟩ := ord_ex hg hk
    have HV := Lib.hid (ordR_yes hg hk hd)
    have HD := Lib.hid hD
    have CV : ∀ m, Calls Try.prog 54 #[ptr w.heap.size, .int .i64 (k : Nat)] (w1.drewN m) fun r w' => r = .returned (.int .i64 (D : Nat)) ∧ ∃ m', w' = w1.drewN m' := fun m => (l05Order_any A c k (w1.drewN m) (q1) (h1.drewN m) hg hk hd hD).mono fun r w' ⟨h1, m', h2⟩ => ⟨h1, m + m', by rw [h2, World.drewN_drewN]⟩
    clear hq hq2 h1 hg hd hD
    go_enter Try.func19, Try.ntmps19
    go_wp2_with fail
    rw [← hw1]
    have HW1 := Lib.hid hw1
    clear hw1
    go_wp2_with fail
    (go_at_call 51; (with_reducible refine (CI).mono ?_); rintro e w' ⟨rfl, m, rfl⟩)
    go_wp2_with fail
    (go_at_call 54; (with_reducible refine (CV m).mono ?_); rintro e w' ⟨rfl, m2, rfl⟩)
    go_wp2_with fail
    go_ret2
    exact ⟨two_eq (by rw [HD.out]; exact HV.out.symm) rfl, below_drewN BEL.out m2⟩
set_option maxRecDepth 100000 in
set_option maxHeartbeats 4000000 in
theorem specPow_any {B : Nat} (x : Gp) (A : Option Addr) (n c : Nat) (y p : Int) (w : World) (h : Rows2 B w A n x.G) (hB : B ≤ w.heap.size) :
    Calls Try.prog 15 #[gpV x A n c, .int .i64 y, .int .i64 p] w fun e w' => e = two (powR6 x.G y p) (powB x.G y p) ∧ Below w.heap.size w w' := by
  obtain ⟨w1, hw1⟩ : ∃ w1, w1 = w.alloc (.cells #[.slice A n c] 28) := ⟨_, rfl⟩
  have bel : Below w.heap.size w w1 := by rw [hw1]; exact (Below.refl _ w).alloc (Nat.le_refl _) _
  have b1 : Blk w1 w.heap.size #[.slice A n c] 28 := by rw [hw1]; exact Blk.new _ _ _
  have q1 := b1.cell 0
  have h1 := h.below (bel.mono hB)
  have CI := l05With_any A n c x.G y w1 q1 h1
  have BEL := Lib.hid bel
  have hl := h.len
  have hle := h.le
  clear bel b1 h
  rcases hq : withB x.G y with _ | _
  · rw [hq] at CI
    have HB := Lib.hid (powB_no p hq)
    have HV := Lib.hid (powR_no6 HB.out)
    clear hq h1
    go_enter Try.func15, Try.ntmps15
    go_wp2_with fail
    rw [← hw1]
    have HW1 := Lib.hid hw1
    clear hw1
    go_wp2_with fail
    (go_at_call 51; (with_reducible refine (CI).mono ?_); rintro e w' ⟨rfl, m, rfl⟩)
    go_wp2_with fail
    go_ret2
    exact ⟨two_eq HV.out.symm HB.out.symm, below_drewN BEL.out m⟩
  · rw [hq] at CI
    have HB := Lib.hid (powB_yes p hq)
    have HQ := Lib.hid hq
    have hq2 := hq
    unfold withB at hq2
    rw [Bool.and_eq_true] at hq2
    obtain ⟨e, hg⟩ := grp_of hl hq2.1
    have hy := inB_true.1 hq2.2
    rw [hl] at hy
    obtain ⟨k, rfl⟩ := Int.eq_ofNat_of_zero_le hy.1
    have hk : k < n := by omega
    have CN : ∀ W, Calls Try.prog 52 #[.int .i64 p, .int .i64 0, .int .i64 1000000000000000] W fun e w' => e = .returned (.bool (inB p 0 1000000000000000)) ∧ W = w' := fun W => l00In_any _ _ _ W
    rcases hin : inB p 0 1000000000000000 with _ | _
    · rw [hin] at CN HB
      have HV := Lib.hid (powR_no6 HB.out)
      clear hq hq2 h1 hg hin
      go_enter Try.func15, Try.ntmps15
      go_wp2_with fail
      rw [← hw1]
      have HW1 := Lib.hid hw1
      clear hw1
      go_wp2_with fail
      (go_at_call 51; (with_reducible refine (CI).mono ?_); rintro e w' ⟨rfl, m, rfl⟩)
      go_wp2_with fail
      (go_at_call 52; (with_reducible refine (CN _).mono ?_); rintro e w' ⟨rfl, rfl⟩)
      go_wp2_with fail
      go_ret2
      exact ⟨two_eq HV.out.symm HB.out.symm, below_drewN BEL.out m⟩
    · rw [hin] at CN HB
      have hp := inB_true.1 hin
      obtain ⟨P0, rfl⟩ := Int.eq_ofNat_of_zero_le hp.1
      obtain ⟨d, D, hd, hD⟩ := ord_ex hg hk
      have HV := Lib.hid (powR_yes6 hg hd HB.out)
      obtain ⟨R, hR⟩ : ∃ R, R = P0 % D := ⟨_, rfl⟩
      have hRI : (P0 : Int).tmod (D : Int) = (R : Int) := by rw [hR]; rfl
      have hD0 : ¬ (D : Int) = 0 := by omega
      have hRD : R < D := by rw [hR]; exact Nat.mod_lt _ (by omega)
      have hD1 : D ≤ 10 := by have := (firstN_is hd).1; have := hg.n10; omega
      have HR : Hid (P0 % (d + 1) = R) := Lib.hid (by rw [hR, hD])
      have CV : ∀ m, Calls Try.prog 54 #[ptr w.heap.size, .int .i64 (k : Nat)] (w1.drewN m) fun r w' => r = .returned (.int .i64 (D : Nat)) ∧ ∃ m', w' = w1.drewN m' := fun m => (l05Order_any A c k (w1.drewN m) (q1) (h1.drewN m) hg hk hd hD).mono fun r w' ⟨h1, m', h2⟩ => ⟨h1, m + m', by rw [h2, World.drewN_drewN]⟩
      have CD : ∀ m, Calls Try.prog 53 #[.slice A n c] (w1.drewN m) fun r w' => r = .returned (.int .i64 (e : Int)) ∧ ∃ m', w' = w1.drewN m' := fun m => (l05Identity_any A n c x.G (w1.drewN m) (h1.drewN m) hg.tab hg.n10).mono fun r w' ⟨h1, m', h2⟩ => ⟨by rw [h1, hg.id]; rfl, m + m', by rw [h2, World.drewN_drewN]⟩
      obtain ⟨b, o, P, Q, C, rfl, hT⟩ := tabR_of h1 hg.tab (show 0 < n by omega)
      have HT := Lib.hid hT
      have HG := Lib.hid hg
      clear hq hq2 h1 hg hin hd hD hR hT
      go_enter Try.func15, Try.ntmps15
      go_wp2_with fail
      rw [← hw1]
      have HW1 := Lib.hid hw1
      clear hw1
      go_wp2_with fail
      (go_at_call 51; (with_reducible refine (CI).mono ?_); rintro e w' ⟨rfl, m, rfl⟩)
      go_wp2_with fail
      (go_at_call 52; (with_reducible refine (CN _).mono ?_); rintro e w' ⟨rfl, rfl⟩)
      go_wp2_with fail
      (go_at_call 53; (with_reducible refine (CD m).mono ?_); rintro e w' ⟨rfl, m2, rfl⟩)
      go_wp2_with fail
      (go_at_call 54; (with_reducible refine (CV m2).mono ?_); rintro e w' ⟨rfl, m3, rfl⟩)
      go_wp2_with fail
      go_loopw [8, 9] (fun y q wr => ∃ j Y : Nat, j ≤ R ∧ q = .int .i64 ((R : Int) - (j : Int)) ∧ y = .int .i64 (Y : Int) ∧ Hid (Y = pw x.G e k j) ∧ ∃ m, wr = w1.drewN m) (fun _ q _ => (intOf q).toNat)
      case atStart => exact ⟨0, e, by omega, by go_num, rfl, Lib.hid rfl, m3, rfl⟩
      case round =>
        obtain ⟨j, Y, hj, rfl, rfl, hY, m4, rfl⟩ := hrel
        by_cases hlt : j < R
        · have hpos : (0 : Int) < (R : Int) - (j : Int) := by omega
          have hYn : Y < n := by rw [hY.out]; exact HG.out.pw_lt hk _
          have hr1 := HT.out.row hYn
          have hr2 := HT.out.cell hYn hk
          have HY2 : Hid (cellZ x.G Y k = pw x.G e k (j + 1)) := Lib.hid (by rw [hY.out]; rfl)
          generalize cellZ x.G Y k = Z at hr2 HY2
          generalize P Y = PY at hr1 hr2
          generalize Q Y = QY at hr1 hr2
          generalize C Y = CY at hr1
          go_wp2
          go_roundw
          case rel => exact ⟨j + 1, Z, by omega, by go_num, rfl, HY2, m4, rfl⟩
          case measure => simp [intOf]; omega
        · have hpos : ¬ (0 : Int) < (R : Int) - (j : Int) := by omega
          have HJ : Hid (R = j) := Lib.hid (by omega)
          go_wp2
          go_ret2
          exact ⟨two_eq (by rw [HV.out, HR.out, HJ.out, hY.out]) HB.out.symm, below_drewN BEL.out m4⟩
set_option maxHeartbeats 2000000 in
theorem implOrd_any {B : Nat} (x : Gp) (A : Option Addr) (n c : Nat) (y : Int) (w : World) (h : Rows2 B w A n x.G) (hB : B ≤ w.heap.size) (hy : (Lit.int .i64 y).wf = true) :
    Calls Try.prog 20 #[gpV x A n c, .int .i64 y] w fun e w' => e = two (ordR x.G y) (withB x.G y) ∧ Below w.heap.size w w' := by
  obtain ⟨w1, hw1⟩ : ∃ w1, w1 = w.alloc (.cells #[.slice A n c] 28) := ⟨_, rfl⟩
  have bel : Below w.heap.size w w1 := by rw [hw1]; exact (Below.refl _ w).alloc (Nat.le_refl _) _
  have b1 : Blk w1 w.heap.size #[.slice A n c] 28 := by rw [hw1]; exact Blk.new _ _ _
  have q1 := b1.cell 0
  have hs := bel.size
  have h1 := h.below (bel.mono hB)
  have hl := h.len
  rcases hq : grpOk x.G with _ | _
  · have CP := productsNo_any x A n c w1 h1 (by omega) hq
    have HW := Lib.hid (withB_no y hq)
    have HV := Lib.hid (ordR_no HW.out)
    have BEL := Lib.hid bel
    clear bel b1 h h1 hq
    go_enter Try.func20, Try.ntmps20
    go_wp2_with fail
    rw [← hw1]
    have HW1 := Lib.hid hw1
    clear hw1
    go_wp2_with fail
    (go_at_call 55; (with_reducible refine (CP).mono ?_); rintro e w2 ⟨rfl, hb⟩)
    go_wp2_with fail
    go_ret2
    exact ⟨two_eq HV.out.symm HW.out.symm, BEL.out.trans (hb.mono hs)⟩
  · obtain ⟨e, hg⟩ := grp_of hl hq
    have HW := Lib.hid (withB_yes hg y)
    have CP := productsYes_any x A n c e w1 h1 (by omega) hg
    have BEL := Lib.hid bel
    have HG := Lib.hid hg
    clear bel b1 h h1 hq hg
    go_enter Try.func20, Try.ntmps20
    go_wp2_with fail
    rw [← hw1]
    have HW1 := Lib.hid hw1
    clear hw1
    go_wp2_with fail
    (go_at_call 55; (with_reducible refine (CP).mono ?_); rintro e w2 ⟨g, rfl, hP, hge, hb⟩)
    obtain ⟨w3, hw3⟩ : ∃ w3, w3 = w2.alloc (.cells #[.int .i64 y] 2) := ⟨_, rfl⟩
    have bel3 : Below w2.heap.size w2 w3 := by rw [hw3]; exact (Below.refl _ _).alloc (Nat.le_refl _) _
    have b3 : Blk w3 w2.heap.size #[.int .i64 y] 2 := by rw [hw3]; exact Blk.new _ _ _
    have hP3 := hP.out.below bel3 hP.out.lt
    have hbw : Below w.heap.size w w3 := (BEL.out.trans (hb.out.mono hs)).trans (bel3.mono (Nat.le_trans BEL.out.size hb.out.size))
    have CH := prHas1_any y w3 hP3 HG.out.n10 b3.lt (b3.cell 0) hy
    have HP3 := Lib.hid hP3
    have HBW := Lib.hid hbw
    clear bel3 b3 hP3 hbw
    rcases hin : inB y 0 ((n : Int) - 1) with _ | _
    · rw [hin] at CH HW
      have HV := Lib.hid (ordR_no HW.out)
      clear hin
      go_wp2_with fail
      rw [← hw3]
      have HW3 := Lib.hid hw3
      clear hw3
      go_wp2_with fail
      (go_at_call 56; (with_reducible refine (CH).mono ?_); rintro e w' ⟨rfl, rfl⟩)
      go_wp2_with fail
      go_ret2
      exact ⟨two_eq HV.out.symm HW.out.symm, HBW.out⟩
    · rw [hin] at CH HW
      have hy2 := inB_true.1 hin
      obtain ⟨k, rfl⟩ := Int.eq_ofNat_of_zero_le hy2.1
      have hk : k < n := by omega
      obtain ⟨d, D, hd, hD⟩ := ord_ex HG.out hk
      have HV := Lib.hid (ordR_yes HG.out hk hd)
      have HD := Lib.hid hD
      have CV := prPeriod_any k w3 HP3.out HG.out hk hd hD
      clear hin hd hD
      go_wp2_with fail
      rw [← hw3]
      have HW3 := Lib.hid hw3
      clear hw3
      go_wp2_with fail
      (go_at_call 56; (with_reducible refine (CH).mono ?_); rintro e w' ⟨rfl, rfl⟩)
      go_wp2_with fail
      (go_at_call 59; (with_reducible refine (CV).mono ?_); rintro e w' ⟨rfl, m4, rfl⟩)
      go_wp2_with fail
      go_ret2
      exact ⟨two_eq (by rw [HD.out]; exact HV.out.symm) HW.out.symm, below_drewN HBW.out m4⟩
set_option maxHeartbeats 2000000 in
theorem implPow_any {B : Nat} (x : Gp) (A : Option Addr) (n c : Nat) (y p : Int) (w : World) (h : Rows2 B w A n x.G) (hB : B ≤ w.heap.size) (hy : (Lit.int .i64 y).wf = true) :
    Calls Try.prog 17 #[gpV x A n c, .int .i64 y, .int .i64 p] w fun e w' => e = two (powR6 x.G y p) (powB x.G y p) ∧ Below w.heap.size w w' := by
  obtain ⟨w1, hw1⟩ : ∃ w1, w1 = w.alloc (.cells #[.slice A n c] 28) := ⟨_, rfl⟩
  have bel : Below w.heap.size w w1 := by rw [hw1]; exact (Below.refl _ w).alloc (Nat.le_refl _) _
  have b1 : Blk w1 w.heap.size #[.slice A n c] 28 := by rw [hw1]; exact Blk.new _ _ _
  have q1 := b1.cell 0
  have hs := bel.size
  have h1 := h.below (bel.mono hB)
  have hl := h.len
  rcases hq : grpOk x.G with _ | _
  · have CP := productsNo_any x A n c w1 h1 (by omega) hq
    have HW := Lib.hid (powB_no p (withB_no y hq))
    have HV := Lib.hid (powR_no6 HW.out)
    have BEL := Lib.hid bel
    clear bel b1 h h1 hq
    go_enter Try.func17, Try.ntmps17
    go_wp2_with fail
    rw [← hw1]
    have HW1 := Lib.hid hw1
    clear hw1
    go_wp2_with fail
    (go_at_call 55; (with_reducible refine (CP).mono ?_); rintro e w2 ⟨rfl, hb⟩)
    go_wp2_with fail
    go_ret2
    exact ⟨two_eq HV.out.symm HW.out.symm, BEL.out.trans (hb.mono hs)⟩
  · obtain ⟨e, hg⟩ := grp_of hl hq
    have HW0 := Lib.hid (withB_yes hg y)
    have CP := productsYes_any x A n c e w1 h1 (by omega) hg
    have BEL := Lib.hid bel
    have HG := Lib.hid hg
    clear bel b1 h h1 hq hg
    go_enter Try.func17, Try.ntmps17
    go_wp2_with fail
    rw [← hw1]
    have HW1 := Lib.hid hw1
    clear hw1
    go_wp2_with fail
    (go_at_call 55; (with_reducible refine (CP).mono ?_); rintro e w2 ⟨g, rfl, hP, hge, hb⟩)
    obtain ⟨w3, hw3⟩ : ∃ w3, w3 = w2.alloc (.cells #[.int .i64 y] 2) := ⟨_, rfl⟩
    have bel3 : Below w2.heap.size w2 w3 := by rw [hw3]; exact (Below.refl _ _).alloc (Nat.le_refl _) _
    have b3 : Blk w3 w2.heap.size #[.int .i64 y] 2 := by rw [hw3]; exact Blk.new _ _ _
    have hP3 := hP.out.below bel3 hP.out.lt
    have hbw : Below w.heap.size w w3 := (BEL.out.trans (hb.out.mono hs)).trans (bel3.mono (Nat.le_trans BEL.out.size hb.out.size))
    have CH := prHas1_any y w3 hP3 HG.out.n10 b3.lt (b3.cell 0) hy
    have HP3 := Lib.hid hP3
    have HBW := Lib.hid hbw
    clear bel3 b3 hP3 hbw
    rcases hin : inB y 0 ((n : Int) - 1) with _ | _
    · rw [hin] at CH HW0
      have HW := Lib.hid (powB_no p HW0.out)
      have HV := Lib.hid (powR_no6 HW.out)
      clear hin
      go_wp2_with fail
      rw [← hw3]
      have HW3 := Lib.hid hw3
      clear hw3
      go_wp2_with fail
      (go_at_call 56; (with_reducible refine (CH).mono ?_); rintro e w' ⟨rfl, rfl⟩)
      go_wp2_with fail
      go_ret2
      exact ⟨two_eq HV.out.symm HW.out.symm, HBW.out⟩
    · rw [hin] at CH HW0
      have hy2 := inB_true.1 hin
      obtain ⟨k, rfl⟩ := Int.eq_ofNat_of_zero_le hy2.1
      have hk : k < n := by omega
      have HW := Lib.hid (powB_yes p HW0.out)
      have CN : ∀ W, Calls Try.prog 57 #[.int .i64 p, .int .i64 0, .int .i64 1000000000000000] W fun e w' => e = .returned (.bool (inB p 0 1000000000000000)) ∧ W = w' := fun W => within_any _ _ _ W
      clear hin
      rcases hin2 : inB p 0 1000000000000000 with _ | _
      · rw [hin2] at CN HW
        have HV := Lib.hid (powR_no6 HW.out)
        clear hin2
        go_wp2_with fail
        rw [← hw3]
        have HW3 := Lib.hid hw3
        clear hw3
        go_wp2_with fail
        (go_at_call 56; (with_reducible refine (CH).mono ?_); rintro e w' ⟨rfl, rfl⟩)
        go_wp2_with fail
        (go_at_call 57; (with_reducible refine (CN _).mono ?_); rintro e w' ⟨rfl, rfl⟩)
        go_wp2_with fail
        go_ret2
        exact ⟨two_eq HV.out.symm HW.out.symm, HBW.out⟩
      · rw [hin2] at CN HW
        have hp := inB_true.1 hin2
        obtain ⟨P0, rfl⟩ := Int.eq_ofNat_of_zero_le hp.1
        obtain ⟨d, hd⟩ := HG.out.order hk
        have HV := Lib.hid (powR_yes6 HG.out hd HW.out)
        have CV := prPower_any k P0 w3 HP3.out HG.out hk hd
        generalize pw x.G e k (P0 % (d + 1)) = V at HV CV
        clear hin2 hd
        go_wp2_with fail
        rw [← hw3]
        have HW3 := Lib.hid hw3
        clear hw3
        go_wp2_with fail
        (go_at_call 56; (with_reducible refine (CH).mono ?_); rintro e w' ⟨rfl, rfl⟩)
        go_wp2_with fail
        (go_at_call 57; (with_reducible refine (CN _).mono ?_); rintro e w' ⟨rfl, rfl⟩)
        go_wp2_with fail
        (go_at_call 58; (with_reducible refine (CV).mono ?_); rintro e w' ⟨rfl, m4, rfl⟩)
        go_wp2_with fail
        go_ret2
        exact ⟨two_eq HV.out.symm HW.out.symm, below_drewN HBW.out m4⟩
end Go.Proofs.Yteggllmiapdmcab
