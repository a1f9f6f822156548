/-
  Valid groups, identities and inverses, by the model and by the program.
-/
import Derived.Test.YteggllmiapdmcaaPrG
namespace Go.Proofs.Yteggllmiapdmcaa
open Go.RowKit

theorem productsNo_any {B : Nat} (x : Gp) (A : Option Addr) (n c : Nat) (w : World) (h : Rows2 B w A n x.G) (hB : B ≤ w.heap.size) (hq : grpOk x.G = false) :
    Calls Try.prog 56 #[gpV x A n c] w fun r w' => r = .returned (.tuple #[.pointer none, .bool false]) ∧ Below w.heap.size w w' := by
  refine (productsOf_any x A n c w h hB).mono fun r w' ⟨hb, h1⟩ => ?_
  rcases h1 with ⟨_, h1⟩ | ⟨g, n', e, hg, _⟩
  · exact ⟨h1, hb⟩
  · rw [hg.ok] at hq; cases hq
theorem productsYes_any {B : Nat} (x : Gp) (A : Option Addr) (n c e : Nat) (w : World) (h : Rows2 B w A n x.G) (hB : B ≤ w.heap.size) (hq : Grp x.G n e) :
    Calls Try.prog 56 #[gpV x A n c] w fun r w' => ∃ g, r = .returned (.tuple #[ptr g, .bool true]) ∧ Hid (Pr w' g n e x.G) ∧ Hid (w.heap.size ≤ g) ∧ Hid (Below w.heap.size w w') := by
  refine (productsOf_any x A n c w h hB).mono fun r w' ⟨hb, h1⟩ => ?_
  rcases h1 with ⟨h2, h1⟩ | ⟨g, n', e', hg, h1, h3, h4⟩
  · rw [hq.ok] at h2; cases h2
  · obtain rfl : n' = n := hg.len.symm.trans hq.len
    have h5 := hg.id
    rw [hq.id] at h5
    injection h5 with h5
    subst h5
    exact ⟨g, h1, Lib.hid h3, Lib.hid h4, Lib.hid hb⟩

def idR (t : List (List Int)) : Int := if grpOk t = true then (((idOf t t.length).getD 0 : Nat) : Int) else 0
theorem idR_no {t : List (List Int)} (h : grpOk t = false) : idR t = 0 := by unfold idR; rw [h]; rfl
theorem idR_yes {t : List (List Int)} {n e : Nat} (h : Grp t n e) : idR t = (e : Int) := by unfold idR; rw [if_pos h.ok, h.len, h.id]; rfl
def withB (t : List (List Int)) (x : Int) : Bool := grpOk t && inB x 0 ((t.length : Int) - 1)
def invR (t : List (List Int)) (x : Int) : Int := if withB t x = true then (((invOf t t.length ((idOf t t.length).getD 0) x.toNat).getD 0 : Nat) : Int) else 0
theorem withB_no {t : List (List Int)} (x : Int) (h : grpOk t = false) : withB t x = false := by unfold withB; rw [h]; rfl
theorem withB_yes {t : List (List Int)} {n e : Nat} (h : Grp t n e) (x : Int) : withB t x = inB x 0 ((n : Int) - 1) := by unfold withB; rw [h.ok, h.len]; rfl
theorem invR_no {t : List (List Int)} {x : Int} (h : withB t x = false) : invR t x = 0 := by unfold invR; rw [h]; rfl
theorem invR_yes {t : List (List Int)} {n e x v : Nat} (h : Grp t n e) (hx : x < n) (hv : invOf t n e x = some v) : invR t (x : Int) = (v : Int) := by
  unfold invR
  rw [if_pos (by rw [withB_yes h]; exact inB_true.2 (by omega)), h.len, h.id]
  show (((invOf t n e x).getD 0 : Nat) : Int) = v
  rw [hv]; rfl

set_option maxRecDepth 100000 in
set_option maxHeartbeats 2000000 in
theorem l05With_any {B gb : Nat} (A : Option Addr) (n c : Nat) (t : List (List Int)) (x : Int) (w : World) (hg : w.cell? ⟨gb, 0, none⟩ = some (.slice A n c)) (h : Rows2 B w A n t) :
    Calls Try.prog 103 #[ptr gb, .int .i64 x] w fun r w' => r = .returned (.bool (withB t x)) ∧ ∃ m, w' = w.drewN m := by
  have hle := h.le
  have hl := h.len
  have CI := l05Is_any A n c t w hg h
  have HW : Hid (withB t x = (grpOk t && inB x 0 ((n : Int) - 1))) := Lib.hid (by unfold withB; rw [hl])
  clear h hl
  rcases hq : grpOk t with _ | _
  · rw [hq] at CI HW
    clear hq
    go_enter Try.func103, Try.ntmps103
    go_wp2_with fail
    (go_at_call 69; (with_reducible refine (CI).mono ?_); rintro e w' ⟨rfl, m, rfl⟩)
    go_wp2_with fail
    go_ret
    exact ⟨ret_bool (by rw [HW.out]; rfl), m, rfl⟩
  · rw [hq] at CI HW
    clear hq
    have CN : ∀ W, Calls Try.prog 95 #[.int .i64 x, .int .i64 0, .int .i64 (n - 1)] W fun e w' => e = .returned (.bool (inB x 0 ((n : Int) - 1))) ∧ W = w' := fun W => l00In_any _ _ _ W
    go_enter Try.func103, Try.ntmps103
    go_wp2_with fail
    (go_at_call 69; (with_reducible refine (CI).mono ?_); rintro e w' ⟨rfl, m, rfl⟩)
    go_wp2_with fail
    (go_at_call 95; (with_reducible refine (CN _).mono ?_); rintro e w' ⟨rfl, rfl⟩)
    go_wp2_with fail
    go_ret
    exact ⟨ret_bool (by rw [HW.out]; rfl), m, rfl⟩
set_option maxHeartbeats 1000000 in
theorem prHas_any {b n B : Nat} {e : Int} {t : List (List Int)} (A : Option Addr) (m c : Nat) (zs : List Int) (w : World) (h : Pr w b n e t) (hn : n ≤ 10) (hr : RowB .i64 B w A m zs) :
    Calls Try.prog 57 #[ptr b, .slice A m c] w fun r w' => r = .returned (.bool (zs.all fun z => inB z 0 ((n : Int) - 1))) ∧ w = w' := by
  have c0 := h.size
  have CA := allWithin_any A m c 0 ((n : Int) - 1) zs w hr
  clear h hr
  go_enter Try.func57, Try.ntmps57
  go_wp2_with fail
  (go_at_call 113; (with_reducible refine (CA).mono ?_); rintro e w' ⟨rfl, rfl⟩)
  go_wp2_with fail
  go_ret
  exact ⟨rfl, rfl⟩
theorem row_one {w : World} {b : Nat} {x : Int} (hb : b < w.heap.size) (hc : w.cell? ⟨b, 0, none⟩ = some (.int .i64 x)) (hx : (Lit.int .i64 x).wf = true) : RowB .i64 w.heap.size w (some ⟨b, 0, none⟩) 1 [x] :=
  ⟨rfl, by unfold maxLen; omega, fun z hz => by rw [List.mem_singleton.1 hz]; exact hx, fun _ => ⟨b, 0, rfl, hb, fun j hj => by
    obtain rfl : j = 0 := by omega
    exact hc⟩⟩
theorem prHas1_any {b n a : Nat} {e : Int} {t : List (List Int)} (x : Int) (w : World) (h : Pr w b n e t) (hn : n ≤ 10) (hb : a < w.heap.size) (hc : w.cell? ⟨a, 0, none⟩ = some (.int .i64 x)) (hx : (Lit.int .i64 x).wf = true) :
    Calls Try.prog 57 #[ptr b, .slice (some ⟨a, 0, none⟩) 1 1] w fun r w' => r = .returned (.bool (inB x 0 ((n : Int) - 1))) ∧ w = w' := by
  refine (prHas_any _ 1 1 [x] w h hn (row_one hb hc hx)).mono fun r w' ⟨h1, h2⟩ => ⟨h1.trans (ret_bool (by simp)), h2⟩

set_option maxHeartbeats 1000000 in
theorem specVG_any {B : Nat} (x : Gp) (A : Option Addr) (n c : Nat) (w : World) (h : Rows2 B w A n x.G) (hB : B ≤ w.heap.size) :
    Calls Try.prog 43 #[gpV x A n c] w fun e w' => e = .returned (.bool (grpOk x.G)) ∧ Below w.heap.size w w' := by
  obtain ⟨w1, hw1⟩ : ∃ w1, w1 = w.alloc (.cells #[.slice A n c] 26) := ⟨_, rfl⟩
  have bel : Below w.heap.size w w1 := by rw [hw1]; exact (Below.refl _ w).alloc (Nat.le_refl _) _
  have b1 : Blk w1 w.heap.size #[.slice A n c] 26 := by rw [hw1]; exact Blk.new _ _ _
  have CI := l05Is_any A n c x.G w1 (b1.cell 0) (h.below (bel.mono hB))
  have BEL := Lib.hid bel
  clear bel b1 h
  go_enter Try.func43, Try.ntmps43
  go_wp2_with fail
  rw [← hw1]
  have HW1 := Lib.hid hw1
  clear hw1
  go_wp2_with fail
  (go_at_call 69; (with_reducible refine (CI).mono ?_); rintro e w' ⟨rfl, m, rfl⟩)
  go_wp2_with fail
  go_ret
  exact ⟨rfl, below_drewN BEL.out m⟩
set_option maxHeartbeats 1000000 in
theorem implVG_any {B : Nat} (x : Gp) (A : Option Addr) (n c : Nat) (w : World) (h : Rows2 B w A n x.G) (hB : B ≤ w.heap.size) :
    Calls Try.prog 21 #[gpV x A n c] w fun e w' => e = .returned (.bool (grpOk x.G)) ∧ Below w.heap.size w w' := by
  obtain ⟨w1, hw1⟩ : ∃ w1, w1 = w.alloc (.cells #[.slice A n c] 26) := ⟨_, rfl⟩
  have bel : Below w.heap.size w w1 := by rw [hw1]; exact (Below.refl _ w).alloc (Nat.le_refl _) _
  have b1 : Blk w1 w.heap.size #[.slice A n c] 26 := by rw [hw1]; exact Blk.new _ _ _
  have q1 := b1.cell 0
  have hs := bel.size
  have h1 := h.below (bel.mono hB)
  have hl := h.len
  rcases hq : grpOk x.G with _ | _
  · have CP := productsNo_any x A n c w1 h1 (by omega) hq
    have BEL := Lib.hid bel
    clear bel b1 h h1 hq
    go_enter Try.func21, Try.ntmps21
    go_wp2_with fail
    rw [← hw1]
    have HW1 := Lib.hid hw1
    clear hw1
    go_wp2_with fail
    (go_at_call 56; (with_reducible refine (CP).mono ?_); rintro e w2 ⟨rfl, hb⟩)
    go_wp2_with fail
    go_ret
    exact ⟨rfl, BEL.out.trans (hb.mono hs)⟩
  · obtain ⟨e, hg⟩ := grp_of hl hq
    have CP := productsYes_any x A n c e w1 h1 (by omega) hg
    have BEL := Lib.hid bel
    clear bel b1 h h1 hq
    go_enter Try.func21, Try.ntmps21
    go_wp2_with fail
    rw [← hw1]
    have HW1 := Lib.hid hw1
    clear hw1
    go_wp2_with fail
    (go_at_call 56; (with_reducible refine (CP).mono ?_); rintro e w2 ⟨g, rfl, hP, hge, hb⟩)
    go_wp2_with fail
    go_ret
    exact ⟨rfl, BEL.out.trans (hb.out.mono hs)⟩
set_option maxHeartbeats 1000000 in
theorem specId_any {B : Nat} (x : Gp) (A : Option Addr) (n c : Nat) (w : World) (h : Rows2 B w A n x.G) (hB : B ≤ w.heap.size) :
    Calls Try.prog 52 #[gpV x A n c] w fun e w' => e = two (idR x.G) (grpOk x.G) ∧ Below w.heap.size w w' := by
  obtain ⟨w1, hw1⟩ : ∃ w1, w1 = w.alloc (.cells #[.slice A n c] 26) := ⟨_, rfl⟩
  have bel : Below w.heap.size w w1 := by rw [hw1]; exact (Below.refl _ w).alloc (Nat.le_refl _) _
  have b1 : Blk w1 w.heap.size #[.slice A n c] 26 := by rw [hw1]; exact Blk.new _ _ _
  have q1 := b1.cell 0
  have h1 := h.below (bel.mono hB)
  have CI := l05Is_any A n c x.G w1 q1 h1
  have BEL := Lib.hid bel
  have hl := h.len
  clear bel b1 h
  rcases hq : grpOk x.G with _ | _
  · rw [hq] at CI
    have HV := Lib.hid (idR_no hq)
    clear hq h1
    go_enter Try.func52, Try.ntmps52
    go_wp2_with fail
    rw [← hw1]
    have HW1 := Lib.hid hw1
    clear hw1
    go_wp2_with fail
    (go_at_call 69; (with_reducible refine (CI).mono ?_); rintro e w' ⟨rfl, m, rfl⟩)
    go_wp2_with fail
    go_ret2
    exact ⟨two_eq HV.out.symm rfl, below_drewN BEL.out m⟩
  · rw [hq] at CI
    obtain ⟨e, hg⟩ := grp_of hl hq
    have HV := Lib.hid (idR_yes hg)
    have CD : ∀ m, Calls Try.prog 102 #[.slice A n c] (w1.drewN m) fun r w' => r = .returned (.int .i64 (e : Int)) ∧ ∃ m', w' = w1.drewN m' := fun m => (l05Identity_any A n c x.G (w1.drewN m) (h1.drewN m) hg.tab hg.n10).mono fun r w' ⟨h1, m', h2⟩ => ⟨by rw [h1, hg.id]; rfl, m + m', by rw [h2, World.drewN_drewN]⟩
    clear hq h1 hg
    go_enter Try.func52, Try.ntmps52
    go_wp2_with fail
    rw [← hw1]
    have HW1 := Lib.hid hw1
    clear hw1
    go_wp2_with fail
    (go_at_call 69; (with_reducible refine (CI).mono ?_); rintro e w' ⟨rfl, m, rfl⟩)
    go_wp2_with fail
    (go_at_call 102; (with_reducible refine (CD m).mono ?_); rintro e w' ⟨rfl, m2, rfl⟩)
    go_wp2_with fail
    go_ret2
    exact ⟨two_eq HV.out.symm rfl, below_drewN BEL.out m2⟩
set_option maxHeartbeats 1000000 in
theorem implId_any {B : Nat} (x : Gp) (A : Option Addr) (n c : Nat) (w : World) (h : Rows2 B w A n x.G) (hB : B ≤ w.heap.size) :
    Calls Try.prog 17 #[gpV x A n c] w fun e w' => e = two (idR x.G) (grpOk x.G) ∧ Below w.heap.size w w' := by
  obtain ⟨w1, hw1⟩ : ∃ w1, w1 = w.alloc (.cells #[.slice A n c] 26) := ⟨_, rfl⟩
  have bel : Below w.heap.size w w1 := by rw [hw1]; exact (Below.refl _ w).alloc (Nat.le_refl _) _
  have b1 : Blk w1 w.heap.size #[.slice A n c] 26 := by rw [hw1]; exact Blk.new _ _ _
  have q1 := b1.cell 0
  have hs := bel.size
  have h1 := h.below (bel.mono hB)
  have hl := h.len
  rcases hq : grpOk x.G with _ | _
  · have CP := productsNo_any x A n c w1 h1 (by omega) hq
    have HV := Lib.hid (idR_no hq)
    have BEL := Lib.hid bel
    clear bel b1 h h1 hq
    go_enter Try.func17, Try.ntmps17
    go_wp2_with fail
    rw [← hw1]
    have HW1 := Lib.hid hw1
    clear hw1
    go_wp2_with fail
    (go_at_call 56; (with_reducible refine (CP).mono ?_); rintro e w2 ⟨rfl, hb⟩)
    go_wp2_with fail
    go_ret2
    exact ⟨two_eq HV.out.symm rfl, BEL.out.trans (hb.mono hs)⟩
  · obtain ⟨e, hg⟩ := grp_of hl hq
    have HV := Lib.hid (idR_yes hg)
    have CP := productsYes_any x A n c e w1 h1 (by omega) hg
    have BEL := Lib.hid bel
    clear bel b1 h h1 hq
    go_enter Try.func17, Try.ntmps17
    go_wp2_with fail
    rw [← hw1]
    have HW1 := Lib.hid hw1
    clear hw1
    go_wp2_with fail
    (go_at_call 56; (with_reducible refine (CP).mono ?_); rintro e w2 ⟨g, rfl, hP, hge, hb⟩)
    have c1 := hP.out.ident
    go_wp2_with fail
    go_ret2
    exact ⟨two_eq HV.out.symm rfl, BEL.out.trans (hb.out.mono hs)⟩
set_option maxHeartbeats 2000000 in
theorem specInvG_any {B : Nat} (x : Gp) (A : Option Addr) (n c : Nat) (y : Int) (w : World) (h : Rows2 B w A n x.G) (hB : B ≤ w.heap.size) :
    Calls Try.prog 53 #[gpV x A n c, .int .i64 y] w fun e w' => e = two (invR x.G y) (withB x.G y) ∧ Below w.heap.size w w' := by
  obtain ⟨w1, hw1⟩ : ∃ w1, w1 = w.alloc (.cells #[.slice A n c] 26) := ⟨_, rfl⟩
  have bel : Below w.heap.size w w1 := by rw [hw1]; exact (Below.refl _ w).alloc (Nat.le_refl _) _
  have b1 : Blk w1 w.heap.size #[.slice A n c] 26 := by rw [hw1]; exact Blk.new _ _ _
  have q1 := b1.cell 0
  have h1 := h.below (bel.mono hB)
  have CI := l05With_any A n c x.G y w1 q1 h1
  have BEL := Lib.hid bel
  have hl := h.len
  clear bel b1 h
  rcases hq : withB x.G y with _ | _
  · rw [hq] at CI
    have HV := Lib.hid (invR_no hq)
    clear hq h1
    go_enter Try.func53, Try.ntmps53
    go_wp2_with fail
    rw [← hw1]
    have HW1 := Lib.hid hw1
    clear hw1
    go_wp2_with fail
    (go_at_call 103; (with_reducible refine (CI).mono ?_); rintro e w' ⟨rfl, m, rfl⟩)
    go_wp2_with fail
    go_ret2
    exact ⟨two_eq HV.out.symm rfl, below_drewN BEL.out m⟩
  · rw [hq] at CI
    have hq2 := hq
    unfold withB at hq2
    rw [Bool.and_eq_true] at hq2
    obtain ⟨e, hg⟩ := grp_of hl hq2.1
    have hy := inB_true.1 hq2.2
    rw [hl] at hy
    obtain ⟨k, rfl⟩ := Int.eq_ofNat_of_zero_le hy.1
    have hk : k < n := by omega
    obtain ⟨v, hv, hvi, _⟩ := hg.inverse hk
    have HV := Lib.hid (invR_yes hg hk hvi)
    have CD : ∀ m, Calls Try.prog 102 #[.slice A n c] (w1.drewN m) fun r w' => r = .returned (.int .i64 (e : Int)) ∧ ∃ m', w' = (w1.drewN m).drewN m' := fun m => (l05Identity_any A n c x.G (w1.drewN m) (h1.drewN m) hg.tab hg.n10).mono fun r w' ⟨h1, m', h2⟩ => ⟨by rw [h1, hg.id]; rfl, m', h2⟩
    have CV : ∀ m, Calls Try.prog 104 #[.slice A n c, .int .i64 (e : Int), .int .i64 (k : Nat)] (w1.drewN m) fun r w' => r = .returned (.int .i64 (v : Int)) ∧ ∃ m', w' = (w1.drewN m).drewN m' := fun m => (l05Inverse_any A n c x.G e k (w1.drewN m) (h1.drewN m) hg.tab hg.n10 hk hg.elt).mono fun r w' ⟨h1, m', h2⟩ => ⟨by rw [h1, hvi]; rfl, m', h2⟩
    clear hq hq2 h1 hg hvi
    go_enter Try.func53, Try.ntmps53
    go_wp2_with fail
    rw [← hw1]
    have HW1 := Lib.hid hw1
    clear hw1
    go_wp2_with fail
    (go_at_call 103; (with_reducible refine (CI).mono ?_); rintro e w' ⟨rfl, m, rfl⟩)
    go_wp2_with fail
    go_quiet ((first | (go_at_call 102; first | ((with_reducible refine (CD _).mono ?_); first | exact (fun _ _ ⟨he, _, hm⟩ => ⟨he, _, hm.trans (World.drewN_drewN _ _ _)⟩) | exact (fun _ _ ⟨he, _, hm⟩ => ⟨he, _, hm.trans ((World.drewN_drewN _ _ _).trans (by rw [Nat.add_assoc]))⟩))) | (go_at_call 104; first | ((with_reducible refine (CV _).mono ?_); first | exact (fun _ _ ⟨he, _, hm⟩ => ⟨he, _, hm.trans (World.drewN_drewN _ _ _)⟩) | exact (fun _ _ ⟨he, _, hm⟩ => ⟨he, _, hm.trans ((World.drewN_drewN _ _ _).trans (by rw [Nat.add_assoc]))⟩)))))
    go_wp2_with fail
    go_ret2
    exact ⟨two_eq HV.out.symm rfl, below_drewN (below_drewN BEL.out _) _⟩
set_option maxHeartbeats 2000000 in
theorem implInvG_any {B : Nat} (x : Gp) (A : Option Addr) (n c : Nat) (y : Int) (w : World) (h : Rows2 B w A n x.G) (hB : B ≤ w.heap.size) (hy : (Lit.int .i64 y).wf = true) :
    Calls Try.prog 18 #[gpV x A n c, .int .i64 y] w fun e w' => e = two (invR x.G y) (withB x.G y) ∧ Below w.heap.size w w' := by
  obtain ⟨w1, hw1⟩ : ∃ w1, w1 = w.alloc (.cells #[.slice A n c] 26) := ⟨_, rfl⟩
  have bel : Below w.heap.size w w1 := by rw [hw1]; exact (Below.refl _ w).alloc (Nat.le_refl _) _
  have b1 : Blk w1 w.heap.size #[.slice A n c] 26 := by rw [hw1]; exact Blk.new _ _ _
  have q1 := b1.cell 0
  have hs := bel.size
  have h1 := h.below (bel.mono hB)
  have hl := h.len
  rcases hq : grpOk x.G with _ | _
  · have CP := productsNo_any x A n c w1 h1 (by omega) hq
    have HW := Lib.hid (withB_no y hq)
    have HV := Lib.hid (invR_no HW.out)
    have BEL := Lib.hid bel
    clear bel b1 h h1 hq
    go_enter Try.func18, Try.ntmps18
    go_wp2_with fail
    rw [← hw1]
    have HW1 := Lib.hid hw1
    clear hw1
    go_wp2_with fail
    (go_at_call 56; (with_reducible refine (CP).mono ?_); rintro e w2 ⟨rfl, hb⟩)
    go_wp2_with fail
    go_ret2
    exact ⟨two_eq HV.out.symm HW.out.symm, BEL.out.trans (hb.mono hs)⟩
  · obtain ⟨e, hg⟩ := grp_of hl hq
    have HW := Lib.hid (withB_yes hg y)
    have CP := productsYes_any x A n c e w1 h1 (by omega) hg
    have BEL := Lib.hid bel
    have HG := Lib.hid hg
    clear bel b1 h h1 hq hg
    go_enter Try.func18, Try.ntmps18
    go_wp2_with fail
    rw [← hw1]
    have HW1 := Lib.hid hw1
    clear hw1
    go_wp2_with fail
    (go_at_call 56; (with_reducible refine (CP).mono ?_); rintro e w2 ⟨g, rfl, hP, hge, hb⟩)
    obtain ⟨w3, hw3⟩ : ∃ w3, w3 = w2.alloc (.cells #[.int .i64 y] 2) := ⟨_, rfl⟩
    have bel3 : Below w2.heap.size w2 w3 := by rw [hw3]; exact (Below.refl _ _).alloc (Nat.le_refl _) _
    have b3 : Blk w3 w2.heap.size #[.int .i64 y] 2 := by rw [hw3]; exact Blk.new _ _ _
    have hP3 := hP.out.below bel3 hP.out.lt
    have hbw : Below w.heap.size w w3 := (BEL.out.trans (hb.out.mono hs)).trans (bel3.mono (Nat.le_trans BEL.out.size hb.out.size))
    have CH := prHas1_any y w3 hP3 HG.out.n10 b3.lt (b3.cell 0) hy
    have HP3 := Lib.hid hP3
    have HBW := Lib.hid hbw
    clear bel3 b3 hP3 hbw
    rcases hin : inB y 0 ((n : Int) - 1) with _ | _
    · rw [hin] at CH HW
      have HV := Lib.hid (invR_no HW.out)
      clear hin
      go_wp2_with fail
      rw [← hw3]
      have HW3 := Lib.hid hw3
      clear hw3
      go_wp2_with fail
      (go_at_call 57; (with_reducible refine (CH).mono ?_); rintro e w' ⟨rfl, rfl⟩)
      go_wp2_with fail
      go_ret2
      exact ⟨two_eq HV.out.symm HW.out.symm, HBW.out⟩
    · rw [hin] at CH HW
      have hy2 := inB_true.1 hin
      obtain ⟨k, rfl⟩ := Int.eq_ofNat_of_zero_le hy2.1
      have hk : k < n := by omega
      obtain ⟨v, hv, hvi, _⟩ := HG.out.inverse hk
      have HV := Lib.hid (invR_yes HG.out hk hvi)
      have CV := prInv_any k w3 HP3.out HG.out.n10 hk
      rw [hvi] at CV
      simp only [Option.getD_some, Option.isSome_some] at CV
      clear hin
      go_wp2_with fail
      rw [← hw3]
      have HW3 := Lib.hid hw3
      clear hw3
      go_wp2_with fail
      (go_at_call 57; (with_reducible refine (CH).mono ?_); rintro e w' ⟨rfl, rfl⟩)
      go_wp2_with fail
      (go_at_call 58; (with_reducible refine (CV).mono ?_); rintro e w4 ⟨rfl, hb4⟩)
      go_wp2_with fail
      go_ret2
      exact ⟨two_eq HV.out.symm HW.out.symm, HBW.out.trans (hb4.mono HBW.out.size)⟩
end Go.Proofs.Yteggllmiapdmcaa
