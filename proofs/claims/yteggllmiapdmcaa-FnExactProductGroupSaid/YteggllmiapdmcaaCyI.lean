/-
  Groups that are made out of a number.
-/
import Derived.Test.YteggllmiapdmcaaCyG
import Derived.Test.YteggllmiapdmcaaGot
import Derived.Test.YteggllmiapdmcaaPrO
namespace Go.Proofs.Yteggllmiapdmcaa
open Go.RowKit

def MadeA (B n : Nat) (F : Nat → Nat → Nat) (w : World) (e : Ending) (w' : World) : Prop :=
  ∃ A c L, e = .returned (.agg #[.slice A n c]) ∧ Own2 B w' A n c L (gridOf n n F) ∧ Below B w w'
theorem madeA_of {B n : Nat} {F : Nat → Nat → Nat} {w w' : World} {e : Ending} (h : MadeGp B ⟨gridOf n n F⟩ w e w') : MadeA B n F w e w' := by
  obtain ⟨A, c, L, h1, h2, h3⟩ := h
  have hl : (gridOf n n F).length = n := grid_len _ _ _
  refine ⟨A, c, L, ?_, ?_, h3⟩
  · rw [h1]
    show Ending.returned (.agg #[.slice A ((gridOf n n F).length) c]) = _
    rw [hl]
  · have h4 : Own2 B w' A ((gridOf n n F).length) c L (gridOf n n F) := h2
    rw [hl] at h4; exact h4

/-- A group of the call's own, and whether there is one. -/
def MadeGB (B : Nat) (x : Gp) (ok : Bool) (w : World) (e : Ending) (w' : World) : Prop :=
  ∃ A c L, e = .returned (.tuple #[gpV x A x.G.length c, .bool ok]) ∧ Own2 B w' A x.G.length c L x.G ∧ Below B w w'
theorem madeGB_no {x : Gp} {ok : Bool} {w w' : World} (hx : x = ⟨[]⟩) (hok : ok = false) (hb : Below w.heap.size w w') : MadeGB w.heap.size x ok w (.returned (.tuple #[.agg #[.slice none 0 0], .bool false])) w' := by
  subst hx; subst hok
  exact ⟨none, 0, [], rfl, Own2.nil _ _, hb⟩
theorem madeGB_yes {x : Gp} {ok : Bool} {w w' : World} {n c : Nat} {A : Option Addr} {L : List SL} {F : Nat → Nat → Nat} (hx : x = ⟨gridOf n n F⟩) (hok : ok = true) (ho : Own2 w.heap.size w' A n c L (gridOf n n F)) (hb : Below w.heap.size w w') : MadeGB w.heap.size x ok w (.returned (.tuple #[.agg #[.slice A n c], .bool true])) w' := by
  subst hx; subst hok
  refine ⟨A, c, L, ?_, ?_, hb⟩
  · show Ending.returned (.tuple #[.agg #[.slice A n c], .bool true]) = Ending.returned (.tuple #[.agg #[.slice A ((gridOf n n F).length) c], .bool true])
    rw [grid_len]
  · show Own2 w.heap.size w' A ((gridOf n n F).length) c L (gridOf n n F)
    rw [grid_len]; exact ho

set_option maxRecDepth 100000 in
set_option maxHeartbeats 2000000 in
theorem groupOfCyc_any (n : Nat) (F : Nat → Nat → Nat) (cap0 : Value) (w : World) (hn : n ≤ 36) (hF : ∀ x y, x < n → y < n → F x y < 1000000)
    (hC : ∀ W, Below w.heap.size w W → ∀ x y, x < n → y < n → Calls Try.prog 64 #[.int .i64 (x : Nat), .int .i64 (y : Nat), cap0] W fun e w' => e = .returned (.int .i64 ((F x y : Nat) : Int)) ∧ ∃ m, w' = W.drewN m) :
    Calls Try.prog 62 #[.int .i64 n, .func (.func 64) #[] #[cap0]] w (MadeGp w.heap.size ⟨gridOf n n F⟩ w) := by
  obtain ⟨w1, hw1⟩ : ∃ w1, w1 = w.alloc (.cells #[nilV] 26) := ⟨_, rfl⟩
  have bel1 : Below w.heap.size w w1 := by rw [hw1]; exact (Below.refl _ w).alloc (Nat.le_refl _) _
  have b1 : Blk w1 w.heap.size #[nilV] 26 := by rw [hw1]; exact Blk.new _ _ _
  have hs1 : w1.heap.size = w.heap.size + 1 := by rw [hw1]; simp
  have CT := tabCyclic_any n F cap0 w1 hn hF (fun W hW => hC W (bel1.trans (hW.mono (by omega))))
  have B1 := Lib.hid b1
  have BEL := Lib.hid bel1
  clear b1 bel1 hC hF
  go_enter Try.func62, Try.ntmps62
  go_wp2_with fail
  rw [← hw1]
  have HW1 := Lib.hid hw1
  clear hw1
  go_wp2_with fail
  (go_at_call 115; (with_reducible refine (CT).mono ?_); rintro e w2 ⟨A, c, L, rfl, ho, hb⟩)
  have b2 := B1.out.below hb (by omega)
  have q0 := b2.cell 0
  have f0 := b2.frozen 0
  obtain ⟨w9, hw9⟩ : ∃ w9, w9 = w2.setCell ⟨w.heap.size, 0, none⟩ (.slice A n c) := ⟨_, rfl⟩
  have hb9 := b2.set 0 (.slice A n c)
  rw [← hw9] at hb9
  have q9 : w9.cell? ⟨w.heap.size, 0, none⟩ = some (.slice A n c) := by have := hb9.cell 0; simpa using this
  have hlen : (gridOf n n F).length = n := grid_len _ _ _
  have hown9 : Own2 w.heap.size w9 A n c L (gridOf n n F) := by
    rw [hw9]
    exact (ho.keepL (fun q hq => Below.heap_setCell w2 ⟨w.heap.size, 0, none⟩ _ q (by have := ho.ofrom q hq; show q ≠ w.heap.size; omega)) (fun t ht q hq => Below.heap_setCell w2 ⟨w.heap.size, 0, none⟩ _ q (by have := ho.from t ht q hq; show q ≠ w.heap.size; omega))).lower (by omega)
  have bel9 : Below w.heap.size w w9 := by
    rw [hw9]
    exact (BEL.out.trans (hb.mono (by omega))).setCell (Nat.le_refl _) _
  have HO9 := Lib.hid hown9
  have HB9 := Lib.hid bel9
  clear b2 hb9 hown9 bel9 ho hb
  go_wp2_with fail
  rw [← hw9]
  refine bodyPost_ret (v := gpV ⟨gridOf n n F⟩ A n c) (by simp [results, Try.results62, go_sem, q9]) rfl ?_
  refine ⟨A, c, L, ?_, ?_, HB9.out⟩
  · show Ending.returned (gpV _ A n c) = Ending.returned (gpV _ A ((gridOf n n F).length) c)
    rw [hlen]
  · show Own2 w.heap.size w9 A ((gridOf n n F).length) c L (gridOf n n F)
    rw [hlen]; exact HO9.out
set_option maxRecDepth 100000 in
set_option maxHeartbeats 2000000 in
theorem groupOfDih_any (n : Nat) (F : Nat → Nat → Nat) (cap0 : Value) (w : World) (hn : n ≤ 36) (hF : ∀ x y, x < n → y < n → F x y < 1000000)
    (hC : ∀ W, Below w.heap.size w W → ∀ x y, x < n → y < n → Calls Try.prog 63 #[.int .i64 (x : Nat), .int .i64 (y : Nat), cap0] W fun e w' => e = .returned (.int .i64 ((F x y : Nat) : Int)) ∧ ∃ m, w' = W.drewN m) :
    Calls Try.prog 62 #[.int .i64 n, .func (.func 63) #[] #[cap0]] w (MadeGp w.heap.size ⟨gridOf n n F⟩ w) := by
  obtain ⟨w1, hw1⟩ : ∃ w1, w1 = w.alloc (.cells #[nilV] 26) := ⟨_, rfl⟩
  have bel1 : Below w.heap.size w w1 := by rw [hw1]; exact (Below.refl _ w).alloc (Nat.le_refl _) _
  have b1 : Blk w1 w.heap.size #[nilV] 26 := by rw [hw1]; exact Blk.new _ _ _
  have hs1 : w1.heap.size = w.heap.size + 1 := by rw [hw1]; simp
  have CT := tabDihedral_any n F cap0 w1 hn hF (fun W hW => hC W (bel1.trans (hW.mono (by omega))))
  have B1 := Lib.hid b1
  have BEL := Lib.hid bel1
  clear b1 bel1 hC hF
  go_enter Try.func62, Try.ntmps62
  go_wp2_with fail
  rw [← hw1]
  have HW1 := Lib.hid hw1
  clear hw1
  go_wp2_with fail
  (go_at_call 115; (with_reducible refine (CT).mono ?_); rintro e w2 ⟨A, c, L, rfl, ho, hb⟩)
  have b2 := B1.out.below hb (by omega)
  have q0 := b2.cell 0
  have f0 := b2.frozen 0
  obtain ⟨w9, hw9⟩ : ∃ w9, w9 = w2.setCell ⟨w.heap.size, 0, none⟩ (.slice A n c) := ⟨_, rfl⟩
  have hb9 := b2.set 0 (.slice A n c)
  rw [← hw9] at hb9
  have q9 : w9.cell? ⟨w.heap.size, 0, none⟩ = some (.slice A n c) := by have := hb9.cell 0; simpa using this
  have hlen : (gridOf n n F).length = n := grid_len _ _ _
  have hown9 : Own2 w.heap.size w9 A n c L (gridOf n n F) := by
    rw [hw9]
    exact (ho.keepL (fun q hq => Below.heap_setCell w2 ⟨w.heap.size, 0, none⟩ _ q (by have := ho.ofrom q hq; show q ≠ w.heap.size; omega)) (fun t ht q hq => Below.heap_setCell w2 ⟨w.heap.size, 0, none⟩ _ q (by have := ho.from t ht q hq; show q ≠ w.heap.size; omega))).lower (by omega)
  have bel9 : Below w.heap.size w w9 := by
    rw [hw9]
    exact (BEL.out.trans (hb.mono (by omega))).setCell (Nat.le_refl _) _
  have HO9 := Lib.hid hown9
  have HB9 := Lib.hid bel9
  clear b2 hb9 hown9 bel9 ho hb
  go_wp2_with fail
  rw [← hw9]
  refine bodyPost_ret (v := gpV ⟨gridOf n n F⟩ A n c) (by simp [results, Try.results62, go_sem, q9]) rfl ?_
  refine ⟨A, c, L, ?_, ?_, HB9.out⟩
  · show Ending.returned (gpV _ A n c) = Ending.returned (gpV _ A ((gridOf n n F).length) c)
    rw [hlen]
  · show Own2 w.heap.size w9 A ((gridOf n n F).length) c L (gridOf n n F)
    rw [hlen]; exact HO9.out
set_option maxRecDepth 100000 in
set_option maxHeartbeats 2000000 in
theorem groupOfProd_any (n : Nat) (F : Nat → Nat → Nat) (cap0 cap1 : Value) (w : World) (hn : n ≤ 36) (hF : ∀ x y, x < n → y < n → F x y < 1000000)
    (hC : ∀ W, Below w.heap.size w W → ∀ x y, x < n → y < n → Calls Try.prog 100 #[.int .i64 (x : Nat), .int .i64 (y : Nat), cap0, cap1] W fun e w' => e = .returned (.int .i64 ((F x y : Nat) : Int)) ∧ ∃ m, w' = W.drewN m) :
    Calls Try.prog 62 #[.int .i64 n, .func (.func 100) #[] #[cap0, cap1]] w (MadeGp w.heap.size ⟨gridOf n n F⟩ w) := by
  obtain ⟨w1, hw1⟩ : ∃ w1, w1 = w.alloc (.cells #[nilV] 26) := ⟨_, rfl⟩
  have bel1 : Below w.heap.size w w1 := by rw [hw1]; exact (Below.refl _ w).alloc (Nat.le_refl _) _
  have b1 : Blk w1 w.heap.size #[nilV] 26 := by rw [hw1]; exact Blk.new _ _ _
  have hs1 : w1.heap.size = w.heap.size + 1 := by rw [hw1]; simp
  have CT := tabGroup_any n F cap0 cap1 w1 hn hF (fun W hW => hC W (bel1.trans (hW.mono (by omega))))
  have B1 := Lib.hid b1
  have BEL := Lib.hid bel1
  clear b1 bel1 hC hF
  go_enter Try.func62, Try.ntmps62
  go_wp2_with fail
  rw [← hw1]
  have HW1 := Lib.hid hw1
  clear hw1
  go_wp2_with fail
  (go_at_call 115; (with_reducible refine (CT).mono ?_); rintro e w2 ⟨A, c, L, rfl, ho, hb⟩)
  have b2 := B1.out.below hb (by omega)
  have q0 := b2.cell 0
  have f0 := b2.frozen 0
  obtain ⟨w9, hw9⟩ : ∃ w9, w9 = w2.setCell ⟨w.heap.size, 0, none⟩ (.slice A n c) := ⟨_, rfl⟩
  have hb9 := b2.set 0 (.slice A n c)
  rw [← hw9] at hb9
  have q9 : w9.cell? ⟨w.heap.size, 0, none⟩ = some (.slice A n c) := by have := hb9.cell 0; simpa using this
  have hlen : (gridOf n n F).length = n := grid_len _ _ _
  have hown9 : Own2 w.heap.size w9 A n c L (gridOf n n F) := by
    rw [hw9]
    exact (ho.keepL (fun q hq => Below.heap_setCell w2 ⟨w.heap.size, 0, none⟩ _ q (by have := ho.ofrom q hq; show q ≠ w.heap.size; omega)) (fun t ht q hq => Below.heap_setCell w2 ⟨w.heap.size, 0, none⟩ _ q (by have := ho.from t ht q hq; show q ≠ w.heap.size; omega))).lower (by omega)
  have bel9 : Below w.heap.size w w9 := by
    rw [hw9]
    exact (BEL.out.trans (hb.mono (by omega))).setCell (Nat.le_refl _) _
  have HO9 := Lib.hid hown9
  have HB9 := Lib.hid bel9
  clear b2 hb9 hown9 bel9 ho hb
  go_wp2_with fail
  rw [← hw9]
  refine bodyPost_ret (v := gpV ⟨gridOf n n F⟩ A n c) (by simp [results, Try.results62, go_sem, q9]) rfl ?_
  refine ⟨A, c, L, ?_, ?_, HB9.out⟩
  · show Ending.returned (gpV _ A n c) = Ending.returned (gpV _ A ((gridOf n n F).length) c)
    rw [hlen]
  · show Own2 w.heap.size w9 A ((gridOf n n F).length) c L (gridOf n n F)
    rw [hlen]; exact HO9.out

set_option maxHeartbeats 1000000 in
theorem cycClo_any {b : Nat} (n x y : Nat) (W : World) (h1 : 1 ≤ n) (hn : n ≤ 10) (hx : x < n) (hy : y < n) (hc : W.cell? ⟨b, 0, none⟩ = some (.int .i64 n)) :
    Calls Try.prog 64 #[.int .i64 x, .int .i64 y, ptr b] W fun e w' => e = .returned (.int .i64 (cycF n x y : Nat)) ∧ ∃ m, w' = W.drewN m := by
  obtain ⟨V, hV⟩ : ∃ V, V = cycF n x y := ⟨_, rfl⟩
  have hVI : ((x : Int) + (y : Int)).tmod (n : Int) = (V : Int) := by rw [hV]; rfl
  have hn0 : ¬ (n : Int) = 0 := by omega
  rw [← hV]
  clear hV
  go_enter Try.func64, Try.ntmps64
  go_wp2
  go_ret
  exact ⟨rfl, 0, rfl⟩

def cycR (i : Int) : Gp := if inB i 1 10 = true then ⟨gridOf i.toNat i.toNat (cycF i.toNat)⟩ else ⟨[]⟩
theorem cycR_no {i : Int} (h : inB i 1 10 = false) : cycR i = ⟨[]⟩ := by unfold cycR; rw [h]; rfl
theorem cycR_yes {n : Nat} (h : inB (n : Int) 1 10 = true) : cycR (n : Int) = ⟨gridOf n n (cycF n)⟩ := by unfold cycR; rw [if_pos h]; rfl
theorem cycR_sum (i : Int) : ((cycR i).G.map List.length).sum ≤ 2000000 := by
  rcases h : inB i 1 10 with _ | _
  · rw [cycR_no h]; simp
  · have h2 := inB_true.1 h
    obtain ⟨n, rfl⟩ := Int.eq_ofNat_of_zero_le (show 0 ≤ i by omega)
    rw [cycR_yes h]
    exact Nat.le_trans (grid_sum _ _ (by omega)) (by decide)
set_option maxHeartbeats 2000000 in
theorem specCyc_any (i : Int) (w : World) : Calls Try.prog 46 #[.int .i64 i] w (MadeGB w.heap.size (cycR i) (inB i 1 10) w) := by
  obtain ⟨w1, hw1⟩ : ∃ w1, w1 = w.alloc (.cells #[nilV] 26) := ⟨_, rfl⟩
  have bel1 : Below w.heap.size w w1 := by rw [hw1]; exact (Below.refl _ w).alloc (Nat.le_refl _) _
  have b1 : Blk w1 w.heap.size #[nilV] 26 := by rw [hw1]; exact Blk.new _ _ _
  have hs1 : w1.heap.size = w.heap.size + 1 := by rw [hw1]; simp
  have BEL := Lib.hid bel1
  have B1 := Lib.hid b1
  have CI : ∀ W, Calls Try.prog 95 #[.int .i64 i, .int .i64 1, .int .i64 10] W fun e w' => e = .returned (.bool (inB i 1 10)) ∧ W = w' := fun W => l00In_any _ _ _ W
  rcases hin : inB i 1 10 with _ | _
  · rw [hin] at CI
    have HR := Lib.hid (cycR_no hin)
    have q0 := b1.cell 0
    have f0 := b1.frozen 0
    clear hin b1 bel1
    go_enter Try.func46, Try.ntmps46
    go_wp2_with fail
    rw [← hw1]
    have HW1 := Lib.hid hw1
    clear hw1
    go_wp2_with fail
    (go_at_call 95; (with_reducible refine (CI _).mono ?_); rintro e w' ⟨rfl, rfl⟩)
    go_wp2_with fail
    obtain ⟨w9, hw9⟩ : ∃ w9, w9 = w1.setCell ⟨w.heap.size, 0, none⟩ nilV := ⟨_, rfl⟩
    have hb9 := B1.out.set 0 nilV
    rw [← hw9] at hb9
    have q9 : w9.cell? ⟨w.heap.size, 0, none⟩ = some nilV := by have := hb9.cell 0; simpa using this
    have bel9 : Below w.heap.size w w9 := by rw [hw9]; exact BEL.out.setCell (Nat.le_refl _) _
    rw [← hw9]
    refine bodyPost_ret (v := .tuple #[.agg #[.slice none 0 0], .bool false]) (by simp [results, Try.results46, go_sem, q9]) rfl ?_
    exact madeGB_no HR.out rfl bel9
  · rw [hin] at CI
    have hi2 := inB_true.1 hin
    obtain ⟨n, rfl⟩ := Int.eq_ofNat_of_zero_le (show 0 ≤ i by omega)
    have HR := Lib.hid (cycR_yes hin)
    have CC := (l05Cyclic_any n w1 (by omega) (by omega)).mono (fun _ _ => madeA_of)
    clear hin b1 bel1
    go_enter Try.func46, Try.ntmps46
    go_wp2_with fail
    rw [← hw1]
    have HW1 := Lib.hid hw1
    clear hw1
    go_wp2_with fail
    (go_at_call 95; (with_reducible refine (CI _).mono ?_); rintro e w' ⟨rfl, rfl⟩)
    go_wp2_with fail
    (go_at_call 96; (with_reducible refine (CC).mono ?_); rintro e w2 ⟨A, c, L, rfl, ho, hb⟩)
    have b2 := B1.out.below hb (by omega)
    have q0 := b2.cell 0
    have f0 := b2.frozen 0
    obtain ⟨w9, hw9⟩ : ∃ w9, w9 = w2.setCell ⟨w.heap.size, 0, none⟩ (.slice A (n) c) := ⟨_, rfl⟩
    have hb9 := b2.set 0 (.slice A (n) c)
    rw [← hw9] at hb9
    have q9 : w9.cell? ⟨w.heap.size, 0, none⟩ = some (.slice A (n) c) := by have := hb9.cell 0; simpa using this
    have hown9 : Own2 w.heap.size w9 A (n) c L (gridOf n n (cycF n)) := by
      rw [hw9]
      exact (ho.keepL (fun q hq => Below.heap_setCell w2 ⟨w.heap.size, 0, none⟩ _ q (by have := ho.ofrom q hq; show q ≠ w.heap.size; omega)) (fun t ht q hq => Below.heap_setCell w2 ⟨w.heap.size, 0, none⟩ _ q (by have := ho.from t ht q hq; show q ≠ w.heap.size; omega))).lower (by omega)
    have bel9 : Below w.heap.size w w9 := by
      rw [hw9]
      exact (BEL.out.trans (hb.mono (by omega))).setCell (Nat.le_refl _) _
    have HO9 := Lib.hid hown9
    have HB9 := Lib.hid bel9
    clear b2 hb9 hown9 bel9 ho hb
    go_wp2_with fail
    rw [← hw9]
    refine bodyPost_ret (v := .tuple #[.agg #[.slice A (n) c], .bool true]) (by simp [results, Try.results46, go_sem, q9]) rfl ?_
    exact madeGB_yes HR.out rfl HO9.out HB9.out
set_option maxRecDepth 100000 in
set_option maxHeartbeats 2000000 in
theorem implCyc_any (i : Int) (w : World) : Calls Try.prog 23 #[.int .i64 i] w (MadeGB w.heap.size (cycR i) (inB i 1 10) w) := by
  obtain ⟨w1, hw1⟩ : ∃ w1, w1 = (w.alloc (.cells #[.int .i64 i] 2)).alloc (.cells #[nilV] 26) := ⟨_, rfl⟩
  have bel1 : Below w.heap.size w w1 := by rw [hw1]; exact ((Below.refl _ w).alloc (Nat.le_refl _) _).alloc (by simp) _
  have b0 : Blk w1 w.heap.size #[.int .i64 i] 2 := by rw [hw1]; exact (Blk.new _ _ _).alloc _
  have b1 : Blk w1 (w.heap.size + 1) #[nilV] 26 := by
    rw [hw1]
    have h1 := Blk.new (w.alloc (.cells #[.int .i64 i] 2)) #[nilV] 26
    simpa using h1
  have hs1 : w1.heap.size = w.heap.size + 1 + 1 := by rw [hw1]; simp
  have BEL := Lib.hid bel1
  have B1 := Lib.hid b1
  have B0 := Lib.hid b0
  have p0 : w1.cell? ⟨w.heap.size, 0, none⟩ = some (.int .i64 i) := b0.cell 0
  have CI : ∀ W, Calls Try.prog 59 #[.int .i64 i, .int .i64 1, .int .i64 10] W fun e w' => e = .returned (.bool (inB i 1 10)) ∧ W = w' := fun W => within_any _ _ _ W
  rcases hin : inB i 1 10 with _ | _
  · rw [hin] at CI
    have HR := Lib.hid (cycR_no hin)
    have q0 := b1.cell 0
    have f0 := b1.frozen 0
    clear hin b1 bel1 b0
    go_enter Try.func23, Try.ntmps23
    go_wp2_with fail
    rw [← hw1]
    have HW1 := Lib.hid hw1
    clear hw1
    go_wp2_with fail
    (go_at_call 59; (with_reducible refine (CI _).mono ?_); rintro e w' ⟨rfl, rfl⟩)
    go_wp2_with fail
    obtain ⟨w9, hw9⟩ : ∃ w9, w9 = w1.setCell ⟨w.heap.size + 1, 0, none⟩ nilV := ⟨_, rfl⟩
    have hb9 := B1.out.set 0 nilV
    rw [← hw9] at hb9
    have q9 : w9.cell? ⟨w.heap.size + 1, 0, none⟩ = some nilV := by have := hb9.cell 0; simpa using this
    have bel9 : Below w.heap.size w w9 := by rw [hw9]; exact BEL.out.setCell (show w.heap.size ≤ w.heap.size + 1 by omega) _
    rw [← hw9]
    refine bodyPost_ret (v := .tuple #[.agg #[.slice none 0 0], .bool false]) (by simp [results, Try.results23, go_sem, q9]) rfl ?_
    exact madeGB_no HR.out rfl bel9
  · rw [hin] at CI
    have hi2 := inB_true.1 hin
    obtain ⟨n, rfl⟩ := Int.eq_ofNat_of_zero_le (show 0 ≤ i by omega)
    have HR := Lib.hid (cycR_yes hin)
    have CG := (groupOfCyc_any (n) (cycF n) (ptr w.heap.size) w1 (by omega) (fun x y hx hy => by have := cycF_lt (show 1 ≤ n by omega) x y; omega) (fun W hW x y hx hy => cycClo_any n x y W (by omega) (by omega) hx hy ((hW.cell (p := ⟨w.heap.size, 0, none⟩) (show w.heap.size < w1.heap.size by omega)).trans p0))).mono (fun _ _ => madeA_of)
    clear hin b1 bel1 b0
    go_enter Try.func23, Try.ntmps23
    go_wp2_with fail
    rw [← hw1]
    have HW1 := Lib.hid hw1
    clear hw1
    go_wp2_with fail
    (go_at_call 59; (with_reducible refine (CI _).mono ?_); rintro e w' ⟨rfl, rfl⟩)
    go_wp2_with fail
    (go_at_call 62; (with_reducible refine (CG).mono ?_); rintro e w2 ⟨A, c, L, rfl, ho, hb⟩)
    have b2 := B1.out.below hb (by omega)
    have q0 := b2.cell 0
    have f0 := b2.frozen 0
    obtain ⟨w9, hw9⟩ : ∃ w9, w9 = w2.setCell ⟨w.heap.size + 1, 0, none⟩ (.slice A (n) c) := ⟨_, rfl⟩
    have hb9 := b2.set 0 (.slice A (n) c)
    rw [← hw9] at hb9
    have q9 : w9.cell? ⟨w.heap.size + 1, 0, none⟩ = some (.slice A (n) c) := by have := hb9.cell 0; simpa using this
    have hown9 : Own2 w.heap.size w9 A (n) c L (gridOf n n (cycF n)) := by
      rw [hw9]
      exact (ho.keepL (fun q hq => Below.heap_setCell w2 ⟨w.heap.size + 1, 0, none⟩ _ q (by have := ho.ofrom q hq; show q ≠ w.heap.size + 1; omega)) (fun t ht q hq => Below.heap_setCell w2 ⟨w.heap.size + 1, 0, none⟩ _ q (by have := ho.from t ht q hq; show q ≠ w.heap.size + 1; omega))).lower (by omega)
    have bel9 : Below w.heap.size w w9 := by
      rw [hw9]
      exact (BEL.out.trans (hb.mono (by omega))).setCell (show w.heap.size ≤ w.heap.size + 1 by omega) _
    have HO9 := Lib.hid hown9
    have HB9 := Lib.hid bel9
    clear b2 hb9 hown9 bel9 ho hb
    go_wp2_with fail
    rw [← hw9]
    refine bodyPost_ret (v := .tuple #[.agg #[.slice A (n) c], .bool true]) (by simp [results, Try.results23, go_sem, q9]) rfl ?_
    exact madeGB_yes HR.out rfl HO9.out HB9.out
end Go.Proofs.Yteggllmiapdmcaa
