/-
  The program's search for the first element for which a condition holds; inverses.
-/
import Derived.Test.YteggllmiapdmcaaPrO
import Derived.Test.YteggllmiapdmcaaGS
namespace Go.Proofs.Yteggllmiapdmcaa
open Go.RowKit

set_option maxRecDepth 100000 in
set_option maxHeartbeats 2000000 in
theorem firstId_any {b n : Nat} (F : Nat → Bool)  (w : World) (c0 : w.cell? ⟨b, 0, none⟩ = some (.int .i64 n)) (hn : n ≤ 10)
    (hC : ∀ m k, k < n → Calls Try.prog 110 #[ptr b, .int .i64 (k : Nat)] (w.drewN m) fun r w' => r = .returned (.bool (F k)) ∧ ∃ m', w' = w.drewN m') :
    Calls Try.prog 109 #[ptr b, .func (.func 110) #[ptr b] #[]] w fun r w' => r = two ((((firstN n F).getD 0 : Nat)) : Int) (firstN n F).isSome ∧ ∃ m, w' = w.drewN m := by
  have HC := Lib.hid hC
  obtain ⟨o, ho⟩ : ∃ o, o = firstN n F := ⟨_, rfl⟩
  rw [← ho]
  have HO := Lib.hid ho
  clear hC ho
  go_enter Try.func109, Try.ntmps109
  go_wp2
  go_loopw [6, 11] (fun _ x wr => ∃ k : Nat, k ≤ n ∧ x = .int .i64 k ∧ Hid (∀ j, j < k → F j = false) ∧ ∃ m, wr = w.drewN m) (fun _ x _ => n - (intOf x).toNat)
  case atStart => exact ⟨0, by omega, rfl, Lib.hid (fun i hi => absurd hi (by omega)), 0, rfl⟩
  case round =>
    obtain ⟨k, hk, rfl, hno, m, rfl⟩ := hrel
    by_cases hlt : k < n
    · have C1 := HC.out m k hlt
      rcases hf : F k with _ | _
      · rw [hf] at C1
        have HF := Lib.hid hf
        clear hf
        go_wp2_with (go_at_call 110; (with_reducible refine (C1).mono ?_); rintro e w' ⟨rfl, m2, rfl⟩)
        go_roundw
        case rel =>
          refine ⟨k + 1, by omega, by go_num, Lib.hid (fun j hj => ?_), m2, rfl⟩
          rcases Nat.lt_or_ge j k with h1 | h1
          · exact hno.out j h1
          · obtain rfl : j = k := by omega
            exact HF.out
        case measure => simp [intOf]; omega
      · rw [hf] at C1
        have HE : Hid (o = some k) := Lib.hid (HO.out.trans (firstN_some hno.out hlt hf))
        clear hf
        go_wp2_with (go_at_call 110; (with_reducible refine (C1).mono ?_); rintro e w' ⟨rfl, m2, rfl⟩)
        go_ret2
        exact ⟨two_eq (by rw [HE.out]; rfl) (by rw [HE.out]; rfl), m2, rfl⟩
    · obtain rfl : n = k := by omega
      have HE : Hid (o = none) := Lib.hid (HO.out.trans (firstN_none hno.out))
      go_wp2
      go_ret2
      exact ⟨two_eq (by rw [HE.out]; rfl) (by rw [HE.out]; rfl), m, rfl⟩
set_option maxRecDepth 100000 in
set_option maxHeartbeats 2000000 in
theorem firstIn_any {b n : Nat} (F : Nat → Bool) (p1 p2 : Value) (w : World) (c0 : w.cell? ⟨b, 0, none⟩ = some (.int .i64 n)) (hn : n ≤ 10)
    (hC : ∀ m k, k < n → Calls Try.prog 114 #[.int .i64 (k : Nat), p1, p2] (w.drewN m) fun r w' => r = .returned (.bool (F k)) ∧ ∃ m', w' = w.drewN m') :
    Calls Try.prog 109 #[ptr b, .func (.func 114) #[] #[p1, p2]] w fun r w' => r = two ((((firstN n F).getD 0 : Nat)) : Int) (firstN n F).isSome ∧ ∃ m, w' = w.drewN m := by
  have HC := Lib.hid hC
  obtain ⟨o, ho⟩ : ∃ o, o = firstN n F := ⟨_, rfl⟩
  rw [← ho]
  have HO := Lib.hid ho
  clear hC ho
  go_enter Try.func109, Try.ntmps109
  go_wp2
  go_loopw [6, 11] (fun _ x wr => ∃ k : Nat, k ≤ n ∧ x = .int .i64 k ∧ Hid (∀ j, j < k → F j = false) ∧ ∃ m, wr = w.drewN m) (fun _ x _ => n - (intOf x).toNat)
  case atStart => exact ⟨0, by omega, rfl, Lib.hid (fun i hi => absurd hi (by omega)), 0, rfl⟩
  case round =>
    obtain ⟨k, hk, rfl, hno, m, rfl⟩ := hrel
    by_cases hlt : k < n
    · have C1 := HC.out m k hlt
      rcases hf : F k with _ | _
      · rw [hf] at C1
        have HF := Lib.hid hf
        clear hf
        go_wp2_with (go_at_call 114; (with_reducible refine (C1).mono ?_); rintro e w' ⟨rfl, m2, rfl⟩)
        go_roundw
        case rel =>
          refine ⟨k + 1, by omega, by go_num, Lib.hid (fun j hj => ?_), m2, rfl⟩
          rcases Nat.lt_or_ge j k with h1 | h1
          · exact hno.out j h1
          · obtain rfl : j = k := by omega
            exact HF.out
        case measure => simp [intOf]; omega
      · rw [hf] at C1
        have HE : Hid (o = some k) := Lib.hid (HO.out.trans (firstN_some hno.out hlt hf))
        clear hf
        go_wp2_with (go_at_call 114; (with_reducible refine (C1).mono ?_); rintro e w' ⟨rfl, m2, rfl⟩)
        go_ret2
        exact ⟨two_eq (by rw [HE.out]; rfl) (by rw [HE.out]; rfl), m2, rfl⟩
    · obtain rfl : n = k := by omega
      have HE : Hid (o = none) := Lib.hid (HO.out.trans (firstN_none hno.out))
      go_wp2
      go_ret2
      exact ⟨two_eq (by rw [HE.out]; rfl) (by rw [HE.out]; rfl), m, rfl⟩

set_option maxRecDepth 100000 in
set_option maxHeartbeats 2000000 in
theorem prInvClo_any {b n p1 p2 e : Nat} {t : List (List Int)} (x y : Nat) (w : World) (h1 : w.cell? ⟨p1, 0, none⟩ = some (ptr b)) (h2 : w.cell? ⟨p2, 0, none⟩ = some (.int .i64 x)) (h : Pr w b n e t) (hn : n ≤ 10) (hx : x < n) (hy : y < n) :
    Calls Try.prog 114 #[.int .i64 y, ptr p1, ptr p2] w fun r w' => r = .returned (.bool (invC t e x y)) ∧ ∃ m, w' = w.drewN m := by
  have c0 := h.ident
  have C1 : ∀ q, Calls Try.prog 101 #[ptr b, .int .i64 x, .int .i64 y] (w.drewN q) fun r w' => r = .returned (.int .i64 (cellZ t x y : Int)) ∧ ∃ m', w' = (w.drewN q).drewN m' := fun q => prOf_any x y (w.drewN q) (h.drewN q) hn hx hy
  have C2 : ∀ q, Calls Try.prog 101 #[ptr b, .int .i64 y, .int .i64 x] (w.drewN q) fun r w' => r = .returned (.int .i64 (cellZ t y x : Int)) ∧ ∃ m', w' = (w.drewN q).drewN m' := fun q => prOf_any y x (w.drewN q) (h.drewN q) hn hy hx
  have hFe : invC t e x y = (decide (cellZ t x y = e) && decide (cellZ t y x = e)) := rfl
  clear h
  generalize cellZ t x y = za at C1 hFe
  generalize cellZ t y x = zb at C2 hFe
  by_cases ha : za = e
  · by_cases hb : zb = e
    · have HF : Hid (invC t e x y = true) := Lib.hid (by rw [hFe]; simp [ha, hb])
      subst ha; subst hb
      clear hFe
      go_enter Try.func114, Try.ntmps114
      go_wp2
      go_quiet ((go_at_call 101; first | ((with_reducible refine (C1 _).mono ?_); first | exact (fun _ _ ⟨he, _, hm⟩ => ⟨he, _, hm.trans (World.drewN_drewN _ _ _)⟩) | exact (fun _ _ ⟨he, _, hm⟩ => ⟨he, _, hm.trans ((World.drewN_drewN _ _ _).trans (by rw [Nat.add_assoc]))⟩)) | ((with_reducible refine (C2 _).mono ?_); first | exact (fun _ _ ⟨he, _, hm⟩ => ⟨he, _, hm.trans (World.drewN_drewN _ _ _)⟩) | exact (fun _ _ ⟨he, _, hm⟩ => ⟨he, _, hm.trans ((World.drewN_drewN _ _ _).trans (by rw [Nat.add_assoc]))⟩))))
      go_wp2
      go_ret
      exact ⟨ret_bool HF.out.symm, _, rfl⟩
    · have HF : Hid (invC t e x y = false) := Lib.hid (by rw [hFe]; simp [hb])
      have g1 : ((zb : Int) == (e : Int)) = false := by simp; omega
      subst ha
      clear hFe
      go_enter Try.func114, Try.ntmps114
      go_wp2
      go_quiet ((go_at_call 101; first | ((with_reducible refine (C1 _).mono ?_); first | exact (fun _ _ ⟨he, _, hm⟩ => ⟨he, _, hm.trans (World.drewN_drewN _ _ _)⟩) | exact (fun _ _ ⟨he, _, hm⟩ => ⟨he, _, hm.trans ((World.drewN_drewN _ _ _).trans (by rw [Nat.add_assoc]))⟩)) | ((with_reducible refine (C2 _).mono ?_); first | exact (fun _ _ ⟨he, _, hm⟩ => ⟨he, _, hm.trans (World.drewN_drewN _ _ _)⟩) | exact (fun _ _ ⟨he, _, hm⟩ => ⟨he, _, hm.trans ((World.drewN_drewN _ _ _).trans (by rw [Nat.add_assoc]))⟩))))
      go_wp2
      go_ret
      exact ⟨ret_bool HF.out.symm, _, rfl⟩
  · have HF : Hid (invC t e x y = false) := Lib.hid (by rw [hFe]; simp [ha])
    have g1 : ((za : Int) == (e : Int)) = false := by simp; omega
    clear hFe
    go_enter Try.func114, Try.ntmps114
    go_wp2
    go_quiet ((go_at_call 101; first | ((with_reducible refine (C1 _).mono ?_); first | exact (fun _ _ ⟨he, _, hm⟩ => ⟨he, _, hm.trans (World.drewN_drewN _ _ _)⟩) | exact (fun _ _ ⟨he, _, hm⟩ => ⟨he, _, hm.trans ((World.drewN_drewN _ _ _).trans (by rw [Nat.add_assoc]))⟩)) | ((with_reducible refine (C2 _).mono ?_); first | exact (fun _ _ ⟨he, _, hm⟩ => ⟨he, _, hm.trans (World.drewN_drewN _ _ _)⟩) | exact (fun _ _ ⟨he, _, hm⟩ => ⟨he, _, hm.trans ((World.drewN_drewN _ _ _).trans (by rw [Nat.add_assoc]))⟩))))
    go_wp2
    go_ret
    exact ⟨ret_bool HF.out.symm, _, rfl⟩

set_option maxRecDepth 100000 in
set_option maxHeartbeats 2000000 in
theorem prInv_any {b n e : Nat} {t : List (List Int)} (x : Nat) (w : World) (h : Pr w b n e t) (hn : n ≤ 10) (hx : x < n) :
    Calls Try.prog 58 #[ptr b, .int .i64 x] w fun r w' => r = two (((invOf t n e x).getD 0 : Nat) : Int) (invOf t n e x).isSome ∧ Below w.heap.size w w' := by
  obtain ⟨w1, hw1⟩ : ∃ w1, w1 = (w.alloc (.cells #[ptr b] 67)).alloc (.cells #[.int .i64 x] 2) := ⟨_, rfl⟩
  have bel : Below w.heap.size w w1 := by rw [hw1]; exact ((Below.refl _ w).alloc (Nat.le_refl _) _).alloc (by simp) _
  have b1 : Blk w1 w.heap.size #[ptr b] 67 := by rw [hw1]; exact (Blk.new _ _ _).alloc _
  have b2 : Blk w1 (w.heap.size + 1) #[.int .i64 x] 2 := by
    rw [hw1]
    have := Blk.new (w.alloc (.cells #[ptr b] 67)) #[.int .i64 x] 2
    simpa using this
  have q1 : w1.cell? ⟨w.heap.size, 0, none⟩ = some (ptr b) := b1.cell 0
  have q2 : w1.cell? ⟨w.heap.size + 1, 0, none⟩ = some (.int .i64 x) := b2.cell 0
  have h1 := h.below bel h.lt
  have CF := firstIn_any (b := b) (n := n) (invC t e x) (ptr w.heap.size) (ptr (w.heap.size + 1)) w1 h1.size hn (fun m k hk => (prInvClo_any x k (w1.drewN m) q1 q2 (h1.drewN m) hn hx hk).mono fun r w' ⟨h1, m', h2⟩ => ⟨h1, m + m', by rw [h2, World.drewN_drewN]⟩)
  have BEL := Lib.hid bel
  clear bel b1 b2 q2 h1 h
  have HE : Hid (firstN n (invC t e x) = invOf t n e x) := Lib.hid rfl
  generalize firstN n (invC t e x) = o at CF HE
  go_enter Try.func58, Try.ntmps58
  go_wp2_with fail
  rw [← hw1]
  have HW1 := Lib.hid hw1
  clear hw1
  go_wp2_with fail
  (go_at_call 109; (with_reducible refine (CF).mono ?_); rintro e w' ⟨rfl, m, rfl⟩)
  go_wp2_with fail
  go_ret2
  exact ⟨two_eq (by rw [HE.out]) (by rw [HE.out]), below_drewN BEL.out m⟩
set_option maxRecDepth 100000 in
set_option maxHeartbeats 2000000 in
theorem prHasInv_any {b n e : Nat} {t : List (List Int)} (w : World) (h : Pr w b n e t) (hn : n ≤ 10) :
    Calls Try.prog 112 #[ptr b] w fun r w' => r = .returned (.bool (invsB t n e)) ∧ Below w.heap.size w w' := by
  have c0 := h.size
  have HP := Lib.hid h
  have hlt := h.lt
  clear h
  go_enter Try.func112, Try.ntmps112
  go_wp2
  go_loopw [3, 4, 5, 10] (fun _ _ _ x wr => ∃ k : Nat, k ≤ n ∧ x = .int .i64 k ∧ Hid (∀ j, j < k → (invOf t n e j).isSome = true) ∧ Below w.heap.size w wr) (fun _ _ _ x _ => n - (intOf x).toNat)
  case atStart => exact ⟨0, by omega, rfl, Lib.hid (fun i hi => absurd hi (by omega)), Below.refl _ _⟩
  case round =>
    obtain ⟨k, hk, rfl, hno, hb⟩ := hrel
    by_cases hlt2 : k < n
    · have C1 := prInv_any k wr (HP.out.below hb hlt) hn hlt2
      rcases hf : (invOf t n e k).isSome with _ | _
      · rw [hf] at C1
        have HF : Hid (invsB t n e = false) := Lib.hid (allN_bad hlt2 hf)
        clear hf
        go_wp2_with fail
        (go_at_call 58; (with_reducible refine (C1).mono ?_); rintro e w2 ⟨rfl, hb2⟩)
        go_wp2_with fail
        go_ret
        exact ⟨ret_bool HF.out.symm, hb.trans (hb2.mono hb.size)⟩
      · rw [hf] at C1
        have HF := Lib.hid hf
        clear hf
        go_wp2_with fail
        (go_at_call 58; (with_reducible refine (C1).mono ?_); rintro e w2 ⟨rfl, hb2⟩)
        go_wp2_with fail
        go_roundw
        case rel =>
          refine ⟨k + 1, by omega, by go_num, Lib.hid (fun j hj => ?_), hb.trans (hb2.mono hb.size)⟩
          rcases Nat.lt_or_ge j k with h1 | h1
          · exact hno.out j h1
          · obtain rfl : j = k := by omega
            exact HF.out
        case measure => simp [intOf]; omega
    · obtain rfl : n = k := by omega
      have HF : Hid (invsB t n e = true) := Lib.hid (allN_true.2 hno.out)
      go_wp2
      go_ret
      exact ⟨ret_bool HF.out.symm, hb⟩
end Go.Proofs.Yteggllmiapdmcaa
