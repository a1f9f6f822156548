/-
  Complete mappings and antisymmetric orders, as the model tells them.
-/
import Derived.Test.YteggllmiapdmcabGV
import Derived.Test.YteggllmiapdmcabCyc
import Derived.Test.YteggllmiapdmcabSumN
namespace Go.Proofs.Yteggllmiapdmcab
open Go.RowKit

def ordL (n : Nat) (zs : List Int) : Bool := ordGo n [] zs && decide ((zs.length : Int) = n)
theorem ordL_eq {n m : Nat} {zs : List Int} (hl : zs.length = m) : ordL n zs = (ordGo n [] zs && decide ((m : Int) = n)) := by unfold ordL; rw [hl]
theorem ordL_isOrd {n : Nat} {zs : List Int} (hn : 1 ≤ n ∧ n ≤ 36) (hl : zs.length = n) : isOrd zs = ordL n zs := by
  rw [isOrd_len hl]
  unfold ordL
  rw [hl, decide_eq_true hn]
  simp
theorem ordL_len {n : Nat} {zs : List Int} (h : ¬ zs.length = n) : ordL n zs = false := by
  unfold ordL
  rw [decide_eq_false (by omega)]; simp
theorem ordL_parts {n : Nat} {zs : List Int} (hn : 1 ≤ n ∧ n ≤ 36) (h : ordL n zs = true) : zs.length = n ∧ isOrd zs = true := by
  have h2 := h
  unfold ordL at h2
  simp only [Bool.and_eq_true, decide_eq_true_eq] at h2
  have hl : zs.length = n := by omega
  exact ⟨hl, by rw [ordL_isOrd hn hl]; exact h⟩
theorem ord_cell {B n x : Nat} {A : Option Addr} {zs : List Int} {w : World} (h : RowB .i64 B w A n zs) (ho : isOrd zs = true) (hx : x < n) :
    ∃ b o, A = some ⟨b, o, none⟩ ∧ b < B ∧ w.cell? ⟨b, o + x, none⟩ = some (.int .i64 ((fnOf zs x : Nat) : Int)) := by
  obtain ⟨b, o, z, rfl, hb, hz, hc, _⟩ := h.at_ hx
  have hl := h.len
  have h1 := ord_at ho (show x < zs.length by omega)
  rw [hz] at h1
  injection h1 with h1
  exact ⟨b, o, rfl, hb, by rw [hc, h1]⟩
theorem ord_lt {n x : Nat} {zs : List Int} (ho : isOrd zs = true) (hl : zs.length = n) (hx : x < n) : fnOf zs x < n := by
  have := (ord_perm ho).lt x (by omega)
  omega
theorem drewF (w : World) (a b c : Nat) : ∃ m, ((w.drewN a).drewN b).drewN c = w.drewN m := ⟨_, (World.drewN_drewN _ _ _).trans (World.drewN_drewN _ _ _)⟩
theorem drewG (w : World) (a b c d : Nat) : ∃ m, (((w.drewN a).drewN b).drewN c).drewN d = w.drewN m := ⟨_, ((World.drewN_drewN _ _ _).trans (World.drewN_drewN _ _ _)).trans (World.drewN_drewN _ _ _)⟩

/-- Whether an order takes x and y to elements that it must not take them to. -/
def clashF (cmp : Bool) (t : List (List Int)) (f : Nat → Nat) (x y : Nat) : Bool :=
  match cmp with
  | true => decide (cellZ t x (f x) = cellZ t y (f y))
  | false => decide (cellZ t x (f y) = cellZ t y (f x))
def fitC (cmp : Bool) (t : List (List Int)) (f : Nat → Nat) (y x : Nat) : Bool := !decide (f x = f y) && !clashF cmp t f x y
def fitF (cmp : Bool) (t : List (List Int)) (f : Nat → Nat) (y : Nat) : Bool := allN y (fitC cmp t f y)
def fitA (cmp : Bool) (t : List (List Int)) (f : Nat → Nat) (n : Nat) : Bool := allN n (fitF cmp t f)
theorem fitA_pairs {cmp : Bool} {t : List (List Int)} {f : Nat → Nat} {n : Nat} (hi : ∀ x y, x < n → y < n → f x = f y → x = y) : fitA cmp t f n = decide (pairsY (clashF cmp t f) n = 0) := by
  rcases h : fitA cmp t f n with _ | _
  · symm
    apply decide_eq_false
    intro h0
    have : fitA cmp t f n = true := allN_true.2 fun y hy => allN_true.2 fun x hx => by
      have h1 : sumN (fun x => b1 (clashF cmp t f x y)) y = 0 := by
        have h2 := sumN_mono (f := fun y => sumN (fun x => b1 (clashF cmp t f x y)) y) (show y + 1 ≤ n by omega)
        unfold pairsY at h0
        rw [h0, sumN_succ] at h2
        omega
      have h3 : b1 (clashF cmp t f x y) = 0 := by
        have h2 := sumN_mono (f := fun x => b1 (clashF cmp t f x y)) (show x + 1 ≤ y by omega)
        rw [h1, sumN_succ] at h2
        omega
      have h4 : clashF cmp t f x y = false := by
        rcases hc : clashF cmp t f x y with _ | _
        · rfl
        · rw [hc] at h3; cases h3
      unfold fitC
      rw [h4]
      have : ¬ f x = f y := fun e => by have := hi x y (by omega) hy e; omega
      simp [this]
    rw [this] at h; cases h
  · symm
    apply decide_eq_true
    unfold pairsY
    refine sumN_zero n fun y hy => sumN_zero y fun x hx => ?_
    have h1 := allN_true.1 (allN_true.1 h y hy) x hx
    simp only [fitC, Bool.and_eq_true, Bool.not_eq_true'] at h1
    rw [h1.2]; rfl
def mapB (cmp : Bool) (t : List (List Int)) (zs : List Int) : Bool := grpOk t && (ordL t.length zs && fitA cmp t (fnOf zs) t.length)

set_option maxRecDepth 100000 in
set_option maxHeartbeats 8000000 in
theorem l05Fits_true {B gb b2 o2 n y : Nat} (A : Option Addr) (c M c2 : Nat) (f : Nat → Nat) (t : List (List Int)) (w : World) (hg : w.cell? ⟨gb, 0, none⟩ = some (.slice A n c)) (h : Rows2 B w A n t) (ht : tabOk n n t = true) (hn : n ≤ 10)
    (hM : M = y + 1) (hyn : y < n) (hf : ∀ x, x < M → f x < n ∧ w.cell? ⟨b2, o2 + x, none⟩ = some (.int .i64 (f x : Int))) :
    Calls Try.prog 101 #[ptr gb, .slice (some ⟨b2, o2, none⟩) M c2, .bool true] w fun r w' => r = .returned (.bool (fitF true t f y)) ∧ ∃ m, w' = w.drewN m := by
  obtain ⟨b, o1, P, Q, C, rfl, hT⟩ := tabR_of h ht (show 0 < n by omega)
  have HT := Lib.hid hT
  have HM := Lib.hid hM
  have hMI : (M : Int) - 1 = (y : Int) := by omega
  have hMl : M ≤ 10 := by omega
  have hMg : y < M := by omega
  have HF := Lib.hid hf
  clear h ht hT hM hf
  go_enter Try.func101, Try.ntmps101
  go_wp2
  go_loopw [8] (fun x wr => ∃ k : Nat, k ≤ y ∧ x = .int .i64 k ∧ Hid (∀ j, j < k → fitC true t f y j = true) ∧ ∃ m, wr = w.drewN m) (fun x _ => y - (intOf x).toNat)
  case atStart => exact ⟨0, by omega, rfl, Lib.hid (fun i hi => absurd hi (by omega)), 0, rfl⟩
  case round =>
    obtain ⟨k, hk, rfl, hall, m, rfl⟩ := hrel
    by_cases hlt : k < y
    · have hkn : k < n := by omega
      have hkM : k < M := by omega
      obtain ⟨ha, e1⟩ := HF.out k hkM
      obtain ⟨hz, e2⟩ := HF.out y hMg
      have r1 := HT.out.row hkn
      have r2 := HT.out.row hyn
      have d1 := HT.out.cell hkn ha
      have d2 := HT.out.cell hyn hz
      have hFe : clashF true t f k y = decide (cellZ t k (f k) = cellZ t y (f y)) := rfl
      have hEe : fitC true t f y k = (!decide (f k = f y) && !clashF true t f k y) := rfl
      rw [hFe] at hEe
      clear hFe
      generalize f k = a at e1 d1 d2 ha hEe
      generalize f y = z at e2 d1 d2 hz hEe
      generalize cellZ t k a = za at d1 hEe
      generalize cellZ t y z = zb at d2 hEe
      generalize P k = Pk at r1 d1
      generalize P y = Py at r2 d2
      generalize Q k = Qk at r1 d1
      generalize Q y = Qy at r2 d2
      generalize C k = Ck at r1
      generalize C y = Cy at r2
      by_cases h1 : a = z
      · have HN : Hid (fitF true t f y = false) := Lib.hid (allN_bad hlt (by rw [hEe]; simp [h1]))
        subst h1
        clear hEe
        go_wp2
        go_quiet (fail)
        go_wp2
        go_ret
        exact ⟨ret_bool HN.out.symm, drewE _ _ _⟩
      · have g1 : ((a : Int) == (z : Int)) = false := by simp; omega
        by_cases h2 : za = zb
        · have HN : Hid (fitF true t f y = false) := Lib.hid (allN_bad hlt (by rw [hEe]; simp [h1, h2]))
          subst h2
          clear hEe
          go_wp2
          go_quiet (fail)
          go_wp2
          go_quiet (fail)
          go_wp2
          go_ret
          exact ⟨ret_bool HN.out.symm, drewF _ _ _ _⟩
        · have g2 : ((za : Int) == (zb : Int)) = false := by simp; omega
          have HY : Hid (fitC true t f y k = true) := Lib.hid (by rw [hEe]; simp [h1, h2])
          clear hEe
          go_wp2
          go_quiet (fail)
          go_wp2
          go_quiet (fail)
          go_wp2
          go_quiet (fail)
          go_wp2
          go_roundw
          case rel =>
            refine ⟨k + 1, by omega, by go_num, Lib.hid (fun j hj => ?_), _, rfl⟩
            rcases Nat.lt_or_ge j k with h1 | h1
            · exact hall.out j h1
            · obtain rfl : j = k := by omega
              exact HY.out
          case measure => simp [intOf]; omega
    · obtain rfl : y = k := by omega
      have HY : Hid (fitF true t f y = true) := Lib.hid (allN_true.2 hall.out)
      go_wp2
      go_ret
      exact ⟨ret_bool HY.out.symm, m, rfl⟩
set_option maxRecDepth 100000 in
set_option maxHeartbeats 8000000 in
theorem l05Fits_false {B gb b2 o2 n y : Nat} (A : Option Addr) (c M c2 : Nat) (f : Nat → Nat) (t : List (List Int)) (w : World) (hg : w.cell? ⟨gb, 0, none⟩ = some (.slice A n c)) (h : Rows2 B w A n t) (ht : tabOk n n t = true) (hn : n ≤ 10)
    (hM : M = y + 1) (hyn : y < n) (hf : ∀ x, x < M → f x < n ∧ w.cell? ⟨b2, o2 + x, none⟩ = some (.int .i64 (f x : Int))) :
    Calls Try.prog 101 #[ptr gb, .slice (some ⟨b2, o2, none⟩) M c2, .bool false] w fun r w' => r = .returned (.bool (fitF false t f y)) ∧ ∃ m, w' = w.drewN m := by
  obtain ⟨b, o1, P, Q, C, rfl, hT⟩ := tabR_of h ht (show 0 < n by omega)
  have HT := Lib.hid hT
  have HM := Lib.hid hM
  have hMI : (M : Int) - 1 = (y : Int) := by omega
  have hMl : M ≤ 10 := by omega
  have hMg : y < M := by omega
  have HF := Lib.hid hf
  clear h ht hT hM hf
  go_enter Try.func101, Try.ntmps101
  go_wp2
  go_loopw [8] (fun x wr => ∃ k : Nat, k ≤ y ∧ x = .int .i64 k ∧ Hid (∀ j, j < k → fitC false t f y j = true) ∧ ∃ m, wr = w.drewN m) (fun x _ => y - (intOf x).toNat)
  case atStart => exact ⟨0, by omega, rfl, Lib.hid (fun i hi => absurd hi (by omega)), 0, rfl⟩
  case round =>
    obtain ⟨k, hk, rfl, hall, m, rfl⟩ := hrel
    by_cases hlt : k < y
    · have hkn : k < n := by omega
      have hkM : k < M := by omega
      obtain ⟨ha, e1⟩ := HF.out k hkM
      obtain ⟨hz, e2⟩ := HF.out y hMg
      have r1 := HT.out.row hkn
      have r2 := HT.out.row hyn
      have d1 := HT.out.cell hkn hz
      have d2 := HT.out.cell hyn ha
      have hFe : clashF false t f k y = decide (cellZ t k (f y) = cellZ t y (f k)) := rfl
      have hEe : fitC false t f y k = (!decide (f k = f y) && !clashF false t f k y) := rfl
      rw [hFe] at hEe
      clear hFe
      generalize f k = a at e1 d1 d2 ha hEe
      generalize f y = z at e2 d1 d2 hz hEe
      generalize cellZ t k z = za at d1 hEe
      generalize cellZ t y a = zb at d2 hEe
      generalize P k = Pk at r1 d1
      generalize P y = Py at r2 d2
      generalize Q k = Qk at r1 d1
      generalize Q y = Qy at r2 d2
      generalize C k = Ck at r1
      generalize C y = Cy at r2
      by_cases h1 : a = z
      · have HN : Hid (fitF false t f y = false) := Lib.hid (allN_bad hlt (by rw [hEe]; simp [h1]))
        subst h1
        clear hEe
        go_wp2
        go_quiet (fail)
        go_wp2
        go_ret
        exact ⟨ret_bool HN.out.symm, drewE _ _ _⟩
      · have g1 : ((a : Int) == (z : Int)) = false := by simp; omega
        by_cases h2 : za = zb
        · have HN : Hid (fitF false t f y = false) := Lib.hid (allN_bad hlt (by rw [hEe]; simp [h1, h2]))
          subst h2
          clear hEe
          go_wp2
          go_quiet (fail)
          go_wp2
          go_quiet (fail)
          go_wp2
          go_quiet (fail)
          go_wp2
          go_ret
          exact ⟨ret_bool HN.out.symm, drewG _ _ _ _ _⟩
        · have g2 : ((za : Int) == (zb : Int)) = false := by simp; omega
          have HY : Hid (fitC false t f y k = true) := Lib.hid (by rw [hEe]; simp [h1, h2])
          clear hEe
          go_wp2
          go_quiet (fail)
          go_wp2
          go_quiet (fail)
          go_wp2
          go_quiet (fail)
          go_wp2
          go_roundw
          case rel =>
            refine ⟨k + 1, by omega, by go_num, Lib.hid (fun j hj => ?_), _, rfl⟩
            rcases Nat.lt_or_ge j k with h1 | h1
            · exact hall.out j h1
            · obtain rfl : j = k := by omega
              exact HY.out
          case measure => simp [intOf]; omega
    · obtain rfl : y = k := by omega
      have HY : Hid (fitF false t f y = true) := Lib.hid (allN_true.2 hall.out)
      go_wp2
      go_ret
      exact ⟨ret_bool HY.out.symm, m, rfl⟩

theorem l05Fits_any {B gb b2 o2 n y : Nat} (cmp : Bool) (A : Option Addr) (c M c2 : Nat) (f : Nat → Nat) (t : List (List Int)) (w : World) (hg : w.cell? ⟨gb, 0, none⟩ = some (.slice A n c)) (h : Rows2 B w A n t) (ht : tabOk n n t = true) (hn : n ≤ 10)
    (hM : M = y + 1) (hyn : y < n) (hf : ∀ x, x < M → f x < n ∧ w.cell? ⟨b2, o2 + x, none⟩ = some (.int .i64 (f x : Int))) :
    Calls Try.prog 101 #[ptr gb, .slice (some ⟨b2, o2, none⟩) M c2, .bool cmp] w fun r w' => r = .returned (.bool (fitF cmp t f y)) ∧ ∃ m, w' = w.drewN m := by
  cases cmp with
  | true => exact l05Fits_true A c M c2 f t w hg h ht hn hM hyn hf
  | false => exact l05Fits_false A c M c2 f t w hg h ht hn hM hyn hf
set_option maxRecDepth 100000 in
set_option maxHeartbeats 2000000 in
theorem l05All_any {B gb n : Nat} (cmp : Bool) (A A2 : Option Addr) (c c2 : Nat) (zs : List Int) (t : List (List Int)) (w : World) (hg : w.cell? ⟨gb, 0, none⟩ = some (.slice A n c)) (h : Rows2 B w A n t) (ht : tabOk n n t = true) (hn : n ≤ 10) (hn1 : 1 ≤ n)
    (hr : RowB .i64 B w A2 n zs) (ho : isOrd zs = true) (hc2 : n ≤ c2) :
    Calls Try.prog 69 #[ptr gb, .slice A2 n c2, .bool cmp] w fun r w' => r = .returned (.bool (fitA cmp t (fnOf zs) n)) ∧ ∃ m, w' = w.drewN m := by
  obtain ⟨b2, o2, rfl, hb2, _⟩ := ord_cell hr ho (show 0 < n by omega)
  have hl := hr.len
  have hf : ∀ x, x < n → fnOf zs x < n ∧ w.cell? ⟨b2, o2 + x, none⟩ = some (.int .i64 (fnOf zs x : Int)) := fun x hx => by
    obtain ⟨b', o', e, _, hc⟩ := ord_cell hr ho hx
    injection e with e
    injection e with e e2 _
    subst e; subst e2
    exact ⟨ord_lt ho hl hx, hc⟩
  have CF : Hid (∀ q y M, M = y + 1 → y < n → Calls Try.prog 101 #[ptr gb, .slice (some ⟨b2, o2, none⟩) M c2, .bool cmp] (w.drewN q) fun r w' => r = .returned (.bool (fitF cmp t (fnOf zs) y)) ∧ ∃ m, w' = w.drewN m) := Lib.hid (fun q y M hM hy =>
    (l05Fits_any cmp A c M c2 (fnOf zs) t (w.drewN q) hg (h.drewN q) ht hn hM hy (fun x hx => hf x (by omega))).mono fun r w' ⟨h1, m', h2⟩ => ⟨h1, q + m', by rw [h2, World.drewN_drewN]⟩)
  clear hf h hr ho ht hl
  go_enter Try.func69, Try.ntmps69
  go_wp2
  go_loopw [7] (fun x wr => ∃ k M : Nat, k ≤ n ∧ M = k + 1 ∧ x = .int .i64 (M : Int) ∧ Hid (∀ j, j < k → fitF cmp t (fnOf zs) j = true) ∧ ∃ m, wr = w.drewN m) (fun x _ => n + 1 - (intOf x).toNat)
  case atStart => exact ⟨0, 1, by omega, rfl, rfl, Lib.hid (fun i hi => absurd hi (by omega)), 0, rfl⟩
  case round =>
    obtain ⟨k, M, hk, hM, rfl, hall, m, rfl⟩ := hrel
    by_cases hlt : k < n
    · have hM1 : M ≤ n := by omega
      have hM2 : M ≤ c2 := by omega
      have C1 := CF.out m k M hM hlt
      have HM := Lib.hid hM
      clear hM
      rcases hf : fitF cmp t (fnOf zs) k with _ | _
      · rw [hf] at C1
        have HN : Hid (fitA cmp t (fnOf zs) n = false) := Lib.hid (allN_bad hlt hf)
        clear hf
        go_wp2_with fail
        (go_at_call 101; (with_reducible refine (C1).mono ?_); rintro e w' ⟨rfl, m2, rfl⟩)
        go_wp2_with fail
        go_ret
        exact ⟨ret_bool HN.out.symm, m2, rfl⟩
      · rw [hf] at C1
        have HY := Lib.hid hf
        clear hf
        go_wp2_with fail
        (go_at_call 101; (with_reducible refine (C1).mono ?_); rintro e w' ⟨rfl, m2, rfl⟩)
        go_wp2_with fail
        go_roundw
        case rel =>
          refine ⟨k + 1, M + 1, by omega, by rw [HM.out], by go_num, Lib.hid (fun j hj => ?_), m2, rfl⟩
          rcases Nat.lt_or_ge j k with h1 | h1
          · exact hall.out j h1
          · obtain rfl : j = k := by omega
            exact HY.out
        case measure => simp [intOf]; omega
    · obtain rfl : k = n := by omega
      have HY : Hid (fitA cmp t (fnOf zs) k = true) := Lib.hid (allN_true.2 hall.out)
      have hM1 : ¬ M ≤ k := by omega
      clear hM
      go_wp2
      go_ret
      exact ⟨ret_bool HY.out.symm, m, rfl⟩
end Go.Proofs.Yteggllmiapdmcab
