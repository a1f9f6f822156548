/-
  The program's products of two elements, and its tests of the identity and of the brackets.
-/
import Derived.Test.YteggllmiapdmcaaPrM
import Derived.Deep.RegionHeld3
namespace Go.Proofs.Yteggllmiapdmcaa
open Go.RowKit

abbrev ptr (b : Nat) : Value := .pointer (some ⟨b, 0, none⟩)
set_option maxRecDepth 100000 in
set_option maxHeartbeats 2000000 in
theorem prOf_any {b n : Nat} {e : Int} {t : List (List Int)} (x y : Nat) (w : World) (h : Pr w b n e t) (hn : n ≤ 10) (hx : x < n) (hy : y < n) :
    Calls Try.prog 101 #[ptr b, .int .i64 x, .int .i64 y] w fun r w' => r = .returned (.int .i64 (cellZ t x y : Int)) ∧ ∃ m, w' = w.drewN m := by
  have c0 := h.size
  have c1 := h.cell hn hx hy
  have hb := sq_le hn hx
  obtain ⟨xn, hxn⟩ : ∃ xn, xn = x * n := ⟨_, rfl⟩
  have hI : (x : Int) * (n : Int) = (xn : Int) := by rw [hxn]; simp
  rw [← hxn] at c1 hb
  rw [show xn + y + 2 = 2 + (xn + y) by omega] at c1
  generalize cellZ t x y = z at c1 ⊢
  clear h hxn
  go_enter Try.func101, Try.ntmps101
  go_wp2
  go_quiet (fail)
  go_wp2
  go_ret
  exact ⟨rfl, _, rfl⟩
set_option maxRecDepth 100000 in
set_option maxHeartbeats 2000000 in
theorem prIsId_any {b n : Nat} {e : Int} {t : List (List Int)} (k : Nat) (w : World) (h : Pr w b n e t) (hn : n ≤ 10) (hk : k < n) (ht : tabOk n n t = true) :
    Calls Try.prog 110 #[ptr b, .int .i64 k] w fun r w' => r = .returned (.bool (idB t n k)) ∧ ∃ m, w' = w.drewN m := by
  have c0 := h.size
  have CO : ∀ m x y, x < n → y < n → Calls Try.prog 101 #[ptr b, .int .i64 (x : Nat), .int .i64 (y : Nat)] (w.drewN m) fun r w' => r = .returned (.int .i64 (cellZ t x y : Int)) ∧ ∃ m', w' = w.drewN m' := fun m x y hx hy => (prOf_any x y (w.drewN m) (h.drewN m) hn hx hy).mono fun r w' ⟨h1, m', h2⟩ => ⟨h1, m + m', by rw [h2, World.drewN_drewN]⟩
  have HC := Lib.hid CO
  have HB : Hid (∀ x y, x < n → y < n → cellZ t x y < n) := Lib.hid (fun x y hx hy => (tabOk_cell ht hx hy).1)
  clear CO h ht
  go_enter Try.func110, Try.ntmps110
  go_wp2
  go_loopw [5, 10] (fun _ x wr => ∃ j : Nat, j ≤ n ∧ x = .int .i64 j ∧ Hid (∀ i, i < j → idC t k i = true) ∧ ∃ m, wr = w.drewN m) (fun _ x _ => n - (intOf x).toNat)
  case atStart => exact ⟨0, by omega, rfl, Lib.hid (fun i hi => absurd hi (by omega)), 0, rfl⟩
  case round =>
    obtain ⟨j, hj, rfl, hall, m, rfl⟩ := hrel
    by_cases hjn : j < n
    · have C1 := HC.out m k j hk hjn
      have C2 : ∀ m, _ := fun m => HC.out m j k hjn hk
      have b1 := HB.out k j hk hjn
      have b2 := HB.out j k hjn hk
      have hFe : idC t k j = (decide (cellZ t k j = j) && decide (cellZ t j k = j)) := rfl
      generalize cellZ t k j = za at C1 hFe b1
      generalize cellZ t j k = zb at C2 hFe b2
      by_cases ha : za = j
      · by_cases hb : zb = j
        · subst ha; subst hb
          have HF : Hid (idC t k zb = true) := Lib.hid (by rw [hFe]; simp)
          clear hFe
          go_wp2_with fail
          (go_at_call 101; (with_reducible refine (C1).mono ?_); rintro e w' ⟨rfl, m2, rfl⟩)
          go_wp2_with fail
          (go_at_call 101; (with_reducible refine (C2 m2).mono ?_); rintro e w' ⟨rfl, m3, rfl⟩)
          go_wp2_with fail
          go_roundw
          case rel =>
            refine ⟨zb + 1, by omega, by go_num, Lib.hid (fun i hi => ?_), m3, rfl⟩
            rcases Nat.lt_or_ge i zb with h1 | h1
            · exact hall.out i h1
            · obtain rfl : i = zb := by omega
              exact HF.out
          case measure => simp [intOf]; omega
        · subst ha
          have g1 : ((zb : Int) != (za : Int)) = true := by simp; omega
          have HF : Hid (idB t n k = false) := Lib.hid (allN_bad hjn (by rw [hFe]; simp [hb]))
          clear hFe
          go_wp2_with fail
          (go_at_call 101; (with_reducible refine (C1).mono ?_); rintro e w' ⟨rfl, m2, rfl⟩)
          go_wp2_with fail
          (go_at_call 101; (with_reducible refine (C2 m2).mono ?_); rintro e w' ⟨rfl, m3, rfl⟩)
          go_wp2_with fail
          go_ret
          exact ⟨ret_bool HF.out.symm, m3, rfl⟩
      · have g1 : ((za : Int) != (j : Int)) = true := by simp; omega
        have HF : Hid (idB t n k = false) := Lib.hid (allN_bad hjn (by rw [hFe]; simp [ha]))
        clear hFe
        go_wp2_with fail
        (go_at_call 101; (with_reducible refine (C1).mono ?_); rintro e w' ⟨rfl, m2, rfl⟩)
        go_wp2_with fail
        go_ret
        exact ⟨ret_bool HF.out.symm, m2, rfl⟩
    · obtain rfl : n = j := by omega
      have HF : Hid (idB t n k = true) := Lib.hid (allN_true.2 hall.out)
      go_wp2
      go_ret
      exact ⟨ret_bool HF.out.symm, m, rfl⟩
set_option maxRecDepth 100000 in
set_option maxHeartbeats 4000000 in
theorem prIsAss_any {b n : Nat} {e : Int} {t : List (List Int)} (w : World) (h : Pr w b n e t) (hn : n ≤ 10) (ht : tabOk n n t = true) :
    Calls Try.prog 111 #[ptr b] w fun r w' => r = .returned (.bool (assB t n)) ∧ ∃ m, w' = w.drewN m := by
  have c0 := h.size
  have CO : ∀ m x y, x < n → y < n → Calls Try.prog 101 #[ptr b, .int .i64 (x : Nat), .int .i64 (y : Nat)] (w.drewN m) fun r w' => r = .returned (.int .i64 (cellZ t x y : Int)) ∧ ∃ m', w' = w.drewN m' := fun m x y hx hy => (prOf_any x y (w.drewN m) (h.drewN m) hn hx hy).mono fun r w' ⟨h1, m', h2⟩ => ⟨h1, m + m', by rw [h2, World.drewN_drewN]⟩
  have HC := Lib.hid CO
  have HB : Hid (∀ x y, x < n → y < n → cellZ t x y < n) := Lib.hid (fun x y hx hy => (tabOk_cell ht hx hy).1)
  clear CO h ht
  go_enter Try.func111, Try.ntmps111
  go_wp2
  go_loopw [3, 4, 5, 10, 17, 24] (fun _ _ _ x _ _ wr => ∃ j : Nat, j ≤ n ∧ x = .int .i64 j ∧ Hid (∀ i, i < j → (allN n fun y => allN n fun z => assC t i y z) = true) ∧ ∃ m, wr = w.drewN m) (fun _ _ _ x _ _ _ => n - (intOf x).toNat)
  case atStart => exact ⟨0, by omega, rfl, Lib.hid (fun i hi => absurd hi (by omega)), 0, rfl⟩
  case round =>
    obtain ⟨j, hj, rfl, hall, m, rfl⟩ := hrel
    by_cases hjn : j < n
    · go_wp2
      go_loopw [4, 5, 17, 24] (fun _ _ y _ wr => ∃ i : Nat, i ≤ n ∧ y = .int .i64 i ∧ Hid (∀ q, q < i → (allN n fun z => assC t j q z) = true) ∧ ∃ m, wr = w.drewN m) (fun _ _ y _ _ => n - (intOf y).toNat)
      case atStart => exact ⟨0, by omega, rfl, Lib.hid (fun i hi => absurd hi (by omega)), m, rfl⟩
      case round =>
        obtain ⟨i, hi, rfl, hall2, m2, rfl⟩ := hrel
        by_cases hin : i < n
        · go_wp2
          go_loopw [5, 24] (fun _ z wr => ∃ l : Nat, l ≤ n ∧ z = .int .i64 l ∧ Hid (∀ q, q < l → assC t j i q = true) ∧ ∃ m, wr = w.drewN m) (fun _ z _ => n - (intOf z).toNat)
          case atStart => exact ⟨0, by omega, rfl, Lib.hid (fun i hi => absurd hi (by omega)), m2, rfl⟩
          case round =>
            obtain ⟨l, hl, rfl, hall3, m3, rfl⟩ := hrel
            by_cases hln : l < n
            · have b1 := HB.out j i hjn hin
              have b2 := HB.out i l hin hln
              have C1 := HC.out m3 j i hjn hin
              have C2 : ∀ m, _ := fun m => HC.out m (cellZ t j i) l b1 hln
              have C3 : ∀ m, _ := fun m => HC.out m i l hin hln
              have C4 : ∀ m, _ := fun m => HC.out m j (cellZ t i l) hjn b2
              have hFe : assC t j i l = decide (cellZ t (cellZ t j i) l = cellZ t j (cellZ t i l)) := rfl
              generalize cellZ t j i = za at C1 C2 hFe b1
              generalize cellZ t i l = zb at C3 C4 hFe b2
              generalize cellZ t za l = ya at C2 hFe
              generalize cellZ t j zb = yb at C4 hFe
              by_cases ha : ya = yb
              · subst ha
                have HF : Hid (assC t j i l = true) := Lib.hid (by rw [hFe]; simp)
                clear hFe
                go_wp2_with fail
                (go_at_call 101; (with_reducible refine (C1).mono ?_); rintro e w' ⟨rfl, m4, rfl⟩)
                go_wp2_with fail
                (go_at_call 101; (with_reducible refine (C2 m4).mono ?_); rintro e w' ⟨rfl, m5, rfl⟩)
                go_wp2_with fail
                (go_at_call 101; (with_reducible refine (C3 m5).mono ?_); rintro e w' ⟨rfl, m6, rfl⟩)
                go_wp2_with fail
                (go_at_call 101; (with_reducible refine (C4 m6).mono ?_); rintro e w' ⟨rfl, m7, rfl⟩)
                go_wp2_with fail
                go_roundw
                case rel =>
                  refine ⟨l + 1, by omega, by go_num, Lib.hid (fun i hi => ?_), m7, rfl⟩
                  rcases Nat.lt_or_ge i l with h1 | h1
                  · exact hall3.out i h1
                  · obtain rfl : i = l := by omega
                    exact HF.out
                case measure => simp [intOf]; omega
              · have g1 : ((ya : Int) != (yb : Int)) = true := by simp; omega
                have HF : Hid (assB t n = false) := Lib.hid (allN_bad hjn (allN_bad hin (allN_bad hln (by rw [hFe]; simp [ha]))))
                clear hFe
                go_wp2_with fail
                (go_at_call 101; (with_reducible refine (C1).mono ?_); rintro e w' ⟨rfl, m4, rfl⟩)
                go_wp2_with fail
                (go_at_call 101; (with_reducible refine (C2 m4).mono ?_); rintro e w' ⟨rfl, m5, rfl⟩)
                go_wp2_with fail
                (go_at_call 101; (with_reducible refine (C3 m5).mono ?_); rintro e w' ⟨rfl, m6, rfl⟩)
                go_wp2_with fail
                (go_at_call 101; (with_reducible refine (C4 m6).mono ?_); rintro e w' ⟨rfl, m7, rfl⟩)
                go_wp2_with fail
                go_ret
                exact ⟨ret_bool HF.out.symm, m7, rfl⟩
            · obtain rfl : n = l := by omega
              have HF : Hid ((allN n fun z => assC t j i z) = true) := Lib.hid (allN_true.2 hall3.out)
              go_wp2
              go_roundw
              case rel =>
                refine ⟨i + 1, by omega, by go_num, Lib.hid (fun q hq => ?_), m3, rfl⟩
                rcases Nat.lt_or_ge q i with h1 | h1
                · exact hall2.out q h1
                · obtain rfl : q = i := by omega
                  exact HF.out
              case measure => simp [intOf]; omega
        · obtain rfl : n = i := by omega
          have HF : Hid ((allN n fun y => allN n fun z => assC t j y z) = true) := Lib.hid (allN_true.2 hall2.out)
          go_wp2
          go_roundw
          case rel =>
            refine ⟨j + 1, by omega, by go_num, Lib.hid (fun q hq => ?_), m2, rfl⟩
            rcases Nat.lt_or_ge q j with h1 | h1
            · exact hall.out q h1
            · obtain rfl : q = j := by omega
              exact HF.out
          case measure => simp [intOf]; omega
    · obtain rfl : n = j := by omega
      have HF : Hid (assB t n = true) := Lib.hid (allN_true.2 hall.out)
      go_wp2
      go_ret
      exact ⟨ret_bool HF.out.symm, m, rfl⟩
end Go.Proofs.Yteggllmiapdmcaa
