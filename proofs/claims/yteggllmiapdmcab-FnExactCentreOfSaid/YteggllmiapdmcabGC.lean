/-
  The elements whose products do not depend on the order, by the model and by the program.
-/
import Derived.Test.YteggllmiapdmcabGV
namespace Go.Proofs.Yteggllmiapdmcab
open Go.RowKit

theorem cell_one6 (w : World) (x : Value) (t : TypeId) : ∀ j u, [x][j]? = some u → (w.alloc (.cells #[x] t)).cell? ((⟨w.heap.size, 0, none⟩ : Addr).add j) = some u := by
  intro j u h
  have hj := (List.getElem?_eq_some_iff.1 h).1
  simp at hj
  subst hj
  simp at h
  subst h
  exact (Blk.new w #[x] t).cell 0
theorem slice_of6 {w : World} {B n : Nat} {v : Value} {xs : List Value} (h : w.ownsRow B 2 1 v n xs) : ∃ A c, v = .slice A n c := by
  rcases h.2 with ⟨h1, h2⟩ | ⟨g, cap, cur, h1, _⟩
  · exact ⟨_, _, by rw [h1, h2]⟩
  · exact ⟨_, _, h1⟩
theorem wf_g {x : Nat} (h : x ≤ 1000000) : (Lit.int .i64 (x : Int)).wf = true := WalkArith.wf_i64 (by omega)
theorem cenL_wf (t : List (List Int)) (n : Nat) {k : Nat} (hk : k ≤ 10) : ∀ z ∈ cenL t n k, (Lit.int .i64 z).wf = true := by
  intro z hz
  unfold cenL at hz
  obtain ⟨x, hx, rfl⟩ := List.mem_map.1 hz
  have := List.mem_range.1 (List.mem_filter.1 hx).1
  exact wf_g (by omega)
theorem cenL_yes {t : List (List Int)} {n k : Nat} (h : cenB t n k = true) : cells64 (cenL t n k) ++ [.int .i64 (k : Int)] = cells64 (cenL t n (k + 1)) := by
  rw [cenL_succ, h]; simp [cells64]
theorem cenL_no {t : List (List Int)} {n k : Nat} (h : cenB t n k = false) : cenL t n (k + 1) = cenL t n k := by
  rw [cenL_succ, h]; simp
/-- What the functions that list the centre leave. -/
def GotC (t : List (List Int)) (n : Nat) (w : World) (r : Ending) (w' : World) : Prop :=
  ∃ A c, r = .returned (.slice A (cenL t n n).length c) ∧ Own w.heap.size w' A (cenL t n n).length c (cenL t n n) ∧ Below w.heap.size w w'

set_option maxRecDepth 100000 in
set_option maxHeartbeats 2000000 in
theorem prCom_any {b n : Nat} {e : Int} {t : List (List Int)} (k : Nat) (w : World) (h : Pr w b n e t) (hn : n ≤ 10) (hk : k < n) :
    Calls Try.prog 96 #[ptr b, .int .i64 k] w fun r w' => r = .returned (.bool (cenB t n k)) ∧ ∃ m, w' = w.drewN m := by
  have c0 := h.size
  have CO : ∀ m x y, x < n → y < n → Calls Try.prog 80 #[ptr b, .int .i64 (x : Nat), .int .i64 (y : Nat)] (w.drewN m) fun r w' => r = .returned (.int .i64 (cellZ t x y : Int)) ∧ ∃ m', w' = w.drewN m' := fun m x y hx hy => (prOf_any x y (w.drewN m) (h.drewN m) hn hx hy).mono fun r w' ⟨h1, m', h2⟩ => ⟨h1, m + m', by rw [h2, World.drewN_drewN]⟩
  have HC := Lib.hid CO
  clear CO h
  go_enter Try.func96, Try.ntmps96
  go_wp2
  go_loopw [5, 10] (fun _ x wr => ∃ j : Nat, j ≤ n ∧ x = .int .i64 j ∧ Hid (∀ i, i < j → comC t k i = true) ∧ ∃ m, wr = w.drewN m) (fun _ x _ => n - (intOf x).toNat)
  case atStart => exact ⟨0, by omega, rfl, Lib.hid (fun i hi => absurd hi (by omega)), 0, rfl⟩
  case round =>
    obtain ⟨j, hj, rfl, hall, m, rfl⟩ := hrel
    by_cases hjn : j < n
    · have C1 := HC.out m k j hk hjn
      have C2 : ∀ m, _ := fun m => HC.out m j k hjn hk
      have hFe : comC t k j = decide (cellZ t k j = cellZ t j k) := rfl
      generalize cellZ t k j = za at C1 hFe
      generalize cellZ t j k = zb at C2 hFe
      by_cases ha : za = zb
      · subst ha
        have HF : Hid (comC t k j = true) := Lib.hid (by rw [hFe]; simp)
        clear hFe
        go_wp2_with fail
        (go_at_call 80; (with_reducible refine (C1).mono ?_); rintro e w' ⟨rfl, m2, rfl⟩)
        go_wp2_with fail
        (go_at_call 80; (with_reducible refine (C2 m2).mono ?_); rintro e w' ⟨rfl, m3, rfl⟩)
        go_wp2_with fail
        go_roundw
        case rel =>
          refine ⟨j + 1, by omega, by go_num, Lib.hid (fun i hi => ?_), m3, rfl⟩
          rcases Nat.lt_or_ge i j with h1 | h1
          · exact hall.out i h1
          · obtain rfl : i = j := by omega
            exact HF.out
        case measure => simp [intOf]; omega
      · have g1 : ((za : Int) != (zb : Int)) = true := by simp; omega
        have HF : Hid (cenB t n k = false) := Lib.hid (allN_bad hjn (by rw [hFe]; simp [ha]))
        clear hFe
        go_wp2_with fail
        (go_at_call 80; (with_reducible refine (C1).mono ?_); rintro e w' ⟨rfl, m2, rfl⟩)
        go_wp2_with fail
        (go_at_call 80; (with_reducible refine (C2 m2).mono ?_); rintro e w' ⟨rfl, m3, rfl⟩)
        go_wp2_with fail
        go_ret
        exact ⟨ret_bool HF.out.symm, m3, rfl⟩
    · obtain rfl : n = j := by omega
      have HF : Hid (cenB t n k = true) := Lib.hid (allN_true.2 hall.out)
      go_wp2
      go_ret
      exact ⟨ret_bool HF.out.symm, m, rfl⟩
set_option maxRecDepth 100000 in
set_option maxHeartbeats 2000000 in
theorem prCentre_any {b n : Nat} {e : Int} {t : List (List Int)} (w : World) (h : Pr w b n e t) (hn : n ≤ 10) :
    Calls Try.prog 62 #[ptr b] w (GotC t n w) := by
  have c0 := h.size
  obtain ⟨i0, hin, hz0, hz1, hz2⟩ := info_parts info64
  have HP := Lib.hid h
  have hlt := h.lt
  clear h
  go_enter Try.func62, Try.ntmps62
  go_wp2
  go_loopw [3, 4, 9] (fun v _ x wr => ∃ k : Nat, k ≤ n ∧ x = .int .i64 k ∧ (∃ A cc, v = .slice A (cenL t n k).length cc) ∧ Hid (wr.ownsRow w.heap.size 2 1 v (cenL t n k).length (cells64 (cenL t n k))) ∧ Below w.heap.size w wr) (fun _ _ x _ => n - (intOf x).toNat)
  case atStart => exact ⟨0, by omega, rfl, ⟨none, 0, rfl⟩, Lib.hid ⟨rfl, .inl ⟨rfl, rfl⟩⟩, Below.refl _ _⟩
  case round =>
    obtain ⟨k, hk, rfl, ⟨L, cc, rfl⟩, hown, hbel⟩ := hrel
    by_cases hltk : k < n
    · have CC := prCom_any k wr (HP.out.below hbel hlt) hn hltk
      have hlen := cenL_len t n k
      rcases hf : cenB t n k with _ | _
      · rw [hf] at CC
        have HE := Lib.hid (cenL_no hf)
        clear hf
        go_wp2_with fail
        (go_at_call 96; (with_reducible refine (CC).mono ?_); rintro e w' ⟨rfl, m, rfl⟩)
        go_wp2_with fail
        go_roundw
        case rel => exact ⟨k + 1, by omega, by go_num, ⟨L, cc, by rw [HE.out]⟩, Lib.hid (by rw [HE.out]; exact hown.out), below_drewN hbel m⟩
        case measure => simp [intOf]; omega
      · rw [hf] at CC
        have HD := Lib.hid (cenL_yes hf)
        have HL : Hid ((cenL t n k).length + 1 = (cenL t n (k + 1)).length) := Lib.hid (by rw [cenL_succ, hf]; simp)
        clear hf
        obtain ⟨ln, hln⟩ : ∃ ln, ln = (cenL t n k).length := ⟨_, rfl⟩
        rw [← hln] at hown hlen HL ⊢
        have HLN := Lib.hid hln
        clear hln
        go_wp2_with fail
        (go_at_call 96; (with_reducible refine (CC).mono ?_); rintro e w' ⟨rfl, m, rfl⟩)
        have hown2 : (wr.drewN m).ownsRow w.heap.size 2 1 (.slice L ln cc) ln (cells64 (cenL t n k)) := hown.out
        obtain ⟨W, hW⟩ : ∃ W, W = wr.drewN m := ⟨_, rfl⟩
        rw [← hW] at hown2 ⊢
        have hbelW : Below w.heap.size w W := by rw [hW]; exact below_drewN hbel m
        have hsW := hbelW.size
        have HW := Lib.hid hW
        clear hW
        go_wp2_with (at_builtin; refine wpList_append_own _ rfl _ _ 36 rfl w.heap.size 2 i0 (.int .i64 0) 1 8 Try.underlying36 hin hz0 hz1 hz2 rfl (by decide) _ _ _ rfl (hown2.alloc _) ⟨W.heap.size, 0, none⟩ 1 1 [.int .i64 (k : Int)] rfl rfl (cell_one6 _ _ _) (fun u hu => by simp at hu; subst hu; rfl) ?c1 ?c2 ?c3 ?_)
        case c1 => unfold maxLen; omega
        case c2 => omega
        case c3 => simp; omega
        intro v3 w3 ho3 hg3 _
        have hbw3 : Below w.heap.size w w3 := Below.grown (hbelW.alloc (by omega) _) hg3 (by simp; omega) (fun j hj => (hown2.lt j hj).1)
        rw [HD.out] at ho3
        obtain ⟨L3, c3, rfl⟩ := slice_of6 ho3
        have ho4 : w3.ownsRow w.heap.size 2 1 (.slice L3 (cenL t n (k + 1)).length c3) (cenL t n (k + 1)).length (cells64 (cenL t n (k + 1))) := by
          rw [← HL.out]; exact ho3
        have HO := Lib.hid ho4
        clear ho3 ho4 hg3
        go_wp2_with fail
        go_roundw
        case rel => exact ⟨k + 1, by omega, by go_num, ⟨L3, c3, by rw [← HL.out]⟩, Lib.hid (by have h := HO.out; rw [← HL.out] at h ⊢; exact h), hbw3⟩
        case measure => simp [intOf]; omega
    · obtain rfl : n = k := by omega
      go_wp2
      go_ret
      exact ⟨L, cc, rfl, ⟨hown.out, cenL_wf t n hn⟩, hbel⟩
set_option maxRecDepth 100000 in
set_option maxHeartbeats 8000000 in
theorem l05Centre_any {B gb : Nat} (A : Option Addr) (n c : Nat) (t : List (List Int)) (w : World) (hg : w.cell? ⟨gb, 0, none⟩ = some (.slice A n c)) (hgb : gb < w.heap.size) (h : Rows2 B w A n t) (hB : B ≤ w.heap.size) (ht : tabOk n n t = true) (hn : n ≤ 10) (hn0 : 0 < n) :
    Calls Try.prog 61 #[ptr gb] w (GotC t n w) := by
  obtain ⟨i0, hin, hz0, hz1, hz2⟩ := info_parts info64
  obtain ⟨b, o, P, Q, C, rfl, hT⟩ := tabR_of h ht hn0
  have HT := Lib.hid hT
  have HGB : Hid (∀ W, Below w.heap.size w W → W.cell? ⟨gb, 0, none⟩ = some (.slice (some ⟨b, o, none⟩) n c)) := Lib.hid (fun W hW => (hW.cell (p := ⟨gb, 0, none⟩) hgb).trans hg)
  clear h hT ht
  go_enter Try.func61, Try.ntmps61
  go_wp2_with fail
  go_loopw [3, 4, 5, 6] (fun v x _ _ wr => ∃ k : Nat, k ≤ n ∧ x = .int .i64 k ∧ (∃ A cc, v = .slice A (cenL t n k).length cc) ∧ Hid (wr.ownsRow w.heap.size 2 1 v (cenL t n k).length (cells64 (cenL t n k))) ∧ Below w.heap.size w wr) (fun _ x _ _ _ => n - (intOf x).toNat)
  case atStart => exact ⟨0, by omega, rfl, ⟨_, _, rfl⟩, Lib.hid (World.ownsRow_lit (size := 1) w #[] 0 (Nat.le_refl _) (by unfold maxLen; omega) rfl), (Below.refl _ _).alloc (Nat.le_refl _) _⟩
  case round =>
    obtain ⟨k, hk, rfl, ⟨L, cc, rfl⟩, hown, hbel⟩ := hrel
    have hgw := HGB.out wr hbel
    have hTw := HT.out.below (hbel.mono hB)
    obtain ⟨W, hWr⟩ : ∃ W, W = wr := ⟨_, rfl⟩
    rw [← hWr] at hown hbel hgw hTw ⊢
    clear hWr
    by_cases hltk : k < n
    · have HTW := Lib.hid hTw
      clear hTw
      go_wp2_with fail
      go_loopw [5, 6] (fun f y wq => ∃ j : Nat, j ≤ n ∧ y = .int .i64 j ∧ f = .bool (allN j (comC t k)) ∧ ∃ m, wq = W.drewN m) (fun _ y _ => n - (intOf y).toNat)
      case atStart => exact ⟨0, by omega, rfl, rfl, 0, rfl⟩
      case round =>
        obtain ⟨j, hj, rfl, rfl, m2, rfl⟩ := hrel
        by_cases hjn : j < n
        · have hsu : Hid (allN (j + 1) (comC t k) = (allN j (comC t k) && comC t k j)) := Lib.hid (allN_succ _ _)
          rcases hf : allN j (comC t k) with _ | _
          · rw [hf] at hsu
            clear hf
            go_wp2
            go_quiet (fail)
            go_wp2
            go_roundw
            case rel => exact ⟨j + 1, by omega, by go_num, by rw [hsu.out]; rfl, _, rfl⟩
            case measure => simp [intOf]; omega
          · rw [hf] at hsu
            clear hf
            have hc1 := HTW.out.row hltk
            have hc2 := HTW.out.cell hltk hjn
            have hc3 := HTW.out.row hjn
            have hc4 := HTW.out.cell hjn hltk
            have hFe : comC t k j = decide (cellZ t k j = cellZ t j k) := rfl
            generalize cellZ t k j = za at hc2 hFe
            generalize cellZ t j k = zb at hc4 hFe
            generalize P k = Pk at hc1 hc2
            generalize P j = Pj at hc3 hc4
            generalize Q k = Qk at hc1 hc2
            generalize Q j = Qj at hc3 hc4
            generalize C k = Ck at hc1
            generalize C j = Cj at hc3
            rw [Bool.true_and, hFe] at hsu
            clear hFe
            by_cases ha : za = zb
            · subst ha
              go_wp2
              go_quiet (fail)
              go_wp2
              go_roundw
              case rel => exact ⟨j + 1, by omega, by go_num, by rw [hsu.out]; simp, _, rfl⟩
              case measure => simp [intOf]; omega
            · have g1 : ((za : Int) == (zb : Int)) = false := by simp; omega
              go_wp2
              go_quiet (fail)
              go_wp2
              go_roundw
              case rel => exact ⟨j + 1, by omega, by go_num, by rw [hsu.out]; simp [ha], _, rfl⟩
              case measure => simp [intOf]; omega
        · obtain rfl : n = j := by omega
          have hlen := cenL_len t n k
          rcases hf : cenB t n k with _ | _
          · have hf2 : allN n (comC t k) = false := hf
            rw [hf2]
            clear hf2
            have HE := Lib.hid (cenL_no hf)
            clear hf
            go_wp2
            go_roundw
            case rel => exact ⟨k + 1, by omega, by go_num, ⟨L, cc, by rw [HE.out]⟩, Lib.hid (by rw [HE.out]; exact hown.out), below_drewN hbel m2⟩
            case measure => simp [intOf]; omega
          · have hf2 : allN n (comC t k) = true := hf
            rw [hf2]
            clear hf2
            have HD := Lib.hid (cenL_yes hf)
            have HL : Hid ((cenL t n k).length + 1 = (cenL t n (k + 1)).length) := Lib.hid (by rw [cenL_succ, hf]; simp)
            clear hf
            obtain ⟨ln, hln⟩ : ∃ ln, ln = (cenL t n k).length := ⟨_, rfl⟩
            rw [← hln] at hown hlen HL ⊢
            have HLN := Lib.hid hln
            clear hln
            have hown2 : (W.drewN m2).ownsRow w.heap.size 2 1 (.slice L ln cc) ln (cells64 (cenL t n k)) := hown.out
            obtain ⟨W5, hW5⟩ : ∃ W5, W5 = W.drewN m2 := ⟨_, rfl⟩
            rw [← hW5] at hown2 ⊢
            have hbelW : Below w.heap.size w W5 := by rw [hW5]; exact below_drewN hbel m2
            have hsW := hbelW.size
            have hgw5 : W5.cell? ⟨gb, 0, none⟩ = some (.slice (some ⟨b, o, none⟩) n c) := by rw [hW5]; exact hgw
            have HW := Lib.hid hW5
            clear hW5
            go_wp2_with (at_builtin; refine wpList_append_own _ rfl _ _ 36 rfl w.heap.size 2 i0 (.int .i64 0) 1 8 Try.underlying36 hin hz0 hz1 hz2 rfl (by decide) _ _ _ rfl (hown2.alloc _) ⟨W5.heap.size, 0, none⟩ 1 1 [.int .i64 (k : Int)] rfl rfl (cell_one6 _ _ _) (fun u hu => by simp at hu; subst hu; rfl) ?c1 ?c2 ?c3 ?_)
            case c1 => unfold maxLen; omega
            case c2 => omega
            case c3 => simp; omega
            intro v3 w3 ho3 hg3 _
            have hbw3 : Below w.heap.size w w3 := Below.grown (hbelW.alloc (by omega) _) hg3 (by simp; omega) (fun j hj => (hown2.lt j hj).1)
            rw [HD.out] at ho3
            obtain ⟨L3, c3, rfl⟩ := slice_of6 ho3
            have HO := Lib.hid ho3
            clear ho3 hg3
            go_wp2_with fail
            go_roundw
            case rel => exact ⟨k + 1, by omega, by go_num, ⟨L3, c3, by rw [← HL.out]⟩, Lib.hid (by have h := HO.out; rw [← HL.out]; exact h), hbw3⟩
            case measure => simp [intOf]; omega
    · obtain rfl : n = k := by omega
      go_wp2
      go_ret
      exact ⟨L, cc, rfl, ⟨hown.out, cenL_wf t n hn⟩, hbel⟩
/-- What CentreOf answers. -/
def cenR (t : List (List Int)) : List Int := if grpOk t = true then cenL t t.length t.length else []
theorem cenR_no {t : List (List Int)} (h : grpOk t = false) : cenR t = [] := by unfold cenR; rw [h]; rfl
theorem cenR_yes {t : List (List Int)} {n : Nat} (hl : t.length = n) (h : grpOk t = true) : cenR t = cenL t n n := by unfold cenR; rw [if_pos h, hl]
theorem cenR_len (t : List (List Int)) : (cenR t).length ≤ 10 := by
  rcases h : grpOk t with _ | _
  · rw [cenR_no h]; simp
  · have h2 := h
    unfold grpOk at h2
    rw [Bool.and_eq_true] at h2
    have := inB_true.1 h2.1
    rw [cenR_yes rfl h]
    have := cenL_len t t.length t.length
    omega
def comR (t : List (List Int)) : Bool := grpOk t && decide ((cenL t t.length t.length).length = t.length)
def Ret2C (t : List (List Int)) (w : World) (e : Ending) (w' : World) : Prop :=
  ∃ A c, e = .returned (.tuple #[.slice A (cenR t).length c, .bool (grpOk t)]) ∧ Own w.heap.size w' A (cenR t).length c (cenR t) ∧ Below w.heap.size w w'
theorem own_nil6 (B : Nat) (w : World) : Own B w none 0 0 [] := ⟨⟨rfl, .inl ⟨rfl, rfl⟩⟩, by simp⟩
theorem ret2C_no {t : List (List Int)} {w w' : World} (h : grpOk t = false) (hb : Below w.heap.size w w') : Ret2C t w (.returned (.tuple #[.slice none 0 0, .bool false])) w' := by
  unfold Ret2C
  rw [cenR_no h, h]
  exact ⟨none, 0, rfl, own_nil6 _ _, hb⟩
theorem ret2C_yes {t : List (List Int)} {n : Nat} {A : Option Addr} {c : Nat} {w w' : World} (hl : t.length = n) (h : grpOk t = true) (ho : Own w.heap.size w' A (cenL t n n).length c (cenL t n n)) (hb : Below w.heap.size w w') : Ret2C t w (.returned (.tuple #[.slice A (cenL t n n).length c, .bool true])) w' := by
  unfold Ret2C
  rw [cenR_yes hl h, h]
  exact ⟨A, c, rfl, ho, hb⟩
theorem comR_no {t : List (List Int)} (h : grpOk t = false) : comR t = false := by unfold comR; rw [h]; rfl
theorem comR_yes {t : List (List Int)} {n : Nat} (hl : t.length = n) (h : grpOk t = true) : comR t = decide ((cenL t n n).length = n) := by unfold comR; rw [h, hl]; rfl

set_option maxHeartbeats 2000000 in
theorem specCen_any {B : Nat} (x : Gp) (A : Option Addr) (n c : Nat) (w : World) (h : Rows2 B w A n x.G) (hB : B ≤ w.heap.size) :
    Calls Try.prog 23 #[gpV x A n c] w (Ret2C x.G w) := by
  obtain ⟨w1, hw1⟩ : ∃ w1, w1 = w.alloc (.cells #[.slice A n c] 28) := ⟨_, rfl⟩
  have bel : Below w.heap.size w w1 := by rw [hw1]; exact (Below.refl _ w).alloc (Nat.le_refl _) _
  have b1 : Blk w1 w.heap.size #[.slice A n c] 28 := by rw [hw1]; exact Blk.new _ _ _
  have q1 := b1.cell 0
  have hb1 := b1.lt
  have h1 := h.below (bel.mono hB)
  have CI := l05Is_any A n c x.G w1 q1 h1
  have BEL := Lib.hid bel
  have hl := h.len
  have hs := bel.size
  clear bel b1 h
  rcases hq : grpOk x.G with _ | _
  · rw [hq] at CI
    have HQ := Lib.hid hq
    clear hq h1
    go_enter Try.func23, Try.ntmps23
    go_wp2_with fail
    rw [← hw1]
    have HW1 := Lib.hid hw1
    clear hw1
    go_wp2_with fail
    (go_at_call 60; (with_reducible refine (CI).mono ?_); rintro e w' ⟨rfl, m, rfl⟩)
    go_wp2_with fail
    go_ret2
    exact ret2C_no HQ.out (below_drewN BEL.out m)
  · rw [hq] at CI
    obtain ⟨e, hg⟩ := grp_of hl hq
    have HQ := Lib.hid hq
    have HL := Lib.hid hl
    have CC : ∀ m, Calls Try.prog 61 #[ptr w.heap.size] (w1.drewN m) (GotC x.G n (w1.drewN m)) := fun m => l05Centre_any A n c x.G (w1.drewN m) q1 hb1 (h1.drewN m) (show B ≤ w1.heap.size by omega) hg.tab hg.n10 (by have := hg.n1; omega)
    clear hq h1 hg
    go_enter Try.func23, Try.ntmps23
    go_wp2_with fail
    rw [← hw1]
    have HW1 := Lib.hid hw1
    clear hw1
    go_wp2_with fail
    (go_at_call 60; (with_reducible refine (CI).mono ?_); rintro e w' ⟨rfl, m, rfl⟩)
    go_wp2_with fail
    (go_at_call 61; (with_reducible refine (CC m).mono ?_); rintro e w3 ⟨A3, c3, rfl, ho, hb⟩)
    go_wp2_with fail
    go_ret2
    exact ret2C_yes HL.out HQ.out (ho.lower hs) ((below_drewN BEL.out m).trans (hb.mono hs))
set_option maxHeartbeats 2000000 in
theorem implCen_any {B : Nat} (x : Gp) (A : Option Addr) (n c : Nat) (w : World) (h : Rows2 B w A n x.G) (hB : B ≤ w.heap.size) :
    Calls Try.prog 24 #[gpV x A n c] w (Ret2C x.G w) := by
  obtain ⟨w1, hw1⟩ : ∃ w1, w1 = w.alloc (.cells #[.slice A n c] 28) := ⟨_, rfl⟩
  have bel : Below w.heap.size w w1 := by rw [hw1]; exact (Below.refl _ w).alloc (Nat.le_refl _) _
  have b1 : Blk w1 w.heap.size #[.slice A n c] 28 := by rw [hw1]; exact Blk.new _ _ _
  have q1 := b1.cell 0
  have hs := bel.size
  have h1 := h.below (bel.mono hB)
  have hl := h.len
  rcases hq : grpOk x.G with _ | _
  · have CP := productsNo_any x A n c w1 h1 (by omega) hq
    have HQ := Lib.hid hq
    have BEL := Lib.hid bel
    clear bel b1 h h1 hq
    go_enter Try.func24, Try.ntmps24
    go_wp2_with fail
    rw [← hw1]
    have HW1 := Lib.hid hw1
    clear hw1
    go_wp2_with fail
    (go_at_call 55; (with_reducible refine (CP).mono ?_); rintro e w2 ⟨rfl, hb⟩)
    go_wp2_with fail
    go_ret2
    exact ret2C_no HQ.out (BEL.out.trans (hb.mono hs))
  · obtain ⟨e, hg⟩ := grp_of hl hq
    have CP := productsYes_any x A n c e w1 h1 (by omega) hg
    have HQ := Lib.hid hq
    have HL := Lib.hid hl
    have BEL := Lib.hid bel
    have hn := hg.n10
    clear bel b1 h h1 hq hg
    go_enter Try.func24, Try.ntmps24
    go_wp2_with fail
    rw [← hw1]
    have HW1 := Lib.hid hw1
    clear hw1
    go_wp2_with fail
    (go_at_call 55; (with_reducible refine (CP).mono ?_); rintro e w2 ⟨g, rfl, hP, hge, hb⟩)
    have CC := prCentre_any w2 hP.out hn
    have hs2 := hb.out.size
    go_wp2_with fail
    (go_at_call 62; (with_reducible refine (CC).mono ?_); rintro e w3 ⟨A3, c3, rfl, ho, hb3⟩)
    go_wp2_with fail
    go_ret2
    exact ret2C_yes HL.out HQ.out (ho.lower (by omega)) ((BEL.out.trans (hb.out.mono hs)).trans (hb3.mono (by omega)))
end Go.Proofs.Yteggllmiapdmcab
