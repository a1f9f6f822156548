/-
  The model's test of a group.
-/
import Derived.Test.YteggllmiapdmcaaTabR
import Derived.Test.YteggllmiapdmcaaBlk
import Derived.Test.YteggllmiapdmcaaOwn2
import Derived.Test.YteggllmiapdmcaaWLim
import Derived.Test.YteggllmiapdmcaaBel
namespace Go.Proofs.Yteggllmiapdmcaa
open Go.RowKit

theorem drewE (w : World) (a b : Nat) : ∃ m, (w.drewN a).drewN b = w.drewN m := ⟨_, World.drewN_drewN _ _ _⟩
def optI : Option Nat → Int
  | none => -1
  | some e => ((e : Nat) : Int)
set_option maxRecDepth 100000 in
set_option maxHeartbeats 2000000 in
theorem l05Identity_any {B : Nat} (A : Option Addr) (n c : Nat) (t : List (List Int)) (w : World) (h : Rows2 B w A n t) (ht : tabOk n n t = true) (hn : n ≤ 10) :
    Calls Try.prog 102 #[.slice A n c] w fun e w' => e = .returned (.int .i64 (optI (idOf t n))) ∧ ∃ m, w' = w.drewN m := by
  have hle := h.le
  obtain ⟨o, ho⟩ : ∃ o, o = idOf t n := ⟨_, rfl⟩
  rw [← ho]
  have HO := Lib.hid ho
  have HR := Lib.hid h
  have HT := Lib.hid ht
  clear h ht ho
  go_enter Try.func102, Try.ntmps102
  go_wp2
  go_loopw [3, 4, 5] (fun x _ _ wr => ∃ k : Nat, k ≤ n ∧ x = .int .i64 k ∧ Hid (∀ j, j < k → idB t n j = false) ∧ ∃ m, wr = w.drewN m) (fun x _ _ _ => n - (intOf x).toNat)
  case atStart => exact ⟨0, by omega, rfl, Lib.hid (fun j hj => absurd hj (by omega)), 0, rfl⟩
  case round =>
    obtain ⟨k, hk, rfl, hno, m, rfl⟩ := hrel
    by_cases hlt : k < n
    · go_wp2
      go_loopw [4, 5] (fun f y wq => ∃ j : Nat, j ≤ n ∧ y = .int .i64 j ∧ f = .bool (allN j (idC t k)) ∧ ∃ m, wq = w.drewN m) (fun _ y _ => n - (intOf y).toNat)
      case atStart => exact ⟨0, by omega, rfl, rfl, m, rfl⟩
      case round =>
        obtain ⟨j, hj, rfl, rfl, m2, rfl⟩ := hrel
        by_cases hjn : j < n
        · have hsu : Hid (allN (j + 1) (idC t k) = (allN j (idC t k) && idC t k j)) := Lib.hid (allN_succ _ _)
          rcases hf : allN j (idC t k) with _ | _
          · rw [hf] at hsu
            clear hf
            go_wp2
            go_roundw
            case rel => exact ⟨j + 1, by omega, by go_num, by rw [hsu.out]; rfl, _, rfl⟩
            case measure => simp [intOf]; omega
          · rw [hf] at hsu
            clear hf
            obtain ⟨b, o1, P, Q, C, rfl, hT⟩ := tabR_of HR.out HT.out (show 0 < n by omega)
            have hc1 := hT.row hlt
            have hc2 := hT.cell hlt hjn
            have hc3 := hT.row hjn
            have hc4 := hT.cell hjn hlt
            have hFe : idC t k j = (decide (cellZ t k j = j) && decide (cellZ t j k = j)) := rfl
            have p1 := hT.cap hlt
            have p2 := hT.cap hjn
            generalize cellZ t k j = za at hc2 hFe
            generalize cellZ t j k = zb at hc4 hFe
            generalize P k = Pk at hc1 hc2
            generalize P j = Pj at hc3 hc4
            generalize Q k = Qk at hc1 hc2
            generalize Q j = Qj at hc3 hc4
            generalize C k = Ck at hc1 p1
            generalize C j = Cj at hc3 p2
            clear hT
            rw [Bool.true_and, hFe] at hsu
            clear hFe
            by_cases ha : za = j
            · by_cases hb : zb = j
              · subst ha; subst hb
                go_wp2
                go_roundw
                case rel => exact ⟨zb + 1, by omega, by go_num, by rw [hsu.out]; simp, _, rfl⟩
                case measure => simp [intOf]; omega
              · subst ha
                have g1 : ((zb : Int) == (za : Int)) = false := by simp; omega
                go_wp2
                go_roundw
                case rel => exact ⟨za + 1, by omega, by go_num, by rw [hsu.out]; simp [hb], _, rfl⟩
                case measure => simp [intOf]; omega
            · have g1 : ((za : Int) == (j : Int)) = false := by simp; omega
              go_wp2
              go_roundw
              case rel => exact ⟨j + 1, by omega, by go_num, by rw [hsu.out]; simp [ha], _, rfl⟩
              case measure => simp [intOf]; omega
        · obtain rfl : n = j := by omega
          rcases hf : idB t n k with _ | _
          · have hf2 : allN n (idC t k) = false := hf
            rw [hf2]
            clear hf2
            have HF := Lib.hid hf
            clear hf
            go_wp2
            go_roundw
            case rel =>
              refine ⟨k + 1, by omega, by go_num, Lib.hid (fun j hj => ?_), m2, rfl⟩
              rcases Nat.lt_or_ge j k with h1 | h1
              · exact hno.out j h1
              · obtain rfl : j = k := by omega
                exact HF.out
            case measure => simp [intOf]; omega
          · have hf2 : allN n (idC t k) = true := hf
            rw [hf2]
            clear hf2
            have HF := Lib.hid hf
            clear hf
            have HE : Hid (o = some k) := Lib.hid (HO.out.trans (firstN_some hno.out hlt HF.out))
            go_wp2
            go_ret
            exact ⟨ret_int (by rw [HE.out]; rfl), m2, rfl⟩
    · obtain rfl : n = k := by omega
      have HE : Hid (o = none) := Lib.hid (HO.out.trans (firstN_none hno.out))
      go_wp2
      go_ret
      exact ⟨ret_int (by rw [HE.out]; rfl), m, rfl⟩
set_option maxRecDepth 100000 in
set_option maxHeartbeats 2000000 in
theorem l05Inverse_any {B : Nat} (A : Option Addr) (n c : Nat) (t : List (List Int)) (e x : Nat) (w : World) (h : Rows2 B w A n t) (ht : tabOk n n t = true) (hn : n ≤ 10) (hx : x < n) (he : e < n) :
    Calls Try.prog 104 #[.slice A n c, .int .i64 e, .int .i64 x] w fun r w' => r = .returned (.int .i64 (optI (invOf t n e x))) ∧ ∃ m, w' = w.drewN m := by
  have hle := h.le
  obtain ⟨o, ho⟩ : ∃ o, o = invOf t n e x := ⟨_, rfl⟩
  rw [← ho]
  have HO := Lib.hid ho
  obtain ⟨b, o1, P, Q, C, rfl, hT⟩ := tabR_of h ht (show 0 < n by omega)
  have hc1 := hT.row hx
  have p1 := hT.cap hx
  have HT := Lib.hid hT
  have HPx : Hid (∀ y, y < n → w.cell? ⟨P x, Q x + y, none⟩ = some (.int .i64 (cellZ t x y : Int))) := Lib.hid (fun y hy => hT.cell hx hy)
  generalize P x = Px at hc1 HPx
  generalize Q x = Qx at hc1 HPx
  generalize C x = Cx at hc1 p1
  clear h ht ho hT
  go_enter Try.func104, Try.ntmps104
  go_wp2
  go_loopw [7] (fun y wr => ∃ k : Nat, k ≤ n ∧ y = .int .i64 k ∧ Hid (∀ j, j < k → invC t e x j = false) ∧ ∃ m, wr = w.drewN m) (fun y _ => n - (intOf y).toNat)
  case atStart => exact ⟨0, by omega, rfl, Lib.hid (fun j hj => absurd hj (by omega)), 0, rfl⟩
  case round =>
    obtain ⟨k, hk, rfl, hno, m, rfl⟩ := hrel
    by_cases hlt : k < n
    · have hc2 := HPx.out k hlt
      have hc3 := HT.out.row hlt
      have hc4 := HT.out.cell hlt hx
      have p2 := HT.out.cap hlt
      have hFe : invC t e x k = (decide (cellZ t x k = e) && decide (cellZ t k x = e)) := rfl
      generalize cellZ t x k = za at hc2 hFe
      generalize cellZ t k x = zb at hc4 hFe
      generalize P k = Pk at hc3 hc4
      generalize Q k = Qk at hc3 hc4
      generalize C k = Ck at hc3 p2
      have hstep : Hid (invC t e x k = false → ∀ j, j < k + 1 → invC t e x j = false) := Lib.hid (fun hf j hj => by
        rcases Nat.lt_or_ge j k with h1 | h1
        · exact hno.out j h1
        · obtain rfl : j = k := by omega
          exact hf)
      by_cases ha : za = e
      · by_cases hb : zb = e
        · subst ha; subst hb
          have HE : Hid (o = some k) := Lib.hid (HO.out.trans (firstN_some hno.out hlt (by rw [hFe]; simp)))
          clear hFe
          go_wp2
          go_ret
          exact ⟨ret_int (by rw [HE.out]; rfl), _, rfl⟩
        · subst ha
          have g1 : ((zb : Int) == (za : Int)) = false := by simp; omega
          have HF : Hid (invC t za x k = false) := Lib.hid (by rw [hFe]; simp [hb])
          clear hFe
          go_wp2
          go_roundw
          case rel => exact ⟨k + 1, by omega, by go_num, Lib.hid (hstep.out HF.out), _, rfl⟩
          case measure => simp [intOf]; omega
      · have g1 : ((za : Int) == (e : Int)) = false := by simp; omega
        have HF : Hid (invC t e x k = false) := Lib.hid (by rw [hFe]; simp [ha])
        clear hFe
        go_wp2
        go_roundw
        case rel => exact ⟨k + 1, by omega, by go_num, Lib.hid (hstep.out HF.out), _, rfl⟩
        case measure => simp [intOf]; omega
    · obtain rfl : n = k := by omega
      have HE : Hid (o = none) := Lib.hid (HO.out.trans (firstN_none hno.out))
      go_wp2
      go_ret
      exact ⟨ret_int (by rw [HE.out]; rfl), m, rfl⟩
theorem grpOk_n {t : List (List Int)} {n : Nat} (hl : t.length = n) (h : inB n 1 10 = false) : grpOk t = false := by
  unfold grpOk; rw [hl, h]; rfl
theorem grpOk_row {t : List (List Int)} {n k : Nat} {r : List Int} (hl : t.length = n) (hr : t[k]? = some r) (h : lineOk n n r = false) : grpOk t = false := by
  unfold grpOk tabOk; rw [hl, all_bad hr h]; simp
theorem grpOk_id {t : List (List Int)} {n : Nat} (hl : t.length = n) (h : idOf t n = none) : grpOk t = false := by
  unfold grpOk grpI; rw [hl, h]; simp
theorem grpOk_inv {t : List (List Int)} {n x e : Nat} (hl : t.length = n) (hi : idOf t n = some e) (hx : x < n) (h : invOf t n e x = none) : grpOk t = false := by
  have h1 : invsB t n e = false := allN_bad hx (by rw [h]; rfl)
  unfold grpOk grpI; rw [hl, hi]
  show (inB n 1 10 && (tabOk n n t && (assB t n && invsB t n e))) = false
  rw [h1]; simp
theorem grpOk_ass {t : List (List Int)} {n x y z : Nat} (hl : t.length = n) (hx : x < n) (hy : y < n) (hz : z < n) (h : assC t x y z = false) : grpOk t = false := by
  have h1 : assB t n = false := allN_bad hx (allN_bad hy (allN_bad hz h))
  rcases hi : idOf t n with _ | e
  · exact grpOk_id hl hi
  · unfold grpOk grpI; rw [hl, hi]
    show (inB n 1 10 && (tabOk n n t && (assB t n && invsB t n e))) = false
    rw [h1]; simp
theorem grpOk_yes {t : List (List Int)} {n e : Nat} (hl : t.length = n) (h1 : inB n 1 10 = true) (h2 : tabOk n n t = true) (hi : idOf t n = some e) (h3 : assB t n = true) (h4 : invsB t n e = true) : grpOk t = true := by
  unfold grpOk grpI; rw [hl, hi]
  show (inB n 1 10 && (tabOk n n t && (assB t n && invsB t n e))) = true
  rw [h1, h2, h3, h4]; rfl

set_option maxRecDepth 100000 in
set_option maxHeartbeats 8000000 in
theorem l05Is_any {B gb : Nat} (A : Option Addr) (n c : Nat) (t : List (List Int)) (w : World) (hg : w.cell? ⟨gb, 0, none⟩ = some (.slice A n c)) (h : Rows2 B w A n t) :
    Calls Try.prog 69 #[.pointer (some ⟨gb, 0, none⟩)] w fun r w' => r = .returned (.bool (grpOk t)) ∧ ∃ m, w' = w.drewN m := by
  have hle := h.le
  have hl := h.len
  have HL := Lib.hid hl
  rcases hin : inB n 1 10 with _ | _
  · have HQ := Lib.hid (grpOk_n hl hin)
    have hn := inB_false.1 hin
    by_cases h1 : (n : Int) < 1
    · go_enter Try.func69, Try.ntmps69
      go_wp2
      go_ret
      exact ⟨ret_bool HQ.out.symm, 0, rfl⟩
    · have h2 : (10 : Int) < n := by omega
      go_enter Try.func69, Try.ntmps69
      go_wp2
      go_ret
      exact ⟨ret_bool HQ.out.symm, 0, rfl⟩
  · have hn := inB_true.1 hin
    have HIN := Lib.hid hin
    have HR := Lib.hid h
    clear hin hl
    go_enter Try.func69, Try.ntmps69
    go_wp2
    go_loopw [4] (fun x wr => ∃ k : Nat, k ≤ n ∧ x = .int .i64 k ∧ Hid ((t.take k).all (lineOk n n) = true) ∧ wr = w) (fun x _ => n - (intOf x).toNat)
    case atStart => exact ⟨0, by omega, rfl, Lib.hid (by simp), rfl⟩
    case round =>
      obtain ⟨k, hk, rfl, hall, rfl⟩ := hrel
      by_cases hlt : k < n
      · obtain ⟨b, o, A1, n1, c1, r, rfl, _, hz, hc, _, hr⟩ := HR.out.2.2 k hlt
        have HZ := Lib.hid hz
        have hl1 := hr.len
        have hn1 := hr.le
        clear hz
        by_cases hlen : n1 = n
        · subst hlen
          rcases hb : (r.all fun z => inB z 0 ((n1 : Int) - 1)) with _ | _
          · have CI : Calls Try.prog 122 #[.slice A1 n1 c1, .int .i64 n1] wr fun e w' => e = .returned (.bool false) ∧ wr = w' := by rw [← hb]; exact l01BelowG_any A1 n1 c1 _ r wr hr (by omega) (by omega)
            have HQ := Lib.hid (grpOk_row HL.out HZ.out (show lineOk n1 n1 r = false by unfold lineOk rowOk; rw [hb]; simp))
            clear hb hr
            go_wp2_with (go_at_call 122; (with_reducible refine (CI).mono ?_); rintro e w' ⟨rfl, rfl⟩)
            go_ret
            exact ⟨ret_bool HQ.out.symm, 0, rfl⟩
          · have CI : Calls Try.prog 122 #[.slice A1 n1 c1, .int .i64 n1] wr fun e w' => e = .returned (.bool true) ∧ wr = w' := by rw [← hb]; exact l01BelowG_any A1 n1 c1 _ r wr hr (by omega) (by omega)
            have HB := Lib.hid (show lineOk n1 n1 r = true by unfold lineOk rowOk; rw [hb, hl1]; simp)
            clear hb hr
            go_wp2_with (go_at_call 122; (with_reducible refine (CI).mono ?_); rintro e w' ⟨rfl, rfl⟩)
            go_roundw
            case rel => exact ⟨k + 1, by omega, by go_num, Lib.hid (all_step HZ.out hall.out HB.out), trivial⟩
            case measure => simp [intOf]; omega
        · have g1 : ((n1 : Int) != (n : Int)) = true := by simp; omega
          have HQ := Lib.hid (grpOk_row HL.out HZ.out (show lineOk n n r = false by unfold lineOk; rw [hl1]; simp; omega))
          clear hr
          go_wp2
          go_ret
          exact ⟨ret_bool HQ.out.symm, 0, rfl⟩
      · obtain rfl : n = k := by omega
        have ht : tabOk n n t = true := by
          unfold tabOk
          rw [all_end (by have := HL.out; omega) hall.out, HL.out]
          simp
        obtain ⟨b, o1, P, Q, C, rfl, hT⟩ := tabR_of HR.out ht (show 0 < n by omega)
        have HT := Lib.hid hT
        have HT0 := Lib.hid ht
        have CI : Calls Try.prog 102 #[.slice (some ⟨b, o1, none⟩) n c] wr fun e w' => e = .returned (.int .i64 (optI (idOf t n))) ∧ ∃ m, w' = wr.drewN m := l05Identity_any _ n c t wr HR.out ht (by omega)
        clear hT ht
        rcases hid : idOf t n with _ | e
        · rw [hid] at CI
          have HQ := Lib.hid (grpOk_id HL.out hid)
          clear hid
          simp only [optI] at CI
          go_wp2_with (go_at_call 102; (with_reducible refine (CI).mono ?_); rintro e w' ⟨rfl, m, rfl⟩)
          go_ret
          exact ⟨ret_bool HQ.out.symm, m, rfl⟩
        · rw [hid] at CI
          have he := (firstN_is hid).1
          have HI := Lib.hid hid
          clear hid
          simp only [optI] at CI
          have CV : Hid (∀ q x, x < n → Calls Try.prog 104 #[.slice (some ⟨b, o1, none⟩) n c, .int .i64 (e : Nat), .int .i64 (x : Nat)] (wr.drewN q) fun r w' => r = .returned (.int .i64 (optI (invOf t n e x))) ∧ ∃ m, w' = wr.drewN m) := Lib.hid (fun q x hx =>
            (l05Inverse_any _ n c t e x (wr.drewN q) (HR.out.drewN q) HT0.out (by omega) hx he).mono fun r w' ⟨h1, m', h2⟩ => ⟨h1, q + m', by rw [h2, World.drewN_drewN]⟩)
          go_wp2_with (go_at_call 102; (with_reducible refine (CI).mono ?_); rintro e w' ⟨rfl, m, rfl⟩)
          clear CI
          go_loopw [6, 7, 8] (fun x _ _ wq => ∃ j : Nat, j ≤ n ∧ x = .int .i64 j ∧ Hid (∀ i, i < j → (invOf t n e i).isSome = true ∧ (allN n fun y => allN n fun z => assC t i y z) = true) ∧ ∃ m, wq = wr.drewN m) (fun x _ _ _ => n - (intOf x).toNat)
          case atStart => exact ⟨0, by omega, rfl, Lib.hid (fun i hi => absurd hi (by omega)), m, rfl⟩
          case round =>
            obtain ⟨j, hj, rfl, hall2, m1, rfl⟩ := hrel
            by_cases hjn : j < n
            · have CJ := CV.out m1 j hjn
              rcases hv : invOf t n e j with _ | v
              · rw [hv] at CJ
                have HQ := Lib.hid (grpOk_inv HL.out HI.out hjn hv)
                clear hv
                simp only [optI] at CJ
                go_wp2_with (go_at_call 104; (with_reducible refine (CJ).mono ?_); rintro e w' ⟨rfl, m2, rfl⟩)
                go_ret
                exact ⟨ret_bool HQ.out.symm, m2, rfl⟩
              · rw [hv] at CJ
                have HV := Lib.hid (show (invOf t n e j).isSome = true by rw [hv]; rfl)
                clear hv
                simp only [optI] at CJ
                go_wp2_with (go_at_call 104; (with_reducible refine (CJ).mono ?_); rintro e w' ⟨rfl, m2, rfl⟩)
                go_loopw [7, 8] (fun y _ wq => ∃ i : Nat, i ≤ n ∧ y = .int .i64 i ∧ Hid (∀ q, q < i → (allN n fun z => assC t j q z) = true) ∧ ∃ m, wq = wr.drewN m) (fun y _ _ => n - (intOf y).toNat)
                case atStart => exact ⟨0, by omega, rfl, Lib.hid (fun i hi => absurd hi (by omega)), m2, rfl⟩
                case round =>
                  obtain ⟨i, hi, rfl, hall3, m3, rfl⟩ := hrel
                  by_cases hin : i < n
                  · go_wp2
                    go_loopw [8] (fun z wq => ∃ l : Nat, l ≤ n ∧ z = .int .i64 l ∧ Hid (∀ q, q < l → assC t j i q = true) ∧ ∃ m, wq = wr.drewN m) (fun z _ => n - (intOf z).toNat)
                    case atStart => exact ⟨0, by omega, rfl, Lib.hid (fun i hi => absurd hi (by omega)), m3, rfl⟩
                    case round =>
                      obtain ⟨l, hl, rfl, hall4, m4, rfl⟩ := hrel
                      by_cases hln : l < n
                      · have b1 := (tabOk_cell HT0.out hjn hin).1
                        have b2 := (tabOk_cell HT0.out hin hln).1
                        have r1 := HT.out.row hjn
                        have r2 := HT.out.row b1
                        have r3 := HT.out.row hin
                        have d1 := HT.out.cell hjn hin
                        have d2 := HT.out.cell b1 hln
                        have d3 := HT.out.cell hin hln
                        have d4 := HT.out.cell hjn b2
                        have hFe : assC t j i l = decide (cellZ t (cellZ t j i) l = cellZ t j (cellZ t i l)) := rfl
                        generalize cellZ t j i = za at r2 d1 d2 hFe b1
                        generalize cellZ t i l = zb at d3 d4 hFe b2
                        generalize cellZ t za l = ya at d2 hFe
                        generalize cellZ t j zb = yb at d4 hFe
                        generalize P za = Pz at r2 d2
                        generalize Q za = Qz at r2 d2
                        generalize C za = Cz at r2
                        generalize P i = Pi at r3 d3
                        generalize Q i = Qi at r3 d3
                        generalize C i = Ci at r3
                        generalize P j = Pj at r1 d1 d4
                        generalize Q j = Qj at r1 d1 d4
                        generalize C j = Cj at r1
                        by_cases ha : ya = yb
                        · subst ha
                          have HF : Hid (assC t j i l = true) := Lib.hid (by rw [hFe]; simp)
                          clear hFe
                          go_wp2
                          go_quiet (fail)
                          go_wp2
                          go_roundw
                          case rel =>
                            refine ⟨l + 1, by omega, by go_num, Lib.hid (fun i hi => ?_), _, rfl⟩
                            rcases Nat.lt_or_ge i l with h1 | h1
                            · exact hall4.out i h1
                            · obtain rfl : i = l := by omega
                              exact HF.out
                          case measure => simp [intOf]; omega
                        · have g1 : ((ya : Int) != (yb : Int)) = true := by simp; omega
                          have HF : Hid (grpOk t = false) := Lib.hid (grpOk_ass HL.out hjn hin hln (by rw [hFe]; simp [ha]))
                          clear hFe
                          go_wp2
                          go_quiet (fail)
                          go_wp2
                          go_ret
                          exact ⟨ret_bool HF.out.symm, drewE _ _ _⟩
                      · obtain rfl : n = l := by omega
                        have HF : Hid ((allN n fun z => assC t j i z) = true) := Lib.hid (allN_true.2 hall4.out)
                        go_wp2
                        go_roundw
                        case rel =>
                          refine ⟨i + 1, by omega, by go_num, Lib.hid (fun q hq => ?_), m4, rfl⟩
                          rcases Nat.lt_or_ge q i with h1 | h1
                          · exact hall3.out q h1
                          · obtain rfl : q = i := by omega
                            exact HF.out
                        case measure => simp [intOf]; omega
                  · obtain rfl : n = i := by omega
                    have HF : Hid ((allN n fun y => allN n fun z => assC t j y z) = true) := Lib.hid (allN_true.2 hall3.out)
                    go_wp2
                    go_roundw
                    case rel =>
                      refine ⟨j + 1, by omega, by go_num, Lib.hid (fun q hq => ?_), m3, rfl⟩
                      rcases Nat.lt_or_ge q j with h1 | h1
                      · exact hall2.out q h1
                      · obtain rfl : q = j := by omega
                        exact ⟨HV.out, HF.out⟩
                    case measure => simp [intOf]; omega
            · obtain rfl : n = j := by omega
              have HF : Hid (grpOk t = true) := Lib.hid (grpOk_yes HL.out HIN.out HT0.out HI.out (allN_true.2 fun i hi => (hall2.out i hi).2) (allN_true.2 fun i hi => (hall2.out i hi).1))
              go_wp2
              go_ret
              exact ⟨ret_bool HF.out.symm, m1, rfl⟩
end Go.Proofs.Yteggllmiapdmcaa
