/-
  Pairs that commute, counted by the model.
-/
import Derived.Test.YtiokcflomchdcabSumN
import Derived.Test.YtiokcflomchdcabQS
import Derived.BigQuiet
namespace Go.Proofs.Ytiokcflomchdcab
open Go.RowKit


def swapC (t : List (List Int)) (x y : Nat) : Bool := decide (cellZ t x y = cellZ t y x)
def chainC (t : List (List Int)) (c x y : Nat) : Bool := decide (cellZ t (cellZ t c x) y = cellZ t (cellZ t c y) x)
def swapsQ (t : List (List Int)) : Nat := pairsX (swapC t) t.length
def chainsQ (t : List (List Int)) : Nat := sumN (fun c => pairsX (chainC t c) t.length) t.length
theorem isQ_parts {t : List (List Int)} {n : Nat} (h : isQ t = true) (hl : t.length = n) : (1 ≤ n ∧ n ≤ 36) ∧ tabOk n n t = true := by
  unfold isQ at h
  rw [hl] at h
  simp only [Bool.and_eq_true] at h
  have := inB_true.1 h.1
  exact ⟨by omega, h.2.1⟩
/-- Where a cell of a table of n rows of n numbers below n lies. -/
theorem cell_lies {B n : Nat} {A : Option Addr} {t : List (List Int)} {w : World} (h : Rows2 B w A n t) (ht : tabOk n n t = true) {x y : Nat} (hx : x < n) (hy : y < n) :
    ∃ b o b2 o2 c2, A = some ⟨b, o, none⟩ ∧ b < B ∧ w.cell? ⟨b, o + x, none⟩ = some (.slice (some ⟨b2, o2, none⟩) n c2) ∧ n ≤ c2 ∧ b2 < B ∧ w.cell? ⟨b2, o2 + y, none⟩ = some (.int .i64 (cellZ t x y : Int)) := by
  obtain ⟨b, o, A1, n1, c1, r, rfl, hb, hz, hc, hn, hr⟩ := h.2.2 x hx
  obtain ⟨r', h1, h2, h3⟩ := tabOk_row ht hx
  rw [hz] at h1
  injection h1 with h1
  subst h1
  have hn1 : n1 = n := by have := hr.len; omega
  subst hn1
  obtain ⟨b3, o3, z, rfl, hb3, hz3, hc3, _⟩ := hr.at_ hy
  have := h3 y z hz3
  have e := tab_at hz hz3
  refine ⟨b, o, b3, o3, c1, rfl, hb, hc, hn, hb3, ?_⟩
  rw [e, hc3]
  congr 2
  omega

set_option maxRecDepth 100000 in
set_option maxHeartbeats 2000000 in
theorem l04Swaps_any {B : Nat} (A : Option Addr) (n c : Nat) (t : List (List Int)) (w : World) (h : Rows2 B w A n t) (ht : tabOk n n t = true) (hn : n ≤ 36) :
    Calls Try.prog 52 #[.slice A n c] w fun e w' => e = .returned (.int .i64 (swapsQ t : Int)) ∧ ∃ m, w' = w.drewN m := by
  have hl := h.len
  have hle := h.le
  obtain ⟨F, hF⟩ : ∃ F, F = swapC t := ⟨_, rfl⟩
  have HQ : Hid (swapsQ t = pairsX F n) := Lib.hid (by unfold swapsQ; rw [hl, hF])
  have HR := Lib.hid h
  have HT := Lib.hid ht
  clear h ht
  go_enter Try.func52, Try.ntmps52
  go_wp2
  go_loopw [3, 4, 5] (fun o x _ wr => ∃ k : Nat, k ≤ n ∧ x = .int .i64 k ∧ o = .int .i64 ((sumN (fun x => sumN (pairX F x) n) k : Nat) : Int) ∧ ∃ m, wr = w.drewN m) (fun _ x _ _ => n - (intOf x).toNat)
  case atStart => exact ⟨0, by omega, rfl, rfl, 0, rfl⟩
  case round =>
    obtain ⟨k, hk, rfl, rfl, m, rfl⟩ := hrel
    by_cases hlt : k < n
    · obtain ⟨S, hS⟩ : ∃ S, S = sumN (fun x => sumN (pairX F x) n) k := ⟨_, rfl⟩
      rw [← hS]
      have HS := Lib.hid hS
      clear hS
      go_wp2
      go_loopw [3, 5] (fun o y wq => ∃ j : Nat, k + 1 ≤ j ∧ j ≤ n ∧ y = .int .i64 j ∧ o = .int .i64 ((S + sumN (pairX F k) j : Nat) : Int) ∧ ∃ m, wq = w.drewN m) (fun _ y _ => n - (intOf y).toNat)
      case atStart => exact ⟨k + 1, by omega, by omega, by go_num, by rw [pairX_start]; rfl, m, rfl⟩
      case round =>
        obtain ⟨j, hj1, hj, rfl, rfl, m2, rfl⟩ := hrel
        by_cases hjn : j < n
        · have hpl := partX_le F hn (show k ≤ n by omega) (show j ≤ n by omega)
          rw [← HS.out] at hpl
          obtain ⟨T, hT⟩ : ∃ T, T = S + sumN (pairX F k) j := ⟨_, rfl⟩
          have hnx : Hid (S + sumN (pairX F k) (j + 1) = T + b1 (F k j)) := Lib.hid (by rw [pairX_next F (show k < j by omega), hT]; omega)
          rw [← hT] at hpl ⊢
          clear hT
          obtain ⟨b, o, b2, o2, c2, e1, _, hc1, _, _, hc2⟩ := cell_lies HR.out HT.out (show k < n by omega) hjn
          subst e1
          obtain ⟨b', o', b3, o3, c3, e2, _, hc3, _, _, hc4⟩ := cell_lies HR.out HT.out hjn (show k < n by omega)
          injection e2 with e2
          injection e2 with e2 e3 _
          subst e2; subst e3
          have hFe : F k j = decide (cellZ t k j = cellZ t j k) := by rw [hF]; rfl
          obtain ⟨za, hza⟩ : ∃ za, za = cellZ t k j := ⟨_, rfl⟩
          obtain ⟨zb, hzb⟩ : ∃ zb, zb = cellZ t j k := ⟨_, rfl⟩
          rw [← hza] at hc2 hFe
          rw [← hzb] at hc4 hFe
          clear hza hzb hF
          by_cases he : za = zb
          · subst he
            have hF1 : F k j = true := by rw [hFe]; simp
            rw [hF1, b1_true] at hnx
            clear hFe hF1
            go_wp2
            go_quiet (fail)
            go_wp2
            go_roundw
            case rel => exact ⟨j + 1, by omega, by omega, by go_num, by rw [hnx.out]; go_num, _, rfl⟩
            case measure => simp [intOf]; omega
          · have hF0 : F k j = false := by rw [hFe]; simp [he]
            rw [hF0, b1_false] at hnx
            have g1 : ((za : Int) == (zb : Int)) = false := by simp; omega
            clear hFe hF0
            go_wp2
            go_quiet (fail)
            go_wp2
            go_roundw
            case rel => exact ⟨j + 1, by omega, by omega, by go_num, by rw [hnx.out]; go_num, _, rfl⟩
            case measure => simp [intOf]; omega
        · obtain rfl : j = n := by omega
          go_wp2
          go_roundw
          case rel => exact ⟨k + 1, by omega, by go_num, by rw [sumN_succ, HS.out], m2, rfl⟩
          case measure => simp [intOf]; omega
    · obtain rfl : k = n := by omega
      go_wp2
      go_ret
      exact ⟨ret_int (by rw [HQ.out]; rfl), m, rfl⟩

set_option maxRecDepth 100000 in
set_option maxHeartbeats 4000000 in
theorem l04Chains_any {B : Nat} (A : Option Addr) (n c : Nat) (t : List (List Int)) (w : World) (h : Rows2 B w A n t) (ht : tabOk n n t = true) (hn : n ≤ 36) :
    Calls Try.prog 54 #[.slice A n c] w fun e w' => e = .returned (.int .i64 (chainsQ t : Int)) ∧ ∃ m, w' = w.drewN m := by
  have hl := h.len
  have hle := h.le
  obtain ⟨F, hF⟩ : ∃ F, F = chainC t := ⟨_, rfl⟩
  have HQ : Hid (chainsQ t = sumN (fun c => pairsX (F c) n) n) := Lib.hid (by unfold chainsQ; rw [hl, hF])
  have HR := Lib.hid h
  have HT := Lib.hid ht
  clear h ht
  go_enter Try.func54, Try.ntmps54
  go_wp2
  go_loopw [3, 4, 5, 6] (fun o x _ _ wr => ∃ i : Nat, i ≤ n ∧ x = .int .i64 i ∧ o = .int .i64 ((sumN (fun c => pairsX (F c) n) i : Nat) : Int) ∧ ∃ m, wr = w.drewN m) (fun _ x _ _ _ => n - (intOf x).toNat)
  case atStart => exact ⟨0, by omega, rfl, rfl, 0, rfl⟩
  case round =>
    obtain ⟨i, hi, rfl, rfl, m0, rfl⟩ := hrel
    by_cases hin : i < n
    · have hRb : sumN (fun c => pairsX (F c) n) i ≤ 46656 := by
        have h1 := sumN_le (m := 1296) i (fun c _ => pairsX_le (F c) hn)
        have h2 : i * 1296 ≤ 36 * 1296 := Nat.mul_le_mul_right _ (by omega)
        omega
      obtain ⟨R, hR⟩ : ∃ R, R = sumN (fun c => pairsX (F c) n) i := ⟨_, rfl⟩
      rw [← hR] at hRb ⊢
      have HRR := Lib.hid hR
      clear hR
      go_wp2
      go_loopw [3, 5, 6] (fun o x _ wr => ∃ k : Nat, k ≤ n ∧ x = .int .i64 k ∧ o = .int .i64 ((R + sumN (fun x => sumN (pairX (F i) x) n) k : Nat) : Int) ∧ ∃ m, wr = w.drewN m) (fun _ x _ _ => n - (intOf x).toNat)
      case atStart => exact ⟨0, by omega, rfl, rfl, m0, rfl⟩
      case round =>
        obtain ⟨k, hk, rfl, rfl, m, rfl⟩ := hrel
        by_cases hlt : k < n
        · have hS1 : sumN (fun x => sumN (pairX (F i) x) n) k ≤ 1332 := by have := partX_le (F i) hn (show k ≤ n by omega) (Nat.zero_le n); omega
          obtain ⟨S, hS⟩ : ∃ S, S = R + sumN (fun x => sumN (pairX (F i) x) n) k := ⟨_, rfl⟩
          rw [← hS]
          have HS := Lib.hid hS
          clear hS hS1
          go_wp2
          go_loopw [3, 6] (fun o y wq => ∃ j : Nat, k + 1 ≤ j ∧ j ≤ n ∧ y = .int .i64 j ∧ o = .int .i64 ((S + sumN (pairX (F i) k) j : Nat) : Int) ∧ ∃ m, wq = w.drewN m) (fun _ y _ => n - (intOf y).toNat)
          case atStart => exact ⟨k + 1, by omega, by omega, by go_num, by rw [pairX_start]; rfl, m, rfl⟩
          case round =>
            obtain ⟨j, hj1, hj, rfl, rfl, m2, rfl⟩ := hrel
            by_cases hjn : j < n
            · have hpl := partX_le (F i) hn (show k ≤ n by omega) (show j ≤ n by omega)
              obtain ⟨T, hT⟩ : ∃ T, T = S + sumN (pairX (F i) k) j := ⟨_, rfl⟩
              have hTb : T ≤ 50000 := by rw [hT, HS.out]; omega
              have hnx : Hid (S + sumN (pairX (F i) k) (j + 1) = T + b1 (F i k j)) := Lib.hid (by rw [pairX_next (F i) (show k < j by omega), hT]; omega)
              rw [← hT]
              clear hT hpl
              have l1 := (tabOk_cell HT.out hin hlt).1
              have l2 := (tabOk_cell HT.out hin hjn).1
              obtain ⟨b, o, b2, o2, c2, e1, _, hc1, _, _, hc2⟩ := cell_lies HR.out HT.out hin hlt
              subst e1
              obtain ⟨b', o', b2', o2', c2', e2, _, hc1', _, _, hc3⟩ := cell_lies HR.out HT.out hin hjn
              injection e2 with e2
              injection e2 with e2 e3 _
              subst e2; subst e3
              rw [hc1] at hc1'
              injection hc1' with hc1'
              injection hc1' with hc1' _ hc1''
              injection hc1' with hc1'
              injection hc1' with h1 h2 _
              subst h1; subst h2; subst hc1''
              obtain ⟨b', o', b3, o3, c3, e2, _, hc4, _, _, hc5⟩ := cell_lies HR.out HT.out l1 hjn
              injection e2 with e2
              injection e2 with e2 e3 _
              subst e2; subst e3
              obtain ⟨b', o', b4, o4, c4, e2, _, hc6, _, _, hc7⟩ := cell_lies HR.out HT.out l2 hlt
              injection e2 with e2
              injection e2 with e2 e3 _
              subst e2; subst e3
              have hFe : F i k j = decide (cellZ t (cellZ t i k) j = cellZ t (cellZ t i j) k) := by rw [hF]; rfl
              obtain ⟨xa, hxa⟩ : ∃ xa, xa = cellZ t i k := ⟨_, rfl⟩
              obtain ⟨xb, hxb⟩ : ∃ xb, xb = cellZ t i j := ⟨_, rfl⟩
              rw [← hxa] at hFe hc2 hc4 hc5 l1
              rw [← hxb] at hFe hc3 hc6 hc7 l2
              obtain ⟨za, hza⟩ : ∃ za, za = cellZ t xa j := ⟨_, rfl⟩
              obtain ⟨zb, hzb⟩ : ∃ zb, zb = cellZ t xb k := ⟨_, rfl⟩
              rw [← hza] at hc5 hFe
              rw [← hzb] at hc7 hFe
              clear hza hzb hF hxa hxb
              by_cases he : za = zb
              · subst he
                have hF1 : F i k j = true := by rw [hFe]; simp
                rw [hF1, b1_true] at hnx
                clear hFe hF1
                go_wp2
                go_quiet (fail)
                go_wp2
                go_roundw
                case rel => exact ⟨j + 1, by omega, by omega, by go_num, by rw [hnx.out]; go_num, _, rfl⟩
                case measure => simp [intOf]; omega
              · have hF0 : F i k j = false := by rw [hFe]; simp [he]
                rw [hF0, b1_false] at hnx
                have g1 : ((za : Int) == (zb : Int)) = false := by simp; omega
                clear hFe hF0
                go_wp2
                go_quiet (fail)
                go_wp2
                go_roundw
                case rel => exact ⟨j + 1, by omega, by omega, by go_num, by rw [hnx.out]; go_num, _, rfl⟩
                case measure => simp [intOf]; omega
            · obtain rfl : j = n := by omega
              go_wp2
              go_roundw
              case rel => exact ⟨k + 1, by omega, by go_num, by rw [sumN_succ, HS.out, Nat.add_assoc], m2, rfl⟩
              case measure => simp [intOf]; omega
        · obtain rfl : k = n := by omega
          go_wp2
          go_roundw
          case rel => exact ⟨i + 1, by omega, by go_num, by rw [sumN_succ, HRR.out]; rfl, m, rfl⟩
          case measure => simp [intOf]; omega
    · obtain rfl : i = n := by omega
      go_wp2
      go_ret
      exact ⟨ret_int (by rw [HQ.out]), m0, rfl⟩

/-- What the functions return that ask for a quasigroup. -/
def valQ (v : Int) (t : List (List Int)) : Int := if isQ t then v else 0
set_option maxHeartbeats 400000 in
theorem specSwaps_any {B : Nat} (A : Option Addr) (n c : Nat) (t : List (List Int)) (w : World) (h : Rows2 B w A n t) (hB : B ≤ w.heap.size) :
    Calls Try.prog 20 #[.slice A n c] w fun e w' => e = two (valQ (swapsQ t : Int) t) (isQ t) ∧ Below w.heap.size w w' := by
  have hl := h.len
  have CQ := l04Is_any A n c t w h hB
  unfold valQ
  rcases hq : isQ t with _ | _
  · rw [hq] at CQ
    go_enter Try.func20, Try.ntmps20
    go_wp2_with (go_at_call 42; (with_reducible refine (CQ).mono ?_); rintro e w' ⟨rfl, hb⟩)
    go_ret2
    exact ⟨rfl, hb⟩
  · rw [hq] at CQ
    have hp := isQ_parts hq hl
    go_enter Try.func20, Try.ntmps20
    go_wp2_with fail
    (go_at_call 42; (with_reducible refine (CQ).mono ?_); rintro e w1 ⟨rfl, hb⟩)
    go_wp2_with fail
    (go_at_call 52; (with_reducible refine (l04Swaps_any _ _ _ t _ (h.below (hb.mono hB)) hp.2 hp.1.2).mono ?_); rintro e w' ⟨rfl, m, rfl⟩)
    go_wp2_with fail
    go_ret2
    exact ⟨rfl, below_drewN hb m⟩
set_option maxHeartbeats 400000 in
theorem specChains_any {B : Nat} (A : Option Addr) (n c : Nat) (t : List (List Int)) (w : World) (h : Rows2 B w A n t) (hB : B ≤ w.heap.size) :
    Calls Try.prog 22 #[.slice A n c] w fun e w' => e = two (valQ (chainsQ t : Int) t) (isQ t) ∧ Below w.heap.size w w' := by
  have hl := h.len
  have CQ := l04Is_any A n c t w h hB
  unfold valQ
  rcases hq : isQ t with _ | _
  · rw [hq] at CQ
    go_enter Try.func22, Try.ntmps22
    go_wp2_with (go_at_call 42; (with_reducible refine (CQ).mono ?_); rintro e w' ⟨rfl, hb⟩)
    go_ret2
    exact ⟨rfl, hb⟩
  · rw [hq] at CQ
    have hp := isQ_parts hq hl
    go_enter Try.func22, Try.ntmps22
    go_wp2_with fail
    (go_at_call 42; (with_reducible refine (CQ).mono ?_); rintro e w1 ⟨rfl, hb⟩)
    go_wp2_with fail
    (go_at_call 54; (with_reducible refine (l04Chains_any _ _ _ t _ (h.below (hb.mono hB)) hp.2 hp.1.2).mono ?_); rintro e w' ⟨rfl, m, rfl⟩)
    go_wp2_with fail
    go_ret2
    exact ⟨rfl, below_drewN hb m⟩
end Go.Proofs.Ytiokcflomchdcab
