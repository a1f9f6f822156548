/-
  The least gap of a lexicon, of both sides, and the law's walk.
-/
import Derived.Test.YtfmlmgebomapjabTrS
import Derived.Test.YtfmlmgebomapjabWdS
import Derived.Test.YtfmlmgebomapjabWdI
import Derived.Deep.RegionWith
namespace Go.Proofs.Ytfmlmgebomapjab
open Go.RowKit

theorem below_dr {B : Nat} {W w2 : World} (h : Below B W.drew w2) : Below B W w2 := ⟨h.os, h.tape, h.output, h.size, h.block⟩
def gpU (f : Nat → Nat → Nat) (st : Nat × Nat × Nat) (i k : Nat) : Nat × Nat × Nat := if f i k < st.1 then (f i k, i, k) else st
def gpK (f : Nat → Nat → Nat) (i : Nat) (st : Nat × Nat × Nat) : Nat → Nat × Nat × Nat
  | 0 => st
  | m + 1 => gpU f (gpK f i st m) i (i + 1 + m)
/-- The least gap, and where it is, of the pairs whose first word is one of the first ones. -/
def gpI (f : Nat → Nat → Nat) (n : Nat) : Nat → Nat × Nat × Nat
  | 0 => (21, 0, 0)
  | i + 1 => gpK f i (gpI f n i) (n - 1 - i)
theorem gpU_le (f : Nat → Nat → Nat) (st : Nat × Nat × Nat) (i k : Nat) : (gpU f st i k).1 ≤ st.1 := by
  unfold gpU; split
  · exact Nat.le_of_lt ‹_›
  · exact Nat.le_refl _
theorem gpU_20 {f : Nat → Nat → Nat} (st : Nat × Nat × Nat) {i k : Nat} (h : f i k ≤ 20) : (gpU f st i k).1 ≤ 20 := by
  unfold gpU; split
  · exact h
  · omega
theorem gpK_le (f : Nat → Nat → Nat) (i : Nat) (st : Nat × Nat × Nat) : ∀ m, (gpK f i st m).1 ≤ st.1
  | 0 => Nat.le_refl _
  | m + 1 => Nat.le_trans (gpU_le f _ i _) (gpK_le f i st m)
theorem gpI_21 (f : Nat → Nat → Nat) (n : Nat) : ∀ i, (gpI f n i).1 ≤ 21
  | 0 => Nat.le_refl _
  | i + 1 => Nat.le_trans (gpK_le f i _ _) (gpI_21 f n i)
theorem gpI_20 {f : Nat → Nat → Nat} {n : Nat} (hn : 2 ≤ n) (h : f 0 (n - 1) ≤ 20) : ∀ i, (gpI f n (i + 1)).1 ≤ 20 := by
  intro i
  induction i with
  | zero =>
    show (gpK f 0 (21, 0, 0) (n - 1 - 0)).1 ≤ 20
    obtain ⟨m, hm⟩ : ∃ m, n - 1 - 0 = m + 1 := ⟨n - 2, by omega⟩
    rw [hm]
    exact gpU_20 _ (by rw [show 0 + 1 + m = n - 1 by omega]; exact h)
  | succ i ih => exact Nat.le_trans (gpK_le f (i + 1) _ _) ih

def gapF (ss : List ByteArray) (i k : Nat) : Nat := lev false (ss.getD i ByteArray.empty).data.toList (ss.getD k ByteArray.empty).data.toList
theorem gap_at {ss : List ByteArray} {i k : Nat} {s t : ByteArray} (hs : ss[i]? = some s) (ht : ss[k]? = some t) : gapF ss i k = lev false s.data.toList t.data.toList := by
  simp [gapF, List.getD, hs, ht]
theorem gap_20 {ss : List ByteArray} (ha : ss.all wokB = true) (i k : Nat) : gapF ss i k ≤ 20 := by
  have h : ∀ j, (ss.getD j ByteArray.empty).size ≤ 20 := by
    intro j
    cases hj : ss[j]? with
    | none => simp [List.getD, hj]
    | some s =>
      have := (wok_let (List.all_eq_true.1 ha s (List.mem_of_getElem? hj))).2
      simpa [List.getD, hj] using this
  have := lev_max false (ss.getD i ByteArray.empty).data.toList (ss.getD k ByteArray.empty).data.toList
  have h1 := h i
  have h2 := h k
  simp only [Array.length_toList] at this
  unfold gapF
  have e1 : (ss.getD i ByteArray.empty).data.size = (ss.getD i ByteArray.empty).size := rfl
  have e2 : (ss.getD k ByteArray.empty).data.size = (ss.getD k ByteArray.empty).size := rfl
  omega
theorem lex_parts {ss : List ByteArray} (h : lexB ss = true) : 2 ≤ ss.length ∧ ss.length ≤ 16 ∧ ss.all wokB = true := by
  unfold lexB at h
  simp only [Bool.and_eq_true, decide_eq_true_eq] at h
  exact ⟨h.1.1, h.1.2, h.2.1⟩
abbrev four4 (l a b : Int) (ok : Bool) : Ending := .returned (.tuple #[.int .i64 l, .int .i64 a, .int .i64 b, .bool ok])
/-- What LeastGap returns. -/
def lgV (ss : List ByteArray) : Ending :=
  if lexB ss = true then four4 ((gpI (gapF ss) ss.length ss.length).1 : Nat) ((gpI (gapF ss) ss.length ss.length).2.1 : Nat) ((gpI (gapF ss) ss.length ss.length).2.2 : Nat) true else four4 0 0 0 false
theorem lg_no {ss : List ByteArray} (h : lexB ss = false) : four4 0 0 0 false = lgV ss := by unfold lgV; rw [h]; rfl
theorem lg_yes {ss : List ByteArray} {n l a b : Nat} (h : lexB ss = true) (hn : ss.length = n) (hs : gpI (gapF ss) n n = (l, a, b)) : four4 (l : Int) (a : Int) (b : Int) true = lgV ss := by
  unfold lgV; rw [if_pos h, hn, hs]

set_option maxRecDepth 100000 in
set_option maxHeartbeats 4000000 in
theorem implGap_any {B : Nat} (A : Option Addr) (n c : Nat) (ss : List ByteArray) (w : World) (h : SRow B w A n ss) (hB : B ≤ w.heap.size) :
    Calls Try.prog 16 #[.slice A n c] w fun e w' => e = lgV ss ∧ Below w.heap.size w w' := by
  have CL := implLex_any A n c ss w h hB
  have HN := Lib.hid h.1
  rcases hx : lexB ss with _ | _
  · have H := Lib.hid (lg_no hx)
    rw [hx] at CL
    clear hx
    go_enter Try.func16, Try.ntmps16
    go_wp2_with (go_at_call 13; (with_reducible refine (CL).mono ?_); rintro e w1 ⟨rfl, b1⟩)
    exact bodyPost_ret (v := .tuple #[.int .i64 0, .int .i64 0, .int .i64 0, .bool false]) (by simp [results, Try.results16, go_sem]) rfl ⟨H.out, b1⟩
  · obtain ⟨hn2, hn16, hall⟩ := lex_parts hx
    have HX := Lib.hid hx
    rw [hx] at CL
    rw [HN.out] at hn2 hn16
    have HA := Lib.hid hall
    clear hx hall
    obtain ⟨f, hf⟩ : ∃ f, f = gapF ss := ⟨_, rfl⟩
    have HF := Lib.hid hf
    clear hf
    go_enter Try.func16, Try.ntmps16
    go_wp2_with (go_at_call 13; (with_reducible refine (CL).mono ?_); rintro e w1 ⟨rfl, b1⟩)
    go_loopw [6, 7, 8, 9, 10, 11, 12, 18] (fun s6 s7 s8 _ _ _ _ y wr => ∃ i l a b : Nat, i ≤ n ∧ y = .int .i64 i ∧ s6 = .int .i64 l ∧ s7 = .int .i64 a ∧ s8 = .int .i64 b ∧ Hid (gpI f n i = (l, a, b)) ∧ Below w.heap.size w wr) (fun _ _ _ _ _ _ _ y _ => n - (intOf y).toNat)
    case atStart => exact ⟨0, 21, 0, 0, by omega, rfl, rfl, rfl, rfl, Lib.hid rfl, b1⟩
    case round =>
      obtain ⟨i, l, a, b, hi, rfl, rfl, rfl, rfl, hG, hbl⟩ := hrel
      obtain ⟨W, hW⟩ : ∃ W, W = wr := ⟨_, rfl⟩
      rw [← hW] at hbl ⊢
      clear hW b1
      by_cases hlt : i < n
      · obtain ⟨bk, o, s, rfl, _, hs, hc, hsm⟩ := (h.below (hbl.mono hB)).at_ hlt
        have HS := Lib.hid hs
        have hs20 : s.size ≤ 20 := (wok_let (List.all_eq_true.1 HA.out s (List.mem_of_getElem? hs))).2
        clear hs
        go_wp2_with fail
        go_loopw [6, 7, 8, 11, 12] (fun s6 s7 s8 y _ wr => ∃ m k l a b : Nat, m ≤ n - 1 - i ∧ y = .int .i64 k ∧ Hid (k = i + 1 + m) ∧ s6 = .int .i64 l ∧ s7 = .int .i64 a ∧ s8 = .int .i64 b ∧ Hid (gpK f i (gpI f n i) m = (l, a, b)) ∧ Below w.heap.size w wr) (fun _ _ _ y _ _ => n - (intOf y).toNat)
        case atStart => exact ⟨0, i + 1, l, a, b, by omega, by go_num, Lib.hid rfl, rfl, rfl, rfl, hG, hbl⟩
        case round =>
          obtain ⟨m, k, l, a, b, hm, rfl, hk, rfl, rfl, rfl, hK, hbl⟩ := hrel
          obtain ⟨W, hW⟩ : ∃ W, W = wr := ⟨_, rfl⟩
          rw [← hW] at hbl ⊢
          clear hW
          have hsz := hbl.size
          by_cases hkn : k < n
          · obtain ⟨bk2, o2, t, hbo, _, ht, hct, htm⟩ := (h.below (hbl.mono hB)).at_ hkn
            injection hbo with hbo
            injection hbo with hb1 hb2
            subst hb1; subst hb2
            have HTT := Lib.hid ht
            have ht20 : t.size ≤ 20 := (wok_let (List.all_eq_true.1 HA.out t (List.mem_of_getElem? ht))).2
            have hl21 : l ≤ 21 := by
              have h1 := gpK_le f i (gpI f n i) m
              have h2 := gpI_21 f n i
              rw [hK.out] at h1
              exact Nat.le_trans h1 h2
            have CE := edits_any s t W hs20 ht20
            obtain ⟨d, hd⟩ : ∃ d, d = lev false s.data.toList t.data.toList := ⟨_, rfl⟩
            have HD : Hid (f i k = d) := Lib.hid (by rw [HF.out, gap_at HS.out HTT.out, hd])
            rw [← hd] at CE
            clear ht hd
            have hms : m + 1 ≤ n - 1 - i := by have := hk.out; omega
            by_cases hdl : d < l
            · have HK : Hid (gpK f i (gpI f n i) (m + 1) = (d, i, k)) := Lib.hid (by
                show gpU f (gpK f i (gpI f n i) m) i (i + 1 + m) = _
                rw [hK.out, ← hk.out]; unfold gpU
                rw [HD.out, if_pos hdl])
              go_wp2_with (go_at_call 26; (with_reducible refine (CE).mono ?_); rintro e w2 ⟨rfl, b2⟩)
              go_roundw
              case rel => exact ⟨m + 1, k + 1, d, i, k, hms, by go_num, Lib.hid (by rw [hk.out]; omega), rfl, rfl, rfl, HK, hbl.trans (b2.mono hsz)⟩
              case measure => simp [intOf]; omega
            · have HK : Hid (gpK f i (gpI f n i) (m + 1) = (l, a, b)) := Lib.hid (by
                show gpU f (gpK f i (gpI f n i) m) i (i + 1 + m) = _
                rw [hK.out, ← hk.out]; unfold gpU
                rw [HD.out, if_neg hdl])
              go_wp2_with (go_at_call 26; (with_reducible refine (CE).mono ?_); rintro e w2 ⟨rfl, b2⟩)
              go_roundw
              case rel => exact ⟨m + 1, k + 1, l, a, b, hms, by go_num, Lib.hid (by rw [hk.out]; omega), rfl, rfl, rfl, HK, hbl.trans (b2.mono hsz)⟩
              case measure => simp [intOf]; omega
          · have HK : Hid (gpI f n (i + 1) = (l, a, b)) := Lib.hid (by
              show gpK f i (gpI f n i) (n - 1 - i) = _
              rw [← hK.out]; congr 1; have := hk.out; omega)
            go_wp2_with fail
            go_roundw
            case rel => exact ⟨i + 1, l, a, b, by omega, by go_num, rfl, rfl, rfl, HK, hbl⟩
            case measure => simp [intOf]; omega
      · obtain rfl : i = n := by omega
        have H : Hid (four4 (l : Int) (a : Int) (b : Int) true = lgV ss) := Lib.hid (lg_yes HX.out HN.out (by rw [← HF.out]; exact hG.out))
        go_wp2_with fail
        exact bodyPost_ret (v := .tuple #[.int .i64 (l : Int), .int .i64 (a : Int), .int .i64 (b : Int), .bool true]) (by simp [results, Try.results16, go_sem]) rfl ⟨H.out, hbl⟩

set_option maxRecDepth 100000 in
set_option maxHeartbeats 8000000 in
theorem specGap_any {B : Nat} (A : Option Addr) (n c : Nat) (ss : List ByteArray) (w : World) (h : SRow B w A n ss) (hB : B ≤ w.heap.size) (hn : n ≤ 1048576) :
    Calls Try.prog 15 #[.slice A n c] w fun e w' => e = lgV ss ∧ Below w.heap.size w w' := by
  have CL := l07Lexicon_any A n c ss w h hn
  have HN := Lib.hid h.1
  rcases hx : lexB ss with _ | _
  · have H := Lib.hid (lg_no hx)
    rw [hx] at CL
    clear hx
    go_enter Try.func15, Try.ntmps15
    go_wp2_with (go_at_call 27; (with_reducible refine (CL).mono ?_); rintro e w' ⟨rfl, m, rfl⟩)
    exact bodyPost_ret (v := .tuple #[.int .i64 0, .int .i64 0, .int .i64 0, .bool false]) (by simp [results, Try.results15, go_sem]) rfl ⟨H.out, below_drewN (Below.refl _ _) m⟩
  · obtain ⟨hn2, hn16, hall⟩ := lex_parts hx
    have HX := Lib.hid hx
    rw [hx] at CL
    rw [HN.out] at hn2 hn16
    have HA := Lib.hid hall
    clear hx hall
    obtain ⟨f, hf⟩ : ∃ f, f = gapF ss := ⟨_, rfl⟩
    have HF := Lib.hid hf
    clear hf
    go_enter Try.func15, Try.ntmps15
    go_wp2_with (go_at_call 27; (with_reducible refine (CL).mono ?_); rintro e w' ⟨rfl, m, rfl⟩)
    go_loopw [6, 7, 8, 9, 10, 11] (fun s6 s7 s8 y _ _ wr => ∃ (i l a b : Nat) (z : Int), i ≤ n ∧ y = .int .i64 i ∧ s6 = .int .i64 z ∧ Hid (z = if l = 21 then -1 else (l : Int)) ∧ s7 = .int .i64 a ∧ s8 = .int .i64 b ∧ Hid (gpI f n i = (l, a, b)) ∧ Below w.heap.size w wr) (fun _ _ _ y _ _ _ => n - (intOf y).toNat)
    case atStart => exact ⟨0, 21, 0, 0, -1, by omega, rfl, rfl, Lib.hid rfl, rfl, rfl, Lib.hid rfl, below_drewN (Below.refl _ _) m⟩
    case round =>
      obtain ⟨i, l, a, b, z, hi, rfl, rfl, hz, rfl, rfl, hG, hbl⟩ := hrel
      obtain ⟨W, hW⟩ : ∃ W, W = wr := ⟨_, rfl⟩
      rw [← hW] at hbl ⊢
      clear hW
      by_cases hlt : i < n
      · obtain ⟨bk, o, s, rfl, _, hs, hc, hsm⟩ := (h.below (hbl.mono hB)).at_ hlt
        have HS := Lib.hid hs
        have hs20 : s.size ≤ 20 := (wok_let (List.all_eq_true.1 HA.out s (List.mem_of_getElem? hs))).2
        clear hs hc
        go_wp2_with fail
        go_loopw [6, 7, 8, 10, 11] (fun s6 s7 s8 y _ wr => ∃ (m k l a b : Nat) (z : Int), m ≤ n - 1 - i ∧ y = .int .i64 k ∧ Hid (k = i + 1 + m) ∧ s6 = .int .i64 z ∧ Hid (z = if l = 21 then -1 else (l : Int)) ∧ s7 = .int .i64 a ∧ s8 = .int .i64 b ∧ Hid (gpK f i (gpI f n i) m = (l, a, b)) ∧ Below w.heap.size w wr) (fun _ _ _ y _ _ => n - (intOf y).toNat)
        case atStart => exact ⟨0, i + 1, l, a, b, z, by omega, by go_num, Lib.hid rfl, rfl, hz, rfl, rfl, hG, hbl⟩
        case round =>
          obtain ⟨m, k, l, a, b, z, hm, rfl, hk, rfl, hz, rfl, rfl, hK, hbl⟩ := hrel
          obtain ⟨W, hW⟩ : ∃ W, W = wr := ⟨_, rfl⟩
          rw [← hW] at hbl ⊢
          clear hW
          have hsz := hbl.size
          by_cases hkn : k < n
          · obtain ⟨bk2, o2, s2, hbo, _, hs2, hc2, _⟩ := (h.below (hbl.mono hB)).at_ hlt
            injection hbo with hbo
            injection hbo with hb1 hb2
            subst hb1; subst hb2
            rw [HS.out] at hs2
            injection hs2 with hs2
            subst hs2
            obtain ⟨bk2, o2, t, hbo, _, ht, hct, htm⟩ := (h.below (hbl.mono hB)).at_ hkn
            injection hbo with hbo
            injection hbo with hb1 hb2
            subst hb1; subst hb2
            have HTT := Lib.hid ht
            have ht20 : t.size ≤ 20 := (wok_let (List.all_eq_true.1 HA.out t (List.mem_of_getElem? ht))).2
            have hl21 : l ≤ 21 := by
              have h1 := gpK_le f i (gpI f n i) m
              have h2 := gpI_21 f n i
              rw [hK.out] at h1
              exact Nat.le_trans h1 h2
            have CE := l07Distance_any s t W.drew hs20 ht20
            obtain ⟨d, hd⟩ : ∃ d, d = lev false s.data.toList t.data.toList := ⟨_, rfl⟩
            have HD : Hid (f i k = d) := Lib.hid (by rw [HF.out, gap_at HS.out HTT.out, hd])
            have hd20 : d ≤ 20 := by
              have h1 := gap_20 HA.out i k
              rw [gap_at HS.out HTT.out, ← hd] at h1
              exact h1
            rw [← hd] at CE
            clear ht hd
            have hms : m + 1 ≤ n - 1 - i := by have := hk.out; omega
            by_cases hdl : d < l
            · have HK : Hid (gpK f i (gpI f n i) (m + 1) = (d, i, k)) := Lib.hid (by
                show gpU f (gpK f i (gpI f n i) m) i (i + 1 + m) = _
                rw [hK.out, ← hk.out]; unfold gpU
                rw [HD.out, if_pos hdl])
              have HZ : Hid ((d : Int) = if d = 21 then -1 else (d : Int)) := Lib.hid (by rw [if_neg (by omega)])
              by_cases hl : l = 21
              · have hz1 : z = -1 := by rw [hz.out, if_pos hl]
                subst hz1
                clear hl hdl
                go_wp2_with fail
                go_region_with (go_at_call 24; (with_reducible refine (CE).mono ?_); rintro e w2 ⟨rfl, b2⟩)
                all_goals
                  go_wp2_with fail
                  go_roundw
                  case rel => exact ⟨m + 1, k + 1, d, i, k, (d : Int), hms, by go_num, Lib.hid (by rw [hk.out]; omega), rfl, HZ, rfl, rfl, HK, hbl.trans ((below_dr b2).mono hsz)⟩
                  case measure => simp [intOf]; omega
              · have hz1 : z = (l : Int) := by rw [hz.out, if_neg hl]
                subst hz1
                have hnn : ¬ (l : Int) < 0 := by omega
                clear hl
                go_wp2_with fail
                go_region_with (go_at_call 24; (with_reducible refine (CE).mono ?_); rintro e w2 ⟨rfl, b2⟩)
                all_goals
                  go_wp2_with fail
                  go_roundw
                  case rel => exact ⟨m + 1, k + 1, d, i, k, (d : Int), hms, by go_num, Lib.hid (by rw [hk.out]; omega), rfl, HZ, rfl, rfl, HK, hbl.trans ((below_dr b2).mono hsz)⟩
                  case measure => simp [intOf]; omega
            · have HK : Hid (gpK f i (gpI f n i) (m + 1) = (l, a, b)) := Lib.hid (by
                show gpU f (gpK f i (gpI f n i) m) i (i + 1 + m) = _
                rw [hK.out, ← hk.out]; unfold gpU
                rw [HD.out, if_neg hdl])
              have hl : ¬ l = 21 := by omega
              have hz1 : z = (l : Int) := by rw [hz.out, if_neg hl]
              subst hz1
              have hnn : ¬ (l : Int) < 0 := by omega
              clear hl
              go_wp2_with fail
              go_region_with (go_at_call 24; (with_reducible refine (CE).mono ?_); rintro e w2 ⟨rfl, b2⟩)
              all_goals
                go_wp2_with fail
                go_roundw
                case rel => exact ⟨m + 1, k + 1, l, a, b, (l : Int), hms, by go_num, Lib.hid (by rw [hk.out]; omega), rfl, hz, rfl, rfl, HK, hbl.trans ((below_dr b2).mono hsz)⟩
                case measure => simp [intOf]; omega
          · have HK : Hid (gpI f n (i + 1) = (l, a, b)) := Lib.hid (by
              show gpK f i (gpI f n i) (n - 1 - i) = _
              rw [← hK.out]; congr 1; have := hk.out; omega)
            go_wp2_with fail
            go_roundw
            case rel => exact ⟨i + 1, l, a, b, z, by omega, by go_num, rfl, hz, rfl, rfl, HK, hbl⟩
            case measure => simp [intOf]; omega
      · obtain rfl : i = n := by omega
        have hl : ¬ l = 21 := by
          have h1 := gpI_20 (f := f) hn2 (by rw [HF.out]; exact gap_20 HA.out _ _) (i - 1)
          rw [show i - 1 + 1 = i by omega, hG.out] at h1
          show ¬ l = 21
          have h2 : l ≤ 20 := h1
          omega
        have hz1 : z = (l : Int) := by rw [hz.out, if_neg hl]
        subst hz1
        have H : Hid (four4 (l : Int) (a : Int) (b : Int) true = lgV ss) := Lib.hid (lg_yes HX.out HN.out (by rw [← HF.out]; exact hG.out))
        clear hl
        go_wp2_with fail
        exact bodyPost_ret (v := .tuple #[.int .i64 (l : Int), .int .i64 (a : Int), .int .i64 (b : Int), .bool true]) (by simp [results, Try.results15, go_sem]) rfl ⟨H.out, hbl⟩

set_option maxRecDepth 100000 in
set_option maxHeartbeats 4000000 in
theorem gap_walk (A : Option Addr) (n c : Nat) (ss : List ByteArray) (w : World) (h : SRow w.heap.size w A n ss) :
    Calls Try.prog 5 #[.slice A n c] w fun e w' => e = .returned (.bool true) ∧ Below w.heap.size w w' := by
  have hle := h.le
  have CZ := szStringS_any A n c ss 1048576 w h (by omega) (by omega)
  obtain ⟨l, a, b, ok, hv⟩ : ∃ (l a b : Int) (ok : Bool), lgV ss = four4 l a b ok := by
    unfold lgV; split
    · exact ⟨_, _, _, _, rfl⟩
    · exact ⟨_, _, _, _, rfl⟩
  have HV := Lib.hid hv
  clear hv
  go_enter Try.func5, Try.ntmps5
  go_wp2_with fail
  (go_at_call 10; (with_reducible refine (CZ).mono ?_); rintro e w0 ⟨⟨z, rfl, hz⟩, rfl⟩)
  by_cases hneg : z < 0
  · go_wp2_with fail
    go_ret
    exact ⟨rfl, Below.refl _ _⟩
  · have hn := hz (by omega)
    have hnn : n ≤ 1048576 := by omega
    clear hz CZ
    go_wp2_with fail
    (go_at_call 12; (with_reducible refine (toStringS_any A n c ss _ h (Nat.le_refl _) hnn).mono ?_); rintro e w1 ⟨A1, c1, rfl, o1, b1⟩)
    have CS : Calls Try.prog 15 #[.slice A1 n c1] w1 fun e w' => e = four4 l a b ok ∧ Below w1.heap.size w1 w' := (specGap_any A1 n c1 ss w1 o1.row (Nat.le_refl _) hnn).mono fun e w' he => ⟨he.1.trans HV.out, he.2⟩
    go_wp2_with fail
    (go_at_call 15; (with_reducible refine (CS).mono ?_); rintro e w2 ⟨rfl, b2⟩)
    have B2 := Lib.hid (b1.trans (b2.mono b1.size))
    clear o1 b1 b2 CS
    go_wp2_with fail
    (go_at_call 12; (with_reducible refine (toStringS_any A n c ss _ (h.below B2.out) B2.out.size hnn).mono ?_); rintro e w3 ⟨A2, c2, rfl, o2, b3⟩)
    have B3 := Lib.hid (B2.out.trans (b3.mono B2.out.size))
    have R2 := Lib.hid o2.row
    clear o2 b3
    have CI : Calls Try.prog 16 #[.slice A2 n c2] w3 fun e w' => e = four4 l a b ok ∧ Below w3.heap.size w3 w' := (implGap_any A2 n c2 ss w3 R2.out (Nat.le_refl _)).mono fun e w' he => ⟨he.1.trans HV.out, he.2⟩
    go_wp2_with fail
    (go_at_call 16; (with_reducible refine (CI).mono ?_); rintro e w4 ⟨rfl, b4⟩)
    have B4 := Lib.hid (B3.out.trans (b4.mono B3.out.size))
    have R4 := Lib.hid (R2.out.below b4)
    have S34 := b4.size
    clear b4 CI
    have hbe : (ok != ok) = false := by simp
    have h1 : (l != l) = false := by simp
    have h2 : (a != a) = false := by simp
    have h3 : (b != b) = false := by simp
    go_wp2_with fail
    (go_at_call 12; (with_reducible refine (toStringS_any A n c ss _ (h.below B4.out) B4.out.size hnn).mono ?_); rintro e w5 ⟨A3, c3, rfl, o3, b5⟩)
    have B5 := Lib.hid (B4.out.trans (b5.mono B4.out.size))
    have R5 := Lib.hid (R4.out.below (b5.mono S34))
    have R6 := Lib.hid o3.row
    clear o3 b5
    go_wp2_with fail
    (go_at_call 14; (with_reducible refine (eqStringS_any A2 A3 n c2 c3 ss _ R5.out R6.out).mono ?_); rintro e w' ⟨rfl, m, rfl⟩)
    go_wp2_with fail
    go_ret
    exact ⟨rfl, below_drewN B5.out m⟩
end Go.Proofs.Ytfmlmgebomapjab
