/-
  The model's test of a lexicon, and the law's walk.
-/
import Derived.Test.YtfmlmgebomapjabTrI
import Derived.Deep.QuietTactic
import Derived.BigQuiet
namespace Go.Proofs.Ytfmlmgebomapjab
open Go.RowKit

set_option maxRecDepth 100000 in
set_option maxHeartbeats 4000000 in
theorem l07Lexicon_any {B : Nat} (A : Option Addr) (n c : Nat) (ss : List ByteArray) (w : World) (h : SRow B w A n ss) (hn : n ≤ 1048576) :
    Calls Try.prog 27 #[.slice A n c] w fun e w' => e = .returned (.bool (lexB ss)) ∧ ∃ m, w' = w.drewN m := by
  have HL := Lib.hid h.1
  go_enter Try.func27, Try.ntmps27
  go_wp2_with fail
  go_loopw [3, 4] (fun y _ wr => ∃ k m : Nat, k ≤ n ∧ y = .int .i64 k ∧ wr = w.drewN m ∧ Hid ((ss.take k).all wokB = true) ∧ Hid (∀ (i j : Nat) (s : ByteArray), j < i → i < k → ss[j]? = some s → ss[i]? = some s → False)) (fun y _ _ => n - (intOf y).toNat)
  case atStart => exact ⟨0, 0, by omega, rfl, rfl, Lib.hid rfl, Lib.hid (fun i j s _ h2 => absurd h2 (by omega))⟩
  case round =>
    obtain ⟨i, m, hi, rfl, rfl, hA, hD⟩ := hrel
    by_cases hlt : i < n
    · obtain ⟨b, o, s, rfl, _, hs, hc, hsm⟩ := h.at_ hlt
      have HS := Lib.hid hs
      have hc' : (w.drewN m).cell? ⟨b, o + i, none⟩ = some (.string s) := hc
      have CH := fun W => l07Letters_any s 20 20 rfl W hsm
      simp only [lett_20] at CH
      have hsm' := hsm
      unfold maxLen at hsm'
      clear hs
      by_cases h0 : s.size = 0
      · have H : Hid (lexB ss = false) := Lib.hid (lex_all (all_bad (p := wokB) HS.out (by simp [wokB, h0])))
        have h00 : (s.size : Int) < 1 := by omega
        clear h0
        go_wp2_with fail
        go_ret
        exact ⟨ret_bool H.out.symm, m, rfl⟩
      · have h00 : ¬ (s.size : Int) < 1 := by omega
        rcases hh : hearB s with _ | _
        · have H : Hid (lexB ss = false) := Lib.hid (lex_all (all_bad (p := wokB) HS.out (by simp [wokB, hh])))
          rw [hh] at CH
          clear h0 hh
          go_wp2_with (go_at_call 23; (with_reducible refine (CH _).mono ?_); rintro e w' ⟨rfl, rfl⟩)
          go_ret
          exact ⟨ret_bool H.out.symm, m, rfl⟩
        · have HW : Hid (wokB s = true) := Lib.hid (by unfold wokB; rw [hh, Bool.and_true]; simp; omega)
          rw [hh] at CH
          clear h0 hh
          go_wp2_with (go_at_call 23; (with_reducible refine (CH _).mono ?_); rintro e w' ⟨rfl, rfl⟩)
          go_loopw [4] (fun y wr => ∃ k m : Nat, k ≤ i ∧ y = .int .i64 k ∧ wr = w.drewN m ∧ Hid (∀ (j : Nat) (t : ByteArray), j < k → ss[j]? = some t → t = s → False)) (fun y _ => i - (intOf y).toNat)
          case atStart => exact ⟨0, m, by omega, rfl, rfl, Lib.hid (fun j t h1 => absurd h1 (by omega))⟩
          case round =>
            obtain ⟨k, m, hk, rfl, rfl, hN⟩ := hrel
            by_cases hki : k < i
            · obtain ⟨b2, o2, t, hbo, _, ht, hct, htm⟩ := h.at_ (show k < n by omega)
              injection hbo with hbo
              injection hbo with hb1 hb2
              subst hb1; subst hb2
              have HTT := Lib.hid ht
              have hkn : k < n := by omega
              clear ht hc'
              by_cases hts : t = s
              · have H : Hid (lexB ss = false) := Lib.hid (lex_dup (dup_at HTT.out (by rw [hts]; exact HS.out) hki))
                subst hts
                go_wp2_with fail
                go_region
                go_wp2_with fail
                go_ret
                exact ⟨ret_bool H.out.symm, m + 1, rfl⟩
              · have hne : (t.toList == s.toList) = false := by
                  rw [ByteArray.toList_eq, ByteArray.toList_eq, beq_eq_false_iff_ne]
                  exact fun e => hts (ByteArray.ext (Array.toList_inj.1 e))
                have HN : Hid (∀ (j : Nat) (t : ByteArray), j < k + 1 → ss[j]? = some t → t = s → False) := Lib.hid (fun j u hj hu e => by
                  by_cases hjk : j = k
                  · subst hjk
                    rw [HTT.out] at hu
                    injection hu with hu
                    exact hts (hu.trans e)
                  · exact hN.out j u (by omega) hu e)
                clear hts
                go_wp2_with fail
                go_region
                go_wp2_with fail
                go_roundw
                case rel => exact ⟨k + 1, m + 1, by omega, by go_num, rfl, HN⟩
                case measure => simp [intOf]; omega
            · obtain rfl : k = i := by omega
              have HA : Hid ((ss.take (k + 1)).all wokB = true) := Lib.hid (all_step HS.out hA.out HW.out)
              have HD : Hid (∀ (i j : Nat) (s : ByteArray), j < i → i < k + 1 → ss[j]? = some s → ss[i]? = some s → False) := Lib.hid (fun i j t h1 h2 h3 h4 => by
                by_cases hik : i = k
                · subst hik
                  rw [HS.out] at h4
                  injection h4 with h4
                  exact hN.out j t h1 h3 h4.symm
                · exact hD.out i j t h1 (by omega) h3 h4)
              clear hc hc'
              go_wp2_with fail
              go_roundw
              case rel => exact ⟨k + 1, m, by omega, by go_num, rfl, HA, HD⟩
              case measure => simp [intOf]; omega
    · obtain rfl : i = n := by omega
      have H : Hid (lexB ss = decide (2 ≤ i ∧ i ≤ 16)) := Lib.hid (by
        rw [lex_yes (all_end (by have := HL.out; omega) hA.out) (nodup_of fun a b t h1 h2 h3 => hD.out a b t h1 (by have := (List.getElem?_eq_some_iff.1 h3).1; have := HL.out; omega) h2 h3), HL.out])
      by_cases h2 : 2 ≤ i
      · by_cases h3 : i ≤ 16
        · go_wp2_with fail
          go_ret
          exact ⟨ret_bool (by rw [H.out]; first | (simp [h2, h3]; done) | (simp [h2, h3]; omega)), m, rfl⟩
        · go_wp2_with fail
          go_ret
          exact ⟨ret_bool (by rw [H.out]; first | (simp [h2, h3]; done) | (simp [h2, h3]; omega)), m, rfl⟩
      · go_wp2_with fail
        go_ret
        exact ⟨ret_bool (by rw [H.out]; first | (simp [h2]; done) | (simp [h2]; omega)), m, rfl⟩

set_option maxHeartbeats 1000000 in
theorem specLex_any {B : Nat} (A : Option Addr) (n c : Nat) (ss : List ByteArray) (w : World) (h : SRow B w A n ss) (hn : n ≤ 1048576) :
    Calls Try.prog 11 #[.slice A n c] w fun e w' => e = .returned (.bool (lexB ss)) ∧ Below w.heap.size w w' := by
  go_enter Try.func11, Try.ntmps11
  go_wp2_with (go_at_call 27; (with_reducible refine (l07Lexicon_any A n c ss w h hn).mono ?_); rintro e w' ⟨rfl, m, rfl⟩)
  go_ret
  exact ⟨rfl, below_drewN (Below.refl _ _) m⟩

theorem OwnS.capL {B n c : Nat} {w : World} {A : Option Addr} {ss : List ByteArray} (h : OwnS B w A n c ss) : n ≤ c := by
  rcases ownsRow_form h.1 with ⟨_, h0, _⟩ | ⟨_, _, _, _, h1, _⟩ <;> omega
set_option maxRecDepth 100000 in
set_option maxHeartbeats 4000000 in
theorem lexicon_walk (A : Option Addr) (n c : Nat) (ss : List ByteArray) (w : World) (h : SRow w.heap.size w A n ss) :
    Calls Try.prog 4 #[.slice A n c] w fun e w' => e = .returned (.bool true) ∧ Below w.heap.size w w' := by
  have hle := h.le
  have CZ := szStringS_any A n c ss 1048576 w h (by omega) (by omega)
  go_enter Try.func4, Try.ntmps4
  go_wp2_with fail
  (go_at_call 10; (with_reducible refine (CZ).mono ?_); rintro e w0 ⟨⟨z, rfl, hz⟩, rfl⟩)
  by_cases hneg : z < 0
  · go_wp2_with fail
    go_ret
    exact ⟨rfl, Below.refl _ _⟩
  · have hn := hz (by omega)
    have hnn : n ≤ 1048576 := by omega
    clear hz CZ
    go_wp2_with fail
    (go_at_call 12; (with_reducible refine (toStringS_any A n c ss _ h (Nat.le_refl _) hnn).mono ?_); rintro e w1 ⟨A1, c1, rfl, o1, b1⟩)
    go_wp2_with fail
    (go_at_call 11; (with_reducible refine (specLex_any A1 n c1 ss _ o1.row hnn).mono ?_); rintro e w2 ⟨rfl, b2⟩)
    have B2 := Lib.hid (b1.trans (b2.mono b1.size))
    clear o1 b1 b2
    go_wp2_with fail
    (go_at_call 12; (with_reducible refine (toStringS_any A n c ss _ (h.below B2.out) B2.out.size hnn).mono ?_); rintro e w3 ⟨A2, c2, rfl, o2, b3⟩)
    have B3 := Lib.hid (B2.out.trans (b3.mono B2.out.size))
    have R2 := Lib.hid o2.row
    clear o2 b3
    go_wp2_with fail
    (go_at_call 13; (with_reducible refine (implLex_any A2 n c2 ss _ R2.out (Nat.le_refl _)).mono ?_); rintro e w4 ⟨rfl, b4⟩)
    have B4 := Lib.hid (B3.out.trans (b4.mono B3.out.size))
    have R4 := Lib.hid (R2.out.below b4)
    have S34 := b4.size
    clear b4
    have hbe : (lexB ss != lexB ss) = false := by simp
    go_wp2_with fail
    (go_at_call 12; (with_reducible refine (toStringS_any A n c ss _ (h.below B4.out) B4.out.size hnn).mono ?_); rintro e w5 ⟨A3, c3, rfl, o3, b5⟩)
    have B5 := Lib.hid (B4.out.trans (b5.mono B4.out.size))
    have R5 := Lib.hid (R4.out.below (b5.mono S34))
    have R6 := Lib.hid o3.row
    clear o3 b5
    go_wp2_with fail
    (go_at_call 14; (with_reducible refine (eqStringS_any A2 A3 n c2 c3 ss _ R5.out R6.out).mono ?_); rintro e w' ⟨rfl, m, rfl⟩)
    go_wp2_with fail
    go_ret
    exact ⟨rfl, below_drewN B5.out m⟩
end Go.Proofs.Ytfmlmgebomapjab
