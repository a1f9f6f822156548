/-
  Sizes of groups and grouped words, of the model.
-/
import Derived.Test.YtfmlmgebomapjabGwM
import Derived.Test.YtfmlmgebomapjabRow
import Derived.Test.YtfmlmgebomapjabLim
import Derived.RegionTactic
import Derived.Deep.QuietTactic
import Derived.BigQuiet
namespace Go.Proofs.Ytfmlmgebomapjab
open Go.RowKit

def szV (zs : List Int) : Int := if zs.all szOk = true then zs.sum else 0
theorem szV_no {zs : List Int} (h : zs.all szOk = false) : szV zs = 0 := by unfold szV; rw [h]; rfl
theorem szV_yes {zs : List Int} (h : zs.all szOk = true) : szV zs = zs.sum := by unfold szV; rw [if_pos h]
theorem szs_no {zs : List Int} (h : zs.all szOk = false) : szsOk zs = false := by unfold szsOk; rw [h, Bool.and_false]
theorem szs_len {zs : List Int} (h : zs.all szOk = true) : szsOk zs = decide (1 ≤ zs.length ∧ zs.length ≤ 10) := by unfold szsOk; rw [h, Bool.and_true]
theorem psum_bdT : ∀ (l : List Int), l.all szOk = true → 0 ≤ l.sum ∧ l.sum ≤ 20 * (l.length : Int) := by
  intro l
  induction l with
  | nil => intro _; simp
  | cons z l ih =>
    intro h
    simp only [List.all_cons, Bool.and_eq_true] at h
    have h1 := ih h.2
    have h2 := inB_true.1 h.1
    simp only [List.sum_cons, List.length_cons]
    omega

set_option maxHeartbeats 1000000 in
theorem l07Sizes_any {B : Nat} (A : Option Addr) (n c : Nat) (zs : List Int) (w : World) (h : RowB .i64 B w A n zs) (hn : n ≤ 1048576) :
    Calls Try.prog 33 #[.slice A n c] w fun e w' => e = two (szV zs) (szsOk zs) ∧ w = w' := by
  have hl := h.len
  go_enter Try.func33, Try.ntmps33
  go_wp2
  go_loop [4, 5] (fun s i => ∃ k : Nat, k ≤ n ∧ i = .int .i64 k ∧ s = .int .i64 (psum zs k) ∧ Hid ((zs.take k).all szOk = true)) (fun _ i => n - (intOf i).toNat)
  case atStart => exact ⟨0, by omega, rfl, rfl, Lib.hid (by simp)⟩
  case round =>
    obtain ⟨k, hk, rfl, rfl, hall⟩ := hrel
    have hb := psum_bdT _ hall.out
    have hlk : (zs.take k).length ≤ k := List.length_take_le _ _
    obtain ⟨p, hp⟩ : ∃ p, p = psum zs k := ⟨_, rfl⟩
    have hp0 : 0 ≤ p ∧ p ≤ 20971520 := by rw [hp]; unfold psum; omega
    obtain ⟨hp1, hp2⟩ := hp0
    have HP := Lib.hid hp
    rw [← hp]
    clear hp hb hlk
    by_cases hlt : k < n
    · obtain ⟨b, o, z, rfl, _, hz, hc, _⟩ := h.at_ hlt
      have HZ := Lib.hid hz
      clear hz
      rcases hin : inB z 1 20 with _ | _
      · have CI : Calls Try.prog 29 #[.int .i64 z, .int .i64 1, .int .i64 20] w fun e w' => e = .returned (.bool false) ∧ w = w' := by rw [← hin]; exact l00In_any _ _ _ _
        have HIN := Lib.hid hin
        clear hin
        have HA : Hid (zs.all szOk = false) := Lib.hid (all_bad (p := szOk) HZ.out HIN.out)
        go_wp2_with (go_at_call 29; (with_reducible refine (CI).mono ?_); rintro e w' ⟨rfl, rfl⟩)
        go_ret2
        exact ⟨two_eq (szV_no HA.out).symm (szs_no HA.out).symm, rfl⟩
      · have CI : Calls Try.prog 29 #[.int .i64 z, .int .i64 1, .int .i64 20] w fun e w' => e = .returned (.bool true) ∧ w = w' := by rw [← hin]; exact l00In_any _ _ _ _
        have h20 := inB_true.1 hin
        have HIN : Hid (szOk z = true) := Lib.hid hin
        have HS : Hid (psum zs (k + 1) = p + z) := Lib.hid (by rw [psum_succ HZ.out, ← HP.out])
        obtain ⟨hz1, hz2⟩ := h20
        clear hin
        go_wp2_with (go_at_call 29; (with_reducible refine (CI).mono ?_); rintro e w' ⟨rfl, rfl⟩)
        go_round
        case rel => exact ⟨k + 1, by omega, by go_num, by rw [HS.out], Lib.hid (all_step HZ.out hall.out HIN.out)⟩
        case measure => simp [intOf]; omega
    · obtain rfl : n = k := by omega
      have HA : Hid (zs.all szOk = true) := Lib.hid (all_end (by omega) hall.out)
      have HV : Hid (p = szV zs) := Lib.hid (by rw [szV_yes HA.out, HP.out, ← psum_all, hl])
      have HL : Hid (szsOk zs = decide (1 ≤ n ∧ n ≤ 10)) := Lib.hid (by rw [szs_len HA.out, hl])
      by_cases h1 : 1 ≤ n
      · by_cases h2 : n ≤ 10
        · go_wp2
          go_ret2
          exact ⟨two_eq HV.out (by rw [HL.out]; first | (simp [h1, h2]; done) | (simp [h1, h2]; omega)), rfl⟩
        · go_wp2
          go_ret2
          exact ⟨two_eq HV.out (by rw [HL.out]; first | (simp [h1, h2]; done) | (simp [h1, h2]; omega)), rfl⟩
      · go_wp2
        go_ret2
        exact ⟨two_eq HV.out (by rw [HL.out]; first | (simp [h1]; done) | (simp [h1]; omega)), rfl⟩

def gw2 (s : ByteArray) (zs : List Int) : Ending := .returned (.tuple #[.string (gwT s zs), .bool (gwOk s zs)])
theorem gw2_no {s : ByteArray} {zs : List Int} (h : gwOk s zs = false) : Ending.returned (.tuple #[.string ⟨#[]⟩, .bool false]) = gw2 s zs := by
  unfold gw2; rw [h, gwT_no h]; rfl
theorem gw2_yes {s : ByteArray} {zs : List Int} {u : ByteArray} (h : gwOk s zs = true) (hu : u = jn (pcs s zs)) : Ending.returned (.tuple #[.string u, .bool true]) = gw2 s zs := by
  unfold gw2; rw [h, gwT_yes h, hu]
theorem gw_parts {s : ByteArray} {zs : List Int} (h : gwOk s zs = true) : szsOk zs = true ∧ wordB s 36 = true ∧ zs.sum = (s.size : Int) := by
  unfold gwOk at h
  simp only [Bool.and_eq_true, decide_eq_true_eq] at h
  exact ⟨h.1, h.2.1, h.2.2⟩
theorem szs_parts {zs : List Int} (h : szsOk zs = true) : 1 ≤ zs.length ∧ zs.length ≤ 10 ∧ zs.all szOk = true := by
  unfold szsOk at h
  simp only [Bool.and_eq_true, decide_eq_true_eq] at h
  exact ⟨h.1.1, h.1.2, h.2⟩

set_option maxRecDepth 100000 in
set_option maxHeartbeats 4000000 in
theorem specGroup_any {B : Nat} (s : ByteArray) (A : Option Addr) (n c : Nat) (zs : List Int) (w : World) (hs : s.size ≤ maxLen) (h : RowB .i64 B w A n zs) (hn : n ≤ 1048576) :
    Calls Try.prog 19 #[.string s, .slice A n c] w fun e w' => e = gw2 s zs ∧ w = w' := by
  have CZ := l07Sizes_any A n c zs w h hn
  have CW := l01Word_any s 36 w hs
  have hl := h.len
  rcases h1 : szsOk zs with _ | _
  · have H : Hid (gwOk s zs = false) := Lib.hid (gw_sizes h1)
    rw [h1] at CZ
    clear h1
    go_enter Try.func19, Try.ntmps19
    go_wp2_with (go_at_call 33; (with_reducible refine (CZ).mono ?_); rintro e w' ⟨rfl, rfl⟩)
    go_ret2
    exact ⟨gw2_no H.out, rfl⟩
  · obtain ⟨hl1, hl10, hall⟩ := szs_parts h1
    have hV := szV_yes hall
    rw [h1, hV] at CZ
    rcases h2 : wordB s 36 with _ | _
    · have H : Hid (gwOk s zs = false) := Lib.hid (gw_word h2)
      rw [h2] at CW
      clear h1 h2 hV
      go_enter Try.func19, Try.ntmps19
      go_wp2_with (first | (go_at_call 33; (with_reducible refine (CZ).mono ?_); rintro e w' ⟨rfl, rfl⟩) | (go_at_call 34; (with_reducible refine (CW).mono ?_); rintro e w' ⟨rfl, rfl⟩))
      go_ret2
      exact ⟨gw2_no H.out, rfl⟩
    · rw [h2] at CW
      by_cases h3 : zs.sum = (s.size : Int)
      · have H : Hid (gwOk s zs = true) := Lib.hid (gw_yes h1 h2 h3)
        have hp0 := psum_all zs
        rw [h3] at CZ hp0
        have hs20 : s.size ≤ 20 := by
          unfold wordB at h2
          simp only [Bool.and_eq_true, decide_eq_true_eq] at h2
          exact h2.2.1
        have hne : ((s.size : Int) != (s.size : Int)) = false := by simp
        have HPA := Lib.hid hp0
        have HALL := Lib.hid hall
        rw [hl] at hl1 hl10
        have HL := Lib.hid hl
        clear h1 h2 h3 hV hp0 hall hl
        go_enter Try.func19, Try.ntmps19
        go_wp2_with (first | (go_at_call 33; (with_reducible refine (CZ).mono ?_); rintro e w' ⟨rfl, rfl⟩) | (go_at_call 34; (with_reducible refine (CW).mono ?_); rintro e w' ⟨rfl, rfl⟩))
        go_loop [8, 9, 10] (fun o f i => ∃ (k p : Nat) (u : ByteArray), k ≤ n ∧ i = .int .i64 k ∧ f = .int .i64 (p : Int) ∧ o = .string u ∧ Hid (psum zs k = (p : Int)) ∧ Hid (u = jn ((pcs s zs).take k)) ∧ u.size ≤ 21 * k) (fun _ _ i => n - (intOf i).toNat)
        case atStart => exact ⟨0, 0, _, by omega, rfl, rfl, rfl, Lib.hid rfl, Lib.hid rfl, Nat.le_refl 0⟩
        case round =>
          obtain ⟨k, p, u, hk, rfl, rfl, rfl, hP, hU, hus⟩ := hrel
          by_cases hlt : k < n
          · obtain ⟨b, o, z, rfl, _, hz, hc, _⟩ := h.at_ hlt
            have hzb := inB_true.1 (List.all_eq_true.1 HALL.out z (List.mem_of_getElem? hz))
            have hps := psum_succ hz
            have hmo := psum_mono HALL.out (j := k + 1) (k := zs.length) (by have := HL.out; omega) (Nat.le_refl _)
            rw [HPA.out, hps, hP.out] at hmo
            obtain ⟨zn, rfl⟩ : ∃ zn : Nat, z = (zn : Int) := ⟨z.toNat, by omega⟩
            rw [hP.out] at hps
            have hpz : p + zn ≤ s.size := by omega
            have HP2 : Hid (psum zs (k + 1) = ((p + zn : Nat) : Int)) := Lib.hid (by rw [hps]; omega)
            have hpc : pc s zs k = s.extract p (p + zn) := by unfold pc; rw [hP.out, HP2.out]; rfl
            have hat := pcs_at s (zs := zs) (k := k) (by have := HL.out; omega)
            have hsz2 := jn_size (s := s) HALL.out (k + 1) (by have := HL.out; omega)
            have hz1 : 1 ≤ zn ∧ zn ≤ 20 := by omega
            obtain ⟨hz1, hz2⟩ := hz1
            have htn : ((p : Int) + (zn : Int)).toNat = p + zn := by omega
            have hexs : (s.extract p (p + zn)).size ≤ 20 := by simp only [ByteArray.size_extract]; omega
            by_cases hk0 : k = 0
            · subst hk0
              have HN : Hid (u ++ s.extract p (p + zn) = jn ((pcs s zs).take (0 + 1))) := Lib.hid (by
                rw [jn_zero hat, hU.out, hpc])
              have hds : (u ++ s.extract p (p + zn)).size ≤ 21 * (0 + 1) := by rw [HN.out]; exact hsz2
              have hds2 : u.size + (s.extract p (p + zn)).size ≤ 800 := by omega
              simp only [Nat.add_zero] at hc
              clear hz hps hmo hzb hpc hat hsz2
              go_wp2_with fail
              go_round
              case rel => exact ⟨1, p + zn, _, by omega, rfl, by go_num, rfl, HP2, HN, hds⟩
              case measure => simp [intOf]; omega
            · have hk1 : 0 < (k : Int) := by omega
              have HN : Hid ((u ++ ⟨#[45]⟩) ++ s.extract p (p + zn) = jn ((pcs s zs).take (k + 1))) := Lib.hid (by
                rw [jn_succ (by omega) hat, hU.out, hpc])
              have hds : ((u ++ ⟨#[45]⟩) ++ s.extract p (p + zn)).size ≤ 21 * (k + 1) := by rw [HN.out]; exact hsz2
              have hu1 : (u ++ ⟨#[45]⟩).size = u.size + 1 := by rw [ByteArray.size_append]; rfl
              have hds2 : (u ++ ⟨#[45]⟩).size + (s.extract p (p + zn)).size ≤ 800 := by rw [hu1]; omega
              have hds3 : u.size + 1 + (s.extract p (p + zn)).size ≤ 800 := by omega
              have hds4 : u.size + 1 ≤ 800 := by omega
              clear hz hps hmo hzb hpc hat hsz2 hu1
              go_wp2_with fail
              go_round
              case rel => exact ⟨k + 1, p + zn, _, by omega, by go_num, by go_num, rfl, HP2, HN, hds⟩
              case measure => simp [intOf]; omega
          · obtain rfl : k = n := by omega
            have HU : Hid (u = jn (pcs s zs)) := Lib.hid (by
              rw [hU.out, List.take_of_length_le (by rw [pcs_len, HL.out]; exact Nat.le_refl _)])
            go_wp2_with fail
            go_ret2
            exact ⟨gw2_yes H.out HU.out, rfl⟩
      · have H : Hid (gwOk s zs = false) := Lib.hid (gw_sum h3)
        have hne : ((s.size : Int) != zs.sum) = true := by simp; exact fun e => h3 e.symm
        obtain ⟨S, hS⟩ : ∃ S, S = zs.sum := ⟨_, rfl⟩
        rw [← hS] at CZ hne
        clear h1 h2 hV h3 hS
        go_enter Try.func19, Try.ntmps19
        go_wp2_with (first | (go_at_call 33; (with_reducible refine (CZ).mono ?_); rintro e w' ⟨rfl, rfl⟩) | (go_at_call 34; (with_reducible refine (CW).mono ?_); rintro e w' ⟨rfl, rfl⟩))
        go_ret2
        exact ⟨gw2_no H.out, rfl⟩
end Go.Proofs.Ytfmlmgebomapjab
