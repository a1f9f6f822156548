/-
  Sizes of groups and grouped words, of the model.
-/
import Derived.Test.YtfmlmgebomapjabDoorGwM
import Derived.Test.YtfmlmgebomapjabDoorRow
import Derived.Test.YtfmlmgebomapjabDoorLim
import Derived.RegionTactic
import Derived.Deep.QuietTactic
import Derived.BigQuiet
namespace Go.Proofs.YtfmlmgebomapjabDoor
open Go.RowKit

def szV (zs : List Int) : Int := if zs.all szOk = true then zs.sum else 0
theorem szV_no {zs : List Int} (h : zs.all szOk = false) : szV zs = 0 := by unfold szV; rw [h]; rfl
theorem szV_yes {zs : List Int} (h : zs.all szOk = true) : szV zs = zs.sum := by unfold szV; rw [if_pos h]
theorem szs_no {zs : List Int} (h : zs.all szOk = false) : szsOk zs = false := by unfold szsOk; rw [h, Bool.and_false]
theorem szs_len {zs : List Int} (h : zs.all szOk = true) : szsOk zs = decide (1 ≤ zs.length ∧ zs.length ≤ 10) := by unfold szsOk; rw [h, Bool.and_true]
theorem psum_bdT : ∀ (l : List Int), l.all szOk = true → 0 ≤ l.sum ∧ l.sum ≤ 20 * (l.length : Int) := by
  intro l
  induction l with
  | nil => intro _; simp
  | cons z l ih =>
    intro h
    simp only [List.all_cons, Bool.and_eq_true] at h
    have h1 := ih h.2
    have h2 := inB_true.1 h.1
    simp only [List.sum_cons, List.length_cons]
    omega

set_option maxHeartbeats 1000000 in
theorem l07Sizes_any {B : Nat} (A : Option Addr) (n c : Nat) (zs : List Int) (w : World) (h : RowB .i64 B w A n zs) (hn : n ≤ 1048576) :
    Calls Tryd.prog 8 #[.slice A n c] w fun e w' => e = two (szV zs) (szsOk zs) ∧ w = w' := by
  have hl := h.len
  go_enter Tryd.func8, Tryd.ntmps8
  go_wp2
  go_loop [4, 5] (fun s i => ∃ k : Nat, k ≤ n ∧ i = .int .i64 k ∧ s = .int .i64 (psum zs k) ∧ Hid ((zs.take k).all szOk = true)) (fun _ i => n - (intOf i).toNat)
  case atStart => exact ⟨0, by omega, rfl, rfl, Lib.hid (by simp)⟩
  case round =>
    obtain ⟨k, hk, rfl, rfl, hall⟩ := hrel
    have hb := psum_bdT _ hall.out
    have hlk : (zs.take k).length ≤ k := List.length_take_le _ _
    obtain ⟨p, hp⟩ : ∃ p, p = psum zs k := ⟨_, rfl⟩
    have hp0 : 0 ≤ p ∧ p ≤ 20971520 := by rw [hp]; unfold psum; omega
    obtain ⟨hp1, hp2⟩ := hp0
    have HP := Lib.hid hp
    rw [← hp]
    clear hp hb hlk
    by_cases hlt : k < n
    · obtain ⟨b, o, z, rfl, _, hz, hc, _⟩ := h.at_ hlt
      have HZ := Lib.hid hz
      clear hz
      rcases hin : inB z 1 20 with _ | _
      · have CI : Calls Tryd.prog 13 #[.int .i64 z, .int .i64 1, .int .i64 20] w fun e w' => e = .returned (.bool false) ∧ w = w' := by rw [← hin]; exact l00In_any _ _ _ _
        have HIN := Lib.hid hin
        clear hin
        have HA : Hid (zs.all szOk = false) := Lib.hid (all_bad (p := szOk) HZ.out HIN.out)
        go_wp2_with (go_at_call 13; (with_reducible refine (CI).mono ?_); rintro e w' ⟨rfl, rfl⟩)
        go_ret2
        exact ⟨two_eq (szV_no HA.out).symm (szs_no HA.out).symm, rfl⟩
      · have CI : Calls Tryd.prog 13 #[.int .i64 z, .int .i64 1, .int .i64 20] w fun e w' => e = .returned (.bool true) ∧ w = w' := by rw [← hin]; exact l00In_any _ _ _ _
        have h20 := inB_true.1 hin
        have HIN : Hid (szOk z = true) := Lib.hid hin
        have HS : Hid (psum zs (k + 1) = p + z) := Lib.hid (by rw [psum_succ HZ.out, ← HP.out])
        obtain ⟨hz1, hz2⟩ := h20
        clear hin
        go_wp2_with (go_at_call 13; (with_reducible refine (CI).mono ?_); rintro e w' ⟨rfl, rfl⟩)
        go_round
        case rel => exact ⟨k + 1, by omega, by go_num, by rw [HS.out], Lib.hid (all_step HZ.out hall.out HIN.out)⟩
        case measure => simp [intOf]; omega
    · obtain rfl : n = k := by omega
      have HA : Hid (zs.all szOk = true) := Lib.hid (all_end (by omega) hall.out)
      have HV : Hid (p = szV zs) := Lib.hid (by rw [szV_yes HA.out, HP.out, ← psum_all, hl])
      have HL : Hid (szsOk zs = decide (1 ≤ n ∧ n ≤ 10)) := Lib.hid (by rw [szs_len HA.out, hl])
      by_cases h1 : 1 ≤ n
      · by_cases h2 : n ≤ 10
        · go_wp2
          go_ret2
          exact ⟨two_eq HV.out (by rw [HL.out]; first | (simp [h1, h2]; done) | (simp [h1, h2]; omega)), rfl⟩
        · go_wp2
          go_ret2
          exact ⟨two_eq HV.out (by rw [HL.out]; first | (simp [h1, h2]; done) | (simp [h1, h2]; omega)), rfl⟩
      · go_wp2
        go_ret2
        exact ⟨two_eq HV.out (by rw [HL.out]; first | (simp [h1]; done) | (simp [h1]; omega)), rfl⟩

def gw2 (s : ByteArray) (zs : List Int) : Ending := .returned (.tuple #[.string (gwT s zs), .bool (gwOk s zs)])
theorem gw2_no {s : ByteArray} {zs : List Int} (h : gwOk s zs = false) : Ending.returned (.tuple #[.string ⟨#[]⟩, .bool false]) = gw2 s zs := by
  unfold gw2; rw [h, gwT_no h]; rfl
theorem gw2_yes {s : ByteArray} {zs : List Int} {u : ByteArray} (h : gwOk s zs = true) (hu : u = jn (pcs s zs)) : Ending.returned (.tuple #[.string u, .bool true]) = gw2 s zs := by
  unfold gw2; rw [h, gwT_yes h, hu]
theorem gw_parts {s : ByteArray} {zs : List Int} (h : gwOk s zs = true) : szsOk zs = true ∧ wordB s 36 = true ∧ zs.sum = (s.size : Int) := by
  unfold gwOk at h
  simp only [Bool.and_eq_true, decide_eq_true_eq] at h
  exact ⟨h.1, h.2.1, h.2.2⟩
theorem szs_parts {zs : List Int} (h : szsOk zs = true) : 1 ≤ zs.length ∧ zs.length ≤ 10 ∧ zs.all szOk = true := by
  unfold szsOk at h
  simp only [Bool.and_eq_true, decide_eq_true_eq] at h
  exact ⟨h.1.1, h.1.2, h.2⟩

end Go.Proofs.YtfmlmgebomapjabDoor
