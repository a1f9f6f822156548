/-
  The least typing distance of a list, by the program.
-/
import Derived.Test.YtiegaebnlikjiaaDoorLty
namespace Go.Proofs.YtiegaebnlikjiaaDoor
open Go Go.RowKit

set_option maxHeartbeats 1000000 in
theorem isOther_any (s : ByteArray) (w : World) (hs : s.size ≤ maxLen) :
    Calls Tryd.prog 33 #[.string s] w fun e w' => e = .returned (.bool (!edW 12 s)) ∧ Below w.heap.size w w' := by
  go_enter Tryd.func33, Tryd.ntmps33
  go_wp2_with (go_at_call 34; (with_reducible refine (isTyped_any _ _ hs).mono ?_); rintro e w' ⟨rfl, b⟩)
  go_ret
  exact ⟨rfl, b⟩
def IdxP (ss : List ByteArray) (w : World) (e : Ending) (w' : World) : Prop := (∃ z : Int, e = .returned (.int .i64 z) ∧ decide (0 ≤ z) = !ss.all (edW 12)) ∧ Below w.heap.size w w'
theorem all_bad2 {ss : List ByteArray} {i : Nat} {s : ByteArray} (hi : ss[i]? = some s) (h : edW 12 s = false) : ss.all (edW 12) = false := by
  rw [List.all_eq_false]
  exact ⟨s, List.mem_of_getElem? hi, by simp [h]⟩
set_option maxRecDepth 100000 in
set_option maxHeartbeats 2000000 in
theorem indexFunc_any {B : Nat} (A : Option Addr) (n c : Nat) (ss : List ByteArray) (w : World) (h : SRow B w A n ss) (hB : B ≤ w.heap.size) :
    Calls Tryd.prog 45 #[.slice A n c, .func (.func 33) #[] #[]] w (IdxP ss w) := by
  have hle := h.le
  have hl := h.1
  have hr := h.more hB
  clear h
  go_enter Tryd.func45, Tryd.ntmps45
  go_wp2_with fail
  go_loopw [5, 8] (fun _ i wr => ∃ k : Nat, k ≤ n ∧ i = .int .i64 k ∧ Hid (∀ j s, j < k → ss[j]? = some s → edW 12 s = true) ∧ Below w.heap.size w wr) (fun _ i _ => n - (intOf i).toNat)
  case atStart => exact ⟨0, by omega, rfl, Lib.hid (fun j s hj => absurd hj (by omega)), Below.refl _ _⟩
  case round =>
    obtain ⟨k, hk, rfl, hall, hbel⟩ := hrel
    by_cases hlt : k < n
    · obtain ⟨b, o, s, rfl, _, hz, hc, hsz⟩ := (hr.below hbel).at_ hlt
      have CO := fun W => isOther_any s W hsz
      rcases hw : edW 12 s with _ | _
      · have HN : Hid (decide ((0 : Int) ≤ (k : Int)) = !ss.all (edW 12)) := Lib.hid (by rw [all_bad2 hz hw]; simp)
        rw [hw] at CO
        clear hw hz
        go_wp2_with (go_at_call 33; (with_reducible refine (CO _).mono ?_); rintro e w1 ⟨rfl, b1⟩)
        go_ret
        exact ⟨⟨_, rfl, HN.out⟩, hbel.trans (b1.mono hbel.size)⟩
      · have HALL : Hid (∀ j s, j < k + 1 → ss[j]? = some s → edW 12 s = true) := Lib.hid (fun j u hj hu => by
          rcases Nat.lt_or_ge j k with h1 | h1
          · exact hall.out j u h1 hu
          · obtain rfl : j = k := by omega
            obtain rfl := Option.some.inj (hz.symm.trans hu)
            exact hw)
        rw [hw] at CO
        clear hw hz
        go_wp2_with (go_at_call 33; (with_reducible refine (CO _).mono ?_); rintro e w1 ⟨rfl, b1⟩)
        go_roundw
        case rel => exact ⟨k + 1, by omega, by go_num, HALL, hbel.trans (b1.mono hbel.size)⟩
        case measure => simp [intOf]; omega
    · have HN : Hid (decide ((0 : Int) ≤ -1) = !ss.all (edW 12)) := Lib.hid (by rw [all_next hl (fun i s hi => hall.out i s (by omega))]; rfl)
      go_wp2_with fail
      go_ret
      exact ⟨⟨_, rfl, HN.out⟩, hbel⟩
set_option maxRecDepth 100000 in
set_option maxHeartbeats 1000000 in
theorem containsFunc_any {B : Nat} (A : Option Addr) (n c : Nat) (ss : List ByteArray) (w : World) (h : SRow B w A n ss) (hB : B ≤ w.heap.size) :
    Calls Tryd.prog 36 #[.slice A n c, .func (.func 33) #[] #[]] w fun e w' => e = .returned (.bool (!ss.all (edW 12))) ∧ Below w.heap.size w w' := by
  have CI := fun c => indexFunc_any A n c ss w h hB
  go_enter Tryd.func36, Tryd.ntmps36
  go_wp2_with (go_at_call 45; (with_reducible refine (CI _).mono ?_); rintro e w' ⟨⟨z, rfl, hz⟩, b⟩)
  go_ret
  exact ⟨rfl, b⟩
set_option maxRecDepth 100000 in
set_option maxHeartbeats 8000000 in
theorem implLeast_any {B : Nat} (A : Option Addr) (n c : Nat) (ss : List ByteArray) (w : World) (hM : HeldM w) (h : SRow B w A n ss) (hB : B ≤ w.heap.size) (hcap : n ≤ c) :
    Calls Tryd.prog 20 #[.slice A n c] w fun e w' => e = two (lstV ss) (lstOk ss) ∧ Below w.heap.size w w' := by
  have hle := h.le
  have hl := h.1
  have C1 := fun W => withinInt_any (n : Int) 2 100 W
  have C2 := fun c => containsFunc_any A n c ss w h hB
  have hr := h.more hB
  clear h
  rcases hin : inB (n : Int) 2 100 with _ | _
  · have HO : Hid (lstOk ss = false) := Lib.hid (by unfold lstOk; rw [hl, hin]; rfl)
    rw [hin] at C1
    clear hin
    go_enter Tryd.func20, Tryd.ntmps20
    go_wp2_with (go_at_call 35; (with_reducible refine (C1 _).mono ?_); rintro e w' ⟨rfl, rfl⟩)
    go_ret2
    exact ⟨lst_no HO.out, Below.refl _ _⟩
  · have hb := inB_true.1 hin
    rw [hin] at C1
    rcases hall : ss.all (edW 12) with _ | _
    · have HO : Hid (lstOk ss = false) := Lib.hid (by unfold lstOk; rw [hall, Bool.and_false])
      rw [hall] at C2
      clear hin hall
      go_enter Tryd.func20, Tryd.ntmps20
      go_wp2_with (first | (go_at_call 35; (with_reducible refine (C1 _).mono ?_); rintro e w' ⟨rfl, rfl⟩) | (go_at_call 36; (with_reducible refine (C2 _).mono ?_); rintro e w1 ⟨rfl, b1⟩))
      go_ret2
      exact ⟨lst_no HO.out, b1⟩
    · have HALL := Lib.hid hall
      have HO : Hid (lstOk ss = true) := Lib.hid (by unfold lstOk; rw [hl, hin, hall]; rfl)
      have HM := Lib.hid hM
      rw [hall] at C2
      clear hin hall hM
      go_enter Tryd.func20, Tryd.ntmps20
      go_wp2_with (first | (go_at_call 35; (with_reducible refine (C1 _).mono ?_); rintro e w' ⟨rfl, rfl⟩) | (go_at_call 36; (with_reducible refine (C2 _).mono ?_); rintro e w1 ⟨rfl, b1⟩))
      go_loopw [5, 6, 7, 9, 21] (fun l _ _ _ i wr => ∃ I : Nat, I ≤ n ∧ i = .int .i64 I ∧ l = .int .i64 (accI ss I : Nat) ∧ Below w.heap.size w wr) (fun _ _ _ _ i _ => n - (intOf i).toNat)
      case atStart => exact ⟨0, by omega, rfl, rfl, b1⟩
      case round =>
        obtain ⟨I, hI, rfl, rfl, hbel⟩ := hrel
        by_cases hltI : I < n
        · obtain ⟨b, o, s, rfl, hbb, hs1, hc1, _⟩ := (hr.below hbel).at_ hltI
          have hs12 := all_at HALL.out hs1
          have ha12 := accI_le ss I
          have HS1 := Lib.hid hs1
          clear hs1
          go_wp2_with fail
          go_loopw [5, 9, 30] (fun l _ k wq => ∃ K : Nat, K ≤ I ∧ k = .int .i64 K ∧ (∃ z : Int, l = .int .i64 z ∧ Hid (z = (accK ss I (accI ss I) K : Nat)) ∧ 0 ≤ z ∧ z ≤ 12) ∧ Below w.heap.size w wq) (fun _ _ k _ => I - (intOf k).toNat)
          case atStart => exact ⟨0, by omega, rfl, ⟨_, rfl, Lib.hid rfl, by omega, by omega⟩, hbel⟩
          case round =>
            obtain ⟨K, hK, rfl, ⟨z, rfl, hz, hz0, hz1⟩, hbq⟩ := hrel
            by_cases hltK : K < I
            · obtain ⟨b', o', u, e', hbb', hs2, hc2, _⟩ := (hr.below hbq).at_ (show K < n by omega)
              cases e'
              have hu12 := all_at HALL.out hs2
              have CT := typingOf_any s u wr (HM.out.below hbq HM.out.lt) (by omega) (by omega)
              have hD : cst true s u 0 0 = dLT ss I K := (dLT_at HS1.out hs2).symm
              have hDl := d_12 HALL.out HS1.out hs2
              obtain ⟨D, hDD⟩ : ∃ D, D = dLT ss I K := ⟨_, rfl⟩
              have HZ : Hid (((accK ss I (accI ss I) (K + 1) : Nat) : Int) = min z (D : Int)) := Lib.hid (by
                have e1 : accK ss I (accI ss I) (K + 1) = min (accK ss I (accI ss I) K) (dLT ss I K) := rfl
                rw [e1, hz.out, hDD]
                omega)
              rw [← hDD] at hD hDl
              clear hs2 hDD
              go_wp2_with fail
              (go_at_call 25; (with_reducible refine (CT).mono ?_); rintro e w2 ⟨g, F, rfl, hty, _, hF, b2⟩)
              have q0 : w2.cell? ⟨g, 2, none⟩ = some (.int .i64 (D : Int)) := by
                have h1 := TyB.at_ hty (i := 0) (j := 0) (by omega) (by omega)
                rw [hF 0 0 (Nat.zero_le _) (Nat.zero_le _), hD] at h1
                simpa using h1
              have HB2 := Lib.hid (hbq.trans (b2.mono hbq.size))
              clear hty hF b2
              go_wp2_with fail
              go_roundw
              case rel => exact ⟨K + 1, by omega, by go_num, ⟨_, rfl, Lib.hid (by rw [HZ.out]), by omega, by omega⟩, HB2.out⟩
              case measure => simp [intOf]; omega
            · obtain rfl : I = K := by omega
              have HZ2 : Hid (z = (accI ss (I + 1) : Nat)) := Lib.hid hz.out
              go_wp2_with fail
              go_roundw
              case rel => exact ⟨I + 1, by omega, by go_num, by rw [← HZ2.out], hbq⟩
              case measure => simp [intOf]; omega
        · have HX : Hid (((accI ss I : Nat) : Int) = (accI ss ss.length : Nat)) := Lib.hid (by
            have : I = ss.length := by omega
            rw [this])
          go_wp2_with fail
          go_ret2
          exact ⟨lst_yes HO.out HX.out, hbel⟩
end Go.Proofs.YtiegaebnlikjiaaDoor
