/-
  The least typing distance of a list, by the model and by the program.
-/
import Derived.Test.YtiegaebnlikjiaaDoorSRow
import Derived.Test.YtiegaebnlikjiaaDoorTyS
import Derived.Lib.MinMax
import Derived.Deep.RegionWith
namespace Go.Proofs.YtiegaebnlikjiaaDoor
open Go Go.RowKit

/-- The typing distance of two texts of a list. -/
def dLT (ss : List ByteArray) (i k : Nat) : Nat := cst true (ss.getD i ByteArray.empty) (ss.getD k ByteArray.empty) 0 0
/-- The least one of the pairs so far, at most 12: all pairs below i, and those of i below k. -/
def accK (ss : List ByteArray) (i a : Nat) : Nat → Nat
  | 0 => a
  | k + 1 => min (accK ss i a k) (dLT ss i k)
def accI (ss : List ByteArray) : Nat → Nat
  | 0 => 12
  | i + 1 => accK ss i (accI ss i) i
theorem accK_le (ss : List ByteArray) (i a : Nat) : ∀ k, accK ss i a k ≤ a
  | 0 => Nat.le_refl _
  | k + 1 => by
    have := accK_le ss i a k
    show min _ _ ≤ _
    omega
theorem accI_le (ss : List ByteArray) : ∀ i, accI ss i ≤ 12
  | 0 => Nat.le_refl _
  | i + 1 => Nat.le_trans (accK_le ss i _ i) (accI_le ss i)
theorem cst_symm (a b : ByteArray) : cst true a b 0 0 = cst true b a 0 0 := by
  rw [cst_all, cst_all, lev_symm]
theorem dLT_symm (ss : List ByteArray) (i k : Nat) : dLT ss i k = dLT ss k i := cst_symm _ _
/-- A list of 2 to 100 words of at most 12 symbols. -/
def lstOk (ss : List ByteArray) : Bool := inB (ss.length : Int) 2 100 && ss.all (edW 12)
def lstV (ss : List ByteArray) : Int := if lstOk ss = true then (accI ss ss.length : Nat) else 0
theorem lst_no {ss : List ByteArray} (h : lstOk ss = false) : Ending.returned (.tuple #[.int .i64 0, .bool false]) = two (lstV ss) (lstOk ss) := by
  unfold lstV; rw [h]; rfl
theorem lst_yes {ss : List ByteArray} (h : lstOk ss = true) {x : Int} (hx : x = (accI ss ss.length : Nat)) : Ending.returned (.tuple #[.int .i64 x, .bool true]) = two (lstV ss) (lstOk ss) := by
  unfold lstV; rw [h, hx]; rfl
theorem dLT_at {ss : List ByteArray} {i k : Nat} {s u : ByteArray} (hi : ss[i]? = some s) (hk : ss[k]? = some u) : dLT ss i k = cst true s u 0 0 := by
  unfold dLT
  rw [List.getD_eq_getElem?_getD, List.getD_eq_getElem?_getD, hi, hk]; rfl
theorem all_at {ss : List ByteArray} {i : Nat} {s : ByteArray} (h : ss.all (edW 12) = true) (hi : ss[i]? = some s) : s.size ≤ 12 := by
  rw [List.all_eq_true] at h
  exact edW_size (h s (List.mem_of_getElem? hi))
theorem all_bad {ss : List ByteArray} {i : Nat} {s : ByteArray} (hi : ss[i]? = some s) (h : edW 12 s = false) : lstOk ss = false := by
  unfold lstOk
  have : ss.all (edW 12) = false := by
    rw [List.all_eq_false]
    exact ⟨s, List.mem_of_getElem? hi, by simp [h]⟩
  rw [this, Bool.and_false]
theorem all_next {ss : List ByteArray} {n : Nat} (hl : ss.length = n) (h : ∀ i s, i < n → ss[i]? = some s → edW 12 s = true) : ss.all (edW 12) = true := by
  rw [List.all_eq_true]
  intro s hs
  obtain ⟨i, hi, e⟩ := List.getElem_of_mem hs
  exact h i s (by omega) (by rw [List.getElem?_eq_getElem hi, e])
theorem d_12 {ss : List ByteArray} (h : ss.all (edW 12) = true) {i k : Nat} {s u : ByteArray} (hi : ss[i]? = some s) (hk : ss[k]? = some u) : dLT ss i k ≤ 12 := by
  rw [dLT_at hi hk]
  have h1 := cst_le true s u 0 0
  have h2 := all_at h hi
  have h3 := all_at h hk
  omega
theorem l06Word12_any (s : ByteArray) (w : World) (hs : s.size ≤ maxLen) :
    Calls Tryd.prog 29 #[.string s, .int .i64 12] w fun e w' => e = .returned (.bool (edW 12 s)) ∧ w = w' := l06Word_any s 12 w hs
/-- What the model has found so far: -1 where no pair has come. -/
def nLT (i k : Nat) (a : Nat) : Int := if i = 0 ∨ (i = 1 ∧ k = 0) then -1 else (a : Int)

set_option maxRecDepth 100000 in
set_option maxHeartbeats 8000000 in
theorem specLeast_any {B : Nat} (A : Option Addr) (n c : Nat) (ss : List ByteArray) (w : World) (h : SRow B w A n ss) (hB : B ≤ w.heap.size) :
    Calls Tryd.prog 18 #[.slice A n c] w fun e w' => e = two (lstV ss) (lstOk ss) ∧ Below w.heap.size w w' := by
  have hle := h.le
  have hr := h.more hB
  have hl := h.1
  clear h
  rcases hin : inB (n : Int) 2 100 with _ | _
  · have HO : Hid (lstOk ss = false) := Lib.hid (by unfold lstOk; rw [hl, hin]; rfl)
    have C1 := fun W => l00In_any (n : Int) 2 100 W
    rw [hin] at C1
    clear hin
    go_enter Tryd.func18, Tryd.ntmps18
    go_wp2_with (go_at_call 32; (with_reducible refine (C1 _).mono ?_); rintro e w' ⟨rfl, rfl⟩)
    go_ret2
    exact ⟨lst_no HO.out, Below.refl _ _⟩
  · have C1 := fun W => l00In_any (n : Int) 2 100 W
    rw [hin] at C1
    have hb := inB_true.1 hin
    have HIN : Hid (inB (ss.length : Int) 2 100 = true) := Lib.hid (by rw [hl]; exact hin)
    clear hin
    go_enter Tryd.func18, Tryd.ntmps18
    go_wp2_with (go_at_call 32; (with_reducible refine (C1 _).mono ?_); rintro e w' ⟨rfl, rfl⟩)
    go_loopw [4] (fun i wr => ∃ k : Nat, k ≤ n ∧ i = .int .i64 k ∧ wr = w ∧ Hid (∀ j s, j < k → ss[j]? = some s → edW 12 s = true)) (fun i _ => n - (intOf i).toNat)
    case atStart => exact ⟨0, by omega, rfl, rfl, Lib.hid (fun j s hj => absurd hj (by omega))⟩
    case round =>
      obtain ⟨k, hk, rfl, hwr, hall⟩ := hrel
      have hwr := hwr.symm
      subst hwr
      by_cases hlt : k < n
      · obtain ⟨b, o, s, rfl, _, hz, hc, hsz⟩ := hr.at_ hlt
        have CW := fun W => l06Word12_any s W hsz
        rcases hw : edW 12 s with _ | _
        · have HO := Lib.hid (all_bad hz hw)
          rw [hw] at CW
          clear hw hz
          go_wp2_with (go_at_call 29; (with_reducible refine (CW _).mono ?_); rintro e w' ⟨rfl, rfl⟩)
          go_ret2
          exact ⟨lst_no HO.out, Below.refl _ _⟩
        · have HALL : Hid (∀ j s, j < k + 1 → ss[j]? = some s → edW 12 s = true) := Lib.hid (fun j u hj hu => by
            rcases Nat.lt_or_ge j k with h1 | h1
            · exact hall.out j u h1 hu
            · obtain rfl : j = k := by omega
              obtain rfl := Option.some.inj (hz.symm.trans hu)
              exact hw)
          rw [hw] at CW
          clear hw hz
          go_wp2_with (go_at_call 29; (with_reducible refine (CW _).mono ?_); rintro e w' ⟨rfl, rfl⟩)
          go_roundw
          case rel => exact ⟨k + 1, by omega, by go_num, by first | rfl | trivial, HALL⟩
          case measure => simp [intOf]; omega
      · have HALL : Hid (ss.all (edW 12) = true) := Lib.hid (all_next hl (fun i s hi => hall.out i s (by omega)))
        have HO : Hid (lstOk ss = true) := Lib.hid (by unfold lstOk; rw [HIN.out, HALL.out]; rfl)
        have HKN : Hid (k = n) := Lib.hid (by omega)
        clear hall
        go_wp2_with fail
        go_loopw [5, 6, 7, 8] (fun l i _ _ wr => ∃ I : Nat, I ≤ n ∧ i = .int .i64 I ∧ l = .int .i64 (nLT I 0 (accI ss I)) ∧ Below w.heap.size w wr) (fun _ i _ _ _ => n - (intOf i).toNat)
        case atStart => exact ⟨0, by omega, rfl, rfl, Below.refl _ _⟩
        case round =>
          obtain ⟨I, hI, rfl, rfl, hbel⟩ := hrel
          by_cases hltI : I < n
          · have ha12 := accI_le ss I
            go_wp2_with fail
            go_loopw [5, 7, 8] (fun l k _ wq => ∃ K : Nat, K ≤ I ∧ k = .int .i64 K ∧ (∃ z : Int, l = .int .i64 z ∧ Hid (z = nLT I K (accK ss I (accI ss I) K)) ∧ -1 ≤ z ∧ z ≤ 12) ∧ Below w.heap.size w wq) (fun _ k _ _ => I - (intOf k).toNat)
            case atStart => exact ⟨0, by omega, rfl, ⟨_, rfl, Lib.hid rfl, by unfold nLT; split <;> omega, by unfold nLT; split <;> omega⟩, hbel⟩
            case round =>
              obtain ⟨K, hK, rfl, ⟨z, rfl, hz, hz0, hz1⟩, hbq⟩ := hrel
              by_cases hltK : K < I
              · obtain ⟨b, o, s, rfl, hbb, hs1, hc1, _⟩ := (hr.below hbq).at_ hltI
                obtain ⟨b', o', u, e', hbb', hs2, hc2, _⟩ := (hr.below hbq).at_ (show K < n by omega)
                cases e'
                have hs12 := all_at HALL.out hs1
                have hu12 := all_at HALL.out hs2
                have CD := fun W => l06Dist_any u s W (by omega) (by omega)
                have hD : cst true u s 0 0 = dLT ss I K := by rw [dLT_symm, dLT_at hs2 hs1]
                have hDl := d_12 HALL.out hs1 hs2
                rw [hD] at CD
                have hsq := hbq.size
                have hlb : b < wr.heap.size := by omega
                have HZ : Hid (nLT I (K + 1) (accK ss I (accI ss I) (K + 1)) = if z < 0 then (dLT ss I K : Int) else min z (dLT ss I K : Int)) := Lib.hid (by
                  have h12 := Nat.le_trans (accK_le ss I (accI ss I) K) (accI_le ss I)
                  have e1 : accK ss I (accI ss I) (K + 1) = min (accK ss I (accI ss I) K) (dLT ss I K) := rfl
                  have hz' := hz.out
                  rw [e1]
                  unfold nLT at hz' ⊢
                  rw [if_neg (by omega)]
                  by_cases h0 : I = 0 ∨ (I = 1 ∧ K = 0)
                  · rw [if_pos (by omega)] at hz'
                    have h1 : I = 1 ∧ K = 0 := by omega
                    obtain ⟨rfl, rfl⟩ := h1
                    have e2 : accK ss 1 (accI ss 1) 0 = 12 := rfl
                    rw [e2, if_pos (by omega)]
                    omega
                  · rw [if_neg h0] at hz'
                    rw [if_neg (by omega)]
                    omega)
                generalize dLT ss I K = D at CD hDl HZ
                clear hs1 hs2 hD hs12 hu12
                have CDd := CD wr.drew
                clear CD
                by_cases h0 : z < 0
                · go_wp2_with fail
                  go_region_with (go_at_call 30; (with_reducible refine (CDd).mono ?_); rintro e w5 ⟨rfl, b5⟩)
                  all_goals
                    have HB5 := Lib.hid (hbq.trans ((below_of_drew b5).mono hbq.size))
                    go_wp2_with fail
                    go_roundw
                    case rel => exact ⟨K + 1, by omega, by go_num, ⟨_, rfl, Lib.hid (by have hf := HZ.out; rw [hf]; rw [if_pos (by omega)]), by omega, by omega⟩, HB5.out⟩
                    case measure => simp [intOf]; omega
                · by_cases h1 : (D : Int) < z
                  · go_wp2_with fail
                    go_region_with (go_at_call 30; (with_reducible refine (CDd).mono ?_); rintro e w5 ⟨rfl, b5⟩)
                    all_goals
                      have HB5 := Lib.hid (hbq.trans ((below_of_drew b5).mono hbq.size))
                      go_wp2_with fail
                      go_roundw
                      case rel => exact ⟨K + 1, by omega, by go_num, ⟨_, rfl, Lib.hid (by have hf := HZ.out; rw [hf]; rw [if_neg (by omega)]; omega), by omega, by omega⟩, HB5.out⟩
                      case measure => simp [intOf]; omega
                  · go_wp2_with fail
                    go_region_with (go_at_call 30; (with_reducible refine (CDd).mono ?_); rintro e w5 ⟨rfl, b5⟩)
                    all_goals
                      have HB5 := Lib.hid (hbq.trans ((below_of_drew b5).mono hbq.size))
                      go_wp2_with fail
                      go_roundw
                      case rel => exact ⟨K + 1, by omega, by go_num, ⟨_, rfl, Lib.hid (by have hf := HZ.out; rw [hf]; rw [if_neg (by omega)]; omega), by omega, by omega⟩, HB5.out⟩
                      case measure => simp [intOf]; omega
              · obtain rfl : I = K := by omega
                have HZ2 : Hid (z = nLT (I + 1) 0 (accI ss (I + 1))) := Lib.hid (by
                  rw [hz.out]
                  show _ = nLT (I + 1) 0 (accK ss I (accI ss I) I)
                  unfold nLT
                  by_cases h0 : I = 0
                  · rw [if_pos (by omega), if_pos (by omega)]
                  · rw [if_neg (by omega), if_neg (by omega)])
                go_wp2_with fail
                go_roundw
                case rel => exact ⟨I + 1, by omega, by go_num, by rw [← HZ2.out], hbq⟩
                case measure => simp [intOf]; omega
          · have HX : Hid (nLT I 0 (accI ss I) = (accI ss ss.length : Nat)) := Lib.hid (by
              have : I = ss.length := by omega
              rw [this]
              unfold nLT
              rw [if_neg (by omega)])
            go_wp2_with fail
            go_ret2
            exact ⟨lst_yes HO.out HX.out, hbel⟩
end Go.Proofs.YtiegaebnlikjiaaDoor
