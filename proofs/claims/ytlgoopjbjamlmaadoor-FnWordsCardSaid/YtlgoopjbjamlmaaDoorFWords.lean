/-
  The walk of the law FnWords: a word is that of its digits, and the remainder of its number is reckoned digit by digit.
-/
import Derived.Test.YtlgoopjbjamlmaaDoorDraw
import Derived.Test.YtlgoopjbjamlmaaDoorWordOf
import Derived.Test.YtlgoopjbjamlmaaDoorWRem
import Derived.Test.YtlgoopjbjamlmaaDoorAt
import Derived.BigRegion
namespace Go.Proofs.YtlgoopjbjamlmaaDoor
open Go.RowKit

/-! A word and its digits. -/
theorem dig_sym : ∀ d : Nat, d < 36 → digN (symB (d : Int)).toNat = (d : Int) := by decide
theorem fw_digs {base : Int} {zs : List Int} (hb : base ≤ 36) (hz : ∀ z ∈ zs, 0 ≤ z ∧ z < base) : digs (zs.map symB) = zs := by
  unfold digs
  rw [List.map_map]
  conv => rhs; rw [← List.map_id zs]
  apply List.map_congr_left
  intro z hm
  have := hz z hm
  obtain ⟨d, rfl⟩ := Int.eq_ofNat_of_zero_le this.1
  exact dig_sym d (by omega)
theorem fw_word {base : Int} {zs : List Int} (h2 : 2 ≤ base) (hb : base ≤ 36) (hz : ∀ z ∈ zs, 0 ≤ z ∧ z < base) (hn : zs.length ≤ 11) : wordB ⟨(zs.map symB).toArray⟩ base = true := by
  have e1 : inB base 2 36 = true := inB_true.2 ⟨h2, hb⟩
  have e2 : (ByteArray.mk (zs.map symB).toArray).size = zs.length := by simp [ByteArray.size]
  have e3 : (zs.map symB).all (digOk base) = true := by
    rw [List.all_eq_true]
    intro c hc
    obtain ⟨z, hm, rfl⟩ := List.mem_map.1 hc
    have := hz z hm
    obtain ⟨d, rfl⟩ := Int.eq_ofNat_of_zero_le this.1
    unfold digOk
    rw [dig_sym d (by omega)]
    exact inB_true.2 (by omega)
  simp only [wordB, e1, e2, e3, Bool.true_and, Bool.and_true, decide_eq_true_eq]
  omega
theorem fw_ok {base : Int} {zs : List Int} (h2 : 2 ≤ base) (hb : base ≤ 36) (hz : ∀ z ∈ zs, 0 ≤ z ∧ z < base) (hn : zs.length ≤ 11) : woOk zs base = true := by
  have e1 : inB base 2 36 = true := inB_true.2 ⟨h2, hb⟩
  have e3 : zs.all (inBase base) = true := by
    rw [List.all_eq_true]
    intro z hm
    have := hz z hm
    exact inB_true.2 (by omega)
  simp only [woOk, e1, e3, Bool.true_and, Bool.and_true, decide_eq_true_eq]
  omega
theorem fw_cut {zs : List Int} {k : Nat} {z : Int} (h : zs[k]? = some z) : (ByteArray.mk (zs.map symB).toArray).extract k (k + 1) = symS z.toNat := by
  have hk : k < zs.length := (List.getElem?_eq_some_iff.1 h).1
  apply ByteArray.ext
  apply Array.ext'
  rw [List.getElem?_eq_getElem hk] at h
  have hz := Option.some.inj h
  simp [ByteArray.data_extract, symS, List.extract_eq_take_drop]
  rw [← List.map_drop, ← List.map_take, List.drop_eq_getElem_cons hk]
  simp [hz, symB]

set_option maxHeartbeats 400000 in
theorem b10Nums_any {B1 B2 : Nat} (A1 A2 : Option Addr) (n c1 c2 : Nat) (zs : List Int) (w : World) (h1 : RowB .i64 B1 w A1 n zs) (h2 : RowB .i64 B2 w A2 n zs) :
    Calls Tryd.prog 13 #[.slice A1 n c1, .slice A2 n c2] w fun e w' => e = .returned (.bool true) ∧ ∃ m, w' = w.drewN m := by
  have hle := h1.le
  go_enter Tryd.func13, Tryd.ntmps13
  go_wp2
  go_loopw [5] (fun i wr => ∃ k : Nat, k ≤ n ∧ i = .int .i64 k ∧ ∃ m, wr = w.drewN m) (fun i _ => n - (intOf i).toNat)
  case atStart => exact ⟨0, by omega, rfl, 0, rfl⟩
  case round =>
    obtain ⟨k, hk, rfl, m, rfl⟩ := hrel
    by_cases hlt : k < n
    · obtain ⟨b1, o1, z, rfl, _, hz1, hc1, _⟩ := h1.at_ hlt
      obtain ⟨b2, o2, z2, rfl, _, hz2, hc2, _⟩ := h2.at_ hlt
      obtain rfl : z = z2 := by rw [hz1] at hz2; exact Option.some.inj hz2
      have hc1' : (w.drewN m).cell? ⟨b1, o1 + k, none⟩ = some (.int .i64 z) := hc1
      have hc2' : (w.drewN m).cell? ⟨b2, o2 + k, none⟩ = some (.int .i64 z) := hc2
      clear hz1 hz2
      go_wp2
      go_quiet (fail)
      go_wp2
      go_roundw
      case rel => exact ⟨k + 1, by omega, by go_num, _, rfl⟩
      case measure => simp [intOf]; omega
    · obtain rfl : k = n := by omega
      go_wp2
      go_ret
      exact ⟨rfl, m, rfl⟩
set_option maxHeartbeats 400000 in
theorem fwIsWord_any (s : ByteArray) (base : Int) (w : World) (hs : s.size ≤ maxLen) (hw : wordB s base = true) :
    Calls Tryd.prog 14 #[.string s, .int .i64 base] w fun e w' => e = .returned (.bool true) ∧ Below w.heap.size w w' := by
  have HW := Lib.hid hw
  clear hw
  go_enter Tryd.func14, Tryd.ntmps14
  go_wp2_with fail
  (go_at_call 10; (with_reducible refine (implDigits_any _ _ _ hs).mono ?_); rintro e w' ⟨A, c, rfl, ho, hb⟩)
  go_wp2_with fail
  go_ret
  exact ⟨ret_bool HW.out, hb⟩
/-- What DigitsOf leaves of the word of some digits: these digits. -/
def Back (n : Nat) (zs : List Int) (w : World) (e : Ending) (w' : World) : Prop :=
  ∃ A c, e = .returned (.tuple #[.slice A n c, .bool true]) ∧ Own w.heap.size w' A n c zs ∧ Below w.heap.size w w'
theorem back_any (s : ByteArray) (base : Int) (n : Nat) (zs : List Int) (w : World) (hs : s.size ≤ maxLen) (hw : wordB s base = true) (hd : digs s.data.toList = zs) (hn : zs.length = n) :
    Calls Tryd.prog 10 #[.string s, .int .i64 base] w (Back n zs w) := by
  refine (implDigits_any s base w hs).mono ?_
  rintro e w' ⟨A, c, he, ho, hb⟩
  have e1 : digR s base = zs := by simp [digR, hw, hd]
  rw [e1, hn] at ho
  rw [e1, hn, hw] at he
  exact ⟨A, c, he, ho, hb⟩

set_option maxRecDepth 100000 in
set_option maxHeartbeats 2000000 in
theorem words_walk (a0 a1 : Option Addr) (l0 c0 l1 c1 : Nat) (z0 z1 : List Int) (w : World) (r0 : Row .u8 w a0 l0 z0) (r1 : Row .u8 w a1 l1 z1) :
    Calls Tryd.prog 3 #[.slice a0 l0 c0, .slice a1 l1 c1] w fun e w' => e = .returned (.bool true) ∧ Below w.heap.size w w' := by
  rcases hl : decide (1048576 < l0 ∨ 1048576 < l1) with _ | _
  · have L : ∀ W, Calls Tryd.prog 7 #[.slice a0 l0 c0, .slice a1 l1 c1] W fun e w' => e = .returned (.bool false) ∧ W = w' := fun W => hl ▸ b10Long_any a0 a1 l0 c0 l1 c1 W r0.2.1 r1.2.1
    clear hl
    go_enter Tryd.func3, Tryd.ntmps3
    go_wp2_with (go_at_call 7; (with_reducible refine (L _).mono ?_); rintro e w' ⟨rfl, rfl⟩)
    (go_at_call 8; (with_reducible refine (b10Digits_any a0 l0 c0 z0 _ r0).mono ?_); rintro e w1 ⟨base, n, A1, k1, zs, rfl, hb2, hb36, hn, o1, hz, b1⟩)
    have hlen := o1.len
    have ok := fw_ok hb2 hb36 hz (by omega)
    have W1 : Hid (woR zs base = ⟨(zs.map symB).toArray⟩) := Lib.hid (by simp [woR, ok])
    have W2 := Lib.hid (fw_word hb2 hb36 hz (by omega))
    have W3 : Hid (digs (ByteArray.mk (zs.map symB).toArray).data.toList = zs) := Lib.hid (by simpa using fw_digs hb36 hz)
    have W4 : Hid (∀ k z, zs[k]? = some z → (ByteArray.mk (zs.map symB).toArray).extract k (k + 1) = symS z.toNat) := Lib.hid fun k z h => fw_cut h
    have W5 : (ByteArray.mk (zs.map symB).toArray).size = n := by simp [ByteArray.size, hlen]
    have CW : ∀ (W : World), Row .i64 W A1 n zs → Calls Tryd.prog 9 #[.slice A1 n k1, .int .i64 base] W fun e w' => e = .returned (.tuple #[.string ⟨(zs.map symB).toArray⟩, .bool true]) ∧ Below W.heap.size W w' := by
      intro W hr
      have := implWordOf_any A1 n k1 base zs W hr
      rw [W1.out, ok] at this
      exact this
    obtain ⟨s, hs⟩ : ∃ s, s = ByteArray.mk (zs.map symB).toArray := ⟨_, rfl⟩
    rw [← hs] at W2 W3 W4 W5 CW
    have HZ := Lib.hid hz
    have HLEN := Lib.hid hlen
    have hsm : s.size ≤ maxLen := by unfold maxLen; omega
    clear W1 hs ok hz hlen
    go_wp2_with fail
    (go_at_call 9; (with_reducible refine (CW _ o1.row).mono ?_); rintro e w2 ⟨rfl, b2⟩)
    have o1' := Own.below o1 b2
    go_wp2_with fail
    (go_at_call 10; (with_reducible refine (back_any s base n zs _ hsm W2.out W3.out HLEN.out).mono ?_); rintro e w3 ⟨A3, k3, rfl, o3, b3⟩)
    have o1'' := Own.below o1' b3
    have bel : Below w.heap.size w w3 := (b1.trans (b2.mono b1.size)).trans (b3.mono (by have := b1.size; have := b2.size; omega))
    obtain ⟨q, hq⟩ := Int.eq_ofNat_of_zero_le (atV_bd z1 (0 : Nat) 200 (by omega)).1
    have bq := (atV_bd z1 (0 : Nat) 200 (by omega)).2
    rw [hq] at bq
    have A2 : Calls Tryd.prog 11 #[.slice a1 l1 c1, .int .i64 0, .int .i64 200] w3 fun e w' => e = .returned (.int .i64 q) ∧ w3 = w' := hq ▸ b10At_any a1 l1 c1 0 200 z1 w3 ((RowB.below r1 bel).up bel.size) (by omega) (by omega)
    clear hq
    obtain ⟨M, hM⟩ : ∃ M, M = 1 + (q : Int) := ⟨_, rfl⟩
    have hMb : 1 ≤ M ∧ M ≤ 200 := by omega
    have CR : Calls Tryd.prog 12 #[.string s, .int .i64 base, .int .i64 M] w3 fun e w' => e = .returned (.tuple #[.int .i64 (wrem base M zs), .bool true]) ∧ Below w3.heap.size w3 w' := by
      have := implWRem_any s base M w3 hsm
      have ok : wrOk s base M = true := by
        unfold wrOk; rw [W2.out, inB_true.2 (show 1 ≤ M ∧ M ≤ 1000 by omega)]; rfl
      rw [wrR, if_pos ok, ok, W3.out] at this
      exact this
    have hR := wrem_bd (base := base) hMb.1 zs
    obtain ⟨R, hRR⟩ : ∃ R, R = wrem base M zs := ⟨_, rfl⟩
    rw [← hRR] at hR CR
    have HR := Lib.hid hRR
    clear hRR
    have A2' : Calls Tryd.prog 11 #[.slice a1 l1 c1, .int .i64 0, .int .i64 200] w3 fun e w' => e = .returned (.int .i64 (M - 1)) ∧ w3 = w' := by
      have e : M - 1 = (q : Int) := by omega
      rw [e]; exact A2
    have eM : 1 + (M - 1) = M := by omega
    clear A2 hM bq
    go_wp2_with (go_at_call 11; (with_reducible refine (A2').mono ?_); rintro e w' ⟨rfl, rfl⟩)
    (go_at_call 12; (with_reducible refine (CR).mono ?_); rintro e w4 ⟨rfl, b4⟩)
    have o1c := Own.below o1'' b4
    have o3c := Own.below o3 b4
    have CN : ∀ (W : World), RowB .i64 W.heap.size W A3 n zs → RowB .i64 W.heap.size W A1 n zs → Calls Tryd.prog 13 #[.slice A3 n k3, .slice A1 n k1] W fun e w' => e = .returned (.bool true) ∧ ∃ m, w' = W.drewN m := fun W h1 h2 => b10Nums_any A3 A1 n k3 k1 zs W h1 h2
    have CI : ∀ (W : World), Calls Tryd.prog 14 #[.string s, .int .i64 base] W fun e w' => e = .returned (.bool true) ∧ Below W.heap.size W w' := fun W => fwIsWord_any s base W hsm W2.out
    go_wp2_with fail
    (go_at_call 13; (with_reducible refine (CN _ o3c.row o1c.row).mono ?_); rintro e w' ⟨rfl, m5, rfl⟩)
    go_wp2_with fail
    (go_at_call 14; (with_reducible refine (CI _).mono ?_); rintro e w6 ⟨rfl, b6⟩)
    go_wp2_with fail
    have b46 : Below w3.heap.size w3 w6 := (below_drewN b4 m5).trans (b6.mono b4.size)
    have bel6 : Below w.heap.size w w6 := bel.trans (b46.mono bel.size)
    have row := (Own.below o1'' b46).row
    clear o1 o1' o1'' o1c o3 o3c b1 b2 b3 b4 b6 b46 CW CR CN CI A2' L r0 r1 bel
    go_loop [14, 15, 16, 17] (fun v i _ _ => ∃ (k : Nat) (x : Int), k ≤ n ∧ i = .int .i64 k ∧ v = .int .i64 x ∧ 0 ≤ x ∧ x < M ∧ Hid (x = wrem base M (zs.take k))) (fun _ i _ _ => n - (intOf i).toNat)
    case atStart => exact ⟨0, 0, by omega, rfl, rfl, by omega, by omega, Lib.hid rfl⟩
    case round =>
      obtain ⟨k, x, hk, rfl, rfl, hx0, hx1, hg⟩ := hrel
      by_cases hlt : k < n
      · obtain ⟨b, o, z, rfl, _, hzk, hc, _⟩ := row.at_ hlt
        have hzb := HZ.out z (List.mem_of_getElem? hzk)
        have hmul := mul_bd (v := x) hx0 (by omega) hb2 hb36
        have HN : Hid (zs.take (k + 1) = zs.take k ++ [z]) := Lib.hid (taken hzk)
        have hcut := W4.out k z hzk
        obtain ⟨d, rfl⟩ := Int.eq_ofNat_of_zero_le hzb.1
        have CS : ∀ W, Calls Tryd.prog 15 #[.int .i64 (d : Int)] W fun e w' => e = .returned (.tuple #[.string (symS d), .bool true]) ∧ W = w' := fun W => implSymbol_yes d W (by omega)
        have hcut' : s.extract k (k + 1) = symS d := hcut
        clear hzk hcut
        go_wp2_with (go_at_call 15; (with_reducible refine (CS _).mono ?_); rintro e w' ⟨rfl, rfl⟩)
        go_round
        case rel =>
          have e : (x * base + (d : Int)) % M = wrem base M (zs.take (k + 1)) := by
            rw [HN.out, wrem_next, ← hg.out]
          exact ⟨k + 1, _, by omega, by go_num, rfl, Int.emod_nonneg _ (by omega), Int.emod_lt_of_pos _ (by omega), Lib.hid e⟩
        case measure => simp [intOf]; omega
      · obtain rfl : k = n := by omega
        have hRx : x = R := by rw [HR.out, hg.out, List.take_of_length_le (by rw [HLEN.out]; exact Nat.le_refl _)]
        go_wp2
        go_ret
        exact ⟨ret_bool (by simp), bel6⟩
  · have L : ∀ W, Calls Tryd.prog 7 #[.slice a0 l0 c0, .slice a1 l1 c1] W fun e w' => e = .returned (.bool true) ∧ W = w' := fun W => hl ▸ b10Long_any a0 a1 l0 c0 l1 c1 W r0.2.1 r1.2.1
    clear hl
    go_enter Tryd.func3, Tryd.ntmps3
    go_wp2_with (go_at_call 7; (with_reducible refine (L _).mono ?_); rintro e w' ⟨rfl, rfl⟩)
    go_ret
    exact ⟨rfl, Below.refl _ _⟩
end Go.Proofs.YtlgoopjbjamlmaaDoor
