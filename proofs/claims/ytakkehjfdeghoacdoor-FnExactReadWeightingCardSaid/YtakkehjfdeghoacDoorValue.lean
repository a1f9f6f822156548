/-
  The contract of the model's ReadDecimal, and the walk of the law.
-/
import Derived.Test.YtakkehjfdeghoacDoorRead
namespace Go.Proofs.YtakkehjfdeghoacDoor
open Go.RowKit

theorem dec_bad {l : List UInt8} {k v : Nat} {b : UInt8} (h : Lib.decFrom 0 (l.take k) = some v) (hb : l[k]? = some b) (hd : ¬ (48 ≤ b.toNat ∧ b.toNat ≤ 57)) : Lib.decFrom 0 l = none := by
  have hk : k < l.length := (List.getElem?_eq_some_iff.1 hb).1
  have e : l = l.take k ++ b :: l.drop (k + 1) := by
    rw [List.getElem?_eq_getElem hk] at hb
    rw [← Option.some.inj hb, ← List.drop_eq_getElem_cons hk, List.take_append_drop]
  rw [e, decFrom_app, h]
  simp only [Option.bind_some, Lib.decFrom, Lib.digitVal, if_neg hd]
theorem dec_good {l : List UInt8} {k v : Nat} {b : UInt8} (h : Lib.decFrom 0 (l.take k) = some v) (hb : l[k]? = some b) (hd : 48 ≤ b.toNat ∧ b.toNat ≤ 57) : Lib.decFrom 0 (l.take (k + 1)) = some (10 * v + (b.toNat - 48)) := by
  have := Lib.decFrom_take l k 0 v b (b.toNat - 48) h hb (by simp only [Lib.digitVal, if_pos hd])
  rw [this]; congr 1; omega
theorem dec_lt {l : List UInt8} {k v : Nat} (h : Lib.decFrom 0 (l.take k) = some v) (hk : k ≤ 16) : v < 10000000000000000 ∧ (k ≤ 15 → v < 1000000000000000) := by
  have h1 := Lib.decFrom_lt _ _ _ h
  have h2 : (l.take k).length ≤ k := List.length_take_le _ _
  constructor
  · have h3 : 10 ^ (l.take k).length ≤ 10 ^ 16 := Nat.pow_le_pow_right (by omega) (by omega)
    omega
  · intro h15
    have h3 : 10 ^ (l.take k).length ≤ 10 ^ 15 := Nat.pow_le_pow_right (by omega) (by omega)
    omega
theorem get_byte {D : ByteArray} {k : Nat} (h : k < D.size) : D.data.toList[k]? = some D[k] := by
  rw [List.getElem?_eq_getElem (by simpa using h)]; rfl
/-- How the model's reading ends, once the digits are read. -/
theorem spec_none_len {l : List UInt8} (h : (restOf l).length < 1 ∨ 16 < (restOf l).length) : specP l = none := by
  unfold specP; rw [if_pos h]
theorem spec_none_dig {l : List UInt8} (h : Lib.decFrom 0 (restOf l) = none) : specP l = none := by
  unfold specP; rw [h]; split <;> rfl
theorem spec_end {l : List UInt8} {n : Nat} (hl : ¬ ((restOf l).length < 1 ∨ 16 < (restOf l).length)) (h : Lib.decFrom 0 (restOf l) = some n) : specP l = if numB l (signed l n) = true then some (signed l n) else none := by
  unfold specP; rw [if_neg hl, h]

theorem isNeg_at {s : ByteArray} (h : 0 < s.size) : isNeg s.data.toList = (s[0] == 45) := by
  have := get_byte h
  cases hc : s.data.toList with
  | nil => rw [hc] at this; simp at this
  | cons c r => rw [hc] at this; simp at this; simp [isNeg, this]
theorem not_minus {s : ByteArray} (h : 0 < s.size) (hneg : isNeg s.data.toList = false) : ((s[0].toNat : Int) == 45) = false := by
  rw [isNeg_at h] at hneg
  simp at hneg ⊢
  intro he
  apply hneg
  apply UInt8.toNat_inj.1
  exact_mod_cast he
theorem is_minus {s : ByteArray} (hneg : isNeg s.data.toList = true) : ∃ h : 0 < s.size, ((s[0]'h).toNat : Int) = 45 := by
  have h : 0 < s.size := by
    rcases Nat.eq_zero_or_pos s.size with h | h
    · exfalso
      have : s.data.toList = [] := List.length_eq_zero_iff.1 (by simpa using h)
      rw [this] at hneg
      simp [isNeg] at hneg
    · exact h
  refine ⟨h, ?_⟩
  rw [isNeg_at h] at hneg
  simp at hneg
  rw [hneg]; rfl

theorem byte_le255 (c : UInt8) : c.toNat ≤ 255 := by have := c.toNat_lt; omega
set_option maxRecDepth 100000 in
set_option maxHeartbeats 2000000 in
theorem value_pos (s : ByteArray) (w : World) (hs : s.size ≤ 1048576) (hneg : isNeg s.data.toList = false) :
    Calls Tryd.prog 47 #[.string s] w fun e w' => e = optTwo (specP s.data.toList) ∧ Below w.heap.size w w' := by
  have HR : Hid (restOf s.data.toList = s.data.toList) := Lib.hid (by simp [restOf, hneg])
  have HG : Hid (∀ n : Nat, signed s.data.toList n = (n : Int)) := Lib.hid (fun n => by simp [signed, hneg])
  have HL : Hid ((restOf s.data.toList).length = s.size) := Lib.hid (by rw [HR.out]; simp)
  have HSZ : Hid (s.size = s.size) := Lib.hid rfl
  by_cases hl : s.size < 1 ∨ 16 < s.size
  · have HN : Hid (specP s.data.toList = none) := Lib.hid (spec_none_len (by rw [HL.out]; exact hl))
    by_cases h0 : s.size = 0
    · have h0' : ¬ (0 : Int) < s.size := by omega
      go_enter Tryd.func47, Tryd.ntmps47
      go_wp2
      go_ret2
      exact ⟨by rw [HN.out]; rfl, Below.refl _ _⟩
    · have h1 : 0 < s.size := by omega
      have h16 : 16 < (s.size : Int) := by omega
      have t1 := not_minus h1 hneg
      clear hl
      go_enter Tryd.func47, Tryd.ntmps47
      go_wp2
      go_ret2
      exact ⟨by rw [HN.out]; rfl, Below.refl _ _⟩
  · have h1 : 0 < s.size := by omega
    have h16 : s.size ≤ 16 := by omega
    have t1 := not_minus h1 hneg
    clear hl
    go_enter Tryd.func47, Tryd.ntmps47
    go_wp2
    go_loop [5, 6] (fun n i => ∃ k v : Nat, k ≤ s.size ∧ i = .int .i64 k ∧ n = .int .i64 v ∧ v ≤ 10000000000000000 ∧ (k ≤ 15 → v ≤ 1000000000000000) ∧ Hid (Lib.decFrom 0 (s.data.toList.take k) = some v)) (fun _ i => s.size - (intOf i).toNat)
    case atStart => exact ⟨0, 0, by omega, rfl, rfl, by omega, fun _ => by omega, Lib.hid rfl⟩
    case round =>
      obtain ⟨k, v, hk, rfl, rfl, hv, hv15, hg⟩ := hrel
      by_cases hlt : k < s.size
      · have hv2 := hv15 (by omega)
        have HB := Lib.hid (get_byte (D := s) (show k < (s).size by first | exact hlt | (rw [HSZ.out]; exact hlt)))
        have hc := byte_le255 (s[k]'(by first | exact hlt | (rw [HSZ.out]; exact hlt)))
        clear hv15
        by_cases hd : 48 ≤ (s[k]'(by first | exact hlt | (rw [HSZ.out]; exact hlt))).toNat ∧ (s[k]'(by first | exact hlt | (rw [HSZ.out]; exact hlt))).toNat ≤ 57
        · have HG2 : Hid (Lib.decFrom 0 (s.data.toList.take (k + 1)) = some (10 * v + ((s[k]'(by first | exact hlt | (rw [HSZ.out]; exact hlt))).toNat - 48))) := Lib.hid (dec_good hg.out HB.out hd)
          have HLT := Lib.hid (dec_lt HG2.out (by omega))
          go_wp2
          go_round
          case rel => exact ⟨k + 1, _, by omega, by go_num, by go_num, by have := HLT.out.1; omega, fun h => by have := HLT.out.2 h; omega, HG2⟩
          case measure => simp [intOf]; omega
        · have HN : Hid (specP s.data.toList = none) := Lib.hid (spec_none_dig (by rw [HR.out]; exact dec_bad hg.out HB.out hd))
          by_cases hd1 : ((s[k]'(by first | exact hlt | (rw [HSZ.out]; exact hlt))).toNat : Int) < 48
          · go_wp2
            go_ret2
            exact ⟨by rw [HN.out]; rfl, Below.refl _ _⟩
          · have hd2 : (57 : Int) < (s[k]'(by first | exact hlt | (rw [HSZ.out]; exact hlt))).toNat := by omega
            go_wp2
            go_ret2
            exact ⟨by rw [HN.out]; rfl, Below.refl _ _⟩
      · obtain rfl : k = s.size := by omega
        have HE : Hid (specP s.data.toList = if numB s.data.toList ((v : Int)) = true then some ((v : Int)) else none) := Lib.hid (by
          have h2 := hg.out
          rw [List.take_of_length_le (by first | (simp; done) | (have := HL.out; rw [HR.out] at this; omega))] at h2
          rw [spec_end (by rw [HL.out]; omega) (by rw [HR.out]; exact h2), HG.out])
        rcases hin : inB ((v : Int)) (-1000000000000000) 1000000000000000 with _ | _
        · have HN : Hid (numB s.data.toList ((v : Int)) = false) := Lib.hid (by simp [numB, hin])
          go_wp2_with (go_at_call 30; (with_reducible refine (l00In_any _ _ _ _).mono ?_); rintro e w' ⟨rfl, rfl⟩)
          go_ret2
          exact ⟨by rw [HE.out, HN.out]; rfl, Below.refl _ _⟩
        · by_cases hq : Lib.itoa ((v : Int)) = s.data.toList
          · have HN : Hid (numB s.data.toList ((v : Int)) = true) := Lib.hid (by simp [numB, hin, hq])
            have hst : (⟨(Lib.itoa ((v : Int))).toArray⟩ : ByteArray) = s := bytes_eq.2 hq
            have CD : Calls Tryd.prog 32 #[.int .i64 ((v : Int))] w fun e w' => e = .returned (.string s) ∧ Below w.heap.size w w' := by
              have := l01Dec_any ((v : Int)) w (by omega) (by omega)
              rw [hst] at this
              exact this
            clear hq hst
            go_wp2_with (first | (go_at_call 30; (with_reducible refine (l00In_any _ _ _ _).mono ?_); rintro e w' ⟨rfl, rfl⟩) | (go_at_call 32; (with_reducible refine (CD).mono ?_); rintro e w2 ⟨rfl, b2⟩))
            go_ret2
            exact ⟨by rw [HE.out, HN.out]; rfl, b2⟩
          · have HN : Hid (numB s.data.toList ((v : Int)) = false) := Lib.hid (by simp [numB, hq])
            obtain ⟨u, hu⟩ : ∃ u : ByteArray, u = ⟨(Lib.itoa ((v : Int))).toArray⟩ := ⟨_, rfl⟩
            have CD : Calls Tryd.prog 32 #[.int .i64 ((v : Int))] w fun e w' => e = .returned (.string u) ∧ Below w.heap.size w w' := by
              rw [hu]; exact l01Dec_any ((v : Int)) w (by omega) (by omega)
            have t9 : (u.toList == s.toList) = false := by
              rw [ByteArray.toList_eq, ByteArray.toList_eq, hu, beq_eq_false_iff_ne]
              simpa using hq
            clear hq hu
            go_wp2_with (first | (go_at_call 30; (with_reducible refine (l00In_any _ _ _ _).mono ?_); rintro e w' ⟨rfl, rfl⟩) | (go_at_call 32; (with_reducible refine (CD).mono ?_); rintro e w2 ⟨rfl, b2⟩))
            go_ret2
            exact ⟨by rw [HE.out, HN.out]; rfl, b2⟩
set_option maxRecDepth 100000 in
set_option maxHeartbeats 2000000 in
theorem value_neg (s : ByteArray) (w : World) (hs : s.size ≤ 1048576) (hneg : isNeg s.data.toList = true) :
    Calls Tryd.prog 47 #[.string s] w fun e w' => e = optTwo (specP s.data.toList) ∧ Below w.heap.size w w' := by
  obtain ⟨h1, t1⟩ := is_minus hneg
  obtain ⟨D, hD⟩ : ∃ D, s.extract 1 s.size = D := ⟨_, rfl⟩
  have hDl : D.data.toList = s.data.toList.tail := by
    rw [← hD, ByteArray.data_extract, Array.toList_extract]
    simp [List.extract, List.drop_one]
    exact List.take_of_length_le (by simp)
  have HSZ : Hid (D.size = s.size - 1) := Lib.hid (by rw [← hD]; simp)
  have HR : Hid (restOf s.data.toList = D.data.toList) := Lib.hid (by rw [hDl]; simp [restOf, hneg])
  have HG : Hid (∀ n : Nat, signed s.data.toList n = -(n : Int)) := Lib.hid (fun n => by simp [signed, hneg])
  have HL : Hid ((restOf s.data.toList).length = D.size) := Lib.hid (by rw [HR.out]; simp)
  have hD1 : D.size < s.size := by have := HSZ.out; omega
  have HDE := Lib.hid hD
  have t2 : ((s[0].toNat : Int) == 45) = true := by simp [t1]
  clear hDl hD
  by_cases hl : D.size < 1 ∨ 16 < D.size
  · have HN : Hid (specP s.data.toList = none) := Lib.hid (spec_none_len (by rw [HL.out]; exact hl))
    by_cases h0 : s.size < 2
    · have h0' : s.size - 1 < 1 := by omega
      clear hl
      go_enter Tryd.func47, Tryd.ntmps47
      go_wp2
      go_ret2
      exact ⟨by rw [HN.out]; rfl, Below.refl _ _⟩
    · have h2 : 2 ≤ s.size := by omega
      have h16 : 17 < s.size := by have := HSZ.out; omega
      clear hl
      go_enter Tryd.func47, Tryd.ntmps47
      go_wp2
      go_ret2
      exact ⟨by rw [HN.out]; rfl, Below.refl _ _⟩
  · have h2 : 2 ≤ s.size := by have := HSZ.out; omega
    have h17 : s.size ≤ 17 := by have := HSZ.out; omega
    have hDs : D.size ≤ 16 := by omega
    have hDp : 1 ≤ D.size := by omega
    have hDa : D.size ≤ s.size - 1 := by have := HSZ.out; omega
    have hDb : s.size - 1 ≤ D.size := by have := HSZ.out; omega
    clear hl
    go_enter Tryd.func47, Tryd.ntmps47
    go_wp2
    rw [HDE.out]
    go_loop [5, 6] (fun n i => ∃ k v : Nat, k ≤ D.size ∧ i = .int .i64 k ∧ n = .int .i64 v ∧ v ≤ 10000000000000000 ∧ (k ≤ 15 → v ≤ 1000000000000000) ∧ Hid (Lib.decFrom 0 (D.data.toList.take k) = some v)) (fun _ i => D.size - (intOf i).toNat)
    case atStart => exact ⟨0, 0, by omega, rfl, rfl, by omega, fun _ => by omega, Lib.hid rfl⟩
    case round =>
      obtain ⟨k, v, hk, rfl, rfl, hv, hv15, hg⟩ := hrel
      by_cases hlt : k < D.size
      · have hv2 := hv15 (by omega)
        have HB := Lib.hid (get_byte (D := D) (show k < (D).size by first | exact hlt | (rw [HSZ.out]; exact hlt)))
        have hc := byte_le255 (D[k]'(by first | exact hlt | (rw [HSZ.out]; exact hlt)))
        clear hv15
        by_cases hd : 48 ≤ (D[k]'(by first | exact hlt | (rw [HSZ.out]; exact hlt))).toNat ∧ (D[k]'(by first | exact hlt | (rw [HSZ.out]; exact hlt))).toNat ≤ 57
        · have HG2 : Hid (Lib.decFrom 0 (D.data.toList.take (k + 1)) = some (10 * v + ((D[k]'(by first | exact hlt | (rw [HSZ.out]; exact hlt))).toNat - 48))) := Lib.hid (dec_good hg.out HB.out hd)
          have HLT := Lib.hid (dec_lt HG2.out (by omega))
          go_wp2
          go_round
          case rel => exact ⟨k + 1, _, by omega, by go_num, by go_num, by have := HLT.out.1; omega, fun h => by have := HLT.out.2 h; omega, HG2⟩
          case measure => simp [intOf]; omega
        · have HN : Hid (specP s.data.toList = none) := Lib.hid (spec_none_dig (by rw [HR.out]; exact dec_bad hg.out HB.out hd))
          by_cases hd1 : ((D[k]'(by first | exact hlt | (rw [HSZ.out]; exact hlt))).toNat : Int) < 48
          · go_wp2
            go_ret2
            exact ⟨by rw [HN.out]; rfl, Below.refl _ _⟩
          · have hd2 : (57 : Int) < (D[k]'(by first | exact hlt | (rw [HSZ.out]; exact hlt))).toNat := by omega
            go_wp2
            go_ret2
            exact ⟨by rw [HN.out]; rfl, Below.refl _ _⟩
      · obtain rfl : k = D.size := by omega
        have HE : Hid (specP s.data.toList = if numB s.data.toList (-(v : Int)) = true then some (-(v : Int)) else none) := Lib.hid (by
          have h2 := hg.out
          rw [List.take_of_length_le (by first | (simp; done) | (have := HL.out; rw [HR.out] at this; omega))] at h2
          rw [spec_end (by rw [HL.out]; omega) (by rw [HR.out]; exact h2), HG.out])
        rcases hin : inB (-(v : Int)) (-1000000000000000) 1000000000000000 with _ | _
        · have HN : Hid (numB s.data.toList (-(v : Int)) = false) := Lib.hid (by simp [numB, hin])
          go_wp2_with (go_at_call 30; (with_reducible refine (l00In_any _ _ _ _).mono ?_); rintro e w' ⟨rfl, rfl⟩)
          go_ret2
          exact ⟨by rw [HE.out, HN.out]; rfl, Below.refl _ _⟩
        · by_cases hq : Lib.itoa (-(v : Int)) = s.data.toList
          · have HN : Hid (numB s.data.toList (-(v : Int)) = true) := Lib.hid (by simp [numB, hin, hq])
            have hst : (⟨(Lib.itoa (-(v : Int))).toArray⟩ : ByteArray) = s := bytes_eq.2 hq
            have CD : Calls Tryd.prog 32 #[.int .i64 (-(v : Int))] w fun e w' => e = .returned (.string s) ∧ Below w.heap.size w w' := by
              have := l01Dec_any (-(v : Int)) w (by omega) (by omega)
              rw [hst] at this
              exact this
            clear hq hst
            go_wp2_with (first | (go_at_call 30; (with_reducible refine (l00In_any _ _ _ _).mono ?_); rintro e w' ⟨rfl, rfl⟩) | (go_at_call 32; (with_reducible refine (CD).mono ?_); rintro e w2 ⟨rfl, b2⟩))
            go_ret2
            exact ⟨by rw [HE.out, HN.out]; rfl, b2⟩
          · have HN : Hid (numB s.data.toList (-(v : Int)) = false) := Lib.hid (by simp [numB, hq])
            obtain ⟨u, hu⟩ : ∃ u : ByteArray, u = ⟨(Lib.itoa (-(v : Int))).toArray⟩ := ⟨_, rfl⟩
            have CD : Calls Tryd.prog 32 #[.int .i64 (-(v : Int))] w fun e w' => e = .returned (.string u) ∧ Below w.heap.size w w' := by
              rw [hu]; exact l01Dec_any (-(v : Int)) w (by omega) (by omega)
            have t9 : (u.toList == s.toList) = false := by
              rw [ByteArray.toList_eq, ByteArray.toList_eq, hu, beq_eq_false_iff_ne]
              simpa using hq
            clear hq hu
            go_wp2_with (first | (go_at_call 30; (with_reducible refine (l00In_any _ _ _ _).mono ?_); rintro e w' ⟨rfl, rfl⟩) | (go_at_call 32; (with_reducible refine (CD).mono ?_); rintro e w2 ⟨rfl, b2⟩))
            go_ret2
            exact ⟨by rw [HE.out, HN.out]; rfl, b2⟩
end Go.Proofs.YtakkehjfdeghoacDoor
