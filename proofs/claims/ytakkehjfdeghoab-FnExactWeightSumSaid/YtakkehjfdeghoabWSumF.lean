/-
  WeightSum, of the model and of the program.
-/
import Derived.Test.YtakkehjfdeghoabWSum
namespace Go.Proofs.Ytakkehjfdeghoab
open Go.RowKit

def wBoth (x : Wt) (t : ByteArray) : Bool := wOk x && (wordB t x.base && decide (t.size = x.W.length))
def wSumR (x : Wt) (t : ByteArray) : Int := if wBoth x t = true then dot x.W (digs t.data.toList) % x.modulus else 0
theorem wSumR_no {x : Wt} {t : ByteArray} (h : wBoth x t = false) : wSumR x t = 0 := by simp [wSumR, h]
theorem wSumR_yes {x : Wt} {t : ByteArray} (h : wBoth x t = true) : wSumR x t = dot x.W (digs t.data.toList) % x.modulus := by simp [wSumR, h]
theorem digs_bd {t : ByteArray} {base : Int} (h : wordB t base = true) : ∀ d ∈ digs t.data.toList, 0 ≤ d ∧ d ≤ 35 := by
  unfold wordB at h
  simp only [Bool.and_eq_true, List.all_eq_true] at h
  intro d hd
  simp only [digs, List.mem_map] at hd
  obtain ⟨c, hc, rfl⟩ := hd
  have h1 := h.2.2 c hc
  unfold digOk at h1
  rw [inB_true] at h1
  exact ⟨h1.1, (digN_bd c.toNat).2⟩

set_option maxRecDepth 100000 in
set_option maxHeartbeats 2000000 in
theorem specWSum_any {B : Nat} (x : Wt) (A : Option Addr) (n c : Nat) (t : ByteArray) (w : World) (hr : RowB .i64 B w A n x.W) (hB : B ≤ w.heap.size) (ht : t.size ≤ maxLen) :
    Calls Try.prog 33 #[wtV x A n c, .string t] w fun e w' => e = two (wSumR x t) (wBoth x t) ∧ Below w.heap.size w w' := by
  have hl := hr.len
  have hn := hr.le
  obtain ⟨w1, hw1⟩ : ∃ w1, w1 = w.alloc (.cells (wtCells x A n c) 44) := ⟨_, rfl⟩
  have bel : Below w.heap.size w w1 := by rw [hw1]; exact (Below.refl _ w).alloc (Nat.le_refl _) _
  have b1 : Blk w1 w.heap.size (wtCells x A n c) 44 := by rw [hw1]; exact Blk.new _ _ _
  have r1 := RowB.below hr (bel.mono hB)
  have CI := l03Is_any x A n c w1 b1 r1
  have BEL := Lib.hid bel
  have R1 := Lib.hid r1
  have BLK := Lib.hid b1
  have LT1 := Lib.hid b1.lt
  have HT := Lib.hid ht
  unfold maxLen at ht
  clear bel b1 r1 hr
  rcases h1 : wOk x with _ | _
  · rw [h1] at CI
    have e : wBoth x t = false := by unfold wBoth; rw [h1]; rfl
    have E1 := Lib.hid e
    clear h1 e
    go_enter Try.func33, Try.ntmps33
    go_wp2_with fail
    rw [← hw1]
    have HW1 := Lib.hid hw1
    clear hw1
    (go_at_call 77; (with_reducible refine (CI).mono ?_); rintro e w2 ⟨rfl, m, rfl⟩)
    go_wp2_with fail
    go_ret2
    exact ⟨two_eq (wSumR_no E1.out).symm E1.out.symm, below_drewN BEL.out m⟩
  · rw [h1] at CI
    obtain ⟨bs, md, k, f⟩ := Wt.fine h1
    have HO := Lib.hid h1
    have hkn : k = n := by have := f.len; omega
    subst hkn
    have F := Lib.hid f
    have hbase := f.base
    have HBASE := Lib.hid hbase
    have hmod := f.modulus
    have HMOD := Lib.hid hmod
    clear h1 hbase hmod f
    rcases h2 : wordB t x.base with _ | _
    · have e : wBoth x t = false := by unfold wBoth; rw [HO.out, h2]; rfl
      have E1 := Lib.hid e
      have CW : ∀ W, Calls Try.prog 79 #[.string t, .int .i64 x.base] W fun e w' => e = .returned (.bool false) ∧ W = w' := fun W => by rw [← h2]; exact l01Word_any t x.base W HT.out
      clear h2 e
      go_enter Try.func33, Try.ntmps33
      go_wp2_with fail
      rw [← hw1]
      have HW1 := Lib.hid hw1
      clear hw1
      (go_at_call 77; (with_reducible refine (CI).mono ?_); rintro e w2 ⟨rfl, m, rfl⟩)
      have k0 : (w1.drewN m).cell? ⟨w.heap.size, 0, none⟩ = some (.int .i64 x.base) := BLK.out.cell 0
      clear CI
      go_wp2_with fail
      (go_at_call 79; (with_reducible refine (CW _).mono ?_); rintro e w2 ⟨rfl, rfl⟩)
      go_wp2_with fail
      go_ret2
      exact ⟨two_eq (wSumR_no E1.out).symm E1.out.symm, below_drewN BEL.out m⟩
    · have CW : ∀ W, Calls Try.prog 79 #[.string t, .int .i64 x.base] W fun e w' => e = .returned (.bool true) ∧ W = w' := fun W => by rw [← h2]; exact l01Word_any t x.base W HT.out
      have HW2 := Lib.hid h2
      clear h2
      by_cases h3 : (t.size : Int) = (k : Int)
      · have e : wBoth x t = true := by unfold wBoth; rw [HO.out, HW2.out]; simp; omega
        have E1 := Lib.hid e
        have g2 : ((t.size : Int) != (k : Int)) = false := by simpa using h3
        have htk : t.size = k := by omega
        have HTK := Lib.hid htk
        have ht20 : t.size ≤ 1048576 := by have := F.out.n20; omega
        clear htk h3
        go_enter Try.func33, Try.ntmps33
        go_wp2_with fail
        rw [← hw1]
        have HW1 := Lib.hid hw1
        clear hw1
        (go_at_call 77; (with_reducible refine (CI).mono ?_); rintro e w2 ⟨rfl, m, rfl⟩)
        have k0 : (w1.drewN m).cell? ⟨w.heap.size, 0, none⟩ = some (.int .i64 x.base) := BLK.out.cell 0
        have k3 : (w1.drewN m).cell? ⟨w.heap.size, 3, none⟩ = some (.slice A k c) := BLK.out.cell 3
        clear CI
        go_wp2_with fail
        (go_at_call 79; (with_reducible refine (CW _).mono ?_); rintro e w2 ⟨rfl, rfl⟩)
        clear CW k0
        go_wp2_with fail
        (go_at_call 81; (with_reducible refine (l01Digits_any t _ ht20).mono ?_); rintro e w3 ⟨A3, c3, rfl, ho, be3⟩)
        have htk := HTK.out
        rw [htk] at ho
        have b3 := (BLK.out.drewN m).below be3 LT1.out
        have CS := l03Sum_any x A k c w3 b3 ((RowB.drewN R1.out m).below (be3.mono (Nat.le_trans hB BEL.out.size))) F.out A3 c3 (digs t.data.toList) ho.row (digs_bd HW2.out)
        have BE3 : Hid (Below w.heap.size w w3) := Lib.hid ((below_drewN BEL.out m).trans (be3.mono (Nat.le_of_lt LT1.out)))
        clear be3 ho b3 k3 htk
        rw [HTK.out]
        go_wp2_with fail
        (go_at_call 80; (with_reducible refine (CS).mono ?_); rintro e w4 ⟨rfl, q, rfl⟩)
        go_wp2_with fail
        go_ret2
        exact ⟨two_eq (by rw [wSumR_yes E1.out, HMOD.out]) E1.out.symm, below_drewN BE3.out q⟩
      · have e : wBoth x t = false := by unfold wBoth; rw [HO.out, HW2.out]; simp; omega
        have E1 := Lib.hid e
        have g2 : ((t.size : Int) != (k : Int)) = true := by simpa using h3
        clear h3 e
        go_enter Try.func33, Try.ntmps33
        go_wp2_with fail
        rw [← hw1]
        have HW1 := Lib.hid hw1
        clear hw1
        (go_at_call 77; (with_reducible refine (CI).mono ?_); rintro e w2 ⟨rfl, m, rfl⟩)
        have k0 : (w1.drewN m).cell? ⟨w.heap.size, 0, none⟩ = some (.int .i64 x.base) := BLK.out.cell 0
        have k3 : (w1.drewN m).cell? ⟨w.heap.size, 3, none⟩ = some (.slice A k c) := BLK.out.cell 3
        clear CI
        go_wp2_with fail
        (go_at_call 79; (with_reducible refine (CW _).mono ?_); rintro e w2 ⟨rfl, rfl⟩)
        clear CW k0
        go_wp2_with fail
        go_ret2
        exact ⟨two_eq (wSumR_no E1.out).symm E1.out.symm, below_drewN BEL.out m⟩
set_option maxRecDepth 100000 in
set_option maxHeartbeats 2000000 in
theorem implWSum_any {B : Nat} (x : Wt) (A : Option Addr) (n c : Nat) (t : ByteArray) (w : World) (hr : RowB .i64 B w A n x.W) (hB : B ≤ w.heap.size) (ht : t.size ≤ maxLen) :
    Calls Try.prog 34 #[wtV x A n c, .string t] w fun e w' => e = two (wSumR x t) (wBoth x t) ∧ Below w.heap.size w w' := by
  have hl := hr.len
  have hn := hr.le
  obtain ⟨w1, hw1⟩ : ∃ w1, w1 = w.alloc (.cells #[.int .i64 x.base, .int .i64 x.modulus, .int .i64 x.target, .slice A n c] 44) := ⟨_, rfl⟩
  have bel : Below w.heap.size w w1 := by rw [hw1]; exact (Below.refl _ w).alloc (Nat.le_refl _) _
  have b1 : Blk w1 w.heap.size #[.int .i64 x.base, .int .i64 x.modulus, .int .i64 x.target, .slice A n c] 44 := by rw [hw1]; exact Blk.new _ _ _
  have r1 := RowB.below hr (bel.mono hB)
  have CV := validW_any x A n c w1 r1 (Nat.le_trans hB bel.size)
  have BEL := Lib.hid bel
  have R1 := Lib.hid r1
  have BLK := Lib.hid b1
  have LT1 := Lib.hid b1.lt
  have HT := Lib.hid ht
  unfold maxLen at ht
  clear bel b1 r1 hr
  rcases h1 : wOk x with _ | _
  · rw [h1] at CV
    have e : wBoth x t = false := by unfold wBoth; rw [h1]; rfl
    have E1 := Lib.hid e
    clear h1 e
    go_enter Try.func34, Try.ntmps34
    go_wp2_with fail
    rw [← hw1]
    have HW1 := Lib.hid hw1
    clear hw1
    (go_at_call 78; (with_reducible refine (CV).mono ?_); rintro e w2 ⟨rfl, be2⟩)
    have BE2 := Lib.hid be2
    clear be2
    go_wp2_with fail
    go_ret2
    exact ⟨two_eq (wSumR_no E1.out).symm E1.out.symm, BEL.out.trans (BE2.out.mono (Nat.le_of_lt LT1.out))⟩
  · rw [h1] at CV
    obtain ⟨bs, md, k, f⟩ := Wt.fine h1
    have HO := Lib.hid h1
    have hkn : k = n := by have := f.len; omega
    subst hkn
    have F := Lib.hid f
    have hmod := f.modulus
    have HMOD := Lib.hid hmod
    clear h1 hmod f
    by_cases h3 : (t.size : Int) = (k : Int)
    · have g2 : ((t.size : Int) != (k : Int)) = false := by simpa using h3
      have htk : t.size = k := by omega
      have HTK := Lib.hid htk
      clear htk h3
      go_enter Try.func34, Try.ntmps34
      go_wp2_with fail
      rw [← hw1]
      have HW1 := Lib.hid hw1
      clear hw1
      (go_at_call 78; (with_reducible refine (CV).mono ?_); rintro e w2 ⟨rfl, be2⟩)
      have b2 := BLK.out.below be2 LT1.out
      have k0 : w2.cell? ⟨w.heap.size, 0, none⟩ = some (.int .i64 x.base) := b2.cell 0
      have k3 : w2.cell? ⟨w.heap.size, 3, none⟩ = some (.slice A k c) := b2.cell 3
      have R2 := Lib.hid (RowB.below R1.out (be2.mono (Nat.le_trans hB BEL.out.size)))
      have BEL2 : Hid (Below w.heap.size w w2) := Lib.hid (BEL.out.trans (be2.mono (Nat.le_of_lt LT1.out)))
      have BLK2 := Lib.hid b2
      have LT2 := Lib.hid b2.lt
      have CD := implDigits_any t x.base w2 HT.out
      clear be2 b2 CV
      rcases h2 : wordB t x.base with _ | _
      · have e : wBoth x t = false := by unfold wBoth; rw [HO.out, h2]; rfl
        have E1 := Lib.hid e
        clear e
        go_wp2_with fail
        (go_at_call 82; (with_reducible refine (CD).mono ?_); rintro e w3 ⟨A3, c3, rfl, ho, be3⟩)
        rw [h2]
        have BE3 := Lib.hid be3
        clear ho be3 k0 k3 h2
        go_wp2_with fail
        go_ret2
        exact ⟨two_eq (wSumR_no E1.out).symm E1.out.symm, BEL2.out.trans (BE3.out.mono (Nat.le_of_lt LT2.out))⟩
      · have e : wBoth x t = true := by unfold wBoth; rw [HO.out, h2]; have := HTK.out; simp; have := F.out.len; omega
        have E1 := Lib.hid e
        have edr : digR t x.base = digs t.data.toList := by unfold digR; rw [if_pos h2]
        have elen : (digR t x.base).length = k := by rw [edr, digs_len]; simp; exact HTK.out
        have HDB := Lib.hid (digs_bd h2)
        clear e
        go_wp2_with fail
        (go_at_call 82; (with_reducible refine (CD).mono ?_); rintro e w3 ⟨A3, c3, rfl, ho, be3⟩)
        rw [h2, elen]
        rw [elen, edr] at ho
        have b3 := BLK2.out.below be3 LT2.out
        have q0 : w3.cell? ⟨w.heap.size, 0, none⟩ = some (.int .i64 x.base) := b3.cell 0
        have q1 : w3.cell? ⟨w.heap.size, 1, none⟩ = some (.int .i64 x.modulus) := b3.cell 1
        have q2 : w3.cell? ⟨w.heap.size, 2, none⟩ = some (.int .i64 x.target) := b3.cell 2
        have q3 : w3.cell? ⟨w.heap.size, 3, none⟩ = some (.slice A k c) := b3.cell 3
        have CS := sumFrom_any x A k c w3 (RowB.below R2.out (be3.mono (Nat.le_trans hB BEL2.out.size))) (Nat.le_trans hB (Nat.le_trans BEL2.out.size be3.size)) F.out 0 A3 k c3 (digs t.data.toList) ho.row (Nat.le_refl _) (by omega) HDB.out
        rw [show (((0 : Nat) : Int)) = 0 from rfl] at CS
        have BE3 : Hid (Below w.heap.size w w3) := Lib.hid (BEL2.out.trans (be3.mono (Nat.le_of_lt LT2.out)))
        clear be3 ho b3 k0 k3 h2 edr elen CD
        go_wp2_with fail
        (go_at_call 83; (with_reducible refine (CS).mono ?_); rintro e w4 ⟨rfl, be4⟩)
        have BE4 := Lib.hid be4
        clear be4
        go_wp2_with fail
        go_ret2
        exact ⟨two_eq (by rw [wSumR_yes E1.out, HMOD.out]) E1.out.symm, BE3.out.trans (BE4.out.mono BE3.out.size)⟩
    · have g2 : ((t.size : Int) != (k : Int)) = true := by simpa using h3
      have e : wBoth x t = false := by unfold wBoth; have := F.out.len; simp; intros; omega
      have E1 := Lib.hid e
      clear h3 e
      go_enter Try.func34, Try.ntmps34
      go_wp2_with fail
      rw [← hw1]
      have HW1 := Lib.hid hw1
      clear hw1
      (go_at_call 78; (with_reducible refine (CV).mono ?_); rintro e w2 ⟨rfl, be2⟩)
      have b2 := BLK.out.below be2 LT1.out
      have k3 : w2.cell? ⟨w.heap.size, 3, none⟩ = some (.slice A k c) := b2.cell 3
      have BE2 := Lib.hid be2
      clear be2 b2
      go_wp2_with fail
      go_ret2
      exact ⟨two_eq (wSumR_no E1.out).symm E1.out.symm, BEL.out.trans (BE2.out.mono (Nat.le_of_lt LT1.out))⟩
end Go.Proofs.Ytakkehjfdeghoab
