/-
  UnseenPairs and WeightCatches, of the model.
-/
import Derived.Test.YtiokcflomchdcaaUn7
import Derived.Test.YtiokcflomchdcaaUn8
namespace Go.Proofs.Ytiokcflomchdcaa
open Go Go.RowKit

def plV (n : Nat) (kind base : Int) : Int := match kindOk kind base with | true => ((n + 1 - sizeK kind.toNat : Nat) : Int) | false => -1
theorem plV_no {n : Nat} {kind base : Int} (h : kindOk kind base = false) : plV n kind base = -1 := by unfold plV; rw [h]
theorem plV_yes {n : Nat} {kind base : Int} (h : kindOk kind base = true) : plV n kind base = ((n + 1 - sizeK kind.toNat : Nat) : Int) := by unfold plV; rw [h]
theorem max_any (v : Int) (w : World) : Calls Try.prog 146 #[.int .i64 0, .int .i64 v] w fun e w' => e = .returned (.int .i64 (if 0 < v then v else 0)) ∧ w = w' := by
  by_cases h : 0 < v
  · have HV : Hid ((if 0 < v then v else 0) = v) := Lib.hid (if_pos h)
    have h2 : ¬ v < 0 := by omega
    have h3 : (0 : Int) ≤ v := by omega
    go_enter Try.func146, Try.ntmps146
    go_wp2
    go_ret
    first | exact ⟨ret_int HV.out.symm, rfl⟩ | exact ⟨rfl, rfl⟩
  · have HV : Hid ((if 0 < v then v else 0) = 0) := Lib.hid (if_neg h)
    have h3 : v ≤ 0 := by omega
    by_cases h0 : v = 0
    · subst h0
      go_enter Try.func146, Try.ntmps146
      go_wp2
      go_ret
      first | exact ⟨ret_int HV.out.symm, rfl⟩ | exact ⟨rfl, rfl⟩
    · have h4 : v < 0 := by omega
      go_enter Try.func146, Try.ntmps146
      go_wp2
      go_ret
      first | exact ⟨ret_int HV.out.symm, rfl⟩ | exact ⟨rfl, rfl⟩
set_option maxRecDepth 100000 in
set_option maxHeartbeats 4000000 in
theorem l03Places_any {b : Nat} (x : Wt) (A : Option Addr) (n c : Nat) (kind : Int) (w : World) (hb : Blk w b (wtCells x A n c) 26) (hn : n ≤ 20) :
    Calls Try.prog 106 #[.pointer (some ⟨b, 0, none⟩), .int .i64 kind] w fun e w' => e = .returned (.int .i64 (plV n kind x.base)) ∧ w = w' := by
  obtain ⟨base, modulus, target, W⟩ := x
  have q0 : w.cell? ⟨b, 0, none⟩ = some (.int .i64 base) := hb.cell 0
  have q3 : w.cell? ⟨b, 3, none⟩ = some (.slice A n c) := hb.cell 3
  dsimp only
  clear hb
  have CI := l00In_any kind 0 5 w
  rcases hi : inB kind 0 5 with _ | _
  · rw [hi] at CI
    have HP : Hid (plV n kind base = -1) := Lib.hid (plV_no (by unfold kindOk; rw [hi]; rfl))
    clear hi
    go_enter Try.func106, Try.ntmps106
    go_wp2_with (go_at_call 80; (with_reducible refine (CI).mono ?_); rintro e w' ⟨rfl, rfl⟩)
    go_ret
    exact ⟨ret_int HP.out.symm, rfl⟩
  · rw [hi] at CI
    have hk := inB_true.1 hi
    by_cases h5 : kind = 5
    · by_cases hbs : base < 10
      · have HP : Hid (plV n kind base = -1) := Lib.hid (plV_no (by unfold kindOk; rw [hi]; simp [h5]; omega))
        clear hi
        subst h5
        go_enter Try.func106, Try.ntmps106
        go_wp2_with (go_at_call 80; (with_reducible refine (CI).mono ?_); rintro e w' ⟨rfl, rfl⟩)
        go_ret
        exact ⟨ret_int HP.out.symm, rfl⟩
      · have CM := max_any ((n : Int) - 2 + 1) w
        have HP : Hid ((if 0 < (n : Int) - 2 + 1 then (n : Int) - 2 + 1 else 0) = plV n kind base) := Lib.hid (by
          rw [plV_yes (by unfold kindOk; rw [hi]; simp [h5]; omega), h5]
          show _ = ((n + 1 - 2 : Nat) : Int)
          split <;> omega)
        generalize (if 0 < (n : Int) - 2 + 1 then (n : Int) - 2 + 1 else 0) = v at CM HP
        clear hi
        subst h5
        go_enter Try.func106, Try.ntmps106
        go_wp2_with (first | (go_at_call 80; (with_reducible refine (CI).mono ?_); rintro e w' ⟨rfl, rfl⟩) | (go_at_call 146; (with_reducible refine (CM).mono ?_); rintro e w' ⟨rfl, rfl⟩))
        go_ret
        exact ⟨ret_int HP.out, rfl⟩
    · have hK : kindOk kind base = true := by unfold kindOk; rw [hi]; simp [h5]
      clear hi
      have n5 : (kind == 5) = false := by simp [h5]
      by_cases h0 : kind = 0
      · have CM := max_any ((n : Int)) w
        have HP : Hid ((if 0 < (n : Int) then (n : Int) else 0) = plV n kind base) := Lib.hid (by
          rw [plV_yes hK, h0]
          show _ = ((n + 1 - 1 : Nat) : Int)
          split <;> omega)
        generalize (if 0 < (n : Int) then (n : Int) else 0) = v at CM HP
        subst h0
        go_enter Try.func106, Try.ntmps106
        go_wp2_with (first | (go_at_call 80; (with_reducible refine (CI).mono ?_); rintro e w' ⟨rfl, rfl⟩) | (go_at_call 146; (with_reducible refine (CM).mono ?_); rintro e w' ⟨rfl, rfl⟩))
        go_ret
        exact ⟨ret_int HP.out, rfl⟩
      · have n0 : (kind == 0) = false := by simp [h0]
        by_cases h2 : kind = 2
        · have CM := max_any ((n : Int) - 3 + 1) w
          have HP : Hid ((if 0 < (n : Int) - 3 + 1 then (n : Int) - 3 + 1 else 0) = plV n kind base) := Lib.hid (by
            rw [plV_yes hK, h2]
            show _ = ((n + 1 - 3 : Nat) : Int)
            split <;> omega)
          generalize (if 0 < (n : Int) - 3 + 1 then (n : Int) - 3 + 1 else 0) = v at CM HP
          subst h2
          go_enter Try.func106, Try.ntmps106
          go_wp2_with (first | (go_at_call 80; (with_reducible refine (CI).mono ?_); rintro e w' ⟨rfl, rfl⟩) | (go_at_call 146; (with_reducible refine (CM).mono ?_); rintro e w' ⟨rfl, rfl⟩))
          go_ret
          exact ⟨ret_int HP.out, rfl⟩
        · have n2 : (kind == 2) = false := by simp [h2]
          by_cases h4 : kind = 4
          · have CM := max_any ((n : Int) - 3 + 1) w
            have HP : Hid ((if 0 < (n : Int) - 3 + 1 then (n : Int) - 3 + 1 else 0) = plV n kind base) := Lib.hid (by
              rw [plV_yes hK, h4]
              show _ = ((n + 1 - 3 : Nat) : Int)
              split <;> omega)
            generalize (if 0 < (n : Int) - 3 + 1 then (n : Int) - 3 + 1 else 0) = v at CM HP
            subst h4
            go_enter Try.func106, Try.ntmps106
            go_wp2_with (first | (go_at_call 80; (with_reducible refine (CI).mono ?_); rintro e w' ⟨rfl, rfl⟩) | (go_at_call 146; (with_reducible refine (CM).mono ?_); rintro e w' ⟨rfl, rfl⟩))
            go_ret
            exact ⟨ret_int HP.out, rfl⟩
          · have n4 : (kind == 4) = false := by simp [h4]
            have CM := max_any ((n : Int) - 2 + 1) w
            have HP : Hid ((if 0 < (n : Int) - 2 + 1 then (n : Int) - 2 + 1 else 0) = plV n kind base) := Lib.hid (by
              rw [plV_yes hK]
              have : sizeK kind.toNat = 2 := by unfold sizeK; rw [if_neg (by omega), if_neg (by omega)]
              rw [this]
              split <;> omega)
            generalize (if 0 < (n : Int) - 2 + 1 then (n : Int) - 2 + 1 else 0) = v at CM HP
            clear hK
            go_enter Try.func106, Try.ntmps106
            go_wp2_with (first | (go_at_call 80; (with_reducible refine (CI).mono ?_); rintro e w' ⟨rfl, rfl⟩) | (go_at_call 146; (with_reducible refine (CM).mono ?_); rintro e w' ⟨rfl, rfl⟩))
            go_ret
            exact ⟨ret_int HP.out, rfl⟩
theorem place_ok {n : Nat} {kind base place : Int} : (kindOk kind base && inB place 0 ((n : Int) - (sizeK kind.toNat : Nat))) = inB place 0 (plV n kind base - 1) := by
  rcases hk : kindOk kind base with _ | _
  · rw [plV_no hk]
    rcases h : inB place 0 (-1 - 1) with _ | _
    · rfl
    · have := inB_true.1 h; omega
  · rw [plV_yes hk, Bool.true_and]
    rcases h : inB place 0 ((n : Int) - (sizeK kind.toNat : Nat)) with _ | _
    · rcases h2 : inB place 0 (((n + 1 - sizeK kind.toNat : Nat) : Int) - 1) with _ | _
      · rfl
      · have h3 := inB_true.1 h2
        have h4 : inB place 0 ((n : Int) - (sizeK kind.toNat : Nat)) = true := inB_true.2 ⟨by omega, by omega⟩
        rw [h] at h4; cases h4
    · have h3 := inB_true.1 h
      exact (inB_true.2 ⟨by omega, by omega⟩).symm

set_option maxRecDepth 100000 in
set_option maxHeartbeats 4000000 in
theorem specUnseen_any {B : Nat} (x : Wt) (A : Option Addr) (n c : Nat) (kind place : Int) (w : World) (hr : RowB .i64 B w A n x.W) (hB : B ≤ w.heap.size) :
    Calls Try.prog 49 #[wtV x A n c, .int .i64 kind, .int .i64 place] w fun e w' => e = two (upV x kind place) (upOk x kind place) ∧ Below w.heap.size w w' := by
  have hl := hr.len
  obtain ⟨w1, hw1⟩ : ∃ w1, w1 = w.alloc (.cells (wtCells x A n c) 26) := ⟨_, rfl⟩
  have bel : Below w.heap.size w w1 := by rw [hw1]; exact (Below.refl _ w).alloc (Nat.le_refl _) _
  have b1 : Blk w1 w.heap.size (wtCells x A n c) 26 := by rw [hw1]; exact Blk.new _ _ _
  have r1 : RowB .i64 B w1 A n x.W := hr.below (bel.mono hB)
  have CC := l03Is_any x A n c w1 b1 r1
  have BEL := Lib.hid bel
  have B1 := Lib.hid b1
  have R1 := Lib.hid r1
  clear bel b1 hr r1
  rcases hq : wOk x with _ | _
  · rw [hq] at CC
    have HO : Hid (upOk x kind place = false) := Lib.hid (by unfold upOk; rw [hq]; rfl)
    clear hq hl
    go_enter Try.func49, Try.ntmps49
    go_wp2_with fail
    rw [← hw1]
    have HW1 := Lib.hid hw1
    clear hw1
    (go_at_call 105; (with_reducible refine (CC).mono ?_); rintro e w2 ⟨rfl, m, rfl⟩)
    go_wp2_with fail
    go_ret2
    exact ⟨two_eq (upV_no HO.out).symm HO.out.symm, below_drewN BEL.out _⟩
  · rw [hq] at CC
    obtain ⟨b', m', n', f⟩ := Wt.fine hq
    obtain rfl : n = n' := by have := f.len; omega
    have hn20 := f.n20
    have fb := f.base
    have fm := f.modulus
    have HF := Lib.hid f
    have CP : ∀ q, Calls Try.prog 106 #[.pointer (some ⟨w.heap.size, 0, none⟩), .int .i64 kind] (w1.drewN q) fun e w' => e = .returned (.int .i64 (plV n kind x.base)) ∧ (w1.drewN q) = w' := fun q => l03Places_any x A n c kind (w1.drewN q) (B1.out.drewN q) hn20
    have HP : Hid (upOk x kind place = inB place 0 (plV n kind x.base - 1)) := Lib.hid (by unfold upOk; rw [hq, hl, place_ok]; rfl)
    have CW := fun Y => l00In_any place 0 (plV n kind x.base - 1) Y
    have hpl : -1 ≤ plV n kind x.base ∧ plV n kind x.base ≤ 21 := by
      unfold plV
      split <;> omega
    rcases hp : inB place 0 (plV n kind x.base - 1) with _ | _
    · rw [hp] at CW HP
      generalize plV n kind x.base = v at *
      clear hq hl f fb fm hp
      go_enter Try.func49, Try.ntmps49
      go_wp2_with fail
      rw [← hw1]
      have HW1 := Lib.hid hw1
      clear hw1
      (go_at_call 105; (with_reducible refine (CC).mono ?_); rintro e w2 ⟨rfl, m, rfl⟩)
      go_wp2_with fail
      (go_at_call 106; (with_reducible refine (CP _).mono ?_); rintro e w' ⟨rfl, rfl⟩)
      go_wp2_with fail
      (go_at_call 80; (with_reducible refine (CW _).mono ?_); rintro e w' ⟨rfl, rfl⟩)
      go_wp2_with fail
      go_ret2
      exact ⟨two_eq (upV_no HP.out).symm HP.out.symm, below_drewN BEL.out _⟩
    · rw [hp] at CW HP
      have hup := HP.out
      have hpk : kindOk kind x.base = true ∧ inB place 0 ((n : Int) - (sizeK kind.toNat : Nat)) = true := by
        have : (kindOk kind x.base && inB place 0 ((n : Int) - (sizeK kind.toNat : Nat))) = true := by rw [place_ok, hp]
        exact Bool.and_eq_true_iff.1 this
      obtain ⟨hk0, hk5, hk10⟩ := kindOk_parts hpk.1
      have hpp := inB_true.1 hpk.2
      obtain ⟨k, rfl⟩ : ∃ k : Nat, kind = k := ⟨kind.toNat, by omega⟩
      obtain ⟨p, rfl⟩ : ∃ p : Nat, place = p := ⟨place.toNat, by omega⟩
      have hps : p + sizeK k ≤ n := by have := hpp.2; simp at this; omega
      have HV : Hid (upV x k p = ((unM x.W m' b' p k : Nat) : Int)) := Lib.hid (by
        rw [upV_yes hup, fb, fm]
        simp only [Int.toNat_natCast]
        rw [unC_unM (by omega) (by have := f.m2; omega) (by omega) (fun e => by have := hk10 (by omega); omega)])
      have CU : ∀ q, Calls Try.prog 107 #[.pointer (some ⟨w.heap.size, 0, none⟩), .int .i64 k, .int .i64 p] (w1.drewN q) fun e w' => e = .returned (.int .i64 (unM x.W m' b' p k : Nat)) ∧ (w1.drewN q) = w' := fun q => l03Unseen_any x A n c (w1.drewN q) (B1.out.drewN q) (R1.out.drewN q) f k (by omega) p hps
      generalize plV n (k : Int) x.base = v at *
      generalize unM x.W m' b' p k = u at *
      clear hq hl f fb fm hp hpk hup
      go_enter Try.func49, Try.ntmps49
      go_wp2_with fail
      rw [← hw1]
      have HW1 := Lib.hid hw1
      clear hw1
      (go_at_call 105; (with_reducible refine (CC).mono ?_); rintro e w2 ⟨rfl, m, rfl⟩)
      go_wp2_with fail
      (go_at_call 106; (with_reducible refine (CP _).mono ?_); rintro e w' ⟨rfl, rfl⟩)
      go_wp2_with fail
      (go_at_call 80; (with_reducible refine (CW _).mono ?_); rintro e w' ⟨rfl, rfl⟩)
      go_wp2_with fail
      (go_at_call 107; (with_reducible refine (CU _).mono ?_); rintro e w' ⟨rfl, rfl⟩)
      go_wp2_with fail
      go_ret2
      exact ⟨two_eq HV.out.symm HP.out.symm, below_drewN BEL.out _⟩
end Go.Proofs.Ytiokcflomchdcaa
