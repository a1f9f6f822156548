/-
  Powers of a base, and how many numbers are spoken.
-/
import Derived.Test.YtfmlmgebomapjaaDoorSkM
import Derived.Test.YtfmlmgebomapjaaDoorSpI
import Derived.RegionTactic
import Derived.IntWalk
namespace Go.Proofs.YtfmlmgebomapjaaDoor
open Go Go.RowKit

def pwV (b k : Nat) : Int := if pwOk b k = true then ((b ^ k : Nat) : Int) else 0
theorem pw_no {b k : Nat} (h : pwOk b k = false) : two 0 false = two (pwV b k) (pwOk b k) := by unfold pwV; rw [h]; rfl
theorem pw_bad {b j k : Nat} (hb : 1 ≤ b) (h : j ≤ k) (hj : 1000000000000000 < b ^ j) : pwOk b k = false := by
  have := pw_mono hb h
  unfold pwOk
  rw [decide_eq_false_iff_not]; omega
set_option maxHeartbeats 1000000 in
theorem powerUpTo_any (b k : Nat) (w : World) (hb1 : 1 ≤ b) (hb2 : b ≤ 120) (hk8 : k ≤ 8) :
    Calls Tryd.prog 92 #[.int .i64 (b : Int), .int .i64 (k : Int), .int .i64 1000000000000000] w fun e w' => e = two (pwV b k) (pwOk b k) ∧ w = w' := by
  go_enter Tryd.func92, Tryd.ntmps92
  go_wp2
  go_loop [8, 10] (fun v i => ∃ j P : Nat, j ≤ k ∧ i = .int .i64 j ∧ v = .int .i64 (P : Int) ∧ Hid (P = b ^ j) ∧ P ≤ 1000000000000000) (fun _ i => k - (intOf i).toNat)
  case atStart => exact ⟨0, 1, by omega, rfl, rfl, Lib.hid rfl, by omega⟩
  case round =>
    obtain ⟨j, P, hj, rfl, rfl, hP, hle⟩ := hrel
    by_cases hlt : j < k
    · obtain ⟨Q, hQ⟩ : ∃ Q, Q = P * b := ⟨_, rfl⟩
      have hQb : Q ≤ 120000000000000000 := by rw [hQ]; exact Nat.le_trans (Nat.mul_le_mul hle hb2) (by decide)
      have HQ : Hid (Q = b ^ (j + 1)) := Lib.hid (by rw [hQ, hP.out, Nat.pow_succ])
      have hmul : (P : Int) * (b : Int) = (Q : Int) := by rw [hQ]; simp
      have hw : wrap64 (Q : Int) = (Q : Int) := IntWalk.wrap64_in _ (by omega)
      by_cases hbig : 1000000000000000 < Q
      · have hbi : (1000000000000000 : Int) < (Q : Int) := by omega
        have H : Hid (pwOk b k = false) := Lib.hid (pw_bad hb1 (show j + 1 ≤ k by omega) (by rw [← HQ.out]; exact hbig))
        clear hQ
        go_wp2
        go_ret2
        exact ⟨pw_no H.out, rfl⟩
      · have hbi : ¬ (1000000000000000 : Int) < (Q : Int) := by omega
        clear hQ
        go_wp2
        go_round
        case rel => exact ⟨j + 1, Q, by omega, by go_num, rfl, HQ, by omega⟩
        case measure => simp [intOf]; omega
    · obtain rfl : j = k := by omega
      have H : Hid (pwOk b j = true) := Lib.hid (by unfold pwOk; rw [← hP.out, decide_eq_true_eq]; exact hle)
      have HV : Hid ((P : Int) = pwV b j) := Lib.hid (by unfold pwV; rw [if_pos H.out, ← hP.out])
      go_wp2
      go_ret2
      exact ⟨two_eq HV.out H.out.symm, rfl⟩
set_option maxHeartbeats 1000000 in
theorem l07Power_any (b k : Nat) (w : World) (hb1 : 1 ≤ b) (hb2 : b ≤ 120) (hk8 : k ≤ 8) :
    Calls Tryd.prog 63 #[.int .i64 (b : Int), .int .i64 (k : Int)] w fun e w' => e = two (pwV b k) (pwOk b k) ∧ w = w' := by
  obtain ⟨D, hD⟩ : ∃ D, D = 1000000000000000 / b := ⟨_, rfl⟩
  have hdiv : (1000000000000000 : Int) / (b : Int) = (D : Int) := by rw [hD]; simp
  have hDle : D ≤ 1000000000000000 := by rw [hD]; exact Nat.div_le_self _ _
  have HD : Hid (∀ P : Nat, D < P ↔ 1000000000000000 < P * b) := Lib.hid (fun P => by rw [hD]; exact Nat.div_lt_iff_lt_mul (by omega))
  have hb0 : ¬ (b : Int) = 0 := by omega
  have hb00 : ((b : Int) == 0) = false := by rw [beq_eq_false_iff_ne]; omega
  clear hD
  go_enter Tryd.func63, Tryd.ntmps63
  go_wp2
  go_loop [1, 6] (fun i v => ∃ (j P : Nat) (z : Int), j ≤ k ∧ i = .int .i64 z ∧ z = (k : Int) - (j : Int) ∧ v = .int .i64 (P : Int) ∧ Hid (P = b ^ j) ∧ P ≤ 1000000000000000) (fun i _ => (intOf i).toNat)
  case atStart => exact ⟨0, 1, (k : Int), by omega, rfl, by omega, rfl, Lib.hid rfl, by omega⟩
  case round =>
    obtain ⟨j, P, z, hj, rfl, hz, rfl, hP, hle⟩ := hrel
    by_cases hlt : j < k
    · have hz0 : 0 < z := by omega
      obtain ⟨Q, hQ⟩ : ∃ Q, Q = P * b := ⟨_, rfl⟩
      have hQb : Q ≤ 120000000000000000 := by rw [hQ]; exact Nat.le_trans (Nat.mul_le_mul hle hb2) (by decide)
      have HQ : Hid (Q = b ^ (j + 1)) := Lib.hid (by rw [hQ, hP.out, Nat.pow_succ])
      have hmul : (P : Int) * (b : Int) = (Q : Int) := by rw [hQ]; simp
      have hw : wrap64 (Q : Int) = (Q : Int) := IntWalk.wrap64_in _ (by omega)
      have hiff := HD.out P
      rw [← hQ] at hiff
      have HZ : Hid (z - 1 = (k : Int) - ((j + 1 : Nat) : Int)) := Lib.hid (by omega)
      have hz8 : z ≤ 8 := by omega
      by_cases hbig : D < P
      · have hbi : (D : Int) < (P : Int) := by omega
        have H : Hid (pwOk b k = false) := Lib.hid (pw_bad hb1 (show j + 1 ≤ k by omega) (by rw [← HQ.out]; exact hiff.1 hbig))
        clear hQ hiff hz
        go_wp2
        go_ret2
        exact ⟨pw_no H.out, rfl⟩
      · have hbi : ¬ (D : Int) < (P : Int) := by omega
        have hQ2 : Q ≤ 1000000000000000 := by
          refine Nat.le_of_not_lt (fun h => hbig (hiff.2 h))
        clear hQ hiff hz
        go_wp2
        go_round
        case rel => exact ⟨j + 1, Q, z - 1, by omega, rfl, HZ.out, rfl, HQ, hQ2⟩
        case measure => simp [intOf]; omega
    · obtain rfl : j = k := by omega
      have hz0 : ¬ 0 < z := by omega
      have H : Hid (pwOk b j = true) := Lib.hid (by unfold pwOk; rw [← hP.out, decide_eq_true_eq]; exact hle)
      have HV : Hid ((P : Int) = pwV b j) := Lib.hid (by unfold pwV; rw [if_pos H.out, ← hP.out])
      clear hz
      go_wp2
      go_ret2
      exact ⟨two_eq HV.out H.out.symm, rfl⟩

set_option maxHeartbeats 1000000 in
theorem base_any (F S : ByteArray) (w : World) (hF : F.size ≤ 20) (hS : S.size ≤ 6) :
    Calls Tryd.prog 67 #[spV F S] w fun e w' => e = .returned (.int .i64 ((F.size * S.size : Nat) : Int)) ∧ Below w.heap.size w w' := by
  obtain ⟨Q, hQ⟩ : ∃ Q, Q = F.size * S.size := ⟨_, rfl⟩
  have hQb : Q ≤ 120 := by rw [hQ]; exact Nat.le_trans (Nat.mul_le_mul hF hS) (by decide)
  have hmul : (F.size : Int) * (S.size : Int) = (Q : Int) := by rw [hQ]; simp
  have hw : wrap64 (Q : Int) = (Q : Int) := IntWalk.wrap64_in _ (by omega)
  rw [← hQ]
  clear hQ
  go_enter Tryd.func67, Tryd.ntmps67
  go_wp2
  go_ret
  exact ⟨rfl, (Below.refl _ _).alloc (Nat.le_refl _) _⟩

def nmOk (F S : ByteArray) (k : Int) : Bool := spB F S && (inB k 1 8 && pwOk (F.size * S.size) k.toNat)
def nmV (F S : ByteArray) (k : Int) : Int := if nmOk F S k = true then (((F.size * S.size) ^ k.toNat : Nat) : Int) else 0
theorem nm_no {F S : ByteArray} {k : Int} (h : nmOk F S k = false) : two 0 false = two (nmV F S k) (nmOk F S k) := by unfold nmV; rw [h]; rfl
set_option maxHeartbeats 2000000 in
theorem numbers_any (F S : ByteArray) (k : Int) (w : World) (hF : F.size ≤ 1048576) (hS : S.size ≤ 1048576) :
    Calls Tryd.prog 65 #[spV F S, .int .i64 k] w fun e w' => e = two (nmV F S k) (nmOk F S k) ∧ Below w.heap.size w w' := by
  have CV := fun W => implSpeech_any F S W hF hS
  have CI := fun W => within_any k 1 8 W
  rcases h1 : spB F S with _ | _
  · have H : Hid (nmOk F S k = false) := Lib.hid (by unfold nmOk; rw [h1]; rfl)
    rw [h1] at CV
    clear h1
    go_enter Tryd.func65, Tryd.ntmps65
    go_wp2_with (go_at_call 90; (with_reducible refine (CV _).mono ?_); rintro e w1 ⟨rfl, b1⟩)
    go_ret2
    exact ⟨nm_no H.out, ((Below.refl _ w).alloc (Nat.le_refl _) _).trans (b1.mono (by simp))⟩
  · obtain ⟨⟨hF1, hF20⟩, hS1, hS6⟩ := sp_parts h1
    obtain ⟨hb1, hb120⟩ := base_bd h1
    rw [h1] at CV
    rcases h2 : inB k 1 8 with _ | _
    · have H : Hid (nmOk F S k = false) := Lib.hid (by unfold nmOk; rw [h2]; simp)
      rw [h2] at CI
      clear h1 h2
      go_enter Tryd.func65, Tryd.ntmps65
      go_wp2_with (first | (go_at_call 90; (with_reducible refine (CV _).mono ?_); rintro e w1 ⟨rfl, b1⟩) | (go_at_call 91; (with_reducible refine (CI _).mono ?_); rintro e w' ⟨rfl, rfl⟩))
      go_ret2
      exact ⟨nm_no H.out, ((Below.refl _ w).alloc (Nat.le_refl _) _).trans (b1.mono (by simp))⟩
    · have hk := inB_true.1 h2
      have H : Hid (nmOk F S k = pwOk (F.size * S.size) k.toNat) := Lib.hid (by unfold nmOk; rw [h1, h2]; rfl)
      have HV : Hid (nmV F S k = pwV (F.size * S.size) k.toNat) := Lib.hid (by unfold nmV pwV; rw [H.out])
      rw [h2] at CI
      obtain ⟨kn, rfl⟩ : ∃ kn : Nat, k = (kn : Int) := ⟨k.toNat, by omega⟩
      have CP := fun W => powerUpTo_any (F.size * S.size) kn W hb1 hb120 (by omega)
      have CB := fun W => base_any F S W hF20 hS6
      simp only [Int.toNat_natCast] at H HV
      obtain ⟨Q, hQ⟩ : ∃ Q, Q = F.size * S.size := ⟨_, rfl⟩
      rw [← hQ] at CP CB H HV
      clear h1 h2 hQ hb1 hb120
      go_enter Tryd.func65, Tryd.ntmps65
      go_wp2_with fail
      (go_at_call 90; (with_reducible refine (CV _).mono ?_); rintro e w1 ⟨rfl, b1⟩)
      have B1 : Hid (Below w.heap.size w w1) := Lib.hid (((Below.refl _ w).alloc (Nat.le_refl _) _).trans (b1.mono (by simp)))
      have q0 : w1.cell? ⟨w.heap.size, 0, none⟩ = some (.string F) := (b1.cell (p := ⟨w.heap.size, 0, none⟩) (by simp)).trans (by simp)
      have q1 : w1.cell? ⟨w.heap.size, 1, none⟩ = some (.string S) := (b1.cell (p := ⟨w.heap.size, 1, none⟩) (by simp)).trans (by simp)
      clear b1
      go_wp2_with (first | (go_at_call 91; (with_reducible refine (CI _).mono ?_); rintro e w' ⟨rfl, rfl⟩) | (go_at_call 67; (with_reducible refine (CB _).mono ?_); rintro e w2 ⟨rfl, b2⟩) | (go_at_call 92; (with_reducible refine (CP _).mono ?_); rintro e w' ⟨rfl, rfl⟩))
      go_ret2
      exact ⟨two_eq HV.out.symm H.out.symm, B1.out.trans (b2.mono B1.out.size)⟩
end Go.Proofs.YtfmlmgebomapjaaDoor
