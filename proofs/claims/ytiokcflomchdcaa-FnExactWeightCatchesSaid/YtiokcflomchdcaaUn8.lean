/-
  WeightCatches, of the program.
-/
import Derived.Test.YtiokcflomchdcaaUn6
namespace Go.Proofs.Ytiokcflomchdcaa
open Go Go.RowKit

theorem all_range {f : Nat → Bool} {N : Nat} (h : ∀ i, i < N → f i = true) : (List.range N).all f = true := by
  rw [List.all_eq_true]
  intro i hi
  exact h i (List.mem_range.1 hi)
theorem all_range_no {f : Nat → Bool} {N i : Nat} (hi : i < N) (h : f i = false) : (List.range N).all f = false := by
  rcases ha : (List.range N).all f with _ | _
  · rfl
  · rw [List.all_eq_true] at ha
    have := ha i (List.mem_range.2 hi)
    rw [h] at this
    cases this
set_option maxRecDepth 100000 in
set_option maxHeartbeats 4000000 in
theorem implCatches_any {B : Nat} (x : Wt) (A : Option Addr) (n c : Nat) (kind : Int) (w : World) (hr : RowB .i64 B w A n x.W) (hB : B ≤ w.heap.size) :
    Calls Try.prog 18 #[wtV x A n c, .int .i64 kind] w fun e w' => e = .returned (.bool (wcV x kind)) ∧ Below w.heap.size w w' := by
  have hl := hr.len
  have hn := hr.le
  obtain ⟨base, modulus, target, W⟩ := x
  dsimp only at hl hr
  obtain ⟨w1, hw1⟩ : ∃ w1, w1 = w.alloc (.cells #[.int .i64 base, .int .i64 modulus, .int .i64 target, .slice A n c] 26) := ⟨_, rfl⟩
  have bel : Below w.heap.size w w1 := by rw [hw1]; exact (Below.refl _ w).alloc (Nat.le_refl _) _
  have b1 : Blk w1 w.heap.size #[.int .i64 base, .int .i64 modulus, .int .i64 target, .slice A n c] 26 := by rw [hw1]; exact Blk.new _ _ _
  have HR := Lib.hid hr
  have BW1 := Lib.hid bel
  have B1 := Lib.hid b1
  have LT1 := Lib.hid b1.lt
  have HCE : Hid (∀ w' : World, Below w1.heap.size w1 w' → (w'.cell? ⟨w.heap.size, 0, none⟩ = some (.int .i64 base) ∧ w'.cell? ⟨w.heap.size, 1, none⟩ = some (.int .i64 modulus) ∧ w'.cell? ⟨w.heap.size, 2, none⟩ = some (.int .i64 target) ∧ w'.cell? ⟨w.heap.size, 3, none⟩ = some (.slice A n c))) := Lib.hid (fun w' h => by
    have hk := B1.out.below h LT1.out
    exact ⟨hk.cell 0, hk.cell 1, hk.cell 2, hk.cell 3⟩)
  obtain ⟨c0, c1, c2, c3⟩ := HCE.out w1 (Below.refl _ _)
  have CV : Calls Try.prog 66 #[.agg #[.int .i64 base, .int .i64 modulus, .int .i64 target, .slice A n c]] w1 fun e w' => e = .returned (.bool (wOk ⟨base, modulus, target, W⟩)) ∧ Below w1.heap.size w1 w' := validW_any ⟨base, modulus, target, W⟩ A n c w1 (hr.below (bel.mono hB)) (Nat.le_trans hB bel.size)
  have CK := fun Y => isKind_any kind base Y
  clear hr bel b1
  rcases hq : wOk ⟨base, modulus, target, W⟩ with _ | _
  · rw [hq] at CV
    have HO : Hid (wcV ⟨base, modulus, target, W⟩ kind = false) := Lib.hid (by unfold wcV; rw [hq]; rfl)
    clear hq CK hl
    go_enter Try.func18, Try.ntmps18
    go_wp2_with fail
    rw [← hw1]
    have HW1 := Lib.hid hw1
    clear hw1
    (go_at_call 66; (with_reducible refine (CV).mono ?_); rintro e w2 ⟨rfl, hb2⟩)
    have HB2 : Hid (Below w.heap.size w w2) := Lib.hid (BW1.out.trans (hb2.mono BW1.out.size))
    clear hb2
    go_wp2_with fail
    go_ret
    exact ⟨ret_bool HO.out.symm, HB2.out⟩
  · rw [hq] at CV
    obtain ⟨b', m', n', f⟩ := Wt.fine hq
    have fb : base = b' := f.base
    have fm : modulus = m' := f.modulus
    obtain rfl : n = n' := by have := f.len; dsimp only at this; omega
    have hn20 := f.n20
    have hn1 := f.n1
    have HF := Lib.hid f
    rcases hk : kindOk kind base with _ | _
    · rw [hk] at CK
      have HO : Hid (wcV ⟨base, modulus, target, W⟩ kind = false) := Lib.hid (by unfold wcV; rw [hq]; dsimp only; rw [hk]; rfl)
      clear hq hl hk f fb fm
      go_enter Try.func18, Try.ntmps18
      go_wp2_with fail
      rw [← hw1]
      have HW1 := Lib.hid hw1
      clear hw1
      (go_at_call 66; (with_reducible refine (CV).mono ?_); rintro e w2 ⟨rfl, hb2⟩)
      obtain ⟨e0, e1, e2, e3⟩ := HCE.out w2 hb2
      have HB2 : Hid (Below w.heap.size w w2) := Lib.hid (BW1.out.trans (hb2.mono BW1.out.size))
      clear hb2
      go_wp2_with fail
      (go_at_call 67; (with_reducible refine (CK _).mono ?_); rintro e w' ⟨rfl, rfl⟩)
      go_wp2_with fail
      go_ret
      exact ⟨ret_bool HO.out.symm, HB2.out⟩
    · rw [hk] at CK
      obtain ⟨hk0, hk5, _⟩ := kindOk_parts hk
      obtain ⟨k, rfl⟩ : ∃ k : Nat, kind = k := ⟨kind.toNat, by omega⟩
      have hk6 : k < 6 := by omega
      have CZ := fun Y => sizeOf_any k Y
      obtain ⟨hs1, hs3⟩ := sizeK_le k
      have CL := fun Y => wlen_any ⟨base, modulus, target, W⟩ A n c Y (by omega)
      have CL : ∀ Y, Calls Try.prog 68 #[.agg #[.int .i64 base, .int .i64 modulus, .int .i64 target, .slice A n c]] Y fun e w' => e = .returned (.int .i64 n) ∧ Below Y.heap.size Y w' := CL
      have HV : Hid (wcV ⟨base, modulus, target, W⟩ k = (List.range (n + 1 - sizeK k)).all fun p => decide (unC W m' b' p k = 0)) := Lib.hid (by
        unfold wcV
        rw [hq]
        dsimp only
        rw [hk, hl, fb, fm]
        simp)
      have CU : ∀ Y p, p + sizeK k ≤ n → Below w1.heap.size w1 Y → Calls Try.prog 70 #[.agg #[.int .i64 base, .int .i64 modulus, .int .i64 target, .slice A n c], .int .i64 k, .int .i64 p] Y fun e w' => e = .returned (.int .i64 (unC W m' b' p k : Nat)) ∧ Below Y.heap.size Y w' := fun Y p hps hY =>
        unseenAt_any ⟨base, modulus, target, W⟩ A n c Y (HR.out.below ((BW1.out.trans (hY.mono BW1.out.size)).mono hB)) (Nat.le_trans (Nat.le_trans hB BW1.out.size) hY.size) HF.out k p hk6 hps
      have HU := Lib.hid CU
      clear hq hl hk f fb fm CU
      generalize sizeK k = s at *
      generalize hu : (fun p => unC W m' b' p k) = u at *
      have HU2 : Hid (∀ Y p, p + s ≤ n → Below w1.heap.size w1 Y → Calls Try.prog 70 #[.agg #[.int .i64 base, .int .i64 modulus, .int .i64 target, .slice A n c], .int .i64 k, .int .i64 p] Y fun e w' => e = .returned (.int .i64 (u p : Nat)) ∧ Below Y.heap.size Y w') := Lib.hid (by rw [← hu]; exact HU.out)
      have HV2 : Hid (wcV ⟨base, modulus, target, W⟩ k = (List.range (n + 1 - s)).all fun p => decide (u p = 0)) := Lib.hid (by rw [← hu]; exact HV.out)
      clear hu HU HV
      go_enter Try.func18, Try.ntmps18
      go_wp2_with fail
      rw [← hw1]
      have HW1 := Lib.hid hw1
      clear hw1
      (go_at_call 66; (with_reducible refine (CV).mono ?_); rintro e w2 ⟨rfl, hb2⟩)
      obtain ⟨e0, e1, e2, e3⟩ := HCE.out w2 hb2
      have HB2 := Lib.hid hb2
      clear hb2
      go_wp2_with fail
      (go_at_call 67; (with_reducible refine (CK _).mono ?_); rintro e w' ⟨rfl, rfl⟩)
      go_wp2_with fail
      (go_at_call 68; (with_reducible refine (CL _).mono ?_); rintro e w3 ⟨rfl, hb3⟩)
      have HB3 : Hid (Below w1.heap.size w1 w3) := Lib.hid (HB2.out.trans (hb3.mono HB2.out.size))
      clear hb3
      go_wp2_with fail
      (go_at_call 69; (with_reducible refine (CZ _).mono ?_); rintro e w' ⟨rfl, rfl⟩)
      go_wp2_with fail
      go_loopw [4, 5, 22] (fun r _ i wr => ∃ q : Nat, (q : Int) ≤ 21 ∧ i = .int .i64 q ∧ r = .bool false ∧ Hid (∀ p, p < q → u p = 0) ∧ Hid (q ≤ n + 1 - s) ∧ Below w1.heap.size w1 wr) (fun _ _ i _ => 25 - (intOf i).toNat)
      case atStart => exact ⟨0, by omega, rfl, rfl, Lib.hid (fun p hp => by omega), Lib.hid (by omega), HB3.out⟩
      case round =>
        obtain ⟨q, hq21, rfl, rfl, HZ, HQ, hb⟩ := hrel
        obtain ⟨wz, rfl⟩ : ∃ wz, wz = wr := ⟨_, rfl⟩
        obtain ⟨z0, z1, z2, z3⟩ := HCE.out wz hb
        have HB := Lib.hid hb
        clear hb
        by_cases hlt : (q : Int) < (n : Int) - (s : Int) + 1
        · have CU := HU2.out wz q (by omega) HB.out
          obtain ⟨v, hv⟩ : ∃ v, v = u q := ⟨_, rfl⟩
          rw [← hv] at CU
          have HVQ := Lib.hid hv
          clear hv
          by_cases hv0 : 0 < v
          · have HO : Hid (wcV ⟨base, modulus, target, W⟩ k = false) := Lib.hid (by
              rw [HV2.out]
              exact all_range_no (i := q) (by omega) (by have := HVQ.out; simp; omega))
            have hvi : (0 : Int) < (v : Int) := by omega
            go_wp2_with fail
            (go_at_call 70; (with_reducible refine (CU).mono ?_); rintro e w4 ⟨rfl, hb4⟩)
            have HB4 : Hid (Below w.heap.size w w4) := Lib.hid ((BW1.out.trans (HB.out.mono BW1.out.size)).trans (hb4.mono (Nat.le_trans BW1.out.size HB.out.size)))
            clear hb4
            go_wp2_with fail
            go_ret
            exact ⟨ret_bool HO.out.symm, HB4.out⟩
          · obtain rfl : v = 0 := by omega
            go_wp2_with fail
            (go_at_call 70; (with_reducible refine (CU).mono ?_); rintro e w4 ⟨rfl, hb4⟩)
            have HB4 : Hid (Below w1.heap.size w1 w4) := Lib.hid (HB.out.trans (hb4.mono HB.out.size))
            clear hb4
            go_wp2_with fail
            go_roundw
            case rel => exact ⟨q + 1, by omega, by go_num, rfl, Lib.hid (fun p hp => by
              by_cases e : p = q
              · rw [e]; exact HVQ.out.symm
              · exact HZ.out p (by omega)), Lib.hid (by omega), HB4.out⟩
            case measure => simp [intOf]; omega
        · have HO : Hid (wcV ⟨base, modulus, target, W⟩ k = true) := Lib.hid (by
            rw [HV2.out]
            exact all_range (fun i hi => by rw [HZ.out i (by omega)]; rfl))
          have HB4 : Hid (Below w.heap.size w wz) := Lib.hid (BW1.out.trans (HB.out.mono BW1.out.size))
          go_wp2_with fail
          go_ret
          exact ⟨ret_bool HO.out.symm, HB4.out⟩
end Go.Proofs.Ytiokcflomchdcaa
