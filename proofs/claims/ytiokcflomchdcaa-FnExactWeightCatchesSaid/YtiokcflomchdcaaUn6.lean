/-
  UnseenPairs and WeightCatches, of the program.
-/
import Derived.Test.YtiokcflomchdcaaUn5
namespace Go.Proofs.Ytiokcflomchdcaa
open Go Go.RowKit

def upOk (x : Wt) (kind place : Int) : Bool := wOk x && (kindOk kind x.base && inB place 0 ((x.W.length : Int) - (sizeK kind.toNat : Nat)))
def upV (x : Wt) (kind place : Int) : Int := match upOk x kind place with | true => ((unC x.W x.modulus.toNat x.base.toNat place.toNat kind.toNat : Nat) : Int) | false => 0
def wcV (x : Wt) (kind : Int) : Bool := wOk x && (kindOk kind x.base && (List.range (x.W.length + 1 - sizeK kind.toNat)).all fun p => decide (unC x.W x.modulus.toNat x.base.toNat p kind.toNat = 0))
theorem upV_no {x : Wt} {kind place : Int} (h : upOk x kind place = false) : upV x kind place = 0 := by unfold upV; rw [h]
theorem upV_yes {x : Wt} {kind place : Int} (h : upOk x kind place = true) : upV x kind place = ((unC x.W x.modulus.toNat x.base.toNat place.toNat kind.toNat : Nat) : Int) := by unfold upV; rw [h]
theorem kindOk_parts {kind base : Int} (h : kindOk kind base = true) : 0 ≤ kind ∧ kind ≤ 5 ∧ (kind = 5 → 10 ≤ base) := by
  unfold kindOk at h
  rw [Bool.and_eq_true] at h
  have h1 := inB_true.1 h.1
  refine ⟨h1.1, h1.2, fun e => ?_⟩
  have h2 := h.2
  simp [e] at h2
  exact h2

set_option maxRecDepth 100000 in
set_option maxHeartbeats 4000000 in
theorem implUnseen_any {B : Nat} (x : Wt) (A : Option Addr) (n c : Nat) (kind place : Int) (w : World) (hr : RowB .i64 B w A n x.W) (hB : B ≤ w.heap.size) :
    Calls Try.prog 20 #[wtV x A n c, .int .i64 kind, .int .i64 place] w fun e w' => e = two (upV x kind place) (upOk x kind place) ∧ Below w.heap.size w w' := by
  have hl := hr.len
  have hn := hr.le
  obtain ⟨base, modulus, target, W⟩ := x
  dsimp only at hl hr
  obtain ⟨w1, hw1⟩ : ∃ w1, w1 = w.alloc (.cells #[.int .i64 base, .int .i64 modulus, .int .i64 target, .slice A n c] 26) := ⟨_, rfl⟩
  have bel : Below w.heap.size w w1 := by rw [hw1]; exact (Below.refl _ w).alloc (Nat.le_refl _) _
  have b1 : Blk w1 w.heap.size #[.int .i64 base, .int .i64 modulus, .int .i64 target, .slice A n c] 26 := by rw [hw1]; exact Blk.new _ _ _
  have HR := Lib.hid hr
  have BW1 := Lib.hid bel
  have B1 := Lib.hid b1
  have LT1 := Lib.hid b1.lt
  have HCE : Hid (∀ w' : World, Below w1.heap.size w1 w' → (w'.cell? ⟨w.heap.size, 0, none⟩ = some (.int .i64 base) ∧ w'.cell? ⟨w.heap.size, 1, none⟩ = some (.int .i64 modulus) ∧ w'.cell? ⟨w.heap.size, 2, none⟩ = some (.int .i64 target) ∧ w'.cell? ⟨w.heap.size, 3, none⟩ = some (.slice A n c))) := Lib.hid (fun w' h => by
    have hk := B1.out.below h LT1.out
    exact ⟨hk.cell 0, hk.cell 1, hk.cell 2, hk.cell 3⟩)
  obtain ⟨c0, c1, c2, c3⟩ := HCE.out w1 (Below.refl _ _)
  have CV : Calls Try.prog 66 #[.agg #[.int .i64 base, .int .i64 modulus, .int .i64 target, .slice A n c]] w1 fun e w' => e = .returned (.bool (wOk ⟨base, modulus, target, W⟩)) ∧ Below w1.heap.size w1 w' := validW_any ⟨base, modulus, target, W⟩ A n c w1 (hr.below (bel.mono hB)) (Nat.le_trans hB bel.size)
  have CK := fun Y => isKind_any kind base Y
  clear hr bel b1
  rcases hq : wOk ⟨base, modulus, target, W⟩ with _ | _
  · rw [hq] at CV
    have HO : Hid (upOk ⟨base, modulus, target, W⟩ kind place = false) := Lib.hid (by unfold upOk; rw [hq]; rfl)
    clear hq CK hl
    go_enter Try.func20, Try.ntmps20
    go_wp2_with fail
    rw [← hw1]
    have HW1 := Lib.hid hw1
    clear hw1
    (go_at_call 66; (with_reducible refine (CV).mono ?_); rintro e w2 ⟨rfl, hb2⟩)
    have HB2 : Hid (Below w.heap.size w w2) := Lib.hid (BW1.out.trans (hb2.mono BW1.out.size))
    clear hb2
    go_wp2_with fail
    go_ret2
    exact ⟨two_eq (upV_no HO.out).symm HO.out.symm, HB2.out⟩
  · rw [hq] at CV
    obtain ⟨b', m', n', f⟩ := Wt.fine hq
    have fb : base = b' := f.base
    have fm : modulus = m' := f.modulus
    obtain rfl : n = n' := by have := f.len; dsimp only at this; omega
    have hn20 := f.n20
    have HF := Lib.hid f
    rcases hk : kindOk kind base with _ | _
    · rw [hk] at CK
      have HO : Hid (upOk ⟨base, modulus, target, W⟩ kind place = false) := Lib.hid (by unfold upOk; rw [hq]; dsimp only; rw [hk]; rfl)
      clear hq hl hk f fb fm
      go_enter Try.func20, Try.ntmps20
      go_wp2_with fail
      rw [← hw1]
      have HW1 := Lib.hid hw1
      clear hw1
      (go_at_call 66; (with_reducible refine (CV).mono ?_); rintro e w2 ⟨rfl, hb2⟩)
      obtain ⟨e0, e1, e2, e3⟩ := HCE.out w2 hb2
      have HB2 : Hid (Below w.heap.size w w2) := Lib.hid (BW1.out.trans (hb2.mono BW1.out.size))
      clear hb2
      go_wp2_with fail
      (go_at_call 67; (with_reducible refine (CK _).mono ?_); rintro e w' ⟨rfl, rfl⟩)
      go_wp2_with fail
      go_ret2
      exact ⟨two_eq (upV_no HO.out).symm HO.out.symm, HB2.out⟩
    · rw [hk] at CK
      obtain ⟨hk0, hk5, _⟩ := kindOk_parts hk
      obtain ⟨k, rfl⟩ : ∃ k : Nat, kind = k := ⟨kind.toNat, by omega⟩
      have hk6 : k < 6 := by omega
      have CZ := fun Y => sizeOf_any k Y
      obtain ⟨hs1, hs3⟩ := sizeK_le k
      have HP : Hid (upOk ⟨base, modulus, target, W⟩ k place = inB place 0 ((n : Int) - (sizeK k : Nat))) := Lib.hid (by unfold upOk; rw [hq]; dsimp only; rw [hk, hl]; simp)
      have CW := fun Y => within_any place 0 ((n : Int) - (sizeK k : Nat)) Y
      have CL := fun Y => wlen_any ⟨base, modulus, target, W⟩ A n c Y (by omega)
      have CL : ∀ Y, Calls Try.prog 68 #[.agg #[.int .i64 base, .int .i64 modulus, .int .i64 target, .slice A n c]] Y fun e w' => e = .returned (.int .i64 n) ∧ Below Y.heap.size Y w' := CL
      have HSZ : Hid (sizeK k = sizeK k) := Lib.hid rfl
      rcases hp : inB place 0 ((n : Int) - (sizeK k : Nat)) with _ | _
      · rw [hp] at CW HP
        clear hq hl hk f fb fm hp
        generalize sizeK k = s at *
        go_enter Try.func20, Try.ntmps20
        go_wp2_with fail
        rw [← hw1]
        have HW1 := Lib.hid hw1
        clear hw1
        (go_at_call 66; (with_reducible refine (CV).mono ?_); rintro e w2 ⟨rfl, hb2⟩)
        obtain ⟨e0, e1, e2, e3⟩ := HCE.out w2 hb2
        have HB2 : Hid (Below w.heap.size w w2) := Lib.hid (BW1.out.trans (hb2.mono BW1.out.size))
        clear hb2
        go_wp2_with fail
        (go_at_call 67; (with_reducible refine (CK _).mono ?_); rintro e w' ⟨rfl, rfl⟩)
        go_wp2_with fail
        (go_at_call 68; (with_reducible refine (CL _).mono ?_); rintro e w3 ⟨rfl, hb3⟩)
        have HB3 : Hid (Below w.heap.size w w3) := Lib.hid (HB2.out.trans (hb3.mono HB2.out.size))
        clear hb3
        go_wp2_with fail
        (go_at_call 69; (with_reducible refine (CZ _).mono ?_); rintro e w' ⟨rfl, rfl⟩)
        go_wp2_with fail
        (go_at_call 72; (with_reducible refine (CW _).mono ?_); rintro e w' ⟨rfl, rfl⟩)
        go_wp2_with fail
        go_ret2
        exact ⟨two_eq (upV_no HP.out).symm HP.out.symm, HB3.out⟩
      · rw [hp] at CW HP
        have hpp := inB_true.1 hp
        obtain ⟨p, rfl⟩ : ∃ p : Nat, place = p := ⟨place.toNat, by omega⟩
        have hps : p + sizeK k ≤ n := by omega
        have HV : Hid (upV ⟨base, modulus, target, W⟩ k p = ((unC W m' b' p k : Nat) : Int)) := Lib.hid (by
          rw [upV_yes HP.out]
          dsimp only
          rw [fb, fm]
          simp)
        have CU : ∀ Y, Below w1.heap.size w1 Y → Calls Try.prog 70 #[.agg #[.int .i64 base, .int .i64 modulus, .int .i64 target, .slice A n c], .int .i64 k, .int .i64 p] Y fun e w' => e = .returned (.int .i64 (unC W m' b' p k : Nat)) ∧ Below Y.heap.size Y w' := fun Y hY =>
          unseenAt_any ⟨base, modulus, target, W⟩ A n c Y (HR.out.below ((BW1.out.trans (hY.mono BW1.out.size)).mono hB)) (Nat.le_trans (Nat.le_trans hB BW1.out.size) hY.size) HF.out k p hk6 hps
        have HU := Lib.hid CU
        clear hq hl hk f fb fm hp CU hps HSZ
        generalize sizeK k = s at *
        generalize unC W m' b' p k = u at *
        go_enter Try.func20, Try.ntmps20
        go_wp2_with fail
        rw [← hw1]
        have HW1 := Lib.hid hw1
        clear hw1
        (go_at_call 66; (with_reducible refine (CV).mono ?_); rintro e w2 ⟨rfl, hb2⟩)
        obtain ⟨e0, e1, e2, e3⟩ := HCE.out w2 hb2
        have HB2 := Lib.hid hb2
        clear hb2
        go_wp2_with fail
        (go_at_call 67; (with_reducible refine (CK _).mono ?_); rintro e w' ⟨rfl, rfl⟩)
        go_wp2_with fail
        (go_at_call 68; (with_reducible refine (CL _).mono ?_); rintro e w3 ⟨rfl, hb3⟩)
        have HB3 : Hid (Below w1.heap.size w1 w3) := Lib.hid (HB2.out.trans (hb3.mono HB2.out.size))
        obtain ⟨g0, g1, g2, g3⟩ := HCE.out w3 HB3.out
        have CU := HU.out w3 HB3.out
        clear hb3
        go_wp2_with fail
        (go_at_call 69; (with_reducible refine (CZ _).mono ?_); rintro e w' ⟨rfl, rfl⟩)
        go_wp2_with fail
        (go_at_call 72; (with_reducible refine (CW _).mono ?_); rintro e w' ⟨rfl, rfl⟩)
        go_wp2_with fail
        (go_at_call 70; (with_reducible refine (CU).mono ?_); rintro e w4 ⟨rfl, hb4⟩)
        have HB4 : Hid (Below w.heap.size w w4) := Lib.hid ((BW1.out.trans (HB3.out.mono BW1.out.size)).trans (hb4.mono (Nat.le_trans BW1.out.size HB3.out.size)))
        clear hb4
        go_wp2_with fail
        go_ret2
        exact ⟨two_eq HV.out.symm HP.out.symm, HB4.out⟩
end Go.Proofs.Ytiokcflomchdcaa
