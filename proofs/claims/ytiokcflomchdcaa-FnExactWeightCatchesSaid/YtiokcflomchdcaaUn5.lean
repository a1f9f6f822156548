/-
  How many pairs are unseen: the program's.
-/
import Derived.Test.YtiokcflomchdcaaUn4
namespace Go.Proofs.Ytiokcflomchdcaa
open Go Go.RowKit

set_option maxRecDepth 100000 in
set_option maxHeartbeats 4000000 in
theorem unseenAt_any {B : Nat} (x : Wt) (A : Option Addr) (n c : Nat) (w : World) (hr : RowB .i64 B w A n x.W) (hB : B ≤ w.heap.size) {bs m : Nat} (f : x.Fine bs m n) (k p : Nat) (hk : k < 6) (hp : p + sizeK k ≤ n) :
    Calls Try.prog 70 #[wtV x A n c, .int .i64 k, .int .i64 p] w fun e w' => e = .returned (.int .i64 (unC x.W m bs p k : Nat)) ∧ Below w.heap.size w w' := by
  have hb36 := f.b36
  have hbase := f.base
  have HF := Lib.hid f
  obtain ⟨base, modulus, target, W⟩ := x
  dsimp only at hbase hr ⊢
  subst hbase
  obtain ⟨w1, hw1⟩ : ∃ w1, w1 = w.alloc (.cells #[.int .i64 bs, .int .i64 modulus, .int .i64 target, .slice A n c] 26) := ⟨_, rfl⟩
  have bel : Below w.heap.size w w1 := by rw [hw1]; exact (Below.refl _ w).alloc (Nat.le_refl _) _
  have b1 : Blk w1 w.heap.size #[.int .i64 bs, .int .i64 modulus, .int .i64 target, .slice A n c] 26 := by rw [hw1]; exact Blk.new _ _ _
  have HR := Lib.hid hr
  have BW1 := Lib.hid bel
  have B1 := Lib.hid b1
  have LT1 := Lib.hid b1.lt
  obtain ⟨g, hg⟩ : ∃ g : Nat → Nat → Nat, g = fun (a b : Nat) => Proofs.Ytiokcflomchdcaa.b1 (pairK k a b && same W m p k a b) := ⟨_, rfl⟩
  have HG : Hid (∀ a b : Nat, g a b = Proofs.Ytiokcflomchdcaa.b1 (pairK k a b && same W m p k a b)) := Lib.hid (fun a b => by rw [hg])
  have hg1 : ∀ a b, g a b ≤ 1 := fun a b => by rw [hg]; exact b1_le _
  have HT : Hid (unC W m bs p k = sumN (fun a => sumN (g a) bs) bs) := Lib.hid (by unfold unC; rw [hg])
  have HS1 : Hid (∀ a j, j ≤ bs → sumN (g a) j ≤ 36) := Lib.hid (fun a j hj => by have := sumN_le (f := g a) (m := 1) j (fun i _ => hg1 a i); omega)
  have HS2 : Hid (∀ a, a ≤ bs → sumN (fun a => sumN (g a) bs) a ≤ 1296) := Lib.hid (fun a ha => by
    have := sumN_le (f := fun a => sumN (g a) bs) (m := 36) a (fun i _ => HS1.out i bs (Nat.le_refl _))
    omega)
  have HCE : Hid (∀ w' : World, Below w1.heap.size w1 w' → (w'.cell? ⟨w.heap.size, 0, none⟩ = some (.int .i64 bs) ∧ w'.cell? ⟨w.heap.size, 1, none⟩ = some (.int .i64 modulus) ∧ w'.cell? ⟨w.heap.size, 2, none⟩ = some (.int .i64 target) ∧ w'.cell? ⟨w.heap.size, 3, none⟩ = some (.slice A n c))) := Lib.hid (fun w' h => by
    have hk := B1.out.below h LT1.out
    exact ⟨hk.cell 0, hk.cell 1, hk.cell 2, hk.cell 3⟩)
  have c0 : w1.cell? ⟨w.heap.size, 0, none⟩ = some (.int .i64 bs) := b1.cell 0
  clear hr bel b1 hg1 hg f
  go_enter Try.func70, Try.ntmps70
  go_wp2_with fail
  rw [← hw1]
  have HW1 := Lib.hid hw1
  clear hw1
  go_wp2_with fail
  go_loopw [7, 8, 9, 12] (fun cnt _ _ i wr => ∃ a : Nat, a ≤ bs ∧ i = .int .i64 a ∧ (∃ N : Nat, cnt = .int .i64 (N : Int) ∧ Hid (N = sumN (fun a => sumN (g a) bs) a) ∧ N ≤ 1296) ∧ Below w1.heap.size w1 wr) (fun _ _ _ i _ => bs - (intOf i).toNat)
  case atStart => exact ⟨0, by omega, rfl, ⟨0, rfl, Lib.hid rfl, by omega⟩, Below.refl _ _⟩
  case round =>
    obtain ⟨a, ha, rfl, ⟨N, rfl, HN, hN⟩, hb⟩ := hrel
    obtain ⟨wq, rfl⟩ : ∃ wq, wq = wr := ⟨_, rfl⟩
    obtain ⟨d0, _, _, _⟩ := HCE.out wq hb
    by_cases hlt : a < bs
    · have HBQ := Lib.hid hb
      clear hb
      go_wp2_with fail
      go_loopw [7, 9, 17] (fun cnt _ j ws => ∃ b : Nat, b ≤ bs ∧ j = .int .i64 b ∧ (∃ M : Nat, cnt = .int .i64 (M : Int) ∧ Hid (M = N + sumN (g a) b) ∧ M ≤ 1332) ∧ Below w1.heap.size w1 ws) (fun _ _ j _ => bs - (intOf j).toNat)
      case atStart => exact ⟨0, by omega, rfl, ⟨N, rfl, Lib.hid rfl, by omega⟩, HBQ.out⟩
      case round =>
        obtain ⟨b, hbb, rfl, ⟨M, rfl, HM, hM⟩, hbs⟩ := hrel
        obtain ⟨wz, rfl⟩ : ∃ wz, wz = wr := ⟨_, rfl⟩
        obtain ⟨z0, z1, z2, z3⟩ := HCE.out wz hbs
        by_cases hlb : b < bs
        · have hM2 : M + 1 ≤ 1332 := by
            have h1 := HM.out
            have h2 := HS1.out a (b + 1) (by omega)
            have h3 := HS2.out a (by omega)
            have h4 := HN.out
            rw [sumN_succ] at h2
            have h5 : sumN (g a) b ≤ b := by have := sumN_le (f := g a) (m := 1) b (fun i _ => by rw [HG.out]; exact b1_le _); omega
            omega
          have CP := isPair_any k a b wz
          have CU : Calls Try.prog 122 #[.agg #[.int .i64 bs, .int .i64 modulus, .int .i64 target, .slice A n c], .int .i64 k, .int .i64 p, .int .i64 a, .int .i64 b] wz fun e w' => e = .returned (.bool (same W m p k a b)) ∧ Below wz.heap.size wz w' :=
            isUnseen_any ⟨bs, modulus, target, W⟩ A n c wz (HR.out.below ((BW1.out.trans (hbs.mono BW1.out.size)).mono hB)) (Nat.le_trans (Nat.le_trans hB BW1.out.size) hbs.size) HF.out k p hk hp a b (by omega) (by omega)
          have hgab := HG.out a b
          generalize pairK k (a : Int) (b : Int) = pr at CP hgab
          generalize same W m p k (a : Int) (b : Int) = sm at CU hgab
          rcases pr with _ | _
          · have HN2 : Hid (M = N + sumN (g a) (b + 1)) := Lib.hid (by rw [sumN_succ, hgab, HM.out]; rfl)
            have HBS := Lib.hid hbs
            clear hgab hbs
            go_wp2_with (go_at_call 121; (with_reducible refine (CP).mono ?_); rintro e w' ⟨rfl, rfl⟩)
            go_roundw
            case rel => exact ⟨b + 1, by omega, by go_num, ⟨M, rfl, HN2, by omega⟩, HBS.out⟩
            case measure => simp [intOf]; omega
          · rcases sm with _ | _
            · have HN2 : Hid (M = N + sumN (g a) (b + 1)) := Lib.hid (by rw [sumN_succ, hgab, HM.out]; rfl)
              have HBS := Lib.hid hbs
              clear hgab hbs
              go_wp2_with fail
              (go_at_call 121; (with_reducible refine (CP).mono ?_); rintro e w' ⟨rfl, rfl⟩)
              go_wp2_with fail
              (go_at_call 122; (with_reducible refine (CU).mono ?_); rintro e w2 ⟨rfl, hb2⟩)
              have HB2 : Hid (Below w1.heap.size w1 w2) := Lib.hid (HBS.out.trans (hb2.mono HBS.out.size))
              clear hb2
              go_wp2_with fail
              go_roundw
              case rel => exact ⟨b + 1, by omega, by go_num, ⟨M, rfl, HN2, by omega⟩, HB2.out⟩
              case measure => simp [intOf]; omega
            · have HN2 : Hid (M + 1 = N + sumN (g a) (b + 1)) := Lib.hid (by rw [sumN_succ, hgab, HM.out]; rfl)
              have HBS := Lib.hid hbs
              clear hgab hbs
              go_wp2_with fail
              (go_at_call 121; (with_reducible refine (CP).mono ?_); rintro e w' ⟨rfl, rfl⟩)
              go_wp2_with fail
              (go_at_call 122; (with_reducible refine (CU).mono ?_); rintro e w2 ⟨rfl, hb2⟩)
              have HB2 : Hid (Below w1.heap.size w1 w2) := Lib.hid (HBS.out.trans (hb2.mono HBS.out.size))
              clear hb2
              go_wp2_with fail
              go_roundw
              case rel => exact ⟨b + 1, by omega, by go_num, ⟨M + 1, by go_num, HN2, by omega⟩, HB2.out⟩
              case measure => simp [intOf]; omega
        · obtain rfl : bs = b := by omega
          have HN2 : Hid (M = sumN (fun a => sumN (g a) bs) (a + 1)) := Lib.hid (by rw [sumN_succ, ← HN.out]; exact HM.out)
          have hM3 : M ≤ 1296 := by have := HS2.out (a + 1) (by omega); rw [HN2.out]; exact this
          have HBS := Lib.hid hbs
          clear hbs
          go_wp2_with fail
          go_roundw
          case rel => exact ⟨a + 1, by omega, by go_num, ⟨M, rfl, HN2, hM3⟩, HBS.out⟩
          case measure => simp [intOf]; omega
    · obtain rfl : bs = a := by omega
      have HE : Hid (N = unC W m bs p k) := Lib.hid (by rw [HT.out]; exact HN.out)
      have HBQ : Hid (Below w.heap.size w wq) := Lib.hid (BW1.out.trans (hb.mono BW1.out.size))
      clear hb
      go_wp2_with fail
      go_ret
      exact ⟨ret_int (by rw [← HE.out]), HBQ.out⟩
end Go.Proofs.Ytiokcflomchdcaa
