/-
  How many pairs are unseen: the model's.
-/
import Derived.Test.YtiokcflomchdcaaUn6
import Derived.IntWalk
namespace Go.Proofs.Ytiokcflomchdcaa
open Go Go.RowKit

theorem mul_abs {u v : Int} (hu : -70 ≤ u ∧ u ≤ 70) (hv : -36 ≤ v ∧ v ≤ 36) : -2520 ≤ u * v ∧ u * v ≤ 2520 := by
  have h := Int.natAbs_mul u v
  have h2 : u.natAbs * v.natAbs ≤ 70 * 36 := Nat.mul_le_mul (by omega) (by omega)
  omega
theorem wg_of {W : List Int} {i : Nat} {z : Int} (h : W[i]? = some z) : wg W i = z := by
  unfold wg
  rw [List.getD_eq_getElem?_getD, h]
  rfl
set_option maxRecDepth 100000 in
set_option maxHeartbeats 4000000 in
theorem l03Unseen0_any {B b : Nat} (x : Wt) (A : Option Addr) (n c : Nat) (w : World) (hb : Blk w b (wtCells x A n c) 26) (hr : RowB .i64 B w A n x.W) {bs m : Nat} (f : x.Fine bs m n) (p : Nat) (hp : p + 1 ≤ n) :
    Calls Try.prog 107 #[.pointer (some ⟨b, 0, none⟩), .int .i64 0, .int .i64 p] w fun e w' => e = .returned (.int .i64 (unM x.W m bs p 0 : Nat)) ∧ w = w' := by
  have hb36 := f.b36
  have hm2 := f.m2
  have hm36 := f.m36
  have hn20 := f.n20
  have hw35 := f.w35
  have hfb := f.base
  have hfm := f.modulus
  clear f
  obtain ⟨base, modulus, target, W⟩ := x
  dsimp only at hr hw35 hfb hfm ⊢
  subst hfb
  subst hfm
  have q0 : w.cell? ⟨b, 0, none⟩ = some (.int .i64 bs) := hb.cell 0
  have q1 : w.cell? ⟨b, 1, none⟩ = some (.int .i64 m) := hb.cell 1
  have q3 : w.cell? ⟨b, 3, none⟩ = some (.slice A n c) := hb.cell 3
  obtain ⟨bW, oW, z0, rfl, _, hz0, hc0, _⟩ := hr.at_ (show p < n by omega)
  have hb0 := hw35 z0 (List.mem_of_getElem? hz0)
  obtain ⟨D, hD⟩ : ∃ D, z0 = D := ⟨_, rfl⟩
  have hDk : byK W p 0 = D := by
    rw [← hD]
    show wg W p = _
    rw [wg_of hz0]
  have hDb : -70 ≤ D ∧ D ≤ 70 := by omega
  have eD : IntKind.i64.wrap D = D := IntWalk.i64_in _ (by omega)
  subst hD
  obtain ⟨g, hg⟩ : ∃ g : Nat → Nat → Nat, g = fun (a e : Nat) => Proofs.Ytiokcflomchdcaa.b1 (decide ((a : Int) ≠ e) && decide (modZ (z0 * ((a : Int) - e)) m = 0)) := ⟨_, rfl⟩
  have HG : Hid (∀ a e : Nat, g a e = Proofs.Ytiokcflomchdcaa.b1 (decide ((a : Int) ≠ e) && decide (modZ (z0 * ((a : Int) - e)) m = 0))) := Lib.hid (fun a e => by rw [hg])
  have hg1 : ∀ a e, g a e ≤ 1 := fun a e => by rw [hg]; exact b1_le _
  have HT : Hid (unM W m bs p 0 = sumN (fun a => sumN (g a) bs) bs) := Lib.hid (by unfold unM; rw [if_neg (by decide), hg, hDk])
  have HS1 : Hid (∀ a j, j ≤ bs → sumN (g a) j ≤ j) := Lib.hid (fun a j hj => by have := sumN_le (f := g a) (m := 1) j (fun i _ => hg1 a i); omega)
  have HS2 : Hid (∀ a, a ≤ bs → sumN (fun a => sumN (g a) bs) a ≤ 1296) := Lib.hid (fun a ha => by
    have := sumN_le (f := fun a => sumN (g a) bs) (m := 36) a (fun i _ => by have := HS1.out i bs (Nat.le_refl _); omega)
    omega)
  have p0 : (0 : Int) ≤ (p : Int) := by omega
  clear hr hb hw35 hg hg1 hDk hz0
  go_enter Try.func107, Try.ntmps107
  go_wp2_with fail
  go_loop [8, 12, 13] (fun cnt i _ => ∃ a : Nat, a ≤ bs ∧ i = .int .i64 a ∧ (∃ N : Nat, cnt = .int .i64 (N : Int) ∧ Hid (N = sumN (fun a => sumN (g a) bs) a) ∧ N ≤ 1296)) (fun _ i _ => bs - (intOf i).toNat)
  case atStart => exact ⟨0, by omega, rfl, ⟨0, rfl, Lib.hid rfl, by omega⟩⟩
  case round =>
    obtain ⟨a, ha, rfl, ⟨N, rfl, HN, hN⟩⟩ := hrel
    by_cases hlt : a < bs
    · go_wp2_with fail
      go_loop [8, 13] (fun cnt j => ∃ y : Nat, y ≤ bs ∧ j = .int .i64 y ∧ (∃ M : Nat, cnt = .int .i64 (M : Int) ∧ Hid (M = N + sumN (g a) y) ∧ M ≤ 1332)) (fun _ j => bs - (intOf j).toNat)
      case atStart => exact ⟨0, by omega, rfl, ⟨N, rfl, Lib.hid rfl, by omega⟩⟩
      case round =>
        obtain ⟨y, hy, rfl, ⟨M, rfl, HM, hM⟩⟩ := hrel
        by_cases hlb : y < bs
        · have hM2 : M + 1 ≤ 1332 := by
            have h1 := HM.out
            have h5 := HS1.out a y (by omega)
            omega
          have hgab := HG.out a y
          by_cases hay : a = y
          · subst hay
            have HN2 : Hid (M = N + sumN (g a) (a + 1)) := Lib.hid (by
              rw [sumN_succ, hgab, HM.out]
              simp [Proofs.Ytiokcflomchdcaa.b1])
            clear hgab
            go_wp2_with fail
            go_round
            case rel => exact ⟨a + 1, by omega, by go_num, ⟨M, rfl, HN2, by omega⟩⟩
            case measure => simp [intOf]; omega
          · have nay : ((a : Int) != y) = true := by simp; omega
            have nay2 : ¬ (a : Int) = y := by omega
            obtain ⟨P, hP⟩ : ∃ P, z0 * ((a : Int) - (y : Int)) = P := ⟨_, rfl⟩
            have hPb := mul_abs hDb (v := (a : Int) - (y : Int)) (by omega)
            rw [hP] at hPb hgab
            have eP : IntKind.i64.wrap P = P := IntWalk.i64_in _ (by omega)
            have CM := l01Mod_any P m w (by omega) (by omega)
            generalize modZ P m = v at CM hgab
            by_cases hv : v = 0
            · have HN2 : Hid (M + 1 = N + sumN (g a) (y + 1)) := Lib.hid (by
                have hh : (decide ((a : Int) ≠ (y : Int)) && decide (v = 0)) = true := by simp [hv, nay2]
                rw [sumN_succ, hgab, HM.out, hh]
                show N + sumN (g a) y + 1 = N + (sumN (g a) y + 1)
                omega)
              clear hgab
              subst hv
              go_wp2_with (go_at_call 147; (with_reducible refine (CM).mono ?_); rintro e w' ⟨rfl, rfl⟩)
              go_round
              case rel => exact ⟨y + 1, by omega, by go_num, ⟨M + 1, by go_num, HN2, by omega⟩⟩
              case measure => simp [intOf]; omega
            · have HN2 : Hid (M = N + sumN (g a) (y + 1)) := Lib.hid (by
                rw [sumN_succ, hgab, HM.out]
                simp [Proofs.Ytiokcflomchdcaa.b1, hv])
              have hvv : (v == 0) = false := by simp [hv]
              clear hgab
              go_wp2_with (go_at_call 147; (with_reducible refine (CM).mono ?_); rintro e w' ⟨rfl, rfl⟩)
              go_round
              case rel => exact ⟨y + 1, by omega, by go_num, ⟨M, rfl, HN2, by omega⟩⟩
              case measure => simp [intOf]; omega
        · obtain rfl : bs = y := by omega
          have HN2 : Hid (M = sumN (fun a => sumN (g a) bs) (a + 1)) := Lib.hid (by rw [sumN_succ, ← HN.out]; exact HM.out)
          have hM3 : M ≤ 1296 := by have := HS2.out (a + 1) (by omega); rw [HN2.out]; exact this
          go_wp2_with fail
          go_round
          case rel => exact ⟨a + 1, by omega, by go_num, ⟨M, rfl, HN2, hM3⟩⟩
          case measure => simp [intOf]; omega
    · obtain rfl : bs = a := by omega
      have HE : Hid (N = unM W m bs p 0) := Lib.hid (by rw [HT.out]; exact HN.out)
      go_wp2_with fail
      go_ret
      exact ⟨ret_int (by rw [← HE.out]), rfl⟩
set_option maxRecDepth 100000 in
set_option maxHeartbeats 4000000 in
theorem l03Unseen1_any {B b : Nat} (x : Wt) (A : Option Addr) (n c : Nat) (w : World) (hb : Blk w b (wtCells x A n c) 26) (hr : RowB .i64 B w A n x.W) {bs m : Nat} (f : x.Fine bs m n) (p : Nat) (hp : p + 2 ≤ n) :
    Calls Try.prog 107 #[.pointer (some ⟨b, 0, none⟩), .int .i64 1, .int .i64 p] w fun e w' => e = .returned (.int .i64 (unM x.W m bs p 1 : Nat)) ∧ w = w' := by
  have hb36 := f.b36
  have hm2 := f.m2
  have hm36 := f.m36
  have hn20 := f.n20
  have hw35 := f.w35
  have hfb := f.base
  have hfm := f.modulus
  clear f
  obtain ⟨base, modulus, target, W⟩ := x
  dsimp only at hr hw35 hfb hfm ⊢
  subst hfb
  subst hfm
  have q0 : w.cell? ⟨b, 0, none⟩ = some (.int .i64 bs) := hb.cell 0
  have q1 : w.cell? ⟨b, 1, none⟩ = some (.int .i64 m) := hb.cell 1
  have q3 : w.cell? ⟨b, 3, none⟩ = some (.slice A n c) := hb.cell 3
  obtain ⟨bW, oW, z0, rfl, _, hz0, hc0, _⟩ := hr.at_ (show p < n by omega)
  have hb0 := hw35 z0 (List.mem_of_getElem? hz0)
  obtain ⟨bV, oV, z1, hA, _, hz1, hc1, _⟩ := hr.at_ (show p + 1 < n by omega)
  cases hA
  have hb1 := hw35 z1 (List.mem_of_getElem? hz1)
  have e3 : ((p : Int) + 1).toNat = p + 1 := by omega
  have hc1' : w.cell? ⟨bW, oW + ((p : Int) + 1).toNat, none⟩ = some (.int .i64 z1) := by rw [e3]; exact hc1
  have l1 : (p : Int) + 1 < n := by omega
  obtain ⟨D, hD⟩ : ∃ D, z0 - z1 = D := ⟨_, rfl⟩
  have hDk : byK W p 1 = D := by
    rw [← hD]
    show wg W p - wg W (p + 1) = _
    rw [wg_of hz0, wg_of hz1]
  have hDb : -70 ≤ D ∧ D ≤ 70 := by omega
  have eD : IntKind.i64.wrap D = D := IntWalk.i64_in _ (by omega)
  obtain ⟨g, hg⟩ : ∃ g : Nat → Nat → Nat, g = fun (a e : Nat) => Proofs.Ytiokcflomchdcaa.b1 (decide ((a : Int) ≠ e) && decide (modZ (D * ((a : Int) - e)) m = 0)) := ⟨_, rfl⟩
  have HG : Hid (∀ a e : Nat, g a e = Proofs.Ytiokcflomchdcaa.b1 (decide ((a : Int) ≠ e) && decide (modZ (D * ((a : Int) - e)) m = 0))) := Lib.hid (fun a e => by rw [hg])
  have hg1 : ∀ a e, g a e ≤ 1 := fun a e => by rw [hg]; exact b1_le _
  have HT : Hid (unM W m bs p 1 = sumN (fun a => sumN (g a) bs) bs) := Lib.hid (by unfold unM; rw [if_neg (by decide), hg, hDk])
  have HS1 : Hid (∀ a j, j ≤ bs → sumN (g a) j ≤ j) := Lib.hid (fun a j hj => by have := sumN_le (f := g a) (m := 1) j (fun i _ => hg1 a i); omega)
  have HS2 : Hid (∀ a, a ≤ bs → sumN (fun a => sumN (g a) bs) a ≤ 1296) := Lib.hid (fun a ha => by
    have := sumN_le (f := fun a => sumN (g a) bs) (m := 36) a (fun i _ => by have := HS1.out i bs (Nat.le_refl _); omega)
    omega)
  have p0 : (0 : Int) ≤ (p : Int) := by omega
  clear hr hb hw35 hg hg1 hDk hz0 hz1
  go_enter Try.func107, Try.ntmps107
  go_wp2_with fail
  go_loop [8, 12, 13] (fun cnt i _ => ∃ a : Nat, a ≤ bs ∧ i = .int .i64 a ∧ (∃ N : Nat, cnt = .int .i64 (N : Int) ∧ Hid (N = sumN (fun a => sumN (g a) bs) a) ∧ N ≤ 1296)) (fun _ i _ => bs - (intOf i).toNat)
  case atStart => exact ⟨0, by omega, rfl, ⟨0, rfl, Lib.hid rfl, by omega⟩⟩
  case round =>
    obtain ⟨a, ha, rfl, ⟨N, rfl, HN, hN⟩⟩ := hrel
    by_cases hlt : a < bs
    · go_wp2_with fail
      go_loop [8, 13] (fun cnt j => ∃ y : Nat, y ≤ bs ∧ j = .int .i64 y ∧ (∃ M : Nat, cnt = .int .i64 (M : Int) ∧ Hid (M = N + sumN (g a) y) ∧ M ≤ 1332)) (fun _ j => bs - (intOf j).toNat)
      case atStart => exact ⟨0, by omega, rfl, ⟨N, rfl, Lib.hid rfl, by omega⟩⟩
      case round =>
        obtain ⟨y, hy, rfl, ⟨M, rfl, HM, hM⟩⟩ := hrel
        by_cases hlb : y < bs
        · have hM2 : M + 1 ≤ 1332 := by
            have h1 := HM.out
            have h5 := HS1.out a y (by omega)
            omega
          have hgab := HG.out a y
          by_cases hay : a = y
          · subst hay
            have HN2 : Hid (M = N + sumN (g a) (a + 1)) := Lib.hid (by
              rw [sumN_succ, hgab, HM.out]
              simp [Proofs.Ytiokcflomchdcaa.b1])
            clear hgab
            go_wp2_with fail
            go_round
            case rel => exact ⟨a + 1, by omega, by go_num, ⟨M, rfl, HN2, by omega⟩⟩
            case measure => simp [intOf]; omega
          · have nay : ((a : Int) != y) = true := by simp; omega
            have nay2 : ¬ (a : Int) = y := by omega
            obtain ⟨P, hP⟩ : ∃ P, D * ((a : Int) - (y : Int)) = P := ⟨_, rfl⟩
            have hPb := mul_abs hDb (v := (a : Int) - (y : Int)) (by omega)
            rw [hP] at hPb hgab
            have eP : IntKind.i64.wrap P = P := IntWalk.i64_in _ (by omega)
            have CM := l01Mod_any P m w (by omega) (by omega)
            generalize modZ P m = v at CM hgab
            by_cases hv : v = 0
            · have HN2 : Hid (M + 1 = N + sumN (g a) (y + 1)) := Lib.hid (by
                have hh : (decide ((a : Int) ≠ (y : Int)) && decide (v = 0)) = true := by simp [hv, nay2]
                rw [sumN_succ, hgab, HM.out, hh]
                show N + sumN (g a) y + 1 = N + (sumN (g a) y + 1)
                omega)
              clear hgab
              subst hv
              go_wp2_with (go_at_call 147; (with_reducible refine (CM).mono ?_); rintro e w' ⟨rfl, rfl⟩)
              go_round
              case rel => exact ⟨y + 1, by omega, by go_num, ⟨M + 1, by go_num, HN2, by omega⟩⟩
              case measure => simp [intOf]; omega
            · have HN2 : Hid (M = N + sumN (g a) (y + 1)) := Lib.hid (by
                rw [sumN_succ, hgab, HM.out]
                simp [Proofs.Ytiokcflomchdcaa.b1, hv])
              have hvv : (v == 0) = false := by simp [hv]
              clear hgab
              go_wp2_with (go_at_call 147; (with_reducible refine (CM).mono ?_); rintro e w' ⟨rfl, rfl⟩)
              go_round
              case rel => exact ⟨y + 1, by omega, by go_num, ⟨M, rfl, HN2, by omega⟩⟩
              case measure => simp [intOf]; omega
        · obtain rfl : bs = y := by omega
          have HN2 : Hid (M = sumN (fun a => sumN (g a) bs) (a + 1)) := Lib.hid (by rw [sumN_succ, ← HN.out]; exact HM.out)
          have hM3 : M ≤ 1296 := by have := HS2.out (a + 1) (by omega); rw [HN2.out]; exact this
          go_wp2_with fail
          go_round
          case rel => exact ⟨a + 1, by omega, by go_num, ⟨M, rfl, HN2, hM3⟩⟩
          case measure => simp [intOf]; omega
    · obtain rfl : bs = a := by omega
      have HE : Hid (N = unM W m bs p 1) := Lib.hid (by rw [HT.out]; exact HN.out)
      go_wp2_with fail
      go_ret
      exact ⟨ret_int (by rw [← HE.out]), rfl⟩
set_option maxRecDepth 100000 in
set_option maxHeartbeats 4000000 in
theorem l03Unseen2_any {B b : Nat} (x : Wt) (A : Option Addr) (n c : Nat) (w : World) (hb : Blk w b (wtCells x A n c) 26) (hr : RowB .i64 B w A n x.W) {bs m : Nat} (f : x.Fine bs m n) (p : Nat) (hp : p + 3 ≤ n) :
    Calls Try.prog 107 #[.pointer (some ⟨b, 0, none⟩), .int .i64 2, .int .i64 p] w fun e w' => e = .returned (.int .i64 (unM x.W m bs p 2 : Nat)) ∧ w = w' := by
  have hb36 := f.b36
  have hm2 := f.m2
  have hm36 := f.m36
  have hn20 := f.n20
  have hw35 := f.w35
  have hfb := f.base
  have hfm := f.modulus
  clear f
  obtain ⟨base, modulus, target, W⟩ := x
  dsimp only at hr hw35 hfb hfm ⊢
  subst hfb
  subst hfm
  have q0 : w.cell? ⟨b, 0, none⟩ = some (.int .i64 bs) := hb.cell 0
  have q1 : w.cell? ⟨b, 1, none⟩ = some (.int .i64 m) := hb.cell 1
  have q3 : w.cell? ⟨b, 3, none⟩ = some (.slice A n c) := hb.cell 3
  obtain ⟨bW, oW, z0, rfl, _, hz0, hc0, _⟩ := hr.at_ (show p < n by omega)
  have hb0 := hw35 z0 (List.mem_of_getElem? hz0)
  obtain ⟨bV, oV, z1, hA, _, hz1, hc1, _⟩ := hr.at_ (show p + 2 < n by omega)
  cases hA
  have hb1 := hw35 z1 (List.mem_of_getElem? hz1)
  have e3 : ((p : Int) + 2).toNat = p + 2 := by omega
  have hc1' : w.cell? ⟨bW, oW + ((p : Int) + 2).toNat, none⟩ = some (.int .i64 z1) := by rw [e3]; exact hc1
  have l1 : (p : Int) + 2 < n := by omega
  obtain ⟨D, hD⟩ : ∃ D, z0 - z1 = D := ⟨_, rfl⟩
  have hDk : byK W p 2 = D := by
    rw [← hD]
    show wg W p - wg W (p + 2) = _
    rw [wg_of hz0, wg_of hz1]
  have hDb : -70 ≤ D ∧ D ≤ 70 := by omega
  have eD : IntKind.i64.wrap D = D := IntWalk.i64_in _ (by omega)
  obtain ⟨g, hg⟩ : ∃ g : Nat → Nat → Nat, g = fun (a e : Nat) => Proofs.Ytiokcflomchdcaa.b1 (decide ((a : Int) ≠ e) && decide (modZ (D * ((a : Int) - e)) m = 0)) := ⟨_, rfl⟩
  have HG : Hid (∀ a e : Nat, g a e = Proofs.Ytiokcflomchdcaa.b1 (decide ((a : Int) ≠ e) && decide (modZ (D * ((a : Int) - e)) m = 0))) := Lib.hid (fun a e => by rw [hg])
  have hg1 : ∀ a e, g a e ≤ 1 := fun a e => by rw [hg]; exact b1_le _
  have HT : Hid (unM W m bs p 2 = sumN (fun a => sumN (g a) bs) bs) := Lib.hid (by unfold unM; rw [if_neg (by decide), hg, hDk])
  have HS1 : Hid (∀ a j, j ≤ bs → sumN (g a) j ≤ j) := Lib.hid (fun a j hj => by have := sumN_le (f := g a) (m := 1) j (fun i _ => hg1 a i); omega)
  have HS2 : Hid (∀ a, a ≤ bs → sumN (fun a => sumN (g a) bs) a ≤ 1296) := Lib.hid (fun a ha => by
    have := sumN_le (f := fun a => sumN (g a) bs) (m := 36) a (fun i _ => by have := HS1.out i bs (Nat.le_refl _); omega)
    omega)
  have p0 : (0 : Int) ≤ (p : Int) := by omega
  clear hr hb hw35 hg hg1 hDk hz0 hz1
  go_enter Try.func107, Try.ntmps107
  go_wp2_with fail
  go_loop [8, 12, 13] (fun cnt i _ => ∃ a : Nat, a ≤ bs ∧ i = .int .i64 a ∧ (∃ N : Nat, cnt = .int .i64 (N : Int) ∧ Hid (N = sumN (fun a => sumN (g a) bs) a) ∧ N ≤ 1296)) (fun _ i _ => bs - (intOf i).toNat)
  case atStart => exact ⟨0, by omega, rfl, ⟨0, rfl, Lib.hid rfl, by omega⟩⟩
  case round =>
    obtain ⟨a, ha, rfl, ⟨N, rfl, HN, hN⟩⟩ := hrel
    by_cases hlt : a < bs
    · go_wp2_with fail
      go_loop [8, 13] (fun cnt j => ∃ y : Nat, y ≤ bs ∧ j = .int .i64 y ∧ (∃ M : Nat, cnt = .int .i64 (M : Int) ∧ Hid (M = N + sumN (g a) y) ∧ M ≤ 1332)) (fun _ j => bs - (intOf j).toNat)
      case atStart => exact ⟨0, by omega, rfl, ⟨N, rfl, Lib.hid rfl, by omega⟩⟩
      case round =>
        obtain ⟨y, hy, rfl, ⟨M, rfl, HM, hM⟩⟩ := hrel
        by_cases hlb : y < bs
        · have hM2 : M + 1 ≤ 1332 := by
            have h1 := HM.out
            have h5 := HS1.out a y (by omega)
            omega
          have hgab := HG.out a y
          by_cases hay : a = y
          · subst hay
            have HN2 : Hid (M = N + sumN (g a) (a + 1)) := Lib.hid (by
              rw [sumN_succ, hgab, HM.out]
              simp [Proofs.Ytiokcflomchdcaa.b1])
            clear hgab
            go_wp2_with fail
            go_round
            case rel => exact ⟨a + 1, by omega, by go_num, ⟨M, rfl, HN2, by omega⟩⟩
            case measure => simp [intOf]; omega
          · have nay : ((a : Int) != y) = true := by simp; omega
            have nay2 : ¬ (a : Int) = y := by omega
            obtain ⟨P, hP⟩ : ∃ P, D * ((a : Int) - (y : Int)) = P := ⟨_, rfl⟩
            have hPb := mul_abs hDb (v := (a : Int) - (y : Int)) (by omega)
            rw [hP] at hPb hgab
            have eP : IntKind.i64.wrap P = P := IntWalk.i64_in _ (by omega)
            have CM := l01Mod_any P m w (by omega) (by omega)
            generalize modZ P m = v at CM hgab
            by_cases hv : v = 0
            · have HN2 : Hid (M + 1 = N + sumN (g a) (y + 1)) := Lib.hid (by
                have hh : (decide ((a : Int) ≠ (y : Int)) && decide (v = 0)) = true := by simp [hv, nay2]
                rw [sumN_succ, hgab, HM.out, hh]
                show N + sumN (g a) y + 1 = N + (sumN (g a) y + 1)
                omega)
              clear hgab
              subst hv
              go_wp2_with (go_at_call 147; (with_reducible refine (CM).mono ?_); rintro e w' ⟨rfl, rfl⟩)
              go_round
              case rel => exact ⟨y + 1, by omega, by go_num, ⟨M + 1, by go_num, HN2, by omega⟩⟩
              case measure => simp [intOf]; omega
            · have HN2 : Hid (M = N + sumN (g a) (y + 1)) := Lib.hid (by
                rw [sumN_succ, hgab, HM.out]
                simp [Proofs.Ytiokcflomchdcaa.b1, hv])
              have hvv : (v == 0) = false := by simp [hv]
              clear hgab
              go_wp2_with (go_at_call 147; (with_reducible refine (CM).mono ?_); rintro e w' ⟨rfl, rfl⟩)
              go_round
              case rel => exact ⟨y + 1, by omega, by go_num, ⟨M, rfl, HN2, by omega⟩⟩
              case measure => simp [intOf]; omega
        · obtain rfl : bs = y := by omega
          have HN2 : Hid (M = sumN (fun a => sumN (g a) bs) (a + 1)) := Lib.hid (by rw [sumN_succ, ← HN.out]; exact HM.out)
          have hM3 : M ≤ 1296 := by have := HS2.out (a + 1) (by omega); rw [HN2.out]; exact this
          go_wp2_with fail
          go_round
          case rel => exact ⟨a + 1, by omega, by go_num, ⟨M, rfl, HN2, hM3⟩⟩
          case measure => simp [intOf]; omega
    · obtain rfl : bs = a := by omega
      have HE : Hid (N = unM W m bs p 2) := Lib.hid (by rw [HT.out]; exact HN.out)
      go_wp2_with fail
      go_ret
      exact ⟨ret_int (by rw [← HE.out]), rfl⟩
set_option maxRecDepth 100000 in
set_option maxHeartbeats 4000000 in
theorem l03Unseen3_any {B b : Nat} (x : Wt) (A : Option Addr) (n c : Nat) (w : World) (hb : Blk w b (wtCells x A n c) 26) (hr : RowB .i64 B w A n x.W) {bs m : Nat} (f : x.Fine bs m n) (p : Nat) (hp : p + 2 ≤ n) :
    Calls Try.prog 107 #[.pointer (some ⟨b, 0, none⟩), .int .i64 3, .int .i64 p] w fun e w' => e = .returned (.int .i64 (unM x.W m bs p 3 : Nat)) ∧ w = w' := by
  have hb36 := f.b36
  have hm2 := f.m2
  have hm36 := f.m36
  have hn20 := f.n20
  have hw35 := f.w35
  have hfb := f.base
  have hfm := f.modulus
  clear f
  obtain ⟨base, modulus, target, W⟩ := x
  dsimp only at hr hw35 hfb hfm ⊢
  subst hfb
  subst hfm
  have q0 : w.cell? ⟨b, 0, none⟩ = some (.int .i64 bs) := hb.cell 0
  have q1 : w.cell? ⟨b, 1, none⟩ = some (.int .i64 m) := hb.cell 1
  have q3 : w.cell? ⟨b, 3, none⟩ = some (.slice A n c) := hb.cell 3
  obtain ⟨bW, oW, z0, rfl, _, hz0, hc0, _⟩ := hr.at_ (show p < n by omega)
  have hb0 := hw35 z0 (List.mem_of_getElem? hz0)
  obtain ⟨bV, oV, z1, hA, _, hz1, hc1, _⟩ := hr.at_ (show p + 1 < n by omega)
  cases hA
  have hb1 := hw35 z1 (List.mem_of_getElem? hz1)
  have e3 : ((p : Int) + 1).toNat = p + 1 := by omega
  have hc1' : w.cell? ⟨bW, oW + ((p : Int) + 1).toNat, none⟩ = some (.int .i64 z1) := by rw [e3]; exact hc1
  have l1 : (p : Int) + 1 < n := by omega
  obtain ⟨D, hD⟩ : ∃ D, z0 + z1 = D := ⟨_, rfl⟩
  have hDk : byK W p 3 = D := by
    rw [← hD]
    show wg W p + wg W (p + 1) = _
    rw [wg_of hz0, wg_of hz1]
  have hDb : -70 ≤ D ∧ D ≤ 70 := by omega
  have eD : IntKind.i64.wrap D = D := IntWalk.i64_in _ (by omega)
  obtain ⟨g, hg⟩ : ∃ g : Nat → Nat → Nat, g = fun (a e : Nat) => Proofs.Ytiokcflomchdcaa.b1 (decide ((a : Int) ≠ e) && decide (modZ (D * ((a : Int) - e)) m = 0)) := ⟨_, rfl⟩
  have HG : Hid (∀ a e : Nat, g a e = Proofs.Ytiokcflomchdcaa.b1 (decide ((a : Int) ≠ e) && decide (modZ (D * ((a : Int) - e)) m = 0))) := Lib.hid (fun a e => by rw [hg])
  have hg1 : ∀ a e, g a e ≤ 1 := fun a e => by rw [hg]; exact b1_le _
  have HT : Hid (unM W m bs p 3 = sumN (fun a => sumN (g a) bs) bs) := Lib.hid (by unfold unM; rw [if_neg (by decide), hg, hDk])
  have HS1 : Hid (∀ a j, j ≤ bs → sumN (g a) j ≤ j) := Lib.hid (fun a j hj => by have := sumN_le (f := g a) (m := 1) j (fun i _ => hg1 a i); omega)
  have HS2 : Hid (∀ a, a ≤ bs → sumN (fun a => sumN (g a) bs) a ≤ 1296) := Lib.hid (fun a ha => by
    have := sumN_le (f := fun a => sumN (g a) bs) (m := 36) a (fun i _ => by have := HS1.out i bs (Nat.le_refl _); omega)
    omega)
  have p0 : (0 : Int) ≤ (p : Int) := by omega
  clear hr hb hw35 hg hg1 hDk hz0 hz1
  go_enter Try.func107, Try.ntmps107
  go_wp2_with fail
  go_loop [8, 12, 13] (fun cnt i _ => ∃ a : Nat, a ≤ bs ∧ i = .int .i64 a ∧ (∃ N : Nat, cnt = .int .i64 (N : Int) ∧ Hid (N = sumN (fun a => sumN (g a) bs) a) ∧ N ≤ 1296)) (fun _ i _ => bs - (intOf i).toNat)
  case atStart => exact ⟨0, by omega, rfl, ⟨0, rfl, Lib.hid rfl, by omega⟩⟩
  case round =>
    obtain ⟨a, ha, rfl, ⟨N, rfl, HN, hN⟩⟩ := hrel
    by_cases hlt : a < bs
    · go_wp2_with fail
      go_loop [8, 13] (fun cnt j => ∃ y : Nat, y ≤ bs ∧ j = .int .i64 y ∧ (∃ M : Nat, cnt = .int .i64 (M : Int) ∧ Hid (M = N + sumN (g a) y) ∧ M ≤ 1332)) (fun _ j => bs - (intOf j).toNat)
      case atStart => exact ⟨0, by omega, rfl, ⟨N, rfl, Lib.hid rfl, by omega⟩⟩
      case round =>
        obtain ⟨y, hy, rfl, ⟨M, rfl, HM, hM⟩⟩ := hrel
        by_cases hlb : y < bs
        · have hM2 : M + 1 ≤ 1332 := by
            have h1 := HM.out
            have h5 := HS1.out a y (by omega)
            omega
          have hgab := HG.out a y
          by_cases hay : a = y
          · subst hay
            have HN2 : Hid (M = N + sumN (g a) (a + 1)) := Lib.hid (by
              rw [sumN_succ, hgab, HM.out]
              simp [Proofs.Ytiokcflomchdcaa.b1])
            clear hgab
            go_wp2_with fail
            go_round
            case rel => exact ⟨a + 1, by omega, by go_num, ⟨M, rfl, HN2, by omega⟩⟩
            case measure => simp [intOf]; omega
          · have nay : ((a : Int) != y) = true := by simp; omega
            have nay2 : ¬ (a : Int) = y := by omega
            obtain ⟨P, hP⟩ : ∃ P, D * ((a : Int) - (y : Int)) = P := ⟨_, rfl⟩
            have hPb := mul_abs hDb (v := (a : Int) - (y : Int)) (by omega)
            rw [hP] at hPb hgab
            have eP : IntKind.i64.wrap P = P := IntWalk.i64_in _ (by omega)
            have CM := l01Mod_any P m w (by omega) (by omega)
            generalize modZ P m = v at CM hgab
            by_cases hv : v = 0
            · have HN2 : Hid (M + 1 = N + sumN (g a) (y + 1)) := Lib.hid (by
                have hh : (decide ((a : Int) ≠ (y : Int)) && decide (v = 0)) = true := by simp [hv, nay2]
                rw [sumN_succ, hgab, HM.out, hh]
                show N + sumN (g a) y + 1 = N + (sumN (g a) y + 1)
                omega)
              clear hgab
              subst hv
              go_wp2_with (go_at_call 147; (with_reducible refine (CM).mono ?_); rintro e w' ⟨rfl, rfl⟩)
              go_round
              case rel => exact ⟨y + 1, by omega, by go_num, ⟨M + 1, by go_num, HN2, by omega⟩⟩
              case measure => simp [intOf]; omega
            · have HN2 : Hid (M = N + sumN (g a) (y + 1)) := Lib.hid (by
                rw [sumN_succ, hgab, HM.out]
                simp [Proofs.Ytiokcflomchdcaa.b1, hv])
              have hvv : (v == 0) = false := by simp [hv]
              clear hgab
              go_wp2_with (go_at_call 147; (with_reducible refine (CM).mono ?_); rintro e w' ⟨rfl, rfl⟩)
              go_round
              case rel => exact ⟨y + 1, by omega, by go_num, ⟨M, rfl, HN2, by omega⟩⟩
              case measure => simp [intOf]; omega
        · obtain rfl : bs = y := by omega
          have HN2 : Hid (M = sumN (fun a => sumN (g a) bs) (a + 1)) := Lib.hid (by rw [sumN_succ, ← HN.out]; exact HM.out)
          have hM3 : M ≤ 1296 := by have := HS2.out (a + 1) (by omega); rw [HN2.out]; exact this
          go_wp2_with fail
          go_round
          case rel => exact ⟨a + 1, by omega, by go_num, ⟨M, rfl, HN2, hM3⟩⟩
          case measure => simp [intOf]; omega
    · obtain rfl : bs = a := by omega
      have HE : Hid (N = unM W m bs p 3) := Lib.hid (by rw [HT.out]; exact HN.out)
      go_wp2_with fail
      go_ret
      exact ⟨ret_int (by rw [← HE.out]), rfl⟩
set_option maxRecDepth 100000 in
set_option maxHeartbeats 4000000 in
theorem l03Unseen4_any {B b : Nat} (x : Wt) (A : Option Addr) (n c : Nat) (w : World) (hb : Blk w b (wtCells x A n c) 26) (hr : RowB .i64 B w A n x.W) {bs m : Nat} (f : x.Fine bs m n) (p : Nat) (hp : p + 3 ≤ n) :
    Calls Try.prog 107 #[.pointer (some ⟨b, 0, none⟩), .int .i64 4, .int .i64 p] w fun e w' => e = .returned (.int .i64 (unM x.W m bs p 4 : Nat)) ∧ w = w' := by
  have hb36 := f.b36
  have hm2 := f.m2
  have hm36 := f.m36
  have hn20 := f.n20
  have hw35 := f.w35
  have hfb := f.base
  have hfm := f.modulus
  clear f
  obtain ⟨base, modulus, target, W⟩ := x
  dsimp only at hr hw35 hfb hfm ⊢
  subst hfb
  subst hfm
  have q0 : w.cell? ⟨b, 0, none⟩ = some (.int .i64 bs) := hb.cell 0
  have q1 : w.cell? ⟨b, 1, none⟩ = some (.int .i64 m) := hb.cell 1
  have q3 : w.cell? ⟨b, 3, none⟩ = some (.slice A n c) := hb.cell 3
  obtain ⟨bW, oW, z0, rfl, _, hz0, hc0, _⟩ := hr.at_ (show p < n by omega)
  have hb0 := hw35 z0 (List.mem_of_getElem? hz0)
  obtain ⟨bV, oV, z1, hA, _, hz1, hc1, _⟩ := hr.at_ (show p + 2 < n by omega)
  cases hA
  have hb1 := hw35 z1 (List.mem_of_getElem? hz1)
  have e3 : ((p : Int) + 2).toNat = p + 2 := by omega
  have hc1' : w.cell? ⟨bW, oW + ((p : Int) + 2).toNat, none⟩ = some (.int .i64 z1) := by rw [e3]; exact hc1
  have l1 : (p : Int) + 2 < n := by omega
  obtain ⟨D, hD⟩ : ∃ D, z0 + z1 = D := ⟨_, rfl⟩
  have hDk : byK W p 4 = D := by
    rw [← hD]
    show wg W p + wg W (p + 2) = _
    rw [wg_of hz0, wg_of hz1]
  have hDb : -70 ≤ D ∧ D ≤ 70 := by omega
  have eD : IntKind.i64.wrap D = D := IntWalk.i64_in _ (by omega)
  obtain ⟨g, hg⟩ : ∃ g : Nat → Nat → Nat, g = fun (a e : Nat) => Proofs.Ytiokcflomchdcaa.b1 (decide ((a : Int) ≠ e) && decide (modZ (D * ((a : Int) - e)) m = 0)) := ⟨_, rfl⟩
  have HG : Hid (∀ a e : Nat, g a e = Proofs.Ytiokcflomchdcaa.b1 (decide ((a : Int) ≠ e) && decide (modZ (D * ((a : Int) - e)) m = 0))) := Lib.hid (fun a e => by rw [hg])
  have hg1 : ∀ a e, g a e ≤ 1 := fun a e => by rw [hg]; exact b1_le _
  have HT : Hid (unM W m bs p 4 = sumN (fun a => sumN (g a) bs) bs) := Lib.hid (by unfold unM; rw [if_neg (by decide), hg, hDk])
  have HS1 : Hid (∀ a j, j ≤ bs → sumN (g a) j ≤ j) := Lib.hid (fun a j hj => by have := sumN_le (f := g a) (m := 1) j (fun i _ => hg1 a i); omega)
  have HS2 : Hid (∀ a, a ≤ bs → sumN (fun a => sumN (g a) bs) a ≤ 1296) := Lib.hid (fun a ha => by
    have := sumN_le (f := fun a => sumN (g a) bs) (m := 36) a (fun i _ => by have := HS1.out i bs (Nat.le_refl _); omega)
    omega)
  have p0 : (0 : Int) ≤ (p : Int) := by omega
  clear hr hb hw35 hg hg1 hDk hz0 hz1
  go_enter Try.func107, Try.ntmps107
  go_wp2_with fail
  go_loop [8, 12, 13] (fun cnt i _ => ∃ a : Nat, a ≤ bs ∧ i = .int .i64 a ∧ (∃ N : Nat, cnt = .int .i64 (N : Int) ∧ Hid (N = sumN (fun a => sumN (g a) bs) a) ∧ N ≤ 1296)) (fun _ i _ => bs - (intOf i).toNat)
  case atStart => exact ⟨0, by omega, rfl, ⟨0, rfl, Lib.hid rfl, by omega⟩⟩
  case round =>
    obtain ⟨a, ha, rfl, ⟨N, rfl, HN, hN⟩⟩ := hrel
    by_cases hlt : a < bs
    · go_wp2_with fail
      go_loop [8, 13] (fun cnt j => ∃ y : Nat, y ≤ bs ∧ j = .int .i64 y ∧ (∃ M : Nat, cnt = .int .i64 (M : Int) ∧ Hid (M = N + sumN (g a) y) ∧ M ≤ 1332)) (fun _ j => bs - (intOf j).toNat)
      case atStart => exact ⟨0, by omega, rfl, ⟨N, rfl, Lib.hid rfl, by omega⟩⟩
      case round =>
        obtain ⟨y, hy, rfl, ⟨M, rfl, HM, hM⟩⟩ := hrel
        by_cases hlb : y < bs
        · have hM2 : M + 1 ≤ 1332 := by
            have h1 := HM.out
            have h5 := HS1.out a y (by omega)
            omega
          have hgab := HG.out a y
          by_cases hay : a = y
          · subst hay
            have HN2 : Hid (M = N + sumN (g a) (a + 1)) := Lib.hid (by
              rw [sumN_succ, hgab, HM.out]
              simp [Proofs.Ytiokcflomchdcaa.b1])
            clear hgab
            go_wp2_with fail
            go_round
            case rel => exact ⟨a + 1, by omega, by go_num, ⟨M, rfl, HN2, by omega⟩⟩
            case measure => simp [intOf]; omega
          · have nay : ((a : Int) != y) = true := by simp; omega
            have nay2 : ¬ (a : Int) = y := by omega
            obtain ⟨P, hP⟩ : ∃ P, D * ((a : Int) - (y : Int)) = P := ⟨_, rfl⟩
            have hPb := mul_abs hDb (v := (a : Int) - (y : Int)) (by omega)
            rw [hP] at hPb hgab
            have eP : IntKind.i64.wrap P = P := IntWalk.i64_in _ (by omega)
            have CM := l01Mod_any P m w (by omega) (by omega)
            generalize modZ P m = v at CM hgab
            by_cases hv : v = 0
            · have HN2 : Hid (M + 1 = N + sumN (g a) (y + 1)) := Lib.hid (by
                have hh : (decide ((a : Int) ≠ (y : Int)) && decide (v = 0)) = true := by simp [hv, nay2]
                rw [sumN_succ, hgab, HM.out, hh]
                show N + sumN (g a) y + 1 = N + (sumN (g a) y + 1)
                omega)
              clear hgab
              subst hv
              go_wp2_with (go_at_call 147; (with_reducible refine (CM).mono ?_); rintro e w' ⟨rfl, rfl⟩)
              go_round
              case rel => exact ⟨y + 1, by omega, by go_num, ⟨M + 1, by go_num, HN2, by omega⟩⟩
              case measure => simp [intOf]; omega
            · have HN2 : Hid (M = N + sumN (g a) (y + 1)) := Lib.hid (by
                rw [sumN_succ, hgab, HM.out]
                simp [Proofs.Ytiokcflomchdcaa.b1, hv])
              have hvv : (v == 0) = false := by simp [hv]
              clear hgab
              go_wp2_with (go_at_call 147; (with_reducible refine (CM).mono ?_); rintro e w' ⟨rfl, rfl⟩)
              go_round
              case rel => exact ⟨y + 1, by omega, by go_num, ⟨M, rfl, HN2, by omega⟩⟩
              case measure => simp [intOf]; omega
        · obtain rfl : bs = y := by omega
          have HN2 : Hid (M = sumN (fun a => sumN (g a) bs) (a + 1)) := Lib.hid (by rw [sumN_succ, ← HN.out]; exact HM.out)
          have hM3 : M ≤ 1296 := by have := HS2.out (a + 1) (by omega); rw [HN2.out]; exact this
          go_wp2_with fail
          go_round
          case rel => exact ⟨a + 1, by omega, by go_num, ⟨M, rfl, HN2, hM3⟩⟩
          case measure => simp [intOf]; omega
    · obtain rfl : bs = a := by omega
      have HE : Hid (N = unM W m bs p 4) := Lib.hid (by rw [HT.out]; exact HN.out)
      go_wp2_with fail
      go_ret
      exact ⟨ret_int (by rw [← HE.out]), rfl⟩
set_option maxRecDepth 100000 in
set_option maxHeartbeats 4000000 in
theorem l03Unseen5_any {B b : Nat} (x : Wt) (A : Option Addr) (n c : Nat) (w : World) (hb : Blk w b (wtCells x A n c) 26) (hr : RowB .i64 B w A n x.W) {bs m : Nat} (f : x.Fine bs m n) (p : Nat) (hp : p + 2 ≤ n) :
    Calls Try.prog 107 #[.pointer (some ⟨b, 0, none⟩), .int .i64 5, .int .i64 p] w fun e w' => e = .returned (.int .i64 (unM x.W m bs p 5 : Nat)) ∧ w = w' := by
  have hm2 := f.m2
  have hm36 := f.m36
  have hn20 := f.n20
  have hw35 := f.w35
  have hfm := f.modulus
  clear f
  obtain ⟨base, modulus, target, W⟩ := x
  dsimp only at hr hw35 hfm ⊢
  subst hfm
  have q1 : w.cell? ⟨b, 1, none⟩ = some (.int .i64 m) := hb.cell 1
  have q3 : w.cell? ⟨b, 3, none⟩ = some (.slice A n c) := hb.cell 3
  obtain ⟨bW, oW, z0, rfl, _, hz0, hc0, _⟩ := hr.at_ (show p < n by omega)
  have hb0 := hw35 z0 (List.mem_of_getElem? hz0)
  obtain ⟨bV, oV, z1, hA, _, hz1, hc1, _⟩ := hr.at_ (show p + 1 < n by omega)
  cases hA
  have hb1 := hw35 z1 (List.mem_of_getElem? hz1)
  have e3 : ((p : Int) + 1).toNat = p + 1 := by omega
  have hc1' : w.cell? ⟨bW, oW + ((p : Int) + 1).toNat, none⟩ = some (.int .i64 z1) := by rw [e3]; exact hc1
  have l1 : (p : Int) + 1 < n := by omega
  obtain ⟨g, hg⟩ : ∃ g : Nat → Nat, g = fun d : Nat => 2 * Proofs.Ytiokcflomchdcaa.b1 (decide (modZ (phW W p ((d + 2 : Nat) : Int)) m = 0)) := ⟨_, rfl⟩
  have HG : Hid (∀ d : Nat, g d = 2 * Proofs.Ytiokcflomchdcaa.b1 (decide (modZ (z0 * ((d : Int) + 2) - z0 - z1 * ((d : Int) + 2)) m = 0))) := Lib.hid (fun d => by
    rw [hg]
    unfold phW
    rw [wg_of hz0, wg_of hz1]
    rfl)
  have HT : Hid (unM W m bs p 5 = sumN g 8) := Lib.hid (by unfold unM; rw [if_pos rfl, hg])
  have HS : Hid (∀ d, sumN g d ≤ d * 2) := Lib.hid (fun d => sumN_le d (fun i _ => by rw [hg]; have := b1_le (decide (modZ (phW W p ((i + 2 : Nat) : Int)) m = 0)); show 2 * _ ≤ 2; omega))
  have p0 : (0 : Int) ≤ (p : Int) := by omega
  clear hr hb hw35 hg hz0 hz1
  go_enter Try.func107, Try.ntmps107
  go_wp2_with fail
  go_loop [8, 10] (fun cnt i => ∃ d : Nat, d ≤ 8 ∧ (∃ e : Int, i = .int .i64 e ∧ Hid (e = (d : Int) + 2)) ∧ (∃ N : Nat, cnt = .int .i64 (N : Int) ∧ Hid (N = sumN g d) ∧ N ≤ 16)) (fun _ i => 10 - (intOf i).toNat)
  case atStart => exact ⟨0, by omega, ⟨2, rfl, Lib.hid rfl⟩, ⟨0, rfl, Lib.hid rfl, by omega⟩⟩
  case round =>
    obtain ⟨d, hd, ⟨e, rfl, he⟩, ⟨N, rfl, HN, hN⟩⟩ := hrel
    have hee := he.out
    have he2 : 2 ≤ e := by omega
    have he10 : e ≤ 10 := by omega
    by_cases hlt : e < 10
    · have hgd := HG.out d
      rw [← hee] at hgd
      obtain ⟨P0, hP0⟩ : ∃ P, z0 * e = P := ⟨_, rfl⟩
      obtain ⟨P1, hP1⟩ : ∃ P, z1 * e = P := ⟨_, rfl⟩
      have hPb := mul_abs (u := z0) (v := e) (by omega) (by omega)
      have hPc := mul_abs (u := z1) (v := e) (by omega) (by omega)
      rw [hP0] at hPb hgd
      rw [hP1] at hPc hgd
      have eP0 : IntKind.i64.wrap P0 = P0 := IntWalk.i64_in _ (by omega)
      have eP1 : IntKind.i64.wrap P1 = P1 := IntWalk.i64_in _ (by omega)
      have CM := l01Mod_any (P0 - z0 - P1) m w (by omega) (by omega)
      have hS := HS.out (d + 1)
      have hd8 : d < 8 := by omega
      generalize modZ (P0 - z0 - P1) m = v at CM hgd
      clear hee
      by_cases hv : v = 0
      · have HN2 : Hid (N + 2 = sumN g (d + 1)) := Lib.hid (by
          rw [sumN_succ, hgd, HN.out, show decide (v = 0) = true by simp [hv]]
          rfl)
        have hN2 : N + 2 ≤ 16 := by have := HN2.out; omega
        clear hgd hS
        subst hv
        go_wp2_with (go_at_call 147; (with_reducible refine (CM).mono ?_); rintro e w' ⟨rfl, rfl⟩)
        go_round
        case rel => exact ⟨d + 1, by omega, ⟨e + 1, by go_num, Lib.hid (by have := he.out; omega)⟩, ⟨N + 2, by go_num, HN2, hN2⟩⟩
        case measure => simp [intOf]; omega
      · have HN2 : Hid (N = sumN g (d + 1)) := Lib.hid (by
          rw [sumN_succ, hgd, HN.out, show decide (v = 0) = false by simp [hv]]
          rfl)
        have hvv : (v == 0) = false := by simp [hv]
        clear hgd hS
        go_wp2_with (go_at_call 147; (with_reducible refine (CM).mono ?_); rintro e w' ⟨rfl, rfl⟩)
        go_round
        case rel => exact ⟨d + 1, by omega, ⟨e + 1, by go_num, Lib.hid (by have := he.out; omega)⟩, ⟨N, rfl, HN2, hN⟩⟩
        case measure => simp [intOf]; omega
    · have hd8 : d = 8 := by omega
      have HE : Hid (N = unM W m bs p 5) := Lib.hid (by rw [HT.out, HN.out, hd8])
      clear hee
      go_wp2_with fail
      go_ret
      exact ⟨ret_int (by rw [← HE.out]), rfl⟩
theorem l03Unseen_any {B b : Nat} (x : Wt) (A : Option Addr) (n c : Nat) (w : World) (hb : Blk w b (wtCells x A n c) 26) (hr : RowB .i64 B w A n x.W) {bs m : Nat} (f : x.Fine bs m n) (k : Nat) (hk : k < 6) (p : Nat) (hp : p + sizeK k ≤ n) :
    Calls Try.prog 107 #[.pointer (some ⟨b, 0, none⟩), .int .i64 k, .int .i64 p] w fun e w' => e = .returned (.int .i64 (unM x.W m bs p k : Nat)) ∧ w = w' := by
  match k, hk, hp with
  | 0, _, hp => exact l03Unseen0_any x A n c w hb hr f p hp
  | 1, _, hp => exact l03Unseen1_any x A n c w hb hr f p hp
  | 2, _, hp => exact l03Unseen2_any x A n c w hb hr f p hp
  | 3, _, hp => exact l03Unseen3_any x A n c w hb hr f p hp
  | 4, _, hp => exact l03Unseen4_any x A n c w hb hr f p hp
  | 5, _, hp => exact l03Unseen5_any x A n c w hb hr f p hp
end Go.Proofs.Ytiokcflomchdcaa
