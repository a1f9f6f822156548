/-
  Spoken numbers of the model.
-/
import Derived.Test.YtfmlmgebomapjaaSkY
import Derived.Test.YtfmlmgebomapjaaSpS
namespace Go.Proofs.Ytfmlmgebomapjaa
open Go Go.RowKit

theorem below_dr {B : Nat} {W w2 : World} (h : Below B W.drew w2) : Below B W w2 := ⟨h.os, h.tape, h.output, h.size, h.block⟩
theorem sk_np {F S : ByteArray} {n k : Int} (h : nmOk F S k = false) : skOk F S n k = false := by
  unfold nmOk pwOk at h
  unfold skOk
  rcases h1 : spB F S with _ | _
  · rfl
  · rw [h1] at h
    rcases h2 : inB k 1 8 with _ | _
    · simp
    · rw [h2] at h
      simp only [Bool.true_and] at h ⊢
      rw [h]; rfl
theorem sk_all {F S : ByteArray} {n k : Int} (h : nmOk F S k = true) : skOk F S n k = inB n 0 (nmV F S k - 1) := by
  have hv : nmV F S k = (((F.size * S.size) ^ k.toNat : Nat) : Int) := by unfold nmV; rw [if_pos h]
  rw [hv]
  unfold nmOk pwOk at h
  simp only [Bool.and_eq_true] at h
  unfold skOk
  rw [h.1, h.2.1, h.2.2]; rfl

set_option maxRecDepth 100000 in
set_option maxHeartbeats 8000000 in
theorem specSpeak_any (F S : ByteArray) (n k : Int) (w : World) (hF : F.size ≤ 1048576) (hS : S.size ≤ 1048576) :
    Calls Try.prog 15 #[spV F S, .int .i64 n, .int .i64 k] w fun e w' => e = skE F S n k ∧ Below w.heap.size w w' := by
  have CS := fun W g => l07Speech_any F S g W hF hS
  have CI := fun W => l00In_any k 1 8 W
  rcases h1 : spB F S with _ | _
  · have H : Hid (skOk F S n k = false) := Lib.hid (sk_np (by unfold nmOk; rw [h1]; rfl))
    rw [h1] at CS
    clear h1
    go_enter Try.func15, Try.ntmps15
    go_wp2_with (go_at_call 23; (with_reducible refine (CS _ _ (by simp) (by simp)).mono ?_); rintro e w' ⟨rfl, m, rfl⟩)
    go_ret2
    exact ⟨sk_no H.out, below_drewN ((Below.refl _ w).alloc (Nat.le_refl _) _) m⟩
  · obtain ⟨⟨hF1, hF20⟩, hS1, hS6⟩ := sp_parts h1
    obtain ⟨hb1, hb120⟩ := base_bd h1
    rw [h1] at CS
    rcases h2 : inB k 1 8 with _ | _
    · have H : Hid (skOk F S n k = false) := Lib.hid (sk_np (by unfold nmOk; rw [h2]; simp))
      rw [h2] at CI
      clear h1 h2
      go_enter Try.func15, Try.ntmps15
      go_wp2_with (first | (go_at_call 23; (with_reducible refine (CS _ _ (by simp) (by simp)).mono ?_); rintro e w' ⟨rfl, m, rfl⟩) | (go_at_call 26; (with_reducible refine (CI _).mono ?_); rintro e w' ⟨rfl, rfl⟩))
      go_ret2
      exact ⟨sk_no H.out, below_drewN ((Below.refl _ w).alloc (Nat.le_refl _) _) m⟩
    · have hk := inB_true.1 h2
      rw [h2] at CI
      obtain ⟨kn, rfl⟩ : ∃ kn : Nat, k = (kn : Int) := ⟨k.toNat, by omega⟩
      have hk8 : kn ≤ 8 := by omega
      have hk1 : 1 ≤ kn := by omega
      have CP := fun W => l07Power_any (F.size * S.size) kn W hb1 hb120 hk8
      obtain ⟨b, hb⟩ : ∃ b, b = F.size * S.size := ⟨_, rfl⟩
      have hmul : (F.size : Int) * (S.size : Int) = (b : Int) := by rw [hb]; simp
      have hnm : nmOk F S kn = pwOk b kn := by unfold nmOk; rw [h1, h2, hb]; rfl
      have hw64 : wrap64 (b : Int) = (b : Int) := IntWalk.wrap64_in _ (by rw [← hb] at hb1 hb120; omega)
      have HB := Lib.hid hb
      rw [← hb] at CP hb1 hb120
      rcases hp : pwOk b kn with _ | _
      · have H : Hid (skOk F S n kn = false) := Lib.hid (sk_np (by rw [hnm, hp]))
        have hv : pwV b kn = 0 := by unfold pwV; rw [hp]; rfl
        rw [hp, hv] at CP
        clear h1 h2 hp hv hnm hb
        go_enter Try.func15, Try.ntmps15
        go_wp2_with (first | (go_at_call 23; (with_reducible refine (CS _ _ (by simp) (by simp)).mono ?_); rintro e w' ⟨rfl, m, rfl⟩) | (go_at_call 26; (with_reducible refine (CI _).mono ?_); rintro e w' ⟨rfl, rfl⟩) | (go_at_call 27; (with_reducible refine (CP _).mono ?_); rintro e w' ⟨rfl, rfl⟩))
        go_ret2
        exact ⟨sk_no H.out, below_drewN ((Below.refl _ w).alloc (Nat.le_refl _) _) m⟩
      · have hok := sk_all (n := n) (hnm.trans hp)
        obtain ⟨P, hP⟩ : ∃ P, P = b ^ kn := ⟨_, rfl⟩
        have hPle : P ≤ 1000000000000000 := by
          unfold pwOk at hp
          rw [← hP] at hp
          simpa using hp
        have hP1 : 1 ≤ P := by rw [hP]; exact Nat.one_le_pow _ _ hb1
        have hv : pwV b kn = (P : Int) := by unfold pwV; rw [if_pos hp, hP]
        have hnv : nmV F S kn = (P : Int) := by unfold nmV; rw [if_pos (hnm.trans hp), ← hb, hP]; simp
        rw [hnv] at hok
        rw [hp, hv] at CP
        have CN := fun W => l00In_any n 0 ((P : Int) - 1) W
        rcases hin : inB n 0 ((P : Int) - 1) with _ | _
        · have H : Hid (skOk F S n kn = false) := Lib.hid (hok.trans hin)
          rw [hin] at CN
          clear h1 h2 hp hv hnv hnm hb hok hin hP
          go_enter Try.func15, Try.ntmps15
          go_wp2_with (first | (go_at_call 23; (with_reducible refine (CS _ _ (by simp) (by simp)).mono ?_); rintro e w' ⟨rfl, m, rfl⟩) | (go_at_call 27; (with_reducible refine (CP _).mono ?_); rintro e w' ⟨rfl, rfl⟩) | (go_at_call 26; (with_reducible refine (CI _).mono ?_); rintro e w' ⟨rfl, rfl⟩) | (go_at_call 26; (with_reducible refine (CN _).mono ?_); rintro e w' ⟨rfl, rfl⟩))
          go_ret2
          exact ⟨sk_no H.out, below_drewN ((Below.refl _ w).alloc (Nat.le_refl _) _) m⟩
        · have H : Hid (skOk F S n kn = true) := Lib.hid (hok.trans hin)
          have hn := inB_true.1 hin
          obtain ⟨nn, rfl⟩ : ∃ nn : Nat, n = (nn : Int) := ⟨n.toNat, by omega⟩
          have hnn : nn ≤ 1000000000000000 := by omega
          rw [hin] at CN
          obtain ⟨L, hL⟩ : ∃ L, L = sylL F S nn b kn := ⟨_, rfl⟩
          have HL := Lib.hid hL
          clear h1 h2 hp hv hnv hnm hb hok hin hP hn hL
          go_enter Try.func15, Try.ntmps15
          go_wp2_with (first | (go_at_call 23; (with_reducible refine (CS _ _ (by simp) (by simp)).mono ?_); rintro e w' ⟨rfl, m, rfl⟩) | (go_at_call 27; (with_reducible refine (CP _).mono ?_); rintro e w' ⟨rfl, rfl⟩) | (go_at_call 26; (with_reducible refine (CI _).mono ?_); rintro e w' ⟨rfl, rfl⟩) | (go_at_call 26; (with_reducible refine (CN _).mono ?_); rintro e w' ⟨rfl, rfl⟩))
          obtain ⟨W0, hW0⟩ : ∃ W0, W0 = w.alloc (.cells #[.string F, .string S] 30) := ⟨_, rfl⟩
          have HB0 : Hid (Below w.heap.size w W0) := Lib.hid (by rw [hW0]; exact (Below.refl _ w).alloc (Nat.le_refl _) _)
          have z0 : W0.cell? ⟨w.heap.size, 0, none⟩ = some (.string F) := by rw [hW0]; simp
          have z1 : W0.cell? ⟨w.heap.size, 1, none⟩ = some (.string S) := by rw [hW0]; simp
          have zl : w.heap.size < W0.heap.size := by rw [hW0]; simp
          rw [← hW0]
          clear hW0
          go_loopw [1, 12, 13, 14, 15] (fun a v y _ _ wr => ∃ (i x : Nat) (u : ByteArray), i ≤ kn ∧ y = .int .i64 i ∧ a = .int .i64 (x : Int) ∧ Hid (x = nn / b ^ i) ∧ v = .string u ∧ Hid (u = jnD (L.drop (kn - i))) ∧ Below W0.heap.size W0 wr) (fun _ _ y _ _ _ => kn - (intOf y).toNat)
          case atStart => exact ⟨0, nn, _, by omega, rfl, rfl, Lib.hid (by simp), rfl, Lib.hid (by rw [HL.out, List.drop_of_length_le (by rw [sylL_len]; omega)]; rfl), below_drewN (Below.refl _ _) m⟩
          case round =>
            obtain ⟨i, x, u, hi, rfl, rfl, hx, rfl, hu, hbl⟩ := hrel
            obtain ⟨W, hW⟩ : ∃ W, W = wr := ⟨_, rfl⟩
            rw [← hW] at hbl ⊢
            clear hW
            have hsz := hbl.size
            have y0 : W.cell? ⟨w.heap.size, 0, none⟩ = some (.string F) := (hbl.cell (p := ⟨w.heap.size, 0, none⟩) zl).trans z0
            have y1 : W.cell? ⟨w.heap.size, 1, none⟩ = some (.string S) := (hbl.cell (p := ⟨w.heap.size, 1, none⟩) zl).trans z1
            by_cases hlt : i < kn
            · obtain ⟨d, hd⟩ : ∃ d, d = x % b := ⟨_, rfl⟩
              obtain ⟨x', hx'⟩ : ∃ x', x' = x / b := ⟨_, rfl⟩
              have hxle : x ≤ 1000000000000000 := by rw [hx.out]; exact Nat.le_trans (Nat.div_le_self _ _) hnn
              have hx'le : x' ≤ 1000000000000000 := by rw [hx']; exact Nat.le_trans (Nat.div_le_self _ _) hxle
              have hdb : d < F.size * S.size := by rw [hd, ← HB.out]; exact Nat.mod_lt _ hb1
              obtain ⟨hd1, hd2⟩ := syl_parts F S hdb
              have hd120 : d < 120 := by rw [← HB.out] at hdb; omega
              have HD : Hid (L.drop (kn - (i + 1)) = syl F S d :: L.drop (kn - i)) := Lib.hid (by
                rw [HL.out, drop_step F S nn b hlt]
                congr 2
                unfold dgt
                rw [← hx.out, hd])
              have HX : Hid (x' = nn / b ^ (i + 1)) := Lib.hid (by rw [hx', hx.out, dgt_div])
              have hmd : (x : Int) % (b : Int) = (d : Int) := by rw [hd]; simp
              have hdv : (x : Int) / (b : Int) = (x' : Int) := by rw [hx']; simp
              obtain ⟨fa, hfa⟩ : ∃ a, a = d / S.size := ⟨_, rfl⟩
              obtain ⟨sb, hsb⟩ : ∃ b, b = d % S.size := ⟨_, rfl⟩
              rw [← hfa] at hd1
              rw [← hsb] at hd2
              have hq : (d : Int) / (S.size : Int) = (fa : Int) := by rw [hfa]; simp
              have hr : (d : Int) % (S.size : Int) = (sb : Int) := by rw [hsb]; simp
              have hne : ¬ (S.size : Int) = 0 := by omega
              have hne2 : ((S.size : Int) == 0) = false := by rw [beq_eq_false_iff_ne]; exact hne
              have hbn : ¬ (b : Int) = 0 := by omega
              have hbn2 : ((b : Int) == 0) = false := by rw [beq_eq_false_iff_ne]; exact hbn
              have ha20 : (fa : Int) < (F.size : Int) := by omega
              have hb20 : (sb : Int) < (S.size : Int) := by omega
              have HE : Hid (syl F S d = ⟨#[F[fa], S[sb]]⟩) := Lib.hid (by
                unfold syl
                rw [← hfa, ← hsb]
                have e1 : F.data.getD fa 0 = F[fa] := by simp [Array.getD, hd1]; rfl
                have e2 : S.data.getD sb 0 = S[sb] := by simp [Array.getD, hd2]; rfl
                rw [e1, e2])
              have hus : u.size ≤ 3 * i := by rw [hu.out, HL.out]; exact jn_sylL F S nn b kn i hi
              have hquo : IntKind.i64.wrap ((d : Int).tdiv (S.size : Int)) = (fa : Int) := by
                rw [IntWalk.i64_quo _ _ (by omega)]; exact hq
              have hrem : (d : Int).tmod (S.size : Int) = (sb : Int) := by rw [IntWalk.rem_in _ _ (by omega)]; exact hr
              have hwr : IntKind.i64.wrap (sb : Int) = (sb : Int) := IntWalk.i64_in _ (by omega)
              have hcv := conv_two ((W.alloc (.cells #[.int .u8 (F[fa].toNat : Int), .int .u8 (S[sb].toNat : Int)] 5)).drew) W.heap.size F[fa] S[sb] (by simp) (by simp)
              have hBN : Hid (Below W0.heap.size W0 (W.alloc (.cells #[.int .u8 (F[fa].toNat : Int), .int .u8 (S[sb].toNat : Int)] 5)).drew) := Lib.hid ((hbl.alloc hsz _).drew)
              have ssz : (⟨#[F[fa], S[sb]]⟩ : ByteArray).size = 2 := rfl
              obtain ⟨sy, hsy⟩ : ∃ sy : ByteArray, sy = ⟨#[F[fa], S[sb]]⟩ := ⟨_, rfl⟩
              rw [← hsy] at hcv HE ssz
              have hlen2 : sy.size + u.size ≤ 800 := by omega
              clear hd hx' hfa hsb hdb hsy
              by_cases hi0 : i = 0
              · subst hi0
                have HU : Hid (sy ++ u = jnD (L.drop (kn - (0 + 1)))) := Lib.hid (by
                  rw [HD.out, HE.out]
                  have h6 : L.drop (kn - 0) = [] := List.drop_of_length_le (by rw [HL.out, sylL_len]; omega)
                  rw [h6, jnD_one]
                  have h7 : u = ByteArray.empty := by rw [hu.out, h6]; rfl
                  rw [h7]; simp)
                go_wp2_with fail
                go_region
                go_wp2_with fail
                go_roundw
                case rel => exact ⟨1, x', _, by omega, rfl, rfl, HX, rfl, HU, hBN.out⟩
                case measure => simp [intOf]; omega
              · have hi1 : 0 < (i : Int) := by omega
                have HU : Hid ((sy ++ ⟨#[45]⟩) ++ u = jnD (L.drop (kn - (i + 1)))) := Lib.hid (by
                  rw [HD.out, HE.out, jnD_cons _ (by
                    intro e
                    have := congrArg List.length e
                    rw [List.length_drop, HL.out, sylL_len] at this
                    simp at this
                    omega), ← hu.out])
                have h45 : (sy ++ ⟨#[45]⟩).size = 3 := by rw [ByteArray.size_append, ssz]; rfl
                have hlen3 : (sy ++ ⟨#[45]⟩).size + u.size ≤ 800 := by omega
                have hlen4 : sy.size + 1 ≤ 800 := by omega
                have hlen5 : sy.size + 1 + u.size ≤ 800 := by omega
                clear h45
                go_wp2_with fail
                go_region
                go_wp2_with fail
                go_roundw
                case rel => exact ⟨i + 1, x', _, by omega, by go_num, rfl, HX, rfl, HU, hBN.out⟩
                case measure => simp [intOf]; omega
            · obtain rfl : i = kn := by omega
              have HU : Hid (u = jnD (sylL F S (((nn : Nat) : Int)).toNat (F.size * S.size) (((i : Nat) : Int)).toNat)) := Lib.hid (by
                rw [hu.out, Nat.sub_self, List.drop_zero, HL.out, HB.out]; simp)
              go_wp2_with fail
              go_ret2
              exact ⟨sk_yes H.out HU.out, HB0.out.trans (hbl.mono (Nat.le_of_lt zl))⟩
end Go.Proofs.Ytfmlmgebomapjaa
