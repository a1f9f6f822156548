/-
  Spoken numbers of the program, and the law's walk.
-/
import Derived.Test.YtfmlmgebomapjaaSkS
import Derived.Test.YtfmlmgebomapjaaSpL
import Derived.Test.YtfmlmgebomapjaaOwnK
import Derived.Deep.RegionWith
namespace Go.Proofs.Ytfmlmgebomapjaa
open Go Go.RowKit

theorem infoStrK : (Try.prog.info? 9).map (fun i => (i.zero, i.size, i.bytes)) = some (some (.string ByteArray.empty), 1, 16) := by kernel_rfl
def rowC (L : List ByteArray) (J : Nat) : List Value := List.replicate J (.string ByteArray.empty) ++ (L.drop J).map Value.string
theorem rowC_len {L : List ByteArray} {J : Nat} (h : J ≤ L.length) : (rowC L J).length = L.length := by simp [rowC]; omega
theorem rowC_at (L : List ByteArray) (J : Nat) : (rowC L (J + 1))[J]? = some (.string ByteArray.empty) := by
  unfold rowC
  rw [List.getElem?_append_left (by simp)]; simp
theorem rowC_set {L : List ByteArray} {J : Nat} {x : ByteArray} (h : L.drop J = x :: L.drop (J + 1)) : (rowC L (J + 1)).set J (.string x) = rowC L J := by
  unfold rowC
  rw [h, List.replicate_succ', List.append_assoc, List.set_append_right _ _ (by simp)]
  simp

set_option maxRecDepth 100000 in
set_option maxHeartbeats 8000000 in
theorem implSpeak_any (F S : ByteArray) (n k : Int) (w : World) (hF : F.size ≤ 1048576) (hS : S.size ≤ 1048576) :
    Calls Try.prog 16 #[spV F S, .int .i64 n, .int .i64 k] w fun e w' => e = skE F S n k ∧ Below w.heap.size w w' := by
  have CM := fun W => numbers_any F S k W hF hS
  rcases hm : nmOk F S k with _ | _
  · have H : Hid (skOk F S n k = false) := Lib.hid (sk_np hm)
    have hv : nmV F S k = 0 := by unfold nmV; rw [hm]; rfl
    rw [hm, hv] at CM
    clear hm hv
    go_enter Try.func16, Try.ntmps16
    go_wp2_with (go_at_call 28; (with_reducible refine (CM _).mono ?_); rintro e w1 ⟨rfl, b1⟩)
    go_ret2
    exact ⟨sk_no H.out, ((Below.refl _ w).alloc (Nat.le_refl _) _).trans (b1.mono (by simp))⟩
  · have hok := sk_all (n := n) hm
    have hm' := hm
    unfold nmOk at hm'
    simp only [Bool.and_eq_true] at hm'
    obtain ⟨h1, h2, h3⟩ := hm'
    obtain ⟨⟨hF1, hF20⟩, hS1, hS6⟩ := sp_parts h1
    obtain ⟨hb1, hb120⟩ := base_bd h1
    have hk := inB_true.1 h2
    obtain ⟨kn, rfl⟩ : ∃ kn : Nat, k = (kn : Int) := ⟨k.toNat, by omega⟩
    have hk8 : kn ≤ 8 := by omega
    have hk1 : 1 ≤ kn := by omega
    have CB := fun W => base_any F S W hF20 hS6
    obtain ⟨b, hb⟩ : ∃ b, b = F.size * S.size := ⟨_, rfl⟩
    have HB := Lib.hid hb
    obtain ⟨P, hP⟩ : ∃ P, P = b ^ kn := ⟨_, rfl⟩
    have hnv : nmV F S kn = (P : Int) := by unfold nmV; rw [if_pos hm, ← hb, hP]; simp
    have hPle : P ≤ 1000000000000000 := by
      unfold pwOk at h3
      rw [← hb, Int.toNat_natCast, ← hP] at h3
      simpa using h3
    have hP1 : 1 ≤ P := by rw [hP, hb]; exact Nat.one_le_pow _ _ hb1
    rw [← hb] at CB hb1 hb120
    rw [hnv] at hok
    rw [hm, hnv] at CM
    have CN := fun W => within_any n 0 ((P : Int) - 1) W
    rcases hin : inB n 0 ((P : Int) - 1) with _ | _
    · have H : Hid (skOk F S n kn = false) := Lib.hid (hok.trans hin)
      rw [hin] at CN
      clear h1 h2 h3 hm hnv hb hok hin hP
      go_enter Try.func16, Try.ntmps16
      go_wp2_with (first | (go_at_call 28; (with_reducible refine (CM _).mono ?_); rintro e w1 ⟨rfl, b1⟩) | (go_at_call 29; (with_reducible refine (CN _).mono ?_); rintro e w' ⟨rfl, rfl⟩))
      go_ret2
      exact ⟨sk_no H.out, ((Below.refl _ w).alloc (Nat.le_refl _) _).trans (b1.mono (by simp))⟩
    · have H : Hid (skOk F S n kn = true) := Lib.hid (hok.trans hin)
      have hn := inB_true.1 hin
      obtain ⟨nn, rfl⟩ : ∃ nn : Nat, n = (nn : Int) := ⟨n.toNat, by omega⟩
      have hnn : nn ≤ 1000000000000000 := by omega
      rw [hin] at CN
      obtain ⟨L, hL⟩ : ∃ L, L = sylL F S nn b kn := ⟨_, rfl⟩
      have HL := Lib.hid hL
      have HLL : Hid (L.length = kn) := Lib.hid (by rw [hL, sylL_len])
      obtain ⟨i0, hif, hz0, hz1, hz2⟩ := info_parts infoStrK
      clear h1 h2 h3 hm hnv hb hok hin hP hn hL
      go_enter Try.func16, Try.ntmps16
      go_wp2_with fail
      (go_at_call 28; (with_reducible refine (CM _).mono ?_); rintro e w1 ⟨rfl, b1⟩)
      have B1 : Hid (Below w.heap.size w w1) := Lib.hid (((Below.refl _ w).alloc (Nat.le_refl _) _).trans (b1.mono (by simp)))
      have z0 : w1.cell? ⟨w.heap.size, 0, none⟩ = some (.string F) := (b1.cell (p := ⟨w.heap.size, 0, none⟩) (by simp)).trans (by simp)
      have z1 : w1.cell? ⟨w.heap.size, 1, none⟩ = some (.string S) := (b1.cell (p := ⟨w.heap.size, 1, none⟩) (by simp)).trans (by simp)
      have zl : w.heap.size < w1.heap.size := by have := b1.size; simp at this; omega
      clear b1
      go_wp2_with (first | (go_at_call 29; (with_reducible refine (CN _).mono ?_); rintro e w' ⟨rfl, rfl⟩) | (refine wpList_make_full _ rfl _ _ 49 rfl w1.heap.size 9 i0 (.string ByteArray.empty) 1 Try.underlying49 hif hz0 hz1 .i64 .i64 kn kn kn rfl rfl rfl rfl ?m1 ?m2 ?m3 ?_))
      case m1 => rw [hz2]; omega
      case m2 => unfold maxLen; omega
      case m3 => exact Nat.le_refl _
      intro w2 hown hg
      have hbel : Below w1.heap.size w1 w2 := (Below.refl _ w1).grown hg (Nat.le_refl _) (fun k hk => by cases hk)
      obtain ⟨gR, hgR⟩ : ∃ g, g = w1.heap.size := ⟨_, rfl⟩
      have hgl : w1.heap.size ≤ gR := by omega
      have hRL : Hid (w2.ownsRow w1.heap.size 9 1 (.slice (some ⟨gR, 0, none⟩) kn kn) kn (rowC L (kn - 0))) := Lib.hid (by
        have e : rowC L (kn - 0) = (madeCells #[Value.string ByteArray.empty] kn).toList := by
          unfold rowC
          rw [List.drop_of_length_le (by rw [HLL.out]; omega), toList_madeCells_one]; simp
        rw [e, hgR]; exact hown)
      rw [← hgR]
      clear hown hg hgR
      go_wp2_with fail
      go_loopw [1, 11, 30] (fun a _ y wr => ∃ (i x : Nat), i ≤ kn ∧ y = .int .i64 i ∧ a = .int .i64 (x : Int) ∧ Hid (x = nn / b ^ i) ∧ Hid (wr.ownsRow w1.heap.size 9 1 (.slice (some ⟨gR, 0, none⟩) kn kn) kn (rowC L (kn - i))) ∧ Below w1.heap.size w1 wr) (fun _ _ y _ => kn - (intOf y).toNat)
      case atStart => exact ⟨0, nn, by omega, rfl, rfl, Lib.hid (by simp), hRL, hbel⟩
      case round =>
        obtain ⟨i, x, hi, rfl, rfl, hx, hR, hbl⟩ := hrel
        obtain ⟨W, hW⟩ : ∃ W, W = wr := ⟨_, rfl⟩
        rw [← hW] at hR hbl ⊢
        clear hW hRL
        have hsz := hbl.size
        have y0 : W.cell? ⟨w.heap.size, 0, none⟩ = some (.string F) := (hbl.cell (p := ⟨w.heap.size, 0, none⟩) zl).trans z0
        have y1 : W.cell? ⟨w.heap.size, 1, none⟩ = some (.string S) := (hbl.cell (p := ⟨w.heap.size, 1, none⟩) zl).trans z1
        have ylt : w.heap.size < W.heap.size := by omega
        by_cases hlt : i < kn
        · obtain ⟨d, hd⟩ : ∃ d, d = x % b := ⟨_, rfl⟩
          obtain ⟨x', hx'⟩ : ∃ x', x' = x / b := ⟨_, rfl⟩
          have hxle : x ≤ 1000000000000000 := by rw [hx.out]; exact Nat.le_trans (Nat.div_le_self _ _) hnn
          have hx'le : x' ≤ 1000000000000000 := by rw [hx']; exact Nat.le_trans (Nat.div_le_self _ _) hxle
          have hdb : d < F.size * S.size := by rw [hd, ← HB.out]; exact Nat.mod_lt _ hb1
          have hd120 : d < 120 := by rw [← HB.out] at hdb; omega
          have CY := fun W => syllable_any F S d W hF20 hS6 hdb
          obtain ⟨J, hJ⟩ : ∃ J, kn - i = J + 1 := ⟨kn - i - 1, by omega⟩
          have hJk : J < kn := by omega
          have HD : Hid (L.drop J = syl F S d :: L.drop (J + 1)) := Lib.hid (by
            have h5 := drop_step F S nn b hlt
            rw [← HL.out, show kn - (i + 1) = J by omega, hJ] at h5
            rw [h5]
            congr 2
            unfold dgt
            rw [← hx.out, hd])
          have HX : Hid (x' = nn / b ^ (i + 1)) := Lib.hid (by rw [hx', hx.out, dgt_div])
          have HJ : Hid (kn - (i + 1) = J) := Lib.hid (by omega)
          rw [hJ] at hR
          have hmd : (x : Int) % (b : Int) = (d : Int) := by rw [hd]; simp
          have hdv : (x : Int) / (b : Int) = (x' : Int) := by rw [hx']; simp
          have hbn : ¬ (b : Int) = 0 := by omega
          have hbn2 : ((b : Int) == 0) = false := by rw [beq_eq_false_iff_ne]; exact hbn
          have hrem : (x : Int).tmod (b : Int) = (d : Int) := by rw [IntWalk.rem_in _ _ (by omega)]; exact hmd
          have hwd : IntKind.i64.wrap (d : Int) = (d : Int) := IntWalk.i64_in _ (by omega)
          have hJi : (kn : Int) - 1 - (i : Int) = (J : Int) := by omega
          have hJl : (J : Int) < (kn : Int) := by omega
          have hw1 : IntKind.i64.wrap ((kn : Int) - 1) = (kn : Int) - 1 := IntWalk.i64_in _ (by omega)
          have hw2 : IntKind.i64.wrap (J : Int) = (J : Int) := IntWalk.i64_in _ (by omega)
          have hgW : gR < W.heap.size := (hR.out.lt gR rfl).2
          have hne : w.heap.size ≠ gR := by omega
          have CBd := CB W.drew
          obtain ⟨sy, hsy⟩ : ∃ sy, sy = syl F S d := ⟨_, rfl⟩
          rw [← hsy] at CY HD
          clear hd hx' hdb hJ hsy
          go_wp2_with fail
          go_region_with (first | (go_at_call 31; (with_reducible refine (CBd).mono ?_); rintro e w5 ⟨rfl, bf5⟩; have p50 : w5.cell? ⟨w.heap.size, 0, none⟩ = some (.string F) := ((below_dr bf5).cell (p := ⟨w.heap.size, 0, none⟩) ylt).trans y0; have p51 : w5.cell? ⟨w.heap.size, 1, none⟩ = some (.string S) := ((below_dr bf5).cell (p := ⟨w.heap.size, 1, none⟩) ylt).trans y1; have X5 := Lib.hid (below_dr bf5); clear bf5) | (go_at_call 30; (with_reducible refine (CY _).mono ?_); rintro e w6 ⟨rfl, bf6⟩; have X6 := Lib.hid (X5.out.trans (bf6.mono X5.out.size)); have R6 : w6.ownsRow w1.heap.size 9 1 (.slice (some ⟨gR, 0, none⟩) kn kn) kn (rowC L (J + 1)) := ownsRow_keep hR.out (fun g hg => X6.out.block g (by injection hg with hg; injection hg with hg; subst hg; exact hgW)); have c6 : w6.cell? ⟨gR, J, none⟩ = some (.string ByteArray.empty) := (R6.cellAt J (by omega)).trans (rowC_at L J); have f6 : w6.frozen? ⟨gR, J, none⟩ = false := R6.frozenAt J; have S6 := Lib.hid (R6.stored J (.string sy)).1; clear bf6 R6))
          all_goals
            obtain ⟨w7, hw7⟩ : ∃ w7, w7 = w6.setCell ⟨gR, J, none⟩ (.string sy) := ⟨_, rfl⟩
            rw [← hw7]
            have S7 : Hid (w7.ownsRow w1.heap.size 9 1 (.slice (some ⟨gR, 0, none⟩) kn kn) kn (rowC L (kn - (i + 1)))) := Lib.hid (by
              rw [HJ.out, ← rowC_set HD.out, hw7]; exact S6.out)
            have B7 : Hid (Below w1.heap.size w1 w7) := Lib.hid (by rw [hw7]; exact (hbl.trans (X6.out.mono hsz)).setCell hgl _)
            have t0 : w7.cell? ⟨w.heap.size, 0, none⟩ = some (.string F) := (B7.out.cell (p := ⟨w.heap.size, 0, none⟩) zl).trans z0
            have t1 : w7.cell? ⟨w.heap.size, 1, none⟩ = some (.string S) := (B7.out.cell (p := ⟨w.heap.size, 1, none⟩) zl).trans z1
            clear hw7 S6 c6 f6
            go_wp2_with (go_at_call 31; (with_reducible refine (CB _).mono ?_); rintro e w8 ⟨rfl, b8⟩)
            have B8 := Lib.hid (B7.out.trans (b8.mono B7.out.size))
            have S8 : Hid (w8.ownsRow w1.heap.size 9 1 (.slice (some ⟨gR, 0, none⟩) kn kn) kn (rowC L (kn - (i + 1)))) := Lib.hid (ownsRow_keep S7.out (fun g hg => b8.block g (by injection hg with hg; injection hg with hg; subst hg; exact (S7.out.lt gR rfl).2)))
            clear b8
            go_roundw
            case rel => exact ⟨i + 1, x', by omega, by go_num, rfl, HX, S8, B8.out⟩
            case measure => simp [intOf]; omega
        · obtain rfl : i = kn := by omega
          have hR0 := hR.out
          have e0 : rowC L (i - i) = L.map Value.string := by rw [Nat.sub_self]; simp [rowC]
          rw [e0] at hR0
          have hjs : (jnD L).size ≤ 3 * i := by
            have := jn_sylL F S nn b i i (Nat.le_refl _)
            rw [Nat.sub_self, List.drop_zero, ← HL.out] at this
            exact this
          have hjl : (Lib.join (L.map (·.data.toList)) [45]).length ≤ 140737488355328 := by
            have e2 : (jnD L).size = (Lib.join (L.map (·.data.toList)) [45]).length := by
              show (Lib.join (L.map (·.data.toList)) [45]).toArray.size = _
              simp
            omega
          have hgW : gR < W.heap.size := (hR.out.lt gR rfl).2
          have CJ := Try.strings_Join gR 0 i L ⟨#[45]⟩ W (fun j x hj => by
            rw [Nat.zero_add, hR0.cellAt j (by have := (List.getElem?_eq_some_iff.1 hj).1; have := HLL.out; omega), List.getElem?_map, hj]; rfl) hgW (by have := HLL.out; omega) (by have := HLL.out; omega) hjl
          rw [HLL.out] at CJ
          have CJ2 : Calls Try.prog 32 #[.slice (some ⟨gR, 0, none⟩) i i, .string ⟨#[45]⟩] W fun e w' => e = .returned (.string (jnD L)) ∧ Below W.heap.size W w' := CJ
          obtain ⟨T, hT⟩ : ∃ T, T = jnD L := ⟨_, rfl⟩
          rw [← hT] at CJ2
          have HU : Hid (T = jnD (sylL F S (((nn : Nat) : Int)).toNat (F.size * S.size) (((i : Nat) : Int)).toNat)) := Lib.hid (by
            rw [hT, HL.out, HB.out]; simp)
          clear CJ hR0 hR e0 hjs hjl hT
          go_wp2_with fail
          (go_at_call 32; (with_reducible refine (CJ2).mono ?_); rintro e w5 ⟨rfl, b5⟩)
          have B5 := Lib.hid (B1.out.trans ((hbl.trans (b5.mono hsz)).mono B1.out.size))
          clear b5
          go_wp2_with fail
          go_ret2
          exact ⟨sk_yes H.out HU.out, B5.out⟩

set_option maxRecDepth 100000 in
set_option maxHeartbeats 2000000 in
theorem speak_walk (F S : ByteArray) (n k : Int) (w : World) (hF : F.size ≤ maxLen) (hS : S.size ≤ maxLen) :
    Calls Try.prog 6 #[.agg #[.string F, .string S], .int .i64 n, .int .i64 k] w fun e w' => e = .returned (.bool true) ∧ Below w.heap.size w w' := by
  obtain ⟨u, ok, hu⟩ : ∃ u ok, skE F S n k = .returned (.tuple #[.string u, .bool ok]) := ⟨_, _, rfl⟩
  have HE := Lib.hid hu
  clear hu
  go_enter Try.func6, Try.ntmps6
  go_wp2_with fail
  (go_at_call 11; (with_reducible refine (szSpeech_any F S _ hF hS).mono ?_); rintro e w1 ⟨⟨z, rfl, hz⟩, b1⟩)
  have B1 : Hid (Below w.heap.size w w1) := Lib.hid (((Below.refl _ w).alloc (Nat.le_refl _) _).trans (b1.mono (by simp)))
  have q0 : w1.cell? ⟨w.heap.size, 0, none⟩ = some (.string F) := (b1.cell (p := ⟨w.heap.size, 0, none⟩) (by simp)).trans (by simp)
  have q1 : w1.cell? ⟨w.heap.size, 1, none⟩ = some (.string S) := (b1.cell (p := ⟨w.heap.size, 1, none⟩) (by simp)).trans (by simp)
  have l1 : w.heap.size < w1.heap.size := by have := b1.size; simp at this; omega
  clear b1
  by_cases hneg : z < 0
  · go_wp2_with fail
    go_ret
    exact ⟨rfl, B1.out⟩
  · obtain ⟨hF2, hS2⟩ := hz (by omega)
    clear hz
    go_wp2_with fail
    (go_at_call 13; (with_reducible refine (toSpeech_any F S _).mono ?_); rintro e w2 ⟨rfl, b2⟩)
    have r0 : w2.cell? ⟨w.heap.size, 0, none⟩ = some (.string F) := (b2.cell (p := ⟨w.heap.size, 0, none⟩) l1).trans q0
    have r1 : w2.cell? ⟨w.heap.size, 1, none⟩ = some (.string S) := (b2.cell (p := ⟨w.heap.size, 1, none⟩) l1).trans q1
    have l2 : w.heap.size < w2.heap.size := Nat.lt_of_lt_of_le l1 b2.size
    have B2 := Lib.hid (B1.out.trans (b2.mono B1.out.size))
    clear b2 q0 q1
    have CS : Calls Try.prog 15 #[spV F S, .int .i64 n, .int .i64 k] w2 fun e w' => e = .returned (.tuple #[.string u, .bool ok]) ∧ Below w2.heap.size w2 w' := (specSpeak_any F S n k w2 hF2 hS2).mono fun e w' he => ⟨he.1.trans HE.out, he.2⟩
    go_wp2_with fail
    (go_at_call 15; (with_reducible refine (CS).mono ?_); rintro e w3 ⟨rfl, b3⟩)
    have s0 : w3.cell? ⟨w.heap.size, 0, none⟩ = some (.string F) := (b3.cell (p := ⟨w.heap.size, 0, none⟩) l2).trans r0
    have s1 : w3.cell? ⟨w.heap.size, 1, none⟩ = some (.string S) := (b3.cell (p := ⟨w.heap.size, 1, none⟩) l2).trans r1
    have B3 := Lib.hid (B2.out.trans (b3.mono B2.out.size))
    clear b3 r0 r1 CS
    go_wp2_with fail
    (go_at_call 13; (with_reducible refine (toSpeech_any F S _).mono ?_); rintro e w4 ⟨rfl, b4⟩)
    have B4 := Lib.hid (B3.out.trans (b4.mono B3.out.size))
    have CI : Calls Try.prog 16 #[spV F S, .int .i64 n, .int .i64 k] w4 fun e w' => e = .returned (.tuple #[.string u, .bool ok]) ∧ Below w4.heap.size w4 w' := (implSpeak_any F S n k w4 hF2 hS2).mono fun e w' he => ⟨he.1.trans HE.out, he.2⟩
    clear b4
    go_wp2_with fail
    (go_at_call 16; (with_reducible refine (CI).mono ?_); rintro e w5 ⟨rfl, b5⟩)
    have B5 := Lib.hid (B4.out.trans (b5.mono B4.out.size))
    clear b5 CI
    have hbe : (ok != ok) = false := by simp
    go_wp2_with fail
    go_ret
    exact ⟨rfl, B5.out⟩
end Go.Proofs.Ytfmlmgebomapjaa
