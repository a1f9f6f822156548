/-
  The program's test of a chain.
-/
import Derived.Test.YtakkehjfdeghoabOk
namespace Go.Proofs.Ytakkehjfdeghoab
open Go.RowKit

set_option maxHeartbeats 400000 in
theorem vc_isBase (base : Int) (w : World) :
    Calls Try.prog 114 #[.int .i64 base] w fun e w' => e = .returned (.bool (inB base 2 36)) ∧ w = w' := by
  go_enter Try.func114, Try.ntmps114
  go_wp2_with (go_at_call 75; (with_reducible refine (within_any _ _ _ _).mono ?_); rintro e w' ⟨rfl, rfl⟩)
  go_ret
  exact ⟨rfl, rfl⟩

set_option maxHeartbeats 1000000 in
theorem allWithin_any {B : Nat} (A : Option Addr) (n c : Nat) (lo hi : Int) (zs : List Int) (w : World) (h : RowB .i64 B w A n zs) :
    Calls Try.prog 107 #[.slice A n c, .int .i64 lo, .int .i64 hi] w fun e w' => e = .returned (.bool (zs.all fun z => inB z lo hi)) ∧ w = w' := by
  have hle := h.le
  have hl := h.len
  go_enter Try.func107, Try.ntmps107
  go_wp2
  go_loop [8, 11] (fun _ i => ∃ k : Nat, k ≤ n ∧ i = .int .i64 k ∧ Hid ((zs.take k).all (fun z => inB z lo hi) = true)) (fun _ i => n - (intOf i).toNat)
  case atStart => exact ⟨0, by omega, rfl, Lib.hid (by simp)⟩
  case round =>
    obtain ⟨k, hk, rfl, hall⟩ := hrel
    by_cases hlt : k < n
    · obtain ⟨b, o, z, rfl, _, hz, hc, _⟩ := h.at_ hlt
      have HZ := Lib.hid hz
      clear hz
      rcases hin : inB z lo hi with _ | _
      · have CI : Calls Try.prog 75 #[.int .i64 z, .int .i64 lo, .int .i64 hi] w fun e w' => e = .returned (.bool false) ∧ w = w' := by rw [← hin]; exact within_any _ _ _ _
        have HIN := Lib.hid hin
        clear hin
        go_wp2_with (go_at_call 75; (with_reducible refine (CI).mono ?_); rintro e w' ⟨rfl, rfl⟩)
        go_ret
        exact ⟨ret_bool (all_bad (p := fun z => inB z lo hi) HZ.out HIN.out).symm, rfl⟩
      · have CI : Calls Try.prog 75 #[.int .i64 z, .int .i64 lo, .int .i64 hi] w fun e w' => e = .returned (.bool true) ∧ w = w' := by rw [← hin]; exact within_any _ _ _ _
        have HIN := Lib.hid hin
        clear hin
        go_wp2_with (go_at_call 75; (with_reducible refine (CI).mono ?_); rintro e w' ⟨rfl, rfl⟩)
        go_round
        case rel => exact ⟨k + 1, by omega, by go_num, Lib.hid (all_step HZ.out hall.out HIN.out)⟩
        case measure => simp [intOf]; omega
    · obtain rfl : n = k := by omega
      go_wp2
      go_ret
      exact ⟨ret_bool (all_end (by omega) hall.out).symm, rfl⟩

set_option maxHeartbeats 1000000 in
theorem tableValid_any {B : Nat} (A : Option Addr) (n c : Nat) (states base : Int) (t : List (List Int)) (w : World) (h : Rows2 B w A n t) :
    Calls Try.prog 106 #[.slice A n c, .int .i64 states, .int .i64 base] w fun e w' => e = .returned (.bool (tabOk base states t)) ∧ w = w' := by
  have hle := h.le
  have hl := h.len
  by_cases hlen : (n : Int) = states
  · have g2 : ((n : Int) != states) = false := by simpa using hlen
    go_enter Try.func106, Try.ntmps106
    go_wp2
    clear g2
    go_loop [8, 15] (fun _ i => ∃ k : Nat, k ≤ n ∧ i = .int .i64 k ∧ Hid ((t.take k).all (lineOk base states) = true)) (fun _ i => n - (intOf i).toNat)
    case atStart => exact ⟨0, by omega, rfl, Lib.hid (by simp)⟩
    case round =>
      obtain ⟨k, hk, rfl, hall⟩ := hrel
      by_cases hlt : k < n
      · obtain ⟨b, o, A1, n1, c1, r, rfl, _, hz, hc, _, hr⟩ := h.2.2 k hlt
        have HZ := Lib.hid hz
        have hl1 := hr.len
        have hn1 := hr.le
        clear hz
        by_cases hlen2 : (n1 : Int) = base
        · have g3 : ((n1 : Int) != base) = false := by simpa using hlen2
          rcases hin : (r.all fun z => inB z 0 (states - 1)) with _ | _
          · have CI : Calls Try.prog 107 #[.slice A1 n1 c1, .int .i64 0, .int .i64 (states - 1)] w fun e w' => e = .returned (.bool false) ∧ w = w' := by rw [← hin]; exact allWithin_any A1 n1 c1 _ _ r w hr
            have HIN := Lib.hid hin
            clear hin hr
            go_wp2_with (go_at_call 107; (with_reducible refine (CI).mono ?_); rintro e w' ⟨rfl, rfl⟩)
            go_ret
            refine ⟨ret_bool ?_, rfl⟩
            have e2 : lineOk base states r = false := by unfold lineOk rowOk; rw [HIN.out]; simp
            unfold tabOk; rw [all_bad HZ.out e2]; simp
          · have CI : Calls Try.prog 107 #[.slice A1 n1 c1, .int .i64 0, .int .i64 (states - 1)] w fun e w' => e = .returned (.bool true) ∧ w = w' := by rw [← hin]; exact allWithin_any A1 n1 c1 _ _ r w hr
            have HIN := Lib.hid hin
            clear hin hr
            go_wp2_with (go_at_call 107; (with_reducible refine (CI).mono ?_); rintro e w' ⟨rfl, rfl⟩)
            go_round
            case rel =>
              refine ⟨k + 1, by omega, by go_num, Lib.hid (all_step HZ.out hall.out ?_)⟩
              unfold lineOk rowOk; rw [HIN.out, hl1]; simpa using hlen2
            case measure => simp [intOf]; omega
        · have g3 : ((n1 : Int) != base) = true := by simpa using hlen2
          clear hr
          go_wp2
          go_ret
          refine ⟨ret_bool ?_, rfl⟩
          have e2 : lineOk base states r = false := by unfold lineOk; rw [hl1]; simp [hlen2]
          unfold tabOk; rw [all_bad HZ.out e2]; simp
      · obtain rfl : n = k := by omega
        go_wp2
        go_ret
        refine ⟨ret_bool ?_, rfl⟩
        unfold tabOk
        rw [all_end (by omega) hall.out, hl]
        simpa using hlen
  · have g2 : ((n : Int) != states) = true := by simpa using hlen
    go_enter Try.func106, Try.ntmps106
    go_wp2
    go_ret
    refine ⟨ret_bool ?_, rfl⟩
    unfold tabOk; rw [hl]; simp [hlen]

set_option maxHeartbeats 1000000 in
theorem wordLimit_any (base : Int) (n : Nat) (w : World) (hn : n ≤ maxLen) :
    Calls Try.prog 104 #[.int .i64 base, .int .i64 n] w fun e w' => e = .returned (.bool (inB base 2 36 && (inB n 1 20 && limOk base n))) ∧ w = w' := by
  unfold maxLen at hn
  rcases h1 : inB base 2 36 with _ | _
  · have CB : Calls Try.prog 114 #[.int .i64 base] w fun e w' => e = .returned (.bool false) ∧ w = w' := by rw [← h1]; exact vc_isBase _ _
    go_enter Try.func104, Try.ntmps104
    go_wp2_with (go_at_call 114; (with_reducible refine (CB).mono ?_); rintro e w' ⟨rfl, rfl⟩)
    go_ret
    exact ⟨rfl, rfl⟩
  · have CB : Calls Try.prog 114 #[.int .i64 base] w fun e w' => e = .returned (.bool true) ∧ w = w' := by rw [← h1]; exact vc_isBase _ _
    rcases h2 : inB n 1 20 with _ | _
    · have CW : Calls Try.prog 75 #[.int .i64 n, .int .i64 1, .int .i64 20] w fun e w' => e = .returned (.bool false) ∧ w = w' := by rw [← h2]; exact within_any _ _ _ _
      go_enter Try.func104, Try.ntmps104
      go_wp2_with (go_at_call 114; (with_reducible refine (CB).mono ?_); rintro e w' ⟨rfl, rfl⟩)
      (go_at_call 75; (with_reducible refine (CW).mono ?_); rintro e w' ⟨rfl, rfl⟩)
      go_wp2
      go_ret
      exact ⟨rfl, rfl⟩
    · have CW : Calls Try.prog 75 #[.int .i64 n, .int .i64 1, .int .i64 20] w fun e w' => e = .returned (.bool true) ∧ w = w' := by rw [← h2]; exact within_any _ _ _ _
      have hb := inB_true.1 h1
      have hp := inB_true.1 h2
      clear h1 h2
      go_enter Try.func104, Try.ntmps104
      go_wp2_with (go_at_call 114; (with_reducible refine (CB).mono ?_); rintro e w' ⟨rfl, rfl⟩)
      (go_at_call 75; (with_reducible refine (CW).mono ?_); rintro e w' ⟨rfl, rfl⟩)
      clear CB CW
      go_wp2
      go_loop [5, 15] (fun v i => ∃ k : Nat, k ≤ n ∧ i = .int .i64 k ∧ v = .int .i64 (base ^ k) ∧ base ^ k ≤ 1000000000000000) (fun _ i => n - (intOf i).toNat)
      case atStart => exact ⟨0, by omega, rfl, by simp, by simp⟩
      case round =>
        obtain ⟨k, hk, rfl, rfl, hle⟩ := hrel
        have hpos := pow_pos' hb.1 k
        have hsucc : base ^ k * base = base ^ (k + 1) := (Int.pow_succ base k).symm
        have hm1 : 0 ≤ base ^ k * base := Int.mul_nonneg (by omega) (by omega)
        have hm2 : base ^ k * base ≤ 1000000000000000 * 36 := Int.mul_le_mul hle (by omega) (by omega) (by omega)
        have hlimk : limOk base k = true := by unfold limOk; simpa using hle
        obtain ⟨V, hV⟩ : ∃ V, V = base ^ k := ⟨_, rfl⟩
        rw [← hV] at hpos hsucc hm1 hm2 hle ⊢
        obtain ⟨X, hX⟩ : ∃ X, X = V * base := ⟨_, rfl⟩
        have HS := Lib.hid hsucc
        have HX := Lib.hid hX
        have HLK := Lib.hid hlimk
        clear hV hsucc hlimk
        by_cases hlt : k < n
        · by_cases hbig : 1000000000000000 < V * base
          · clear hX
            go_wp2
            go_ret
            refine ⟨ret_bool ?_, rfl⟩
            rw [lim_bad hb.1 (show k + 1 ≤ n by omega) (by rw [← HS.out]; exact hbig)]
          · clear hX
            go_wp2
            go_round
            case rel => exact ⟨k + 1, by omega, by go_num, by rw [HS.out], by rw [← HS.out]; omega⟩
            case measure => simp [intOf]; omega
        · obtain rfl : n = k := by omega
          go_wp2
          go_ret
          exact ⟨ret_bool (by rw [HLK.out]), rfl⟩

set_option maxHeartbeats 2000000 in
theorem implValid_any {B : Nat} (c : Ch) (AT AP : Option Addr) (nT cT nP cP : Nat) (w : World) (hr : ChRows B w c AT nT AP nP) (hB : B ≤ w.heap.size) :
    Calls Try.prog 63 #[chV c AT nT cT AP nP cP] w fun e w' => e = .returned (.bool c.ok) ∧ Below w.heap.size w w' := by
  have hlT := hr.1.len
  have hlP := hr.2.len
  have hnT := hr.1.le
  have hnP := hr.2.le
  obtain ⟨base, states, start, stop, T, P⟩ := c
  dsimp only at hlT hlP
  have hOK : Hid (Ch.ok ⟨base, states, start, stop, T, P⟩ = ((inB base 2 36 && (inB nP 1 20 && limOk base nP)) && (inB states 1 36 && (inB nT 1 20 && (T.all (tabOk base states) && (inB start 0 (states - 1) && (inB stop 0 (states - 1) && P.all (fun p => inB p 0 ((nT : Int) - 1))))))))) := Lib.hid (by
    unfold Ch.ok headOk
    dsimp only
    rw [hlT, hlP]
    cases inB base 2 36 <;> cases inB nP 1 20 <;> cases limOk base nP <;> cases inB states 1 36 <;> cases inB nT 1 20 <;> cases T.all (tabOk base states) <;> cases inB start 0 (states - 1) <;> cases inB stop 0 (states - 1) <;> simp)
  obtain ⟨w1, hw1⟩ : ∃ w1, w1 = w.alloc (.cells #[.int .i64 base, .int .i64 states, .int .i64 start, .int .i64 stop, .slice AT nT cT, .slice AP nP cP] 27) := ⟨_, rfl⟩
  have bel : Below w.heap.size w w1 := by rw [hw1]; exact (Below.refl _ w).alloc (Nat.le_refl _) _
  have b1 : Blk w1 w.heap.size #[.int .i64 base, .int .i64 states, .int .i64 start, .int .i64 stop, .slice AT nT cT, .slice AP nP cP] 27 := by rw [hw1]; exact Blk.new _ _ _
  obtain ⟨hT3, hPR⟩ := hr.below (bel.mono hB)
  have c0 := b1.cell 0
  have c1 := b1.cell 1
  have c2 := b1.cell 2
  have c3 := b1.cell 3
  have c4 := b1.cell 4
  have c5 := b1.cell 5
  have CL := wordLimit_any base nP w1 (by unfold maxLen; omega)
  have BEL := Lib.hid bel
  clear bel b1 hr
  generalize hL : (inB base 2 36 && (inB nP 1 20 && limOk base nP)) = L at CL hOK
  rcases L with _ | _
  · go_enter Try.func63, Try.ntmps63
    go_wp2_with fail
    rw [← hw1]
    have HW1 := Lib.hid hw1
    clear hw1
    (go_at_call 104; (with_reducible refine (CL).mono ?_); rintro e w2 ⟨rfl, rfl⟩)
    go_wp2_with fail
    go_ret
    exact ⟨ret_bool (by rw [hOK.out]; rfl), BEL.out⟩
  · have HL := Lib.hid hL
    clear hL
    rcases h2 : inB states 1 36 with _ | _
    · have C2 : Calls Try.prog 75 #[.int .i64 states, .int .i64 1, .int .i64 36] w1 fun e w' => e = .returned (.bool false) ∧ w1 = w' := by rw [← h2]; exact within_any _ _ _ _
      rw [h2] at hOK
      clear h2
      go_enter Try.func63, Try.ntmps63
      go_wp2_with fail
      rw [← hw1]
      have HW1 := Lib.hid hw1
      clear hw1
      (go_at_call 104; (with_reducible refine (CL).mono ?_); rintro e w2 ⟨rfl, rfl⟩)
      go_wp2_with fail
      (go_at_call 75; (with_reducible refine (C2).mono ?_); rintro e w2 ⟨rfl, rfl⟩)
      go_wp2_with fail
      go_ret
      exact ⟨ret_bool (by rw [hOK.out]; rfl), BEL.out⟩
    · have C2 : Calls Try.prog 75 #[.int .i64 states, .int .i64 1, .int .i64 36] w1 fun e w' => e = .returned (.bool true) ∧ w1 = w' := by rw [← h2]; exact within_any _ _ _ _
      have hst := inB_true.1 h2
      rw [h2] at hOK
      clear h2
      have hs1 : -9223372036854775808 ≤ states - 1 := by omega
      rcases h3 : inB nT 1 20 with _ | _
      · have C3 : Calls Try.prog 105 #[.int .i64 nT, .int .i64 1, .int .i64 20] w1 fun e w' => e = .returned (.bool false) ∧ w1 = w' := by rw [← h3]; exact withinInt_any _ _ _ _
        rw [h3] at hOK
        clear h3
        go_enter Try.func63, Try.ntmps63
        go_wp2_with fail
        rw [← hw1]
        have HW1 := Lib.hid hw1
        clear hw1
        (go_at_call 104; (with_reducible refine (CL).mono ?_); rintro e w2 ⟨rfl, rfl⟩)
        go_wp2_with fail
        (go_at_call 75; (with_reducible refine (C2).mono ?_); rintro e w2 ⟨rfl, rfl⟩)
        go_wp2_with fail
        (go_at_call 105; (with_reducible refine (C3).mono ?_); rintro e w2 ⟨rfl, rfl⟩)
        go_wp2_with fail
        go_ret
        exact ⟨ret_bool (by rw [hOK.out]; rfl), BEL.out⟩
      · have C3 : Calls Try.prog 105 #[.int .i64 nT, .int .i64 1, .int .i64 20] w1 fun e w' => e = .returned (.bool true) ∧ w1 = w' := by rw [← h3]; exact withinInt_any _ _ _ _
        have hnT20 := inB_true.1 h3
        rw [h3] at hOK
        clear h3
        go_enter Try.func63, Try.ntmps63
        go_wp2_with fail
        rw [← hw1]
        have HW1 := Lib.hid hw1
        clear hw1
        (go_at_call 104; (with_reducible refine (CL).mono ?_); rintro e w2 ⟨rfl, rfl⟩)
        go_wp2_with fail
        (go_at_call 75; (with_reducible refine (C2).mono ?_); rintro e w2 ⟨rfl, rfl⟩)
        go_wp2_with fail
        (go_at_call 105; (with_reducible refine (C3).mono ?_); rintro e w2 ⟨rfl, rfl⟩)
        clear CL C2 C3
        go_wp2_with fail
        go_loop [4, 28] (fun _ i => ∃ k : Nat, k ≤ nT ∧ i = .int .i64 k ∧ Hid ((T.take k).all (tabOk base states) = true)) (fun _ i => nT - (intOf i).toNat)
        case atStart => exact ⟨0, by omega, rfl, Lib.hid (by simp)⟩
        case round =>
          obtain ⟨k, hk, rfl, hall⟩ := hrel
          by_cases hlt : k < nT
          · obtain ⟨b, o, A1, n1, cc1, t, rfl, _, hz, hc, _, hr2⟩ := hT3.2.2 k hlt
            have CV := tableValid_any A1 n1 cc1 states base t w1 hr2
            have HZ := Lib.hid hz
            clear hz hr2
            rcases hin : tabOk base states t with _ | _
            · rw [hin] at CV
              have HIN := Lib.hid hin
              clear hin
              go_wp2_with (go_at_call 106; (with_reducible refine (CV).mono ?_); rintro e w' ⟨rfl, rfl⟩)
              go_ret
              exact ⟨ret_bool (by rw [hOK.out, all_bad HZ.out HIN.out]; simp), BEL.out⟩
            · rw [hin] at CV
              have HIN := Lib.hid hin
              clear hin
              go_wp2_with (go_at_call 106; (with_reducible refine (CV).mono ?_); rintro e w' ⟨rfl, rfl⟩)
              go_round
              case rel => exact ⟨k + 1, by omega, by go_num, Lib.hid (all_step HZ.out hall.out HIN.out)⟩
              case measure => simp [intOf]; omega
          · obtain rfl : nT = k := by omega
            have HT := Lib.hid (all_end (by omega) hall.out)
            have CA := allWithin_any AP nP cP 0 ((nT : Int) - 1) P w1 hPR
            clear hT3 hPR
            rcases h5 : inB start 0 (states - 1) with _ | _
            · have C5 : Calls Try.prog 75 #[.int .i64 start, .int .i64 0, .int .i64 (states - 1)] w1 fun e w' => e = .returned (.bool false) ∧ w1 = w' := by rw [← h5]; exact within_any _ _ _ _
              rw [h5] at hOK
              clear h5
              go_wp2_with fail
              (go_at_call 75; (with_reducible refine (C5).mono ?_); rintro e w2 ⟨rfl, rfl⟩)
              go_wp2_with fail
              go_ret
              exact ⟨ret_bool (by rw [hOK.out]; simp), BEL.out⟩
            · have C5 : Calls Try.prog 75 #[.int .i64 start, .int .i64 0, .int .i64 (states - 1)] w1 fun e w' => e = .returned (.bool true) ∧ w1 = w' := by rw [← h5]; exact within_any _ _ _ _
              rw [h5] at hOK
              clear h5
              rcases h6 : inB stop 0 (states - 1) with _ | _
              · have C6 : Calls Try.prog 75 #[.int .i64 stop, .int .i64 0, .int .i64 (states - 1)] w1 fun e w' => e = .returned (.bool false) ∧ w1 = w' := by rw [← h6]; exact within_any _ _ _ _
                rw [h6] at hOK
                clear h6
                go_wp2_with fail
                (go_at_call 75; (with_reducible refine (C5).mono ?_); rintro e w2 ⟨rfl, rfl⟩)
                go_wp2_with fail
                (go_at_call 75; (with_reducible refine (C6).mono ?_); rintro e w2 ⟨rfl, rfl⟩)
                go_wp2_with fail
                go_ret
                exact ⟨ret_bool (by rw [hOK.out]; simp), BEL.out⟩
              · have C6 : Calls Try.prog 75 #[.int .i64 stop, .int .i64 0, .int .i64 (states - 1)] w1 fun e w' => e = .returned (.bool true) ∧ w1 = w' := by rw [← h6]; exact within_any _ _ _ _
                rw [h6] at hOK
                clear h6
                go_wp2_with fail
                (go_at_call 75; (with_reducible refine (C5).mono ?_); rintro e w2 ⟨rfl, rfl⟩)
                go_wp2_with fail
                (go_at_call 75; (with_reducible refine (C6).mono ?_); rintro e w2 ⟨rfl, rfl⟩)
                go_wp2_with fail
                (go_at_call 107; (with_reducible refine (CA).mono ?_); rintro e w2 ⟨rfl, rfl⟩)
                go_wp2_with fail
                go_ret
                exact ⟨ret_bool (by rw [hOK.out, HT.out]; simp), BEL.out⟩
end Go.Proofs.Ytakkehjfdeghoab
