/-
  The model's test of a chain, behind its head.
-/
import Derived.Test.YteggllmiapdmcaaIs
namespace Go.Proofs.Yteggllmiapdmcaa
open Go.RowKit

theorem ok_head {c : Ch} (h : headOk c = true) : c.ok = (c.T.all (tabOk c.base c.states) && (c.P.all (fun p => inB p 0 ((c.T.length : Int) - 1)) && limOk c.base c.P.length)) := by
  unfold Ch.ok; rw [h]; rfl
theorem ok_nohead {c : Ch} (h : headOk c = false) : c.ok = false := by unfold Ch.ok; rw [h]; rfl
set_option maxRecDepth 100000 in
set_option maxHeartbeats 8000000 in
theorem l02Is_tail {B b : Nat} (c : Ch) (AT AP : Option Addr) (nT cT nP cP : Nat) (w : World) (hb : Blk w b (chCells c AT nT cT AP nP cP) 48) (hr : ChRows B w c AT nT AP nP) (hok : headOk c = true) :
    Calls Try.prog 75 #[.pointer (some ⟨b, 0, none⟩)] w fun e w' => e = .returned (.bool c.ok) ∧ ∃ m, w' = w.drewN m := by
  have hlT := hr.1.len
  have hlP := hr.2.len
  have hnT := hr.1.le
  have hnP := hr.2.le
  rw [ok_head hok]
  obtain ⟨base, states, start, stop, T, P⟩ := c
  obtain ⟨hT3, hPR⟩ := hr
  unfold headOk at hok
  dsimp only at hok hlT hlP hT3 hPR ⊢
  rw [hlT, hlP] at hok
  rw [hlT, hlP]
  simp only [Bool.and_eq_true] at hok
  obtain ⟨h1, h2, h3, h4, h5, h6⟩ := hok
  have hbase := inB_true.1 h1
  have hst := inB_true.1 h2
  have hs1 : -9223372036854775808 ≤ states - 1 := by omega
  have c0 := hb.cell 0
  have c1 := hb.cell 1
  have c2 := hb.cell 2
  have c3 := hb.cell 3
  have c4 := hb.cell 4
  have c5 := hb.cell 5
  have C1 : ∀ W, Calls Try.prog 95 #[.int .i64 base, .int .i64 2, .int .i64 36] W fun e w' => e = .returned (.bool true) ∧ W = w' := fun W => by rw [← h1]; exact l00In_any _ _ _ W
  have C2 : ∀ W, Calls Try.prog 95 #[.int .i64 states, .int .i64 1, .int .i64 36] W fun e w' => e = .returned (.bool true) ∧ W = w' := fun W => by rw [← h2]; exact l00In_any _ _ _ W
  have C3 : ∀ W, Calls Try.prog 95 #[.int .i64 start, .int .i64 0, .int .i64 (states - 1)] W fun e w' => e = .returned (.bool true) ∧ W = w' := fun W => by rw [← h3]; exact l00In_any _ _ _ W
  have C4 : ∀ W, Calls Try.prog 95 #[.int .i64 stop, .int .i64 0, .int .i64 (states - 1)] W fun e w' => e = .returned (.bool true) ∧ W = w' := fun W => by rw [← h4]; exact l00In_any _ _ _ W
  have C5 : ∀ W, Calls Try.prog 95 #[.int .i64 nT, .int .i64 1, .int .i64 20] W fun e w' => e = .returned (.bool true) ∧ W = w' := fun W => by rw [← h5]; exact l00In_any _ _ _ W
  have C6 : ∀ W, Calls Try.prog 95 #[.int .i64 nP, .int .i64 1, .int .i64 20] W fun e w' => e = .returned (.bool true) ∧ W = w' := fun W => by rw [← h6]; exact l00In_any _ _ _ W
  have hT20 := (inB_true.1 h5)
  have hP20 := (inB_true.1 h6)
  clear hb h1 h2 h3 h4 h5 h6
  go_enter Try.func75, Try.ntmps75
  go_wp2
  go_quiet ((go_at_call 95; first | ((with_reducible refine (C1 _).mono ?_); exact fun _ _ ⟨he, hm⟩ => ⟨he, _, hm.symm⟩) | ((with_reducible refine (C2 _).mono ?_); exact fun _ _ ⟨he, hm⟩ => ⟨he, _, hm.symm⟩) | ((with_reducible refine (C3 _).mono ?_); exact fun _ _ ⟨he, hm⟩ => ⟨he, _, hm.symm⟩) | ((with_reducible refine (C4 _).mono ?_); exact fun _ _ ⟨he, hm⟩ => ⟨he, _, hm.symm⟩) | ((with_reducible refine (C5 _).mono ?_); exact fun _ _ ⟨he, hm⟩ => ⟨he, _, hm.symm⟩) | ((with_reducible refine (C6 _).mono ?_); exact fun _ _ ⟨he, hm⟩ => ⟨he, _, hm.symm⟩)))
  clear C1 C2 C3 C4 C5 C6 c2 c3
  go_wp2
  go_loopw [3, 4, 5] (fun i _ _ wr => ∃ k : Nat, k ≤ nT ∧ i = .int .i64 k ∧ Hid ((T.take k).all (tabOk base states) = true) ∧ ∃ m, wr = w.drewN m) (fun i _ _ _ => nT - (intOf i).toNat)
  case atStart => exact ⟨0, by omega, rfl, Lib.hid (by simp), _, rfl⟩
  case round =>
    obtain ⟨k, hk, rfl, hall, m, rfl⟩ := hrel
    by_cases hlt : k < nT
    · obtain ⟨b3, o3, A2, n2, cc2, t, rfl, _, hzt, hct, _, hr2⟩ := hT3.2.2 k hlt
      have HZT := Lib.hid hzt
      have hl2 := hr2.len
      have hn2 := hr2.le
      clear hzt
      by_cases hlen : (n2 : Int) = states
      · have g1 : decide ((n2 : Int) = states) = true := by simpa using hlen
        have g2 : ((n2 : Int) != states) = false := by simpa using hlen
        go_wp2
        go_quiet (fail)
        clear g1 g2
        go_wp2
        go_loopw [4, 5] (fun i _ wr => ∃ x : Nat, x ≤ n2 ∧ i = .int .i64 x ∧ Hid ((t.take x).all (lineOk base states) = true) ∧ ∃ m, wr = w.drewN m) (fun i _ _ => n2 - (intOf i).toNat)
        case atStart => exact ⟨0, by omega, rfl, Lib.hid (by simp), drew3 _ _ _⟩
        case round =>
          obtain ⟨x, hx, rfl, hall2, m, rfl⟩ := hrel
          by_cases hltx : x < n2
          · obtain ⟨b2, o2, A1, n1, cc1, r, rfl, _, hzr, hcr, _, hr1⟩ := hr2.2.2 x hltx
            have HZR := Lib.hid hzr
            have hl1 := hr1.len
            have hn1 := hr1.le
            clear hzr
            by_cases hlen2 : (n1 : Int) = base
            · have g2 : ((n1 : Int) != base) = false := by simpa using hlen2
              go_wp2
              go_quiet (fail)
              clear g2
              go_wp2
              go_loopw [5] (fun i wr => ∃ d : Nat, d ≤ n1 ∧ i = .int .i64 d ∧ Hid ((r.take d).all (fun z => inB z 0 (states - 1)) = true) ∧ ∃ m, wr = w.drewN m) (fun i _ => n1 - (intOf i).toNat)
              case atStart => exact ⟨0, by omega, rfl, Lib.hid (by simp), drew3 _ _ _⟩
              case round =>
                obtain ⟨d, hd, rfl, hall3, m, rfl⟩ := hrel
                by_cases hltd : d < n1
                · obtain ⟨b1, o1, z, rfl, _, hz, hc, _⟩ := hr1.at_ hltd
                  have HZ := Lib.hid hz
                  clear hz
                  have CI : ∀ W, Calls Try.prog 95 #[.int .i64 z, .int .i64 0, .int .i64 (states - 1)] W fun e w' => e = .returned (.bool (inB z 0 (states - 1))) ∧ W = w' := fun W => l00In_any _ _ _ W
                  rcases hin : inB z 0 (states - 1) with _ | _
                  · rw [hin] at CI
                    have HIN := Lib.hid hin
                    clear hin
                    go_wp2
                    go_quiet ((go_at_call 95; first | ((with_reducible refine (CI _).mono ?_); exact fun _ _ ⟨he, hm⟩ => ⟨he, _, hm.symm⟩)))
                    go_wp2
                    go_ret
                    refine ⟨ret_bool ?_, drew3 _ _ _⟩
                    have e1 : rowOk states r = false := all_bad HZ.out HIN.out
                    have e2 : lineOk base states r = false := by unfold lineOk; rw [e1]; simp
                    have e3 : tabOk base states t = false := by unfold tabOk; rw [all_bad HZR.out e2]; simp
                    rw [all_bad HZT.out e3]; rfl
                  · rw [hin] at CI
                    have HIN := Lib.hid hin
                    clear hin
                    go_wp2
                    go_quiet ((go_at_call 95; first | ((with_reducible refine (CI _).mono ?_); exact fun _ _ ⟨he, hm⟩ => ⟨he, _, hm.symm⟩)))
                    go_wp2
                    go_roundw
                    case rel => exact ⟨d + 1, by omega, by go_num, Lib.hid (all_step HZ.out hall3.out HIN.out), _, rfl⟩
                    case measure => simp [intOf]; omega
                · obtain rfl : d = n1 := by omega
                  go_wp2
                  go_roundw
                  case rel =>
                    refine ⟨x + 1, by omega, by go_num, Lib.hid (all_step HZR.out hall2.out ?_), _, rfl⟩
                    unfold lineOk rowOk
                    rw [hl1, all_end (by omega) hall3.out]
                    simpa using hlen2
                  case measure => simp [intOf]; omega
            · have g2 : ((n1 : Int) != base) = true := by simpa using hlen2
              go_wp2
              go_quiet (fail)
              go_wp2
              go_ret
              refine ⟨ret_bool ?_, drew3 _ _ _⟩
              have e2 : lineOk base states r = false := by unfold lineOk; rw [hl1]; simp [hlen2]
              have e3 : tabOk base states t = false := by unfold tabOk; rw [all_bad HZR.out e2]; simp
              rw [all_bad HZT.out e3]; rfl
          · obtain rfl : x = n2 := by omega
            go_wp2
            go_roundw
            case rel =>
              refine ⟨k + 1, by omega, by go_num, Lib.hid (all_step HZT.out hall.out ?_), _, rfl⟩
              unfold tabOk
              rw [hl2, all_end (by omega) hall2.out]
              simpa using hlen
            case measure => simp [intOf]; omega
      · have g2 : ((n2 : Int) != states) = true := by simpa using hlen
        go_wp2
        go_quiet (fail)
        go_wp2
        go_ret
        refine ⟨ret_bool ?_, drew3 _ _ _⟩
        have e3 : tabOk base states t = false := by unfold tabOk; rw [hl2]; simp [hlen]
        rw [all_bad HZT.out e3]; rfl
    · obtain rfl : nT = k := by omega
      have HT := Lib.hid (all_end (by omega) hall.out)
      go_wp2
      go_loopw [6, 7] (fun v i wr => ∃ j : Nat, j ≤ nP ∧ i = .int .i64 j ∧ v = .int .i64 (cap15 base j) ∧ Hid ((P.take j).all (fun p => inB p 0 ((nT : Int) - 1)) = true) ∧ ∃ m, wr = w.drewN m) (fun _ i _ => nP - (intOf i).toNat)
      case atStart => exact ⟨0, by omega, rfl, by rw [show cap15 base 0 = 1 by unfold cap15; simp; omega], Lib.hid (by simp), _, rfl⟩
      case round =>
        obtain ⟨j, hj, rfl, rfl, hallP, m, rfl⟩ := hrel
        have hcap := cap_bd hbase.1 j
        have hcs := cap_step hbase.1 j
        have hcl := cap_lim base j
        obtain ⟨V, hV⟩ : ∃ V, V = cap15 base j := ⟨_, rfl⟩
        rw [← hV] at hcap hcs hcl ⊢
        have hm1 : 0 ≤ V * base := Int.mul_nonneg (by omega) (by omega)
        have hm2 : V * base ≤ 1000000000000001 * 36 := Int.mul_le_mul (by omega) (by omega) (by omega) (by omega)
        by_cases hltj : j < nP
        · obtain ⟨b1, o1, z, rfl, _, hz, hc, _⟩ := hPR.at_ hltj
          have HZ := Lib.hid hz
          have CI : ∀ W, Calls Try.prog 95 #[.int .i64 z, .int .i64 0, .int .i64 ((nT : Int) - 1)] W fun e w' => e = .returned (.bool (inB z 0 ((nT : Int) - 1))) ∧ W = w' := fun W => l00In_any _ _ _ W
          have CM : ∀ W, Calls Try.prog 127 #[.int .i64 (V * base), .int .i64 1000000000000001] W fun e w' => e = .returned (.int .i64 (cap15 base (j + 1))) ∧ W = w' := fun W => by rw [← hcs]; exact l00Min_any _ _ W
          have HCL := Lib.hid hcl
          have HV := Lib.hid hV
          clear hz hcl hcs hV
          rcases hin : inB z 0 ((nT : Int) - 1) with _ | _
          · rw [hin] at CI
            have HIN := Lib.hid hin
            clear hin CM
            go_wp2
            go_quiet ((go_at_call 95; first | ((with_reducible refine (CI _).mono ?_); exact fun _ _ ⟨he, hm⟩ => ⟨he, _, hm.symm⟩)))
            go_wp2
            go_ret
            refine ⟨ret_bool ?_, drew3 _ _ _⟩
            rw [all_bad (p := fun p => inB p 0 ((nT : Int) - 1)) HZ.out HIN.out]; simp
          · rw [hin] at CI
            have HIN := Lib.hid hin
            clear hin
            go_wp2
            go_quiet ((go_at_call 95; first | ((with_reducible refine (CI _).mono ?_); exact fun _ _ ⟨he, hm⟩ => ⟨he, _, hm.symm⟩)))
            clear CI
            go_wp2_with (go_at_call 127; (with_reducible refine (CM _).mono ?_); rintro e w' ⟨rfl, rfl⟩)
            go_roundw
            case rel => exact ⟨j + 1, by omega, by go_num, by go_num, Lib.hid (all_step HZ.out hallP.out HIN.out), _, rfl⟩
            case measure => simp [intOf]; omega
        · obtain rfl : nP = j := by omega
          have HPA := Lib.hid (all_end (by omega) hallP.out)
          have HCL := Lib.hid hcl
          clear hcl hcs hV
          go_wp2
          go_ret
          refine ⟨ret_bool ?_, _, rfl⟩
          rw [HCL.out, HT.out, HPA.out]; rfl

theorem l02Is_any {B b : Nat} (c : Ch) (AT AP : Option Addr) (nT cT nP cP : Nat) (w : World) (hb : Blk w b (chCells c AT nT cT AP nP cP) 48) (hr : ChRows B w c AT nT AP nP) :
    Calls Try.prog 75 #[.pointer (some ⟨b, 0, none⟩)] w fun e w' => e = .returned (.bool c.ok) ∧ ∃ m, w' = w.drewN m := by
  rcases h : headOk c with _ | _
  · rw [ok_nohead h]; exact l02Is_head c AT AP nT cT nP cP w hb hr h
  · exact l02Is_tail c AT AP nT cT nP cP w hb hr h
end Go.Proofs.Yteggllmiapdmcaa
