/-
  What a script makes of two words, by the model.
-/
import Derived.Test.YtiegaebnlikjiaaDoorApM
import Derived.IntWalk
import Derived.BigRegion
import Derived.Deep.CutRange
import Derived.Deep.DeepCutAuto
namespace Go.Proofs.YtiegaebnlikjiaaDoor
open Go Go.RowKit

set_option maxRecDepth 100000 in
set_option maxHeartbeats 16000000 in
theorem specApply_any (s a b : ByteArray) (w : World) (hs : s.size ≤ maxLen) (ha : a.size ≤ maxLen) (hb : b.size ≤ maxLen) :
    Calls Tryd.prog 16 #[.string s, .string a, .string b] w fun e w' => e = twoS (apV s a b) (apOk s a b) ∧ ∃ m, w' = w.drewN m := by
  have hs' := hs
  unfold maxLen at hs'
  have C1 := fun W => l06Word20_any a W ha
  have C2 := fun W => l06Word20_any b W hb
  rcases hwa : wordB a 36 with _ | _
  · have H : Hid ((wordB a 36 && wordB b 36) = false) := Lib.hid (by rw [hwa]; rfl)
    rw [hwa] at C1
    clear hwa
    go_enter Tryd.func16, Tryd.ntmps16
    go_wp2_with (first | (go_at_call 29; (with_reducible refine (C1 _).mono ?_); rintro e w' ⟨rfl, rfl⟩) | (go_at_call 29; (with_reducible refine (C2 _).mono ?_); rintro e w' ⟨rfl, rfl⟩))
    go_ret2
    exact ⟨twoS_bad H.out, 0, rfl⟩
  · rcases hwb : wordB b 36 with _ | _
    · have H : Hid ((wordB a 36 && wordB b 36) = false) := Lib.hid (by rw [hwb, Bool.and_false])
      rw [hwa] at C1
      rw [hwb] at C2
      clear hwa hwb
      go_enter Tryd.func16, Tryd.ntmps16
      go_wp2_with (first | (go_at_call 29; (with_reducible refine (C1 _).mono ?_); rintro e w' ⟨rfl, rfl⟩) | (go_at_call 29; (with_reducible refine (C2 _).mono ?_); rintro e w' ⟨rfl, rfl⟩))
      go_ret2
      exact ⟨twoS_bad H.out, 0, rfl⟩
    · have HW : Hid ((wordB a 36 && wordB b 36) = true) := Lib.hid (by rw [hwa, hwb]; rfl)
      have ha20 : a.size ≤ 20 := edW_size (most := 20) (by rw [edW_20]; exact hwa)
      have hb20 : b.size ≤ 20 := edW_size (most := 20) (by rw [edW_20]; exact hwb)
      rw [hwa] at C1
      rw [hwb] at C2
      obtain ⟨AP, hAP⟩ : ∃ AP, AP = apS a b s.data.toList 0 0 := ⟨_, rfl⟩
      have HAP := Lib.hid hAP
      have hap0 : Hid (AP = apS a b (s.data.toList.drop 0) 0 0) := Lib.hid (by rw [List.drop_zero]; exact hAP)
      clear hwa hwb ha hb hAP
      go_enter Tryd.func16, Tryd.ntmps16
      go_wp2_with (first | (go_at_call 29; (with_reducible refine (C1 _).mono ?_); rintro e w' ⟨rfl, rfl⟩) | (go_at_call 29; (with_reducible refine (C2 _).mono ?_); rintro e w' ⟨rfl, rfl⟩))
      go_loopw [8, 9, 10, 11, 12] (fun s8 s9 s10 _ _ wr => ∃ p i k : Nat, p ≤ s.size ∧ s10 = .int .i64 p ∧ s8 = .int .i64 i ∧ s9 = .int .i64 k ∧ i ≤ a.size ∧ k ≤ b.size ∧ Hid (AP = apS a b (s.data.toList.drop p) i k) ∧ ∃ m, wr = w.drewN m) (fun _ _ s10 _ _ _ => s.size - (intOf s10).toNat)
      case atStart => exact ⟨0, 0, 0, by omega, rfl, rfl, rfl, by omega, by omega, hap0, 0, rfl⟩
      case round =>
        obtain ⟨p, i, k, hp, rfl, rfl, rfl, hi, hk, hap, mm, rfl⟩ := hrel
        by_cases hlt : p < s.size
        · have tp : (p : Int) < (s.size : Int) := by omega
          obtain ⟨BB, hBB⟩ : ∃ BB, BB = decide (i < a.size ∧ k < b.size) := ⟨_, rfl⟩
          have HBB := Lib.hid hBB
          go_upto_region 8 with fail
          go_cut [11] from 21 to 137 (fun s wx => s = .bool BB ∧ wx = w.drewN mm)
          case first =>
            by_cases hia : i < a.size
            · have ti : (i : Int) < (a.size : Int) := by omega
              by_cases hkb : k < b.size
              · have tk : (k : Int) < (b.size : Int) := by omega
                have e : BB = true := by rw [hBB]; simp [hia, hkb]
                clear hBB
                go_wp2_with fail
                go_meet
                exact ⟨by rw [e], rfl⟩
              · have tk : ¬ (k : Int) < (b.size : Int) := by omega
                have e : BB = false := by rw [hBB]; simp [hkb]
                clear hBB
                go_wp2_with fail
                go_meet
                exact ⟨by rw [e], rfl⟩
            · have ti : ¬ (i : Int) < (a.size : Int) := by omega
              have e : BB = false := by rw [hBB]; simp [hia]
              clear hBB
              go_wp2_with fail
              go_meet
              exact ⟨by rw [e], rfl⟩
          case rest =>
            obtain ⟨rfl, rfl⟩ := hcut
            clear hBB
            rcases hlm : ltN s[p].toNat with _ | m
            · have HN : Hid (AP = false) := Lib.hid (by rw [hap.out, aps_none hlt hlm])
              obtain ⟨n0, n1, n2, n3, n4⟩ := ltN_not hlm
              have e0 : ((s[p].toNat : Int) == 61) = false := by simp; omega
              have e1 : ((s[p].toNat : Int) == 68) = false := by simp; omega
              have e2 : ((s[p].toNat : Int) == 73) = false := by simp; omega
              have e3 : ((s[p].toNat : Int) == 83) = false := by simp; omega
              have e4 : ((s[p].toNat : Int) == 88) = false := by simp; omega
              clear hlm hap
              go_wp2_with fail
              go_ret2
              exact ⟨twoS_no HW.out (by rw [← HAP.out]; exact HN.out), _, rfl⟩
            · obtain ⟨hm5, hq⟩ := ltN_5 hlm
              rcases (show m = 0 ∨ m = 1 ∨ m = 2 ∨ m = 3 ∨ m = 4 by omega) with rfl | rfl | rfl | rfl | rfl
              · have hq : s[p].toNat = 61 := hq
                rcases BB with _ | _
                · have hnb := HBB.out
                  have hnn : ¬ (i < a.size ∧ k < b.size) := of_decide_eq_false hnb.symm
                  clear hnb
                  have HX : fitM a b i k 0 = false := by
                    rcases h : fitM a b i k 0 with _ | _
                    · rfl
                    · have h2 := fit_in (m := 0) hi hk h
                      simp only [mvA, mvB] at h2
                      omega
                  have HN : Hid (AP = false) := Lib.hid (by rw [hap.out, aps_some hlt hlm, HX, Bool.false_and])
                  clear HX hlm hap
                  go_wp2_with fail
                  go_quiet (fail)
                  go_wp2_with fail
                  go_ret2
                  exact ⟨twoS_no HW.out (by rw [← HAP.out]; exact HN.out), _, rfl⟩
                · have hnb := HBB.out
                  have hia : i < a.size := (of_decide_eq_true hnb.symm).1
                  have hkb : k < b.size := (of_decide_eq_true hnb.symm).2
                  have ti : (i : Int) < (a.size : Int) := by omega
                  have tk : (k : Int) < (b.size : Int) := by omega
                  clear hnb
                  by_cases hc : a[i].toNat = b[k].toNat
                  · have bb : ((a[i].toNat : Int) == (b[k].toNat : Int)) = true := by rw [hc]; simp
                    have HX : fitM a b i k 0 = true := by rw [fit0 hia hkb, UInt8.toNat_inj.1 hc]; simp
                    have HIN := fit_in (m := 0) hi hk HX
                    have HN : Hid (AP = apS a b (s.data.toList.drop (p + 1)) (i + 1) (k + 1)) := Lib.hid (by rw [hap.out, aps_some hlt hlm, HX, Bool.true_and]; rfl)
                    simp only [mvA, mvB] at HIN
                    clear HX hlm hap hc
                    go_wp2_with fail
                    go_quiet (fail)
                    go_wp2_with fail
                    go_roundw
                    case rel => exact ⟨p + 1, i + 1, k + 1, by omega, by go_num, by go_num, by go_num, by omega, by omega, HN, _, rfl⟩
                    case measure => simp [intOf]; omega
                  · have bb : ((a[i].toNat : Int) == (b[k].toNat : Int)) = false := by simp; omega
                    have hc2 : ¬ a[i] = b[k] := fun e => hc (by rw [e])
                    have HX : fitM a b i k 0 = false := by rw [fit0 hia hkb]; simp [hc2]
                    have HN : Hid (AP = false) := Lib.hid (by rw [hap.out, aps_some hlt hlm, HX, Bool.false_and])
                    clear HX hlm hap
                    go_wp2_with fail
                    go_quiet (fail)
                    go_wp2_with fail
                    go_ret2
                    exact ⟨twoS_no HW.out (by rw [← HAP.out]; exact HN.out), _, rfl⟩
              · have hq : s[p].toNat = 68 := hq
                by_cases h1 : i < a.size
                · have t1 : (i : Int) < (a.size : Int) := by omega
                  have HX : fitM a b i k 1 = true := by rw [fit1]; simp [h1]
                  have HIN := fit_in (m := 1) hi hk HX
                  have HN : Hid (AP = apS a b (s.data.toList.drop (p + 1)) (i + 1) (k + 0)) := Lib.hid (by rw [hap.out, aps_some hlt hlm, HX, Bool.true_and]; rfl)
                  simp only [mvA, mvB] at HIN
                  clear HX hlm hap
                  go_wp2_with fail
                  go_roundw
                  case rel => exact ⟨p + 1, i + 1, k + 0, by omega, by go_num, by go_num, by go_num, by omega, by omega, HN, _, rfl⟩
                  case measure => simp [intOf]; omega
                · have t1 : ¬ (i : Int) < (a.size : Int) := by omega
                  have HX : fitM a b i k 1 = false := by rw [fit1]; simp [h1]
                  have HN : Hid (AP = false) := Lib.hid (by rw [hap.out, aps_some hlt hlm, HX, Bool.false_and])
                  clear HX hlm hap
                  go_wp2_with fail
                  go_ret2
                  exact ⟨twoS_no HW.out (by rw [← HAP.out]; exact HN.out), _, rfl⟩
              · have hq : s[p].toNat = 73 := hq
                by_cases h1 : k < b.size
                · have t1 : (k : Int) < (b.size : Int) := by omega
                  have HX : fitM a b i k 2 = true := by rw [fit2]; simp [h1]
                  have HIN := fit_in (m := 2) hi hk HX
                  have HN : Hid (AP = apS a b (s.data.toList.drop (p + 1)) (i + 0) (k + 1)) := Lib.hid (by rw [hap.out, aps_some hlt hlm, HX, Bool.true_and]; rfl)
                  simp only [mvA, mvB] at HIN
                  clear HX hlm hap
                  go_wp2_with fail
                  go_roundw
                  case rel => exact ⟨p + 1, i + 0, k + 1, by omega, by go_num, by go_num, by go_num, by omega, by omega, HN, _, rfl⟩
                  case measure => simp [intOf]; omega
                · have t1 : ¬ (k : Int) < (b.size : Int) := by omega
                  have HX : fitM a b i k 2 = false := by rw [fit2]; simp [h1]
                  have HN : Hid (AP = false) := Lib.hid (by rw [hap.out, aps_some hlt hlm, HX, Bool.false_and])
                  clear HX hlm hap
                  go_wp2_with fail
                  go_ret2
                  exact ⟨twoS_no HW.out (by rw [← HAP.out]; exact HN.out), _, rfl⟩
              · have hq : s[p].toNat = 83 := hq
                rcases BB with _ | _
                · have hnb := HBB.out
                  have hnn : ¬ (i < a.size ∧ k < b.size) := of_decide_eq_false hnb.symm
                  clear hnb
                  have HX : fitM a b i k 3 = false := by
                    rcases h : fitM a b i k 3 with _ | _
                    · rfl
                    · have h2 := fit_in (m := 3) hi hk h
                      simp only [mvA, mvB] at h2
                      omega
                  have HN : Hid (AP = false) := Lib.hid (by rw [hap.out, aps_some hlt hlm, HX, Bool.false_and])
                  clear HX hlm hap
                  go_wp2_with fail
                  go_quiet (fail)
                  go_wp2_with fail
                  go_ret2
                  exact ⟨twoS_no HW.out (by rw [← HAP.out]; exact HN.out), _, rfl⟩
                · have hnb := HBB.out
                  have hia : i < a.size := (of_decide_eq_true hnb.symm).1
                  have hkb : k < b.size := (of_decide_eq_true hnb.symm).2
                  have ti : (i : Int) < (a.size : Int) := by omega
                  have tk : (k : Int) < (b.size : Int) := by omega
                  clear hnb
                  by_cases hc : a[i].toNat = b[k].toNat
                  · have bb : ((a[i].toNat : Int) != (b[k].toNat : Int)) = false := by rw [hc]; simp
                    have HX : fitM a b i k 3 = false := by rw [fit3 hia hkb, UInt8.toNat_inj.1 hc]; simp
                    have HN : Hid (AP = false) := Lib.hid (by rw [hap.out, aps_some hlt hlm, HX, Bool.false_and])
                    clear HX hlm hap hc
                    go_wp2_with fail
                    go_quiet (fail)
                    go_wp2_with fail
                    go_ret2
                    exact ⟨twoS_no HW.out (by rw [← HAP.out]; exact HN.out), _, rfl⟩
                  · have bb : ((a[i].toNat : Int) != (b[k].toNat : Int)) = true := by simp; omega
                    have hc2 : ¬ a[i] = b[k] := fun e => hc (by rw [e])
                    have HX : fitM a b i k 3 = true := by rw [fit3 hia hkb]; simp [hc2]
                    have HIN := fit_in (m := 3) hi hk HX
                    have HN : Hid (AP = apS a b (s.data.toList.drop (p + 1)) (i + 1) (k + 1)) := Lib.hid (by rw [hap.out, aps_some hlt hlm, HX, Bool.true_and]; rfl)
                    simp only [mvA, mvB] at HIN
                    clear HX hlm hap
                    go_wp2_with fail
                    go_quiet (fail)
                    go_wp2_with fail
                    go_roundw
                    case rel => exact ⟨p + 1, i + 1, k + 1, by omega, by go_num, by go_num, by go_num, by omega, by omega, HN, _, rfl⟩
                    case measure => simp [intOf]; omega
              · have hq : s[p].toNat = 88 := hq
                have wi : IntKind.i64.wrap ((i : Int) + 1) = (i : Int) + 1 := IntWalk.i64_in _ (by omega)
                have wk : IntKind.i64.wrap ((k : Int) + 1) = (k : Int) + 1 := IntWalk.i64_in _ (by omega)
                have zi : (0 : Int) ≤ (i : Int) + 1 := by omega
                have zk : (0 : Int) ≤ (k : Int) + 1 := by omega
                by_cases hi1 : i + 1 < a.size
                · have gi : (i : Int) + 1 < (a.size : Int) := by omega
                  by_cases hk1 : k + 1 < b.size
                  · have gk : (k : Int) + 1 < (b.size : Int) := by omega
                    have ti : (i : Int) < (a.size : Int) := by omega
                    have tk : (k : Int) < (b.size : Int) := by omega
                    have ti2 : i < a.size := by omega
                    have tk2 : k < b.size := by omega
                    have hxi := xchB_in hi1 hk1
                    by_cases h3 : a[i].toNat = a[i + 1].toNat
                    · have b3 : ((a[i].toNat : Int) != (a[i + 1].toNat : Int)) = false := by rw [h3]; simp
                      have HX : fitM a b i k 4 = false := by rw [fit4, hxi, UInt8.toNat_inj.1 h3]; simp
                      have HN : Hid (AP = false) := Lib.hid (by rw [hap.out, aps_some hlt hlm, HX, Bool.false_and])
                      clear HX hlm hap hxi h3
                      go_wp2_with fail
                      go_quiet (fail)
                      go_wp2_with fail
                      go_ret2
                      exact ⟨twoS_no HW.out (by rw [← HAP.out]; exact HN.out), _, rfl⟩
                    · have b3 : ((a[i].toNat : Int) != (a[i + 1].toNat : Int)) = true := by simp; omega
                      have g3 : ¬ a[i] = a[i + 1] := fun e => h3 (by rw [e])
                      by_cases h4 : a[i].toNat = b[k + 1].toNat
                      · have b4 : ((a[i].toNat : Int) == (b[k + 1].toNat : Int)) = true := by rw [h4]; simp
                        by_cases h5 : a[i + 1].toNat = b[k].toNat
                        · have b5 : ((a[i + 1].toNat : Int) == (b[k].toNat : Int)) = true := by rw [h5]; simp
                          have HX : fitM a b i k 4 = true := by
                            have e4 := UInt8.toNat_inj.1 h4
                            have e5 := UInt8.toNat_inj.1 h5
                            rw [fit4, hxi]
                            simp only [Bool.and_eq_true, decide_eq_true_eq]
                            exact ⟨g3, e4, e5⟩
                          have HIN := fit_in (m := 4) hi hk HX
                          have HN : Hid (AP = apS a b (s.data.toList.drop (p + 1)) (i + 2) (k + 2)) := Lib.hid (by rw [hap.out, aps_some hlt hlm, HX, Bool.true_and]; rfl)
                          simp only [mvA, mvB] at HIN
                          clear HX hlm hap hxi g3 h3 h4 h5
                          go_wp2_with fail
                          go_quiet (fail)
                          go_wp2_with fail
                          go_roundw
                          case rel => exact ⟨p + 1, i + 2, k + 2, by omega, by go_num, by go_num, by go_num, by omega, by omega, HN, _, rfl⟩
                          case measure => simp [intOf]; omega
                        · have b5 : ((a[i + 1].toNat : Int) == (b[k].toNat : Int)) = false := by simp; omega
                          have HX : fitM a b i k 4 = false := by
                            have e5 : ¬ a[i + 1] = b[k] := fun e => h5 (by rw [e])
                            rw [fit4, hxi]; simp [e5]
                          have HN : Hid (AP = false) := Lib.hid (by rw [hap.out, aps_some hlt hlm, HX, Bool.false_and])
                          clear HX hlm hap hxi g3 h3 h4
                          go_wp2_with fail
                          go_quiet (fail)
                          go_wp2_with fail
                          go_ret2
                          exact ⟨twoS_no HW.out (by rw [← HAP.out]; exact HN.out), _, rfl⟩
                      · have b4 : ((a[i].toNat : Int) == (b[k + 1].toNat : Int)) = false := by simp; omega
                        have HX : fitM a b i k 4 = false := by
                          have e4 : ¬ a[i] = b[k + 1] := fun e => h4 (by rw [e])
                          rw [fit4, hxi]; simp [e4]
                        have HN : Hid (AP = false) := Lib.hid (by rw [hap.out, aps_some hlt hlm, HX, Bool.false_and])
                        clear HX hlm hap hxi g3 h3
                        go_wp2_with fail
                        go_quiet (fail)
                        go_wp2_with fail
                        go_ret2
                        exact ⟨twoS_no HW.out (by rw [← HAP.out]; exact HN.out), _, rfl⟩
                  · have gk : decide ((k : Int) + 1 < (b.size : Int)) = false := by simp; omega
                    have HX : fitM a b i k 4 = false := by rw [fit4]; exact xchB_out (by omega)
                    have HN : Hid (AP = false) := Lib.hid (by rw [hap.out, aps_some hlt hlm, HX, Bool.false_and])
                    clear HX hlm hap
                    go_wp2_with fail
                    go_quiet (fail)
                    go_wp2_with fail
                    go_ret2
                    exact ⟨twoS_no HW.out (by rw [← HAP.out]; exact HN.out), _, rfl⟩
                · have gi : decide ((i : Int) + 1 < (a.size : Int)) = false := by simp; omega
                  have HX : fitM a b i k 4 = false := by rw [fit4]; exact xchB_out (by omega)
                  have HN : Hid (AP = false) := Lib.hid (by rw [hap.out, aps_some hlt hlm, HX, Bool.false_and])
                  clear HX hlm hap
                  go_wp2_with fail
                  go_quiet (fail)
                  go_wp2_with fail
                  go_ret2
                  exact ⟨twoS_no HW.out (by rw [← HAP.out]; exact HN.out), _, rfl⟩
        · have hae := aps_end (a := a) (b := b) (s := s) (i := i) (k := k) hlt
          have HE : Hid (AP = decide (i = a.size ∧ k = b.size)) := Lib.hid (by rw [hap.out, hae])
          have tp : ¬ (p : Int) < (s.size : Int) := by omega
          clear hae hap
          by_cases h1 : i < a.size
          · have t1 : (i : Int) < (a.size : Int) := by omega
            have HN : Hid (AP = false) := Lib.hid (by rw [HE.out]; simp; omega)
            go_wp2_with fail
            go_ret2
            exact ⟨twoS_no HW.out (by rw [← HAP.out]; exact HN.out), _, rfl⟩
          · have t1 : ¬ (i : Int) < (a.size : Int) := by omega
            by_cases h2 : k < b.size
            · have t2 : (k : Int) < (b.size : Int) := by omega
              have HN : Hid (AP = false) := Lib.hid (by rw [HE.out]; simp; omega)
              go_wp2_with fail
              go_ret2
              exact ⟨twoS_no HW.out (by rw [← HAP.out]; exact HN.out), _, rfl⟩
            · have t2 : ¬ (k : Int) < (b.size : Int) := by omega
              have HN : Hid (AP = true) := Lib.hid (by rw [HE.out]; simp; omega)
              go_wp2_with fail
              go_ret2
              exact ⟨twoS_yes HW.out (by rw [← HAP.out]; exact HN.out), _, rfl⟩
end Go.Proofs.YtiegaebnlikjiaaDoor
