/-
  The steps of two words, by the model and by the program, and the law's walk.
-/
import Derived.Test.YtiegaebnlikjiaaKey
namespace Go.Proofs.Ytiegaebnlikjiaa
open Go.RowKit

set_option maxRecDepth 100000 in
set_option maxHeartbeats 2000000 in
theorem l06Steps_any (a b : ByteArray) (w : World) (ha : wordB a 10 = true) (hb : wordB b 10 = true) (hs : a.size = b.size) (h20 : a.size ≤ 20) :
    Calls Try.prog 82 #[.string a, .string b] w fun e w' => e = .returned (.int .i64 (keySum (digs a.data.toList) (digs b.data.toList) a.size)) ∧ w = w' := by
  have hbd := Lib.hid (keySum_bd (u := digs a.data.toList) (v := digs b.data.toList) (digs_ten ha) (digs_ten hb))
  have HA := Lib.hid ha
  have HB := Lib.hid hb
  clear ha hb
  go_enter Try.func82, Try.ntmps82
  go_wp2_with fail
  go_loop [5, 6, 7, 8, 9, 10] (fun s i _ _ _ _ => ∃ (k : Nat) (v : Int), k ≤ a.size ∧ i = .int .i64 k ∧ s = .int .i64 v ∧ Hid (v = keySum (digs a.data.toList) (digs b.data.toList) k) ∧ 0 ≤ v ∧ v ≤ 5 * (k : Int)) (fun _ i _ _ _ _ => a.size - (intOf i).toNat)
  case atStart => exact ⟨0, 0, by omega, rfl, rfl, Lib.hid rfl, by omega, by omega⟩
  case round =>
    obtain ⟨k, v, hk, rfl, rfl, hv, hv0, hv1⟩ := hrel
    by_cases hlt : k < a.size
    · have hlb : k < b.size := by omega
      obtain ⟨a1, a2, a3⟩ := byte_ten HA.out hlt
      obtain ⟨b1, b2, b3⟩ := byte_ten HB.out hlb
      have C1 := fun W => l06Key_any a[k].toNat W ⟨a1, a2⟩
      have C2 := fun W => l06Key_any b[k].toNat W ⟨b1, b2⟩
      have HN : Hid (keySum (digs a.data.toList) (digs b.data.toList) (k + 1) = v + keyS ((a[k].toNat : Int) - 48) ((b[k].toNat : Int) - 48)) := Lib.hid (by
        rw [hv.out, ← a3, ← b3]
        show _ + keyS _ _ = _
        rw [digs_at hlt, digs_at hlb])
      have hB := hbd.out (k + 1)
      rw [HN.out] at hB
      have k1 := key_bd (d := (a[k].toNat : Int) - 48) (by omega)
      have k2 := key_bd (d := (b[k].toNat : Int) - 48) (by omega)
      unfold keyS absD at HN
      unfold keyS absD at hB
      obtain ⟨r1, hr1⟩ : ∃ r, r = keyR ((a[k].toNat : Int) - 48) := ⟨_, rfl⟩
      obtain ⟨r2, hr2⟩ : ∃ r, r = keyR ((b[k].toNat : Int) - 48) := ⟨_, rfl⟩
      obtain ⟨c1, hc1⟩ : ∃ r, r = keyC ((a[k].toNat : Int) - 48) := ⟨_, rfl⟩
      obtain ⟨c2, hc2⟩ : ∃ r, r = keyC ((b[k].toNat : Int) - 48) := ⟨_, rfl⟩
      rw [← hr1, ← hc1] at C1 k1
      rw [← hr2, ← hc2] at C2 k2
      rw [← hr1, ← hr2, ← hc1, ← hc2] at HN hB
      clear hr1 hr2 hc1 hc2 a3 b3
      go_wp2_with (first | (go_at_call 114; (with_reducible refine (C1 _).mono ?_); rintro e w' ⟨rfl, rfl⟩) | (go_at_call 114; (with_reducible refine (C2 _).mono ?_); rintro e w' ⟨rfl, rfl⟩) | (go_at_call 115; (with_reducible refine (l00Max_any _ _ _).mono ?_); rintro e w' ⟨rfl, rfl⟩))
      go_round
      case rel =>
        refine ⟨k + 1, _, by omega, by go_num, rfl, Lib.hid ?_, ?_, ?_⟩
        · rw [HN.out]; omega
        · omega
        · omega
      case measure => simp [intOf]; omega
    · obtain rfl : k = a.size := by omega
      go_wp2
      go_ret
      exact ⟨ret_int (by rw [hv.out, hs]), rfl⟩
set_option maxHeartbeats 1000000 in
theorem specKeySteps_any (a b : ByteArray) (w : World) (hsa : a.size ≤ maxLen) (hsb : b.size ≤ maxLen) :
    Calls Try.prog 41 #[.string a, .string b] w fun e w' => e = two (keyV a b) (keyOk a b) ∧ w = w' := by
  have ha' := hsa
  have hb' := hsb
  unfold maxLen at ha' hb'
  have C1 := fun W => l06Digits_any a W hsa
  have C2 := fun W => l06Digits_any b W hsb
  rcases ha : wordB a 10 with _ | _
  · rw [ha] at C1
    have H : Hid (keyOk a b = false) := Lib.hid (by simp [keyOk, ha])
    clear ha
    go_enter Try.func41, Try.ntmps41
    go_wp2_with (first | (go_at_call 81; (with_reducible refine (C1 _).mono ?_); rintro e w' ⟨rfl, rfl⟩) | (go_at_call 81; (with_reducible refine (C2 _).mono ?_); rintro e w' ⟨rfl, rfl⟩))
    go_ret2
    exact ⟨two_eq (by simp [keyV, H.out]) H.out.symm, rfl⟩
  · rcases hb : wordB b 10 with _ | _
    · rw [ha] at C1
      rw [hb] at C2
      have H : Hid (keyOk a b = false) := Lib.hid (by simp [keyOk, hb])
      clear ha hb
      go_enter Try.func41, Try.ntmps41
      go_wp2_with (first | (go_at_call 81; (with_reducible refine (C1 _).mono ?_); rintro e w' ⟨rfl, rfl⟩) | (go_at_call 81; (with_reducible refine (C2 _).mono ?_); rintro e w' ⟨rfl, rfl⟩))
      go_ret2
      exact ⟨two_eq (by simp [keyV, H.out]) H.out.symm, rfl⟩
    · by_cases hs : a.size = b.size
      · have h20 : a.size ≤ 20 := by
          have h := ha
          unfold wordB at h
          simp only [Bool.and_eq_true, decide_eq_true_eq] at h
          exact h.2.1
        have CS := fun W => l06Steps_any a b W ha hb hs h20
        have H : Hid (keyOk a b = true) := Lib.hid (by simp [keyOk, ha, hb, hs])
        have HV : Hid (keyV a b = keySum (digs a.data.toList) (digs b.data.toList) a.size) := Lib.hid (by unfold keyV; rw [if_pos H.out])
        rw [ha] at C1
        rw [hb] at C2
        clear ha hb
        go_enter Try.func41, Try.ntmps41
        go_wp2_with (first | (go_at_call 81; (with_reducible refine (C1 _).mono ?_); rintro e w' ⟨rfl, rfl⟩) | (go_at_call 81; (with_reducible refine (C2 _).mono ?_); rintro e w' ⟨rfl, rfl⟩) | (go_at_call 82; (with_reducible refine (CS _).mono ?_); rintro e w' ⟨rfl, rfl⟩))
        go_ret2
        exact ⟨two_eq (by rw [HV.out, hs]) H.out.symm, rfl⟩
      · have H : Hid (keyOk a b = false) := Lib.hid (by simp [keyOk, hs])
        rw [ha] at C1
        rw [hb] at C2
        clear ha hb
        go_enter Try.func41, Try.ntmps41
        go_wp2_with (first | (go_at_call 81; (with_reducible refine (C1 _).mono ?_); rintro e w' ⟨rfl, rfl⟩) | (go_at_call 81; (with_reducible refine (C2 _).mono ?_); rintro e w' ⟨rfl, rfl⟩))
        go_ret2
        exact ⟨two_eq (by simp [keyV, H.out]) H.out.symm, rfl⟩
set_option maxRecDepth 100000 in
set_option maxHeartbeats 2000000 in
theorem implKeySteps_any (a b : ByteArray) (w : World) (hsa : a.size ≤ maxLen) (hsb : b.size ≤ maxLen) :
    Calls Try.prog 42 #[.string a, .string b] w fun e w' => e = two (keyV a b) (keyOk a b) ∧ Below w.heap.size w w' := by
  have ha' := hsa
  have hb' := hsb
  unfold maxLen at ha' hb'
  have D1 := fun W => implDigits_any a 10 W hsa
  have D2 := fun W => implDigits_any b 10 W hsb
  rcases hok : keyOk a b with _ | _
  · have H : Hid (keyV a b = 0) := Lib.hid (by unfold keyV; rw [hok]; rfl)
    have HO := Lib.hid hok
    clear hok
    go_enter Try.func42, Try.ntmps42
    go_wp2_with fail
    (go_at_call 83; (with_reducible refine (D1 _).mono ?_); rintro e w1 ⟨A1, c1, rfl, o1, b1⟩)
    go_wp2_with fail
    (go_at_call 83; (with_reducible refine (D2 _).mono ?_); rintro e w2 ⟨A2, c2, rfl, o2, b2⟩)
    have hbel := Lib.hid (b1.trans (b2.mono b1.size))
    clear o1 o2
    have hh := HO.out
    unfold keyOk at hh
    rcases hwa : wordB a 10 with _ | _
    · go_wp2_with fail
      go_ret2
      exact ⟨two_eq H.out.symm rfl, hbel.out⟩
    · rcases hwb : wordB b 10 with _ | _
      · go_wp2_with fail
        go_ret2
        exact ⟨two_eq H.out.symm rfl, hbel.out⟩
      · have hs : ¬ a.size = b.size := by
          intro e
          rw [hwa, hwb] at hh
          simp [e] at hh
        clear hh
        go_wp2_with fail
        go_ret2
        exact ⟨two_eq H.out.symm rfl, hbel.out⟩
  · have HV : Hid (keyV a b = keySum (digs a.data.toList) (digs b.data.toList) a.size) := Lib.hid (by unfold keyV; rw [if_pos hok])
    unfold keyOk at hok
    simp only [Bool.and_eq_true, decide_eq_true_eq] at hok
    obtain ⟨ha, hb, hs⟩ := hok
    have h20 : a.size ≤ 20 := by
      have h := ha
      unfold wordB at h
      simp only [Bool.and_eq_true, decide_eq_true_eq] at h
      exact h.2.1
    have hbd := Lib.hid (keySum_bd (u := digs a.data.toList) (v := digs b.data.toList) (digs_ten ha) (digs_ten hb))
    have e1 : digR a 10 = digs a.data.toList := by unfold digR; rw [if_pos ha]
    have e2 : digR b 10 = digs b.data.toList := by unfold digR; rw [if_pos hb]
    have l1 : (digs a.data.toList).length = a.size := by rw [digs_len]; simp
    have l2 : (digs b.data.toList).length = a.size := by rw [digs_len]; simp; omega
    have D1 : ∀ W, Calls Try.prog 83 #[.string a, .int .i64 10] W fun e w' => ∃ A c, e = .returned (.tuple #[.slice A a.size c, .bool true]) ∧ Own W.heap.size w' A a.size c (digs a.data.toList) ∧ Below W.heap.size W w' := fun W => by
      have h := D1 W
      unfold DigPost at h
      rw [e1, ha, l1] at h
      exact h
    have D2 : ∀ W, Calls Try.prog 83 #[.string b, .int .i64 10] W fun e w' => ∃ A c, e = .returned (.tuple #[.slice A a.size c, .bool true]) ∧ Own W.heap.size w' A a.size c (digs b.data.toList) ∧ Below W.heap.size W w' := fun W => by
      have h := D2 W
      unfold DigPost at h
      rw [e2, hb, l2] at h
      exact h
    have hta := Lib.hid (digs_ten ha)
    have htb := Lib.hid (digs_ten hb)
    obtain ⟨U, hU⟩ : ∃ U, U = digs a.data.toList := ⟨_, rfl⟩
    obtain ⟨V, hV⟩ : ∃ V, V = digs b.data.toList := ⟨_, rfl⟩
    obtain ⟨n, hn⟩ : ∃ n, n = a.size := ⟨_, rfl⟩
    rw [← hU, ← hV, ← hn] at HV
    rw [← hU, ← hV] at hbd
    rw [← hU] at hta
    rw [← hV] at htb
    rw [← hU, ← hn] at D1
    rw [← hV, ← hn] at D2
    have HS := Lib.hid hs
    have hnn : (a.size : Int) = n := by omega
    have hmm : (b.size : Int) = n := by omega
    have hn20 : n ≤ 20 := by omega
    clear hU hV l1 l2 e1 e2 ha hb ha' hb' hn h20 hs
    go_enter Try.func42, Try.ntmps42
    go_wp2_with fail
    (go_at_call 83; (with_reducible refine (D1 _).mono ?_); rintro e w1 ⟨A1, c1, rfl, o1, b1⟩)
    go_wp2_with fail
    (go_at_call 83; (with_reducible refine (D2 _).mono ?_); rintro e w2 ⟨A2, c2, rfl, o2, b2⟩)
    have hbel := Lib.hid (b1.trans (b2.mono b1.size))
    have R1 := (o1.below b2).row
    have R2 := o2.row
    clear o1 o2 b1 b2
    have hse := HS.out
    go_wp2_with fail
    go_loop [10, 11, 12, 13, 14, 15, 41] (fun s _ _ _ _ _ i => ∃ (k : Nat) (v : Int), k ≤ n ∧ i = .int .i64 k ∧ s = .int .i64 v ∧ Hid (v = keySum U V k) ∧ 0 ≤ v ∧ v ≤ 5 * (k : Int)) (fun _ _ _ _ _ _ i => n - (intOf i).toNat)
    case atStart => exact ⟨0, 0, by omega, rfl, rfl, Lib.hid rfl, by omega, by omega⟩
    case round =>
      obtain ⟨k, v, hk, rfl, rfl, hv, hv0, hv1⟩ := hrel
      by_cases hlt : k < n
      · obtain ⟨bA, oA, d, rfl, _, hz1, q1, _⟩ := R1.at_ hlt
        obtain ⟨bB, oB, e, rfl, _, hz2, q2, _⟩ := R2.at_ hlt
        have g1 : U.getD k 0 = d := by rw [List.getD_eq_getElem?_getD, hz1]; rfl
        have g2 : V.getD k 0 = e := by rw [List.getD_eq_getElem?_getD, hz2]; rfl
        have d1 := hta.out k
        have d2 := htb.out k
        rw [g1] at d1
        rw [g2] at d2
        have HN : Hid (keySum U V (k + 1) = v + keyS d e) := Lib.hid (by
          rw [hv.out]
          show _ + keyS _ _ = _
          rw [g1, g2])
        have hB := hbd.out (k + 1)
        rw [HN.out] at hB
        have k1 := key_bd d1
        have k2 := key_bd d2
        have C1 := fun W => keyOf_any d W d1
        have C2 := fun W => keyOf_any e W d2
        unfold keyS at HN hB
        generalize keyR d = r1 at *
        generalize keyC d = c1 at *
        generalize keyR e = r2 at *
        generalize keyC e = c2 at *
        have G1 := fun W => gapOf_any r1 r2 W (by omega) (by omega)
        have G2 := fun W => gapOf_any c1 c2 W (by omega) (by omega)
        have z1 : 0 ≤ absD r1 r2 ∧ absD r1 r2 ≤ 3 := by unfold absD; omega
        have z2 : 0 ≤ absD c1 c2 ∧ absD c1 c2 ≤ 2 := by unfold absD; omega
        generalize absD r1 r2 = y1 at *
        generalize absD c1 c2 = y2 at *
        clear hz1 hz2 g1 g2
        go_wp2_with (first | (go_at_call 84; (with_reducible refine (C1 _).mono ?_); rintro e w' ⟨rfl, rfl⟩) | (go_at_call 84; (with_reducible refine (C2 _).mono ?_); rintro e w' ⟨rfl, rfl⟩) | (go_at_call 85; (with_reducible refine (G1 _).mono ?_); rintro e w' ⟨rfl, rfl⟩) | (go_at_call 85; (with_reducible refine (G2 _).mono ?_); rintro e w' ⟨rfl, rfl⟩))
        go_round
        case rel =>
          refine ⟨k + 1, _, by omega, by go_num, rfl, Lib.hid ?_, ?_, ?_⟩
          · rw [HN.out]
          · omega
          · omega
        case measure => simp [intOf]; omega
      · obtain rfl : k = n := by omega
        go_wp2
        go_ret2
        exact ⟨two_eq (by rw [HV.out]; exact hv.out) rfl, hbel.out⟩
set_option maxHeartbeats 1000000 in
theorem keySteps_walk (a b : ByteArray) (w : World) (hsa : a.size ≤ maxLen) (hsb : b.size ≤ maxLen) :
    Calls Try.prog 9 #[.string a, .string b] w fun e w' => e = .returned (.bool true) ∧ Below w.heap.size w w' := by
  have ha' := hsa
  have hb' := hsb
  unfold maxLen at ha' hb'
  by_cases hla : 1048576 < a.size
  · go_enter Try.func9, Try.ntmps9
    go_wp2
    go_ret
    exact ⟨rfl, Below.refl _ _⟩
  · by_cases hlb : 1048576 < b.size
    · go_enter Try.func9, Try.ntmps9
      go_wp2
      go_ret
      exact ⟨rfl, Below.refl _ _⟩
    · go_enter Try.func9, Try.ntmps9
      go_wp2_with (first | (go_at_call 41; (with_reducible refine (specKeySteps_any _ _ _ hsa hsb).mono ?_); rintro e w' ⟨rfl, rfl⟩) | (go_at_call 42; (with_reducible refine (implKeySteps_any _ _ _ hsa hsb).mono ?_); rintro e w' ⟨rfl, hbel⟩))
      go_ret
      exact ⟨rfl, hbel⟩
end Go.Proofs.Ytiegaebnlikjiaa
