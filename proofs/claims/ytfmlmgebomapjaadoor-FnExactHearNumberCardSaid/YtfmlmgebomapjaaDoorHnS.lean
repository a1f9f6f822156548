/-
  Heard numbers of the model.
-/
import Derived.Test.YtfmlmgebomapjaaDoorHnM
import Derived.Test.YtfmlmgebomapjaaDoorSkP
import Derived.Test.YtfmlmgebomapjaaDoorOwnK
import Derived.Deep.QuietTactic
import Derived.BigQuiet
import Derived.IntWalk
namespace Go.Proofs.YtfmlmgebomapjaaDoor
open Go Go.RowKit

theorem quietB {P : Program} {f : FuncId} {args : Array Value} {w : World} {a n : Nat} {v : Value} (h : Calls P f args (w.drewN (a + n)) fun e w' => e = .returned v ∧ w' = w.drewN (a + n)) :
    Calls P f args (w.drewN (a + n)) fun e w'' => e = .returned v ∧ ∃ m, w'' = w.drewN (a + m) := h.mono fun _ _ ⟨he, hm⟩ => ⟨he, n, hm⟩
theorem texts_atH {ps : List ByteArray} {P : List (List UInt8)} (h : textsOf ps = P) {k : Nat} {p : ByteArray} (hp : ps[k]? = some p) : P[k]? = some p.data.toList := by
  rw [← h]; unfold textsOf; rw [List.getElem?_map, hp]; rfl
theorem nmO_m1 {F S p : ByteArray} {h0 : 0 < p.size} (h : p.size = 2) (hx : ixO F.data.toList p[0] = none) : nmO F S p.data.toList = none := by
  rw [nmO_two h, hx]
theorem nmO_m2 {F S p : ByteArray} {h1 : 1 < p.size} (h : p.size = 2) (hx : ixO S.data.toList p[1] = none) : nmO F S p.data.toList = none := by
  rw [nmO_two h, hx]
  cases ixO F.data.toList (p[0]'(by omega)) <;> rfl
theorem nmO_m3 {F S p : ByteArray} {h0 : 0 < p.size} {h1 : 1 < p.size} {a b : Nat} (h : p.size = 2) (hx : ixO F.data.toList p[0] = some a) (hy : ixO S.data.toList p[1] = some b) : nmO F S p.data.toList = some (a * S.size + b) := by
  rw [nmO_two h, hx, hy]

set_option maxRecDepth 100000 in
set_option maxHeartbeats 8000000 in
theorem specHear_any (F S s : ByteArray) (w : World) (hF : F.size ≤ 1048576) (hS : S.size ≤ 1048576) (hs : s.size ≤ 1048576) :
    Calls Tryd.prog 33 #[spV F S, .string s] w fun e w' => e = hnE (hnO F S (cut 45 s.data.toList)) ∧ Below w.heap.size w w' := by
  have CV := fun W g => l07Speech_any F S g W hF hS
  have CC := fun W => l01Cut_any s 45 45 rfl W hs
  rcases h1 : spB F S with _ | _
  · have H : Hid (hnO F S (cut 45 s.data.toList) = none) := Lib.hid (hnO_no (by unfold nmOk; rw [h1]; rfl))
    rw [h1] at CV
    clear h1
    go_enter Tryd.func33, Tryd.ntmps33
    go_wp2_with (go_at_call 61; (with_reducible refine (CV _ _ (by simp) (by simp)).mono ?_); rintro e w' ⟨rfl, m, rfl⟩)
    go_ret2
    exact ⟨hn_no H.out, below_drewN ((Below.refl _ w).alloc (Nat.le_refl _) _) m⟩
  · obtain ⟨⟨hF1, hF20⟩, hS1, hS6⟩ := sp_parts h1
    obtain ⟨hb1, hb120⟩ := base_bd h1
    have H1 := Lib.hid h1
    rw [h1] at CV
    clear h1
    obtain ⟨Q, hQ⟩ : ∃ Q, Q = F.size * S.size := ⟨_, rfl⟩
    have HQ := Lib.hid hQ
    have hmulQ : (F.size : Int) * (S.size : Int) = (Q : Int) := by rw [hQ]; simp
    rw [← hQ] at hb1 hb120
    clear hQ
    have HWQ : Hid (wrap64 (Q : Int) = (Q : Int)) := Lib.hid (IntWalk.wrap64_in _ (by omega))
    go_enter Tryd.func33, Tryd.ntmps33
    go_wp2_with fail
    (go_at_call 61; (with_reducible refine (CV _ _ (by simp) (by simp)).mono ?_); rintro e w' ⟨rfl, m, rfl⟩)
    obtain ⟨W1, hW1⟩ : ∃ W, W = (w.alloc (.cells #[.string F, .string S] 50)).drewN m := ⟨_, rfl⟩
    have B1 : Hid (Below w.heap.size w W1) := Lib.hid (by rw [hW1]; exact below_drewN ((Below.refl _ w).alloc (Nat.le_refl _) _) m)
    have p0 : W1.cell? ⟨w.heap.size, 0, none⟩ = some (.string F) := by rw [hW1]; simp
    have p1 : W1.cell? ⟨w.heap.size, 1, none⟩ = some (.string S) := by rw [hW1]; simp
    have l1 : w.heap.size < W1.heap.size := by rw [hW1]; simp
    rw [← hW1]
    clear hW1
    go_wp2_with fail
    (go_at_call 62; (with_reducible refine (CC W1).mono ?_); rintro e w2 ⟨A1, c1, ps, rfl, o1, hp, b1⟩)
    obtain ⟨L, hL⟩ : ∃ L, L = ps.length := ⟨_, rfl⟩
    have HPL := Lib.hid hL
    have HP := Lib.hid hp
    have O1 : Hid (w2.ownsRow W1.heap.size 9 1 (.slice A1 L c1) L (cellsS ps)) := Lib.hid (by rw [hL]; exact o1)
    have HCL : Hid (L = (cut 45 s.data.toList).length) := Lib.hid (by rw [← hp, hL]; simp)
    have hL1 : 1 ≤ L := by
      have h5 := cut_ne 45 s.data.toList
      have h6 := HCL.out
      rcases hc : cut 45 s.data.toList with _ | ⟨x, r⟩
      · exact absurd hc h5
      · rw [hc] at h6; simp at h6; omega
    have q0 : w2.cell? ⟨w.heap.size, 0, none⟩ = some (.string F) := (b1.cell (p := ⟨w.heap.size, 0, none⟩) l1).trans p0
    have q1 : w2.cell? ⟨w.heap.size, 1, none⟩ = some (.string S) := (b1.cell (p := ⟨w.heap.size, 1, none⟩) l1).trans p1
    have l2 : w.heap.size < w2.heap.size := Nat.lt_of_lt_of_le l1 b1.size
    have B2 := Lib.hid (B1.out.trans (b1.mono B1.out.size))
    rw [← hL]
    clear hL hp o1 p0 p1 b1 CC CV
    by_cases h8 : 8 < L
    · have h8i : (8 : Int) < (L : Int) := by omega
      have H : Hid (hnO F S (cut 45 s.data.toList) = none) := Lib.hid (hnO_no (nm_long (by rw [← HCL.out]; exact h8)))
      go_wp2_with fail
      go_ret2
      exact ⟨hn_no H.out, B2.out⟩
    · have h8i : ¬ (8 : Int) < (L : Int) := by omega
      have CP := fun W => l07Power_any Q L W hb1 hb120 (by omega)
      have HOK : Hid (nmOk F S ((cut 45 s.data.toList).length : Int) = pwOk Q L) := Lib.hid (by
        rw [← HCL.out]
        unfold nmOk
        rw [H1.out, show inB (L : Int) 1 8 = true from inB_true.2 (by omega), ← HQ.out]; rfl)
      rcases hp : pwOk Q L with _ | _
      · have H : Hid (hnO F S (cut 45 s.data.toList) = none) := Lib.hid (hnO_no (HOK.out.trans hp))
        have hv : pwV Q L = 0 := by unfold pwV; rw [hp]; rfl
        rw [hp, hv] at CP
        clear hp hv
        have hwQ := HWQ.out
        go_wp2_with (go_at_call 63; (with_reducible refine (CP _).mono ?_); rintro e w' ⟨rfl, rfl⟩)
        clear hwQ
        go_ret2
        exact ⟨hn_no H.out, B2.out⟩
      · have HY : Hid (hnO F S (cut 45 s.data.toList) = hearN F S (cut 45 s.data.toList) 0) := Lib.hid (hnO_yes (HOK.out.trans hp))
        have HM : Hid (∀ k n, k ≤ L → n < Q ^ k → n < 1000000000000000) := Lib.hid (fun k n hk hn => by
          have h5 := pw_mono hb1 hk
          unfold pwOk at hp
          rw [decide_eq_true_eq] at hp
          omega)
        obtain ⟨v, hv⟩ : ∃ v, v = pwV Q L := ⟨_, rfl⟩
        rw [hp, ← hv] at CP
        clear hp hv
        have hwQ := HWQ.out
        go_wp2_with (go_at_call 63; (with_reducible refine (CP _).mono ?_); rintro e w' ⟨rfl, rfl⟩)
        clear hwQ
        go_loopw [11, 12, 13, 14] (fun x y _ _ wr => ∃ (k n : Nat), k ≤ L ∧ y = .int .i64 (k : Int) ∧ x = .int .i64 (n : Int) ∧ Hid (HnIn F S (cut 45 s.data.toList) k n) ∧ Below w2.heap.size w2 wr) (fun _ y _ _ _ => L - (intOf y).toNat)
        case atStart => exact ⟨0, 0, by omega, rfl, rfl, Lib.hid (HnIn.zero F S _), Below.refl _ _⟩
        case round =>
          obtain ⟨k, n, hk, rfl, rfl, hI, hbl⟩ := hrel
          obtain ⟨W, hW⟩ : ∃ W, W = wr := ⟨_, rfl⟩
          rw [← hW] at hbl ⊢
          clear hW
          have hnb : n < 1000000000000000 := HM.out k n hk (by rw [HQ.out]; exact hI.out.2)
          by_cases hlt : k < L
          · have hkp : k < ps.length := by have := HPL.out; omega
            have hpk : ps[k]? = some ps[k] := List.getElem?_eq_getElem hkp
            obtain ⟨p, hpp⟩ : ∃ p, p = ps[k] := ⟨_, rfl⟩
            rw [← hpp] at hpk
            have hcut := texts_atH HP.out hpk
            rcases ownsRow_form O1.out with ⟨_, h00, _⟩ | ⟨g, rfl, hgB, hgl, _, _⟩
            · omega
            have hcp2 : w2.cell? ⟨g, k, none⟩ = some (.string p) := by
              rw [World.ownsRow.cellAt O1.out k (by omega), cellsS, List.getElem?_map, hpk]; rfl
            have hcp : W.cell? ⟨g, k, none⟩ = some (.string p) := (hbl.cell (p := ⟨g, k, none⟩) hgl).trans hcp2
            have y0 : W.cell? ⟨w.heap.size, 0, none⟩ = some (.string F) := (hbl.cell (p := ⟨w.heap.size, 0, none⟩) l2).trans q0
            have y1 : W.cell? ⟨w.heap.size, 1, none⟩ = some (.string S) := (hbl.cell (p := ⟨w.heap.size, 1, none⟩) l2).trans q1
            have B3 := Lib.hid (B2.out.trans (hbl.mono B2.out.size))
            have HC := Lib.hid hcut
            have hlti : (k : Int) < (L : Int) := by omega
            clear hcut hpk hpp hcp2
            by_cases h2 : p.size = 2
            · have hg : ((p.size : Int) != 2) = false := by rw [h2]; rfl
              have h0 : 0 < p.size := by omega
              have h1 : 1 < p.size := by omega
              have h0i : (0 : Int) < (p.size : Int) := by omega
              have h1i : (1 : Int) < (p.size : Int) := by omega
              have C1 := fun W => l07Index_any F (p[0]'h0) W (by unfold maxLen; omega)
              have C2 := fun W => l07Index_any S (p[1]'h1) W (by unfold maxLen; omega)
              rcases hx : ixO F.data.toList (p[0]'h0) with _ | a
              · have H : Hid (hnO F S (cut 45 s.data.toList) = none) := Lib.hid (HY.out.trans (hI.out.bad HC.out (nmO_m1 (h0 := h0) h2 hx)))
                have e1 : ixI F (p[0]'h0) = -1 := by unfold ixI; rw [hx]
                obtain ⟨y, hy⟩ : ∃ y, y = ixI S (p[1]'h1) := ⟨_, rfl⟩
                rw [e1] at C1
                rw [← hy] at C2
                clear hx e1 hy h2
                go_wp2_with fail
                go_quiet ((go_at_call 57; first | exact Calls.quiet_of_same (C1 _) | exact quietB (C1 _)))
                go_wp2_with fail
                go_quiet ((go_at_call 57; first | exact Calls.quiet_of_same (C2 _) | exact quietB (C2 _)))
                go_wp2_with fail
                go_ret2
                exact ⟨hn_no H.out, below_drewN B3.out _⟩
              · have ha := ixO_lt hx
                have e1 : ixI F (p[0]'h0) = (a : Int) := by unfold ixI; rw [hx]
                rw [e1] at C1
                simp only [Array.length_toList] at ha
                have ha20 : a < 20 := Nat.lt_of_lt_of_le ha hF20
                have han : ¬ (a : Int) < 0 := by omega
                rcases hy : ixO S.data.toList (p[1]'h1) with _ | b
                · have H : Hid (hnO F S (cut 45 s.data.toList) = none) := Lib.hid (HY.out.trans (hI.out.bad HC.out (nmO_m2 (h1 := h1) h2 hy)))
                  have e2 : ixI S (p[1]'h1) = -1 := by unfold ixI; rw [hy]
                  rw [e2] at C2
                  clear hx hy e1 e2 h2 ha
                  go_wp2_with fail
                  go_quiet ((go_at_call 57; first | exact Calls.quiet_of_same (C1 _) | exact quietB (C1 _)))
                  go_wp2_with fail
                  go_quiet ((go_at_call 57; first | exact Calls.quiet_of_same (C2 _) | exact quietB (C2 _)))
                  go_wp2_with fail
                  go_ret2
                  exact ⟨hn_no H.out, below_drewN B3.out _⟩
                · have hd := nmO_m3 (h0 := h0) (h1 := h1) h2 hx hy
                  have hN := hI.out.next HC.out hd
                  have e2 : ixI S (p[1]'h1) = (b : Int) := by unfold ixI; rw [hy]
                  have hb := ixO_lt hy
                  simp only [Array.length_toList] at hb
                  have hb6 : b < 6 := Nat.lt_of_lt_of_le hb hS6
                  rw [e2] at C2
                  obtain ⟨Y, hY⟩ : ∃ Y, Y = a * S.size := ⟨_, rfl⟩
                  have hYb : Y ≤ 120 := by rw [hY]; exact Nat.le_trans (Nat.mul_le_mul (Nat.le_of_lt ha20) hS6) (by decide)
                  have hmul : (a : Int) * (S.size : Int) = (Y : Int) := by rw [hY]; simp
                  rw [← HQ.out, ← hY] at hN
                  obtain ⟨X, hX⟩ : ∃ X, X = n * Q := ⟨_, rfl⟩
                  have hmulX : (Q : Int) * (n : Int) = (X : Int) := by rw [hX, Nat.mul_comm]; simp
                  rw [← hX] at hN
                  have hXb : X ≤ 120000000000000000 := by rw [hX]; exact Nat.le_trans (Nat.mul_le_mul (Nat.le_of_lt hnb) hb120) (by decide)
                  have HN := Lib.hid hN
                  clear hx hy e1 e2 h2 ha hb hY hX hN hd
                  have hbn : ¬ (b : Int) < 0 := by omega
                  have HW1 : Hid (wrap64 (Y : Int) = (Y : Int)) := Lib.hid (IntWalk.wrap64_in _ (by omega))
                  have HW2 : Hid (wrap64 (X : Int) = (X : Int)) := Lib.hid (IntWalk.wrap64_in _ (by omega))
                  have HV0 : Hid ((X : Int) + (Y : Int) + (b : Int) = ((X + (Y + b) : Nat) : Int)) := Lib.hid (by omega)
                  have HV1 : Hid (wrap64 ((X : Int) + (Y : Int) + (b : Int)) = ((X + (Y + b) : Nat) : Int)) := Lib.hid ((IntWalk.wrap64_in ((X : Int) + (Y : Int) + (b : Int)) (by omega)).trans (by omega))
                  have HV2 : Hid (wrap64 (wrap64 ((X : Int) + (Y : Int)) + (b : Int)) = ((X + (Y + b) : Nat) : Int)) := Lib.hid (by rw [IntWalk.wrap64_in ((X : Int) + (Y : Int)) (by omega)]; exact (IntWalk.wrap64_in ((X : Int) + (Y : Int) + (b : Int)) (by omega)).trans (by omega))
                  have HV3 : Hid (wrap64 (wrap64 (wrap64 (X : Int) + wrap64 (Y : Int)) + (b : Int)) = ((X + (Y + b) : Nat) : Int)) := Lib.hid (by rw [HW1.out, HW2.out]; exact HV2.out)
                  go_wp2_with fail
                  go_quiet ((go_at_call 57; first | exact Calls.quiet_of_same (C1 _) | exact quietB (C1 _)))
                  go_wp2_with fail
                  go_quiet ((go_at_call 57; first | exact Calls.quiet_of_same (C2 _) | exact quietB (C2 _)))
                  go_wp2_with fail
                  clear hmul hmulX
                  go_roundw
                  case rel => exact ⟨k + 1, X + (Y + b), by omega, by go_num, (by first | exact congrArg _ HV0.out | exact congrArg _ HV1.out | exact congrArg _ HV2.out | exact congrArg _ HV3.out), HN, below_drewN hbl _⟩
                  case measure => simp [intOf]; omega
            · have hg : ((p.size : Int) != 2) = true := by simp; omega
              have H : Hid (hnO F S (cut 45 s.data.toList) = none) := Lib.hid (HY.out.trans (hI.out.bad HC.out (nmO_bad h2)))
              clear h2
              go_wp2_with fail
              go_ret2
              exact ⟨hn_no H.out, B3.out⟩
          · have B3 := Lib.hid (B2.out.trans (hbl.mono B2.out.size))
            have H : Hid (hnO F S (cut 45 s.data.toList) = some n) := Lib.hid (HY.out.trans (hI.out.done (by rw [← HCL.out]; omega)))
            have hlti : ¬ (k : Int) < (L : Int) := by omega
            go_wp2_with fail
            go_ret2
            exact ⟨hn_yes H.out, B3.out⟩
end Go.Proofs.YtfmlmgebomapjaaDoor
