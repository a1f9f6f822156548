/-
  The program's products of a group that is valid.
-/
import Derived.Test.YteggllmiapdmcaaPrF
import Derived.Test.YteggllmiapdmcaaGp
import Derived.Test.YteggllmiapdmcaaTab
import Derived.Deep.RegionHeld3
namespace Go.Proofs.Yteggllmiapdmcaa
open Go.RowKit

theorem info64G : (Try.prog.info? 2).map (fun i => (i.zero, i.size, i.bytes)) = some (some (.int .i64 0), 1, 8) := by kernel_rfl
theorem zeroPr (n : Int) : Try.zeroCells72.setIfInBounds 0 (.int .i64 n) = prA n 0 (fun _ => 0) := by kernel_rfl
theorem sliceCells (w : World) (g kn : Nat) (hk : kn < 100) : (Instr.sliceAt 70 (.pointer (some ⟨g, 2, none⟩)) (some (.int .i64 (kn : Int))) none none).run Try.prog w = .ok (.slice (some ⟨g, 2 + kn, none⟩) (100 - kn) (100 - kn)) w := by
  have ha : Try.prog.arrayLen 70 = 100 := by kernel_rfl
  have he : Try.prog.elem 70 = 2 := by kernel_rfl
  have hu : Try.prog.underlying 70 = some (.array (Try.prog.arrayLen 70) (Try.prog.elem 70)) := by kernel_rfl
  have hne : ¬ (100 : Nat) = kn := by omega
  rw [run_sliceAt_array_l w 70 ⟨g, 2, none⟩ hu .i64 (kn : Int) (by omega) (by rw [ha]; omega), ha, he]
  generalize hK : (100 : Nat) = K at hne ⊢
  simp [sizeOf, go_sem, slicedAt, Addr.add, hne]
  have h2 : Try.t2.size = 1 := by kernel_rfl
  rw [h2, Nat.mul_one]
  by_cases h0 : kn = 0
  · simp [h0]
  · simp [h0]
/-- What productsOf leaves. -/
def GotPr (t : List (List Int)) (w : World) (r : Ending) (w' : World) : Prop :=
  Below w.heap.size w w' ∧ ((grpOk t = false ∧ r = .returned (.tuple #[.pointer none, .bool false])) ∨
    ∃ g n e, Grp t n e ∧ r = .returned (.tuple #[ptr g, .bool true]) ∧ Pr w' g n e t ∧ w.heap.size ≤ g)
set_option maxRecDepth 100000 in
set_option maxHeartbeats 4000000 in
theorem productsOf_any {B : Nat} (x : Gp) (A : Option Addr) (n c : Nat) (w : World) (h : Rows2 B w A n x.G) (hB : B ≤ w.heap.size) :
    Calls Try.prog 56 #[gpV x A n c] w (GotPr x.G w) := by
  have hle := h.le
  have hl := h.len
  obtain ⟨t⟩ := x
  dsimp only at h hl ⊢
  obtain ⟨w1, hw1⟩ : ∃ w1, w1 = w.alloc (.cells #[.slice A n c] 26) := ⟨_, rfl⟩
  have bel1 : Below w.heap.size w w1 := by rw [hw1]; exact (Below.refl _ w).alloc (Nat.le_refl _) _
  have hs1 : w1.heap.size = w.heap.size + 1 := by rw [hw1]; simp
  have b1 : Blk w1 w.heap.size #[.slice A n c] 26 := by rw [hw1]; exact Blk.new _ _ _
  have q1 := b1.cell 0
  have HL := Lib.hid hl
  rcases hin : inB n 1 10 with _ | _
  · have CW : Calls Try.prog 59 #[.int .i64 n, .int .i64 1, .int .i64 10] w1 fun e w' => e = .returned (.bool false) ∧ w1 = w' := by rw [← hin]; exact within_any _ _ _ _
    have HQ := Lib.hid (grpOk_n hl hin)
    have BEL := Lib.hid bel1
    clear hin bel1 b1 h
    go_enter Try.func56, Try.ntmps56
    go_wp2_with fail
    rw [← hw1]
    have HW1 := Lib.hid hw1
    clear hw1
    go_wp2_with (go_at_call 59; (with_reducible refine (CW).mono ?_); rintro e w' ⟨rfl, rfl⟩)
    go_ret2
    exact ⟨BEL.out, .inl ⟨HQ.out, rfl⟩⟩
  · have hn := inB_true.1 hin
    have CW : Calls Try.prog 59 #[.int .i64 n, .int .i64 1, .int .i64 10] w1 fun e w' => e = .returned (.bool true) ∧ w1 = w' := by rw [← hin]; exact within_any _ _ _ _
    have hr1 := h.below (bel1.mono hB)
    have CT := tableValid_any A n c n n t w1 hr1
    have HIN := Lib.hid hin
    have HR1 := Lib.hid hr1
    have BEL := Lib.hid bel1
    have HB1 := Lib.hid b1
    clear hin bel1 b1 h hl hr1
    rcases ht : tabOk n n t with _ | _
    · rw [ht] at CT
      have HQ : Hid (grpOk t = false) := Lib.hid (by unfold grpOk; rw [HL.out, ht]; simp)
      clear ht
      go_enter Try.func56, Try.ntmps56
      go_wp2_with fail
      rw [← hw1]
      have HW1 := Lib.hid hw1
      clear hw1
      go_wp2_with first | (go_at_call 59; (with_reducible refine (CW).mono ?_); rintro e w' ⟨rfl, rfl⟩) | (go_at_call 108; (with_reducible refine (CT).mono ?_); rintro e w' ⟨rfl, rfl⟩)
      go_ret2
      exact ⟨BEL.out, .inl ⟨HQ.out, rfl⟩⟩
    · rw [ht] at CT
      have HT := Lib.hid ht
      clear ht
      go_enter Try.func56, Try.ntmps56
      go_wp2_with fail
      rw [← hw1]
      have HW1 := Lib.hid hw1
      clear hw1
      go_wp2_with fail
      (go_at_call 59; (with_reducible refine (CW).mono ?_); rintro e w' ⟨rfl, rfl⟩)
      go_wp2_with fail
      (go_at_call 108; (with_reducible refine (CT).mono ?_); rintro e w' ⟨rfl, rfl⟩)
      clear CW CT
      go_wp2_with fail
      obtain ⟨w2, hw2⟩ : ∃ w2, w2 = w1.alloc (.cells (Try.zeroCells72.setIfInBounds 0 (.int .i64 n)) 72) := ⟨_, rfl⟩
      rw [← hw2]
      have hz : Blk w2 (w.heap.size + 1) (prA n 0 (flat t n 0)) 72 := by
        rw [hw2, zeroPr, prA, prL_congr _ _ (F := fun _ => 0) (G := flat t n 0) (fun i _ => (flat_zero t n i).symm), ← hs1]
        exact Blk.new _ _ _
      have bel2 : Below w.heap.size w w2 := by rw [hw2]; exact BEL.out.alloc (by omega) _
      obtain ⟨b, o, P, Q, C, rfl, hT⟩ := tabR_of HR1.out HT.out (show 0 < n by omega)
      have HTR := Lib.hid hT
      have HZ := Lib.hid hz
      have hB2 : B ≤ w.heap.size + 1 := by omega
      have belW : Hid (Below w1.heap.size w1 w2) := Lib.hid (by rw [hw2]; exact (Below.refl _ _).alloc (Nat.le_refl _) _)
      obtain ⟨iZ, hiZ, hzZ0, hzZ1, hzZ2⟩ := info_parts info64G
      clear hT hz
      generalize Try.zeroCells72.setIfInBounds 0 (Value.int .i64 n) = ZC at hw2 ⊢
      have HW2 := Lib.hid hw2
      clear hw2
      go_loopw [6, 7, 30] (fun _ _ i wr => ∃ k : Nat, k ≤ n ∧ i = .int .i64 k ∧ Hid (Blk wr (w.heap.size + 1) (prA n 0 (flat t n k)) 72) ∧ Hid (Below (w.heap.size + 1) w1 wr)) (fun _ _ i _ => n - (intOf i).toNat)
      case atStart => exact ⟨0, by omega, rfl, HZ, Lib.hid (by rw [← hs1]; exact belW.out)⟩
      case round =>
        obtain ⟨k, hk, rfl, hblk, hbr⟩ := hrel
        by_cases hlt : k < n
        · have hTr := HTR.out.below (hbr.out.mono (show B ≤ w.heap.size + 1 by omega))
          have hc := hTr.row hlt
          have hsq := sq_le (show n ≤ 10 by omega) hlt
          have hcell := hblk.out
          have hrow : Hid (∀ y, y < n → wr.cell? ⟨P k, Q k + y, none⟩ = some (.int .i64 (cellZ t k y : Int))) := Lib.hid (fun y hy => hTr.cell hlt hy)
          generalize P k = Pk at hc hrow
          generalize Q k = Qk at hc hrow
          generalize C k = Ck at hc
          obtain ⟨kn, hkn⟩ : ∃ kn, kn = k * n := ⟨_, rfl⟩
          have hI : (k : Int) * (n : Int) = (kn : Int) := by rw [hkn]; simp
          rw [← hkn] at hsq
          have HKN := Lib.hid hkn
          obtain ⟨L0, hL0⟩ : ∃ L0, L0 = prL n 0 (flat t n k) := ⟨_, rfl⟩
          obtain ⟨R0, hR0⟩ : ∃ R0, R0 = rowC t n k := ⟨_, rfl⟩
          have hLl : L0.length = 102 := by rw [hL0, prL_len]
          have hRl : R0.length = n := by rw [hR0, rowC_len]
          have hcell : wr.heap[w.heap.size + 1]? = some (.cells L0.toArray 72 (0, 0)) := by rw [hL0]; exact hblk.out
          have hS : Hid (splice L0 (2 + kn) R0 = prL n 0 (flat t n (k + 1))) := Lib.hid (by rw [hL0, hR0, hkn, Nat.add_comm 2]; exact flat_splice _ _ hlt (by omega))
          have hR1 : Hid (∀ (j : Nat) (v : Value), R0[j]? = some v → j < n ∧ v = .int .i64 (cellZ t k j : Int)) := Lib.hid (fun j v hv => by
            have hj := (List.getElem?_eq_some_iff.1 hv).1
            rw [hRl] at hj
            rw [hR0, rowC_at hj] at hv
            exact ⟨hj, (Option.some.inj hv).symm⟩)
          have hR2 : Hid (∀ v ∈ R0, v.oneCell' = true) := Lib.hid (fun v hv => by
            obtain ⟨j, hj, e⟩ := List.getElem_of_mem hv
            rw [(hR1.out j v (by rw [List.getElem?_eq_getElem hj, e])).2]; rfl)
          have hsl := fun W => sliceCells W (w.heap.size + 1) kn (by omega)
          clear hkn hL0 hR0 hTr hblk
          obtain ⟨w3, hw3⟩ : ∃ w3, w3 = wr.setRow (w.heap.size + 1) (L0.take (2 + kn) ++ R0 ++ L0.drop (2 + kn + R0.length)).toArray := ⟨_, rfl⟩
          have hcp : (Builtin.copy_ #[34, 34] 3 #[.slice (some ⟨w.heap.size + 1, 2 + kn, none⟩) (100 - kn) (100 - kn), .slice (some ⟨Pk, Qk, none⟩) n Ck]).run Try.prog wr = .ok (.int .i64 (n : Int)) w3 := by
            rw [run_copy_row (P := Try.prog) wr 34 34 3 2 (w.heap.size + 1) (2 + kn) (100 - kn) (100 - kn) ⟨Pk, Qk, none⟩ n Ck L0.toArray 72 R0 Try.underlying34 (by rw [hiZ]; simp [hzZ1]) hcell (by rw [hRl]; exact (Nat.min_eq_left (by omega)).symm) (fun j v hv => by
              obtain ⟨hj, rfl⟩ := hR1.out j v hv
              have h5 := hrow.out j hj
              rw [show (⟨Pk, Qk, none⟩ : Addr).add j = ⟨Pk, Qk + j, none⟩ by simp [Addr.add]]
              exact h5) (by rw [List.size_toArray, hLl, hRl]; omega) hR2.out, hw3, hRl]
            rfl
          have HG3 : Hid (w3.heap[w.heap.size + 1]? = some (.cells (splice L0 (2 + kn) R0).toArray 72 (0, 0))) := Lib.hid (by
            rw [hw3]
            have h6 := setRow_heap wr (w.heap.size + 1) _ (L0.take (2 + kn) ++ R0 ++ L0.drop (2 + kn + R0.length)).toArray _ _ hcell
            rw [List.append_assoc] at h6
            rw [List.append_assoc]
            exact h6)
          have hb3 : Below (w.heap.size + 1) wr w3 := by rw [hw3]; exact below_setRow (Below.refl _ _) (Nat.le_refl _) _
          have HB3 : Hid (Below (w.heap.size + 1) w1 w3) := Lib.hid (hbr.out.trans hb3)
          have HBK : Hid (Blk w3 (w.heap.size + 1) (prA n 0 (flat t n (k + 1))) 72) := Lib.hid (by
            have h4 := HG3.out
            rw [hS.out] at h4
            exact h4)
          clear HG3 hb3 hcell hw3
          go_wp2_with fail
          go_roundw
          case rel => exact ⟨k + 1, by omega, by go_num, HBK, HB3⟩
          case measure => simp [intOf]; omega
        · obtain rfl : n = k := by omega
          have hgB : w.heap.size + 1 < wr.heap.size := hblk.out.lt
          have hP0 : Pr wr (w.heap.size + 1) n (0 : Nat) t := hblk.out
          have hbw : Below w.heap.size w wr := BEL.out.trans (hbr.out.mono (by omega))
          have c0 := hP0.size
          have CI : ∀ m k, k < n → Calls Try.prog 110 #[ptr (w.heap.size + 1), .int .i64 (k : Nat)] (wr.drewN m) fun r w' => r = .returned (.bool (idB t n k)) ∧ ∃ m', w' = wr.drewN m' := fun m k hk => (prIsId_any k (wr.drewN m) (hP0.drewN m) (by omega) hk HT.out).mono fun r w' ⟨h1, m', h2⟩ => ⟨h1, m + m', by rw [h2, World.drewN_drewN]⟩
          have CF := firstId_any (idB t n) wr c0 (by omega) CI
          have HP0 := Lib.hid hP0
          have HBW := Lib.hid hbw
          clear CI hP0 hbw hblk hbr
          rcases hid : idOf t n with _ | e
          · have hid2 : firstN n (idB t n) = none := hid
            rw [hid2] at CF
            have HQ := Lib.hid (grpOk_id HL.out hid)
            have hc1 : ∀ m, ((wr.drewN m).cell? ⟨w.heap.size + 1, 1, none⟩).isSome = true := fun m => by
              have : (wr.drewN m).cell? ⟨w.heap.size + 1, 1, none⟩ = some (.int .i64 (0 : Nat)) := (HP0.out.drewN m).ident
              rw [this]; rfl
            have hf1 : ∀ m, (wr.drewN m).frozen? ⟨w.heap.size + 1, 1, none⟩ = false := fun m => Blk.frozen (HP0.out.drewN m) 1
            clear hid hid2
            go_wp2_with fail
            (go_at_call 109; (with_reducible refine (CF).mono ?_); rintro e w' ⟨rfl, m, rfl⟩)
            have hc2 : (wr.drewN m).cell? ⟨w.heap.size + 1, 1, none⟩ = some (.int .i64 (0 : Nat)) := (HP0.out.drewN m).ident
            have hf2 := hf1 m
            clear hc1 hf1
            go_wp2_with fail
            go_ret2
            refine ⟨(below_drewN HBW.out m).setCell (show w.heap.size ≤ w.heap.size + 1 by omega) _, .inl ⟨HQ.out, rfl⟩⟩
          · have hid2 : firstN n (idB t n) = some e := hid
            rw [hid2] at CF
            have he := (firstN_is hid).1
            have HI := Lib.hid hid
            have hf1 : ∀ m, (wr.drewN m).frozen? ⟨w.heap.size + 1, 1, none⟩ = false := fun m => Blk.frozen (HP0.out.drewN m) 1
            clear hid hid2
            go_wp2_with fail
            (go_at_call 109; (with_reducible refine (CF).mono ?_); rintro e w' ⟨rfl, m, rfl⟩)
            have hc2 : (wr.drewN m).cell? ⟨w.heap.size + 1, 1, none⟩ = some (.int .i64 (0 : Nat)) := (HP0.out.drewN m).ident
            have hf2 := hf1 m
            obtain ⟨w4, hw4⟩ : ∃ w4, w4 = (wr.drewN m).setCell ⟨w.heap.size + 1, 1, none⟩ (.int .i64 (e : Nat)) := ⟨_, rfl⟩
            have hP4 : Pr w4 (w.heap.size + 1) n (e : Nat) t := by
              have h5 := Blk.set (HP0.out.drewN m) 1 (.int .i64 (e : Nat))
              rw [prA_set] at h5
              rw [hw4]; exact h5
            have hB4 : Below w.heap.size w w4 := by rw [hw4]; exact (below_drewN HBW.out m).setCell (show w.heap.size ≤ w.heap.size + 1 by omega) _
            have hlt4 := hP4.lt
            have CA := prIsAss_any w4 hP4 (by omega) HT.out
            have HP4 := Lib.hid hP4
            have HB4 := Lib.hid hB4
            clear hf1 hP4 hB4 CF
            simp only [Option.getD_some, Option.isSome_some]
            rcases ha : assB t n with _ | _
            · rw [ha] at CA
              have HQ : Hid (grpOk t = false) := Lib.hid (by unfold grpOk grpI; rw [HL.out, HI.out]; show (inB n 1 10 && (tabOk n n t && (assB t n && invsB t n e))) = false; rw [ha]; simp)
              clear ha
              go_wp2_with fail
              rw [← hw4]
              have HW4 := Lib.hid hw4
              clear hw4 hc2 hf2
              go_wp2_with fail
              (go_at_call 111; (with_reducible refine (CA).mono ?_); rintro e w' ⟨rfl, m2, rfl⟩)
              go_wp2_with fail
              go_ret2
              exact ⟨below_drewN HB4.out m2, .inl ⟨HQ.out, rfl⟩⟩
            · rw [ha] at CA
              have HA := Lib.hid ha
              have CH : ∀ m, Calls Try.prog 112 #[ptr (w.heap.size + 1)] (w4.drewN m) fun r w' => r = .returned (.bool (invsB t n e)) ∧ Below w4.heap.size (w4.drewN m) w' := fun m => prHasInv_any (w4.drewN m) (HP4.out.drewN m) (by omega)
              clear ha
              rcases hv : invsB t n e with _ | _
              · rw [hv] at CH
                have HQ : Hid (grpOk t = false) := Lib.hid (by unfold grpOk grpI; rw [HL.out, HI.out]; show (inB n 1 10 && (tabOk n n t && (assB t n && invsB t n e))) = false; rw [hv]; simp)
                clear hv
                go_wp2_with fail
                rw [← hw4]
                have HW4 := Lib.hid hw4
                clear hw4 hc2 hf2
                go_wp2_with fail
                (go_at_call 111; (with_reducible refine (CA).mono ?_); rintro e w' ⟨rfl, m2, rfl⟩)
                go_wp2_with fail
                (go_at_call 112; (with_reducible refine (CH m2).mono ?_); rintro e w5 ⟨rfl, hb5⟩)
                go_wp2_with fail
                go_ret2
                exact ⟨(below_drewN HB4.out m2).trans (hb5.mono HB4.out.size), .inl ⟨HQ.out, rfl⟩⟩
              · rw [hv] at CH
                have HG : Hid (Grp t n e) := Lib.hid ⟨HL.out, by omega, by omega, HT.out, HI.out, HA.out, hv⟩
                clear hv
                go_wp2_with fail
                rw [← hw4]
                have HW4 := Lib.hid hw4
                clear hw4 hc2 hf2
                go_wp2_with fail
                (go_at_call 111; (with_reducible refine (CA).mono ?_); rintro e w' ⟨rfl, m2, rfl⟩)
                go_wp2_with fail
                (go_at_call 112; (with_reducible refine (CH m2).mono ?_); rintro e w5 ⟨rfl, hb5⟩)
                go_wp2_with fail
                go_ret2
                exact ⟨(below_drewN HB4.out m2).trans (hb5.mono HB4.out.size), .inr ⟨_, n, e, HG.out, rfl, (HP4.out.drewN m2).below hb5 hlt4, by omega⟩⟩
end Go.Proofs.Yteggllmiapdmcaa
