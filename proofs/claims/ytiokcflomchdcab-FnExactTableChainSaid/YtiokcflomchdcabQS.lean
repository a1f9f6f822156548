/-
  The model's test of a quasigroup.
-/
import Derived.Test.YtiokcflomchdcabQM
import Derived.Test.YtiokcflomchdcabOwn2
import Derived.Test.YtiokcflomchdcabBoolA
namespace Go.Proofs.Ytiokcflomchdcab
open Go.RowKit

set_option maxRecDepth 100000 in
set_option maxHeartbeats 4000000 in
theorem l04Is_any {B : Nat} (A : Option Addr) (n c : Nat) (t : List (List Int)) (w : World) (h : Rows2 B w A n t) (hB : B ≤ w.heap.size) :
    Calls Try.prog 42 #[.slice A n c] w fun e w' => e = .returned (.bool (isQ t)) ∧ Below w.heap.size w w' := by
  have hl := h.len
  have hle := h.le
  rcases hin : inB n 1 36 with _ | _
  · have HQ := Lib.hid (isQ_head hl hin)
    have C1 : ∀ W, Calls Try.prog 57 #[.int .i64 n, .int .i64 1, .int .i64 36] W fun e w' => e = .returned (.bool false) ∧ W = w' := fun W => by rw [← hin]; exact l00In_any _ _ _ W
    clear hin
    go_enter Try.func42, Try.ntmps42
    go_wp2_with (go_at_call 57; (with_reducible refine (C1 _).mono ?_); rintro e w' ⟨rfl, rfl⟩)
    go_ret
    exact ⟨ret_bool HQ.out.symm, Below.refl _ _⟩
  · have hn := inB_true.1 hin
    have HIN := Lib.hid hin
    have C1 : ∀ W, Calls Try.prog 57 #[.int .i64 n, .int .i64 1, .int .i64 36] W fun e w' => e = .returned (.bool true) ∧ W = w' := fun W => by rw [← hin]; exact l00In_any _ _ _ W
    clear hin
    obtain ⟨ib, hbin, hbz0, hbz1, hbz2⟩ := info_parts infoB
    obtain ⟨nn, hnn⟩ : ∃ nn, nn = n * n := ⟨_, rfl⟩
    have hn36 : n ≤ 36 := by omega
    have hnnb : nn ≤ 1296 := by rw [hnn]; exact Nat.le_trans (Nat.mul_le_mul hn36 hn36) (by decide)
    have HNN : Hid (nn = n * n) := Lib.hid hnn
    have hmul : (n : Int) * (n : Int) = (nn : Int) := by rw [hnn]; simp
    clear hnn
    have HR : Hid (Rows2 B w A n t) := Lib.hid h
    have HL := Lib.hid hl
    go_enter Try.func42, Try.ntmps42
    go_wp2_with first | (go_at_call 57; (with_reducible refine (C1 _).mono ?_); rintro e w' ⟨rfl, rfl⟩) | (refine wpList_make_full _ rfl _ _ 81 rfl w.heap.size 4 ib (.bool false) 1 Try.underlying81 hbin hbz0 hbz1 .i64 .i64 nn nn nn rfl rfl rfl rfl ?c1 ?c2 (Nat.le_refl _) ?_)
    case c1 => rw [hbz2]; omega
    case c2 => unfold maxLen; omega
    intro w1 hown1 hg1
    have hbel1 : Below w.heap.size w w1 := (Below.refl _ w).grown hg1 (Nat.le_refl _) (fun k hk => by cases hk)
    have hlt1 : w.heap.size < w1.heap.size := (hown1.lt _ rfl).2
    have hseen1 : w1.heap[w.heap.size]? = some (.cells (boolArr nn (fun _ => false)) 4) := by
      have := row_exact hown1
      rw [made_bools] at this
      exact this
    have HSEEN1 := Lib.hid hseen1
    have HC1 := Lib.hid hlt1
    clear hown1 hg1 hseen1 hlt1
    go_wp2
    go_loopw [5, 6, 7, 8] (fun x _ _ _ wr => ∃ k : Nat, k ≤ n ∧ x = .int .i64 k ∧ Hid (GoodTo t n k 0) ∧ Hid (wr.heap[w.heap.size]? = some (.cells (boolArr nn (colP t n k 0)) 4)) ∧ Below w.heap.size w wr) (fun x _ _ _ _ => n - (intOf x).toNat)
    case atStart =>
      refine ⟨0, by omega, rfl, Lib.hid (goodTo_start t n), Lib.hid ?_, hbel1⟩
      rw [HSEEN1.out, boolArr_congr (Q := colP t n 0 0) (fun i => (colP_start t n i).symm)]
    case round =>
      obtain ⟨k, hk, rfl, hgood, hcols, hbel⟩ := hrel
      obtain ⟨W0, rfl⟩ : ∃ W0, W0 = wr := ⟨_, rfl⟩
      by_cases hlt : k < n
      · obtain ⟨b, o, A1, n1, c1, r, rfl, _, hz, hc, _, hr⟩ := (HR.out.below (hbel.mono hB)).2.2 k hlt
        have HZ := Lib.hid hz
        have hl1 := hr.len
        have hn1 := hr.le
        clear hz hr
        by_cases hlen : n1 = n
        · subst hlen
          have HL1 := Lib.hid hl1
          clear hl1
          have hltw : w.heap.size < W0.heap.size := (Array.getElem?_eq_some_iff.1 hcols.out).1
          go_wp2_with (refine wpList_make_full _ rfl _ _ 81 rfl W0.heap.size 4 ib (.bool false) 1 Try.underlying81 hbin hbz0 hbz1 .i64 .i64 n1 n1 n1 rfl rfl rfl rfl ?c3 ?c4 (Nat.le_refl _) ?_)
          case c3 => rw [hbz2]; omega
          case c4 => unfold maxLen; omega
          intro w2 hown2 hg2
          have hbel2 : Below W0.heap.size W0 w2 := (Below.refl _ W0).grown hg2 (Nat.le_refl _) (fun k hk => by cases hk)
          have hrow2 : w2.heap[W0.heap.size]? = some (.cells (boolArr n1 (fun _ => false)) 4) := by
            have := row_exact hown2
            rw [made_bools] at this
            exact this
          have HROW2 := Lib.hid hrow2
          have HBEL2 := Lib.hid hbel2
          clear hown2 hg2 hrow2 hbel2
          go_wp2
          go_loopw [7, 8] (fun y _ wq => ∃ j : Nat, j ≤ n1 ∧ y = .int .i64 j ∧ Hid (GoodTo t n1 k j) ∧ Hid (wq.heap[w.heap.size]? = some (.cells (boolArr nn (colP t n1 k j)) 4)) ∧ Hid (wq.heap[W0.heap.size]? = some (.cells (boolArr n1 (rowP t k j)) 4)) ∧ Below w.heap.size w wq) (fun y _ _ => n1 - (intOf y).toNat)
          case atStart =>
            refine ⟨0, by omega, rfl, hgood, Lib.hid ?_, Lib.hid ?_, hbel.trans (HBEL2.out.mono (by omega))⟩
            · rw [HBEL2.out.block _ hltw, hcols.out]
            · rw [HROW2.out, boolArr_congr (Q := rowP t k 0) (fun i => (rowP_start t k i).symm)]
          case round =>
            obtain ⟨j, hj, rfl, hgo, hcs, hrs, hbq⟩ := hrel
            obtain ⟨wq, rfl⟩ : ∃ wq, wq = wr := ⟨_, rfl⟩
            by_cases hjn : j < n1
            · obtain ⟨b2, o2, A2, n2, c2, r2, e2, _, hz2, hc2, _, hr2⟩ := (HR.out.below (hbq.mono hB)).2.2 k hlt
              injection e2 with e2
              injection e2 with e2 e3 _
              subst e2; subst e3
              rw [HZ.out] at hz2
              injection hz2 with hz2
              subst hz2
              have hn2 : n2 = n1 := by have := hr2.len; have := HL1.out; omega
              subst hn2
              obtain ⟨b3, o3, z, rfl, _, hz, hc3, _⟩ := hr2.at_ hjn
              have HZ3 := Lib.hid hz
              clear hz hr2
              rcases hzin : inB z 0 ((n2 : Int) - 1) with _ | _
              · have HQ := Lib.hid (isQ_range HL.out HZ.out HZ3.out hzin)
                have C2 : ∀ W, Calls Try.prog 57 #[.int .i64 z, .int .i64 0, .int .i64 (n2 - 1)] W fun e w' => e = .returned (.bool false) ∧ W = w' := fun W => by rw [← hzin]; exact l00In_any _ _ _ W
                clear hzin
                go_wp2_with (go_at_call 57; (with_reducible refine (C2 _).mono ?_); rintro e w' ⟨rfl, rfl⟩)
                go_ret
                exact ⟨ret_bool HQ.out.symm, hbq⟩
              · have hzb := inB_true.1 hzin
                have C2 : ∀ W, Calls Try.prog 57 #[.int .i64 z, .int .i64 0, .int .i64 (n2 - 1)] W fun e w' => e = .returned (.bool true) ∧ W = w' := fun W => by rw [← hzin]; exact l00In_any _ _ _ W
                clear hzin
                obtain ⟨zz, rfl⟩ := Int.eq_ofNat_of_zero_le hzb.1
                have hzz : zz < n2 := by omega
                have HCZ : Hid (cellZ t k j = zz) := Lib.hid (by rw [tab_at HZ.out HZ3.out]; simp)
                obtain ⟨jn, hjm⟩ : ∃ jn, jn = j * n2 := ⟨_, rfl⟩
                have hjI : (j : Int) * (n2 : Int) = (jn : Int) := by rw [hjm]; simp
                have hjb : jn + zz < nn := by
                  rw [hjm, HNN.out]
                  have : (j + 1) * n2 ≤ n2 * n2 := Nat.mul_le_mul_right _ hjn
                  rw [Nat.add_mul] at this
                  omega
                have HJM := Lib.hid hjm
                clear hjm
                have hcellR : wq.cell? ⟨W0.heap.size, zz, none⟩ = some (.bool (!freshR t k j)) := by
                  rw [cell_of_row wq W0.heap.size zz _ _ (0, 0) hrs.out, boolArr_at _ hzz, ← HCZ.out, rowP_at]
                have hcellC : wq.cell? ⟨w.heap.size, jn + zz, none⟩ = some (.bool (!freshC t k j)) := by
                  rw [cell_of_row wq w.heap.size (jn + zz) _ _ (0, 0) hcs.out, boolArr_at _ hjb, HJM.out, ← HCZ.out, colP_at hgo.out hlt hjn (by rw [HCZ.out]; exact hzz)]
                have hfrR : wq.frozen? ⟨W0.heap.size, zz, none⟩ = false := frozen_of_row wq W0.heap.size zz _ _ hrs.out
                rcases hfR : freshR t k j with _ | _
                · have HQ := Lib.hid (isQ_fresh HL.out hlt hjn (.inl hfR))
                  rw [hfR] at hcellR
                  clear hfR hcellC
                  go_wp2_with (go_at_call 57; (with_reducible refine (C2 _).mono ?_); rintro e w' ⟨rfl, rfl⟩)
                  go_ret
                  exact ⟨ret_bool HQ.out.symm, hbq⟩
                · rw [hfR] at hcellR
                  rcases hfC : freshC t k j with _ | _
                  · have HQ := Lib.hid (isQ_fresh HL.out hlt hjn (.inr hfC))
                    rw [hfC] at hcellC
                    clear hfR hfC
                    go_wp2_with (go_at_call 57; (with_reducible refine (C2 _).mono ?_); rintro e w' ⟨rfl, rfl⟩)
                    go_ret
                    exact ⟨ret_bool HQ.out.symm, hbq⟩
                  · rw [hfC] at hcellC
                    have HG : Hid (CellG t n2 k j) := Lib.hid ⟨⟨r, _, HZ.out, HL1.out, HZ3.out, by omega, by omega⟩, hfR, hfC⟩
                    have hfrC : (wq.setCell ⟨W0.heap.size, zz, none⟩ (.bool true)).frozen? ⟨w.heap.size, jn + zz, none⟩ = false :=
                      frozen_of_row _ w.heap.size (jn + zz) _ _ ((heap_setCell_other wq _ _ _ (show w.heap.size ≠ W0.heap.size by omega)).trans hcs.out)
                    clear hfR hfC
                    go_wp2_with (go_at_call 57; (with_reducible refine (C2 _).mono ?_); rintro e w' ⟨rfl, rfl⟩)
                    go_roundw
                    case rel =>
                      refine ⟨j + 1, by omega, by go_num, Lib.hid (goodTo_cell hgo.out HG.out), Lib.hid ?_, Lib.hid ?_, (hbq.setCell (show w.heap.size ≤ W0.heap.size by omega) _).setCell (Nat.le_refl _) _⟩
                      · have e1 := heap_setCell_same (wq.setCell ⟨W0.heap.size, zz, none⟩ (.bool true)) w.heap.size (jn + zz) _ _ (.bool true) ((heap_setCell_other wq _ _ _ (show w.heap.size ≠ W0.heap.size by omega)).trans hcs.out)
                        rw [boolArr_set] at e1
                        rw [e1, boolArr_congr (Q := colP t n2 k (j + 1)) (fun i => by rw [colP_next hlt hjn i, HCZ.out, HJM.out])]
                      · rw [heap_setCell_other _ _ _ _ (show W0.heap.size ≠ w.heap.size by omega)]
                        have e1 := heap_setCell_same wq W0.heap.size zz _ _ (.bool true) hrs.out
                        rw [boolArr_set] at e1
                        rw [e1, boolArr_congr (Q := rowP t k (j + 1)) (fun i => by rw [rowP_next, HCZ.out])]
                    case measure => simp [intOf]; omega
            · obtain rfl : j = n1 := by omega
              go_wp2
              go_roundw
              case rel => exact ⟨k + 1, by omega, by go_num, Lib.hid (goodTo_row hgo.out), Lib.hid (by rw [hcs.out, boolArr_congr (fun i => colP_row t j k i)]), hbq⟩
              case measure => simp [intOf]; omega
        · have HQ := Lib.hid (isQ_len HL.out HZ.out (by omega))
          have g1 : ((n1 : Int) != (n : Int)) = true := by simp; omega
          go_wp2
          go_ret
          exact ⟨ret_bool HQ.out.symm, hbel⟩
      · obtain rfl : k = n := by omega
        have HQ := Lib.hid (isQ_good HL.out HIN.out hgood.out)
        go_wp2
        go_ret
        exact ⟨ret_bool HQ.out.symm, hbel⟩
end Go.Proofs.Ytiokcflomchdcab
