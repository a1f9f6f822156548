/-
  Contracts of CheckSymbols, of the model and of the program: the symbols with which a word is checked.
-/
import Derived.Test.YtoedkaaenahjeaaDoorRunF
import Derived.Test.YtoedkaaenahjeaaDoorFrom
import Derived.Lib.BufferOld
namespace Go.Proofs.YtoedkaaenahjeaaDoor
open Go.RowKit

/-- The digits less than k that lead to the end if they stand at a place. -/
def Ch.sy (c : Ch) (ds : List Nat) (p : Nat) (k : Nat) : List Nat := (List.range k).filter fun d => decide ((c.run 0 c.start.toNat (ds.set p d) : Int) = c.stop)
theorem sy_yes {c : Ch} {ds : List Nat} {p k : Nat} (h : (c.run 0 c.start.toNat (ds.set p k) : Int) = c.stop) : c.sy ds p (k + 1) = c.sy ds p k ++ [k] := by
  unfold Ch.sy; rw [List.range_succ, List.filter_append]; simp [h]
theorem sy_no {c : Ch} {ds : List Nat} {p k : Nat} (h : ¬ (c.run 0 c.start.toNat (ds.set p k) : Int) = c.stop) : c.sy ds p (k + 1) = c.sy ds p k := by
  unfold Ch.sy; rw [List.range_succ, List.filter_append]; simp [h]
theorem sy_len (c : Ch) (ds : List Nat) (p k : Nat) : (c.sy ds p k).length ≤ k := by
  unfold Ch.sy; exact Nat.le_trans (List.length_filter_le _ _) (by simp)
theorem sy_lt {c : Ch} {ds : List Nat} {p k : Nat} : ∀ d ∈ c.sy ds p k, d < k := by
  intro d hd; unfold Ch.sy at hd; simp at hd; exact hd.1
def symsOf (l : List Nat) : List UInt8 := (ints l).map symB
def Ch.symOk (c : Ch) (t : ByteArray) (place : Int) : Bool := c.both t && inB place 0 ((t.size : Int) - 1)
def Ch.symR (c : Ch) (t : ByteArray) (place : Int) : ByteArray := if c.symOk t place = true then ⟨(symsOf (c.sy (dn t) place.toNat c.base.toNat)).toArray⟩ else ⟨#[]⟩
theorem sym_no {c : Ch} {t : ByteArray} {place : Int} (h : c.symOk t place = false) : Ending.returned (.tuple #[.string ⟨#[]⟩, .bool false]) = twoS (c.symR t place) (c.symOk t place) := by simp [Ch.symR, h]
theorem sym_yes {c : Ch} {t : ByteArray} {place : Int} (h : c.symOk t place = true) : Ending.returned (.tuple #[.string ⟨(symsOf (c.sy (dn t) place.toNat c.base.toNat)).toArray⟩, .bool true]) = twoS (c.symR t place) (c.symOk t place) := by simp [Ch.symR, h]
theorem set_set {ds : List Nat} {p a b : Nat} : (ds.set p a).set p b = ds.set p b := by simp
theorem ints_set {ds : List Nat} {p a : Nat} : (ints ds).set p (a : Int) = ints (ds.set p a) := by unfold ints; rw [List.map_set]
theorem wf_nat {n : Nat} (h : n ≤ 1000000) : (Lit.int .i64 (n : Int)).wf = true := WalkArith.wf_i64 (by omega)

theorem Own.stored {B n c j : Nat} {w : World} {g : Nat} {zs : List Int} {z : Int} (h : Own B w (some ⟨g, 0, none⟩) n c zs) (hz : (Lit.int .i64 z).wf = true) :
    Own B (w.setCell ⟨g, j, none⟩ (.int .i64 z)) (some ⟨g, 0, none⟩) n c (zs.set j z) := by
  have hst := (h.1.stored j (.int .i64 z)).1
  have e : (cells64 zs).set j (.int .i64 z) = cells64 (zs.set j z) := by rw [cells64, ← List.map_set]
  rw [e] at hst
  refine ⟨hst, fun y hy => ?_⟩
  rcases List.mem_or_eq_of_mem_set hy with h1 | rfl
  · exact h.2 y h1
  · exact hz
theorem buf_set {T e : TypeId} {B b : Nat} {bs : List Value} {w : World} (h : Lib.IsBuffer T e B b bs w) {g j : Nat} (v : Value) (hg : g < B) : Lib.IsBuffer T e B b bs (w.setCell ⟨g, j, none⟩ v) := by
  obtain ⟨hB, v', lr, hbk, hown, hne⟩ := h
  refine ⟨hB, v', lr, ?_, ownsRow_setCell_below hown (a := ⟨g, j, none⟩) hg v, hne⟩
  rw [Below.heap_setCell w ⟨g, j, none⟩ v b (by simp; omega)]; exact hbk

set_option maxRecDepth 100000 in
set_option maxHeartbeats 4000000 in
theorem specSyms_any {B : Nat} (c : Ch) (AT AP : Option Addr) (nT cT nP cP : Nat) (t : ByteArray) (place : Int) (w : World) (hr : ChRows B w c AT nT AP nP) (hB : B ≤ w.heap.size) (ht : t.size ≤ maxLen) :
    Calls Tryd.prog 24 #[chV c AT nT cT AP nP cP, .string t, .int .i64 place] w fun e w' => e = twoS (c.symR t place) (c.symOk t place) ∧ Below w.heap.size w w' := by
  obtain ⟨w1, hw1⟩ : ∃ w1, w1 = w.alloc (.cells (chCells c AT nT cT AP nP cP) 27) := ⟨_, rfl⟩
  have bel : Below w.heap.size w w1 := by rw [hw1]; exact (Below.refl _ w).alloc (Nat.le_refl _) _
  have b1 : Blk w1 w.heap.size (chCells c AT nT cT AP nP cP) 27 := by rw [hw1]; exact Blk.new _ _ _
  have r1 := hr.below (bel.mono hB)
  have CB := l02Both_any c AT AP nT cT nP cP t w1 b1 r1 ht
  have BEL := Lib.hid bel
  have R1 := Lib.hid r1
  have BLK := Lib.hid b1
  have LT1 := Lib.hid b1.lt
  have HT := Lib.hid ht
  unfold maxLen at ht
  clear bel b1 r1
  rcases h1 : c.both t with _ | _
  · rw [h1] at CB
    have H : Hid (c.symOk t place = false) := Lib.hid (by unfold Ch.symOk; rw [h1]; rfl)
    clear h1
    go_enter Tryd.func24, Tryd.ntmps24
    go_wp2_with fail
    rw [← hw1]
    have HW1 := Lib.hid hw1
    clear hw1
    (go_at_call 59; (with_reducible refine (CB).mono ?_); rintro e w2 ⟨rfl, m, rfl⟩)
    go_wp2_with fail
    go_ret2
    exact ⟨sym_no H.out, below_drewN BEL.out m⟩
  · rw [h1] at CB
    rcases h2 : inB place 0 ((t.size : Int) - 1) with _ | _
    · have H : Hid (c.symOk t place = false) := Lib.hid (by unfold Ch.symOk; rw [h1, h2]; rfl)
      have CI : ∀ W, Calls Tryd.prog 52 #[.int .i64 place, .int .i64 0, .int .i64 ((t.size : Int) - 1)] W fun e w' => e = .returned (.bool false) ∧ W = w' := fun W => by rw [← h2]; exact l00In_any _ _ _ W
      clear h1 h2
      go_enter Tryd.func24, Tryd.ntmps24
      go_wp2_with fail
      rw [← hw1]
      have HW1 := Lib.hid hw1
      clear hw1
      (go_at_call 59; (with_reducible refine (CB).mono ?_); rintro e w2 ⟨rfl, m, rfl⟩)
      go_wp2_with fail
      (go_at_call 52; (with_reducible refine (CI _).mono ?_); rintro e w3 ⟨rfl, rfl⟩)
      go_wp2_with fail
      go_ret2
      exact ⟨sym_no H.out, below_drewN BEL.out m⟩
    · have H : Hid (c.symOk t place = true) := Lib.hid (by unfold Ch.symOk; rw [h1, h2]; rfl)
      have CI : ∀ W, Calls Tryd.prog 52 #[.int .i64 place, .int .i64 0, .int .i64 ((t.size : Int) - 1)] W fun e w' => e = .returned (.bool true) ∧ W = w' := fun W => by rw [← h2]; exact l00In_any _ _ _ W
      have hpl := inB_true.1 h2
      obtain ⟨p, rfl⟩ := Int.eq_ofNat_of_zero_le hpl.1
      obtain ⟨hok, hsz, hwd⟩ := both_ok h1
      obtain ⟨bs, s, n, f⟩ := Ch.fine hok
      obtain ⟨x0, hx0⟩ : ∃ x0 : Nat, c.start = x0 := ⟨c.start.toNat, by have := f.start0; omega⟩
      have hxs : x0 < s := by have := f.start; omega
      have htn : t.size = n := by rw [hsz, f.len]
      have hn20 := f.n20
      have hb36 := f.b36
      have ht20 : t.size ≤ 1048576 := by omega
      have hbase := f.base
      rw [f.base] at hwd
      have hds := dn_lt hwd
      have hdi := digs_ints hwd
      have CD : ∀ W, Calls Tryd.prog 60 #[.string t] W (Made W.heap.size t.size (digs t.data.toList) W) := fun W => l01Digits_any t W ht20
      have HDS := Lib.hid hds
      have HDI := Lib.hid hdi
      have HX0 := Lib.hid hx0
      have HBS := Lib.hid hbase
      have F := Lib.hid f
      have hpt : p < t.size := by omega
      have HTN := Lib.hid htn
      clear h1 h2 hok hsz hwd hds hdi f hx0 hbase htn
      go_enter Tryd.func24, Tryd.ntmps24
      go_wp2_with fail
      rw [← hw1]
      have HW1 := Lib.hid hw1
      clear hw1
      (go_at_call 59; (with_reducible refine (CB).mono ?_); rintro e w2 ⟨rfl, m, hw2⟩)
      have b2 : Blk w2 w.heap.size (chCells c AT nT cT AP nP cP) 27 := by rw [hw2]; exact BLK.out.drewN m
      have r2 : ChRows B w2 c AT nT AP nP := by rw [hw2]; exact R1.out.drewN m
      have bel2 : Below w.heap.size w w2 := by rw [hw2]; exact below_drewN BEL.out m
      have B2 := Lib.hid b2
      have R2 := Lib.hid r2
      have BEL2 := Lib.hid bel2
      have LT2 := Lib.hid b2.lt
      clear b2 r2 bel2 hw2 CB
      go_wp2_with fail
      (go_at_call 52; (with_reducible refine (CI _).mono ?_); rintro e w3 ⟨rfl, rfl⟩)
      clear CI
      go_wp2_with fail
      (go_at_call 60; (with_reducible refine (CD _).mono ?_); rintro e w3 ⟨A3, c3, rfl, ho, be3⟩)
      clear CD
      rw [HDI.out] at ho
      obtain ⟨g3, rfl⟩ : ∃ g3, A3 = some ⟨g3, 0, none⟩ := by
        rcases ho.form with ⟨_, h0, _⟩ | ⟨g, hA, _⟩
        · omega
        · exact ⟨g, hA⟩
      have hg3 : w2.heap.size ≤ g3 := ho.from g3 rfl
      have hg3l : g3 < w3.heap.size := ho.lt g3 rfl
      have b3 := B2.out.below be3 LT2.out
      have bel3 : Below w.heap.size w w3 := BEL2.out.trans (be3.mono BEL2.out.size)
      have LT3 : Hid (w.heap.size < w3.heap.size) := Lib.hid (Nat.lt_of_lt_of_le LT2.out be3.size)
      have HG3 := Lib.hid hg3
      have B3 := Lib.hid b3
      have BEL3 := Lib.hid bel3
      have HO := Lib.hid ho
      have BE3 := Lib.hid be3
      have hs3 := be3.size
      obtain ⟨i0, hi, hz0, hz1, hz2⟩ := info_parts info64
      clear b3 bel3 ho be3 hg3
      go_wp2_with fail
      go_loopw [9, 10] (fun v i wr => ∃ (k : Nat) (A : Option Addr) (j cc : Nat) (dq : List Nat), k ≤ bs ∧ i = .int .i64 k ∧ v = .slice A j cc ∧ Hid (Own w2.heap.size wr (some ⟨g3, 0, none⟩) t.size c3 (ints dq) ∧ (∀ d, dq.set p d = (dn t).set p d) ∧ dq.length = t.size ∧ (∀ d ∈ dq, d < bs)) ∧ Hid (wr.ownsRow w3.heap.size 2 1 (.slice A j cc) j (cells64 (ints (c.sy (dn t) p k)))) ∧ Hid (Below w2.heap.size w2 wr ∧ Blk wr w.heap.size (chCells c AT nT cT AP nP cP) 27 ∧ w3.heap.size ≤ wr.heap.size)) (fun _ i _ => bs - (intOf i).toNat)
      case atStart =>
        refine ⟨0, _, 0, 0, dn t, by omega, rfl, rfl, Lib.hid ⟨?_, fun d => rfl, dn_len t, HDS.out⟩, Lib.hid ?_, Lib.hid ⟨?_, ?_, ?_⟩⟩
        · exact HO.out.below ((Below.refl _ _).alloc (Nat.le_refl _) _)
        · exact World.ownsRow_made _ _ _ (Nat.le_refl _) (by unfold maxLen; omega) (by simp)
        · exact BE3.out.alloc hs3 _
        · exact B3.out.alloc _
        · simp
      case round =>
        obtain ⟨k, A, j, cc, dq, hk, rfl, rfl, hdig, hrow, hwld⟩ := hrel
        have hbr := hwld.out.2.1
        have c0 := hbr.cell 0
        by_cases hlt : k < bs
        · obtain ⟨hown, hset, hdl, hdb⟩ := hdig.out
          have hj : j ≤ bs := by have h1 := hrow.out.1; have h2 := sy_len c (dn t) p k; simp at h1; omega
          have hfr := hown.1.frozenAt p
          obtain ⟨u, hcell⟩ : ∃ u, wr.cell? ⟨g3, p, none⟩ = some u := ⟨_, (hown.1.cellAt p (by omega)).trans (List.getElem?_eq_getElem (by simp; omega))⟩
          obtain ⟨wA, hwA⟩ : ∃ wA, wA = wr.setCell ⟨g3, p, none⟩ (.int .i64 (k : Int)) := ⟨_, rfl⟩
          have hne : w.heap.size ≠ g3 := by have := HG3.out; have := LT2.out; omega
          have bA : Blk wA w.heap.size (chCells c AT nT cT AP nP cP) 27 := by rw [hwA]; exact hbr.other _ hne
          have belA : Below w2.heap.size w2 wA := by rw [hwA]; exact hwld.out.1.setCell (by simpa using HG3.out) _
          have ownA : Own w2.heap.size wA (some ⟨g3, 0, none⟩) t.size c3 (ints (dq.set p k)) := by rw [hwA, ← ints_set]; exact hown.stored (wf_nat (by omega))
          have rowA : wA.ownsRow w3.heap.size 2 1 (.slice A j cc) j (cells64 (ints (c.sy (dn t) p k))) := by rw [hwA]; exact ownsRow_setCell_below hrow.out (a := ⟨g3, p, none⟩) hg3l _
          have sA : wA.heap.size = wr.heap.size := by rw [hwA]; simp
          have hdb2 : ∀ d ∈ dq.set p k, d < bs := fun d hd => by
            rcases List.mem_or_eq_of_mem_set hd with h1 | rfl
            · exact hdb d h1
            · exact hlt
          have CR : ∀ q, Calls Tryd.prog 61 #[.pointer (some ⟨w.heap.size, 0, none⟩), .int .i64 0, .int .i64 c.start, .slice (some ⟨g3, 0, none⟩) t.size c3] (wA.drewN q) fun e w' => e = .returned (.int .i64 (c.run 0 x0 ((dn t).set p k) : Nat)) ∧ ∃ q', w' = (wA.drewN q).drewN q' := by
            intro q
            have := l02Run_any c AT AP nT cT nP cP (wA.drewN q) (bA.drewN q) ((R2.out.below (belA.mono (Nat.le_trans hB BEL2.out.size))).drewN q) F.out (some ⟨g3, 0, none⟩) t.size c3 (dq.set p k) 0 x0 (ownA.row.drewN q) (by have := HTN.out; omega) hxs hdb2
            rw [show ((x0 : Nat) : Int) = c.start from HX0.out.symm, hset k] at this
            exact this
          have k0 : wA.cell? ⟨w.heap.size, 2, none⟩ = some (.int .i64 c.start) := by rw [bA.cell 2]; rfl
          have k3 : wA.cell? ⟨w.heap.size, 3, none⟩ = some (.int .i64 c.stop) := by rw [bA.cell 3]; rfl
          have kb : wr.cell? ⟨w.heap.size, 0, none⟩ = some (.int .i64 bs) := by rw [c0]; simp [HBS.out]
          have OWNA := Lib.hid ownA
          have BELA := Lib.hid belA
          have BLKA := Lib.hid bA
          have DQ : Hid ((∀ d, (dq.set p k).set p d = (dn t).set p d) ∧ (dq.set p k).length = t.size ∧ (∀ d ∈ dq.set p k, d < bs)) := Lib.hid ⟨fun d => by rw [set_set]; exact hset d, by simp [hdl], hdb2⟩
          have HSA : Hid (w3.heap.size ≤ wA.heap.size) := Lib.hid (by rw [sA]; exact hwld.out.2.2)
          have ROWA := Lib.hid rowA
          clear hown hset hdl hdb ownA belA bA rowA sA hdb2 hbr c0 hdig hrow hwld
          by_cases heq : (c.run 0 x0 ((dn t).set p k) : Int) = c.stop
          · have g1 : (((c.run 0 x0 ((dn t).set p k) : Nat) : Int) == c.stop) = true := by simpa using heq
            have HSY : Hid (cells64 (ints (c.sy (dn t) p k)) ++ [Value.int .i64 (k : Int)] = cells64 (ints (c.sy (dn t) p (k + 1)))) := Lib.hid (by
              rw [sy_yes (by rw [HX0.out]; exact heq)]; simp [cells64, ints])
            generalize c.run 0 x0 ((dn t).set p k) = Y at CR g1 heq
            clear heq
            go_wp2_with fail
            rw [← hwA]
            have HWA := Lib.hid hwA
            clear hwA hcell hfr kb
            go_quiet ((go_at_call 61; first | ((with_reducible refine (CR _).mono ?_); first | exact (fun _ _ ⟨he, _, hm⟩ => ⟨he, _, hm.trans (World.drewN_drewN _ _ _)⟩) | exact (fun _ _ ⟨he, _, hm⟩ => ⟨he, _, hm.trans ((World.drewN_drewN _ _ _).trans (by rw [Nat.add_assoc]))⟩))))
            obtain ⟨wB, hwB⟩ : ∃ wB, wB = wA.drewN nq := ⟨_, rfl⟩
            rw [← hwB]
            have rowB : wB.ownsRow w3.heap.size 2 1 (.slice A j cc) j (cells64 (ints (c.sy (dn t) p k))) := by rw [hwB]; exact ROWA.out
            have hsB : w3.heap.size ≤ wB.heap.size := by rw [hwB]; exact HSA.out
            have HWB := Lib.hid hwB
            clear CR k0 k3 g1 hwB
            go_wp2_with (at_builtin; refine wpList_append_own _ rfl _ _ 25 rfl w3.heap.size 2 i0 (.int .i64 0) 1 8 Tryd.underlying25 hi hz0 hz1 hz2 rfl (by decide) _ _ _ rfl (rowB.alloc _) ⟨wB.heap.size, 0, none⟩ 1 1 [.int .i64 (k : Int)] rfl rfl (cells_one _ _ _) (fun u hu => by simp at hu; subst hu; rfl) ?c1 ?c2 ?c3 ?_)
            case c1 => unfold maxLen; omega
            case c2 => omega
            case c3 => simp; omega
            intro v4 w4 ho4 hg4 _
            have ho4 : w4.ownsRow w3.heap.size 2 1 v4 (j + 1) (cells64 (ints (c.sy (dn t) p (k + 1)))) := by rw [← HSY.out]; simpa [cells64, ints] using ho4
            have hv : ∃ A4 c4, v4 = .slice A4 (j + 1) c4 := by
              rcases ho4.2 with ⟨hv, hn⟩ | ⟨g, cap, cur, hv, _⟩
              · omega
              · exact ⟨_, _, hv⟩
            obtain ⟨A4, c4, rfl⟩ := hv
            have be4 : Below w3.heap.size wA w4 := by
              have : Below w3.heap.size wA wB := by rw [HWB.out]; exact below_drewN (Below.refl _ _) nq
              exact Below.grown (this.alloc hsB _) hg4 (by simp; omega) (fun q hq => (rowB.lt q hq).1)
            have X1 : Hid (Own w2.heap.size w4 (some ⟨g3, 0, none⟩) t.size c3 (ints (dq.set p k))) := Lib.hid (OWNA.out.keep fun g hg => be4.block g (by injection hg with hg; injection hg with hg; omega))
            have X2 : Hid (Below w2.heap.size w2 w4 ∧ Blk w4 w.heap.size (chCells c AT nT cT AP nP cP) 27 ∧ w3.heap.size ≤ w4.heap.size) := Lib.hid ⟨BELA.out.trans (be4.mono hs3), BLKA.out.below be4 LT3.out, Nat.le_trans HSA.out be4.size⟩
            have X3 := Lib.hid ho4
            clear ho4 hg4 be4 rowB
            go_wp2_with fail
            go_roundw
            case rel => exact ⟨k + 1, A4, j + 1, c4, dq.set p k, by omega, by go_num, rfl, Lib.hid ⟨X1.out, DQ.out⟩, Lib.hid X3.out, X2⟩
            case measure => simp [intOf]; omega
          · have g1 : (((c.run 0 x0 ((dn t).set p k) : Nat) : Int) == c.stop) = false := by simpa using heq
            have HSY : Hid (c.sy (dn t) p (k + 1) = c.sy (dn t) p k) := Lib.hid (sy_no (by rw [HX0.out]; exact heq))
            generalize c.run 0 x0 ((dn t).set p k) = Y at CR g1 heq
            clear heq
            go_wp2_with fail
            rw [← hwA]
            have HWA := Lib.hid hwA
            clear hwA hcell hfr kb
            go_quiet ((go_at_call 61; first | ((with_reducible refine (CR _).mono ?_); first | exact (fun _ _ ⟨he, _, hm⟩ => ⟨he, _, hm.trans (World.drewN_drewN _ _ _)⟩) | exact (fun _ _ ⟨he, _, hm⟩ => ⟨he, _, hm.trans ((World.drewN_drewN _ _ _).trans (by rw [Nat.add_assoc]))⟩))))
            go_wp2_with fail
            go_roundw
            case rel => exact ⟨k + 1, A, j, cc, dq.set p k, by omega, by go_num, rfl, Lib.hid ⟨OWNA.out.drewN _, DQ.out⟩, Lib.hid (by rw [HSY.out]; exact ROWA.out), Lib.hid ⟨below_drewN BELA.out _, BLKA.out.drewN _, HSA.out⟩⟩
            case measure => simp [intOf]; omega
        · obtain rfl : bs = k := by omega
          have kb : wr.cell? ⟨w.heap.size, 0, none⟩ = some (.int .i64 bs) := by rw [c0]; simp [HBS.out]
          have hln := hrow.out.1
          have hown : Own w3.heap.size wr A j cc (ints (c.sy (dn t) p bs)) := ⟨hrow.out, fun z hz => by
            simp only [ints, List.mem_map] at hz
            obtain ⟨d, hd, rfl⟩ := hz
            have := sy_lt d hd
            exact wf_nat (by omega)⟩
          have hj : j ≤ bs := by have h2 := sy_len c (dn t) p bs; simp at hln; omega
          have CF := l01From_any A j cc (ints (c.sy (dn t) p bs)) wr hown.row (Nat.le_refl _) (by omega) (fun z hz => by
            simp only [ints, List.mem_map] at hz
            obtain ⟨d, hd, rfl⟩ := hz
            have := sy_lt d hd
            omega)
          have BELR := Lib.hid (BEL2.out.trans (hwld.out.1.mono BEL2.out.size))
          clear hbr c0 hdig hrow hwld hown hln
          go_wp2_with fail
          (go_at_call 54; (with_reducible refine (CF).mono ?_); rintro e w5 ⟨rfl, be5⟩)
          have BE5 := Lib.hid be5
          clear be5 CF
          go_wp2_with fail
          go_ret2
          refine ⟨?_, BELR.out.trans (BE5.out.mono BELR.out.size)⟩
          rw [← sym_yes H.out]
          rw [HBS.out]
          simp [symsOf, ints]

set_option maxHeartbeats 1000000 in
theorem length_any (c : Ch) (AT AP : Option Addr) (nT cT nP cP : Nat) (w : World) :
    Calls Tryd.prog 35 #[chV c AT nT cT AP nP cP] w fun e w' => e = .returned (.int .i64 nP) ∧ Below w.heap.size w w' := by
  go_enter Tryd.func35, Tryd.ntmps35
  go_wp2_with fail
  go_ret
  exact ⟨rfl, (Below.refl _ w).alloc (Nat.le_refl _) _⟩

set_option maxRecDepth 100000 in
set_option maxHeartbeats 4000000 in
theorem implSyms_any {B : Nat} (c : Ch) (AT AP : Option Addr) (nT cT nP cP : Nat) (t : ByteArray) (place : Int) (w : World) (hr : ChRows B w c AT nT AP nP) (hB : B ≤ w.heap.size) (ht : t.size ≤ maxLen) :
    Calls Tryd.prog 25 #[chV c AT nT cT AP nP cP, .string t, .int .i64 place] w fun e w' => e = twoS (c.symR t place) (c.symOk t place) ∧ Below w.heap.size w w' := by
  obtain ⟨w1, hw1⟩ : ∃ w1, w1 = w.alloc (.cells (chCells c AT nT cT AP nP cP) 27) := ⟨_, rfl⟩
  have bel : Below w.heap.size w w1 := by rw [hw1]; exact (Below.refl _ w).alloc (Nat.le_refl _) _
  have b1 : Blk w1 w.heap.size (chCells c AT nT cT AP nP cP) 27 := by rw [hw1]; exact Blk.new _ _ _
  have CD := digitsOf_any c AT AP nT cT nP cP t w1 (hr.below (bel.mono hB)) (Nat.le_trans hB bel.size) ht
  have hlP := hr.2.len
  have BEL := Lib.hid bel
  have BLK := Lib.hid b1
  have LT1 := Lib.hid b1.lt
  have q0 := b1.cell 0
  have q1 := b1.cell 1
  have q2 := b1.cell 2
  have q3 := b1.cell 3
  have q4 := b1.cell 4
  have q5 := b1.cell 5
  clear bel b1
  go_enter Tryd.func25, Tryd.ntmps25
  go_wp2_with fail
  rw [← hw1]
  have HW1 := Lib.hid hw1
  clear hw1
  (go_at_call 46; (with_reducible refine (CD).mono ?_); rintro e w2 ⟨A, cd, m, rfl, be2, hown⟩)
  clear CD q0 q1 q2 q3 q4 q5
  have bel2 : Below w.heap.size w w2 := BEL.out.trans (be2.mono (Nat.le_of_lt LT1.out))
  have bk2 := BLK.out.below be2 LT1.out
  have LT2 : Hid (w.heap.size < w2.heap.size) := Lib.hid bk2.lt
  have BEL2 := Lib.hid bel2
  have B2 := Lib.hid bk2
  have HOWN := Lib.hid hown
  have BE2 := Lib.hid be2
  rcases h1 : c.both t with _ | _
  · have H : Hid (c.symOk t place = false) := Lib.hid (by unfold Ch.symOk; rw [h1]; rfl)
    clear h1 be2 bel2 bk2 hown
    go_wp2_with fail
    go_ret2
    exact ⟨sym_no H.out, BEL2.out⟩
  · obtain ⟨hm, ho⟩ := hown h1
    obtain ⟨hok, hsz, hwd⟩ := both_ok h1
    obtain ⟨bs, s, n, f⟩ := Ch.fine hok
    have htn : t.size = n := by rw [hsz, f.len]
    have hnP : (nP : Int) = t.size := by rw [← hlP, hsz]
    have q0 := bk2.cell 0
    have q1 := bk2.cell 1
    have q2 := bk2.cell 2
    have q3 := bk2.cell 3
    have q4 := bk2.cell 4
    have q5 := bk2.cell 5
    have CL := length_any c AT AP nT cT nP cP w2
    have hn20 := f.n20
    have hnP2 : 0 ≤ (nP : Int) ∧ (nP : Int) ≤ 20 := by omega
    have HO := Lib.hid ho
    have F := Lib.hid f
    rcases h2 : inB place 0 ((nP : Int) - 1) with _ | _
    · have H : Hid (c.symOk t place = false) := Lib.hid (by unfold Ch.symOk; rw [h1, ← hnP, h2]; rfl)
      have CW : ∀ W, Calls Tryd.prog 38 #[.int .i64 place, .int .i64 0, .int .i64 ((nP : Int) - 1)] W fun e w' => e = .returned (.bool false) ∧ W = w' := fun W => by rw [← h2]; exact within_any _ _ _ W
      clear h1 h2 be2 bel2 bk2 hown ho hm hok hsz hwd f htn hnP
      go_wp2_with fail
      (go_at_call 35; (with_reducible refine (CL).mono ?_); rintro e w3 ⟨rfl, be3⟩)
      have BEL3 := Lib.hid (BEL2.out.trans (be3.mono BEL2.out.size))
      clear be3 CL q0 q1 q2 q3 q4 q5
      go_wp2_with fail
      (go_at_call 38; (with_reducible refine (CW _).mono ?_); rintro e w4 ⟨rfl, rfl⟩)
      go_wp2_with fail
      go_ret2
      exact ⟨sym_no H.out, BEL3.out⟩
    · have H : Hid (c.symOk t place = true) := Lib.hid (by unfold Ch.symOk; rw [h1, ← hnP, h2]; rfl)
      have CW : ∀ W, Calls Tryd.prog 38 #[.int .i64 place, .int .i64 0, .int .i64 ((nP : Int) - 1)] W fun e w' => e = .returned (.bool true) ∧ W = w' := fun W => by rw [← h2]; exact within_any _ _ _ W
      have hpl := inB_true.1 h2
      obtain ⟨p, rfl⟩ := Int.eq_ofNat_of_zero_le hpl.1
      obtain ⟨x0, hx0⟩ : ∃ x0 : Nat, c.start = x0 := ⟨c.start.toNat, by have := f.start0; omega⟩
      have hxs : x0 < s := by have := f.start; omega
      have hb36 := f.b36
      have hbase := f.base
      rw [f.base] at hwd
      have hds := dn_lt hwd
      have hpt : p < m := by omega
      obtain ⟨g3, rfl⟩ : ∃ g3, A = some ⟨g3, 0, none⟩ := by
        rcases ho.form with ⟨_, h0, _⟩ | ⟨g, hA, _⟩
        · omega
        · exact ⟨g, hA⟩
      have hg3 : w1.heap.size ≤ g3 := ho.from g3 rfl
      have hg3l : g3 < w2.heap.size := ho.lt g3 rfl
      have HG3 := Lib.hid hg3
      have HDS := Lib.hid hds
      have HX0 := Lib.hid hx0
      have HBS := Lib.hid hbase
      have HTN : Hid (m = n) := Lib.hid (by rw [hm]; exact htn)
      have HM := Lib.hid hm
      have hm20 : m ≤ 20 := by omega
      clear h1 h2 be2 bel2 bk2 hown ho hm hok hsz hwd f htn hnP hds hx0 hbase hg3
      go_wp2_with fail
      (go_at_call 35; (with_reducible refine (CL).mono ?_); rintro e w3 ⟨rfl, be3⟩)
      have BEL3 := Lib.hid (BEL2.out.trans (be3.mono BEL2.out.size))
      have bk3 := B2.out.below be3 LT2.out
      have LT3 : Hid (w.heap.size < w3.heap.size) := Lib.hid bk3.lt
      have HG3l : Hid (g3 < w3.heap.size) := Lib.hid (Nat.lt_of_lt_of_le hg3l be3.size)
      have HO3 := Lib.hid (HO.out.below be3)
      have BE23 := Lib.hid be3
      have c0 := bk3.cell 0
      have B3 := Lib.hid bk3
      clear be3 CL q0 q1 q2 q3 q4 q5 bk3
      go_wp2_with fail
      (go_at_call 38; (with_reducible refine (CW _).mono ?_); rintro e w4 ⟨rfl, rfl⟩)
      clear CW
      have kb3 : (w3.alloc (.cells #[.slice none 0 0, .int .i64 0, .int .i8 0] 73)).cell? ⟨w.heap.size, 0, none⟩ = some (.int .i64 bs) := by rw [(B3.out.alloc _).cell 0]; simp [HBS.out]
      clear c0
      go_wp2_with fail
      have e0 : c.base = (bs : Int) := HBS.out
      go_loopw [11, 30] (fun _ i wr => ∃ (k : Nat) (dq : List Nat), k ≤ bs ∧ i = .int .i64 k ∧ Hid (Own w1.heap.size wr (some ⟨g3, 0, none⟩) m cd (ints dq) ∧ (∀ d, dq.set p d = (dn t).set p d) ∧ dq.length = m ∧ (∀ d ∈ dq, d < bs)) ∧ Lib.IsBuffer 73 5 w3.heap.size w3.heap.size (Lib.byteCells (symsOf (c.sy (dn t) p k))) wr ∧ Hid (Below w1.heap.size w1 wr ∧ Blk wr w.heap.size (chCells c AT nT cT AP nP cP) 27 ∧ w3.heap.size ≤ wr.heap.size)) (fun _ i _ => bs - (intOf i).toNat)
      case atStart =>
        refine ⟨0, dn t, by omega, rfl, Lib.hid ⟨?_, fun d => rfl, by rw [dn_len, HM.out], HDS.out⟩, ?_, Lib.hid ⟨?_, ?_, ?_⟩⟩
        · exact HO3.out.below ((Below.refl _ _).alloc (Nat.le_refl _) _)
        · exact Lib.fresh_isBuffer _ _ w3
        · exact (BE2.out.trans (BE23.out.mono BE2.out.size)).alloc (Nat.le_trans BE2.out.size BE23.out.size) _
        · exact B3.out.alloc _
        · simp
      case round =>
        obtain ⟨k, dq, hk, rfl, hdig, hbuf, hwld⟩ := hrel
        have hbr := hwld.out.2.1
        by_cases hlt : k < bs
        · obtain ⟨hown, hset, hdl, hdb⟩ := hdig.out
          have hfr := hown.1.frozenAt p
          obtain ⟨u, hcell⟩ : ∃ u, wr.cell? ⟨g3, p, none⟩ = some u := ⟨_, (hown.1.cellAt p (by omega)).trans (List.getElem?_eq_getElem (by simp; omega))⟩
          obtain ⟨wA, hwA⟩ : ∃ wA, wA = wr.setCell ⟨g3, p, none⟩ (.int .i64 (k : Int)) := ⟨_, rfl⟩
          have hne : w.heap.size ≠ g3 := by have := HG3.out; have := LT1.out; omega
          have bA : Blk wA w.heap.size (chCells c AT nT cT AP nP cP) 27 := by rw [hwA]; exact hbr.other _ hne
          have belA : Below w1.heap.size w1 wA := by rw [hwA]; exact hwld.out.1.setCell (by simpa using HG3.out) _
          have ownA : Own w1.heap.size wA (some ⟨g3, 0, none⟩) m cd (ints (dq.set p k)) := by rw [hwA, ← ints_set]; exact hown.stored (wf_nat (by omega))
          have bufA : Lib.IsBuffer 73 5 w3.heap.size w3.heap.size (Lib.byteCells (symsOf (c.sy (dn t) p k))) wA := by rw [hwA]; exact buf_set hbuf _ HG3l.out
          have sA : wA.heap.size = wr.heap.size := by rw [hwA]; simp
          have hdb2 : ∀ d ∈ dq.set p k, d < bs := fun d hd => by
            rcases List.mem_or_eq_of_mem_set hd with h1 | rfl
            · exact hdb d h1
            · exact hlt
          have bw : Below w.heap.size w wA := BEL.out.trans (belA.mono BEL.out.size)
          have CR : ∀ W, W = wA.drew → Calls Tryd.prog 47 #[.agg #[.int .i64 c.base, .int .i64 c.states, .int .i64 c.start, .int .i64 c.stop, .slice AT nT cT, .slice AP nP cP], .int .i64 c.start, .int .i64 0, .slice (some ⟨g3, 0, none⟩) m cd] W fun e w' => e = .returned (.int .i64 (c.run 0 x0 ((dn t).set p k) : Nat)) ∧ Below wA.heap.size wA w' := by
            rintro W rfl
            have := lead_any c AT AP nT cT nP cP (wA.drewN 1) ((hr.below (bw.mono hB)).drewN 1) (Nat.le_trans hB bw.size) F.out (some ⟨g3, 0, none⟩) m cd (dq.set p k) 0 x0 (ownA.row.drewN 1) (Nat.le_refl _) (by have := HTN.out; omega) hxs hdb2
            rw [show ((x0 : Nat) : Int) = c.start from HX0.out.symm, hset k] at this
            exact this.mono fun e w' ⟨he, hb⟩ => ⟨he, (below_drewN (Below.refl _ wA) 1).trans hb⟩
          have k0 : wA.cell? ⟨w.heap.size, 0, none⟩ = some (.int .i64 c.base) := bA.cell 0
          have k1 : wA.cell? ⟨w.heap.size, 1, none⟩ = some (.int .i64 c.states) := bA.cell 1
          have k2 : wA.cell? ⟨w.heap.size, 2, none⟩ = some (.int .i64 c.start) := bA.cell 2
          have k3 : wA.cell? ⟨w.heap.size, 3, none⟩ = some (.int .i64 c.stop) := bA.cell 3
          have k4 : wA.cell? ⟨w.heap.size, 4, none⟩ = some (.slice AT nT cT) := bA.cell 4
          have k5 : wA.cell? ⟨w.heap.size, 5, none⟩ = some (.slice AP nP cP) := bA.cell 5
          have OWNA := Lib.hid ownA
          have BELA := Lib.hid belA
          have BLKA := Lib.hid bA
          have BUFA := Lib.hid bufA
          have LTA := Lib.hid bA.lt
          have DQ : Hid ((∀ d, (dq.set p k).set p d = (dn t).set p d) ∧ (dq.set p k).length = m ∧ (∀ d ∈ dq.set p k, d < bs)) := Lib.hid ⟨fun d => by rw [set_set]; exact hset d, by simp [hdl], hdb2⟩
          have HSA : Hid (w3.heap.size ≤ wA.heap.size) := Lib.hid (by rw [sA]; exact hwld.out.2.2)
          clear hown hset hdl hdb ownA belA bA bufA sA hdb2 hbr hdig hbuf hwld bw e0
          by_cases heq : (c.run 0 x0 ((dn t).set p k) : Int) = c.stop
          · have g1 : (((c.run 0 x0 ((dn t).set p k) : Nat) : Int) == c.stop) = true := by simpa using heq
            have hk36 : k < 36 := by omega
            have HSY : Hid (Lib.byteCells (symsOf (c.sy (dn t) p (k + 1))) = Lib.byteCells (symsOf (c.sy (dn t) p k)) ++ [.int .u8 (symN k)]) := Lib.hid (by
              rw [sy_yes (by rw [HX0.out]; exact heq), snoc_bytes _ k hk36]; simp [symsOf, ints])
            have HLEN : Hid ((Lib.byteCells (symsOf (c.sy (dn t) p k))).length + 1 ≤ 140737488355328) := Lib.hid (by
              have := sy_len c (dn t) p k
              simp [Lib.byteCells, symsOf, ints]; omega)
            have HSB := Lib.hid (syms_byte k hk36)
            generalize c.run 0 x0 ((dn t).set p k) = Y at CR g1 heq
            clear heq
            go_wp2_with fail
            rw [← hwA]
            have HWA := Lib.hid hwA
            clear hwA hcell hfr
            go_region_held3 (fun w' => w'.cell? ⟨w.heap.size, 0, none⟩ = some (.int .i64 c.base) ∧ w'.cell? ⟨w.heap.size, 1, none⟩ = some (.int .i64 c.states) ∧ w'.cell? ⟨w.heap.size, 2, none⟩ = some (.int .i64 c.start) ∧ w'.cell? ⟨w.heap.size, 3, none⟩ = some (.int .i64 c.stop) ∧ w'.cell? ⟨w.heap.size, 4, none⟩ = some (.slice AT nT cT) ∧ w'.cell? ⟨w.heap.size, 5, none⟩ = some (.slice AP nP cP)) (first | exact ⟨K0, K1, K2, K3, K4, K5⟩ | exact ⟨k0, k1, k2, k3, k4, k5⟩) (first
              | (go_at_call 47
                 with_reducible refine (CR _ rfl).mono ?_
                 rintro e w5 ⟨rfl, be5⟩
                 have K0 := (be5.cell (p := ⟨w.heap.size, 0, none⟩) LTA.out).trans k0
                 have K1 := (be5.cell (p := ⟨w.heap.size, 1, none⟩) LTA.out).trans k1
                 have K2 := (be5.cell (p := ⟨w.heap.size, 2, none⟩) LTA.out).trans k2
                 have K3 := (be5.cell (p := ⟨w.heap.size, 3, none⟩) LTA.out).trans k3
                 have K4 := (be5.cell (p := ⟨w.heap.size, 4, none⟩) LTA.out).trans k4
                 have K5 := (be5.cell (p := ⟨w.heap.size, 5, none⟩) LTA.out).trans k5
                 have BE5 := Lib.hid be5
                 clear be5))
            have hbuf5 := BUFA.out.old BE5.out
            have hs5 : w3.heap.size ≤ w5.heap.size := Nat.le_trans HSA.out BE5.out.size
            clear CR k0 k1 k2 k3 k4 k5 g1 K0 K1 K2 K3 K4 K5
            go_wp2_with fail
            (go_at_call 40; (with_reducible refine (Tryd.Buffer_WriteByte w3.heap.size w3.heap.size _ _ _ hbuf5 hs5 (Lib.byteCells_one _) HLEN.out).mono ?_); rintro e w6 ⟨rfl, hb6, be6⟩)
            have X1 : Hid (Own w1.heap.size w6 (some ⟨g3, 0, none⟩) m cd (ints (dq.set p k))) := Lib.hid ((OWNA.out.below BE5.out).keep fun g hg => be6.block g (by injection hg with hg; injection hg with hg; have := HG3l.out; omega))
            have X2 : Hid (Below w1.heap.size w1 w6 ∧ Blk w6 w.heap.size (chCells c AT nT cT AP nP cP) 27 ∧ w3.heap.size ≤ w6.heap.size) := Lib.hid ⟨(BELA.out.trans (BE5.out.mono BELA.out.size)).trans (be6.mono (Nat.le_trans BE2.out.size BE23.out.size)), (BLKA.out.below BE5.out LTA.out).below be6 LT3.out, Nat.le_trans hs5 be6.size⟩
            have X3 : Lib.IsBuffer 73 5 w3.heap.size w3.heap.size (Lib.byteCells (symsOf (c.sy (dn t) p (k + 1)))) w6 := by rw [HSY.out, ← HSB.out]; exact hb6
            have X3 := Lib.hid X3
            clear hb6 be6 hbuf5
            go_wp2_with fail
            go_roundw
            case rel => exact ⟨k + 1, dq.set p k, by omega, by go_num, Lib.hid ⟨X1.out, DQ.out⟩, X3.out, X2⟩
            case measure => simp [intOf]; omega
          · have g1 : (((c.run 0 x0 ((dn t).set p k) : Nat) : Int) == c.stop) = false := by simpa using heq
            have HSY : Hid (c.sy (dn t) p (k + 1) = c.sy (dn t) p k) := Lib.hid (sy_no (by rw [HX0.out]; exact heq))
            generalize c.run 0 x0 ((dn t).set p k) = Y at CR g1 heq
            clear heq
            go_wp2_with fail
            rw [← hwA]
            have HWA := Lib.hid hwA
            clear hwA hcell hfr
            go_region_held3 (fun w' => w'.cell? ⟨w.heap.size, 0, none⟩ = some (.int .i64 c.base) ∧ w'.cell? ⟨w.heap.size, 1, none⟩ = some (.int .i64 c.states) ∧ w'.cell? ⟨w.heap.size, 2, none⟩ = some (.int .i64 c.start) ∧ w'.cell? ⟨w.heap.size, 3, none⟩ = some (.int .i64 c.stop) ∧ w'.cell? ⟨w.heap.size, 4, none⟩ = some (.slice AT nT cT) ∧ w'.cell? ⟨w.heap.size, 5, none⟩ = some (.slice AP nP cP)) (first | exact ⟨K0, K1, K2, K3, K4, K5⟩ | exact ⟨k0, k1, k2, k3, k4, k5⟩) (first
              | (go_at_call 47
                 with_reducible refine (CR _ rfl).mono ?_
                 rintro e w5 ⟨rfl, be5⟩
                 have K0 := (be5.cell (p := ⟨w.heap.size, 0, none⟩) LTA.out).trans k0
                 have K1 := (be5.cell (p := ⟨w.heap.size, 1, none⟩) LTA.out).trans k1
                 have K2 := (be5.cell (p := ⟨w.heap.size, 2, none⟩) LTA.out).trans k2
                 have K3 := (be5.cell (p := ⟨w.heap.size, 3, none⟩) LTA.out).trans k3
                 have K4 := (be5.cell (p := ⟨w.heap.size, 4, none⟩) LTA.out).trans k4
                 have K5 := (be5.cell (p := ⟨w.heap.size, 5, none⟩) LTA.out).trans k5
                 have BE5 := Lib.hid be5
                 clear be5))
            have hs5 : w3.heap.size ≤ w5.heap.size := Nat.le_trans HSA.out BE5.out.size
            clear CR k0 k1 k2 k3 k4 k5 g1 K0 K1 K2 K3 K4 K5
            go_wp2_with fail
            go_roundw
            case rel => exact ⟨k + 1, dq.set p k, by omega, by go_num, Lib.hid ⟨OWNA.out.below BE5.out, DQ.out⟩, by rw [HSY.out]; exact BUFA.out.old BE5.out, Lib.hid ⟨BELA.out.trans (BE5.out.mono BELA.out.size), BLKA.out.below BE5.out LTA.out, hs5⟩⟩
            case measure => simp [intOf]; omega
        · obtain rfl : bs = k := by omega
          have BELR := Lib.hid (BEL.out.trans (hwld.out.1.mono BEL.out.size))
          clear hbr hdig hwld e0
          go_wp2_with fail
          (go_at_call 41; (with_reducible refine (Tryd.Buffer_String w3.heap.size w3.heap.size _ _ hbuf).mono ?_); rintro e w' ⟨rfl, m5, rfl⟩)
          go_wp2_with fail
          go_ret2
          refine ⟨?_, below_drewN BELR.out m5⟩
          rw [← sym_yes H.out, HBS.out]
          simp
end Go.Proofs.YtoedkaaenahjeaaDoor
