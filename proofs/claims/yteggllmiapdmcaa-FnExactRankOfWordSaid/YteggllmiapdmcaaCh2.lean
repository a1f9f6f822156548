/-
  The laws' helpers over whole chains.
-/
import Derived.Test.YteggllmiapdmcaaCh
namespace Go.Proofs.Yteggllmiapdmcaa
open Go.RowKit

def ChRows (B : Nat) (w : World) (c : Ch) (AT : Option Addr) (nT : Nat) (AP : Option Addr) (nP : Nat) : Prop := Rows3 B w AT nT c.T ∧ RowB .i64 B w AP nP c.P
section
variable {B B' : Nat} {w w' : World} {c : Ch} {AT AP : Option Addr} {nT nP : Nat}
theorem ChRows.below (h : ChRows B w c AT nT AP nP) (hb : Below B w w') : ChRows B w' c AT nT AP nP := ⟨h.1.below hb, h.2.below hb⟩
theorem ChRows.more (h : ChRows B w c AT nT AP nP) (hB : B ≤ B') : ChRows B' w c AT nT AP nP := ⟨h.1.more hB, h.2.more hB⟩
theorem ChRows.drewN (h : ChRows B w c AT nT AP nP) (m : Nat) : ChRows B (w.drewN m) c AT nT AP nP := h
end
def totC (c : Ch) : Nat := tot3 c.T + c.P.length

set_option maxHeartbeats 1000000 in
theorem szChain_any {B : Nat} (c : Ch) (AT AP : Option Addr) (nT cT nP cP : Nat) (left : Int) (w : World) (hr : ChRows B w c AT nT AP nP) (h0 : 0 ≤ left) (h1 : left ≤ 1048576) (hB : B ≤ w.heap.size) :
    Calls Try.prog 35 #[chV c AT nT cT AP nP cP, .int .i64 left] w fun e w' => e = .returned (.int .i64 (szF left (totC c))) ∧ Below w.heap.size w w' := by
  have hP := hr.2.le
  have hlP := hr.2.len
  obtain ⟨w1, hw1⟩ : ∃ w1, w1 = w.alloc (.cells #[.int .i64 c.base, .int .i64 c.states, .int .i64 c.start, .int .i64 c.stop, .slice AT nT cT, .slice AP nP cP] 45) := ⟨_, rfl⟩
  have bel : Below w.heap.size w w1 := by rw [hw1]; exact (Below.refl _ w).alloc (Nat.le_refl _) _
  have r2 := hr.below (bel.mono hB)
  have CT := szInt64SSS_any AT nT cT c.T left _ r2.1 h0 h1
  have BEL := Lib.hid bel
  have b1 : Blk w1 w.heap.size #[.int .i64 c.base, .int .i64 c.states, .int .i64 c.start, .int .i64 c.stop, .slice AT nT cT, .slice AP nP cP] 45 := by rw [hw1]; exact Blk.new _ _ _
  have c5 := b1.cell 5
  clear bel r2 b1
  obtain ⟨tt, htt⟩ : ∃ tt, tt = tot3 c.T := ⟨_, rfl⟩
  have htot : totC c = tt + nP := by rw [htt]; unfold totC; omega
  rw [htot]
  rw [← htt] at CT
  by_cases h : left < tt
  · rw [szF_big h] at CT
    go_enter Try.func35, Try.ntmps35
    go_wp2_with fail
    rw [← hw1]
    have HW1 := Lib.hid hw1
    clear hw1
    (go_at_call 73; (with_reducible refine (CT).mono ?_); rintro e w2 ⟨rfl, rfl⟩)
    go_wp2_with fail
    go_ret
    exact ⟨ret_int (by (try have := HL.out); unfold szF; split <;> omega), BEL.out⟩
  · rw [szF_ok h] at CT
    obtain ⟨L, hL⟩ : ∃ L : Int, L = left - (tt : Int) := ⟨_, rfl⟩
    have CP := szInt64S_any AP nP cP L w1 (by unfold maxLen; omega) (by omega) (by omega)
    rw [← hL] at CT
    have hLn : 0 ≤ L ∧ L ≤ 1048576 := by omega
    have HL := Lib.hid hL
    have HTT := Lib.hid htt
    clear hL htt
    by_cases h2 : L < nP
    · rw [szF_big h2] at CP
      go_enter Try.func35, Try.ntmps35
      go_wp2_with fail
      rw [← hw1]
      have HW1 := Lib.hid hw1
      clear hw1
      (go_at_call 73; (with_reducible refine (CT).mono ?_); rintro e w2 ⟨rfl, rfl⟩)
      go_wp2_with fail
      (go_at_call 74; (with_reducible refine (CP).mono ?_); rintro e w2 ⟨rfl, rfl⟩)
      go_wp2_with fail
      go_ret
      exact ⟨ret_int (by (try have := HL.out); unfold szF; split <;> omega), BEL.out⟩
    · rw [szF_ok h2] at CP
      have h3 : 0 ≤ L - nP := by omega
      go_enter Try.func35, Try.ntmps35
      go_wp2_with fail
      rw [← hw1]
      have HW1 := Lib.hid hw1
      clear hw1
      (go_at_call 73; (with_reducible refine (CT).mono ?_); rintro e w2 ⟨rfl, rfl⟩)
      go_wp2_with fail
      (go_at_call 74; (with_reducible refine (CP).mono ?_); rintro e w2 ⟨rfl, rfl⟩)
      go_wp2_with fail
      go_ret
      exact ⟨ret_int (by (try have := HL.out); unfold szF; split <;> omega), BEL.out⟩

theorem le_sum_mem {l : List Nat} {x : Nat} (h : x ∈ l) : x ≤ l.sum := by
  induction l with
  | nil => cases h
  | cons y r ih =>
    rw [List.sum_cons]
    rcases List.mem_cons.1 h with rfl | h
    · omega
    · have := ih h; omega
theorem tot2_mem {zss : List (List Int)} {zs : List Int} (h : zs ∈ zss) : zs.length ≤ tot2 zss := by
  have := le_sum_mem (List.mem_map_of_mem (f := List.length) h)
  unfold tot2; omega
theorem tot3_mem {z3 : List (List (List Int))} {zss : List (List Int)} (h : zss ∈ z3) : tot2 zss ≤ tot3 z3 := by
  have := le_sum_mem (List.mem_map_of_mem (f := tot2) h)
  unfold tot3; omega

/-- The copy: a chain of the call's own; its places lie in a block from S on, all blocks of its tables below S. -/
def MadeC (B : Nat) (c : Ch) (w : World) (e : Ending) (w' : World) : Prop :=
  ∃ AT cT AP cP M LL S, e = .returned (chV c AT c.T.length cT AP c.P.length cP) ∧ Own3 B w' AT c.T.length cT M LL c.T ∧ Own S w' AP c.P.length cP c.P ∧ B ≤ S ∧ (∀ L ∈ LL, ∀ t ∈ L, ∀ g, t.1 = some ⟨g, 0, none⟩ → g < S) ∧ Below B w w'

theorem made_rows {B : Nat} {c : Ch} {w' : World} {AT AP : Option Addr} {cT cP S : Nat} {M : List SL} {LL : List (List SL)} (h3 : Own3 B w' AT c.T.length cT M LL c.T) (h1 : Own S w' AP c.P.length cP c.P) : ChRows w'.heap.size w' c AT c.T.length AP c.P.length := ⟨h3.row, h1.row⟩
set_option maxHeartbeats 2000000 in
theorem toChain_any {B : Nat} (c : Ch) (AT AP : Option Addr) (nT cT nP cP : Nat) (w : World) (hr : ChRows B w c AT nT AP nP) (hB : B ≤ w.heap.size) (hs : totC c ≤ 1048576) :
    Calls Try.prog 37 #[chV c AT nT cT AP nP cP] w (MadeC w.heap.size c w) := by
  have hlT := hr.1.len
  have hlP := hr.2.len
  unfold totC at hs
  have hT : nT ≤ 1048576 := by have : c.T.length ≤ tot3 c.T := by unfold tot3; omega
                               omega
  have hTs : ∀ zss ∈ c.T, zss.length ≤ 1048576 ∧ ∀ zs ∈ zss, zs.length ≤ 1048576 := by
    intro zss h
    have h1 := tot3_mem h
    refine ⟨by have : zss.length ≤ tot2 zss := by unfold tot2; omega
               omega, fun zs h2 => ?_⟩
    have := tot2_mem h2
    omega
  obtain ⟨base, states, start, stop, T, P⟩ := c
  dsimp only at hlT hlP hs hTs ⊢
  obtain ⟨w1, hw1⟩ : ∃ w1, w1 = w.alloc (.cells #[.int .i64 base, .int .i64 states, .int .i64 start, .int .i64 stop, .slice AT nT cT, .slice AP nP cP] 45) := ⟨_, rfl⟩
  obtain ⟨w2, hw2⟩ : ∃ w2, w2 = w1.alloc (.cells #[.int .i64 0, .int .i64 0, .int .i64 0, .int .i64 0, nilV, nilV] 48) := ⟨_, rfl⟩
  obtain ⟨w3, hw3⟩ : ∃ w3, w3 = w2.alloc (.cells #[.int .i64 base, .int .i64 states, .int .i64 start, .int .i64 stop, nilV, nilV] 48) := ⟨_, rfl⟩
  have sz1 : w1.heap.size = w.heap.size + 1 := by rw [hw1]; simp
  have sz2 : w2.heap.size = w.heap.size + 1 + 1 := by rw [hw2]; simp [sz1]
  have sz3 : w3.heap.size = w.heap.size + 1 + 1 + 1 := by rw [hw3]; simp [sz2]
  have b1 : Blk w1 w.heap.size #[.int .i64 base, .int .i64 states, .int .i64 start, .int .i64 stop, .slice AT nT cT, .slice AP nP cP] 45 := by rw [hw1]; exact Blk.new _ _ _
  have b2 : Blk w2 w1.heap.size #[.int .i64 0, .int .i64 0, .int .i64 0, .int .i64 0, nilV, nilV] 48 := by rw [hw2]; exact Blk.new _ _ _
  have b3 : Blk w3 w2.heap.size #[.int .i64 base, .int .i64 states, .int .i64 start, .int .i64 stop, nilV, nilV] 48 := by rw [hw3]; exact Blk.new _ _ _
  have b13 : Blk w3 w.heap.size #[.int .i64 base, .int .i64 states, .int .i64 start, .int .i64 stop, .slice AT nT cT, .slice AP nP cP] 45 := by rw [hw3, hw2]; exact (b1.alloc _).alloc _
  have b23 : Blk w3 w1.heap.size #[.int .i64 0, .int .i64 0, .int .i64 0, .int .i64 0, nilV, nilV] 48 := by rw [hw3]; exact b2.alloc _
  have bel3 : Below w.heap.size w w3 := by
    rw [hw3, hw2, hw1]
    exact (((Below.refl _ w).alloc (Nat.le_refl _) _).alloc (by simp) _).alloc (by simp; omega) _
  rw [sz1] at b23
  rw [sz2] at b3
  have r3 := hr.below (bel3.mono hB)
  have CT := toInt64SSS_any AT nT cT T w3 r3.1 (by omega) hT hTs
  have HR := Lib.hid r3
  have BEL3 := Lib.hid bel3
  clear b1 b2 r3 bel3
  go_enter Try.func37, Try.ntmps37
  go_wp2_with (fail)
  rw [← hw1, ← hw2, ← hw3]
  (go_at_call 77; (with_reducible refine (CT).mono ?_); rintro e w4 ⟨A1, c1, M, LL, rfl, ho1, be1⟩)
  have d1 := b13.below be1 (by omega)
  have d2 := b23.below be1 (by omega)
  have d3 := b3.below be1 (by omega)
  have cP4 := d1.cell 5
  have c34 := d3.cell 4
  have f34 := d3.frozen 4
  have BE1 := Lib.hid be1
  have HO1 := Lib.hid ho1
  have B1 := Lib.hid d1
  have B2 := Lib.hid d2
  have B3 := Lib.hid d3
  clear be1 ho1 d1 d2 d3 b13 b23 b3 CT
  go_wp2_with fail
  obtain ⟨w5, hw5⟩ : ∃ w5, w5 = w4.setCell ⟨w.heap.size + 1 + 1, 4, none⟩ (.slice A1 nT c1) := ⟨_, rfl⟩
  rw [← hw5]
  have bel5 : Below w.heap.size w w5 := by
    rw [hw5]
    exact (BEL3.out.trans (BE1.out.mono (by omega))).setCell (by simp; omega) _
  have e1 : Blk w5 w.heap.size #[.int .i64 base, .int .i64 states, .int .i64 start, .int .i64 stop, .slice AT nT cT, .slice AP nP cP] 45 := by rw [hw5]; exact B1.out.other _ (by omega)
  have e2 : Blk w5 (w.heap.size + 1) #[.int .i64 0, .int .i64 0, .int .i64 0, .int .i64 0, nilV, nilV] 48 := by rw [hw5]; exact B2.out.other _ (by omega)
  have e3 : Blk w5 (w.heap.size + 1 + 1) #[.int .i64 base, .int .i64 states, .int .i64 start, .int .i64 stop, .slice A1 nT c1, nilV] 48 := by
    rw [hw5]; simpa using B3.out.set 4 (.slice A1 nT c1)
  have ho5 : Own3 w3.heap.size w5 A1 nT c1 M LL T := HO1.out.keep fun g hg _ => by rw [hw5]; exact Below.heap_setCell w4 _ _ g (by simp; omega)
  have hr5 : ChRows B w5 ⟨base, states, start, stop, T, P⟩ AT nT AP nP := hr.below (bel5.mono hB)
  have sz4 : w3.heap.size ≤ w4.heap.size := BE1.out.size
  have sz5 : w5.heap.size = w4.heap.size := by rw [hw5]; simp
  have CP := toInt64S_any AP nP cP P w5 (hr5.2.up (by omega)) (by omega)
  have HO5 := Lib.hid ho5
  have BEL5 := Lib.hid bel5
  have HW5 := Lib.hid hw5
  clear hr5 cP4 c34 f34 HO1 B1 B2 B3 hw5 ho5 bel5
  (go_at_call 78; (with_reducible refine (CP).mono ?_); rintro e w6 ⟨A2, c2, rfl, ho2, be2⟩)
  have d1 := e1.below be2 (by omega)
  have d2 := e2.below be2 (by omega)
  have d3 := e3.below be2 (by omega)
  have g0 := d3.cell 0
  have g1 := d3.cell 1
  have g2 := d3.cell 2
  have g3 := d3.cell 3
  have g4 := d3.cell 4
  have g5 := d3.cell 5
  have f5 := d3.frozen 5
  have BE2 := Lib.hid be2
  have HO2 := Lib.hid ho2
  have B2 := Lib.hid d2
  have B3 := Lib.hid d3
  have h0 := d2.cell 0
  have h1 := d2.cell 1
  have h2 := d2.cell 2
  have h3 := d2.cell 3
  have h4 := d2.cell 4
  have h5 := d2.cell 5
  have k0 := d2.frozen 0
  have k1 := d2.frozen 1
  have k2 := d2.frozen 2
  have k3 := d2.frozen 3
  have k4 := d2.frozen 4
  have k5 := d2.frozen 5
  clear d1 d2 d3 e1 e2 e3 CP be2 ho2
  go_wp2_with fail
  obtain ⟨w7, hw7⟩ : ∃ w7, w7 = w6.setCell ⟨w.heap.size + 1 + 1, 5, none⟩ (.slice A2 nP c2) := ⟨_, rfl⟩
  obtain ⟨w8, hw8⟩ : ∃ w8, w8 = (((((w7.setCell ⟨w.heap.size + 1, 0, none⟩ (.int .i64 base)).setCell ⟨w.heap.size + 1, 1, none⟩ (.int .i64 states)).setCell ⟨w.heap.size + 1, 2, none⟩ (.int .i64 start)).setCell ⟨w.heap.size + 1, 3, none⟩ (.int .i64 stop)).setCell ⟨w.heap.size + 1, 4, none⟩ (.slice A1 nT c1)).setCell ⟨w.heap.size + 1, 5, none⟩ (.slice A2 nP c2) := ⟨_, rfl⟩
  rw [← hw7, ← hw8]
  have q : Blk w8 (w.heap.size + 1) #[.int .i64 base, .int .i64 states, .int .i64 start, .int .i64 stop, .slice A1 nT c1, .slice A2 nP c2] 48 := by
    have h7 : Blk w7 (w.heap.size + 1) #[.int .i64 0, .int .i64 0, .int .i64 0, .int .i64 0, nilV, nilV] 48 := by rw [hw7]; exact B2.out.other _ (by omega)
    rw [hw8]
    simpa using ((((((h7.set 0 (.int .i64 base)).set 1 (.int .i64 states)).set 2 (.int .i64 start)).set 3 (.int .i64 stop)).set 4 (.slice A1 nT c1)).set 5 (.slice A2 nP c2))
  have q0 := q.cell 0
  have q1 := q.cell 1
  have q2 := q.cell 2
  have q3 := q.cell 3
  have q4 := q.cell 4
  have q5 := q.cell 5
  have keep8 : ∀ g, g ≠ w.heap.size + 1 → g ≠ w.heap.size + 1 + 1 → w8.heap[g]? = w6.heap[g]? := by
    intro g h1 h2
    rw [hw8, hw7]
    rw [heap_setCell_other _ _ _ _ h1, heap_setCell_other _ _ _ _ h1, heap_setCell_other _ _ _ _ h1, heap_setCell_other _ _ _ _ h1, heap_setCell_other _ _ _ _ h1, heap_setCell_other _ _ _ _ h1, heap_setCell_other _ _ _ _ h2]
  have bel8 : Below w.heap.size w w8 := by
    rw [hw8, hw7]
    exact ((((((((BEL5.out.trans (BE2.out.mono (by omega))).setCell (by simp; omega) _).setCell (by simp) _).setCell (by simp) _).setCell (by simp) _).setCell (by simp) _).setCell (by simp) _).setCell (by simp) _)
  refine bodyPost_ret (v := chV ⟨base, states, start, stop, T, P⟩ A1 nT c1 A2 nP c2) (by simp [results, Try.results37, go_sem, q0, q1, q2, q3, q4, q5]) rfl ?_
  subst hlT; subst hlP
  refine ⟨A1, c1, A2, c2, M, LL, w5.heap.size, rfl, ?_, ?_, by omega, ?_, bel8⟩
  · exact ((HO5.out.below BE2.out).keep fun g hg _ => keep8 g (by omega) (by omega)).lower (by omega)
  · exact HO2.out.keep fun g hg => keep8 g (by have := HO2.out.from g hg; omega) (by have := HO2.out.from g hg; omega)
  · intro L hL t ht g hg
    obtain ⟨j, hj, e⟩ := List.getElem_of_mem hL
    have h1 : LL[j]? = some L := by rw [List.getElem?_eq_getElem hj, e]
    have e1 := HO5.out.lenL
    have e2 := HO5.out.lenM
    exact (HO5.out.inner j _ L _ (List.getElem?_eq_getElem (by omega)) h1 (List.getElem?_eq_getElem (by omega))).lts t ht g hg
end Go.Proofs.Yteggllmiapdmcaa
