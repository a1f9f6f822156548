/-
  TableChain, of the model and of the program.
-/
import Derived.Test.YtiokcflomchdcabEvI
import Derived.Test.YtiokcflomchdcabQS
import Derived.Test.YtiokcflomchdcabQI
import Derived.Test.YtiokcflomchdcabSwS
namespace Go.Proofs.Ytiokcflomchdcab
open Go.RowKit

def tchOk (t : List (List Int)) (pl : Int) : Bool := isQ t && evenOk t pl 0 0
def tchR (t : List (List Int)) (pl : Int) : Ch := if tchOk t pl = true then EvenC t pl.toNat 0 0 else zeroC
theorem tchR_yes {t : List (List Int)} {pl : Int} (h : tchOk t pl = true) : tchR t pl = EvenC t pl.toNat 0 0 := by simp [tchR, h]
theorem tchR_no {t : List (List Int)} {pl : Int} (h : tchOk t pl = false) : tchR t pl = zeroC := by simp [tchR, h]
theorem tchR_even {t : List (List Int)} {pl : Int} (h : isQ t = true) : tchR t pl = evenR t pl 0 0 ∧ tchOk t pl = evenOk t pl 0 0 := by
  unfold tchR evenR tchOk
  rw [h]
  simp
/-- One element is no base. -/
theorem tch_one {t : List (List Int)} {pl : Int} (h : isQ t = true) (hl : t.length = 1) : tchOk t pl = false := by
  obtain ⟨_, ht⟩ := isQ_parts h hl
  have hc : (EvenC t pl.toNat 0 0).ok = false := by
    match t, hl with
    | [r], _ =>
      unfold tabOk lineOk at ht
      simp at ht
      unfold Ch.ok headOk EvenC
      simp only [List.headD_cons, ht.1]
      rfl
  unfold tchOk evenOk
  rw [hc]
  simp
theorem tchR_tot (t : List (List Int)) (pl : Int) (h : tot2 t ≤ 1048576) : totC (tchR t pl) ≤ 2000000 := by
  rcases ho : isQ t with _ | _
  · rw [tchR_no (by unfold tchOk; rw [ho]; rfl)]; decide
  · rw [(tchR_even ho).1]
    have h1 : ∀ b, (b = evenOk t pl 0 0) → totC (evenR t pl 0 0) ≤ 2000000 := by
      intro b hb
      rcases b with _ | _
      · rw [evenR_no hb.symm]; decide
      · rw [evenR_yes hb.symm]
        have hb := hb.symm
        unfold evenOk at hb
        rw [Bool.and_eq_true] at hb
        have := inB_true.1 hb.1
        unfold EvenC totC tot3
        simp
        omega
    exact h1 _ rfl

set_option maxRecDepth 100000 in
set_option maxHeartbeats 4000000 in
theorem specTch_any {B : Nat} (A : Option Addr) (n c : Nat) (t : List (List Int)) (pl : Int) (w : World) (hr : Rows2 B w A n t) (hB : B ≤ w.heap.size) (hs : ∀ zs ∈ t, zs.length ≤ 1048576) :
    Calls Try.prog 34 #[.slice A n c, .int .i64 pl] w (MadeCB w.heap.size (tchR t pl) (tchOk t pl) w) := by
  have hl := hr.len
  have hn := hr.le
  obtain ⟨w1, hw1⟩ : ∃ w1, w1 = w.alloc (.cells #[.int .i64 0, .int .i64 0, .int .i64 0, .int .i64 0, nilV, nilV] 40) := ⟨_, rfl⟩
  have bel : Below w.heap.size w w1 := by rw [hw1]; exact (Below.refl _ w).alloc (Nat.le_refl _) _
  have b1 : Blk w1 w.heap.size #[.int .i64 0, .int .i64 0, .int .i64 0, .int .i64 0, nilV, nilV] 40 := by rw [hw1]; exact Blk.new _ _ _
  have r1 := hr.below (bel.mono hB)
  have BEL := Lib.hid bel
  have B1 := Lib.hid b1
  have R1 := Lib.hid r1
  have LT1 := Lib.hid b1.lt
  have HS := Lib.hid hs
  clear bel b1 r1 hr
  have CQ := l04Is_any A n c t w1 R1.out (Nat.le_trans hB BEL.out.size)
  rcases hq : isQ t with _ | _
  · rw [hq] at CQ
    have HO : Hid (tchOk t pl = false) := Lib.hid (by unfold tchOk; rw [hq]; rfl)
    clear hq hl
    go_enter Try.func34, Try.ntmps34
    go_wp2_with fail
    rw [← hw1]
    have HW1 := Lib.hid hw1
    clear hw1
    (go_at_call 42; (with_reducible refine (CQ).mono ?_); rintro e wq ⟨rfl, hbq⟩)
    have BQ : Hid (Blk wq w.heap.size #[.int .i64 0, .int .i64 0, .int .i64 0, .int .i64 0, nilV, nilV] 40) := Lib.hid (B1.out.below hbq LT1.out)
    have BELQ : Hid (Below w.heap.size w wq) := Lib.hid (BEL.out.trans (hbq.mono BEL.out.size))
    have LTQ : Hid (w.heap.size < wq.heap.size) := Lib.hid BQ.out.lt
    have RQ : Hid (Rows2 B wq A n t) := Lib.hid (R1.out.below (hbq.mono (Nat.le_trans hB BEL.out.size)))
    clear hbq CQ
    have e0 := BQ.out.cell 0
    have f0 := BQ.out.frozen 0
    have e1 := BQ.out.cell 1
    have f1 := BQ.out.frozen 1
    have e2 := BQ.out.cell 2
    have f2 := BQ.out.frozen 2
    have e3 := BQ.out.cell 3
    have f3 := BQ.out.frozen 3
    have e4 := BQ.out.cell 4
    have f4 := BQ.out.frozen 4
    have e5 := BQ.out.cell 5
    have f5 := BQ.out.frozen 5
    go_wp2_with fail
    have q : Blk (six wq w.heap.size (.int .i64 0) (.int .i64 0) (.int .i64 0) (.int .i64 0) nilV nilV) w.heap.size #[.int .i64 0, .int .i64 0, .int .i64 0, .int .i64 0, nilV, nilV] 40 := six_blk BQ.out _ _ _ _ _ _
    have FB : Hid (Below w.heap.size w (six wq w.heap.size (.int .i64 0) (.int .i64 0) (.int .i64 0) (.int .i64 0) nilV nilV)) := Lib.hid (six_below BELQ.out (Nat.le_refl _) _ _ _ _ _ _)
    obtain ⟨w8, hw8⟩ : ∃ w8, w8 = six wq w.heap.size (.int .i64 0) (.int .i64 0) (.int .i64 0) (.int .i64 0) nilV nilV := ⟨_, rfl⟩
    rw [← hw8] at q FB
    unfold six at hw8
    rw [← hw8]
    have q0 := q.cell 0
    have q1 := q.cell 1
    have q2 := q.cell 2
    have q3 := q.cell 3
    have q4 := q.cell 4
    have q5 := q.cell 5
    refine bodyPost_ret (v := .tuple #[.agg #[.int .i64 0, .int .i64 0, .int .i64 0, .int .i64 0, .slice none 0 0, .slice none 0 0], .bool false]) (by simp [results, Try.results34, go_sem, q0, q1, q2, q3, q4, q5]) rfl ?_
    rw [tchR_no HO.out, HO.out]
    exact madeC_zero FB.out
  · rw [hq] at CQ
    have hp := (isQ_parts hq hl).1
    by_cases h2 : n < 2
    · have HO : Hid (tchOk t pl = false) := Lib.hid (tch_one hq (by omega))
      have h2i : (n : Int) < 2 := by omega
      clear hq hl
      go_enter Try.func34, Try.ntmps34
      go_wp2_with fail
      rw [← hw1]
      have HW1 := Lib.hid hw1
      clear hw1
      (go_at_call 42; (with_reducible refine (CQ).mono ?_); rintro e wq ⟨rfl, hbq⟩)
      have BQ : Hid (Blk wq w.heap.size #[.int .i64 0, .int .i64 0, .int .i64 0, .int .i64 0, nilV, nilV] 40) := Lib.hid (B1.out.below hbq LT1.out)
      have BELQ : Hid (Below w.heap.size w wq) := Lib.hid (BEL.out.trans (hbq.mono BEL.out.size))
      have LTQ : Hid (w.heap.size < wq.heap.size) := Lib.hid BQ.out.lt
      have RQ : Hid (Rows2 B wq A n t) := Lib.hid (R1.out.below (hbq.mono (Nat.le_trans hB BEL.out.size)))
      clear hbq CQ
      have e0 := BQ.out.cell 0
      have f0 := BQ.out.frozen 0
      have e1 := BQ.out.cell 1
      have f1 := BQ.out.frozen 1
      have e2 := BQ.out.cell 2
      have f2 := BQ.out.frozen 2
      have e3 := BQ.out.cell 3
      have f3 := BQ.out.frozen 3
      have e4 := BQ.out.cell 4
      have f4 := BQ.out.frozen 4
      have e5 := BQ.out.cell 5
      have f5 := BQ.out.frozen 5
      go_wp2_with fail
      have q : Blk (six wq w.heap.size (.int .i64 0) (.int .i64 0) (.int .i64 0) (.int .i64 0) nilV nilV) w.heap.size #[.int .i64 0, .int .i64 0, .int .i64 0, .int .i64 0, nilV, nilV] 40 := six_blk BQ.out _ _ _ _ _ _
      have FB : Hid (Below w.heap.size w (six wq w.heap.size (.int .i64 0) (.int .i64 0) (.int .i64 0) (.int .i64 0) nilV nilV)) := Lib.hid (six_below BELQ.out (Nat.le_refl _) _ _ _ _ _ _)
      obtain ⟨w8, hw8⟩ : ∃ w8, w8 = six wq w.heap.size (.int .i64 0) (.int .i64 0) (.int .i64 0) (.int .i64 0) nilV nilV := ⟨_, rfl⟩
      rw [← hw8] at q FB
      unfold six at hw8
      rw [← hw8]
      have q0 := q.cell 0
      have q1 := q.cell 1
      have q2 := q.cell 2
      have q3 := q.cell 3
      have q4 := q.cell 4
      have q5 := q.cell 5
      refine bodyPost_ret (v := .tuple #[.agg #[.int .i64 0, .int .i64 0, .int .i64 0, .int .i64 0, .slice none 0 0, .slice none 0 0], .bool false]) (by simp [results, Try.results34, go_sem, q0, q1, q2, q3, q4, q5]) rfl ?_
      rw [tchR_no HO.out, HO.out]
      exact madeC_zero FB.out
    · have h2i : ¬ (n : Int) < 2 := by omega
      have h2d : decide ((n : Int) < 2) = false := by simp; omega
      rcases h1 : inB pl 1 20 with _ | _
      · have C1 : ∀ W, Calls Try.prog 57 #[.int .i64 pl, .int .i64 1, .int .i64 20] W fun e w' => e = .returned (.bool false) ∧ W = w' := fun W => by rw [← h1]; exact l00In_any _ _ _ W
        have HO : Hid (tchOk t pl = false) := Lib.hid (by unfold tchOk evenOk; rw [h1]; simp)
        clear h1 hl hq
        go_enter Try.func34, Try.ntmps34
        go_wp2_with fail
        rw [← hw1]
        have HW1 := Lib.hid hw1
        clear hw1
        (go_at_call 42; (with_reducible refine (CQ).mono ?_); rintro e wq ⟨rfl, hbq⟩)
        have BQ : Hid (Blk wq w.heap.size #[.int .i64 0, .int .i64 0, .int .i64 0, .int .i64 0, nilV, nilV] 40) := Lib.hid (B1.out.below hbq LT1.out)
        have BELQ : Hid (Below w.heap.size w wq) := Lib.hid (BEL.out.trans (hbq.mono BEL.out.size))
        have LTQ : Hid (w.heap.size < wq.heap.size) := Lib.hid BQ.out.lt
        have RQ : Hid (Rows2 B wq A n t) := Lib.hid (R1.out.below (hbq.mono (Nat.le_trans hB BEL.out.size)))
        clear hbq CQ
        go_wp2_with fail
        (go_at_call 57; (with_reducible refine (C1 _).mono ?_); rintro e w' ⟨rfl, rfl⟩)
        have e0 := BQ.out.cell 0
        have f0 := BQ.out.frozen 0
        have e1 := BQ.out.cell 1
        have f1 := BQ.out.frozen 1
        have e2 := BQ.out.cell 2
        have f2 := BQ.out.frozen 2
        have e3 := BQ.out.cell 3
        have f3 := BQ.out.frozen 3
        have e4 := BQ.out.cell 4
        have f4 := BQ.out.frozen 4
        have e5 := BQ.out.cell 5
        have f5 := BQ.out.frozen 5
        go_wp2_with fail
        have q : Blk (six wq w.heap.size (.int .i64 0) (.int .i64 0) (.int .i64 0) (.int .i64 0) nilV nilV) w.heap.size #[.int .i64 0, .int .i64 0, .int .i64 0, .int .i64 0, nilV, nilV] 40 := six_blk BQ.out _ _ _ _ _ _
        have FB : Hid (Below w.heap.size w (six wq w.heap.size (.int .i64 0) (.int .i64 0) (.int .i64 0) (.int .i64 0) nilV nilV)) := Lib.hid (six_below BELQ.out (Nat.le_refl _) _ _ _ _ _ _)
        obtain ⟨w8, hw8⟩ : ∃ w8, w8 = six wq w.heap.size (.int .i64 0) (.int .i64 0) (.int .i64 0) (.int .i64 0) nilV nilV := ⟨_, rfl⟩
        rw [← hw8] at q FB
        unfold six at hw8
        rw [← hw8]
        have q0 := q.cell 0
        have q1 := q.cell 1
        have q2 := q.cell 2
        have q3 := q.cell 3
        have q4 := q.cell 4
        have q5 := q.cell 5
        refine bodyPost_ret (v := .tuple #[.agg #[.int .i64 0, .int .i64 0, .int .i64 0, .int .i64 0, .slice none 0 0, .slice none 0 0], .bool false]) (by simp [results, Try.results34, go_sem, q0, q1, q2, q3, q4, q5]) rfl ?_
        rw [tchR_no HO.out, HO.out]
        exact madeC_zero FB.out
      · have C1 : ∀ W, Calls Try.prog 57 #[.int .i64 pl, .int .i64 1, .int .i64 20] W fun e w' => e = .returned (.bool true) ∧ W = w' := fun W => by rw [← h1]; exact l00In_any _ _ _ W
        have hp1 := inB_true.1 h1
        obtain ⟨pn, hpn⟩ : ∃ pn : Nat, pl = pn := ⟨pl.toNat, by omega⟩
        subst hpn
        have H1 := Lib.hid h1
        have HQ := Lib.hid hq
        clear h1 hq
        go_enter Try.func34, Try.ntmps34
        go_wp2_with fail
        rw [← hw1]
        have HW1 := Lib.hid hw1
        clear hw1
        (go_at_call 42; (with_reducible refine (CQ).mono ?_); rintro e wq ⟨rfl, hbq⟩)
        have BQ : Hid (Blk wq w.heap.size #[.int .i64 0, .int .i64 0, .int .i64 0, .int .i64 0, nilV, nilV] 40) := Lib.hid (B1.out.below hbq LT1.out)
        have BELQ : Hid (Below w.heap.size w wq) := Lib.hid (BEL.out.trans (hbq.mono BEL.out.size))
        have LTQ : Hid (w.heap.size < wq.heap.size) := Lib.hid BQ.out.lt
        have RQ : Hid (Rows2 B wq A n t) := Lib.hid (R1.out.below (hbq.mono (Nat.le_trans hB BEL.out.size)))
        clear hbq CQ
        go_wp2_with fail
        (go_at_call 57; (with_reducible refine (C1 _).mono ?_); rintro e w' ⟨rfl, rfl⟩)
        have CE := l02Even_any A n c pn 0 0 t wq RQ.out (Nat.le_trans hB BELQ.out.size) (by omega) (by omega) (by omega) HS.out
        obtain ⟨ec, hec⟩ : ∃ ec, ec = EvenC t pn 0 0 := ⟨_, rfl⟩
        rw [← hec] at CE
        have hOK : tchOk t pn = ec.ok := by
          unfold tchOk evenOk
          rw [HQ.out, H1.out, hl, show inB (n : Int) 1 36 = true from inB_true.2 ⟨by omega, by omega⟩, hec]
          simp
        have hER : tchR t pn = if ec.ok = true then ec else zeroC := by unfold tchR; rw [hOK, hec]; simp
        have HOK := Lib.hid hOK
        have HER := Lib.hid hER
        clear hec hOK hER
        go_wp2_with fail
        (go_at_call 65; (with_reducible refine (CE).mono ?_); rintro e w2 ⟨AT, cT, AP, cP, M, LL, rfl, ho, be⟩)
        obtain ⟨w3, hw3⟩ : ∃ w3, w3 = w2.alloc (.cells (chCells ec AT ec.T.length cT AP ec.P.length cP) 40) := ⟨_, rfl⟩
        have be3 : Below w2.heap.size w2 w3 := by rw [hw3]; exact (Below.refl _ w2).alloc (Nat.le_refl _) _
        have c3 : Blk w3 w2.heap.size (chCells ec AT ec.T.length cT AP ec.P.length cP) 40 := by rw [hw3]; exact Blk.new _ _ _
        have o3 := ho.below be3
        have d3 := (BQ.out.below be LTQ.out).below be3 (Nat.lt_of_lt_of_le LTQ.out be.size)
        have bl3 : Below w.heap.size w w3 := (BELQ.out.trans (be.mono (Nat.le_of_lt LTQ.out))).trans (be3.mono (Nat.le_trans (Nat.le_of_lt LTQ.out) be.size))
        have lt3 : w.heap.size < w2.heap.size := Nat.lt_of_lt_of_le LTQ.out be.size
        have CI := l02Is_any ec AT AP ec.T.length cT ec.P.length cP w3 c3 o3.rows
        have C3 := Lib.hid c3
        have O3 := Lib.hid o3
        have D3 := Lib.hid d3
        have BL3 := Lib.hid bl3
        clear be be3 c3 o3 d3 bl3 ho CE C1
        go_wp2_with fail
        rw [show w2.alloc (.cells #[.int .i64 ec.base, .int .i64 ec.states, .int .i64 ec.start, .int .i64 ec.stop, .slice AT ec.T.length cT, .slice AP ec.P.length cP] 40) = w3 from hw3.symm]
        have HW3 := Lib.hid hw3
        clear hw3
        rcases h3 : ec.ok with _ | _
        · rw [h3] at CI
          have HO : Hid (tchOk t pn = false) := Lib.hid (by rw [HOK.out, h3])
          clear h3
          (go_at_call 66; (with_reducible refine (CI).mono ?_); rintro e w4 ⟨rfl, m, hw4⟩)
          have d4 : Blk w4 w.heap.size #[.int .i64 0, .int .i64 0, .int .i64 0, .int .i64 0, nilV, nilV] 40 := by rw [hw4]; exact D3.out.drewN m
          have bl4 : Below w.heap.size w w4 := by rw [hw4]; exact below_drewN BL3.out m
          have D4 := Lib.hid d4
          have BL4 := Lib.hid bl4
          clear d4 bl4 hw4 CI
          have e0 := D4.out.cell 0
          have f0 := D4.out.frozen 0
          have e1 := D4.out.cell 1
          have f1 := D4.out.frozen 1
          have e2 := D4.out.cell 2
          have f2 := D4.out.frozen 2
          have e3 := D4.out.cell 3
          have f3 := D4.out.frozen 3
          have e4 := D4.out.cell 4
          have f4 := D4.out.frozen 4
          have e5 := D4.out.cell 5
          have f5 := D4.out.frozen 5
          go_wp2_with fail
          have q : Blk (six w4 w.heap.size (.int .i64 0) (.int .i64 0) (.int .i64 0) (.int .i64 0) nilV nilV) w.heap.size #[.int .i64 0, .int .i64 0, .int .i64 0, .int .i64 0, nilV, nilV] 40 := six_blk D4.out _ _ _ _ _ _
          have FB : Hid (Below w.heap.size w (six w4 w.heap.size (.int .i64 0) (.int .i64 0) (.int .i64 0) (.int .i64 0) nilV nilV)) := Lib.hid (six_below BL4.out (Nat.le_refl _) _ _ _ _ _ _)
          obtain ⟨w8, hw8⟩ : ∃ w8, w8 = six w4 w.heap.size (.int .i64 0) (.int .i64 0) (.int .i64 0) (.int .i64 0) nilV nilV := ⟨_, rfl⟩
          rw [← hw8] at q FB
          unfold six at hw8
          rw [← hw8]
          have q0 := q.cell 0
          have q1 := q.cell 1
          have q2 := q.cell 2
          have q3 := q.cell 3
          have q4 := q.cell 4
          have q5 := q.cell 5
          refine bodyPost_ret (v := .tuple #[.agg #[.int .i64 0, .int .i64 0, .int .i64 0, .int .i64 0, .slice none 0 0, .slice none 0 0], .bool false]) (by simp [results, Try.results34, go_sem, q0, q1, q2, q3, q4, q5]) rfl ?_
          have EO := HO.out
          rw [EO, tchR_no EO]
          exact madeC_zero FB.out
        · rw [h3] at CI
          have HO : Hid (tchOk t pn = true) := Lib.hid (by rw [HOK.out, h3])
          have H3 := Lib.hid h3
          clear h3
          (go_at_call 66; (with_reducible refine (CI).mono ?_); rintro e w4 ⟨rfl, m, hw4⟩)
          have d4 : Blk w4 w.heap.size #[.int .i64 0, .int .i64 0, .int .i64 0, .int .i64 0, nilV, nilV] 40 := by rw [hw4]; exact D3.out.drewN m
          have bl4 : Below w.heap.size w w4 := by rw [hw4]; exact below_drewN BL3.out m
          have c4 : Blk w4 w2.heap.size (chCells ec AT ec.T.length cT AP ec.P.length cP) 40 := by rw [hw4]; exact C3.out.drewN m
          have o4 : OwnC wq.heap.size w4 ec AT ec.T.length cT AP ec.P.length cP M LL := by rw [hw4]; exact O3.out.keep fun _ _ _ => rfl
          have q : Blk (six w4 w.heap.size (.int .i64 ec.base) (.int .i64 ec.states) (.int .i64 ec.start) (.int .i64 ec.stop) (.slice AT ec.T.length cT) (.slice AP ec.P.length cP)) w.heap.size #[.int .i64 ec.base, .int .i64 ec.states, .int .i64 ec.start, .int .i64 ec.stop, .slice AT ec.T.length cT, .slice AP ec.P.length cP] 40 := six_blk d4 _ _ _ _ _ _
          have FB : Hid (MadeCB w.heap.size ec true w (.returned (.tuple #[.agg #[.int .i64 ec.base, .int .i64 ec.states, .int .i64 ec.start, .int .i64 ec.stop, .slice AT ec.T.length cT, .slice AP ec.P.length cP], .bool true])) (six w4 w.heap.size (.int .i64 ec.base) (.int .i64 ec.states) (.int .i64 ec.start) (.int .i64 ec.stop) (.slice AT ec.T.length cT) (.slice AP ec.P.length cP))) := Lib.hid ⟨AT, cT, AP, cP, M, LL, rfl, (o4.keep fun g hg _ => six_heap _ _ _ _ _ _ _ _ (by have := LTQ.out; omega)).lower BELQ.out.size, six_below bl4 (Nat.le_refl _) _ _ _ _ _ _⟩
          have k0 := c4.cell 0
          have k1 := c4.cell 1
          have k2 := c4.cell 2
          have k3 := c4.cell 3
          have k4 := c4.cell 4
          have k5 := c4.cell 5
          have e0 := d4.cell 0
          have f0 := d4.frozen 0
          have e1 := d4.cell 1
          have f1 := d4.frozen 1
          have e2 := d4.cell 2
          have f2 := d4.frozen 2
          have e3 := d4.cell 3
          have f3 := d4.frozen 3
          have e4 := d4.cell 4
          have f4 := d4.frozen 4
          have e5 := d4.cell 5
          have f5 := d4.frozen 5
          have hne : w.heap.size ≠ w2.heap.size := by omega
          clear CI hw4 d4 bl4 c4 o4
          go_wp2_with fail
          obtain ⟨w8, hw8⟩ : ∃ w8, w8 = six w4 w.heap.size (.int .i64 ec.base) (.int .i64 ec.states) (.int .i64 ec.start) (.int .i64 ec.stop) (.slice AT ec.T.length cT) (.slice AP ec.P.length cP) := ⟨_, rfl⟩
          rw [← hw8] at q FB
          unfold six at hw8
          rw [← hw8]
          have q0 := q.cell 0
          have q1 := q.cell 1
          have q2 := q.cell 2
          have q3 := q.cell 3
          have q4 := q.cell 4
          have q5 := q.cell 5
          refine bodyPost_ret (v := .tuple #[.agg #[.int .i64 ec.base, .int .i64 ec.states, .int .i64 ec.start, .int .i64 ec.stop, .slice AT ec.T.length cT, .slice AP ec.P.length cP], .bool true]) (by simp [results, Try.results34, go_sem, q0, q1, q2, q3, q4, q5]) rfl ?_
          rw [HER.out, HO.out, H3.out, if_pos rfl]
          exact FB.out
set_option maxRecDepth 100000 in
set_option maxHeartbeats 4000000 in
theorem implTch_any {B : Nat} (A : Option Addr) (n c : Nat) (t : List (List Int)) (pl : Int) (w : World) (hr : Rows2 B w A n t) (hB : B ≤ w.heap.size) (hs : ∀ zs ∈ t, zs.length ≤ 1048576) (hnc : n ≤ c) (hn9 : n ≤ 1048576) :
    Calls Try.prog 35 #[.slice A n c, .int .i64 pl] w (MadeCB w.heap.size (tchR t pl) (tchOk t pl) w) := by
  have hl := hr.len
  have hn := hr.le
  obtain ⟨w1, hw1⟩ : ∃ w1, w1 = w.alloc (.cells #[.int .i64 0, .int .i64 0, .int .i64 0, .int .i64 0, nilV, nilV] 40) := ⟨_, rfl⟩
  have bel : Below w.heap.size w w1 := by rw [hw1]; exact (Below.refl _ w).alloc (Nat.le_refl _) _
  have b1 : Blk w1 w.heap.size #[.int .i64 0, .int .i64 0, .int .i64 0, .int .i64 0, nilV, nilV] 40 := by rw [hw1]; exact Blk.new _ _ _
  have r1 := hr.below (bel.mono hB)
  have BEL := Lib.hid bel
  have B1 := Lib.hid b1
  have R1 := Lib.hid r1
  have LT1 := Lib.hid b1.lt
  have HS := Lib.hid hs
  clear bel b1 r1 hr
  have CQ := implIsQ_any A n c t w1 R1.out (Nat.le_trans hB BEL.out.size)
  rcases hq : isQ t with _ | _
  · rw [hq] at CQ
    have HO : Hid (tchOk t pl = false) := Lib.hid (by unfold tchOk; rw [hq]; rfl)
    clear hq hl
    go_enter Try.func35, Try.ntmps35
    go_wp2_with fail
    rw [← hw1]
    have HW1 := Lib.hid hw1
    clear hw1
    (go_at_call 45; (with_reducible refine (CQ).mono ?_); rintro e wq ⟨rfl, hbq⟩)
    have BQ : Hid (Blk wq w.heap.size #[.int .i64 0, .int .i64 0, .int .i64 0, .int .i64 0, nilV, nilV] 40) := Lib.hid (B1.out.below hbq LT1.out)
    have BELQ : Hid (Below w.heap.size w wq) := Lib.hid (BEL.out.trans (hbq.mono BEL.out.size))
    have LTQ : Hid (w.heap.size < wq.heap.size) := Lib.hid BQ.out.lt
    have RQ : Hid (Rows2 B wq A n t) := Lib.hid (R1.out.below (hbq.mono (Nat.le_trans hB BEL.out.size)))
    clear hbq CQ
    have e0 := BQ.out.cell 0
    have f0 := BQ.out.frozen 0
    have e1 := BQ.out.cell 1
    have f1 := BQ.out.frozen 1
    have e2 := BQ.out.cell 2
    have f2 := BQ.out.frozen 2
    have e3 := BQ.out.cell 3
    have f3 := BQ.out.frozen 3
    have e4 := BQ.out.cell 4
    have f4 := BQ.out.frozen 4
    have e5 := BQ.out.cell 5
    have f5 := BQ.out.frozen 5
    go_wp2_with fail
    have q : Blk (six wq w.heap.size (.int .i64 0) (.int .i64 0) (.int .i64 0) (.int .i64 0) nilV nilV) w.heap.size #[.int .i64 0, .int .i64 0, .int .i64 0, .int .i64 0, nilV, nilV] 40 := six_blk BQ.out _ _ _ _ _ _
    have FB : Hid (Below w.heap.size w (six wq w.heap.size (.int .i64 0) (.int .i64 0) (.int .i64 0) (.int .i64 0) nilV nilV)) := Lib.hid (six_below BELQ.out (Nat.le_refl _) _ _ _ _ _ _)
    obtain ⟨w8, hw8⟩ : ∃ w8, w8 = six wq w.heap.size (.int .i64 0) (.int .i64 0) (.int .i64 0) (.int .i64 0) nilV nilV := ⟨_, rfl⟩
    rw [← hw8] at q FB
    unfold six at hw8
    rw [← hw8]
    have q0 := q.cell 0
    have q1 := q.cell 1
    have q2 := q.cell 2
    have q3 := q.cell 3
    have q4 := q.cell 4
    have q5 := q.cell 5
    refine bodyPost_ret (v := .tuple #[.agg #[.int .i64 0, .int .i64 0, .int .i64 0, .int .i64 0, .slice none 0 0, .slice none 0 0], .bool false]) (by simp [results, Try.results35, go_sem, q0, q1, q2, q3, q4, q5]) rfl ?_
    rw [tchR_no HO.out, HO.out]
    exact madeC_zero FB.out
  · rw [hq] at CQ
    rw [(tchR_even hq).1, (tchR_even hq).2]
    obtain ⟨r, hre⟩ : ∃ r, r = evenR t pl 0 0 := ⟨_, rfl⟩
    obtain ⟨ok, hok⟩ : ∃ ok, ok = evenOk t pl 0 0 := ⟨_, rfl⟩
    rw [← hre, ← hok]
    have HRE := Lib.hid hre
    have HOK := Lib.hid hok
    clear hq hl hre hok
    go_enter Try.func35, Try.ntmps35
    go_wp2_with fail
    rw [← hw1]
    have HW1 := Lib.hid hw1
    clear hw1
    (go_at_call 45; (with_reducible refine (CQ).mono ?_); rintro e wq ⟨rfl, hbq⟩)
    have BQ : Hid (Blk wq w.heap.size #[.int .i64 0, .int .i64 0, .int .i64 0, .int .i64 0, nilV, nilV] 40) := Lib.hid (B1.out.below hbq LT1.out)
    have BELQ : Hid (Below w.heap.size w wq) := Lib.hid (BEL.out.trans (hbq.mono BEL.out.size))
    have LTQ : Hid (w.heap.size < wq.heap.size) := Lib.hid BQ.out.lt
    have RQ : Hid (Rows2 B wq A n t) := Lib.hid (R1.out.below (hbq.mono (Nat.le_trans hB BEL.out.size)))
    clear hbq CQ
    have CE : Calls Try.prog 67 #[.slice A n c, .int .i64 pl, .int .i64 0, .int .i64 0] wq (MadeCB wq.heap.size r ok wq) := by
      rw [HRE.out, HOK.out]
      exact implEven_any A n c t pl 0 0 wq RQ.out (Nat.le_trans hB BELQ.out.size) HS.out hnc hn9
    go_wp2_with fail
    (go_at_call 67; (with_reducible refine (CE).mono ?_); rintro e w2 ⟨AT, cT, AP, cP, M, LL, rfl, ho, be⟩)
    have d2 : Blk w2 w.heap.size #[.int .i64 0, .int .i64 0, .int .i64 0, .int .i64 0, nilV, nilV] 40 := BQ.out.below be LTQ.out
    have bl2 : Below w.heap.size w w2 := BELQ.out.trans (be.mono (Nat.le_of_lt LTQ.out))
    have q : Blk (six w2 w.heap.size (.int .i64 r.base) (.int .i64 r.states) (.int .i64 r.start) (.int .i64 r.stop) (.slice AT r.T.length cT) (.slice AP r.P.length cP)) w.heap.size #[.int .i64 r.base, .int .i64 r.states, .int .i64 r.start, .int .i64 r.stop, .slice AT r.T.length cT, .slice AP r.P.length cP] 40 := six_blk d2 _ _ _ _ _ _
    have FB : Hid (MadeCB w.heap.size r ok w (.returned (.tuple #[.agg #[.int .i64 r.base, .int .i64 r.states, .int .i64 r.start, .int .i64 r.stop, .slice AT r.T.length cT, .slice AP r.P.length cP], .bool ok])) (six w2 w.heap.size (.int .i64 r.base) (.int .i64 r.states) (.int .i64 r.start) (.int .i64 r.stop) (.slice AT r.T.length cT) (.slice AP r.P.length cP))) := Lib.hid ⟨AT, cT, AP, cP, M, LL, rfl, (ho.keep fun g hg _ => six_heap _ _ _ _ _ _ _ _ (by have := LTQ.out; omega)).lower (Nat.le_of_lt LTQ.out), six_below bl2 (Nat.le_refl _) _ _ _ _ _ _⟩
    have e0 := d2.cell 0
    have f0 := d2.frozen 0
    have e1 := d2.cell 1
    have f1 := d2.frozen 1
    have e2 := d2.cell 2
    have f2 := d2.frozen 2
    have e3 := d2.cell 3
    have f3 := d2.frozen 3
    have e4 := d2.cell 4
    have f4 := d2.frozen 4
    have e5 := d2.cell 5
    have f5 := d2.frozen 5
    clear be bl2 d2 ho CE
    go_wp2_with fail
    obtain ⟨w8, hw8⟩ : ∃ w8, w8 = six w2 w.heap.size (.int .i64 r.base) (.int .i64 r.states) (.int .i64 r.start) (.int .i64 r.stop) (.slice AT r.T.length cT) (.slice AP r.P.length cP) := ⟨_, rfl⟩
    rw [← hw8] at q FB
    unfold six at hw8
    rw [← hw8]
    have q0 := q.cell 0
    have q1 := q.cell 1
    have q2 := q.cell 2
    have q3 := q.cell 3
    have q4 := q.cell 4
    have q5 := q.cell 5
    refine bodyPost_ret (v := .tuple #[.agg #[.int .i64 r.base, .int .i64 r.states, .int .i64 r.start, .int .i64 r.stop, .slice AT r.T.length cT, .slice AP r.P.length cP], .bool ok]) (by simp [results, Try.results35, go_sem, q0, q1, q2, q3, q4, q5]) rfl ?_
    exact FB.out
end Go.Proofs.Ytiokcflomchdcab
