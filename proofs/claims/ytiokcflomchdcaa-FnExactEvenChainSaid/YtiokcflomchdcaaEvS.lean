/-
  EvenChain, of the model.
-/
import Derived.Test.YtiokcflomchdcaaEven
import Derived.Test.YtiokcflomchdcaaIs2
namespace Go.Proofs.Ytiokcflomchdcaa
open Go.RowKit

def evenOk (t : List (List Int)) (pl start stop : Int) : Bool := inB pl 1 20 && (inB t.length 1 36 && (EvenC t pl.toNat start stop).ok)
def evenR (t : List (List Int)) (pl start stop : Int) : Ch := if evenOk t pl start stop = true then EvenC t pl.toNat start stop else zeroC
theorem evenR_yes {t : List (List Int)} {pl start stop : Int} (h : evenOk t pl start stop = true) : evenR t pl start stop = EvenC t pl.toNat start stop := by simp [evenR, h]
theorem evenR_no {t : List (List Int)} {pl start stop : Int} (h : evenOk t pl start stop = false) : evenR t pl start stop = zeroC := by simp [evenR, h]

set_option maxRecDepth 100000 in
set_option maxHeartbeats 4000000 in
theorem specEven_any {B : Nat} (A : Option Addr) (n c : Nat) (t : List (List Int)) (pl start stop : Int) (w : World) (hr : Rows2 B w A n t) (hB : B ≤ w.heap.size) (hs : ∀ zs ∈ t, zs.length ≤ 1048576) :
    Calls Try.prog 41 #[.slice A n c, .int .i64 pl, .int .i64 start, .int .i64 stop] w (MadeCB w.heap.size (evenR t pl start stop) (evenOk t pl start stop) w) := by
  have hl := hr.len
  have hn := hr.le
  obtain ⟨w1, hw1⟩ : ∃ w1, w1 = w.alloc (.cells #[.int .i64 0, .int .i64 0, .int .i64 0, .int .i64 0, nilV, nilV] 32) := ⟨_, rfl⟩
  have bel : Below w.heap.size w w1 := by rw [hw1]; exact (Below.refl _ w).alloc (Nat.le_refl _) _
  have b1 : Blk w1 w.heap.size #[.int .i64 0, .int .i64 0, .int .i64 0, .int .i64 0, nilV, nilV] 32 := by rw [hw1]; exact Blk.new _ _ _
  have r1 := hr.below (bel.mono hB)
  have BEL := Lib.hid bel
  have B1 := Lib.hid b1
  have R1 := Lib.hid r1
  have LT1 := Lib.hid b1.lt
  clear bel b1 r1 hr
  rcases h1 : inB pl 1 20 with _ | _
  · have C1 : ∀ W, Calls Try.prog 80 #[.int .i64 pl, .int .i64 1, .int .i64 20] W fun e w' => e = .returned (.bool false) ∧ W = w' := fun W => by rw [← h1]; exact l00In_any _ _ _ W
    have HO : Hid (evenOk t pl start stop = false) := Lib.hid (by unfold evenOk; rw [h1]; rfl)
    clear h1 hl
    go_enter Try.func41, Try.ntmps41
    go_wp2_with fail
    rw [← hw1]
    have HW1 := Lib.hid hw1
    clear hw1
    (go_at_call 80; (with_reducible refine (C1 _).mono ?_); rintro e w' ⟨rfl, rfl⟩)
    have e0 := B1.out.cell 0
    have f0 := B1.out.frozen 0
    have e1 := B1.out.cell 1
    have f1 := B1.out.frozen 1
    have e2 := B1.out.cell 2
    have f2 := B1.out.frozen 2
    have e3 := B1.out.cell 3
    have f3 := B1.out.frozen 3
    have e4 := B1.out.cell 4
    have f4 := B1.out.frozen 4
    have e5 := B1.out.cell 5
    have f5 := B1.out.frozen 5
    go_wp2_with fail
    have q : Blk (six w1 w.heap.size (.int .i64 0) (.int .i64 0) (.int .i64 0) (.int .i64 0) nilV nilV) w.heap.size #[.int .i64 0, .int .i64 0, .int .i64 0, .int .i64 0, nilV, nilV] 32 := six_blk B1.out _ _ _ _ _ _
    have FB : Hid (Below w.heap.size w (six w1 w.heap.size (.int .i64 0) (.int .i64 0) (.int .i64 0) (.int .i64 0) nilV nilV)) := Lib.hid (six_below BEL.out (Nat.le_refl _) _ _ _ _ _ _)
    obtain ⟨w8, hw8⟩ : ∃ w8, w8 = six w1 w.heap.size (.int .i64 0) (.int .i64 0) (.int .i64 0) (.int .i64 0) nilV nilV := ⟨_, rfl⟩
    rw [← hw8] at q FB
    unfold six at hw8
    rw [← hw8]
    have q0 := q.cell 0
    have q1 := q.cell 1
    have q2 := q.cell 2
    have q3 := q.cell 3
    have q4 := q.cell 4
    have q5 := q.cell 5
    refine bodyPost_ret (v := .tuple #[.agg #[.int .i64 0, .int .i64 0, .int .i64 0, .int .i64 0, .slice none 0 0, .slice none 0 0], .bool false]) (by simp [results, Try.results41, go_sem, q0, q1, q2, q3, q4, q5]) rfl ?_
    have EO := HO.out
    rw [EO, evenR_no EO]
    exact madeC_zero FB.out
  · have C1 : ∀ W, Calls Try.prog 80 #[.int .i64 pl, .int .i64 1, .int .i64 20] W fun e w' => e = .returned (.bool true) ∧ W = w' := fun W => by rw [← h1]; exact l00In_any _ _ _ W
    have hp := inB_true.1 h1
    have H1 := Lib.hid h1
    clear h1
    rcases h2 : inB n 1 36 with _ | _
    · have C2 : ∀ W, Calls Try.prog 80 #[.int .i64 n, .int .i64 1, .int .i64 36] W fun e w' => e = .returned (.bool false) ∧ W = w' := fun W => by rw [← h2]; exact l00In_any _ _ _ W
      have HO : Hid (evenOk t pl start stop = false) := Lib.hid (by unfold evenOk; rw [H1.out, hl, h2]; rfl)
      clear h2 hl
      go_enter Try.func41, Try.ntmps41
      go_wp2_with fail
      rw [← hw1]
      have HW1 := Lib.hid hw1
      clear hw1
      (go_at_call 80; (with_reducible refine (C1 _).mono ?_); rintro e w' ⟨rfl, rfl⟩)
      go_wp2_with fail
      (go_at_call 80; (with_reducible refine (C2 _).mono ?_); rintro e w' ⟨rfl, rfl⟩)
      have e0 := B1.out.cell 0
      have f0 := B1.out.frozen 0
      have e1 := B1.out.cell 1
      have f1 := B1.out.frozen 1
      have e2 := B1.out.cell 2
      have f2 := B1.out.frozen 2
      have e3 := B1.out.cell 3
      have f3 := B1.out.frozen 3
      have e4 := B1.out.cell 4
      have f4 := B1.out.frozen 4
      have e5 := B1.out.cell 5
      have f5 := B1.out.frozen 5
      go_wp2_with fail
      have q : Blk (six w1 w.heap.size (.int .i64 0) (.int .i64 0) (.int .i64 0) (.int .i64 0) nilV nilV) w.heap.size #[.int .i64 0, .int .i64 0, .int .i64 0, .int .i64 0, nilV, nilV] 32 := six_blk B1.out _ _ _ _ _ _
      have FB : Hid (Below w.heap.size w (six w1 w.heap.size (.int .i64 0) (.int .i64 0) (.int .i64 0) (.int .i64 0) nilV nilV)) := Lib.hid (six_below BEL.out (Nat.le_refl _) _ _ _ _ _ _)
      obtain ⟨w8, hw8⟩ : ∃ w8, w8 = six w1 w.heap.size (.int .i64 0) (.int .i64 0) (.int .i64 0) (.int .i64 0) nilV nilV := ⟨_, rfl⟩
      rw [← hw8] at q FB
      unfold six at hw8
      rw [← hw8]
      have q0 := q.cell 0
      have q1 := q.cell 1
      have q2 := q.cell 2
      have q3 := q.cell 3
      have q4 := q.cell 4
      have q5 := q.cell 5
      refine bodyPost_ret (v := .tuple #[.agg #[.int .i64 0, .int .i64 0, .int .i64 0, .int .i64 0, .slice none 0 0, .slice none 0 0], .bool false]) (by simp [results, Try.results41, go_sem, q0, q1, q2, q3, q4, q5]) rfl ?_
      have EO := HO.out
      rw [EO, evenR_no EO]
      exact madeC_zero FB.out
    · have C2 : ∀ W, Calls Try.prog 80 #[.int .i64 n, .int .i64 1, .int .i64 36] W fun e w' => e = .returned (.bool true) ∧ W = w' := fun W => by rw [← h2]; exact l00In_any _ _ _ W
      have hn36 := inB_true.1 h2
      have H2 := Lib.hid h2
      clear h2
      obtain ⟨pn, hpn⟩ : ∃ pn : Nat, pl = pn := ⟨pl.toNat, by omega⟩
      subst hpn
      have CE := l02Even_any A n c pn start stop t w1 R1.out (Nat.le_trans hB BEL.out.size) (by omega) (by omega) (by omega) hs
      obtain ⟨ec, hec⟩ : ∃ ec, ec = EvenC t pn start stop := ⟨_, rfl⟩
      rw [← hec] at CE
      have hOK : evenOk t pn start stop = ec.ok := by unfold evenOk; rw [H1.out, hl, H2.out, hec]; simp
      have hER : evenR t pn start stop = if ec.ok = true then ec else zeroC := by unfold evenR; rw [hOK, hec]; simp
      have HOK := Lib.hid hOK
      have HER := Lib.hid hER
      clear hec hOK hER
      go_enter Try.func41, Try.ntmps41
      go_wp2_with fail
      rw [← hw1]
      have HW1 := Lib.hid hw1
      clear hw1
      (go_at_call 80; (with_reducible refine (C1 _).mono ?_); rintro e w' ⟨rfl, rfl⟩)
      go_wp2_with fail
      (go_at_call 80; (with_reducible refine (C2 _).mono ?_); rintro e w' ⟨rfl, rfl⟩)
      go_wp2_with fail
      (go_at_call 100; (with_reducible refine (CE).mono ?_); rintro e w2 ⟨AT, cT, AP, cP, M, LL, rfl, ho, be⟩)
      obtain ⟨w3, hw3⟩ : ∃ w3, w3 = w2.alloc (.cells (chCells ec AT ec.T.length cT AP ec.P.length cP) 32) := ⟨_, rfl⟩
      have be3 : Below w2.heap.size w2 w3 := by rw [hw3]; exact (Below.refl _ w2).alloc (Nat.le_refl _) _
      have c3 : Blk w3 w2.heap.size (chCells ec AT ec.T.length cT AP ec.P.length cP) 32 := by rw [hw3]; exact Blk.new _ _ _
      have o3 := ho.below be3
      have d3 := (B1.out.below be LT1.out).below be3 (Nat.lt_of_lt_of_le LT1.out be.size)
      have bl3 : Below w.heap.size w w3 := (BEL.out.trans (be.mono (Nat.le_of_lt LT1.out))).trans (be3.mono (Nat.le_trans (Nat.le_of_lt LT1.out) be.size))
      have lt3 : w.heap.size < w2.heap.size := Nat.lt_of_lt_of_le LT1.out be.size
      have CI := l02Is_any ec AT AP ec.T.length cT ec.P.length cP w3 c3 o3.rows
      have C3 := Lib.hid c3
      have O3 := Lib.hid o3
      have D3 := Lib.hid d3
      have BL3 := Lib.hid bl3
      clear be be3 c3 o3 d3 bl3 ho CE C1 C2
      go_wp2_with fail
      rw [show w2.alloc (.cells #[.int .i64 ec.base, .int .i64 ec.states, .int .i64 ec.start, .int .i64 ec.stop, .slice AT ec.T.length cT, .slice AP ec.P.length cP] 32) = w3 from hw3.symm]
      have HW3 := Lib.hid hw3
      clear hw3
      rcases h3 : ec.ok with _ | _
      · rw [h3] at CI
        have HO : Hid (evenOk t pn start stop = false) := Lib.hid (by rw [HOK.out, h3])
        clear h3
        (go_at_call 85; (with_reducible refine (CI).mono ?_); rintro e w4 ⟨rfl, m, hw4⟩)
        have d4 : Blk w4 w.heap.size #[.int .i64 0, .int .i64 0, .int .i64 0, .int .i64 0, nilV, nilV] 32 := by rw [hw4]; exact D3.out.drewN m
        have bl4 : Below w.heap.size w w4 := by rw [hw4]; exact below_drewN BL3.out m
        have D4 := Lib.hid d4
        have BL4 := Lib.hid bl4
        clear d4 bl4 hw4 CI
        have e0 := D4.out.cell 0
        have f0 := D4.out.frozen 0
        have e1 := D4.out.cell 1
        have f1 := D4.out.frozen 1
        have e2 := D4.out.cell 2
        have f2 := D4.out.frozen 2
        have e3 := D4.out.cell 3
        have f3 := D4.out.frozen 3
        have e4 := D4.out.cell 4
        have f4 := D4.out.frozen 4
        have e5 := D4.out.cell 5
        have f5 := D4.out.frozen 5
        go_wp2_with fail
        have q : Blk (six w4 w.heap.size (.int .i64 0) (.int .i64 0) (.int .i64 0) (.int .i64 0) nilV nilV) w.heap.size #[.int .i64 0, .int .i64 0, .int .i64 0, .int .i64 0, nilV, nilV] 32 := six_blk D4.out _ _ _ _ _ _
        have FB : Hid (Below w.heap.size w (six w4 w.heap.size (.int .i64 0) (.int .i64 0) (.int .i64 0) (.int .i64 0) nilV nilV)) := Lib.hid (six_below BL4.out (Nat.le_refl _) _ _ _ _ _ _)
        obtain ⟨w8, hw8⟩ : ∃ w8, w8 = six w4 w.heap.size (.int .i64 0) (.int .i64 0) (.int .i64 0) (.int .i64 0) nilV nilV := ⟨_, rfl⟩
        rw [← hw8] at q FB
        unfold six at hw8
        rw [← hw8]
        have q0 := q.cell 0
        have q1 := q.cell 1
        have q2 := q.cell 2
        have q3 := q.cell 3
        have q4 := q.cell 4
        have q5 := q.cell 5
        refine bodyPost_ret (v := .tuple #[.agg #[.int .i64 0, .int .i64 0, .int .i64 0, .int .i64 0, .slice none 0 0, .slice none 0 0], .bool false]) (by simp [results, Try.results41, go_sem, q0, q1, q2, q3, q4, q5]) rfl ?_
        have EO := HO.out
        rw [EO, evenR_no EO]
        exact madeC_zero FB.out
      · rw [h3] at CI
        have HO : Hid (evenOk t pn start stop = true) := Lib.hid (by rw [HOK.out, h3])
        have H3 := Lib.hid h3
        clear h3
        (go_at_call 85; (with_reducible refine (CI).mono ?_); rintro e w4 ⟨rfl, m, hw4⟩)
        have d4 : Blk w4 w.heap.size #[.int .i64 0, .int .i64 0, .int .i64 0, .int .i64 0, nilV, nilV] 32 := by rw [hw4]; exact D3.out.drewN m
        have bl4 : Below w.heap.size w w4 := by rw [hw4]; exact below_drewN BL3.out m
        have c4 : Blk w4 w2.heap.size (chCells ec AT ec.T.length cT AP ec.P.length cP) 32 := by rw [hw4]; exact C3.out.drewN m
        have o4 : OwnC w1.heap.size w4 ec AT ec.T.length cT AP ec.P.length cP M LL := by rw [hw4]; exact O3.out.keep fun _ _ _ => rfl
        have q : Blk (six w4 w.heap.size (.int .i64 ec.base) (.int .i64 ec.states) (.int .i64 ec.start) (.int .i64 ec.stop) (.slice AT ec.T.length cT) (.slice AP ec.P.length cP)) w.heap.size #[.int .i64 ec.base, .int .i64 ec.states, .int .i64 ec.start, .int .i64 ec.stop, .slice AT ec.T.length cT, .slice AP ec.P.length cP] 32 := six_blk d4 _ _ _ _ _ _
        have FB : Hid (MadeCB w.heap.size ec true w (.returned (.tuple #[.agg #[.int .i64 ec.base, .int .i64 ec.states, .int .i64 ec.start, .int .i64 ec.stop, .slice AT ec.T.length cT, .slice AP ec.P.length cP], .bool true])) (six w4 w.heap.size (.int .i64 ec.base) (.int .i64 ec.states) (.int .i64 ec.start) (.int .i64 ec.stop) (.slice AT ec.T.length cT) (.slice AP ec.P.length cP))) := Lib.hid ⟨AT, cT, AP, cP, M, LL, rfl, (o4.keep fun g hg _ => six_heap _ _ _ _ _ _ _ _ (by have := LT1.out; omega)).lower BEL.out.size, six_below bl4 (Nat.le_refl _) _ _ _ _ _ _⟩
        have k0 := c4.cell 0
        have k1 := c4.cell 1
        have k2 := c4.cell 2
        have k3 := c4.cell 3
        have k4 := c4.cell 4
        have k5 := c4.cell 5
        have e0 := d4.cell 0
        have f0 := d4.frozen 0
        have e1 := d4.cell 1
        have f1 := d4.frozen 1
        have e2 := d4.cell 2
        have f2 := d4.frozen 2
        have e3 := d4.cell 3
        have f3 := d4.frozen 3
        have e4 := d4.cell 4
        have f4 := d4.frozen 4
        have e5 := d4.cell 5
        have f5 := d4.frozen 5
        have hne : w.heap.size ≠ w2.heap.size := by omega
        clear CI hw4 d4 bl4 c4 o4
        go_wp2_with fail
        obtain ⟨w8, hw8⟩ : ∃ w8, w8 = six w4 w.heap.size (.int .i64 ec.base) (.int .i64 ec.states) (.int .i64 ec.start) (.int .i64 ec.stop) (.slice AT ec.T.length cT) (.slice AP ec.P.length cP) := ⟨_, rfl⟩
        rw [← hw8] at q FB
        unfold six at hw8
        rw [← hw8]
        have q0 := q.cell 0
        have q1 := q.cell 1
        have q2 := q.cell 2
        have q3 := q.cell 3
        have q4 := q.cell 4
        have q5 := q.cell 5
        refine bodyPost_ret (v := .tuple #[.agg #[.int .i64 ec.base, .int .i64 ec.states, .int .i64 ec.start, .int .i64 ec.stop, .slice AT ec.T.length cT, .slice AP ec.P.length cP], .bool true]) (by simp [results, Try.results41, go_sem, q0, q1, q2, q3, q4, q5]) rfl ?_
        rw [HER.out, HO.out, H3.out, if_pos rfl]
        exact FB.out
end Go.Proofs.Ytiokcflomchdcaa
