/-
  CountWords, of the model.
-/
import Derived.Test.YteggllmiapdmcaaEnds
import Derived.Test.YteggllmiapdmcaaIs2
namespace Go.Proofs.Yteggllmiapdmcaa
open Go Go.RowKit

def cntV (c : Ch) : Int := match c.ok with | true => ((c.ways c.base.toNat c.P.length c.P.length c.start.toNat : Nat) : Int) | false => 0
theorem cntV_no {c : Ch} (h : c.ok = false) : cntV c = 0 := by unfold cntV; rw [h]
theorem cntV_yes {c : Ch} {b s n e : Nat} (h : c.ok = true) (f : c.Fine b s n) (he : c.start = e) : cntV c = ((c.full b n 0 0 e : Nat) : Int) := by
  unfold cntV Ch.full
  rw [h, if_pos (Nat.zero_le _), f.base, f.len, he]
  rfl
theorem below_of_drewX {B : Nat} {w w' : World} (h : Below w.drew.heap.size w.drew w') (hB : B ≤ w.heap.size) : Below B w w' := (below_of_drew h).mono hB

set_option maxRecDepth 100000 in
set_option maxHeartbeats 4000000 in
theorem specCount_any {B : Nat} (c : Ch) (AT AP : Option Addr) (nT cT nP cP : Nat) (w : World) (hr : ChRows B w c AT nT AP nP) (hB : B ≤ w.heap.size) :
    Calls Try.prog 36 #[chV c AT nT cT AP nP cP] w fun e w' => e = two (cntV c) c.ok ∧ Below w.heap.size w w' := by
  obtain ⟨w1, hw1⟩ : ∃ w1, w1 = w.alloc (.cells (chCells c AT nT cT AP nP cP) 48) := ⟨_, rfl⟩
  have bel : Below w.heap.size w w1 := by rw [hw1]; exact (Below.refl _ w).alloc (Nat.le_refl _) _
  have b1 : Blk w1 w.heap.size (chCells c AT nT cT AP nP cP) 48 := by rw [hw1]; exact Blk.new _ _ _
  have r1 := hr.below (bel.mono hB)
  have CI := l02Is_any c AT AP nT cT nP cP w1 b1 r1
  have BEL := Lib.hid bel
  have B1 := Lib.hid b1
  have R1 := Lib.hid r1
  clear bel b1 r1 hr
  rcases hq : c.ok with _ | _
  · rw [hq] at CI
    have HO := Lib.hid (cntV_no hq)
    clear hq
    go_enter Try.func36, Try.ntmps36
    go_wp2_with fail
    rw [show w.alloc (.cells #[.int .i64 c.base, .int .i64 c.states, .int .i64 c.start, .int .i64 c.stop, .slice AT nT cT, .slice AP nP cP] 48) = w1 from hw1.symm]
    have HW1 := Lib.hid hw1
    clear hw1
    (go_at_call 75; (with_reducible refine (CI).mono ?_); rintro e w2 ⟨rfl, m, rfl⟩)
    go_wp2_with fail
    go_ret2
    exact ⟨two_eq HO.out.symm rfl, below_drewN BEL.out _⟩
  · rw [hq] at CI
    obtain ⟨bs, s, n, f⟩ := Ch.fine hq
    obtain ⟨e, he⟩ : ∃ e : Nat, c.start = e := ⟨c.start.toNat, by have := f.start0; omega⟩
    have hes : e < s := by have := f.start; omega
    have HO := Lib.hid (cntV_yes hq f he)
    have hn20 := f.n20
    have HROW : Hid ((rowOf s (c.full bs n 0) 0)[e]? = some ((c.full bs n 0 0 e : Nat) : Int)) := Lib.hid (by simp [rowOf, hes])
    have F := Lib.hid f
    have HE := Lib.hid he
    clear hq f he
    go_enter Try.func36, Try.ntmps36
    go_wp2_with fail
    rw [show w.alloc (.cells #[.int .i64 c.base, .int .i64 c.states, .int .i64 c.start, .int .i64 c.stop, .slice AT nT cT, .slice AP nP cP] 48) = w1 from hw1.symm]
    have HW1 := Lib.hid hw1
    clear hw1
    (go_at_call 75; (with_reducible refine (CI).mono ?_); rintro e w2 ⟨rfl, m, hw2⟩)
    have B2 : Hid (Blk w2 w.heap.size (chCells c AT nT cT AP nP cP) 48) := Lib.hid (by rw [hw2]; exact B1.out.drewN m)
    have R2 : Hid (ChRows B w2 c AT nT AP nP) := Lib.hid (by rw [hw2]; exact R1.out.drewN m)
    have BEL2 : Hid (Below w.heap.size w w2) := Lib.hid (by rw [hw2]; exact below_drewN BEL.out m)
    have LT2 : Hid (w.heap.size < w2.heap.size) := Lib.hid B2.out.lt
    have CE := l02Ends_any c AT AP nT cT nP cP w2.drew (b := w.heap.size) (B2.out.drewN 1) (R2.out.drewN 1) (Nat.le_trans hB BEL2.out.size) F.out
    unfold EndsPost at CE
    have z2 : w2.drew.cell? ⟨w.heap.size, 2, none⟩ = some (.int .i64 (e : Int)) := by
      have h := B2.out.cell 2
      rw [← HE.out]
      exact h
    clear hw2 CI
    go_wp2_with fail
    refine region_held_n 9 (fun w' => w'.cell? ⟨w.heap.size, 2, none⟩ = some (.int .i64 (e : Int))) (by kernel_rfl) (by kernel_rfl) z2 (fun hS => ?_)
    refine takeD 3 (some 9) (v := ?_) rfl (by kernel_rfl) (by kernel_rfl) (by kernel_rfl) (fun _ _ _ h => h) hS (fun o ho => Or.inl ⟨by cases ho; rfl, ?_⟩) ?_
    rotate_left
    · cases ho
      intro w' hw'
      (try dsimp only at hw')
      go_simp
      (try with_reducible rfl)
    (try simp only [Act.put, List.setIfInBounds_toArray, List.set_cons_zero, List.set_cons_succ])
    refine takeD 4 (some 10) (v := ?_) rfl (by kernel_rfl) (by kernel_rfl) (by kernel_rfl) (fun _ _ _ h => h) hS (fun o ho => Or.inl ⟨by cases ho; rfl, ?_⟩) ?_
    rotate_left
    · cases ho
      intro w' hw'
      (try dsimp only at hw')
      go_simp
      (try with_reducible rfl)
    (try simp only [Act.put, List.setIfInBounds_toArray, List.set_cons_zero, List.set_cons_succ])
    refine oneD 0 (some 6) (by kernel_rfl) rfl (fun o ho K hK hdo => ?_)
    simp only [List.getElem?_toArray, List.getElem?_cons_zero, Option.some.injEq] at ho
    subst ho
    clear hdo
    rw [if_pos (by rfl)]
    go_wp2_with fail
    (go_at_call 76; (with_reducible refine (CE).mono ?_); rintro e W5 ⟨A1, c1, LL, rfl, ho1, be⟩)
    have HB5 : Hid (Below w.heap.size w W5) := Lib.hid (BEL2.out.trans (below_of_drewX be BEL2.out.size))
    have hS5 : W5.cell? ⟨w.heap.size, 2, none⟩ = some (.int .i64 (e : Int)) := (be.cell (p := ⟨w.heap.size, 2, none⟩) LT2.out).trans z2
    obtain ⟨g0, g, cr, rfl, _, q1, q2, _, _, _, _, hx⟩ := Own2.cells ho1 (j := 0) (x := e) (grid_row (by omega)) HROW.out
    have hx2 : (e : Int) < ((rowOf s (c.full bs n 0) 0).length : Nat) := by omega
    have nn : (0 : Int) < ((n + 1 : Nat) : Int) := by omega
    generalize (rowOf s (c.full bs n 0) 0).length = rl at *
    generalize n + 1 = n1 at *
    have q1' : W5.cell? ⟨g0, 0, none⟩ = some (.slice (some ⟨g, 0, none⟩) rl cr) := q1
    clear ho1 be q1
    refine hK.out _ _ ?_ (fun hS => ?_)
    · exact hS5
    clear hK K
    (try simp only [Act.put, List.setIfInBounds_toArray, List.set_cons_zero, List.set_cons_succ])
    refine oneD 1 (some 7) (by kernel_rfl) rfl (fun o ho K hK hdo => ?_)
    simp only [List.getElem?_toArray, List.getElem?_cons_succ, List.getElem?_cons_zero, Option.some.injEq] at ho
    subst ho
    clear hdo
    rw [if_pos (by rfl)]
    go_wp2_with fail
    refine hK.out _ _ ?_ (fun hS => ?_)
    · exact hS5
    clear hK K
    (try simp only [Act.put, List.setIfInBounds_toArray, List.set_cons_zero, List.set_cons_succ])
    refine oneD 2 (some 8) (by kernel_rfl) rfl (fun o ho K hK hdo => ?_)
    simp only [List.getElem?_toArray, List.getElem?_cons_succ, List.getElem?_cons_zero, Option.some.injEq] at ho
    subst ho
    clear hdo
    rw [if_pos (by rfl)]
    go_wp2_with fail
    refine hK.out _ _ ?_ (fun hS => ?_)
    · exact hS5
    clear hK K
    (try simp only [Act.put, List.setIfInBounds_toArray, List.set_cons_zero, List.set_cons_succ])
    refine oneD 5 (some 11) (by kernel_rfl) rfl (fun o ho K hK hdo => ?_)
    simp only [List.getElem?_toArray, List.getElem?_cons_succ, List.getElem?_cons_zero, Option.some.injEq] at ho
    subst ho
    clear hdo
    rw [if_pos (by rfl)]
    go_wp2_with fail
    refine hK.out _ _ ?_ (fun hS => ?_)
    · exact hS5
    clear hK K
    (try simp only [Act.put, List.setIfInBounds_toArray, List.set_cons_zero, List.set_cons_succ])
    refine oneD 6 (some 12) (by kernel_rfl) rfl (fun o ho K hK hdo => ?_)
    simp only [List.getElem?_toArray, List.getElem?_cons_succ, List.getElem?_cons_zero, Option.some.injEq] at ho
    subst ho
    clear hdo
    rw [if_pos (by rfl)]
    go_wp2_with fail
    refine hK.out _ _ ?_ (fun hS => ?_)
    · exact hS5
    clear hK K
    (try simp only [Act.put, List.setIfInBounds_toArray, List.set_cons_zero, List.set_cons_succ])
    refine takeD 7 (some 2) (v := ?_) rfl (by kernel_rfl) (by kernel_rfl) (by kernel_rfl) (fun _ _ _ h => h) hS (fun o ho => Or.inl ⟨by cases ho; rfl, ?_⟩) ?_
    rotate_left
    · cases ho
      intro w' hw'
      (try dsimp only at hw')
      go_simp
      (try with_reducible rfl)
    (try simp only [Act.put, List.setIfInBounds_toArray, List.set_cons_zero, List.set_cons_succ])
    refine takeD 8 (some 3) (v := ?_) rfl (by kernel_rfl) (by kernel_rfl) (by kernel_rfl) (fun _ _ _ h => h) hS (fun o ho => Or.inl ⟨by cases ho; rfl, ?_⟩) ?_
    rotate_left
    · cases ho
      intro w' hw'
      (try dsimp only at hw')
      go_simp
      (try with_reducible rfl)
    (try simp only [Act.put, List.setIfInBounds_toArray, List.set_cons_zero, List.set_cons_succ])
    refine wpAnyH_done (by kernel_rfl) ?_ _
    clear hS
    go_wp2_with fail
    go_ret2
    exact ⟨two_eq HO.out.symm rfl, HB5.out⟩
end Go.Proofs.Yteggllmiapdmcaa
