/-
  CountWords, of the program.
-/
import Derived.Test.YteggllmiapdmcaaEndW
import Derived.Test.YteggllmiapdmcaaCntS
import Derived.Test.YteggllmiapdmcaaValid
namespace Go.Proofs.Yteggllmiapdmcaa
open Go Go.RowKit

set_option maxRecDepth 100000 in
set_option maxHeartbeats 4000000 in
theorem implCount_any {B : Nat} (c : Ch) (AT AP : Option Addr) (nT cT nP cP : Nat) (w : World) (hr : ChRows B w c AT nT AP nP) (hB : B ≤ w.heap.size) :
    Calls Try.prog 38 #[chV c AT nT cT AP nP cP] w fun e w' => e = two (cntV c) c.ok ∧ Below w.heap.size w w' := by
  obtain ⟨w1, hw1⟩ : ∃ w1, w1 = w.alloc (.cells (chCells c AT nT cT AP nP cP) 48) := ⟨_, rfl⟩
  have bel : Below w.heap.size w w1 := by rw [hw1]; exact (Below.refl _ w).alloc (Nat.le_refl _) _
  have b1 : Blk w1 w.heap.size (chCells c AT nT cT AP nP cP) 48 := by rw [hw1]; exact Blk.new _ _ _
  have r1 := hr.below (bel.mono hB)
  have CV := implValid_any c AT AP nT cT nP cP w1 r1 (Nat.le_trans hB bel.size)
  have BEL := Lib.hid bel
  have B1 := Lib.hid b1
  have R1 := Lib.hid r1
  have q0 := b1.cell 0
  have q1 := b1.cell 1
  have q2 := b1.cell 2
  have q3 := b1.cell 3
  have q4 := b1.cell 4
  have q5 := b1.cell 5
  clear bel b1 r1 hr
  rcases hq : c.ok with _ | _
  · rw [hq] at CV
    have HO := Lib.hid (cntV_no hq)
    clear hq
    go_enter Try.func38, Try.ntmps38
    go_wp2_with fail
    rw [show w.alloc (.cells #[.int .i64 c.base, .int .i64 c.states, .int .i64 c.start, .int .i64 c.stop, .slice AT nT cT, .slice AP nP cP] 48) = w1 from hw1.symm]
    have HW1 := Lib.hid hw1
    clear hw1
    (go_at_call 79; (with_reducible refine (CV).mono ?_); rintro e w2 ⟨rfl, be2⟩)
    have HB2 := Lib.hid (BEL.out.trans (be2.mono BEL.out.size))
    clear CV q0 q1 q2 q3 q4 q5 be2
    go_wp2_with fail
    go_ret2
    exact ⟨two_eq HO.out.symm rfl, HB2.out⟩
  · rw [hq] at CV
    obtain ⟨bs, s, n, f⟩ := Ch.fine hq
    obtain ⟨e, he⟩ : ∃ e : Nat, c.start = e := ⟨c.start.toNat, by have := f.start0; omega⟩
    have hes : e < s := by have := f.start; omega
    have HO := Lib.hid (cntV_yes hq f he)
    have hn20 := f.n20
    have hs36 := f.s36
    have hs1 := f.s1
    obtain rfl : nP = n := by have := R1.out.2.len; have := f.len; omega
    have hCV : chV c AT nT cT AP nP cP = .agg #[.int .i64 bs, .int .i64 s, .int .i64 e, .int .i64 c.stop, .slice AT nT cT, .slice AP nP cP] := by unfold chV; rw [f.base, f.states, he]
    have hCC : chCells c AT nT cT AP nP cP = #[.int .i64 bs, .int .i64 s, .int .i64 e, .int .i64 c.stop, .slice AT nT cT, .slice AP nP cP] := by unfold chCells; rw [f.base, f.states, he]
    have F := Lib.hid f
    have B1c : Blk w1 w.heap.size #[.int .i64 bs, .int .i64 s, .int .i64 e, .int .i64 c.stop, .slice AT nT cT, .slice AP nP cP] 48 := by have h := B1.out; rw [hCC] at h; exact h
    rw [hCV] at CV ⊢
    rw [hCC] at hw1
    clear hq f he q0 q1 q2 q3 q4 q5
    obtain ⟨q0, q1, q2, q3, q4, q5⟩ := six_cells B1c
    clear B1c
    go_enter Try.func38, Try.ntmps38
    go_wp2_with fail
    rw [show w.alloc (.cells #[.int .i64 bs, .int .i64 s, .int .i64 e, .int .i64 c.stop, .slice AT nT cT, .slice AP nP cP] 48) = w1 from hw1.symm]
    have HW1 := Lib.hid hw1
    clear hw1
    (go_at_call 79; (with_reducible refine (CV).mono ?_); rintro e w2 ⟨rfl, be2⟩)
    have B2 : Hid (Blk w2 w.heap.size #[.int .i64 bs, .int .i64 s, .int .i64 e, .int .i64 c.stop, .slice AT nT cT, .slice AP nP cP] 48) := Lib.hid (by have h := B1.out.below be2 B1.out.lt; rw [hCC] at h; exact h)
    have bel2 : Below w.heap.size w w2 := BEL.out.trans (be2.mono BEL.out.size)
    have R2 : Hid (ChRows B w2 c AT nT AP nP) := Lib.hid (R1.out.below (be2.mono (Nat.le_trans hB BEL.out.size)))
    have BEL2 := Lib.hid bel2
    have LT2 := Lib.hid B2.out.lt
    have CE : ∀ Y, Y = w2.drew → Calls Try.prog 80 #[.agg #[.int .i64 bs, .int .i64 s, .int .i64 e, .int .i64 c.stop, .slice AT nT cT, .slice AP nP cP]] Y fun e' w' => ∃ g, e' = .returned (.agg #[.int .i64 s, .slice (some ⟨g, 0, none⟩) ((nP + 1) * s) ((nP + 1) * s)]) ∧ Own w2.heap.size w' (some ⟨g, 0, none⟩) ((nP + 1) * s) ((nP + 1) * s) (flatE s ((nP + 1) * s) (c.full bs nP 0)) ∧ Below w2.heap.size w2 w' := by
      rintro Y rfl
      have h := endings_any c AT AP nT cT nP cP w2.drew (R2.out.drewN 1) (Nat.le_trans hB BEL2.out.size) F.out
      rw [hCV] at h
      exact h.mono fun e' w' ⟨g, h1, h2, h3⟩ => ⟨g, h1, h2, below_of_drew h3⟩
    have CR : ∀ (g : Nat) Y, Calls Try.prog 81 #[.agg #[.int .i64 s, .slice (some ⟨g, 0, none⟩) ((nP + 1) * s) ((nP + 1) * s)], .int .i64 0] Y fun e' w' => e' = .returned (.slice (some ⟨g, 0, none⟩) s ((nP + 1) * s)) ∧ w' = Y.alloc (.cells #[.int .i64 s, .slice (some ⟨g, 0, none⟩) ((nP + 1) * s) ((nP + 1) * s)] 101) := by
      intro g Y
      have h := gridRow_any g s 0 ((nP + 1) * s) Y hs1 (by omega) (by omega) (row_in (Nat.zero_le _)) (Nat.le_trans (Nat.mul_le_mul (show nP + 1 ≤ 21 by omega) hs36) (by decide))
      rw [Nat.zero_mul, Nat.sub_zero] at h
      exact h
    have hrow := flatE_get (N := (nP + 1) * s) (c.full bs nP 0) (j := 0) (x := e) hes (cell_in (Nat.zero_le _) hes)
    have hlt : e < (nP + 1) * s := by have := cell_in (s := s) (n := nP) (i := 0) (x := e) (Nat.zero_le _) hes; rwa [Nat.zero_mul, Nat.zero_add] at this
    rw [Nat.zero_mul, Nat.zero_add] at hrow
    obtain ⟨N, hN⟩ : ∃ N : Nat, N = (nP + 1) * s := ⟨_, rfl⟩
    rw [← hN] at CE CR hrow hlt
    have HROW := Lib.hid hrow
    have HLT := Lib.hid hlt
    have CR0 := CR
    have e0 : (0 : Int) ≤ (e : Int) := by omega
    have e1 : (e : Int) < (s : Int) := by omega
    obtain ⟨r0, r1, r2, r3, r4, r5⟩ := six_cells B2.out
    clear CV CR hN hrow hlt q0 q1 q2 q3 q4 q5 be2 bel2 hCV hCC
    go_wp2_with fail
    clear r0 r1 r2 r3 r4 r5
    refine region_held_n 9 (fun w' => Blk w' w.heap.size #[.int .i64 bs, .int .i64 s, .int .i64 e, .int .i64 c.stop, .slice AT nT cT, .slice AP nP cP] 48) (by kernel_rfl) (by kernel_rfl) B2.out (fun hS => ?_)
    refine takeD 0 (some 7) (v := ?_) rfl (by kernel_rfl) (by kernel_rfl) (by kernel_rfl) (fun _ _ _ h => h) hS (fun o ho => Or.inl ⟨by cases ho; rfl, ?_⟩) ?_
    rotate_left
    · cases ho
      intro w' hw'
      obtain ⟨q0, q1, q2, q3, q4, q5⟩ := six_cells hw'
      go_simp
      (try with_reducible rfl)
    (try simp only [Act.put, List.setIfInBounds_toArray, List.set_cons_zero, List.set_cons_succ])
    refine takeD 3 (some 10) (v := ?_) rfl (by kernel_rfl) (by kernel_rfl) (by kernel_rfl) (fun _ _ _ h => h) hS (fun o ho => Or.inl ⟨by cases ho; rfl, ?_⟩) ?_
    rotate_left
    · cases ho
      intro w' hw'
      obtain ⟨q0, q1, q2, q3, q4, q5⟩ := six_cells hw'
      go_simp
      (try with_reducible rfl)
    (try simp only [Act.put, List.setIfInBounds_toArray, List.set_cons_zero, List.set_cons_succ])
    refine takeD 4 (some 11) (v := ?_) rfl (by kernel_rfl) (by kernel_rfl) (by kernel_rfl) (fun _ _ _ h => h) hS (fun o ho => Or.inl ⟨by cases ho; rfl, ?_⟩) ?_
    rotate_left
    · cases ho
      intro w' hw'
      obtain ⟨q0, q1, q2, q3, q4, q5⟩ := six_cells hw'
      go_simp
      (try with_reducible rfl)
    (try simp only [Act.put, List.setIfInBounds_toArray, List.set_cons_zero, List.set_cons_succ])
    refine oneD 1 (some 8) (by kernel_rfl) rfl (fun o ho K hK hdo => ?_)
    simp only [List.getElem?_toArray, List.getElem?_cons_succ, List.getElem?_cons_zero, Option.some.injEq] at ho
    subst ho
    clear hdo
    rw [if_pos (by rfl)]
    go_wp2_with fail
    (go_at_call 80; (with_reducible refine (CE _ rfl).mono ?_); rintro e W5 ⟨g, rfl, ho5, be5⟩)
    have hb5 : Below w.heap.size w W5 := BEL2.out.trans (be5.mono BEL2.out.size)
    have HB5 := Lib.hid hb5
    have HO5 := Lib.hid ho5
    clear hb5 ho5
    refine hK.out _ _ ?_ (fun hS => ?_)
    · exact B2.out.below be5 LT2.out
    clear hK K
    (try simp only [Act.put, List.setIfInBounds_toArray, List.set_cons_zero, List.set_cons_succ])
    refine oneD 2 (some 9) (by kernel_rfl) rfl (fun o ho K hK hdo => ?_)
    simp only [List.getElem?_toArray, List.getElem?_cons_succ, List.getElem?_cons_zero, Option.some.injEq] at ho
    subst ho
    clear hdo
    rw [if_pos (by rfl)]
    go_wp2_with fail
    (go_at_call 81; (with_reducible refine (CR0 g _).mono ?_); rintro e W6 ⟨rfl, rfl⟩)
    have own6 := HO5.out.below ((Below.refl _ W5).alloc (Nat.le_refl _) (.cells #[.int .i64 s, .slice (some ⟨g, 0, none⟩) N N] 101))
    obtain ⟨z1, _, _⟩ := own6.cellE HLT.out
    rw [HROW.out] at z1
    simp only [Option.getD_some] at z1
    have bel6 : Hid (Below w.heap.size w (W5.alloc (.cells #[.int .i64 s, .slice (some ⟨g, 0, none⟩) N N] 101))) := Lib.hid (HB5.out.alloc HB5.out.size _)
    clear own6
    refine hK.out _ _ ?_ (fun hS => ?_)
    · exact hS.alloc _
    clear hK K
    (try simp only [Act.put, List.setIfInBounds_toArray, List.set_cons_zero, List.set_cons_succ])
    refine oneD 5 (some 12) (by kernel_rfl) rfl (fun o ho K hK hdo => ?_)
    simp only [List.getElem?_toArray, List.getElem?_cons_succ, List.getElem?_cons_zero, Option.some.injEq] at ho
    subst ho
    clear hdo
    rw [if_pos (by rfl)]
    go_wp2_with fail
    refine hK.out _ _ ?_ (fun hS => ?_)
    · exact hS
    clear hK K
    (try simp only [Act.put, List.setIfInBounds_toArray, List.set_cons_zero, List.set_cons_succ])
    refine oneD 6 (some 13) (by kernel_rfl) rfl (fun o ho K hK hdo => ?_)
    simp only [List.getElem?_toArray, List.getElem?_cons_succ, List.getElem?_cons_zero, Option.some.injEq] at ho
    subst ho
    clear hdo
    rw [if_pos (by rfl)]
    go_wp2_with fail
    refine hK.out _ _ ?_ (fun hS => ?_)
    · exact hS
    clear hK K
    (try simp only [Act.put, List.setIfInBounds_toArray, List.set_cons_zero, List.set_cons_succ])
    refine takeD 7 (some 2) (v := ?_) rfl (by kernel_rfl) (by kernel_rfl) (by kernel_rfl) (fun _ _ _ h => h) hS (fun o ho => Or.inl ⟨by cases ho; rfl, ?_⟩) ?_
    rotate_left
    · cases ho
      intro w' hw'
      obtain ⟨q0, q1, q2, q3, q4, q5⟩ := six_cells hw'
      go_simp
      (try with_reducible rfl)
    (try simp only [Act.put, List.setIfInBounds_toArray, List.set_cons_zero, List.set_cons_succ])
    refine takeD 8 (some 3) (v := ?_) rfl (by kernel_rfl) (by kernel_rfl) (by kernel_rfl) (fun _ _ _ h => h) hS (fun o ho => Or.inl ⟨by cases ho; rfl, ?_⟩) ?_
    rotate_left
    · cases ho
      intro w' hw'
      obtain ⟨q0, q1, q2, q3, q4, q5⟩ := six_cells hw'
      go_simp
      (try with_reducible rfl)
    (try simp only [Act.put, List.setIfInBounds_toArray, List.set_cons_zero, List.set_cons_succ])
    refine wpAnyH_done (by kernel_rfl) ?_ _
    clear hS
    go_wp2_with fail
    go_ret2
    exact ⟨two_eq HO.out.symm rfl, bel6.out⟩
end Go.Proofs.Yteggllmiapdmcaa
