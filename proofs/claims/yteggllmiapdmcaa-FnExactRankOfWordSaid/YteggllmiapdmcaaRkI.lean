/-
  RankOfWord, of the program.
-/
import Derived.Test.YteggllmiapdmcaaEndW
import Derived.Test.YteggllmiapdmcaaRkM
namespace Go.Proofs.Yteggllmiapdmcaa
open Go Go.RowKit

set_option maxRecDepth 100000 in
set_option maxHeartbeats 8000000 in
theorem implRank_any {B : Nat} (c : Ch) (AT AP : Option Addr) (nT cT nP cP : Nat) (t : ByteArray) (w : World) (hr : ChRows B w c AT nT AP nP) (hB : B ≤ w.heap.size) (ht : t.size ≤ maxLen) :
    Calls Try.prog 41 #[chV c AT nT cT AP nP cP, .string t] w fun e w' => e = two (rkV c t) (c.chk t) ∧ Below w.heap.size w w' := by
  obtain ⟨w1, hw1⟩ : ∃ w1, w1 = w.alloc (.cells (chCells c AT nT cT AP nP cP) 48) := ⟨_, rfl⟩
  have bel : Below w.heap.size w w1 := by rw [hw1]; exact (Below.refl _ w).alloc (Nat.le_refl _) _
  have b1 : Blk w1 w.heap.size (chCells c AT nT cT AP nP cP) 48 := by rw [hw1]; exact Blk.new _ _ _
  have r1 := hr.below (bel.mono hB)
  have CD := digitsOf_any c AT AP nT cT nP cP t w1 r1 (Nat.le_trans hB bel.size) ht
  have BEL := Lib.hid bel
  have B1 := Lib.hid b1
  have R1 := Lib.hid r1
  rcases h1 : c.both t with _ | _
  · have HB := Lib.hid h1
    have HCK : Hid (c.chk t = false) := Lib.hid (by unfold Ch.chk; rw [h1]; rfl)
    have q0 := b1.cell 0
    have q1 := b1.cell 1
    have q2 := b1.cell 2
    have q3 := b1.cell 3
    have q4 := b1.cell 4
    have q5 := b1.cell 5
    clear h1 bel b1 r1 hr
    go_enter Try.func41, Try.ntmps41
    go_wp2_with fail
    rw [← hw1]
    have HW1 := Lib.hid hw1
    clear hw1
    (go_at_call 87; (with_reducible refine (CD).mono ?_); rintro e w2 ⟨A, cd, m, rfl, be2, _⟩)
    rw [HB.out]
    have BEL2 := Lib.hid (BEL.out.trans (be2.mono BEL.out.size))
    clear CD q0 q1 q2 q3 q4 q5 be2
    go_wp2_with fail
    refine region_held_n 12 (fun w' => True) (by kernel_rfl) (by kernel_rfl) trivial (fun hS => ?_)
    refine takeD 0 (some 21) (v := ?_) rfl (by kernel_rfl) (by kernel_rfl) (by kernel_rfl) (fun _ _ _ h => h) hS (fun o ho => Or.inl ⟨by cases ho; rfl, ?_⟩) ?_
    rotate_left
    · cases ho
      intro w' hw'
      skip
      go_simp
      (try with_reducible rfl)
    (try simp only [Act.put, List.setIfInBounds_toArray, List.set_cons_zero, List.set_cons_succ])
    refine takeD 1 (some 22) (v := ?_) rfl (by kernel_rfl) (by kernel_rfl) (by kernel_rfl) (fun _ _ _ h => h) hS (fun o ho => Or.inl ⟨by cases ho; rfl, ?_⟩) ?_
    rotate_left
    · cases ho
      intro w' hw'
      skip
      go_simp
      (try with_reducible rfl)
    (try simp only [Act.put, List.setIfInBounds_toArray, List.set_cons_zero, List.set_cons_succ])
    refine takeD 2 (some 23) (v := ?_) rfl (by kernel_rfl) (by kernel_rfl) (by kernel_rfl) (fun _ _ _ h => h) hS (fun o ho => Or.inl ⟨by cases ho; rfl, ?_⟩) ?_
    rotate_left
    · cases ho
      intro w' hw'
      skip
      go_simp
      (try with_reducible rfl)
    (try simp only [Act.put, List.setIfInBounds_toArray, List.set_cons_zero, List.set_cons_succ])
    refine takeD 3 (some 24) (v := undef) rfl (by kernel_rfl) (by kernel_rfl) (by kernel_rfl) (fun _ _ _ h => h) hS (fun o ho => Or.inr ⟨by cases ho; rfl, rfl⟩) ?_
    (try simp only [Act.put, List.setIfInBounds_toArray, List.set_cons_zero, List.set_cons_succ])
    refine takeD 4 (some 25) (v := undef) rfl (by kernel_rfl) (by kernel_rfl) (by kernel_rfl) (fun _ _ _ h => h) hS (fun o ho => Or.inr ⟨by cases ho; rfl, rfl⟩) ?_
    (try simp only [Act.put, List.setIfInBounds_toArray, List.set_cons_zero, List.set_cons_succ])
    refine takeD 5 (some 26) (v := undef) rfl (by kernel_rfl) (by kernel_rfl) (by kernel_rfl) (fun _ _ _ h => h) hS (fun o ho => Or.inr ⟨by cases ho; rfl, rfl⟩) ?_
    (try simp only [Act.put, List.setIfInBounds_toArray, List.set_cons_zero, List.set_cons_succ])
    refine takeD 6 (some 27) (v := undef) rfl (by kernel_rfl) (by kernel_rfl) (by kernel_rfl) (fun _ _ _ h => h) hS (fun o ho => Or.inr ⟨by cases ho; rfl, rfl⟩) ?_
    (try simp only [Act.put, List.setIfInBounds_toArray, List.set_cons_zero, List.set_cons_succ])
    refine takeD 7 (some 28) (v := undef) rfl (by kernel_rfl) (by kernel_rfl) (by kernel_rfl) (fun _ _ _ h => h) hS (fun o ho => Or.inr ⟨by cases ho; rfl, rfl⟩) ?_
    (try simp only [Act.put, List.setIfInBounds_toArray, List.set_cons_zero, List.set_cons_succ])
    refine takeD 8 (some 29) (v := undef) rfl (by kernel_rfl) (by kernel_rfl) (by kernel_rfl) (fun _ _ _ h => h) hS (fun o ho => Or.inr ⟨by cases ho; rfl, rfl⟩) ?_
    (try simp only [Act.put, List.setIfInBounds_toArray, List.set_cons_zero, List.set_cons_succ])
    refine takeD 9 (some 30) (v := undef) rfl (by kernel_rfl) (by kernel_rfl) (by kernel_rfl) (fun _ _ _ h => h) hS (fun o ho => Or.inr ⟨by cases ho; rfl, rfl⟩) ?_
    (try simp only [Act.put, List.setIfInBounds_toArray, List.set_cons_zero, List.set_cons_succ])
    refine takeD 10 (some 31) (v := undef) rfl (by kernel_rfl) (by kernel_rfl) (by kernel_rfl) (fun _ _ _ h => h) hS (fun o ho => Or.inr ⟨by cases ho; rfl, rfl⟩) ?_
    (try simp only [Act.put, List.setIfInBounds_toArray, List.set_cons_zero, List.set_cons_succ])
    refine takeD 11 (some 32) (v := ?_) rfl (by kernel_rfl) (by kernel_rfl) (by kernel_rfl) (fun _ _ _ h => h) hS (fun o ho => Or.inl ⟨by cases ho; rfl, ?_⟩) ?_
    rotate_left
    · cases ho
      intro w' hw'
      skip
      go_simp
      (try with_reducible rfl)
    (try simp only [Act.put, List.setIfInBounds_toArray, List.set_cons_zero, List.set_cons_succ])
    refine wpAnyH_done (by kernel_rfl) ?_ _
    clear hS
    go_wp2_with fail
    go_ret2
    exact ⟨two_eq (rkV_no HCK.out).symm HCK.out.symm, below_drewN BEL2.out _⟩
  · obtain ⟨hok, hsz, hwd⟩ := both_ok h1
    obtain ⟨bs, s, n, f⟩ := Ch.fine hok
    obtain ⟨x0, hx0⟩ : ∃ x0 : Nat, c.start = x0 := ⟨c.start.toNat, by have := f.start0; omega⟩
    have hxs : x0 < s := by have := f.start; omega
    have htn : t.size = n := by rw [hsz, f.len]
    have hn20 := f.n20
    have hs36 := f.s36
    have hb36 := f.b36
    have hs1 := f.s1
    obtain rfl : nP = n := by have := r1.2.len; have := f.len; omega
    rw [f.base] at hwd
    have HDS := Lib.hid (dn_lt hwd)
    have HDL : Hid ((dn t).length = nP) := Lib.hid (by rw [dn_len, htn])
    have hCV : chV c AT nT cT AP nP cP = .agg #[.int .i64 bs, .int .i64 s, .int .i64 x0, .int .i64 c.stop, .slice AT nT cT, .slice AP nP cP] := by unfold chV; rw [f.base, f.states, hx0]
    have hCC : chCells c AT nT cT AP nP cP = #[.int .i64 bs, .int .i64 s, .int .i64 x0, .int .i64 c.stop, .slice AT nT cT, .slice AP nP cP] := by unfold chCells; rw [f.base, f.states, hx0]
    have HB := Lib.hid h1
    have hled : c.led t = c.run 0 x0 (dn t) := by unfold Ch.led; rw [hx0]; rfl
    have F := Lib.hid f
    have HX0 := Lib.hid hx0
    have CLN : ∀ Y, Calls Try.prog 89 #[.agg #[.int .i64 bs, .int .i64 s, .int .i64 x0, .int .i64 c.stop, .slice AT nT cT, .slice AP nP cP]] Y fun e w' => e = .returned (.int .i64 nP) ∧ w' = Y.alloc (.cells #[.int .i64 bs, .int .i64 s, .int .i64 x0, .int .i64 c.stop, .slice AT nT cT, .slice AP nP cP] 48) := by
      intro Y; have h := lengthX_any c AT AP nT cT nP cP Y; rw [hCV, hCC] at h; exact h
    rw [hCV] at CD ⊢
    rw [hCC] at hw1 b1
    have B1 := Lib.hid b1
    have HCV := Lib.hid hCV
    obtain ⟨q0, q1, q2, q3, q4, q5⟩ := six_cells b1
    obtain ⟨LD, hLD⟩ : ∃ L, L = c.led t := ⟨_, rfl⟩
    rw [← hLD] at hled
    have HLED := Lib.hid hled
    have HLD := Lib.hid hLD
    have hck : c.chk t = decide ((LD : Int) = c.stop) := by unfold Ch.chk; rw [h1, hLD]; rfl
    clear h1 bel b1 r1 hr hok hsz hwd f hx0 hCV hCC hled hLD
    go_enter Try.func41, Try.ntmps41
    go_wp2_with fail
    rw [show w.alloc (.cells #[.int .i64 bs, .int .i64 s, .int .i64 x0, .int .i64 c.stop, .slice AT nT cT, .slice AP nP cP] 48) = w1 from hw1.symm]
    have HW1 := Lib.hid hw1
    clear hw1
    (go_at_call 87; (with_reducible refine (CD).mono ?_); rintro e w2 ⟨A, cd, m, rfl, be2, hown⟩)
    obtain ⟨hm, ho⟩ := hown HB.out
    rw [htn] at hm
    subst hm
    rw [HB.out]
    have BEL2 := Lib.hid (BEL.out.trans (be2.mono BEL.out.size))
    have B2 := Lib.hid (B1.out.below be2 B1.out.lt)
    have LT2 := Lib.hid B2.out.lt
    have R2 := Lib.hid (R1.out.below (be2.mono (Nat.le_trans hB BEL.out.size)))
    have O2 := Lib.hid ho
    have CL : ∀ Y, Y = w2.drew → Calls Try.prog 88 #[.agg #[.int .i64 bs, .int .i64 s, .int .i64 x0, .int .i64 c.stop, .slice AT nT cT, .slice AP m cP], .int .i64 x0, .int .i64 0, .slice A m cd] Y fun e w' => e = .returned (.int .i64 (LD : Nat)) ∧ Below w2.heap.size w2 w' := by
      rintro Y rfl
      have h := lead_any c AT AP nT cT m cP w2.drew (R2.out.drewN 1) (Nat.le_trans hB BEL2.out.size) F.out A m cd (dn t) 0 x0 (ho.drewN 1).row (Nat.le_refl _) (by omega) hxs HDS.out
      rw [HCV.out, ← HLED.out] at h
      exact h.mono fun e w' ⟨h1, h2⟩ => ⟨h1, below_of_drew h2⟩
    clear CD q0 q1 q2 q3 q4 q5 be2 hown ho
    rcases hq : decide ((LD : Int) = c.stop) with _ | _
    · have HCK := Lib.hid (hck.trans hq)
      have hne : ¬ (LD : Int) = c.stop := by simpa using hq
      clear hck hq
      go_wp2_with fail
      refine region_held_n 12 (fun w' => Blk w' w.heap.size #[.int .i64 bs, .int .i64 s, .int .i64 x0, .int .i64 c.stop, .slice AT nT cT, .slice AP m cP] 48) (by kernel_rfl) (by kernel_rfl) B2.out (fun hS => ?_)
      refine takeD 0 (some 21) (v := ?_) rfl (by kernel_rfl) (by kernel_rfl) (by kernel_rfl) (fun _ _ _ h => h) hS (fun o ho => Or.inl ⟨by cases ho; rfl, ?_⟩) ?_
      rotate_left
      · cases ho
        intro w' hw'
        obtain ⟨q0, q1, q2, q3, q4, q5⟩ := six_cells hw'
        go_simp
        (try with_reducible rfl)
      (try simp only [Act.put, List.setIfInBounds_toArray, List.set_cons_zero, List.set_cons_succ])
      refine takeD 1 (some 22) (v := ?_) rfl (by kernel_rfl) (by kernel_rfl) (by kernel_rfl) (fun _ _ _ h => h) hS (fun o ho => Or.inl ⟨by cases ho; rfl, ?_⟩) ?_
      rotate_left
      · cases ho
        intro w' hw'
        obtain ⟨q0, q1, q2, q3, q4, q5⟩ := six_cells hw'
        go_simp
        (try with_reducible rfl)
      (try simp only [Act.put, List.setIfInBounds_toArray, List.set_cons_zero, List.set_cons_succ])
      refine takeD 2 (some 23) (v := ?_) rfl (by kernel_rfl) (by kernel_rfl) (by kernel_rfl) (fun _ _ _ h => h) hS (fun o ho => Or.inl ⟨by cases ho; rfl, ?_⟩) ?_
      rotate_left
      · cases ho
        intro w' hw'
        obtain ⟨q0, q1, q2, q3, q4, q5⟩ := six_cells hw'
        go_simp
        (try with_reducible rfl)
      (try simp only [Act.put, List.setIfInBounds_toArray, List.set_cons_zero, List.set_cons_succ])
      refine takeD 3 (some 24) (v := ?_) rfl (by kernel_rfl) (by kernel_rfl) (by kernel_rfl) (fun _ _ _ h => h) hS (fun o ho => Or.inl ⟨by cases ho; rfl, ?_⟩) ?_
      rotate_left
      · cases ho
        intro w' hw'
        obtain ⟨q0, q1, q2, q3, q4, q5⟩ := six_cells hw'
        go_simp
        (try with_reducible rfl)
      (try simp only [Act.put, List.setIfInBounds_toArray, List.set_cons_zero, List.set_cons_succ])
      refine takeD 4 (some 25) (v := ?_) rfl (by kernel_rfl) (by kernel_rfl) (by kernel_rfl) (fun _ _ _ h => h) hS (fun o ho => Or.inl ⟨by cases ho; rfl, ?_⟩) ?_
      rotate_left
      · cases ho
        intro w' hw'
        obtain ⟨q0, q1, q2, q3, q4, q5⟩ := six_cells hw'
        go_simp
        (try with_reducible rfl)
      (try simp only [Act.put, List.setIfInBounds_toArray, List.set_cons_zero, List.set_cons_succ])
      refine takeD 5 (some 26) (v := ?_) rfl (by kernel_rfl) (by kernel_rfl) (by kernel_rfl) (fun _ _ _ h => h) hS (fun o ho => Or.inl ⟨by cases ho; rfl, ?_⟩) ?_
      rotate_left
      · cases ho
        intro w' hw'
        obtain ⟨q0, q1, q2, q3, q4, q5⟩ := six_cells hw'
        go_simp
        (try with_reducible rfl)
      (try simp only [Act.put, List.setIfInBounds_toArray, List.set_cons_zero, List.set_cons_succ])
      refine takeD 6 (some 27) (v := ?_) rfl (by kernel_rfl) (by kernel_rfl) (by kernel_rfl) (fun _ _ _ h => h) hS (fun o ho => Or.inl ⟨by cases ho; rfl, ?_⟩) ?_
      rotate_left
      · cases ho
        intro w' hw'
        obtain ⟨q0, q1, q2, q3, q4, q5⟩ := six_cells hw'
        go_simp
        (try with_reducible rfl)
      (try simp only [Act.put, List.setIfInBounds_toArray, List.set_cons_zero, List.set_cons_succ])
      refine takeD 8 (some 29) (v := ?_) rfl (by kernel_rfl) (by kernel_rfl) (by kernel_rfl) (fun _ _ _ h => h) hS (fun o ho => Or.inl ⟨by cases ho; rfl, ?_⟩) ?_
      rotate_left
      · cases ho
        intro w' hw'
        obtain ⟨q0, q1, q2, q3, q4, q5⟩ := six_cells hw'
        go_simp
        (try with_reducible rfl)
      (try simp only [Act.put, List.setIfInBounds_toArray, List.set_cons_zero, List.set_cons_succ])
      refine takeD 9 (some 30) (v := ?_) rfl (by kernel_rfl) (by kernel_rfl) (by kernel_rfl) (fun _ _ _ h => h) hS (fun o ho => Or.inl ⟨by cases ho; rfl, ?_⟩) ?_
      rotate_left
      · cases ho
        intro w' hw'
        obtain ⟨q0, q1, q2, q3, q4, q5⟩ := six_cells hw'
        go_simp
        (try with_reducible rfl)
      (try simp only [Act.put, List.setIfInBounds_toArray, List.set_cons_zero, List.set_cons_succ])
      refine oneD 7 (some 28) (by kernel_rfl) rfl (fun o ho K hK hdo => ?_)
      simp only [List.getElem?_toArray, List.getElem?_cons_succ, List.getElem?_cons_zero, Option.some.injEq] at ho
      subst ho
      clear hdo
      rw [if_pos (by rfl)]
      go_wp2_with fail
      (go_at_call 88; (with_reducible refine (CL _ rfl).mono ?_); rintro e w4 ⟨rfl, be4⟩)
      have BEL4 := Lib.hid (BEL2.out.trans (be4.mono BEL2.out.size))
      refine hK.out _ _ ?_ (fun hS => ?_)
      · exact B2.out.below be4 LT2.out
      clear hK K
      (try simp only [Act.put, List.setIfInBounds_toArray, List.set_cons_zero, List.set_cons_succ])
      refine takeD 10 (some 31) (v := ?_) rfl (by kernel_rfl) (by kernel_rfl) (by kernel_rfl) (fun _ _ _ h => h) hS (fun o ho => Or.inl ⟨by cases ho; rfl, ?_⟩) ?_
      rotate_left
      · cases ho
        intro w' hw'
        obtain ⟨q0, q1, q2, q3, q4, q5⟩ := six_cells hw'
        go_simp
        (try with_reducible rfl)
      (try simp only [Act.put, List.setIfInBounds_toArray, List.set_cons_zero, List.set_cons_succ])
      refine takeD 11 (some 32) (v := ?_) rfl (by kernel_rfl) (by kernel_rfl) (by kernel_rfl) (fun _ _ _ h => h) hS (fun o ho => Or.inl ⟨by cases ho; rfl, ?_⟩) ?_
      rotate_left
      · cases ho
        intro w' hw'
        obtain ⟨q0, q1, q2, q3, q4, q5⟩ := six_cells hw'
        go_simp
        (try with_reducible rfl)
      (try simp only [Act.put, List.setIfInBounds_toArray, List.set_cons_zero, List.set_cons_succ])
      refine wpAnyH_done (by kernel_rfl) ?_ _
      clear hS
      go_wp2_with fail
      go_ret2
      exact ⟨two_eq (rkV_no HCK.out).symm HCK.out.symm, BEL4.out⟩
    · have HCK := Lib.hid (hck.trans hq)
      have heq : (LD : Int) = c.stop := by simpa using hq
      have HO := Lib.hid (rkV_yes HCK.out F.out HX0.out)
      clear hck hq
      go_wp2_with fail
      refine region_held_n 12 (fun w' => Blk w' w.heap.size #[.int .i64 bs, .int .i64 s, .int .i64 x0, .int .i64 c.stop, .slice AT nT cT, .slice AP m cP] 48) (by kernel_rfl) (by kernel_rfl) B2.out (fun hS => ?_)
      refine takeD 0 (some 21) (v := ?_) rfl (by kernel_rfl) (by kernel_rfl) (by kernel_rfl) (fun _ _ _ h => h) hS (fun o ho => Or.inl ⟨by cases ho; rfl, ?_⟩) ?_
      rotate_left
      · cases ho
        intro w' hw'
        obtain ⟨q0, q1, q2, q3, q4, q5⟩ := six_cells hw'
        go_simp
        (try with_reducible rfl)
      (try simp only [Act.put, List.setIfInBounds_toArray, List.set_cons_zero, List.set_cons_succ])
      refine takeD 1 (some 22) (v := ?_) rfl (by kernel_rfl) (by kernel_rfl) (by kernel_rfl) (fun _ _ _ h => h) hS (fun o ho => Or.inl ⟨by cases ho; rfl, ?_⟩) ?_
      rotate_left
      · cases ho
        intro w' hw'
        obtain ⟨q0, q1, q2, q3, q4, q5⟩ := six_cells hw'
        go_simp
        (try with_reducible rfl)
      (try simp only [Act.put, List.setIfInBounds_toArray, List.set_cons_zero, List.set_cons_succ])
      refine takeD 2 (some 23) (v := ?_) rfl (by kernel_rfl) (by kernel_rfl) (by kernel_rfl) (fun _ _ _ h => h) hS (fun o ho => Or.inl ⟨by cases ho; rfl, ?_⟩) ?_
      rotate_left
      · cases ho
        intro w' hw'
        obtain ⟨q0, q1, q2, q3, q4, q5⟩ := six_cells hw'
        go_simp
        (try with_reducible rfl)
      (try simp only [Act.put, List.setIfInBounds_toArray, List.set_cons_zero, List.set_cons_succ])
      refine takeD 3 (some 24) (v := ?_) rfl (by kernel_rfl) (by kernel_rfl) (by kernel_rfl) (fun _ _ _ h => h) hS (fun o ho => Or.inl ⟨by cases ho; rfl, ?_⟩) ?_
      rotate_left
      · cases ho
        intro w' hw'
        obtain ⟨q0, q1, q2, q3, q4, q5⟩ := six_cells hw'
        go_simp
        (try with_reducible rfl)
      (try simp only [Act.put, List.setIfInBounds_toArray, List.set_cons_zero, List.set_cons_succ])
      refine takeD 4 (some 25) (v := ?_) rfl (by kernel_rfl) (by kernel_rfl) (by kernel_rfl) (fun _ _ _ h => h) hS (fun o ho => Or.inl ⟨by cases ho; rfl, ?_⟩) ?_
      rotate_left
      · cases ho
        intro w' hw'
        obtain ⟨q0, q1, q2, q3, q4, q5⟩ := six_cells hw'
        go_simp
        (try with_reducible rfl)
      (try simp only [Act.put, List.setIfInBounds_toArray, List.set_cons_zero, List.set_cons_succ])
      refine takeD 5 (some 26) (v := ?_) rfl (by kernel_rfl) (by kernel_rfl) (by kernel_rfl) (fun _ _ _ h => h) hS (fun o ho => Or.inl ⟨by cases ho; rfl, ?_⟩) ?_
      rotate_left
      · cases ho
        intro w' hw'
        obtain ⟨q0, q1, q2, q3, q4, q5⟩ := six_cells hw'
        go_simp
        (try with_reducible rfl)
      (try simp only [Act.put, List.setIfInBounds_toArray, List.set_cons_zero, List.set_cons_succ])
      refine takeD 6 (some 27) (v := ?_) rfl (by kernel_rfl) (by kernel_rfl) (by kernel_rfl) (fun _ _ _ h => h) hS (fun o ho => Or.inl ⟨by cases ho; rfl, ?_⟩) ?_
      rotate_left
      · cases ho
        intro w' hw'
        obtain ⟨q0, q1, q2, q3, q4, q5⟩ := six_cells hw'
        go_simp
        (try with_reducible rfl)
      (try simp only [Act.put, List.setIfInBounds_toArray, List.set_cons_zero, List.set_cons_succ])
      refine takeD 8 (some 29) (v := ?_) rfl (by kernel_rfl) (by kernel_rfl) (by kernel_rfl) (fun _ _ _ h => h) hS (fun o ho => Or.inl ⟨by cases ho; rfl, ?_⟩) ?_
      rotate_left
      · cases ho
        intro w' hw'
        obtain ⟨q0, q1, q2, q3, q4, q5⟩ := six_cells hw'
        go_simp
        (try with_reducible rfl)
      (try simp only [Act.put, List.setIfInBounds_toArray, List.set_cons_zero, List.set_cons_succ])
      refine takeD 9 (some 30) (v := ?_) rfl (by kernel_rfl) (by kernel_rfl) (by kernel_rfl) (fun _ _ _ h => h) hS (fun o ho => Or.inl ⟨by cases ho; rfl, ?_⟩) ?_
      rotate_left
      · cases ho
        intro w' hw'
        obtain ⟨q0, q1, q2, q3, q4, q5⟩ := six_cells hw'
        go_simp
        (try with_reducible rfl)
      (try simp only [Act.put, List.setIfInBounds_toArray, List.set_cons_zero, List.set_cons_succ])
      refine oneD 7 (some 28) (by kernel_rfl) rfl (fun o ho K hK hdo => ?_)
      simp only [List.getElem?_toArray, List.getElem?_cons_succ, List.getElem?_cons_zero, Option.some.injEq] at ho
      subst ho
      clear hdo
      rw [if_pos (by rfl)]
      go_wp2_with fail
      (go_at_call 88; (with_reducible refine (CL _ rfl).mono ?_); rintro e w4 ⟨rfl, be4⟩)
      have BEL4 := Lib.hid (BEL2.out.trans (be4.mono BEL2.out.size))
      refine hK.out _ _ ?_ (fun hS => ?_)
      · exact B2.out.below be4 LT2.out
      clear hK K
      (try simp only [Act.put, List.setIfInBounds_toArray, List.set_cons_zero, List.set_cons_succ])
      refine takeD 10 (some 31) (v := ?_) rfl (by kernel_rfl) (by kernel_rfl) (by kernel_rfl) (fun _ _ _ h => h) hS (fun o ho => Or.inl ⟨by cases ho; rfl, ?_⟩) ?_
      rotate_left
      · cases ho
        intro w' hw'
        obtain ⟨q0, q1, q2, q3, q4, q5⟩ := six_cells hw'
        go_simp
        (try with_reducible rfl)
      (try simp only [Act.put, List.setIfInBounds_toArray, List.set_cons_zero, List.set_cons_succ])
      refine takeD 11 (some 32) (v := ?_) rfl (by kernel_rfl) (by kernel_rfl) (by kernel_rfl) (fun _ _ _ h => h) hS (fun o ho => Or.inl ⟨by cases ho; rfl, ?_⟩) ?_
      rotate_left
      · cases ho
        intro w' hw'
        obtain ⟨q0, q1, q2, q3, q4, q5⟩ := six_cells hw'
        go_simp
        (try with_reducible rfl)
      (try simp only [Act.put, List.setIfInBounds_toArray, List.set_cons_zero, List.set_cons_succ])
      refine wpAnyH_done (by kernel_rfl) ?_ _
      clear hS
      have B4 := Lib.hid (B2.out.below be4 LT2.out)
      have R4 := Lib.hid (R2.out.below (be4.mono (Nat.le_trans hB BEL2.out.size)))
      have O4 := Lib.hid (O2.out.below be4)
      have CE := endings_any c AT AP nT cT m cP w4 R4.out (Nat.le_trans hB BEL4.out.size) F.out
      rw [HCV.out] at CE
      obtain ⟨N, hN⟩ : ∃ N : Nat, N = (m + 1) * s := ⟨_, rfl⟩
      have hNb : N ≤ 756 := by rw [hN]; exact Nat.le_trans (Nat.mul_le_mul (show m + 1 ≤ 21 by omega) hs36) (by decide)
      have HCELL : Hid (∀ i x, i ≤ m → x < s → i * s + x < N) := Lib.hid fun i x hi hx => by rw [hN]; exact cell_in hi hx
      have HROW : Hid (∀ i, i ≤ m → (i + 1) * s ≤ N) := Lib.hid fun i hi => by rw [hN]; exact row_in hi
      have HGET : Hid (∀ j y, j ≤ m → y < s → (flatE s N (c.full bs m 0))[j * s + y]? = some ((c.full bs m 0 j y : Nat) : Int)) := Lib.hid fun j y hj hy => flatE_get _ hy (by rw [hN]; exact cell_in hj hy)
      rw [← hN] at CE
      clear hN be4 heq CL
      obtain ⟨q0, q1, q2, q3, q4, q5⟩ := six_cells B4.out
      go_wp2_with fail
      (go_at_call 80; (with_reducible refine (CE).mono ?_); rintro e w6 ⟨g, rfl, ho6, be6⟩)
      have BEL6 := Lib.hid (BEL4.out.trans (be6.mono BEL4.out.size))
      have B6 := Lib.hid (B4.out.below be6 B4.out.lt)
      have R6 := Lib.hid (R4.out.below (be6.mono (Nat.le_trans hB BEL4.out.size)))
      have O6 := Lib.hid (O4.out.below be6)
      have G6 := Lib.hid ho6
      obtain ⟨q0, q1, q2, q3, q4, q5⟩ := six_cells B6.out
      have hb6 : w.heap.size < w6.heap.size := B6.out.lt
      clear CE be6 ho6
      go_wp2_with fail
      (go_at_call 89; (with_reducible refine (CLN _).mono ?_); rintro e w7 ⟨rfl, rfl⟩)
      obtain ⟨w8, hw8⟩ : ∃ w8, w8 = (w6.alloc (.cells #[.int .i64 s, .slice (some ⟨g, 0, none⟩) N N] 101)).alloc (.cells #[.int .i64 bs, .int .i64 s, .int .i64 x0, .int .i64 c.stop, .slice AT nT cT, .slice AP m cP] 48) := ⟨_, rfl⟩
      rw [← hw8]
      have be8 : Below w6.heap.size w6 w8 := by rw [hw8]; exact ((Below.refl _ w6).alloc (Nat.le_refl _) _).alloc (by simp) _
      have bg8 : Blk w8 w6.heap.size #[.int .i64 s, .slice (some ⟨g, 0, none⟩) N N] 101 := by rw [hw8]; exact (Blk.new _ _ _).alloc _
      have BG8 := Lib.hid bg8
      have B8 := Lib.hid (B6.out.below be8 B6.out.lt)
      have BEL8 := Lib.hid (BEL6.out.trans (be8.mono BEL6.out.size))
      have R8 := Lib.hid (R6.out.below (be8.mono (Nat.le_trans hB BEL6.out.size)))
      have O8 := Lib.hid (O6.out.below be8)
      have G8 := Lib.hid (G6.out.below be8)
      have hB8 : B ≤ w8.heap.size := Nat.le_trans hB BEL8.out.size
      have BR8 := Lib.hid (Below.refl w8.heap.size w8)
      clear hw8 be8 bg8 q0 q1 q2 q3 q4 q5 CLN
      go_wp2_with fail
      go_loopw [9, 10, 11, 12, 13, 14, 39] (fun x rk _ _ _ _ i wr => ∃ k : Nat, k ≤ m ∧ i = .int .i64 k ∧ (∃ R y : Nat, rk = .int .i64 (R : Int) ∧ x = .int .i64 (y : Int) ∧ Hid (R = c.rank bs m 0 x0 ((dn t).take k)) ∧ Hid (y = c.run 0 x0 ((dn t).take k))) ∧ Hid (Below w8.heap.size w8 wr)) (fun _ _ _ _ _ _ i _ => m - (intOf i).toNat)
      case atStart => exact ⟨0, by omega, rfl, ⟨0, x0, rfl, rfl, Lib.hid (by simp [Ch.rank]), Lib.hid (by simp [Ch.run])⟩, BR8⟩
      case round =>
        obtain ⟨k, hk, rfl, ⟨R, y, rfl, rfl, hR, hy⟩, hbw⟩ := hrel
        by_cases hlt : k < m
        · have bcr := B8.out.below hbw.out B8.out.lt
          have bgr := BG8.out.below hbw.out BG8.out.lt
          have BCR := Lib.hid bcr
          have BGR := Lib.hid bgr
          have hbs := hbw.out.size
          have CRX : ∀ Y, Calls Try.prog 81 #[.agg #[.int .i64 s, .slice (some ⟨g, 0, none⟩) N N], .int .i64 ((k : Int) + 1)] Y fun e w' => e = .returned (.slice (some ⟨g, (k + 1) * s, none⟩) s (N - (k + 1) * s)) ∧ w' = Y.alloc (.cells #[.int .i64 s, .slice (some ⟨g, 0, none⟩) N N] 101) := by
            intro Y; have h := gridRow_any g s (k + 1) N Y hs1 (by omega) (by omega) (HROW.out (k + 1) (by omega)) (by omega); rw [show (((k + 1 : Nat)) : Int) = (k : Int) + 1 by omega] at h; exact h
          have CTX : ∀ Y, Y = wr.drew → Calls Try.prog 90 #[.agg #[.int .i64 bs, .int .i64 s, .int .i64 x0, .int .i64 c.stop, .slice AT nT cT, .slice AP m cP], .int .i64 k] Y fun e w' => ∃ A2 c2, e = .returned (.slice A2 s c2) ∧ Rows2 B w' A2 s (c.tb k) ∧ Below wr.heap.size wr w' := by
            rintro Y rfl
            have h := tableAt_any c AT AP nT cT m cP wr.drew ((R8.out.below (hbw.out.mono hB8)).drewN 1) (Nat.le_trans hB8 hbs) F.out k hlt
            rw [HCV.out] at h
            exact h.mono fun e w' ⟨A2, c2, h1, h2, h3⟩ => ⟨A2, c2, h1, h2, below_of_drew h3⟩
          have a1 : IntKind.i64.wrap ((k : Int) + 1) = (k : Int) + 1 := IntWalk.i64_in _ (by omega)
          go_wp2_with fail
          refine region_last 9 9 (fun w' => Blk w' w.heap.size #[.int .i64 bs, .int .i64 s, .int .i64 x0, .int .i64 c.stop, .slice AT nT cT, .slice AP m cP] 48 ∧ Blk w' w6.heap.size #[.int .i64 s, .slice (some ⟨g, 0, none⟩) N N] 101) (by kernel_rfl) (by kernel_rfl) (by kernel_rfl) ⟨bcr, bgr⟩ (fun hS => ?_)
          refine takeD 0 (some 42) (v := ?_) rfl (by kernel_rfl) (by kernel_rfl) (by kernel_rfl) (fun _ _ _ h => h) hS (fun o ho => Or.inl ⟨by cases ho; rfl, ?_⟩) ?_
          rotate_left
          · cases ho
            intro w' hw'
            obtain ⟨q0, q1, q2, q3, q4, q5⟩ := six_cells hw'.1; obtain ⟨r0, r1⟩ := duo_cells hw'.2
            go_simp
            (try with_reducible rfl)
          (try simp only [Act.put, List.setIfInBounds_toArray, List.set_cons_zero, List.set_cons_succ])
          refine takeD 1 (some 43) (v := ?_) rfl (by kernel_rfl) (by kernel_rfl) (by kernel_rfl) (fun _ _ _ h => h) hS (fun o ho => Or.inl ⟨by cases ho; rfl, ?_⟩) ?_
          rotate_left
          · cases ho
            intro w' hw'
            obtain ⟨q0, q1, q2, q3, q4, q5⟩ := six_cells hw'.1; obtain ⟨r0, r1⟩ := duo_cells hw'.2
            go_simp
            (try with_reducible rfl)
          (try simp only [Act.put, List.setIfInBounds_toArray, List.set_cons_zero, List.set_cons_succ])
          refine takeD 4 (some 46) (v := ?_) rfl (by kernel_rfl) (by kernel_rfl) (by kernel_rfl) (fun _ _ _ h => h) hS (fun o ho => Or.inl ⟨by cases ho; rfl, ?_⟩) ?_
          rotate_left
          · cases ho
            intro w' hw'
            obtain ⟨q0, q1, q2, q3, q4, q5⟩ := six_cells hw'.1; obtain ⟨r0, r1⟩ := duo_cells hw'.2
            go_simp
            (try with_reducible rfl)
          (try simp only [Act.put, List.setIfInBounds_toArray, List.set_cons_zero, List.set_cons_succ])
          refine takeD 5 (some 47) (v := ?_) rfl (by kernel_rfl) (by kernel_rfl) (by kernel_rfl) (fun _ _ _ h => h) hS (fun o ho => Or.inl ⟨by cases ho; rfl, ?_⟩) ?_
          rotate_left
          · cases ho
            intro w' hw'
            obtain ⟨q0, q1, q2, q3, q4, q5⟩ := six_cells hw'.1; obtain ⟨r0, r1⟩ := duo_cells hw'.2
            go_simp
            (try with_reducible rfl)
          (try simp only [Act.put, List.setIfInBounds_toArray, List.set_cons_zero, List.set_cons_succ])
          refine takeD 6 (some 48) (v := ?_) rfl (by kernel_rfl) (by kernel_rfl) (by kernel_rfl) (fun _ _ _ h => h) hS (fun o ho => Or.inl ⟨by cases ho; rfl, ?_⟩) ?_
          rotate_left
          · cases ho
            intro w' hw'
            obtain ⟨q0, q1, q2, q3, q4, q5⟩ := six_cells hw'.1; obtain ⟨r0, r1⟩ := duo_cells hw'.2
            go_simp
            (try with_reducible rfl)
          (try simp only [Act.put, List.setIfInBounds_toArray, List.set_cons_zero, List.set_cons_succ])
          refine oneD 2 (some 44) (by kernel_rfl) rfl (fun o ho K hK hdo => ?_)
          simp only [List.getElem?_toArray, List.getElem?_cons_succ, List.getElem?_cons_zero, Option.some.injEq] at ho
          subst ho
          clear hdo
          rw [if_pos (by rfl)]
          go_wp2_with fail
          (go_at_call 90; (with_reducible refine (CTX _ rfl).mono ?_); rintro e w9 ⟨A2, c2, rfl, hr2, be7⟩)
          have HR2 := Lib.hid hr2
          refine hK.out _ _ ?_ (fun hS => ?_)
          · exact ⟨BCR.out.below be7 BCR.out.lt, BGR.out.below be7 BGR.out.lt⟩
          clear hK K
          (try simp only [Act.put, List.setIfInBounds_toArray, List.set_cons_zero, List.set_cons_succ])
          refine takeD 3 (some 45) (v := ?_) rfl (by kernel_rfl) (by kernel_rfl) (by kernel_rfl) (fun _ _ _ h => h) hS (fun o ho => Or.inl ⟨by cases ho; rfl, ?_⟩) ?_
          rotate_left
          · cases ho
            intro w' hw'
            obtain ⟨q0, q1, q2, q3, q4, q5⟩ := six_cells hw'.1; obtain ⟨r0, r1⟩ := duo_cells hw'.2
            go_simp
            (try with_reducible rfl)
          (try simp only [Act.put, List.setIfInBounds_toArray, List.set_cons_zero, List.set_cons_succ])
          refine oneD 7 (some 49) (by kernel_rfl) rfl (fun o ho K hK hdo => ?_)
          simp only [List.getElem?_toArray, List.getElem?_cons_succ, List.getElem?_cons_zero, Option.some.injEq] at ho
          subst ho
          clear hdo
          rw [if_pos (by rfl)]
          go_wp2_with fail
          (go_at_call 81; (with_reducible refine (CRX _).mono ?_); rintro e w9b ⟨rfl, rfl⟩)
          refine hK.out _ _ ?_ (fun hS => ?_)
          · exact ⟨hS.1.alloc _, hS.2.alloc _⟩
          clear hK K
          (try simp only [Act.put, List.setIfInBounds_toArray, List.set_cons_zero, List.set_cons_succ])
          refine takeD 8 (some 12) (v := ?_) rfl (by kernel_rfl) (by kernel_rfl) (by kernel_rfl) (fun _ _ _ h => h) hS (fun o ho => Or.inl ⟨by cases ho; rfl, ?_⟩) ?_
          rotate_left
          · cases ho
            intro w' hw'
            obtain ⟨q0, q1, q2, q3, q4, q5⟩ := six_cells hw'.1; obtain ⟨r0, r1⟩ := duo_cells hw'.2
            go_simp
            (try with_reducible rfl)
          (try simp only [Act.put, List.setIfInBounds_toArray, List.set_cons_zero, List.set_cons_succ])
          refine wpAnyH_done (by kernel_rfl) ?_ _
          refine thenD rfl (fun o ho K hK => ?_)
          simp only [List.getElem?_toArray, List.getElem?_cons_succ, List.getElem?_cons_zero, Option.some.injEq] at ho
          subst ho
          clear hS
          go_wp2_with fail
          refine hK.out _ _ ?_
          clear hK K
          clear bcr bgr CRX CTX
          obtain ⟨w10, hw10⟩ : ∃ w10, w10 = w9.alloc (.cells #[.int .i64 s, .slice (some ⟨g, 0, none⟩) N N] 101) := ⟨_, rfl⟩
          rw [← hw10]
          have bw10 : Below w8.heap.size w8 w10 := by rw [hw10]; exact (hbw.out.trans (be7.mono hbs)).alloc (Nat.le_trans hbs be7.size) _
          have rows10 : Rows2 B w10 A2 s (c.tb k) := by rw [hw10]; exact HR2.out.below ((Below.refl B w9).alloc (Nat.le_trans hB8 (Nat.le_trans hbs be7.size)) _)
          have ROWS := Lib.hid rows10
          have BW10 := Lib.hid bw10
          have O10 := Lib.hid (O8.out.below bw10)
          have G10 := Lib.hid (G8.out.below bw10)
          clear hw10 be7 HR2 bw10 rows10
          obtain ⟨bd, od, z, rfl, _, hz, hc, _⟩ := (O10.out.row).at_ hlt
          obtain ⟨e, hek, rfl⟩ := ints_at hz
          have heb := HDS.out e (List.mem_of_getElem? hek)
          have hys : y < s := by rw [hy.out]; exact F.out.run_lt _ (by simp; omega) hxs fun a ha => HDS.out a (List.mem_of_mem_take ha)
          have HEK := Lib.hid hek
          clear hz hek
          go_wp2_with fail
          go_loopw [10, 14, 54] (fun rk _ dd ws => ∃ d : Nat, d ≤ e ∧ dd = .int .i64 d ∧ (∃ S : Nat, rk = .int .i64 (S : Int) ∧ Hid (S = R + c.wsum bs m (m - (k + 1)) y d)) ∧ ws = w10) (fun _ _ dd _ => e - (intOf dd).toNat)
          case atStart => exact ⟨0, by omega, rfl, ⟨R, rfl, Lib.hid (by rw [Ch.wsum_zero]; rfl)⟩, rfl⟩
          case round =>
            obtain ⟨d, hd, rfl, ⟨S, rfl, hS⟩, rfl⟩ := hrel
            by_cases hltd : d < e
            · have hnx : c.nx k y d < s := (F.out.nx hlt hys (show d < bs by omega)).2.choose_spec.2.2.2
              obtain ⟨z2, _, _⟩ := G10.out.cellE (HCELL.out (k + 1) (c.nx k y d) (by omega) hnx)
              rw [HGET.out (k + 1) (c.nx k y d) (by omega) hnx] at z2
              have ew : c.full bs m 0 (k + 1) (c.nx k y d) = c.ways bs m (m - (k + 1)) (c.nx k y d) := by unfold Ch.full; rw [if_pos (by omega)]
              rw [ew] at z2
              simp only [Option.getD_some] at z2
              have hlim : S + c.ways bs m (m - (k + 1)) (c.nx k y d) ≤ 1000000000000000 := by
                have h := rank_part F.out (x := x0) (by have := HDL.out; omega) HDS.out HEK.out (show d + 1 ≤ e by omega)
                rw [← hR.out, ← hy.out, Ch.wsum_succ, show m - (m - (k + 1) + 1) = k by omega] at h
                have := hS.out
                omega
              have hS2 : Hid (S + c.ways bs m (m - (k + 1)) (c.nx k y d) = R + c.wsum bs m (m - (k + 1)) y (d + 1)) := Lib.hid (by
                rw [Ch.wsum_succ, show m - (m - (k + 1) + 1) = k by omega, hS.out, Nat.add_assoc])
              have CN := next_any F.out k y d A2 c2 _ ROWS.out hlt hys (by omega)
              generalize c.ways bs m (m - (k + 1)) (c.nx k y d) = V2 at z2 hlim hS2
              obtain ⟨nx, hnxe⟩ : ∃ nx, nx = c.nx k y d := ⟨_, rfl⟩
              rw [← hnxe] at hnx z2 CN
              have f6 : (0 : Int) ≤ (nx : Int) := by omega
              have f7 : (nx : Int) < (s : Int) := by omega
              have a4 : IntKind.i64.wrap ((S : Int) + (V2 : Int)) = (S : Int) + (V2 : Int) := IntWalk.i64_in _ (by omega)
              clear ew hnxe
              go_wp2_with fail
              (go_at_call 91; (with_reducible refine (CN).mono ?_); rintro e w11 ⟨rfl, rfl⟩)
              go_wp2_with fail
              go_roundw
              case rel => exact ⟨d + 1, by omega, by go_num, ⟨S + V2, by go_num, hS2⟩, trivial⟩
              case measure => simp [intOf]; omega
            · obtain rfl : e = d := by omega
              obtain ⟨h1, h2⟩ := rank_next (c := c) (b := bs) (n := m) (x := x0) HEK.out
              rw [← hR.out, ← hy.out] at h1
              rw [← hy.out] at h2
              have HR1 : Hid (S = c.rank bs m 0 x0 ((dn t).take (k + 1))) := Lib.hid (by rw [← h1]; exact hS.out)
              have HY1 : Hid (c.nx k y e = c.run 0 x0 ((dn t).take (k + 1))) := Lib.hid h2
              have CN := next_any F.out k y e A2 c2 _ ROWS.out hlt hys (by omega)
              clear h1 h2
              go_wp2_with fail
              (go_at_call 91; (with_reducible refine (CN).mono ?_); rintro e w11 ⟨rfl, rfl⟩)
              go_wp2_with fail
              go_roundw
              case rel => exact ⟨k + 1, by omega, by go_num, ⟨S, _, rfl, rfl, HR1, HY1⟩, BW10⟩
              case measure => simp [intOf]; omega
        · obtain rfl : m = k := by omega
          have HRF : Hid (R = c.rank bs m 0 x0 (dn t)) := Lib.hid (by rw [hR.out, List.take_of_length_le (by have := HDL.out; omega)])
          go_wp2_with fail
          go_ret2
          exact ⟨two_eq (by rw [HO.out, HRF.out]) HCK.out.symm, BEL8.out.trans (hbw.out.mono BEL8.out.size)⟩
end Go.Proofs.Yteggllmiapdmcaa
