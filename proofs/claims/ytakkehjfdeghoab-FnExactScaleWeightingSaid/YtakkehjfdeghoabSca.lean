/-
  ScaleWeighting, of the model and of the program.
-/
import Derived.Test.YtakkehjfdeghoabWRet
import Derived.Test.YtakkehjfdeghoabRev
import Derived.Test.YtakkehjfdeghoabGcd
namespace Go.Proofs.Ytakkehjfdeghoab
open Go.RowKit

def scaOk (x : Wt) (by_ : Int) : Bool := wOk x && (inB by_ 1 (x.modulus - 1) && decide (Nat.gcd by_.toNat x.modulus.toNat = 1))
def scaV (x : Wt) (by_ : Int) : Wt := ⟨x.base, x.modulus, by_ * x.target % x.modulus, x.W.map fun z => by_ * z % x.modulus⟩
def scaR (x : Wt) (by_ : Int) : Wt := if scaOk x by_ = true then scaV x by_ else zeroW
theorem scaR_yes {x : Wt} {d : Int} (h : scaOk x d = true) : scaR x d = scaV x d := by simp [scaR, h]
theorem scaR_no {x : Wt} {d : Int} (h : scaOk x d = false) : scaR x d = zeroW := by simp [scaR, h]
theorem scaOk_w {x : Wt} {d : Int} (h : scaOk x d = true) : wOk x = true := by unfold scaOk at h; simp at h; exact h.1
theorem scaR_len (x : Wt) (d : Int) : (scaR x d).W.length ≤ 1000000 := by
  rcases h : scaOk x d with _ | _
  · rw [scaR_no h]; simp [zeroW]
  · rw [scaR_yes h]
    obtain ⟨b, m, n, f⟩ := Wt.fine (scaOk_w h)
    have := f.len; have := f.n20
    simp [scaV]; omega
theorem tmodN {a : Int} {m : Nat} (h : 0 ≤ a) : a.tmod (m : Int) = a % (m : Int) := Int.tmod_eq_emod_of_nonneg h

set_option maxRecDepth 100000 in
set_option maxHeartbeats 4000000 in
theorem specSca_any {B : Nat} (x : Wt) (A : Option Addr) (n c : Nat) (d : Int) (w : World) (hr : RowB .i64 B w A n x.W) (hB : B ≤ w.heap.size) :
    Calls Try.prog 47 #[wtV x A n c, .int .i64 d] w (MadeWB w.heap.size (scaR x d) (scaOk x d) w) := by
  have hl := hr.len
  have hn := hr.le
  obtain ⟨i0, hi, hz0, hz1, hz2⟩ := info_parts info64
  obtain ⟨w1, hw1⟩ : ∃ w1, w1 = w.alloc (.cells (wtCells x A n c) 44) := ⟨_, rfl⟩
  obtain ⟨w2, hw2⟩ : ∃ w2, w2 = w1.alloc (.cells #[.int .i64 0, .int .i64 0, .int .i64 0, nilV] 44) := ⟨_, rfl⟩
  have sz1 : w1.heap.size = w.heap.size + 1 := by rw [hw1]; simp
  have bel : Below w.heap.size w w2 := by rw [hw2, hw1]; exact ((Below.refl _ w).alloc (Nat.le_refl _) _).alloc (by simp) _
  have b1 : Blk w2 w.heap.size (wtCells x A n c) 44 := by
    have h : Blk w1 w.heap.size (wtCells x A n c) 44 := by rw [hw1]; exact Blk.new _ _ _
    rw [hw2]; exact h.alloc _
  have b2 : Blk w2 (w.heap.size + 1) #[.int .i64 0, .int .i64 0, .int .i64 0, nilV] 44 := by
    have h := Blk.new w1 #[.int .i64 0, .int .i64 0, .int .i64 0, nilV] 44
    rw [sz1] at h
    rw [hw2]; exact h
  have r2 := RowB.below hr (bel.mono hB)
  have CI := l03Is_any x A n c w2 b1 r2
  have BEL := Lib.hid bel
  have R2 := Lib.hid r2
  have B1 := Lib.hid b1
  have B2 := Lib.hid b2
  have hs2 : w.heap.size + 1 < w2.heap.size := b2.lt
  clear bel b1 b2 r2 hr sz1
  rcases h1 : wOk x with _ | _
  · rw [h1] at CI
    have HO : Hid (scaOk x d = false) := Lib.hid (by unfold scaOk; rw [h1]; rfl)
    clear h1
    go_enter Try.func47, Try.ntmps47
    go_wp2_with fail
    rw [← hw1, ← hw2]
    have HW1 := Lib.hid hw1
    have HW2 := Lib.hid hw2
    clear hw1 hw2
    (go_at_call 77; (with_reducible refine (CI).mono ?_); rintro e w3 ⟨rfl, m, hw3⟩)
    have bl3 : Below w.heap.size w w3 := by rw [hw3]; exact below_drewN BEL.out m
    have d1 : Blk w3 w.heap.size (wtCells x A n c) 44 := by rw [hw3]; exact B1.out
    have d2 : Blk w3 (w.heap.size + 1) #[.int .i64 0, .int .i64 0, .int .i64 0, nilV] 44 := by rw [hw3]; exact B2.out
    have r3 : RowB .i64 B w3 A n x.W := by rw [hw3]; exact RowB.drewN R2.out m
    have hs3 := d2.lt
    have hs3a := d1.lt
    have hs3b : w.heap.size ≠ w3.heap.size := by omega
    have BL3 := Lib.hid bl3
    have D1 := Lib.hid d1
    have D2 := Lib.hid d2
    have R3 := Lib.hid r3
    clear CI hw3 bl3 d1 d2 r3
    have e0 := D2.out.cell 0
    have e1 := D2.out.cell 1
    have e2 := D2.out.cell 2
    have e3 := D2.out.cell 3
    have fe0 := D2.out.frozen 0
    have fe1 := D2.out.frozen 1
    have fe2 := D2.out.frozen 2
    have fe3 := D2.out.frozen 3
    go_wp2_with fail
    have q : Blk (four w3 (w.heap.size + 1) (.int .i64 0) (.int .i64 0) (.int .i64 0) (.slice none 0 0)) (w.heap.size + 1) #[.int .i64 0, .int .i64 0, .int .i64 0, .slice none 0 0] 44 := four_blk D2.out _ _ _ _
    have FB : Hid (Below w.heap.size w (four w3 (w.heap.size + 1) (.int .i64 0) (.int .i64 0) (.int .i64 0) (.slice none 0 0))) := Lib.hid (four_below BL3.out (by omega) _ _ _ _)
    obtain ⟨w8, hw8⟩ : ∃ w8, w8 = four w3 (w.heap.size + 1) (.int .i64 0) (.int .i64 0) (.int .i64 0) (.slice none 0 0) := ⟨_, rfl⟩
    rw [← hw8] at q FB
    unfold four at hw8
    rw [← hw8]
    have q0 := q.cell 0
    have q1 := q.cell 1
    have q2 := q.cell 2
    have q3 := q.cell 3
    refine bodyPost_ret (v := .tuple #[.agg #[.int .i64 0, .int .i64 0, .int .i64 0, .slice none 0 0], .bool false]) (by simp [results, Try.results47, go_sem, q0, q1, q2, q3]) rfl ?_
    have EO := HO.out
    rw [EO, scaR_no EO]
    exact made_zero FB.out
  · rw [h1] at CI
    obtain ⟨bs, m, kk, f⟩ := Wt.fine h1
    have HW := Lib.hid h1
    have hkn : n = kk := by have := f.len; omega
    subst hkn
    have hn20 := f.n20
    have hn1 := f.n1
    have hm2 := f.m2
    have hm36 := f.m36
    have HM := Lib.hid f.modulus
    have HW35 := Lib.hid f.w35
    have ht0 := f.t0
    have htm := f.tm
    clear h1 f
    rcases h2 : inB d 1 ((m : Int) - 1) with _ | _
    · have HO : Hid (scaOk x d = false) := Lib.hid (by unfold scaOk; rw [HW.out, HM.out, h2]; rfl)
      have C2 : ∀ W, Calls Try.prog 73 #[.int .i64 d, .int .i64 1, .int .i64 ((m : Int) - 1)] W fun e w' => e = .returned (.bool false) ∧ W = w' := fun W => by rw [← h2]; exact l00In_any _ _ _ W
      clear h2
      go_enter Try.func47, Try.ntmps47
      go_wp2_with fail
      rw [← hw1, ← hw2]
      have HW1 := Lib.hid hw1
      have HW2 := Lib.hid hw2
      clear hw1 hw2
      (go_at_call 77; (with_reducible refine (CI).mono ?_); rintro e w3 ⟨rfl, mm, hw3⟩)
      have bl3 : Below w.heap.size w w3 := by rw [hw3]; exact below_drewN BEL.out mm
      have d1 : Blk w3 w.heap.size (wtCells x A n c) 44 := by rw [hw3]; exact B1.out
      have d2 : Blk w3 (w.heap.size + 1) #[.int .i64 0, .int .i64 0, .int .i64 0, nilV] 44 := by rw [hw3]; exact B2.out
      have r3 : RowB .i64 B w3 A n x.W := by rw [hw3]; exact RowB.drewN R2.out mm
      have hs3 := d2.lt
      have hs3a := d1.lt
      have hs3b : w.heap.size ≠ w3.heap.size := by omega
      have BL3 := Lib.hid bl3
      have D1 := Lib.hid d1
      have D2 := Lib.hid d2
      have R3 := Lib.hid r3
      clear CI hw3 bl3 d1 d2 r3
      have k1 : w3.cell? ⟨w.heap.size, 1, none⟩ = some (.int .i64 m) := by rw [D1.out.cell 1]; simp [HM.out]
      go_wp2_with fail
      (go_at_call 73; (with_reducible refine (C2 _).mono ?_); rintro e w' ⟨rfl, rfl⟩)
      clear k1
      have e0 := D2.out.cell 0
      have e1 := D2.out.cell 1
      have e2 := D2.out.cell 2
      have e3 := D2.out.cell 3
      have fe0 := D2.out.frozen 0
      have fe1 := D2.out.frozen 1
      have fe2 := D2.out.frozen 2
      have fe3 := D2.out.frozen 3
      go_wp2_with fail
      have q : Blk (four w3 (w.heap.size + 1) (.int .i64 0) (.int .i64 0) (.int .i64 0) (.slice none 0 0)) (w.heap.size + 1) #[.int .i64 0, .int .i64 0, .int .i64 0, .slice none 0 0] 44 := four_blk D2.out _ _ _ _
      have FB : Hid (Below w.heap.size w (four w3 (w.heap.size + 1) (.int .i64 0) (.int .i64 0) (.int .i64 0) (.slice none 0 0))) := Lib.hid (four_below BL3.out (by omega) _ _ _ _)
      obtain ⟨w8, hw8⟩ : ∃ w8, w8 = four w3 (w.heap.size + 1) (.int .i64 0) (.int .i64 0) (.int .i64 0) (.slice none 0 0) := ⟨_, rfl⟩
      rw [← hw8] at q FB
      unfold four at hw8
      rw [← hw8]
      have q0 := q.cell 0
      have q1 := q.cell 1
      have q2 := q.cell 2
      have q3 := q.cell 3
      refine bodyPost_ret (v := .tuple #[.agg #[.int .i64 0, .int .i64 0, .int .i64 0, .slice none 0 0], .bool false]) (by simp [results, Try.results47, go_sem, q0, q1, q2, q3]) rfl ?_
      have EO := HO.out
      rw [EO, scaR_no EO]
      exact made_zero FB.out
    · have hd := inB_true.1 h2
      have C2 : ∀ W, Calls Try.prog 73 #[.int .i64 d, .int .i64 1, .int .i64 ((m : Int) - 1)] W fun e w' => e = .returned (.bool true) ∧ W = w' := fun W => by rw [← h2]; exact l00In_any _ _ _ W
      have H2 := Lib.hid h2
      obtain ⟨dn, hdn⟩ : ∃ dn : Nat, d = dn := ⟨d.toNat, by omega⟩
      subst hdn
      clear h2
      by_cases h3 : Nat.gcd dn m = 1
      · have HO : Hid (scaOk x dn = true) := Lib.hid (by unfold scaOk; rw [HW.out, HM.out, H2.out]; simpa using h3)
        have C3 : ∀ W, Calls Try.prog 98 #[.int .i64 dn, .int .i64 m] W fun e w' => e = .returned (.int .i64 1) ∧ W = w' := fun W => by have := l01Gcd_any dn m W (by omega) (by omega); rw [h3] at this; exact this
        obtain ⟨tg, htg⟩ : ∃ tg, tg = x.target := ⟨_, rfl⟩
        rw [← htg] at ht0 htm
        have hP := mul_bd (a := (dn : Int)) (b := tg) (by omega) (by omega)
        obtain ⟨P, hPe⟩ : ∃ P, P = (dn : Int) * tg := ⟨_, rfl⟩
        rw [← hPe] at hP
        have HPE := Lib.hid hPe
        have HTG := Lib.hid htg
        clear h3 htg hPe
        go_enter Try.func47, Try.ntmps47
        go_wp2_with fail
        rw [← hw1, ← hw2]
        have HW1 := Lib.hid hw1
        have HW2 := Lib.hid hw2
        clear hw1 hw2
        (go_at_call 77; (with_reducible refine (CI).mono ?_); rintro e w3 ⟨rfl, mm, hw3⟩)
        have bl3 : Below w.heap.size w w3 := by rw [hw3]; exact below_drewN BEL.out mm
        have d1 : Blk w3 w.heap.size (wtCells x A n c) 44 := by rw [hw3]; exact B1.out
        have d2 : Blk w3 (w.heap.size + 1) #[.int .i64 0, .int .i64 0, .int .i64 0, nilV] 44 := by rw [hw3]; exact B2.out
        have r3 : RowB .i64 B w3 A n x.W := by rw [hw3]; exact RowB.drewN R2.out mm
        have hs3 := d2.lt
        have hs3a := d1.lt
        have hs3b : w.heap.size ≠ w3.heap.size := by omega
        have BL3 := Lib.hid bl3
        have D1 := Lib.hid d1
        have D2 := Lib.hid d2
        have R3 := Lib.hid r3
        clear CI hw3 bl3 d1 d2 r3
        have k0 : w3.cell? ⟨w.heap.size, 0, none⟩ = some (.int .i64 x.base) := D1.out.cell 0
        have k1 : w3.cell? ⟨w.heap.size, 1, none⟩ = some (.int .i64 m) := by rw [D1.out.cell 1]; simp [HM.out]
        have k2 : w3.cell? ⟨w.heap.size, 2, none⟩ = some (.int .i64 tg) := by rw [D1.out.cell 2]; simp [HTG.out]
        go_wp2_with fail
        (go_at_call 73; (with_reducible refine (C2 _).mono ?_); rintro e w' ⟨rfl, rfl⟩)
        go_wp2_with fail
        (go_at_call 98; (with_reducible refine (C3 _).mono ?_); rintro e w' ⟨rfl, rfl⟩)
        clear C2 C3
        go_wp2_with fail
        have e7 : IntKind.i64.wrap ((dn : Int) * tg) = P := by rw [← HPE.out]; exact IntWalk.i64_in _ (by omega)
        have e10 : P.tmod (m : Int) = P % (m : Int) := tmodN hP.1
        have e10b : IntKind.i64.wrap (P % (m : Int)) = P % (m : Int) := IntWalk.i64_in _ (by have := Int.emod_nonneg P (show (m : Int) ≠ 0 by omega); have := Int.emod_lt_of_pos P (show (0 : Int) < m by omega); omega)
        have hm0 : (m : Int) ≠ 0 := by omega
        have hm0' : ((m : Int) == 0) = false := by simpa using hm0
        have hm0n : ¬ m = 0 := by omega
        refine region_last 13 13 (fun w' => w'.cell? ⟨w.heap.size, 0, none⟩ = some (.int .i64 x.base) ∧ w'.cell? ⟨w.heap.size, 1, none⟩ = some (.int .i64 m) ∧ w'.cell? ⟨w.heap.size, 2, none⟩ = some (.int .i64 tg)) (by kernel_rfl) (by kernel_rfl) (by kernel_rfl) ⟨k0, k1, k2⟩ (fun hS => ?_)
        refine takeD 0 (some 26) (v := ?_) rfl (by kernel_rfl) (by kernel_rfl) (by kernel_rfl) (fun _ _ _ h => h) hS (fun o ho => Or.inl ⟨by cases ho; rfl, ?_⟩) ?_
        rotate_left
        · cases ho
          intro w' hw'
          (try dsimp only at hw')
          go_simp
          (try with_reducible rfl)
        (try simp only [Act.put, List.setIfInBounds_toArray, List.set_cons_zero, List.set_cons_succ])
        refine takeD 1 (some 27) (v := ?_) rfl (by kernel_rfl) (by kernel_rfl) (by kernel_rfl) (fun _ _ _ h => h) hS (fun o ho => Or.inl ⟨by cases ho; rfl, ?_⟩) ?_
        rotate_left
        · cases ho
          intro w' hw'
          (try dsimp only at hw')
          go_simp
          (try with_reducible rfl)
        (try simp only [Act.put, List.setIfInBounds_toArray, List.set_cons_zero, List.set_cons_succ])
        refine takeD 2 (some 28) (v := ?_) rfl (by kernel_rfl) (by kernel_rfl) (by kernel_rfl) (fun _ _ _ h => h) hS (fun o ho => Or.inl ⟨by cases ho; rfl, ?_⟩) ?_
        rotate_left
        · cases ho
          intro w' hw'
          (try dsimp only at hw')
          go_simp
          (try with_reducible rfl)
        (try simp only [Act.put, List.setIfInBounds_toArray, List.set_cons_zero, List.set_cons_succ])
        refine takeD 3 (some 29) (v := ?_) rfl (by kernel_rfl) (by kernel_rfl) (by kernel_rfl) (fun _ _ _ h => h) hS (fun o ho => Or.inl ⟨by cases ho; rfl, ?_⟩) ?_
        rotate_left
        · cases ho
          intro w' hw'
          (try dsimp only at hw')
          go_simp
          (try with_reducible rfl)
        (try simp only [Act.put, List.setIfInBounds_toArray, List.set_cons_zero, List.set_cons_succ])
        refine takeD 4 (some 30) (v := ?_) rfl (by kernel_rfl) (by kernel_rfl) (by kernel_rfl) (fun _ _ _ h => h) hS (fun o ho => Or.inl ⟨by cases ho; rfl, ?_⟩) ?_
        rotate_left
        · cases ho
          intro w' hw'
          (try dsimp only at hw')
          go_simp
          (try with_reducible rfl)
        (try simp only [Act.put, List.setIfInBounds_toArray, List.set_cons_zero, List.set_cons_succ])
        refine takeD 5 (some 31) (v := ?_) rfl (by kernel_rfl) (by kernel_rfl) (by kernel_rfl) (fun _ _ _ h => h) hS (fun o ho => Or.inl ⟨by cases ho; rfl, ?_⟩) ?_
        rotate_left
        · cases ho
          intro w' hw'
          (try dsimp only at hw')
          go_simp
          (try with_reducible rfl)
        (try simp only [Act.put, List.setIfInBounds_toArray, List.set_cons_zero, List.set_cons_succ])
        refine takeD 6 (some 32) (v := ?_) rfl (by kernel_rfl) (by kernel_rfl) (by kernel_rfl) (fun _ _ _ h => h) hS (fun o ho => Or.inl ⟨by cases ho; rfl, ?_⟩) ?_
        rotate_left
        · cases ho
          intro w' hw'
          (try dsimp only at hw')
          go_simp
          (try with_reducible rfl)
        (try simp only [Act.put, List.setIfInBounds_toArray, List.set_cons_zero, List.set_cons_succ])
        refine takeD 7 (some 33) (v := .int .i64 P) rfl (by kernel_rfl) (by kernel_rfl) (by kernel_rfl) (fun _ _ _ h => h) hS (fun o ho => Or.inl ⟨by cases ho; rfl, ?_⟩) ?_
        · cases ho
          intro w' hw'
          (try dsimp only at hw')
          go_simp
        (try simp only [Act.put, List.setIfInBounds_toArray, List.set_cons_zero, List.set_cons_succ])
        refine takeD 8 (some 34) (v := ?_) rfl (by kernel_rfl) (by kernel_rfl) (by kernel_rfl) (fun _ _ _ h => h) hS (fun o ho => Or.inl ⟨by cases ho; rfl, ?_⟩) ?_
        rotate_left
        · cases ho
          intro w' hw'
          (try dsimp only at hw')
          go_simp
          (try with_reducible rfl)
        (try simp only [Act.put, List.setIfInBounds_toArray, List.set_cons_zero, List.set_cons_succ])
        refine takeD 9 (some 35) (v := ?_) rfl (by kernel_rfl) (by kernel_rfl) (by kernel_rfl) (fun _ _ _ h => h) hS (fun o ho => Or.inl ⟨by cases ho; rfl, ?_⟩) ?_
        rotate_left
        · cases ho
          intro w' hw'
          (try dsimp only at hw')
          go_simp
          (try with_reducible rfl)
        (try simp only [Act.put, List.setIfInBounds_toArray, List.set_cons_zero, List.set_cons_succ])
        refine takeD 10 (some 36) (v := .int .i64 (P % (m : Int))) rfl (by kernel_rfl) (by kernel_rfl) (by kernel_rfl) (fun _ _ _ h => h) hS (fun o ho => Or.inl ⟨by cases ho; rfl, ?_⟩) ?_
        · cases ho
          intro w' hw'
          (try dsimp only at hw')
          go_simp
        (try simp only [Act.put, List.setIfInBounds_toArray, List.set_cons_zero, List.set_cons_succ])
        refine takeD 11 (some 37) (v := ?_) rfl (by kernel_rfl) (by kernel_rfl) (by kernel_rfl) (fun _ _ _ h => h) hS (fun o ho => Or.inl ⟨by cases ho; rfl, ?_⟩) ?_
        rotate_left
        · cases ho
          intro w' hw'
          (try dsimp only at hw')
          go_simp
          (try with_reducible rfl)
        (try simp only [Act.put, List.setIfInBounds_toArray, List.set_cons_zero, List.set_cons_succ])
        refine oneD 12 (some 6) (by kernel_rfl) rfl (fun o ho K hK hdo => ?_)
        simp only [List.getElem?_toArray, List.getElem?_cons_succ, List.getElem?_cons_zero, Option.some.injEq] at ho
        subst ho
        clear hdo
        rw [if_pos (by rfl)]
        go_wp2_with (fail)
        refine hK.out _ _ ?_ (fun hS => ?_)
        · exact ⟨(World.cell?_of_block (Below.heap_alloc _ _ _ hs3a)).trans k0, (World.cell?_of_block (Below.heap_alloc _ _ _ hs3a)).trans k1, (World.cell?_of_block (Below.heap_alloc _ _ _ hs3a)).trans k2⟩
        clear hK K
        (try simp only [Act.put, List.setIfInBounds_toArray, List.set_cons_zero, List.set_cons_succ])
        refine wpAnyH_done (by kernel_rfl) ?_ _
        refine thenD rfl (fun o ho K hK => ?_)
        simp only [List.getElem?_toArray, List.getElem?_cons_succ, List.getElem?_cons_zero, Option.some.injEq] at ho
        subst ho
        clear hS
        go_wp2_with fail
        refine hK.out _ _ ?_
        clear hK K
        clear e7 e10 e10b hm0 hm0' hm0n k0 k1 k2
        have START : ∀ X : World, X = w3.alloc (.cells #[.int .i64 x.base, .int .i64 m, .int .i64 (P % (m : Int)), nilV] 44) → Hid (FillAt w.heap.size w3.heap.size 0 n c x A x.base m (P % (m : Int)) (scaV x dn).W w X none 0) := by
          rintro X rfl
          exact Lib.hid ⟨Blk.new _ _ _, D1.out.alloc _, D2.out.alloc _, ⟨⟨rfl, .inl ⟨rfl, rfl⟩⟩, by simp⟩, hs3, BL3.out.alloc (by omega) _⟩
        go_wp2_with fail
        go_loopw [7] (fun i wr => ∃ (k : Nat) (Ak : Option Addr) (cc : Nat), k ≤ n ∧ i = .int .i64 k ∧ Hid (FillAt w.heap.size w3.heap.size k n c x A x.base m (P % (m : Int)) (scaV x dn).W w wr Ak cc)) (fun i _ => n - (intOf i).toNat)
        case atStart => exact ⟨0, none, 0, by omega, rfl, Lib.hid ((START _ rfl).out.drew 1)⟩
        case round =>
          obtain ⟨k, Ak, cc, hk, rfl, E⟩ := hrel
          obtain ⟨W, rfl⟩ : ∃ W, W = wr := ⟨_, rfl⟩
          have p3 : W.cell? ⟨w.heap.size, 3, none⟩ = some (.slice A n c) := E.out.par.cell 3
          by_cases hlt : k < n
          · have rW := RowB.below R3.out (Below.mono (show Below w.heap.size w3 W from ⟨E.out.bel.os.trans BL3.out.os.symm, E.out.bel.tape.trans BL3.out.tape.symm, E.out.bel.output.trans BL3.out.output.symm, by have := E.out.out.lt; omega, fun g hg => (E.out.bel.block g hg).trans (BL3.out.block g hg).symm⟩) hB)
            obtain ⟨bW, oW, z, rfl, hbW, hz, hcz, _⟩ := rW.at_ hlt
            have hzb := HW35.out z (List.mem_of_getElem? hz)
            have hQ := mul_bd (a := (dn : Int)) (b := z) (by omega) hzb
            have hm0 : (m : Int) ≠ 0 := by omega
            obtain ⟨Q, hQe⟩ : ∃ Q, Q = (dn : Int) * z := ⟨_, rfl⟩
            rw [← hQe] at hQ
            obtain ⟨y, hy⟩ : ∃ y, y = Q % (m : Int) := ⟨_, rfl⟩
            have hyb : 0 ≤ y ∧ y < m := by rw [hy]; exact ⟨Int.emod_nonneg _ hm0, Int.emod_lt_of_pos _ (by omega)⟩
            have hz2 : (scaV x dn).W[k]? = some y := by
              have hmod := HM.out
              unfold scaV
              simp only [List.getElem?_map, hz, Option.map_some]
              rw [hmod, hy, hQe]
            have hwf : (Lit.int .i64 y).wf = true := WalkArith.wf_i64 (by omega)
            have hXc : ∀ X : World, (∀ g, g < W.heap.size → Ak ≠ some ⟨g, 0, none⟩ → X.heap[g]? = W.heap[g]?) → X.cell? ⟨w3.heap.size, 3, none⟩ = some (.slice Ak k cc) ∧ X.cell? ⟨w.heap.size, 3, none⟩ = some (.slice (some ⟨bW, oW, none⟩) n c) ∧ X.cell? ⟨w.heap.size, 1, none⟩ = some (.int .i64 m) ∧ X.cell? ⟨bW, oW + k, none⟩ = some (.int .i64 z) := by
              intro X hX
              refine ⟨(E.out.cells hX).1, (E.out.cells hX).2, (World.cell?_of_block (hX _ E.out.par.lt (blk_neW E.out.par E.out.own.1 (by decide)))).trans ((E.out.par.cell 1).trans (by simp [HM.out])), (World.cell?_of_block (hX bW (by have := E.out.par.lt; omega) (fun e => ?_))).trans hcz⟩
              have := E.out.own.from _ e
              omega
            have hX0 := hXc W (fun _ _ _ => rfl)
            have hout : W.drew.ownsRow w.heap.size 2 1 (.slice Ak k cc) k (cells64 ((scaV x dn).W.take k)) := E.out.own.1
            have HZ := Lib.hid hz2
            have HXC := Lib.hid hXc
            have e7 : IntKind.i64.wrap ((dn : Int) * z) = Q := by rw [← hQe]; exact IntWalk.i64_in _ (by omega)
            have e10 : Q.tmod (m : Int) = y := by rw [hy]; exact tmodN hQ.1
            have e10b : IntKind.i64.wrap y = y := IntWalk.i64_in _ (by omega)
            have hm0n : ¬ m = 0 := by omega
            have hm0' : ((m : Int) == 0) = false := by simpa using hm0
            clear hz hz2 hcz rW hQe hy hXc hzb hm0 p3
            go_wp2_with fail
            refine region_last 15 15 (fun w' => w'.cell? ⟨w3.heap.size, 3, none⟩ = some (.slice Ak k cc) ∧ w'.cell? ⟨w.heap.size, 3, none⟩ = some (.slice (some ⟨bW, oW, none⟩) n c) ∧ w'.cell? ⟨w.heap.size, 1, none⟩ = some (.int .i64 m) ∧ w'.cell? ⟨bW, oW + k, none⟩ = some (.int .i64 z)) (by kernel_rfl) (by kernel_rfl) (by kernel_rfl) hX0 (fun hS => ?_)
            refine takeD 0 (some 45) (v := ?_) rfl (by kernel_rfl) (by kernel_rfl) (by kernel_rfl) (fun _ _ _ h => h) hS (fun o ho => Or.inl ⟨by cases ho; rfl, ?_⟩) ?_
            rotate_left
            · cases ho
              intro w' hw'
              (try dsimp only at hw')
              go_simp
              (try with_reducible rfl)
            (try simp only [Act.put, List.setIfInBounds_toArray, List.set_cons_zero, List.set_cons_succ])
            refine takeD 1 (some 46) (v := ?_) rfl (by kernel_rfl) (by kernel_rfl) (by kernel_rfl) (fun _ _ _ h => h) hS (fun o ho => Or.inl ⟨by cases ho; rfl, ?_⟩) ?_
            rotate_left
            · cases ho
              intro w' hw'
              (try dsimp only at hw')
              go_simp
              (try with_reducible rfl)
            (try simp only [Act.put, List.setIfInBounds_toArray, List.set_cons_zero, List.set_cons_succ])
            refine takeD 2 (some 47) (v := ?_) rfl (by kernel_rfl) (by kernel_rfl) (by kernel_rfl) (fun _ _ _ h => h) hS (fun o ho => Or.inl ⟨by cases ho; rfl, ?_⟩) ?_
            rotate_left
            · cases ho
              intro w' hw'
              (try dsimp only at hw')
              go_simp
              (try with_reducible rfl)
            (try simp only [Act.put, List.setIfInBounds_toArray, List.set_cons_zero, List.set_cons_succ])
            refine takeD 3 (some 48) (v := ?_) rfl (by kernel_rfl) (by kernel_rfl) (by kernel_rfl) (fun _ _ _ h => h) hS (fun o ho => Or.inl ⟨by cases ho; rfl, ?_⟩) ?_
            rotate_left
            · cases ho
              intro w' hw'
              (try dsimp only at hw')
              go_simp
              (try with_reducible rfl)
            (try simp only [Act.put, List.setIfInBounds_toArray, List.set_cons_zero, List.set_cons_succ])
            refine takeD 4 (some 49) (v := ?_) rfl (by kernel_rfl) (by kernel_rfl) (by kernel_rfl) (fun _ _ _ h => h) hS (fun o ho => Or.inl ⟨by cases ho; rfl, ?_⟩) ?_
            rotate_left
            · cases ho
              intro w' hw'
              (try dsimp only at hw')
              go_simp
              (try with_reducible rfl)
            (try simp only [Act.put, List.setIfInBounds_toArray, List.set_cons_zero, List.set_cons_succ])
            refine takeD 5 (some 50) (v := ?_) rfl (by kernel_rfl) (by kernel_rfl) (by kernel_rfl) (fun _ _ _ h => h) hS (fun o ho => Or.inl ⟨by cases ho; rfl, ?_⟩) ?_
            rotate_left
            · cases ho
              intro w' hw'
              (try dsimp only at hw')
              go_simp
              (try with_reducible rfl)
            (try simp only [Act.put, List.setIfInBounds_toArray, List.set_cons_zero, List.set_cons_succ])
            refine takeD 6 (some 51) (v := ?_) rfl (by kernel_rfl) (by kernel_rfl) (by kernel_rfl) (fun _ _ _ h => h) hS (fun o ho => Or.inl ⟨by cases ho; rfl, ?_⟩) ?_
            rotate_left
            · cases ho
              intro w' hw'
              (try dsimp only at hw')
              go_simp
              (try with_reducible rfl)
            (try simp only [Act.put, List.setIfInBounds_toArray, List.set_cons_zero, List.set_cons_succ])
            refine takeD 7 (some 52) (v := ?_) rfl (by kernel_rfl) (by kernel_rfl) (by kernel_rfl) (fun _ _ _ h => h) hS (fun o ho => Or.inl ⟨by cases ho; rfl, ?_⟩) ?_
            rotate_left
            · cases ho
              intro w' hw'
              (try dsimp only at hw')
              go_simp
              (try with_reducible rfl)
            (try simp only [Act.put, List.setIfInBounds_toArray, List.set_cons_zero, List.set_cons_succ])
            refine takeD 8 (some 53) (v := .int .i64 Q) rfl (by kernel_rfl) (by kernel_rfl) (by kernel_rfl) (fun _ _ _ h => h) hS (fun o ho => Or.inl ⟨by cases ho; rfl, ?_⟩) ?_
            · cases ho
              intro w' hw'
              (try dsimp only at hw')
              go_simp
            (try simp only [Act.put, List.setIfInBounds_toArray, List.set_cons_zero, List.set_cons_succ])
            refine takeD 9 (some 54) (v := ?_) rfl (by kernel_rfl) (by kernel_rfl) (by kernel_rfl) (fun _ _ _ h => h) hS (fun o ho => Or.inl ⟨by cases ho; rfl, ?_⟩) ?_
            rotate_left
            · cases ho
              intro w' hw'
              (try dsimp only at hw')
              go_simp
              (try with_reducible rfl)
            (try simp only [Act.put, List.setIfInBounds_toArray, List.set_cons_zero, List.set_cons_succ])
            refine takeD 10 (some 55) (v := ?_) rfl (by kernel_rfl) (by kernel_rfl) (by kernel_rfl) (fun _ _ _ h => h) hS (fun o ho => Or.inl ⟨by cases ho; rfl, ?_⟩) ?_
            rotate_left
            · cases ho
              intro w' hw'
              (try dsimp only at hw')
              go_simp
              (try with_reducible rfl)
            (try simp only [Act.put, List.setIfInBounds_toArray, List.set_cons_zero, List.set_cons_succ])
            refine takeD 11 (some 56) (v := .int .i64 y) rfl (by kernel_rfl) (by kernel_rfl) (by kernel_rfl) (fun _ _ _ h => h) hS (fun o ho => Or.inl ⟨by cases ho; rfl, ?_⟩) ?_
            · cases ho
              intro w' hw'
              (try dsimp only at hw')
              go_simp
            (try simp only [Act.put, List.setIfInBounds_toArray, List.set_cons_zero, List.set_cons_succ])
            refine oneD 12 (some 57) (by kernel_rfl) rfl (fun o ho K hK hdo => ?_)
            simp only [List.getElem?_toArray, List.getElem?_cons_succ, List.getElem?_cons_zero, Option.some.injEq] at ho
            subst ho
            clear hdo
            rw [if_pos (by rfl)]
            go_wp2_with (fail)
            refine hK.out _ _ ?_ (fun hS => ?_)
            · exact HXC.out _ (fun g hg _ => Below.heap_alloc _ _ _ hg)
            clear hK K
            (try simp only [Act.put, List.setIfInBounds_toArray, List.set_cons_zero, List.set_cons_succ])
            refine oneD 13 (some 58) (by kernel_rfl) rfl (fun o ho K hK hdo => ?_)
            simp only [List.getElem?_toArray, List.getElem?_cons_succ, List.getElem?_cons_zero, Option.some.injEq] at ho
            subst ho
            clear hdo
            refine step_append_lies _ rfl (.tmp 46) (.tmp 57) 23 rfl w.heap.size 2 i0 (.int .i64 0) 1 8 Try.underlying23 hi hz0 hz1 hz2 rfl (by decide) (.slice Ak k cc) k (cells64 ((scaV x dn).W.take k)) rfl (hout.alloc _) ⟨W.heap.size, 0, none⟩ 1 1 [.int .i64 y] rfl rfl (cell_oneW _ _ _) (fun u hu => by simp at hu; subst hu; rfl) (by decide) ?d1 ?d2 ?d3 _ rfl ?_
            case d1 => unfold maxLen; omega
            case d2 => omega
            case d3 => have := E.out.par.lt; simp; omega
            intro g3 cc3 W3 ho3 hg3 _ _
            have hk3 : ∀ g, g < W.heap.size → Ak ≠ some ⟨g, 0, none⟩ → W3.heap[g]? = W.heap[g]? := fun g hg hne => by
              rw [hg3.block g (by simp; omega) (fun e => hne (by
                rcases E.out.own.form with ⟨hA, _⟩ | ⟨g', hA, _⟩
                · rw [hA] at e; cases e
                · rw [hA] at e ⊢; simp [Value.ownBlock] at e; rw [e]))]
              exact Below.heap_alloc W _ g hg
            refine hK.out _ _ ?_ (fun hS => ?_)
            · exact HXC.out _ hk3
            clear hK K
            (try simp only [Act.put, List.setIfInBounds_toArray, List.set_cons_zero, List.set_cons_succ])
            refine takeD 14 (some 59) (v := ?_) rfl (by kernel_rfl) (by kernel_rfl) (by kernel_rfl) (fun _ _ _ h => h) hS (fun o ho => Or.inl ⟨by cases ho; rfl, ?_⟩) ?_
            rotate_left
            · cases ho
              intro w' hw'
              (try dsimp only at hw')
              go_simp
              (try with_reducible rfl)
            (try simp only [Act.put, List.setIfInBounds_toArray, List.set_cons_zero, List.set_cons_succ])
            refine wpAnyH_done (by kernel_rfl) ?_ _
            refine thenD rfl (fun o ho K hK => ?_)
            simp only [List.getElem?_toArray, List.getElem?_cons_succ, List.getElem?_cons_zero, Option.some.injEq] at ho
            subst ho
            clear hS
            have zc : W3.cell? ⟨w3.heap.size, 3, none⟩ = some (.slice Ak k cc) := (HXC.out _ hk3).1
            have zf : W3.frozen? ⟨w3.heap.size, 3, none⟩ = false := by
              have hh : Blk W3 w3.heap.size _ _ := (hk3 _ E.out.out.lt (blk_neW E.out.out E.out.own.1 (by decide))).trans E.out.out
              exact hh.frozen 3
            have FIN : Hid (FillAt w.heap.size w3.heap.size (k + 1) n c x (some ⟨bW, oW, none⟩) x.base m (P % (m : Int)) (scaV x dn).W w (W3.setCell ⟨w3.heap.size, 3, none⟩ (.slice (some ⟨g3, 0, none⟩) (k + 1) cc3)) (some ⟨g3, 0, none⟩) cc3) := Lib.hid ((E.out.drew 1).next HZ.out hwf ho3 hg3)
            clear E hk3 ho3 hg3 hout hX0 e7 e10 e10b hm0n hm0'
            go_wp2_with fail
            refine hK.out _ _ ?_
            clear hK K
            go_wp2_with fail
            go_roundw
            case rel => exact ⟨k + 1, _, cc3, by omega, by go_num, FIN⟩
            case measure => simp [intOf]; omega
          · obtain rfl : n = k := by omega
            have hsl : (scaV x dn).W.length = n := by simp [scaV]; exact hl
            obtain ⟨q, FB⟩ := E.out.done hsl
            have FB := Lib.hid FB
            have k0 := E.out.out.cell 0
            have k1 := E.out.out.cell 1
            have k2 := E.out.out.cell 2
            have k3 := E.out.out.cell 3
            have e0 := E.out.ret.cell 0
            have e1 := E.out.ret.cell 1
            have e2 := E.out.ret.cell 2
            have e3 := E.out.ret.cell 3
            have f0 := E.out.ret.frozen 0
            have f1 := E.out.ret.frozen 1
            have f2 := E.out.ret.frozen 2
            have f3 := E.out.ret.frozen 3
            have hne : w.heap.size + 1 ≠ w3.heap.size := by omega
            clear E hsl
            go_wp2_with fail
            obtain ⟨w8, hw8⟩ : ∃ w8, w8 = four W (w.heap.size + 1) (.int .i64 x.base) (.int .i64 m) (.int .i64 (P % (m : Int))) (.slice Ak n cc) := ⟨_, rfl⟩
            rw [← hw8] at q FB
            unfold four at hw8
            rw [← hw8]
            have q0 := q.cell 0
            have q1 := q.cell 1
            have q2 := q.cell 2
            have q3 := q.cell 3
            refine bodyPost_ret (v := .tuple #[.agg #[.int .i64 x.base, .int .i64 m, .int .i64 (P % (m : Int)), .slice Ak n cc], .bool true]) (by simp [results, Try.results47, go_sem, q0, q1, q2, q3]) rfl ?_
            have EO := HO.out
            rw [EO, scaR_yes EO, show scaV x dn = ⟨x.base, m, P % (m : Int), (scaV x dn).W⟩ by unfold scaV; rw [HM.out, HPE.out, HTG.out]]
            exact FB.out
      · have HO : Hid (scaOk x dn = false) := Lib.hid (by unfold scaOk; rw [HW.out, HM.out, H2.out]; simpa using h3)
        obtain ⟨gg, hgg⟩ : ∃ gg, gg = Nat.gcd dn m := ⟨_, rfl⟩
        rw [← hgg] at h3
        have C3 : ∀ W, Calls Try.prog 98 #[.int .i64 dn, .int .i64 m] W fun e w' => e = .returned (.int .i64 gg) ∧ W = w' := fun W => by have := l01Gcd_any dn m W (by omega) (by omega); rw [← hgg] at this; exact this
        have g2 : ((gg : Int) != 1) = true := by simp; omega
        have g3 : ¬ gg = 1 := h3
        clear hgg h3
        go_enter Try.func47, Try.ntmps47
        go_wp2_with fail
        rw [← hw1, ← hw2]
        have HW1 := Lib.hid hw1
        have HW2 := Lib.hid hw2
        clear hw1 hw2
        (go_at_call 77; (with_reducible refine (CI).mono ?_); rintro e w3 ⟨rfl, mm, hw3⟩)
        have bl3 : Below w.heap.size w w3 := by rw [hw3]; exact below_drewN BEL.out mm
        have d1 : Blk w3 w.heap.size (wtCells x A n c) 44 := by rw [hw3]; exact B1.out
        have d2 : Blk w3 (w.heap.size + 1) #[.int .i64 0, .int .i64 0, .int .i64 0, nilV] 44 := by rw [hw3]; exact B2.out
        have r3 : RowB .i64 B w3 A n x.W := by rw [hw3]; exact RowB.drewN R2.out mm
        have hs3 := d2.lt
        have hs3a := d1.lt
        have hs3b : w.heap.size ≠ w3.heap.size := by omega
        have BL3 := Lib.hid bl3
        have D1 := Lib.hid d1
        have D2 := Lib.hid d2
        have R3 := Lib.hid r3
        clear CI hw3 bl3 d1 d2 r3
        have k1 : w3.cell? ⟨w.heap.size, 1, none⟩ = some (.int .i64 m) := by rw [D1.out.cell 1]; simp [HM.out]
        go_wp2_with fail
        (go_at_call 73; (with_reducible refine (C2 _).mono ?_); rintro e w' ⟨rfl, rfl⟩)
        go_wp2_with fail
        (go_at_call 98; (with_reducible refine (C3 _).mono ?_); rintro e w' ⟨rfl, rfl⟩)
        clear C2 C3
        have e0 := D2.out.cell 0
        have e1 := D2.out.cell 1
        have e2 := D2.out.cell 2
        have e3 := D2.out.cell 3
        have fe0 := D2.out.frozen 0
        have fe1 := D2.out.frozen 1
        have fe2 := D2.out.frozen 2
        have fe3 := D2.out.frozen 3
        go_wp2_with fail
        have q : Blk (four w3 (w.heap.size + 1) (.int .i64 0) (.int .i64 0) (.int .i64 0) (.slice none 0 0)) (w.heap.size + 1) #[.int .i64 0, .int .i64 0, .int .i64 0, .slice none 0 0] 44 := four_blk D2.out _ _ _ _
        have FB : Hid (Below w.heap.size w (four w3 (w.heap.size + 1) (.int .i64 0) (.int .i64 0) (.int .i64 0) (.slice none 0 0))) := Lib.hid (four_below BL3.out (by omega) _ _ _ _)
        obtain ⟨w8, hw8⟩ : ∃ w8, w8 = four w3 (w.heap.size + 1) (.int .i64 0) (.int .i64 0) (.int .i64 0) (.slice none 0 0) := ⟨_, rfl⟩
        rw [← hw8] at q FB
        unfold four at hw8
        rw [← hw8]
        have q0 := q.cell 0
        have q1 := q.cell 1
        have q2 := q.cell 2
        have q3 := q.cell 3
        refine bodyPost_ret (v := .tuple #[.agg #[.int .i64 0, .int .i64 0, .int .i64 0, .slice none 0 0], .bool false]) (by simp [results, Try.results47, go_sem, q0, q1, q2, q3]) rfl ?_
        have EO := HO.out
        rw [EO, scaR_no EO]
        exact made_zero FB.out
theorem part_set {ys zs : List Int} {k : Nat} {y : Int} (hl : ys.length = zs.length) (hy : ys[k]? = some y) : (ys.take k ++ zs.drop k).set k y = ys.take (k + 1) ++ zs.drop (k + 1) := by
  have hk := (List.getElem?_eq_some_iff.1 hy).1
  apply List.ext_getElem?
  intro j
  rcases Nat.lt_trichotomy j k with h | h | h
  · rw [List.getElem?_set_ne (by omega), List.getElem?_append_left (by simp; omega), List.getElem?_append_left (by simp; omega)]
    simp [h, show j < k + 1 by omega]
  · subst h
    rw [List.getElem?_set_self (by simp; omega), List.getElem?_append_left (by simp; omega)]
    simp [hy]
  · rw [List.getElem?_set_ne (by omega), List.getElem?_append_right (by simp; omega), List.getElem?_append_right (by simp; omega)]
    simp only [List.getElem?_drop, List.length_take]
    congr 1
    omega
theorem part_at {ys zs : List Int} {k : Nat} (hl : ys.length = zs.length) (hk : k < zs.length) : (ys.take k ++ zs.drop k)[k]? = zs[k]? := by
  rw [List.getElem?_append_right (by simp; omega)]
  simp only [List.getElem?_drop, List.length_take]
  congr 1
  omega
set_option maxRecDepth 100000 in
set_option maxHeartbeats 8000000 in
theorem implSca_any {B : Nat} (x : Wt) (A : Option Addr) (n c : Nat) (d : Int) (w : World) (hr : RowB .i64 B w A n x.W) (hB : B ≤ w.heap.size) :
    Calls Try.prog 48 #[wtV x A n c, .int .i64 d] w (MadeWB w.heap.size (scaR x d) (scaOk x d) w) := by
  have hl := hr.len
  have hn := hr.le
  obtain ⟨w1, hw1⟩ : ∃ w1, w1 = w.alloc (.cells (wtCells x A n c) 44) := ⟨_, rfl⟩
  obtain ⟨w2, hw2⟩ : ∃ w2, w2 = w1.alloc (.cells #[.int .i64 0, .int .i64 0, .int .i64 0, nilV] 44) := ⟨_, rfl⟩
  have sz1 : w1.heap.size = w.heap.size + 1 := by rw [hw1]; simp
  have bel : Below w.heap.size w w2 := by rw [hw2, hw1]; exact ((Below.refl _ w).alloc (Nat.le_refl _) _).alloc (by simp) _
  have b1 : Blk w2 w.heap.size (wtCells x A n c) 44 := by
    have h : Blk w1 w.heap.size (wtCells x A n c) 44 := by rw [hw1]; exact Blk.new _ _ _
    rw [hw2]; exact h.alloc _
  have b2 : Blk w2 (w.heap.size + 1) #[.int .i64 0, .int .i64 0, .int .i64 0, nilV] 44 := by
    have h := Blk.new w1 #[.int .i64 0, .int .i64 0, .int .i64 0, nilV] 44
    rw [sz1] at h
    rw [hw2]; exact h
  have r2 := RowB.below hr (bel.mono hB)
  have CV := validW_any x A n c w2 r2 (Nat.le_trans hB bel.size)
  have BEL := Lib.hid bel
  have R2 := Lib.hid r2
  have B1 := Lib.hid b1
  have B2 := Lib.hid b2
  have hs2 : w.heap.size + 1 < w2.heap.size := b2.lt
  clear bel b1 b2 r2 hr sz1
  rcases h1 : wOk x with _ | _
  · rw [h1] at CV
    have HO : Hid (scaOk x d = false) := Lib.hid (by unfold scaOk; rw [h1]; rfl)
    clear h1
    have k0 := B1.out.cell 0
    have k1 := B1.out.cell 1
    have k2 := B1.out.cell 2
    have k3 := B1.out.cell 3
    have hs2b : w.heap.size ≠ w.heap.size + 1 := by omega
    go_enter Try.func48, Try.ntmps48
    go_wp2_with fail
    rw [← hw1, ← hw2]
    have HW1 := Lib.hid hw1
    have HW2 := Lib.hid hw2
    clear hw1 hw2
    (go_at_call 78; (with_reducible refine (CV).mono ?_); rintro e w3 ⟨rfl, be2⟩)
    have bl3 : Below w.heap.size w w3 := BEL.out.trans (be2.mono BEL.out.size)
    have d1 : Blk w3 w.heap.size (wtCells x A n c) 44 := B1.out.below be2 (by omega)
    have d2 : Blk w3 (w.heap.size + 1) #[.int .i64 0, .int .i64 0, .int .i64 0, nilV] 44 := B2.out.below be2 hs2
    have r3 : RowB .i64 B w3 A n x.W := RowB.below R2.out (be2.mono (Nat.le_trans hB BEL.out.size))
    have hs3 := d2.lt
    have hs3a := d1.lt
    have BL3 := Lib.hid bl3
    have D1 := Lib.hid d1
    have D2 := Lib.hid d2
    have R3 := Lib.hid r3
    clear CV be2 bl3 d1 d2 r3 k0 k1 k2 k3
    have e0 := D2.out.cell 0
    have e1 := D2.out.cell 1
    have e2 := D2.out.cell 2
    have e3 := D2.out.cell 3
    have fe0 := D2.out.frozen 0
    have fe1 := D2.out.frozen 1
    have fe2 := D2.out.frozen 2
    have fe3 := D2.out.frozen 3
    go_wp2_with fail
    have q : Blk (four w3 (w.heap.size + 1) (.int .i64 0) (.int .i64 0) (.int .i64 0) (.slice none 0 0)) (w.heap.size + 1) #[.int .i64 0, .int .i64 0, .int .i64 0, .slice none 0 0] 44 := four_blk D2.out _ _ _ _
    have FB : Hid (Below w.heap.size w (four w3 (w.heap.size + 1) (.int .i64 0) (.int .i64 0) (.int .i64 0) (.slice none 0 0))) := Lib.hid (four_below BL3.out (by omega) _ _ _ _)
    obtain ⟨w8, hw8⟩ : ∃ w8, w8 = four w3 (w.heap.size + 1) (.int .i64 0) (.int .i64 0) (.int .i64 0) (.slice none 0 0) := ⟨_, rfl⟩
    rw [← hw8] at q FB
    unfold four at hw8
    rw [← hw8]
    have q0 := q.cell 0
    have q1 := q.cell 1
    have q2 := q.cell 2
    have q3 := q.cell 3
    refine bodyPost_ret (v := .tuple #[.agg #[.int .i64 0, .int .i64 0, .int .i64 0, .slice none 0 0], .bool false]) (by simp [results, Try.results48, go_sem, q0, q1, q2, q3]) rfl ?_
    have EO := HO.out
    rw [EO, scaR_no EO]
    exact made_zero FB.out
  · rw [h1] at CV
    obtain ⟨bs, m, kk, f⟩ := Wt.fine h1
    have HW := Lib.hid h1
    have hkn : n = kk := by have := f.len; omega
    subst hkn
    have hn20 := f.n20
    have hn1 := f.n1
    have hm2 := f.m2
    have hm36 := f.m36
    have HM := Lib.hid f.modulus
    have HW35 := Lib.hid f.w35
    have ht0 := f.t0
    have htm := f.tm
    clear h1 f
    rcases h2 : inB d 1 ((m : Int) - 1) with _ | _
    · have HO : Hid (scaOk x d = false) := Lib.hid (by unfold scaOk; rw [HW.out, HM.out, h2]; rfl)
      have C2 : ∀ W, Calls Try.prog 75 #[.int .i64 d, .int .i64 1, .int .i64 ((m : Int) - 1)] W fun e w' => e = .returned (.bool false) ∧ W = w' := fun W => by rw [← h2]; exact within_any _ _ _ W
      clear h2
      have k0 := B1.out.cell 0
      have k1 := B1.out.cell 1
      have k2 := B1.out.cell 2
      have k3 := B1.out.cell 3
      have hs2b : w.heap.size ≠ w.heap.size + 1 := by omega
      go_enter Try.func48, Try.ntmps48
      go_wp2_with fail
      rw [← hw1, ← hw2]
      have HW1 := Lib.hid hw1
      have HW2 := Lib.hid hw2
      clear hw1 hw2
      (go_at_call 78; (with_reducible refine (CV).mono ?_); rintro e w3 ⟨rfl, be2⟩)
      have bl3 : Below w.heap.size w w3 := BEL.out.trans (be2.mono BEL.out.size)
      have d1 : Blk w3 w.heap.size (wtCells x A n c) 44 := B1.out.below be2 (by omega)
      have d2 : Blk w3 (w.heap.size + 1) #[.int .i64 0, .int .i64 0, .int .i64 0, nilV] 44 := B2.out.below be2 hs2
      have r3 : RowB .i64 B w3 A n x.W := RowB.below R2.out (be2.mono (Nat.le_trans hB BEL.out.size))
      have hs3 := d2.lt
      have hs3a := d1.lt
      have BL3 := Lib.hid bl3
      have D1 := Lib.hid d1
      have D2 := Lib.hid d2
      have R3 := Lib.hid r3
      clear CV be2 bl3 d1 d2 r3 k0 k1 k2 k3
      have k1 : w3.cell? ⟨w.heap.size, 1, none⟩ = some (.int .i64 m) := by rw [D1.out.cell 1]; simp [HM.out]
      go_wp2_with fail
      (go_at_call 75; (with_reducible refine (C2 _).mono ?_); rintro e w' ⟨rfl, rfl⟩)
      clear k1
      have e0 := D2.out.cell 0
      have e1 := D2.out.cell 1
      have e2 := D2.out.cell 2
      have e3 := D2.out.cell 3
      have fe0 := D2.out.frozen 0
      have fe1 := D2.out.frozen 1
      have fe2 := D2.out.frozen 2
      have fe3 := D2.out.frozen 3
      go_wp2_with fail
      have q : Blk (four w3 (w.heap.size + 1) (.int .i64 0) (.int .i64 0) (.int .i64 0) (.slice none 0 0)) (w.heap.size + 1) #[.int .i64 0, .int .i64 0, .int .i64 0, .slice none 0 0] 44 := four_blk D2.out _ _ _ _
      have FB : Hid (Below w.heap.size w (four w3 (w.heap.size + 1) (.int .i64 0) (.int .i64 0) (.int .i64 0) (.slice none 0 0))) := Lib.hid (four_below BL3.out (by omega) _ _ _ _)
      obtain ⟨w8, hw8⟩ : ∃ w8, w8 = four w3 (w.heap.size + 1) (.int .i64 0) (.int .i64 0) (.int .i64 0) (.slice none 0 0) := ⟨_, rfl⟩
      rw [← hw8] at q FB
      unfold four at hw8
      rw [← hw8]
      have q0 := q.cell 0
      have q1 := q.cell 1
      have q2 := q.cell 2
      have q3 := q.cell 3
      refine bodyPost_ret (v := .tuple #[.agg #[.int .i64 0, .int .i64 0, .int .i64 0, .slice none 0 0], .bool false]) (by simp [results, Try.results48, go_sem, q0, q1, q2, q3]) rfl ?_
      have EO := HO.out
      rw [EO, scaR_no EO]
      exact made_zero FB.out
    · have hd := inB_true.1 h2
      have C2 : ∀ W, Calls Try.prog 75 #[.int .i64 d, .int .i64 1, .int .i64 ((m : Int) - 1)] W fun e w' => e = .returned (.bool true) ∧ W = w' := fun W => by rw [← h2]; exact within_any _ _ _ W
      have H2 := Lib.hid h2
      obtain ⟨dn, hdn⟩ : ∃ dn : Nat, d = dn := ⟨d.toNat, by omega⟩
      subst hdn
      clear h2
      by_cases h3 : Nat.gcd dn m = 1
      · have HO : Hid (scaOk x dn = true) := Lib.hid (by unfold scaOk; rw [HW.out, HM.out, H2.out]; simpa using h3)
        have C3 := fun W => implGcd_yes dn m W (by omega) (by omega)
        rw [h3] at C3
        obtain ⟨tg, htg⟩ : ∃ tg, tg = x.target := ⟨_, rfl⟩
        rw [← htg] at ht0 htm
        have hP := mul_bd (a := tg) (b := (dn : Int)) (by omega) (by omega)
        have HTG := Lib.hid htg
        clear h3 htg
        have k0 := B1.out.cell 0
        have k1 := B1.out.cell 1
        have k2 := B1.out.cell 2
        have k3 := B1.out.cell 3
        have hs2b : w.heap.size ≠ w.heap.size + 1 := by omega
        go_enter Try.func48, Try.ntmps48
        go_wp2_with fail
        rw [← hw1, ← hw2]
        have HW1 := Lib.hid hw1
        have HW2 := Lib.hid hw2
        clear hw1 hw2
        (go_at_call 78; (with_reducible refine (CV).mono ?_); rintro e w3 ⟨rfl, be2⟩)
        have bl3 : Below w.heap.size w w3 := BEL.out.trans (be2.mono BEL.out.size)
        have d1 : Blk w3 w.heap.size (wtCells x A n c) 44 := B1.out.below be2 (by omega)
        have d2 : Blk w3 (w.heap.size + 1) #[.int .i64 0, .int .i64 0, .int .i64 0, nilV] 44 := B2.out.below be2 hs2
        have r3 : RowB .i64 B w3 A n x.W := RowB.below R2.out (be2.mono (Nat.le_trans hB BEL.out.size))
        have hs3 := d2.lt
        have hs3a := d1.lt
        have BL3 := Lib.hid bl3
        have D1 := Lib.hid d1
        have D2 := Lib.hid d2
        have R3 := Lib.hid r3
        clear CV be2 bl3 d1 d2 r3 k0 k1 k2 k3
        have k1 : w3.cell? ⟨w.heap.size, 1, none⟩ = some (.int .i64 m) := by rw [D1.out.cell 1]; simp [HM.out]
        go_wp2_with fail
        (go_at_call 75; (with_reducible refine (C2 _).mono ?_); rintro e w' ⟨rfl, rfl⟩)
        go_wp2_with fail
        (go_at_call 99; (with_reducible refine (C3 _).mono ?_); rintro e w4 ⟨rfl, mq, hw4⟩)
        have bl4 : Below w.heap.size w w4 := by rw [hw4]; exact below_drewN BL3.out mq
        have d1 : Blk w4 w.heap.size (wtCells x A n c) 44 := by rw [hw4]; exact D1.out
        have d2 : Blk w4 (w.heap.size + 1) #[.int .i64 0, .int .i64 0, .int .i64 0, nilV] 44 := by rw [hw4]; exact D2.out
        have r4 : RowB .i64 B w4 A n x.W := by rw [hw4]; exact RowB.drewN R3.out mq
        have hs4 := d2.lt
        have BL4 := Lib.hid bl4
        have D14 := Lib.hid d1
        have D24 := Lib.hid d2
        have R4 := Lib.hid r4
        clear C2 C3 hw4 bl4 d1 d2 r4 k1
        have hPm : 0 ≤ tg * (dn : Int) % (m : Int) ∧ tg * (dn : Int) % (m : Int) < m := ⟨Int.emod_nonneg _ (by omega), Int.emod_lt_of_pos _ (by omega)⟩
        have k1 : w4.cell? ⟨w.heap.size, 1, none⟩ = some (.int .i64 m) := by rw [D14.out.cell 1]; simp [HM.out]
        have k2 : w4.cell? ⟨w.heap.size, 2, none⟩ = some (.int .i64 tg) := by rw [D14.out.cell 2]; simp [HTG.out]
        have k3 : w4.cell? ⟨w.heap.size, 3, none⟩ = some (.slice A n c) := D14.out.cell 3
        have fk2 := D14.out.frozen 2
        have hP1 := hP.1
        have hP2 := hP.2
        have hm0 : ¬ m = 0 := by omega
        obtain ⟨w5, hw5⟩ : ∃ w5, w5 = w4.setCell ⟨w.heap.size, 2, none⟩ (.int .i64 (tg * (dn : Int) % (m : Int))) := ⟨_, rfl⟩
        have p5 : Blk w5 w.heap.size #[.int .i64 x.base, .int .i64 x.modulus, .int .i64 (tg * (dn : Int) % (m : Int)), .slice A n c] 44 := by rw [hw5]; simpa using D14.out.set 2 (.int .i64 (tg * (dn : Int) % (m : Int)))
        have q5 : Blk w5 (w.heap.size + 1) #[.int .i64 0, .int .i64 0, .int .i64 0, nilV] 44 := by rw [hw5]; exact D24.out.other _ (by omega)
        have b5 : Below w.heap.size w w5 := by rw [hw5]; exact BL4.out.setCell (by simp) _
        have b45 : Below w.heap.size w4 w5 := by rw [hw5]; exact (Below.refl _ _).setCell (by simp) _
        have r5 : RowB .i64 B w5 A n x.W := RowB.below R4.out (b45.mono hB)
        have CC := clone_any A n c x.W w5 r5 (by omega) (by omega)
        have P5 := Lib.hid p5
        have Q5 := Lib.hid q5
        have B5 := Lib.hid b5
        clear p5 q5 b5 b45 r5
        go_wp2_with fail
        rw [← hw5]
        have HW5 := Lib.hid hw5
        clear hw5 k1 k2 k3 fk2
        (go_at_call 96; (with_reducible refine (CC).mono ?_); rintro e w6 ⟨A6, c6, rfl, ho6, be6⟩)
        have s5 : w.heap.size + 1 < w5.heap.size := Q5.out.lt
        have d1 := P5.out.below be6 (by omega)
        have d2 := Q5.out.below be6 s5
        have bl6 : Below w.heap.size w w6 := B5.out.trans (be6.mono (by omega))
        have k3 := d1.cell 3
        have fk3 := d1.frozen 3
        obtain ⟨w7, hw7⟩ : ∃ w7, w7 = w6.setCell ⟨w.heap.size, 3, none⟩ (.slice A6 n c6) := ⟨_, rfl⟩
        have p7 : Blk w7 w.heap.size #[.int .i64 x.base, .int .i64 x.modulus, .int .i64 (tg * (dn : Int) % (m : Int)), .slice A6 n c6] 44 := by rw [hw7]; simpa using d1.set 3 (.slice A6 n c6)
        have q7 : Blk w7 (w.heap.size + 1) #[.int .i64 0, .int .i64 0, .int .i64 0, nilV] 44 := by rw [hw7]; exact d2.other _ (by omega)
        have o7 : Own w5.heap.size w7 A6 n c6 x.W := ho6.keep fun g hg => by rw [hw7]; exact heap_setCell_other _ _ _ _ (by have := ho6.from g hg; show g ≠ w.heap.size; omega)
        have b7 : Below w.heap.size w w7 := by rw [hw7]; exact bl6.setCell (by simp) _
        obtain ⟨g, rfl⟩ : ∃ g, A6 = some ⟨g, 0, none⟩ := by
          rcases o7.form with ⟨_, h0, _⟩ | ⟨g, hA, _⟩
          · omega
          · exact ⟨g, hA⟩
        have hg5 : w5.heap.size ≤ g := o7.from g rfl
        have P7 := Lib.hid p7
        have Q7 := Lib.hid q7
        have B7 := Lib.hid b7
        have O7 := Lib.hid o7
        have c73 := p7.cell 3
        clear d1 d2 bl6 be6 ho6 p7 q7 b7 o7 CC
        go_wp2_with fail
        rw [← hw7]
        have HW7 := Lib.hid hw7
        clear hw7 k3 fk3 c73
        have HSL : Hid ((scaV x dn).W.length = x.W.length) := Lib.hid (by simp [scaV])
        go_loopw [8, 46] (fun _ i wr => ∃ k : Nat, k ≤ n ∧ i = .int .i64 k ∧ ∃ w0 mm, wr = World.drewN w0 mm ∧ w0.ownsRow w5.heap.size 2 1 (.slice (some ⟨g, 0, none⟩) n c6) n (cells64 ((scaV x dn).W.take k ++ x.W.drop k)) ∧ Only (some ⟨g, 0, none⟩) w7 w0) (fun _ i _ => n - (intOf i).toNat)
        case atStart => exact ⟨0, by omega, rfl, w7, 0, rfl, by simpa using O7.out.1, Only.refl _ _⟩
        case round =>
          obtain ⟨k, hk, rfl, w0, mm, rfl, ho, hon⟩ := hrel
          have pp : Blk w0 w.heap.size #[.int .i64 x.base, .int .i64 x.modulus, .int .i64 (tg * (dn : Int) % (m : Int)), .slice (some ⟨g, 0, none⟩) n c6] 44 := (hon.block _ (fun e => by injection e with e; injection e with e; omega)).trans P7.out
          by_cases hlt : k < n
          · have hz : x.W[k]? = some (x.W[k]'(by omega)) := List.getElem?_eq_getElem (by omega)
            obtain ⟨z, hze⟩ : ∃ z, z = x.W[k]'(by omega) := ⟨_, rfl⟩
            rw [← hze] at hz
            have hzb := HW35.out z (List.mem_of_getElem? hz)
            have hQ := mul_bd (a := z) (b := (dn : Int)) hzb (by omega)
            have hmn : (m : Int) ≠ 0 := by omega
            obtain ⟨Q, hQe⟩ : ∃ Q, Q = z * (dn : Int) := ⟨_, rfl⟩
            rw [← hQe] at hQ
            obtain ⟨y, hy⟩ : ∃ y, y = Q % (m : Int) := ⟨_, rfl⟩
            have hyb : 0 ≤ y ∧ y < m := by rw [hy]; exact ⟨Int.emod_nonneg _ hmn, Int.emod_lt_of_pos _ (by omega)⟩
            have hz2 : (scaV x dn).W[k]? = some y := by
              have hmod := HM.out
              unfold scaV
              simp only [List.getElem?_map, hz, Option.map_some]
              rw [hmod, hy, hQe, Int.mul_comm]
            have z1 : w0.cell? ⟨w.heap.size, 3, none⟩ = some (.slice (some ⟨g, 0, none⟩) n c6) := pp.cell 3
            have z2 : w0.cell? ⟨w.heap.size, 1, none⟩ = some (.int .i64 m) := by rw [pp.cell 1]; simp [HM.out]
            have z3 : w0.cell? ⟨g, k, none⟩ = some (.int .i64 z) := by
              rw [ho.cellAt k (by omega), cells64, List.getElem?_map, part_at HSL.out (by omega), hz]; rfl
            have zf : w0.frozen? ⟨g, k, none⟩ = false := ho.frozenAt k
            have X : Hid ((w0.setCell ⟨g, k, none⟩ (.int .i64 y)).ownsRow w5.heap.size 2 1 (.slice (some ⟨g, 0, none⟩) n c6) n (cells64 ((scaV x dn).W.take (k + 1) ++ x.W.drop (k + 1))) ∧ Only (some ⟨g, 0, none⟩) w7 (w0.setCell ⟨g, k, none⟩ (.int .i64 y))) := Lib.hid (by
              refine ⟨?_, hon.set _ _⟩
              have e : (cells64 ((scaV x dn).W.take k ++ x.W.drop k)).set k (.int .i64 y) = cells64 ((scaV x dn).W.take (k + 1) ++ x.W.drop (k + 1)) := by
                rw [cells64, ← List.map_set, part_set HSL.out hz2]
              rw [← e]
              exact (ho.stored k (.int .i64 y)).1)
            have e9 : IntKind.i64.wrap (z * (dn : Int)) = Q := by rw [← hQe]; exact IntWalk.i64_in _ (by omega)
            have e12 : Q.tmod (m : Int) = y := by rw [hy]; exact tmodN hQ.1
            have e12b : IntKind.i64.wrap y = y := IntWalk.i64_in _ (by omega)
            have t1 : (0 : Int) ≤ (k : Int) := by omega
            have t2 : (k : Int) < (n : Int) := by omega
            clear hz hz2 hze hQe hy hzb hmn ho hon pp
            go_wp2_with fail
            refine region_last 14 14 (fun w' => w'.cell? ⟨w.heap.size, 3, none⟩ = some (.slice (some ⟨g, 0, none⟩) n c6) ∧ w'.cell? ⟨w.heap.size, 1, none⟩ = some (.int .i64 m) ∧ w'.cell? ⟨g, k, none⟩ = some (.int .i64 z)) (by kernel_rfl) (by kernel_rfl) (by kernel_rfl) ⟨z1, z2, z3⟩ (fun hS => ?_)
            refine takeD 0 (some 49) (v := ?_) rfl (by kernel_rfl) (by kernel_rfl) (by kernel_rfl) (fun _ _ _ h => h) hS (fun o ho => Or.inl ⟨by cases ho; rfl, ?_⟩) ?_
            rotate_left
            · cases ho
              intro w' hw'
              (try dsimp only at hw')
              go_simp
              (try with_reducible rfl)
            (try simp only [Act.put, List.setIfInBounds_toArray, List.set_cons_zero, List.set_cons_succ])
            refine takeD 1 (some 50) (v := ?_) rfl (by kernel_rfl) (by kernel_rfl) (by kernel_rfl) (fun _ _ _ h => h) hS (fun o ho => Or.inl ⟨by cases ho; rfl, ?_⟩) ?_
            rotate_left
            · cases ho
              intro w' hw'
              (try dsimp only at hw')
              go_simp
              (try with_reducible rfl)
            (try simp only [Act.put, List.setIfInBounds_toArray, List.set_cons_zero, List.set_cons_succ])
            refine takeD 2 (some 51) (v := ?_) rfl (by kernel_rfl) (by kernel_rfl) (by kernel_rfl) (fun _ _ _ h => h) hS (fun o ho => Or.inl ⟨by cases ho; rfl, ?_⟩) ?_
            rotate_left
            · cases ho
              intro w' hw'
              (try dsimp only at hw')
              go_simp
              (try with_reducible rfl)
            (try simp only [Act.put, List.setIfInBounds_toArray, List.set_cons_zero, List.set_cons_succ])
            refine takeD 3 (some 52) (v := ?_) rfl (by kernel_rfl) (by kernel_rfl) (by kernel_rfl) (fun _ _ _ h => h) hS (fun o ho => Or.inl ⟨by cases ho; rfl, ?_⟩) ?_
            rotate_left
            · cases ho
              intro w' hw'
              (try dsimp only at hw')
              go_simp
              (try with_reducible rfl)
            (try simp only [Act.put, List.setIfInBounds_toArray, List.set_cons_zero, List.set_cons_succ])
            refine takeD 4 (some 53) (v := ?_) rfl (by kernel_rfl) (by kernel_rfl) (by kernel_rfl) (fun _ _ _ h => h) hS (fun o ho => Or.inl ⟨by cases ho; rfl, ?_⟩) ?_
            rotate_left
            · cases ho
              intro w' hw'
              (try dsimp only at hw')
              go_simp
              (try with_reducible rfl)
            (try simp only [Act.put, List.setIfInBounds_toArray, List.set_cons_zero, List.set_cons_succ])
            refine takeD 5 (some 54) (v := ?_) rfl (by kernel_rfl) (by kernel_rfl) (by kernel_rfl) (fun _ _ _ h => h) hS (fun o ho => Or.inl ⟨by cases ho; rfl, ?_⟩) ?_
            rotate_left
            · cases ho
              intro w' hw'
              (try dsimp only at hw')
              go_simp
              (try with_reducible rfl)
            (try simp only [Act.put, List.setIfInBounds_toArray, List.set_cons_zero, List.set_cons_succ])
            refine takeD 6 (some 55) (v := ?_) rfl (by kernel_rfl) (by kernel_rfl) (by kernel_rfl) (fun _ _ _ h => h) hS (fun o ho => Or.inl ⟨by cases ho; rfl, ?_⟩) ?_
            rotate_left
            · cases ho
              intro w' hw'
              (try dsimp only at hw')
              go_simp
              (try with_reducible rfl)
            (try simp only [Act.put, List.setIfInBounds_toArray, List.set_cons_zero, List.set_cons_succ])
            refine takeD 7 (some 56) (v := ?_) rfl (by kernel_rfl) (by kernel_rfl) (by kernel_rfl) (fun _ _ _ h => h) hS (fun o ho => Or.inl ⟨by cases ho; rfl, ?_⟩) ?_
            rotate_left
            · cases ho
              intro w' hw'
              (try dsimp only at hw')
              go_simp
              (try with_reducible rfl)
            (try simp only [Act.put, List.setIfInBounds_toArray, List.set_cons_zero, List.set_cons_succ])
            refine takeD 8 (some 57) (v := ?_) rfl (by kernel_rfl) (by kernel_rfl) (by kernel_rfl) (fun _ _ _ h => h) hS (fun o ho => Or.inl ⟨by cases ho; rfl, ?_⟩) ?_
            rotate_left
            · cases ho
              intro w' hw'
              (try dsimp only at hw')
              go_simp
              (try with_reducible rfl)
            (try simp only [Act.put, List.setIfInBounds_toArray, List.set_cons_zero, List.set_cons_succ])
            refine takeD 9 (some 58) (v := .int .i64 Q) rfl (by kernel_rfl) (by kernel_rfl) (by kernel_rfl) (fun _ _ _ h => h) hS (fun o ho => Or.inl ⟨by cases ho; rfl, ?_⟩) ?_
            · cases ho
              intro w' hw'
              (try dsimp only at hw')
              go_simp
            (try simp only [Act.put, List.setIfInBounds_toArray, List.set_cons_zero, List.set_cons_succ])
            refine takeD 10 (some 59) (v := ?_) rfl (by kernel_rfl) (by kernel_rfl) (by kernel_rfl) (fun _ _ _ h => h) hS (fun o ho => Or.inl ⟨by cases ho; rfl, ?_⟩) ?_
            rotate_left
            · cases ho
              intro w' hw'
              (try dsimp only at hw')
              go_simp
              (try with_reducible rfl)
            (try simp only [Act.put, List.setIfInBounds_toArray, List.set_cons_zero, List.set_cons_succ])
            refine takeD 11 (some 60) (v := ?_) rfl (by kernel_rfl) (by kernel_rfl) (by kernel_rfl) (fun _ _ _ h => h) hS (fun o ho => Or.inl ⟨by cases ho; rfl, ?_⟩) ?_
            rotate_left
            · cases ho
              intro w' hw'
              (try dsimp only at hw')
              go_simp
              (try with_reducible rfl)
            (try simp only [Act.put, List.setIfInBounds_toArray, List.set_cons_zero, List.set_cons_succ])
            refine takeD 12 (some 61) (v := .int .i64 y) rfl (by kernel_rfl) (by kernel_rfl) (by kernel_rfl) (fun _ _ _ h => h) hS (fun o ho => Or.inl ⟨by cases ho; rfl, ?_⟩) ?_
            · cases ho
              intro w' hw'
              (try dsimp only at hw')
              go_simp
            (try simp only [Act.put, List.setIfInBounds_toArray, List.set_cons_zero, List.set_cons_succ])
            refine takeD 13 (some 62) (v := ?_) rfl (by kernel_rfl) (by kernel_rfl) (by kernel_rfl) (fun _ _ _ h => h) hS (fun o ho => Or.inl ⟨by cases ho; rfl, ?_⟩) ?_
            rotate_left
            · cases ho
              intro w' hw'
              (try dsimp only at hw')
              go_simp
              (try with_reducible rfl)
            (try simp only [Act.put, List.setIfInBounds_toArray, List.set_cons_zero, List.set_cons_succ])
            refine wpAnyH_done (by kernel_rfl) ?_ _
            refine thenD rfl (fun o ho K hK => ?_)
            simp only [List.getElem?_toArray, List.getElem?_cons_succ, List.getElem?_cons_zero, Option.some.injEq] at ho
            subst ho
            clear hS
            clear e9 e12 e12b
            go_wp2_with fail
            refine hK.out _ _ ?_
            clear hK K
            go_wp2_with fail
            go_roundw
            case rel => exact ⟨k + 1, by omega, by go_num, _, mm + 1, rfl, X.out⟩
            case measure => simp [intOf]; omega
          · obtain rfl : n = k := by omega
            have hsl : (scaV x dn).W.length = n := HSL.out.trans hl
            obtain ⟨wv, hwv⟩ : ∃ wv, wv = World.drewN w0 mm := ⟨_, rfl⟩
            rw [← hwv]
            have bl0 : Below w.heap.size w wv := by rw [hwv]; exact below_drewN (B7.out.trans (hon.below fun g' hg' => by injection hg' with hg'; injection hg' with hg'; omega)) mm
            have pv : Blk wv w.heap.size #[.int .i64 x.base, .int .i64 x.modulus, .int .i64 (tg * (dn : Int) % (m : Int)), .slice (some ⟨g, 0, none⟩) n c6] 44 := by rw [hwv]; exact pp
            have rr0 : Blk w0 (w.heap.size + 1) #[.int .i64 0, .int .i64 0, .int .i64 0, nilV] 44 := (hon.block _ (fun e => by injection e with e; injection e with e; omega)).trans Q7.out
            have rr : Blk wv (w.heap.size + 1) #[.int .i64 0, .int .i64 0, .int .i64 0, nilV] 44 := by rw [hwv]; exact rr0
            have q : Blk (four wv (w.heap.size + 1) (.int .i64 x.base) (.int .i64 x.modulus) (.int .i64 (tg * (dn : Int) % (m : Int))) (.slice (some ⟨g, 0, none⟩) n c6)) (w.heap.size + 1) #[.int .i64 x.base, .int .i64 x.modulus, .int .i64 (tg * (dn : Int) % (m : Int)), .slice (some ⟨g, 0, none⟩) n c6] 44 := four_blk rr _ _ _ _
            have e1 : (scaV x dn).W.take n ++ x.W.drop n = (scaV x dn).W := by rw [List.take_of_length_le (by omega), List.drop_eq_nil_of_le (by omega)]; simp
            rw [e1] at ho
            have ho : wv.ownsRow w5.heap.size 2 1 (.slice (some ⟨g, 0, none⟩) n c6) n (cells64 (scaV x dn).W) := by rw [hwv]; exact ho
            clear hon pp rr0 hwv
            have FB : Hid (MadeWB w.heap.size (scaV x dn) true w (.returned (.tuple #[.agg #[.int .i64 x.base, .int .i64 x.modulus, .int .i64 (tg * (dn : Int) % (m : Int)), .slice (some ⟨g, 0, none⟩) n c6], .bool true])) (four wv (w.heap.size + 1) (.int .i64 x.base) (.int .i64 x.modulus) (.int .i64 (tg * (dn : Int) % (m : Int))) (.slice (some ⟨g, 0, none⟩) n c6))) := Lib.hid (by
              refine ⟨some ⟨g, 0, none⟩, c6, ?_, ?_, four_below bl0 (by omega) _ _ _ _⟩
              · have et : (scaV x dn).target = tg * (dn : Int) % (m : Int) := by unfold scaV; dsimp only; rw [HM.out, ← HTG.out, Int.mul_comm]
                show _ = Ending.returned (.tuple #[.agg #[.int .i64 (scaV x dn).base, .int .i64 (scaV x dn).modulus, .int .i64 (scaV x dn).target, .slice _ _ _], .bool true])
                rw [hsl, et]
                rfl
              · rw [hsl]
                have hoo : Own w5.heap.size wv (some ⟨g, 0, none⟩) n c6 (scaV x dn).W := ⟨ho, fun z hz => by
                  unfold scaV at hz
                  simp only [List.mem_map] at hz
                  obtain ⟨u, _, rfl⟩ := hz
                  rw [HM.out]
                  have h1 := Int.emod_nonneg ((dn : Int) * u) (show (m : Int) ≠ 0 by omega)
                  have h2 := Int.emod_lt_of_pos ((dn : Int) * u) (show (0 : Int) < m by omega)
                  exact WalkArith.wf_i64 (by omega)⟩
                exact (hoo.keep fun g' hg' => four_heap _ _ _ _ _ _ (by injection hg' with hg'; injection hg' with hg'; omega)).lower (by have := B5.out.size; omega))
            have k0 := pv.cell 0
            have k1 := pv.cell 1
            have k2 := pv.cell 2
            have k3 := pv.cell 3
            have e0 := rr.cell 0
            have e1 := rr.cell 1
            have e2 := rr.cell 2
            have e3 := rr.cell 3
            have fe0 := rr.frozen 0
            have fe1 := rr.frozen 1
            have fe2 := rr.frozen 2
            have fe3 := rr.frozen 3
            clear ho pv rr bl0
            go_wp2_with fail
            obtain ⟨w8, hw8⟩ : ∃ w8, w8 = four wv (w.heap.size + 1) (.int .i64 x.base) (.int .i64 x.modulus) (.int .i64 (tg * (dn : Int) % (m : Int))) (.slice (some ⟨g, 0, none⟩) n c6) := ⟨_, rfl⟩
            rw [← hw8] at q FB
            unfold four at hw8
            rw [← hw8]
            have q0 := q.cell 0
            have q1 := q.cell 1
            have q2 := q.cell 2
            have q3 := q.cell 3
            refine bodyPost_ret (v := .tuple #[.agg #[.int .i64 x.base, .int .i64 x.modulus, .int .i64 (tg * (dn : Int) % (m : Int)), .slice (some ⟨g, 0, none⟩) n c6], .bool true]) (by simp [results, Try.results48, go_sem, q0, q1, q2, q3]) rfl ?_
            have EO := HO.out
            rw [EO, scaR_yes EO]
            exact FB.out
      · have HO : Hid (scaOk x dn = false) := Lib.hid (by unfold scaOk; rw [HW.out, HM.out, H2.out]; simpa using h3)
        have C3 := fun W => implGcd_yes dn m W (by omega) (by omega)
        obtain ⟨gg, hgg⟩ : ∃ gg, gg = Nat.gcd dn m := ⟨_, rfl⟩
        rw [← hgg] at h3 C3
        have g2 : ((gg : Int) != 1) = true := by simp; omega
        have g3 : ¬ gg = 1 := h3
        clear hgg h3
        have k0 := B1.out.cell 0
        have k1 := B1.out.cell 1
        have k2 := B1.out.cell 2
        have k3 := B1.out.cell 3
        have hs2b : w.heap.size ≠ w.heap.size + 1 := by omega
        go_enter Try.func48, Try.ntmps48
        go_wp2_with fail
        rw [← hw1, ← hw2]
        have HW1 := Lib.hid hw1
        have HW2 := Lib.hid hw2
        clear hw1 hw2
        (go_at_call 78; (with_reducible refine (CV).mono ?_); rintro e w3 ⟨rfl, be2⟩)
        have bl3 : Below w.heap.size w w3 := BEL.out.trans (be2.mono BEL.out.size)
        have d1 : Blk w3 w.heap.size (wtCells x A n c) 44 := B1.out.below be2 (by omega)
        have d2 : Blk w3 (w.heap.size + 1) #[.int .i64 0, .int .i64 0, .int .i64 0, nilV] 44 := B2.out.below be2 hs2
        have r3 : RowB .i64 B w3 A n x.W := RowB.below R2.out (be2.mono (Nat.le_trans hB BEL.out.size))
        have hs3 := d2.lt
        have hs3a := d1.lt
        have BL3 := Lib.hid bl3
        have D1 := Lib.hid d1
        have D2 := Lib.hid d2
        have R3 := Lib.hid r3
        clear CV be2 bl3 d1 d2 r3 k0 k1 k2 k3
        have k1 : w3.cell? ⟨w.heap.size, 1, none⟩ = some (.int .i64 m) := by rw [D1.out.cell 1]; simp [HM.out]
        go_wp2_with fail
        (go_at_call 75; (with_reducible refine (C2 _).mono ?_); rintro e w' ⟨rfl, rfl⟩)
        go_wp2_with fail
        (go_at_call 99; (with_reducible refine (C3 _).mono ?_); rintro e w4 ⟨rfl, mq, hw4⟩)
        have bl4 : Below w.heap.size w w4 := by rw [hw4]; exact below_drewN BL3.out mq
        have d1 : Blk w4 w.heap.size (wtCells x A n c) 44 := by rw [hw4]; exact D1.out
        have d2 : Blk w4 (w.heap.size + 1) #[.int .i64 0, .int .i64 0, .int .i64 0, nilV] 44 := by rw [hw4]; exact D2.out
        have r4 : RowB .i64 B w4 A n x.W := by rw [hw4]; exact RowB.drewN R3.out mq
        have hs4 := d2.lt
        have BL4 := Lib.hid bl4
        have D14 := Lib.hid d1
        have D24 := Lib.hid d2
        have R4 := Lib.hid r4
        clear C2 C3 hw4 bl4 d1 d2 r4 k1
        have e0 := D24.out.cell 0
        have e1 := D24.out.cell 1
        have e2 := D24.out.cell 2
        have e3 := D24.out.cell 3
        have fe0 := D24.out.frozen 0
        have fe1 := D24.out.frozen 1
        have fe2 := D24.out.frozen 2
        have fe3 := D24.out.frozen 3
        go_wp2_with fail
        have q : Blk (four w4 (w.heap.size + 1) (.int .i64 0) (.int .i64 0) (.int .i64 0) (.slice none 0 0)) (w.heap.size + 1) #[.int .i64 0, .int .i64 0, .int .i64 0, .slice none 0 0] 44 := four_blk D24.out _ _ _ _
        have FB : Hid (Below w.heap.size w (four w4 (w.heap.size + 1) (.int .i64 0) (.int .i64 0) (.int .i64 0) (.slice none 0 0))) := Lib.hid (four_below BL4.out (by omega) _ _ _ _)
        obtain ⟨w8, hw8⟩ : ∃ w8, w8 = four w4 (w.heap.size + 1) (.int .i64 0) (.int .i64 0) (.int .i64 0) (.slice none 0 0) := ⟨_, rfl⟩
        rw [← hw8] at q FB
        unfold four at hw8
        rw [← hw8]
        have q0 := q.cell 0
        have q1 := q.cell 1
        have q2 := q.cell 2
        have q3 := q.cell 3
        refine bodyPost_ret (v := .tuple #[.agg #[.int .i64 0, .int .i64 0, .int .i64 0, .slice none 0 0], .bool false]) (by simp [results, Try.results48, go_sem, q0, q1, q2, q3]) rfl ?_
        have EO := HO.out
        rw [EO, scaR_no EO]
        exact made_zero FB.out
end Go.Proofs.Ytakkehjfdeghoab
