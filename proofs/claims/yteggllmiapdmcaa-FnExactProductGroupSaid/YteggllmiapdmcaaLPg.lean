/-
  The walk of the law of ProductGroup.
-/
import Derived.Test.YteggllmiapdmcaaPgS
import Derived.Test.YteggllmiapdmcaaEndG
import Derived.Test.YteggllmiapdmcaaT2
import Derived.Test.YteggllmiapdmcaaHChain
import Derived.Test.YteggllmiapdmcaaLast
import Derived.Test.YteggllmiapdmcaaGp
import Derived.Test.YteggllmiapdmcaaEqB
import Derived.Deep.RegionHeld3
namespace Go.Proofs.Yteggllmiapdmcaa
open Go.RowKit

set_option maxRecDepth 1000000 in
set_option maxHeartbeats 4000000 in
theorem pg_walk (x_aG : Gp) (A_aG : Option Addr) (n_aG c_aG : Nat) (x_aH : Gp) (A_aH : Option Addr) (n_aH c_aH : Nat) (w : World) (h_aG : Rows2 w.heap.size w A_aG n_aG x_aG.G) (h_aH : Rows2 w.heap.size w A_aH n_aH x_aH.G) :
    Calls Try.prog 11 #[gpV x_aG A_aG n_aG c_aG, gpV x_aH A_aH n_aH c_aH] w fun e w' => e = .returned (.bool true) ∧ Below w.heap.size w w' := by
  obtain ⟨r, hr⟩ : ∃ r, r = pgR x_aG.G x_aH.G := ⟨_, rfl⟩
  obtain ⟨ok, hok⟩ : ∃ ok, ok = pgOk x_aG.G x_aH.G := ⟨_, rfl⟩
  have hT : (r.G.map List.length).sum ≤ 2000000 := by rw [hr]; exact pgR_sum _ _
  have CS : ∀ {B1 B2 : Nat} (A : Option Addr) (n c : Nat) (A2 : Option Addr) (m c2 : Nat) (W : World), Rows2 B1 W A n x_aG.G → B1 ≤ W.heap.size → Rows2 B2 W A2 m x_aH.G → B2 ≤ W.heap.size → Calls Try.prog 50 #[gpV x_aG A n c, gpV x_aH A2 m c2] W (MadeGB W.heap.size r ok W) := fun A n c A2 m c2 W h1 hB1 h2 hB2 => by rw [hr, hok]; exact specPg_any x_aG x_aH A n c A2 m c2 W h1 hB1 h2 hB2
  have CI : ∀ {B1 B2 : Nat} (A : Option Addr) (n c : Nat) (A2 : Option Addr) (m c2 : Nat) (W : World), Rows2 B1 W A n x_aG.G → B1 ≤ W.heap.size → Rows2 B2 W A2 m x_aH.G → B2 ≤ W.heap.size → Calls Try.prog 51 #[gpV x_aG A n c, gpV x_aH A2 m c2] W (MadeGB W.heap.size r ok W) := fun A n c A2 m c2 W h1 hB1 h2 hB2 => by rw [hr, hok]; exact implPg_any x_aG x_aH A n c A2 m c2 W h1 hB1 h2 hB2
  unfold MadeGB at CS CI
  clear hr hok
  have H_aG := held_row2 h_aG
  have H_aH := held_row2 h_aH
  have t0 : Hid (w.heap.size ≤ w.heap.size) := Lib.hid (Nat.le_refl _)
  have bel0 : Below w.heap.size w w := Below.refl _ _
  obtain ⟨W1, hW2⟩ : ∃ W1, W1 = w.alloc (.cells #[.slice A_aG n_aG c_aG] 54) := ⟨_, rfl⟩
  have be3 : Below w.heap.size w W1 := by rw [hW2]; exact (Below.refl _ _).alloc (Nat.le_refl _) _
  have bk4 : Blk W1 w.heap.size #[.slice A_aG n_aG c_aG] 54 := by rw [hW2]; exact Blk.new _ _ _
  have lt5 : Hid (w.heap.size < W1.heap.size) := Lib.hid (Blk.lt bk4)
  have h6 := Held.ran H_aG (ran_below be3 _) (Nat.le_refl _) (.inr (Nat.le_refl _))
  have h7 := Held.ran H_aH (ran_below be3 _) (Nat.le_refl _) (.inr (Nat.le_refl _))
  have bel8 : Below w.heap.size w W1 := Below.trans bel0 (Below.mono be3 (Nat.le_refl _))
  have t9 : Hid (w.heap.size ≤ W1.heap.size) := Lib.hid (Nat.le_trans t0.out (Below.size be3))
  clear H_aG H_aH bel0
  have le10 : Hid (w.heap.size ≤ W1.heap.size) := t9
  have t11 : Hid (W1.heap.size ≤ W1.heap.size) := Lib.hid (Nat.le_refl _)
  have h12 := held_blk bk4 (Nat.le_refl _) lt5.out
  clear bk4 be3
  have bk17 := Held.now h12
  have q18 : W1.cell? ⟨w.heap.size, 0, none⟩ = some (.slice A_aG n_aG c_aG) := Blk.cell bk17 0
  clear bk17
  have lt19 : w.heap.size < W1.heap.size := Nat.lt_of_lt_of_le lt5.out (Nat.le_refl _)
  have ne20 : w.heap.size ≠ W1.heap.size := Nat.ne_of_lt lt19
  obtain ⟨W13, hW14⟩ : ∃ W13, W13 = W1.alloc (.cells #[.slice A_aH n_aH c_aH] 54) := ⟨_, rfl⟩
  have be15 : Below W1.heap.size W1 W13 := by rw [hW14]; exact (Below.refl _ _).alloc (Nat.le_refl _) _
  have bk16 : Blk W13 W1.heap.size #[.slice A_aH n_aH c_aH] 54 := by rw [hW14]; exact Blk.new _ _ _
  have lt21 : Hid (W1.heap.size < W13.heap.size) := Lib.hid (Blk.lt bk16)
  have h22 := Held.ran h6 (ran_below be15 _) (Nat.le_trans (le10.out) t11.out) (.inr (Nat.le_refl _))
  have h23 := Held.ran h7 (ran_below be15 _) (Nat.le_trans (le10.out) t11.out) (.inr (Nat.le_refl _))
  have h24 := Held.ran h12 (ran_below be15 _) (Nat.le_refl _) (.inr (Nat.le_refl _))
  have bel25 : Below w.heap.size w W13 := Below.trans bel8 (Below.mono be15 (Nat.le_trans (le10.out) t11.out))
  have t26 : Hid (W1.heap.size ≤ W13.heap.size) := Lib.hid (Nat.le_trans t11.out (Below.size be15))
  clear h6 h7 h12 bel8
  have le27 : Hid (W1.heap.size ≤ W13.heap.size) := t26
  have t28 : Hid (W13.heap.size ≤ W13.heap.size) := Lib.hid (Nat.le_refl _)
  have h29 := held_blk bk16 (Nat.le_refl _) lt21.out
  clear bk16 be15
  go_enter Try.func11, Try.ntmps11
  go_wp2_with fail
  have hsz30 : W1.heap.size = w.heap.size + 1 := by rw [hW2]; simp
  rw [show w.alloc (.cells #[.slice A_aG n_aG c_aG] 54) = W1 from hW2.symm]
  clear hW2
  rw [show W1.alloc (.cells #[.slice A_aH n_aH c_aH] 54) = W13 from hW14.symm]
  clear hW14
  rw [← hsz30]
  clear hsz30
  clear q18 lt19 ne20
  (go_at_call 42; (with_reducible refine (szGroup_any x_aG _ _ _ 1048576 _ (Rows2.up (Held.now h22) (Nat.le_trans (Nat.le_trans (le10.out) le27.out) t28.out)) (by omega) (by omega) (Nat.le_refl _)).mono ?_); rintro e W32 ⟨rfl, b31⟩)
  have h33 := Held.ran h22 (ran_below b31 _) (Nat.le_trans (Nat.le_trans (le10.out) le27.out) t28.out) (.inr (Nat.le_refl _))
  have h34 := Held.ran h23 (ran_below b31 _) (Nat.le_trans (Nat.le_trans (le10.out) le27.out) t28.out) (.inr (Nat.le_refl _))
  have h35 := Held.ran h24 (ran_below b31 _) (Nat.le_trans (le27.out) t28.out) (.inr (Nat.le_refl _))
  have h36 := Held.ran h29 (ran_below b31 _) (Nat.le_refl _) (.inr (Nat.le_refl _))
  have bel37 : Below w.heap.size w W32 := Below.trans bel25 (Below.mono b31 (Nat.le_trans (Nat.le_trans (le10.out) le27.out) t28.out))
  have t38 : Hid (W13.heap.size ≤ W32.heap.size) := Lib.hid (Nat.le_trans t28.out (Below.size b31))
  clear h22 h23 h24 h29 bel25
  clear b31
  by_cases big39 : (1048576 : Int) < ((tot2 x_aG.G) : Nat)
  · rw [szF_big big39]
    go_wp2_with fail
    go_ret
    exact ⟨rfl, bel37⟩
  have e40 := szF_ok big39
  have H41 : Hid ((tot2 x_aG.G) ≤ 1048576) := Lib.hid (by omega)
  have hbd_aG : (tot2 x_aG.G) ≤ 1048576 := H41.out
  have hz44 : 0 ≤ szF 1048576 (tot2 x_aG.G) ∧ szF 1048576 (tot2 x_aG.G) ≤ 1048576 := by rw [e40]; omega
  generalize szF 1048576 (tot2 x_aG.G) = LEFT42 at hz44 ⊢
  clear e40 big39
  have HL43 := Lib.hid hz44
  have hz44a := hz44.1
  clear hz44
  have bk45 := Held.now h36
  have q46 := Blk.cell bk45 0
  clear bk45
  go_wp2_with fail
  (go_at_call 42; (with_reducible refine (szGroup_any x_aH _ _ _ LEFT42 _ (Rows2.up (Held.now h34) (Nat.le_trans (Nat.le_trans (le10.out) le27.out) t38.out)) HL43.out.1 HL43.out.2 (Nat.le_refl _)).mono ?_); rintro e W48 ⟨rfl, b47⟩)
  have h49 := Held.ran h33 (ran_below b47 _) (Nat.le_trans (Nat.le_trans (le10.out) le27.out) t38.out) (.inr (Nat.le_refl _))
  have h50 := Held.ran h34 (ran_below b47 _) (Nat.le_trans (Nat.le_trans (le10.out) le27.out) t38.out) (.inr (Nat.le_refl _))
  have h51 := Held.ran h35 (ran_below b47 _) (Nat.le_trans (le27.out) t38.out) (.inr (Nat.le_refl _))
  have h52 := Held.ran h36 (ran_below b47 _) (Nat.le_trans (Nat.le_refl _) t38.out) (.inr (Nat.le_refl _))
  have bel53 : Below w.heap.size w W48 := Below.trans bel37 (Below.mono b47 (Nat.le_trans (Nat.le_trans (le10.out) le27.out) t38.out))
  have t54 : Hid (W13.heap.size ≤ W48.heap.size) := Lib.hid (Nat.le_trans t38.out (Below.size b47))
  clear h33 h34 h35 h36 bel37
  clear b47
  clear q46
  by_cases big55 : (LEFT42 : Int) < ((tot2 x_aH.G) : Nat)
  · rw [szF_big big55]
    go_wp2_with fail
    go_ret
    exact ⟨rfl, bel53⟩
  have e56 := szF_ok big55
  have hqe56 := HL43.out
  have H57 : Hid ((tot2 x_aH.G) ≤ 1048576) := Lib.hid (by omega)
  have hbd_aH : (tot2 x_aH.G) ≤ 1048576 := H57.out
  have hz60 : 0 ≤ szF LEFT42 (tot2 x_aH.G) ∧ szF LEFT42 (tot2 x_aH.G) ≤ 1048576 := by rw [e56]; omega
  clear hqe56
  generalize szF LEFT42 (tot2 x_aH.G) = LEFT58 at hz60 ⊢
  clear e56 big55
  have HL59 := Lib.hid hz60
  have hz60a := hz60.1
  clear hz60
  have le61 : Hid (W13.heap.size ≤ W48.heap.size) := t54
  have t62 : Hid (W48.heap.size ≤ W48.heap.size) := Lib.hid (Nat.le_refl _)
  have bk63 := Held.now h51
  have q64 : W48.cell? ⟨w.heap.size, 0, none⟩ = some (.slice A_aG n_aG c_aG) := Blk.cell bk63 0
  clear bk63
  have lt65 : w.heap.size < W48.heap.size := Nat.lt_of_lt_of_le lt5.out (Nat.le_trans (Nat.le_trans (le27.out) le61.out) t62.out)
  have bk66 := Held.now h52
  have q67 : W48.cell? ⟨W1.heap.size, 0, none⟩ = some (.slice A_aH n_aH c_aH) := Blk.cell bk66 0
  clear bk66
  have lt68 : W1.heap.size < W48.heap.size := Nat.lt_of_lt_of_le lt21.out (Nat.le_trans (le61.out) t62.out)
  have R69 := Lib.hid (Rows2.up (Held.now h49) (Nat.le_trans (Nat.le_trans (Nat.le_trans (le10.out) le27.out) le61.out) t62.out))
  have R70 := Lib.hid (Rows2.up (Held.now h50) (Nat.le_trans (Nat.le_trans (Nat.le_trans (le10.out) le27.out) le61.out) t62.out))
  go_wp2_with fail
  obtain ⟨W71, hW72⟩ : ∃ X, X = World.drew W48 := ⟨_, rfl⟩
  have bd73 : Below W48.heap.size W48 W71 := by rw [hW72]; exact below_drewL _
  have sdW71 : W48.heap.size ≤ W71.heap.size := by rw [hW72]; exact Nat.le_refl _
  have seW71 : W71.heap.size ≤ W48.heap.size := by rw [hW72]; exact Nat.le_refl _
  have dq74 : W71.cell? ⟨w.heap.size, 0, none⟩ = some (.slice A_aG n_aG c_aG) := by rw [hW72]; exact q64
  have dq75 : W71.cell? ⟨W1.heap.size, 0, none⟩ = some (.slice A_aH n_aH c_aH) := by rw [hW72]; exact q67
  have RD76 : Rows2 W48.heap.size W71 A_aG n_aG x_aG.G := by rw [hW72]; exact (R69.out).drewN 1
  have RD77 : Rows2 W48.heap.size W71 A_aH n_aH x_aH.G := by rw [hW72]; exact (R70.out).drewN 1
  go_cut [6, 7] (fun s6 s7 wx => ∃ A c L g, s6 = .pointer (some ⟨g, 0, none⟩) ∧ s7 = .bool ok ∧ Hid (EndG (W48.heap.size) r W71 wx A c L g))
  case first =>
    refine region_held_n 11 (fun w' => w'.cell? ⟨w.heap.size, 0, none⟩ = some (.slice A_aG n_aG c_aG) ∧ w'.cell? ⟨W1.heap.size, 0, none⟩ = some (.slice A_aH n_aH c_aH)) (by kernel_rfl) (by kernel_rfl) ⟨q64, q67⟩ (fun hS => ?_)
    rw [← hW72] at hS ⊢
    clear hW72 q64 q67
    have hb0z : Below (W48.heap.size) W71 W71 := Below.refl _ _
    refine takeD 0 (some 28) (v := ?_) rfl (by kernel_rfl) (by kernel_rfl) (by kernel_rfl) (fun _ _ _ h => h) hS (fun o ho => Or.inl ⟨by cases ho; rfl, ?_⟩) ?_
    rotate_left
    · cases ho
      intro w' hw'
      (try dsimp only at hw')
      go_simp
      (try with_reducible rfl)
    (try simp only [Act.put, List.setIfInBounds_toArray, List.set_cons_zero, List.set_cons_succ])
    refine takeD 2 (some 30) (v := ?_) rfl (by kernel_rfl) (by kernel_rfl) (by kernel_rfl) (fun _ _ _ h => h) hS (fun o ho => Or.inl ⟨by cases ho; rfl, ?_⟩) ?_
    rotate_left
    · cases ho
      intro w' hw'
      (try dsimp only at hw')
      go_simp
      (try with_reducible rfl)
    (try simp only [Act.put, List.setIfInBounds_toArray, List.set_cons_zero, List.set_cons_succ])
    refine wpAnyH_ready (rs := [1, 8]) (by kernel_rfl) (by simp) ?_
    refine consD 1 (some 29) rfl (fun o ho K hK hdo => ?_) ?_
    · simp only [List.getElem?_toArray, List.getElem?_cons_succ, List.getElem?_cons_zero, Option.some.injEq] at ho
      subst ho
      clear hdo
      rw [if_pos (by rfl)]
      go_wp2_with fail
      (go_at_call 44; (with_reducible refine (toGroup_any x_aG _ _ _ _ (Rows2.below RD76 hb0z) (by have := hb0z.size; omega) H41.out).mono ?_); rintro e W1z ⟨A4z, c5z, L6z, rfl, o3z, b2z⟩)
      have sz7z := b2z.size
      have hb8z : Below (W48.heap.size) W71 W1z := hb0z.trans (b2z.mono (by have := hb0z.size; omega))
      have bc9z : Below W1z.heap.size W1z W1z := Below.refl _ _
      refine hK.out _ _ ?_ (fun hS => ?_)
      · exact ⟨(hb8z.cell (p := ⟨w.heap.size, 0, none⟩) (show w.heap.size < W48.heap.size by omega)).trans dq74, (hb8z.cell (p := ⟨W1.heap.size, 0, none⟩) (show W1.heap.size < W48.heap.size by omega)).trans dq75⟩
      clear hK K
      (try simp only [Act.put, List.setIfInBounds_toArray, List.set_cons_zero, List.set_cons_succ])
      refine wpAnyH_ready (rs := [3, 8]) (by kernel_rfl) (by simp) ?_
      refine consD 3 (some 31) rfl (fun o ho K hK hdo => ?_) ?_
      · simp only [List.getElem?_toArray, List.getElem?_cons_succ, List.getElem?_cons_zero, Option.some.injEq] at ho
        subst ho
        clear hdo
        rw [if_pos (by rfl)]
        go_wp2_with fail
        (go_at_call 44; (with_reducible refine (toGroup_any x_aH _ _ _ _ (Rows2.below RD77 hb8z) (by have := hb8z.size; omega) H57.out).mono ?_); rintro e W10z ⟨A13z, c14z, L15z, rfl, o12z, b11z⟩)
        have sz16z := b11z.size
        have hb17z : Below (W48.heap.size) W71 W10z := hb8z.trans (b11z.mono (by have := hb8z.size; omega))
        have bc18z : Below W1z.heap.size W1z W10z := bc9z.trans (b11z.mono bc9z.size)
        have bc19z : Below W10z.heap.size W10z W10z := Below.refl _ _
        refine hK.out _ _ ?_ (fun hS => ?_)
        · exact ⟨(hb17z.cell (p := ⟨w.heap.size, 0, none⟩) (show w.heap.size < W48.heap.size by omega)).trans dq74, (hb17z.cell (p := ⟨W1.heap.size, 0, none⟩) (show W1.heap.size < W48.heap.size by omega)).trans dq75⟩
        clear hK K
        (try simp only [Act.put, List.setIfInBounds_toArray, List.set_cons_zero, List.set_cons_succ])
        refine wpAnyH_ready (rs := [4, 8]) (by kernel_rfl) (by simp) ?_
        refine consD 4 (some 32) rfl (fun o ho K hK hdo => ?_) ?_
        · simp only [List.getElem?_toArray, List.getElem?_cons_succ, List.getElem?_cons_zero, Option.some.injEq] at ho
          subst ho
          clear hdo
          rw [if_pos (by rfl)]
          have rr26z := Rows2.up (Rows2.below (Own2.row o3z) bc18z) bc18z.size
          have rr27z := Rows2.up (Rows2.below (Own2.row o12z) bc19z) bc19z.size
          go_wp2_with fail
          (go_at_call 50; (with_reducible refine (CS _ _ _ _ _ _ _ rr26z (Nat.le_refl _) rr27z (Nat.le_refl _)).mono ?_); rintro e W20z ⟨A23z, c24z, L25z, rfl, o22z, b21z⟩)
          have sz28z := b21z.size
          have hb29z : Below (W48.heap.size) W71 W20z := hb17z.trans (b21z.mono (by have := hb17z.size; omega))
          have bc30z : Below W1z.heap.size W1z W20z := bc18z.trans (b21z.mono bc18z.size)
          have bc31z : Below W10z.heap.size W10z W20z := bc19z.trans (b21z.mono bc19z.size)
          refine hK.out _ _ ?_ (fun hS => ?_)
          · exact ⟨(hb29z.cell (p := ⟨w.heap.size, 0, none⟩) (show w.heap.size < W48.heap.size by omega)).trans dq74, (hb29z.cell (p := ⟨W1.heap.size, 0, none⟩) (show W1.heap.size < W48.heap.size by omega)).trans dq75⟩
          clear hK K
          (try simp only [Act.put, List.setIfInBounds_toArray, List.set_cons_zero, List.set_cons_succ])
          refine takeD 5 (some 27) (v := ?_) rfl (by kernel_rfl) (by kernel_rfl) (by kernel_rfl) (fun _ _ _ h => h) hS (fun o ho => Or.inl ⟨by cases ho; rfl, ?_⟩) ?_
          rotate_left
          · cases ho
            intro w' hw'
            (try dsimp only at hw')
            go_simp
            (try with_reducible rfl)
          (try simp only [Act.put, List.setIfInBounds_toArray, List.set_cons_zero, List.set_cons_succ])
          refine takeD 6 (some 33) (v := ?_) rfl (by kernel_rfl) (by kernel_rfl) (by kernel_rfl) (fun _ _ _ h => h) hS (fun o ho => Or.inl ⟨by cases ho; rfl, ?_⟩) ?_
          rotate_left
          · cases ho
            intro w' hw'
            (try dsimp only at hw')
            go_simp
            (try with_reducible rfl)
          (try simp only [Act.put, List.setIfInBounds_toArray, List.set_cons_zero, List.set_cons_succ])
          refine takeD 7 (some 34) (v := ?_) rfl (by kernel_rfl) (by kernel_rfl) (by kernel_rfl) (fun _ _ _ h => h) hS (fun o ho => Or.inl ⟨by cases ho; rfl, ?_⟩) ?_
          rotate_left
          · cases ho
            intro w' hw'
            (try dsimp only at hw')
            go_simp
            (try with_reducible rfl)
          (try simp only [Act.put, List.setIfInBounds_toArray, List.set_cons_zero, List.set_cons_succ])
          refine oneD 8 (some 6) (by kernel_rfl) rfl (fun o ho K hK hdo => ?_)
          simp only [List.getElem?_toArray, List.getElem?_cons_succ, List.getElem?_cons_zero, Option.some.injEq] at ho
          subst ho
          clear hdo
          rw [if_pos (by rfl)]
          go_wp2_with fail
          obtain ⟨W32z, h33z⟩ : ∃ X, X = W20z.alloc (.cells #[nilV] 26) := ⟨_, rfl⟩
          rw [← h33z]
          have b34z : Below W20z.heap.size W20z W32z := by rw [h33z]; exact (Below.refl _ _).alloc (Nat.le_refl _) _
          have bx35z : Blk W32z W20z.heap.size #[nilV] 26 := by rw [h33z]; exact Blk.new _ _ _
          clear h33z
          have lz36z := bx35z.lt
          have sz37z := b34z.size
          have hb38z : Below (W48.heap.size) W71 W32z := hb29z.trans (b34z.mono (by have := hb29z.size; omega))
          have bc39z : Below W1z.heap.size W1z W32z := bc30z.trans (b34z.mono bc30z.size)
          have bc40z : Below W10z.heap.size W10z W32z := bc31z.trans (b34z.mono bc31z.size)
          have ow41z := Own2.keepL o22z (fun q hq => b34z.block q (o22z.olt q hq)) (fun t ht q hq => b34z.block q (o22z.lt t ht q hq))
          refine hK.out _ _ ?_ (fun hS => ?_)
          · exact ⟨(hb38z.cell (p := ⟨w.heap.size, 0, none⟩) (show w.heap.size < W48.heap.size by omega)).trans dq74, (hb38z.cell (p := ⟨W1.heap.size, 0, none⟩) (show W1.heap.size < W48.heap.size by omega)).trans dq75⟩
          clear hK K
          (try simp only [Act.put, List.setIfInBounds_toArray, List.set_cons_zero, List.set_cons_succ])
          have q42z := bx35z.cell 0
          have f43z := bx35z.frozen 0
          have E44z : Hid (EndG (W48.heap.size) r W71 (W32z.setCell ⟨W20z.heap.size, 0, none⟩ (.slice A23z r.G.length c24z)) A23z c24z L25z (W20z.heap.size)) := Lib.hid (EndG.made bx35z ow41z (by omega) (by omega) hb38z (fun q hq => by have h1 := Own2.ofrom o22z q hq; have h2 := Own2.olt o22z q hq; omega) (fun t ht q hq => by have h1 := Own2.from o22z t ht q hq; have h2 := Own2.lt o22z t ht q hq; omega))
          refine oneD 9 none (by kernel_rfl) rfl (fun o ho K hK hdo => ?_)
          simp only [List.getElem?_toArray, List.getElem?_cons_succ, List.getElem?_cons_zero, Option.some.injEq] at ho
          subst ho
          clear hdo
          rw [if_pos (by rfl)]
          go_wp2_with fail
          refine hK.out undef _ ?_ (fun hS => ?_)
          · exact ⟨(E44z.out.bel.cell (p := ⟨w.heap.size, 0, none⟩) (show w.heap.size < W48.heap.size by omega)).trans dq74, (E44z.out.bel.cell (p := ⟨W1.heap.size, 0, none⟩) (show W1.heap.size < W48.heap.size by omega)).trans dq75⟩
          clear hK K
          (try simp only [Act.put])
          refine takeD 10 (some 7) (v := ?_) rfl (by kernel_rfl) (by kernel_rfl) (by kernel_rfl) (fun _ _ _ h => h) hS (fun o ho => Or.inl ⟨by cases ho; rfl, ?_⟩) ?_
          rotate_left
          · cases ho
            intro w' hw'
            (try dsimp only at hw')
            go_simp
            (try with_reducible rfl)
          (try simp only [Act.put, List.setIfInBounds_toArray, List.set_cons_zero, List.set_cons_succ])
          refine wpAnyH_done (by kernel_rfl) ?_ _
          clear hS
          go_wp2_with fail
          go_meet
          exact ⟨_, _, _, _, rfl, rfl, E44z⟩
        refine consD 8 (some 6) rfl (fun o ho K hK hdo => ?_) ?_
        · simp only [List.getElem?_toArray, List.getElem?_cons_succ, List.getElem?_cons_zero, Option.some.injEq] at ho
          subst ho
          clear hdo
          rw [if_pos (by rfl)]
          go_wp2_with fail
          obtain ⟨W45z, h46z⟩ : ∃ X, X = W10z.alloc (.cells #[nilV] 26) := ⟨_, rfl⟩
          rw [← h46z]
          have b47z : Below W10z.heap.size W10z W45z := by rw [h46z]; exact (Below.refl _ _).alloc (Nat.le_refl _) _
          have bx48z : Blk W45z W10z.heap.size #[nilV] 26 := by rw [h46z]; exact Blk.new _ _ _
          clear h46z
          have lz49z := bx48z.lt
          have sz50z := b47z.size
          have hb51z : Below (W48.heap.size) W71 W45z := hb17z.trans (b47z.mono (by have := hb17z.size; omega))
          have bc52z : Below W1z.heap.size W1z W45z := bc18z.trans (b47z.mono bc18z.size)
          have bc53z : Below W10z.heap.size W10z W45z := bc19z.trans (b47z.mono bc19z.size)
          refine hK.out _ _ ?_ (fun hS => ?_)
          · exact ⟨(hb51z.cell (p := ⟨w.heap.size, 0, none⟩) (show w.heap.size < W48.heap.size by omega)).trans dq74, (hb51z.cell (p := ⟨W1.heap.size, 0, none⟩) (show W1.heap.size < W48.heap.size by omega)).trans dq75⟩
          clear hK K
          (try simp only [Act.put, List.setIfInBounds_toArray, List.set_cons_zero, List.set_cons_succ])
          refine oneD 4 (some 32) (by kernel_rfl) rfl (fun o ho K hK hdo => ?_)
          simp only [List.getElem?_toArray, List.getElem?_cons_succ, List.getElem?_cons_zero, Option.some.injEq] at ho
          subst ho
          clear hdo
          rw [if_pos (by rfl)]
          have rr60z := Rows2.up (Rows2.below (Own2.row o3z) bc52z) bc52z.size
          have rr61z := Rows2.up (Rows2.below (Own2.row o12z) bc53z) bc53z.size
          go_wp2_with fail
          (go_at_call 50; (with_reducible refine (CS _ _ _ _ _ _ _ rr60z (Nat.le_refl _) rr61z (Nat.le_refl _)).mono ?_); rintro e W54z ⟨A57z, c58z, L59z, rfl, o56z, b55z⟩)
          have sz62z := b55z.size
          have hb63z : Below (W48.heap.size) W71 W54z := hb51z.trans (b55z.mono (by have := hb51z.size; omega))
          have bc64z : Below W1z.heap.size W1z W54z := bc52z.trans (b55z.mono bc52z.size)
          have bc65z : Below W10z.heap.size W10z W54z := bc53z.trans (b55z.mono bc53z.size)
          have bx66z := bx48z.below b55z bx48z.lt
          refine hK.out _ _ ?_ (fun hS => ?_)
          · exact ⟨(hb63z.cell (p := ⟨w.heap.size, 0, none⟩) (show w.heap.size < W48.heap.size by omega)).trans dq74, (hb63z.cell (p := ⟨W1.heap.size, 0, none⟩) (show W1.heap.size < W48.heap.size by omega)).trans dq75⟩
          clear hK K
          (try simp only [Act.put, List.setIfInBounds_toArray, List.set_cons_zero, List.set_cons_succ])
          refine takeD 5 (some 27) (v := ?_) rfl (by kernel_rfl) (by kernel_rfl) (by kernel_rfl) (fun _ _ _ h => h) hS (fun o ho => Or.inl ⟨by cases ho; rfl, ?_⟩) ?_
          rotate_left
          · cases ho
            intro w' hw'
            (try dsimp only at hw')
            go_simp
            (try with_reducible rfl)
          (try simp only [Act.put, List.setIfInBounds_toArray, List.set_cons_zero, List.set_cons_succ])
          refine takeD 6 (some 33) (v := ?_) rfl (by kernel_rfl) (by kernel_rfl) (by kernel_rfl) (fun _ _ _ h => h) hS (fun o ho => Or.inl ⟨by cases ho; rfl, ?_⟩) ?_
          rotate_left
          · cases ho
            intro w' hw'
            (try dsimp only at hw')
            go_simp
            (try with_reducible rfl)
          (try simp only [Act.put, List.setIfInBounds_toArray, List.set_cons_zero, List.set_cons_succ])
          refine takeD 7 (some 34) (v := ?_) rfl (by kernel_rfl) (by kernel_rfl) (by kernel_rfl) (fun _ _ _ h => h) hS (fun o ho => Or.inl ⟨by cases ho; rfl, ?_⟩) ?_
          rotate_left
          · cases ho
            intro w' hw'
            (try dsimp only at hw')
            go_simp
            (try with_reducible rfl)
          (try simp only [Act.put, List.setIfInBounds_toArray, List.set_cons_zero, List.set_cons_succ])
          have q67z := bx66z.cell 0
          have f68z := bx66z.frozen 0
          have E69z : Hid (EndG (W48.heap.size) r W71 (W54z.setCell ⟨W10z.heap.size, 0, none⟩ (.slice A57z r.G.length c58z)) A57z c58z L59z (W10z.heap.size)) := Lib.hid (EndG.made bx66z o56z (by omega) (by omega) hb63z (fun q hq => by have h1 := Own2.ofrom o56z q hq; have h2 := Own2.olt o56z q hq; omega) (fun t ht q hq => by have h1 := Own2.from o56z t ht q hq; have h2 := Own2.lt o56z t ht q hq; omega))
          refine oneD 9 none (by kernel_rfl) rfl (fun o ho K hK hdo => ?_)
          simp only [List.getElem?_toArray, List.getElem?_cons_succ, List.getElem?_cons_zero, Option.some.injEq] at ho
          subst ho
          clear hdo
          rw [if_pos (by rfl)]
          go_wp2_with fail
          refine hK.out undef _ ?_ (fun hS => ?_)
          · exact ⟨(E69z.out.bel.cell (p := ⟨w.heap.size, 0, none⟩) (show w.heap.size < W48.heap.size by omega)).trans dq74, (E69z.out.bel.cell (p := ⟨W1.heap.size, 0, none⟩) (show W1.heap.size < W48.heap.size by omega)).trans dq75⟩
          clear hK K
          (try simp only [Act.put])
          refine takeD 10 (some 7) (v := ?_) rfl (by kernel_rfl) (by kernel_rfl) (by kernel_rfl) (fun _ _ _ h => h) hS (fun o ho => Or.inl ⟨by cases ho; rfl, ?_⟩) ?_
          rotate_left
          · cases ho
            intro w' hw'
            (try dsimp only at hw')
            go_simp
            (try with_reducible rfl)
          (try simp only [Act.put, List.setIfInBounds_toArray, List.set_cons_zero, List.set_cons_succ])
          refine wpAnyH_done (by kernel_rfl) ?_ _
          clear hS
          go_wp2_with fail
          go_meet
          exact ⟨_, _, _, _, rfl, rfl, E69z⟩
        exact AllReadyH.nil
      refine consD 8 (some 6) rfl (fun o ho K hK hdo => ?_) ?_
      · simp only [List.getElem?_toArray, List.getElem?_cons_succ, List.getElem?_cons_zero, Option.some.injEq] at ho
        subst ho
        clear hdo
        rw [if_pos (by rfl)]
        go_wp2_with fail
        obtain ⟨W70z, h71z⟩ : ∃ X, X = W1z.alloc (.cells #[nilV] 26) := ⟨_, rfl⟩
        rw [← h71z]
        have b72z : Below W1z.heap.size W1z W70z := by rw [h71z]; exact (Below.refl _ _).alloc (Nat.le_refl _) _
        have bx73z : Blk W70z W1z.heap.size #[nilV] 26 := by rw [h71z]; exact Blk.new _ _ _
        clear h71z
        have lz74z := bx73z.lt
        have sz75z := b72z.size
        have hb76z : Below (W48.heap.size) W71 W70z := hb8z.trans (b72z.mono (by have := hb8z.size; omega))
        have bc77z : Below W1z.heap.size W1z W70z := bc9z.trans (b72z.mono bc9z.size)
        refine hK.out _ _ ?_ (fun hS => ?_)
        · exact ⟨(hb76z.cell (p := ⟨w.heap.size, 0, none⟩) (show w.heap.size < W48.heap.size by omega)).trans dq74, (hb76z.cell (p := ⟨W1.heap.size, 0, none⟩) (show W1.heap.size < W48.heap.size by omega)).trans dq75⟩
        clear hK K
        (try simp only [Act.put, List.setIfInBounds_toArray, List.set_cons_zero, List.set_cons_succ])
        refine oneD 3 (some 31) (by kernel_rfl) rfl (fun o ho K hK hdo => ?_)
        simp only [List.getElem?_toArray, List.getElem?_cons_succ, List.getElem?_cons_zero, Option.some.injEq] at ho
        subst ho
        clear hdo
        rw [if_pos (by rfl)]
        go_wp2_with fail
        (go_at_call 44; (with_reducible refine (toGroup_any x_aH _ _ _ _ (Rows2.below RD77 hb76z) (by have := hb76z.size; omega) H57.out).mono ?_); rintro e W78z ⟨A81z, c82z, L83z, rfl, o80z, b79z⟩)
        have sz84z := b79z.size
        have hb85z : Below (W48.heap.size) W71 W78z := hb76z.trans (b79z.mono (by have := hb76z.size; omega))
        have bc86z : Below W1z.heap.size W1z W78z := bc77z.trans (b79z.mono bc77z.size)
        have bx87z := bx73z.below b79z bx73z.lt
        have bc88z : Below W78z.heap.size W78z W78z := Below.refl _ _
        refine hK.out _ _ ?_ (fun hS => ?_)
        · exact ⟨(hb85z.cell (p := ⟨w.heap.size, 0, none⟩) (show w.heap.size < W48.heap.size by omega)).trans dq74, (hb85z.cell (p := ⟨W1.heap.size, 0, none⟩) (show W1.heap.size < W48.heap.size by omega)).trans dq75⟩
        clear hK K
        (try simp only [Act.put, List.setIfInBounds_toArray, List.set_cons_zero, List.set_cons_succ])
        refine oneD 4 (some 32) (by kernel_rfl) rfl (fun o ho K hK hdo => ?_)
        simp only [List.getElem?_toArray, List.getElem?_cons_succ, List.getElem?_cons_zero, Option.some.injEq] at ho
        subst ho
        clear hdo
        rw [if_pos (by rfl)]
        have rr95z := Rows2.up (Rows2.below (Own2.row o3z) bc86z) bc86z.size
        have rr96z := Rows2.up (Rows2.below (Own2.row o80z) bc88z) bc88z.size
        go_wp2_with fail
        (go_at_call 50; (with_reducible refine (CS _ _ _ _ _ _ _ rr95z (Nat.le_refl _) rr96z (Nat.le_refl _)).mono ?_); rintro e W89z ⟨A92z, c93z, L94z, rfl, o91z, b90z⟩)
        have sz97z := b90z.size
        have hb98z : Below (W48.heap.size) W71 W89z := hb85z.trans (b90z.mono (by have := hb85z.size; omega))
        have bc99z : Below W1z.heap.size W1z W89z := bc86z.trans (b90z.mono bc86z.size)
        have bc100z : Below W78z.heap.size W78z W89z := bc88z.trans (b90z.mono bc88z.size)
        have bx101z := bx87z.below b90z bx87z.lt
        refine hK.out _ _ ?_ (fun hS => ?_)
        · exact ⟨(hb98z.cell (p := ⟨w.heap.size, 0, none⟩) (show w.heap.size < W48.heap.size by omega)).trans dq74, (hb98z.cell (p := ⟨W1.heap.size, 0, none⟩) (show W1.heap.size < W48.heap.size by omega)).trans dq75⟩
        clear hK K
        (try simp only [Act.put, List.setIfInBounds_toArray, List.set_cons_zero, List.set_cons_succ])
        refine takeD 5 (some 27) (v := ?_) rfl (by kernel_rfl) (by kernel_rfl) (by kernel_rfl) (fun _ _ _ h => h) hS (fun o ho => Or.inl ⟨by cases ho; rfl, ?_⟩) ?_
        rotate_left
        · cases ho
          intro w' hw'
          (try dsimp only at hw')
          go_simp
          (try with_reducible rfl)
        (try simp only [Act.put, List.setIfInBounds_toArray, List.set_cons_zero, List.set_cons_succ])
        refine takeD 6 (some 33) (v := ?_) rfl (by kernel_rfl) (by kernel_rfl) (by kernel_rfl) (fun _ _ _ h => h) hS (fun o ho => Or.inl ⟨by cases ho; rfl, ?_⟩) ?_
        rotate_left
        · cases ho
          intro w' hw'
          (try dsimp only at hw')
          go_simp
          (try with_reducible rfl)
        (try simp only [Act.put, List.setIfInBounds_toArray, List.set_cons_zero, List.set_cons_succ])
        refine takeD 7 (some 34) (v := ?_) rfl (by kernel_rfl) (by kernel_rfl) (by kernel_rfl) (fun _ _ _ h => h) hS (fun o ho => Or.inl ⟨by cases ho; rfl, ?_⟩) ?_
        rotate_left
        · cases ho
          intro w' hw'
          (try dsimp only at hw')
          go_simp
          (try with_reducible rfl)
        (try simp only [Act.put, List.setIfInBounds_toArray, List.set_cons_zero, List.set_cons_succ])
        have q102z := bx101z.cell 0
        have f103z := bx101z.frozen 0
        have E104z : Hid (EndG (W48.heap.size) r W71 (W89z.setCell ⟨W1z.heap.size, 0, none⟩ (.slice A92z r.G.length c93z)) A92z c93z L94z (W1z.heap.size)) := Lib.hid (EndG.made bx101z o91z (by omega) (by omega) hb98z (fun q hq => by have h1 := Own2.ofrom o91z q hq; have h2 := Own2.olt o91z q hq; omega) (fun t ht q hq => by have h1 := Own2.from o91z t ht q hq; have h2 := Own2.lt o91z t ht q hq; omega))
        refine oneD 9 none (by kernel_rfl) rfl (fun o ho K hK hdo => ?_)
        simp only [List.getElem?_toArray, List.getElem?_cons_succ, List.getElem?_cons_zero, Option.some.injEq] at ho
        subst ho
        clear hdo
        rw [if_pos (by rfl)]
        go_wp2_with fail
        refine hK.out undef _ ?_ (fun hS => ?_)
        · exact ⟨(E104z.out.bel.cell (p := ⟨w.heap.size, 0, none⟩) (show w.heap.size < W48.heap.size by omega)).trans dq74, (E104z.out.bel.cell (p := ⟨W1.heap.size, 0, none⟩) (show W1.heap.size < W48.heap.size by omega)).trans dq75⟩
        clear hK K
        (try simp only [Act.put])
        refine takeD 10 (some 7) (v := ?_) rfl (by kernel_rfl) (by kernel_rfl) (by kernel_rfl) (fun _ _ _ h => h) hS (fun o ho => Or.inl ⟨by cases ho; rfl, ?_⟩) ?_
        rotate_left
        · cases ho
          intro w' hw'
          (try dsimp only at hw')
          go_simp
          (try with_reducible rfl)
        (try simp only [Act.put, List.setIfInBounds_toArray, List.set_cons_zero, List.set_cons_succ])
        refine wpAnyH_done (by kernel_rfl) ?_ _
        clear hS
        go_wp2_with fail
        go_meet
        exact ⟨_, _, _, _, rfl, rfl, E104z⟩
      exact AllReadyH.nil
    refine consD 8 (some 6) rfl (fun o ho K hK hdo => ?_) ?_
    · simp only [List.getElem?_toArray, List.getElem?_cons_succ, List.getElem?_cons_zero, Option.some.injEq] at ho
      subst ho
      clear hdo
      rw [if_pos (by rfl)]
      go_wp2_with fail
      obtain ⟨W105z, h106z⟩ : ∃ X, X = W71.alloc (.cells #[nilV] 26) := ⟨_, rfl⟩
      rw [← h106z]
      have b107z : Below W71.heap.size W71 W105z := by rw [h106z]; exact (Below.refl _ _).alloc (Nat.le_refl _) _
      have bx108z : Blk W105z W71.heap.size #[nilV] 26 := by rw [h106z]; exact Blk.new _ _ _
      clear h106z
      have lz109z := bx108z.lt
      have sz110z := b107z.size
      have hb111z : Below (W48.heap.size) W71 W105z := hb0z.trans (b107z.mono (by have := hb0z.size; omega))
      refine hK.out _ _ ?_ (fun hS => ?_)
      · exact ⟨(hb111z.cell (p := ⟨w.heap.size, 0, none⟩) (show w.heap.size < W48.heap.size by omega)).trans dq74, (hb111z.cell (p := ⟨W1.heap.size, 0, none⟩) (show W1.heap.size < W48.heap.size by omega)).trans dq75⟩
      clear hK K
      (try simp only [Act.put, List.setIfInBounds_toArray, List.set_cons_zero, List.set_cons_succ])
      refine oneD 1 (some 29) (by kernel_rfl) rfl (fun o ho K hK hdo => ?_)
      simp only [List.getElem?_toArray, List.getElem?_cons_succ, List.getElem?_cons_zero, Option.some.injEq] at ho
      subst ho
      clear hdo
      rw [if_pos (by rfl)]
      go_wp2_with fail
      (go_at_call 44; (with_reducible refine (toGroup_any x_aG _ _ _ _ (Rows2.below RD76 hb111z) (by have := hb111z.size; omega) H41.out).mono ?_); rintro e W112z ⟨A115z, c116z, L117z, rfl, o114z, b113z⟩)
      have sz118z := b113z.size
      have hb119z : Below (W48.heap.size) W71 W112z := hb111z.trans (b113z.mono (by have := hb111z.size; omega))
      have bx120z := bx108z.below b113z bx108z.lt
      have bc121z : Below W112z.heap.size W112z W112z := Below.refl _ _
      refine hK.out _ _ ?_ (fun hS => ?_)
      · exact ⟨(hb119z.cell (p := ⟨w.heap.size, 0, none⟩) (show w.heap.size < W48.heap.size by omega)).trans dq74, (hb119z.cell (p := ⟨W1.heap.size, 0, none⟩) (show W1.heap.size < W48.heap.size by omega)).trans dq75⟩
      clear hK K
      (try simp only [Act.put, List.setIfInBounds_toArray, List.set_cons_zero, List.set_cons_succ])
      refine oneD 3 (some 31) (by kernel_rfl) rfl (fun o ho K hK hdo => ?_)
      simp only [List.getElem?_toArray, List.getElem?_cons_succ, List.getElem?_cons_zero, Option.some.injEq] at ho
      subst ho
      clear hdo
      rw [if_pos (by rfl)]
      go_wp2_with fail
      (go_at_call 44; (with_reducible refine (toGroup_any x_aH _ _ _ _ (Rows2.below RD77 hb119z) (by have := hb119z.size; omega) H57.out).mono ?_); rintro e W122z ⟨A125z, c126z, L127z, rfl, o124z, b123z⟩)
      have sz128z := b123z.size
      have hb129z : Below (W48.heap.size) W71 W122z := hb119z.trans (b123z.mono (by have := hb119z.size; omega))
      have bc130z : Below W112z.heap.size W112z W122z := bc121z.trans (b123z.mono bc121z.size)
      have bx131z := bx120z.below b123z bx120z.lt
      have bc132z : Below W122z.heap.size W122z W122z := Below.refl _ _
      refine hK.out _ _ ?_ (fun hS => ?_)
      · exact ⟨(hb129z.cell (p := ⟨w.heap.size, 0, none⟩) (show w.heap.size < W48.heap.size by omega)).trans dq74, (hb129z.cell (p := ⟨W1.heap.size, 0, none⟩) (show W1.heap.size < W48.heap.size by omega)).trans dq75⟩
      clear hK K
      (try simp only [Act.put, List.setIfInBounds_toArray, List.set_cons_zero, List.set_cons_succ])
      refine oneD 4 (some 32) (by kernel_rfl) rfl (fun o ho K hK hdo => ?_)
      simp only [List.getElem?_toArray, List.getElem?_cons_succ, List.getElem?_cons_zero, Option.some.injEq] at ho
      subst ho
      clear hdo
      rw [if_pos (by rfl)]
      have rr139z := Rows2.up (Rows2.below (Own2.row o114z) bc130z) bc130z.size
      have rr140z := Rows2.up (Rows2.below (Own2.row o124z) bc132z) bc132z.size
      go_wp2_with fail
      (go_at_call 50; (with_reducible refine (CS _ _ _ _ _ _ _ rr139z (Nat.le_refl _) rr140z (Nat.le_refl _)).mono ?_); rintro e W133z ⟨A136z, c137z, L138z, rfl, o135z, b134z⟩)
      have sz141z := b134z.size
      have hb142z : Below (W48.heap.size) W71 W133z := hb129z.trans (b134z.mono (by have := hb129z.size; omega))
      have bc143z : Below W112z.heap.size W112z W133z := bc130z.trans (b134z.mono bc130z.size)
      have bc144z : Below W122z.heap.size W122z W133z := bc132z.trans (b134z.mono bc132z.size)
      have bx145z := bx131z.below b134z bx131z.lt
      refine hK.out _ _ ?_ (fun hS => ?_)
      · exact ⟨(hb142z.cell (p := ⟨w.heap.size, 0, none⟩) (show w.heap.size < W48.heap.size by omega)).trans dq74, (hb142z.cell (p := ⟨W1.heap.size, 0, none⟩) (show W1.heap.size < W48.heap.size by omega)).trans dq75⟩
      clear hK K
      (try simp only [Act.put, List.setIfInBounds_toArray, List.set_cons_zero, List.set_cons_succ])
      refine takeD 5 (some 27) (v := ?_) rfl (by kernel_rfl) (by kernel_rfl) (by kernel_rfl) (fun _ _ _ h => h) hS (fun o ho => Or.inl ⟨by cases ho; rfl, ?_⟩) ?_
      rotate_left
      · cases ho
        intro w' hw'
        (try dsimp only at hw')
        go_simp
        (try with_reducible rfl)
      (try simp only [Act.put, List.setIfInBounds_toArray, List.set_cons_zero, List.set_cons_succ])
      refine takeD 6 (some 33) (v := ?_) rfl (by kernel_rfl) (by kernel_rfl) (by kernel_rfl) (fun _ _ _ h => h) hS (fun o ho => Or.inl ⟨by cases ho; rfl, ?_⟩) ?_
      rotate_left
      · cases ho
        intro w' hw'
        (try dsimp only at hw')
        go_simp
        (try with_reducible rfl)
      (try simp only [Act.put, List.setIfInBounds_toArray, List.set_cons_zero, List.set_cons_succ])
      refine takeD 7 (some 34) (v := ?_) rfl (by kernel_rfl) (by kernel_rfl) (by kernel_rfl) (fun _ _ _ h => h) hS (fun o ho => Or.inl ⟨by cases ho; rfl, ?_⟩) ?_
      rotate_left
      · cases ho
        intro w' hw'
        (try dsimp only at hw')
        go_simp
        (try with_reducible rfl)
      (try simp only [Act.put, List.setIfInBounds_toArray, List.set_cons_zero, List.set_cons_succ])
      have q146z := bx145z.cell 0
      have f147z := bx145z.frozen 0
      have E148z : Hid (EndG (W48.heap.size) r W71 (W133z.setCell ⟨W71.heap.size, 0, none⟩ (.slice A136z r.G.length c137z)) A136z c137z L138z (W71.heap.size)) := Lib.hid (EndG.made bx145z o135z (by omega) (by omega) hb142z (fun q hq => by have h1 := Own2.ofrom o135z q hq; have h2 := Own2.olt o135z q hq; omega) (fun t ht q hq => by have h1 := Own2.from o135z t ht q hq; have h2 := Own2.lt o135z t ht q hq; omega))
      refine oneD 9 none (by kernel_rfl) rfl (fun o ho K hK hdo => ?_)
      simp only [List.getElem?_toArray, List.getElem?_cons_succ, List.getElem?_cons_zero, Option.some.injEq] at ho
      subst ho
      clear hdo
      rw [if_pos (by rfl)]
      go_wp2_with fail
      refine hK.out undef _ ?_ (fun hS => ?_)
      · exact ⟨(E148z.out.bel.cell (p := ⟨w.heap.size, 0, none⟩) (show w.heap.size < W48.heap.size by omega)).trans dq74, (E148z.out.bel.cell (p := ⟨W1.heap.size, 0, none⟩) (show W1.heap.size < W48.heap.size by omega)).trans dq75⟩
      clear hK K
      (try simp only [Act.put])
      refine takeD 10 (some 7) (v := ?_) rfl (by kernel_rfl) (by kernel_rfl) (by kernel_rfl) (fun _ _ _ h => h) hS (fun o ho => Or.inl ⟨by cases ho; rfl, ?_⟩) ?_
      rotate_left
      · cases ho
        intro w' hw'
        (try dsimp only at hw')
        go_simp
        (try with_reducible rfl)
      (try simp only [Act.put, List.setIfInBounds_toArray, List.set_cons_zero, List.set_cons_succ])
      refine wpAnyH_done (by kernel_rfl) ?_ _
      clear hS
      go_wp2_with fail
      go_meet
      exact ⟨_, _, _, _, rfl, rfl, E148z⟩
    exact AllReadyH.nil
  case rest =>
    obtain ⟨A78, c79, L80, g81, rfl, rfl, E82⟩ := hcut
    obtain ⟨W83, rfl⟩ : ∃ X, X = wc := ⟨_, rfl⟩
    have b84 : Below W48.heap.size W48 W83 := bd73.trans E82.out.bel
    clear hW72 q64 q67 dq74 dq75 RD76 RD77
    have h85 := Held.ran h49 (ran_below b84 _) (Nat.le_trans (Nat.le_trans (Nat.le_trans (le10.out) le27.out) le61.out) t62.out) (.inr (Nat.le_refl _))
    have h86 := Held.ran h50 (ran_below b84 _) (Nat.le_trans (Nat.le_trans (Nat.le_trans (le10.out) le27.out) le61.out) t62.out) (.inr (Nat.le_refl _))
    have h87 := Held.ran h51 (ran_below b84 _) (Nat.le_trans (Nat.le_trans (le27.out) le61.out) t62.out) (.inr (Nat.le_refl _))
    have h88 := Held.ran h52 (ran_below b84 _) (Nat.le_trans (le61.out) t62.out) (.inr (Nat.le_refl _))
    have bel89 : Below w.heap.size w W83 := Below.trans bel53 (Below.mono b84 (Nat.le_trans (Nat.le_trans (Nat.le_trans (le10.out) le27.out) le61.out) t62.out))
    have t90 : Hid (W48.heap.size ≤ W83.heap.size) := Lib.hid (Nat.le_trans t62.out (Below.size b84))
    clear h49 h50 h51 h52 bel53
    have le91 : Hid (W48.heap.size ≤ W83.heap.size) := t90
    have t92 : Hid (W83.heap.size ≤ W83.heap.size) := Lib.hid (Nat.le_refl _)
    have o93 := E82.out.own
    have fr94 := Own2.from o93
    have lt95 := Own2.lt o93
    have olt96 := Own2.olt o93
    have h97 := held_own2 o93 lt95 olt96
    have ln98 : (lens L80).sum ≤ 2000000 := by rw [Own2.lens o93]; exact hT
    clear o93
    have bk99 := E82.out.box
    have lt100 : Hid (g81 < W83.heap.size) := Lib.hid (Blk.lt bk99)
    have h101 := held_blk bk99 (show W48.heap.size ≤ g81 from E82.out.low) lt100.out
    clear bk99 b84
    have bk102 := Held.now h87
    have q103 := Blk.cell bk102 0
    clear bk102
    go_wp2_with fail
    (go_at_call 44; (with_reducible refine (toGroup_any x_aG _ _ _ _ (Rows2.up (Held.now h85) (Nat.le_trans (Nat.le_trans (Nat.le_trans (Nat.le_trans (le10.out) le27.out) le61.out) le91.out) t92.out)) (Nat.le_refl _) H41.out).mono ?_); rintro e W104 ⟨A107, c108, L109, rfl, o106, b105⟩)
    have h113 := Held.ran h85 (ran_below b105 _) (Nat.le_trans (Nat.le_trans (Nat.le_trans (Nat.le_trans (le10.out) le27.out) le61.out) le91.out) t92.out) (.inr (Nat.le_refl _))
    have h114 := Held.ran h86 (ran_below b105 _) (Nat.le_trans (Nat.le_trans (Nat.le_trans (Nat.le_trans (le10.out) le27.out) le61.out) le91.out) t92.out) (.inr (Nat.le_refl _))
    have h115 := Held.ran h87 (ran_below b105 _) (Nat.le_trans (Nat.le_trans (Nat.le_trans (le27.out) le61.out) le91.out) t92.out) (.inr (Nat.le_refl _))
    have h116 := Held.ran h88 (ran_below b105 _) (Nat.le_trans (Nat.le_trans (le61.out) le91.out) t92.out) (.inr (Nat.le_refl _))
    have h117 := Held.ran h97 (ran_below b105 _) (Nat.le_refl _) (.inr (Nat.le_refl _))
    have h118 := Held.ran h101 (ran_below b105 _) (Nat.le_refl _) (.inr (Nat.le_refl _))
    have bel119 : Below w.heap.size w W104 := Below.trans bel89 (Below.mono b105 (Nat.le_trans (Nat.le_trans (Nat.le_trans (Nat.le_trans (le10.out) le27.out) le61.out) le91.out) t92.out))
    have t120 : Hid (W83.heap.size ≤ W104.heap.size) := Lib.hid (Nat.le_trans t92.out (Below.size b105))
    clear h85 h86 h87 h88 h97 h101 bel89
    have le121 : Hid (W83.heap.size ≤ W104.heap.size) := t120
    have t122 : Hid (W104.heap.size ≤ W104.heap.size) := Lib.hid (Nat.le_refl _)
    have fr123 := Own2.from o106
    have lt124 := Own2.lt o106
    have olt125 := Own2.olt o106
    have h126 := held_own2 o106 lt124 olt125
    have ln127 : (lens L109).sum ≤ 2000000 := by rw [Own2.lens o106]; exact Nat.le_trans (sum_le_tot2 _) (Nat.le_trans H41.out (by omega))
    clear o106 b105
    clear q103
    have bk132 := Held.now h115
    have q133 : W104.cell? ⟨w.heap.size, 0, none⟩ = some (.slice A_aG n_aG c_aG) := Blk.cell bk132 0
    clear bk132
    have lt134 : w.heap.size < W104.heap.size := Nat.lt_of_lt_of_le lt5.out (Nat.le_trans (Nat.le_trans (Nat.le_trans (Nat.le_trans (le27.out) le61.out) le91.out) le121.out) t122.out)
    have ne135 : w.heap.size ≠ W104.heap.size := Nat.ne_of_lt lt134
    have bk136 := Held.now h116
    have q137 : W104.cell? ⟨W1.heap.size, 0, none⟩ = some (.slice A_aH n_aH c_aH) := Blk.cell bk136 0
    clear bk136
    have lt138 : W1.heap.size < W104.heap.size := Nat.lt_of_lt_of_le lt21.out (Nat.le_trans (Nat.le_trans (Nat.le_trans (le61.out) le91.out) le121.out) t122.out)
    have ne139 : W1.heap.size ≠ W104.heap.size := Nat.ne_of_lt lt138
    have bk140 := Held.now h118
    have q141 : W104.cell? ⟨g81, 0, none⟩ = some (.slice A78 r.G.length c79) := Blk.cell bk140 0
    clear bk140
    have lt142 : g81 < W104.heap.size := Nat.lt_of_lt_of_le lt100.out (Nat.le_trans (le121.out) t122.out)
    have ne143 : g81 ≠ W104.heap.size := Nat.ne_of_lt lt142
    obtain ⟨W128, hW129⟩ : ∃ W128, W128 = W104.alloc (.cells #[.slice A107 x_aG.G.length c108] 26) := ⟨_, rfl⟩
    have be130 : Below W104.heap.size W104 W128 := by rw [hW129]; exact (Below.refl _ _).alloc (Nat.le_refl _) _
    have bk131 : Blk W128 W104.heap.size #[.slice A107 x_aG.G.length c108] 26 := by rw [hW129]; exact Blk.new _ _ _
    have lt144 : Hid (W104.heap.size < W128.heap.size) := Lib.hid (Blk.lt bk131)
    have h145 := Held.ran h113 (ran_below be130 _) (Nat.le_trans (Nat.le_trans (Nat.le_trans (Nat.le_trans (Nat.le_trans (le10.out) le27.out) le61.out) le91.out) le121.out) t122.out) (.inr (Nat.le_refl _))
    have h146 := Held.ran h114 (ran_below be130 _) (Nat.le_trans (Nat.le_trans (Nat.le_trans (Nat.le_trans (Nat.le_trans (le10.out) le27.out) le61.out) le91.out) le121.out) t122.out) (.inr (Nat.le_refl _))
    have h147 := Held.ran h115 (ran_below be130 _) (Nat.le_trans (Nat.le_trans (Nat.le_trans (Nat.le_trans (le27.out) le61.out) le91.out) le121.out) t122.out) (.inr (Nat.le_refl _))
    have h148 := Held.ran h116 (ran_below be130 _) (Nat.le_trans (Nat.le_trans (Nat.le_trans (le61.out) le91.out) le121.out) t122.out) (.inr (Nat.le_refl _))
    have h149 := Held.ran h117 (ran_below be130 _) (Nat.le_trans (le121.out) t122.out) (.inr (Nat.le_refl _))
    have h150 := Held.ran h118 (ran_below be130 _) (Nat.le_trans (le121.out) t122.out) (.inr (Nat.le_refl _))
    have h151 := Held.ran h126 (ran_below be130 _) (Nat.le_refl _) (.inr (Nat.le_refl _))
    have bel152 : Below w.heap.size w W128 := Below.trans bel119 (Below.mono be130 (Nat.le_trans (Nat.le_trans (Nat.le_trans (Nat.le_trans (Nat.le_trans (le10.out) le27.out) le61.out) le91.out) le121.out) t122.out))
    have t153 : Hid (W104.heap.size ≤ W128.heap.size) := Lib.hid (Nat.le_trans t122.out (Below.size be130))
    clear h113 h114 h115 h116 h117 h118 h126 bel119
    have le154 : Hid (W104.heap.size ≤ W128.heap.size) := t153
    have t155 : Hid (W128.heap.size ≤ W128.heap.size) := Lib.hid (Nat.le_refl _)
    have h156 := held_blk bk131 (Nat.le_refl _) lt144.out
    clear bk131 be130
    have bk157 := Held.now h148
    have q158 := Blk.cell bk157 0
    clear bk157
    go_wp2_with fail
    rw [show W104.alloc (.cells #[.slice A107 x_aG.G.length c108] 26) = W128 from hW129.symm]
    clear hW129
    clear q133 lt134 ne135 q137 lt138 ne139 q141 lt142 ne143
    (go_at_call 44; (with_reducible refine (toGroup_any x_aH _ _ _ _ (Rows2.up (Held.now h146) (Nat.le_trans (Nat.le_trans (Nat.le_trans (Nat.le_trans (Nat.le_trans (Nat.le_trans (le10.out) le27.out) le61.out) le91.out) le121.out) le154.out) t155.out)) (Nat.le_refl _) H57.out).mono ?_); rintro e W159 ⟨A162, c163, L164, rfl, o161, b160⟩)
    have h168 := Held.ran h145 (ran_below b160 _) (Nat.le_trans (Nat.le_trans (Nat.le_trans (Nat.le_trans (Nat.le_trans (Nat.le_trans (le10.out) le27.out) le61.out) le91.out) le121.out) le154.out) t155.out) (.inr (Nat.le_refl _))
    have h169 := Held.ran h146 (ran_below b160 _) (Nat.le_trans (Nat.le_trans (Nat.le_trans (Nat.le_trans (Nat.le_trans (Nat.le_trans (le10.out) le27.out) le61.out) le91.out) le121.out) le154.out) t155.out) (.inr (Nat.le_refl _))
    have h170 := Held.ran h147 (ran_below b160 _) (Nat.le_trans (Nat.le_trans (Nat.le_trans (Nat.le_trans (Nat.le_trans (le27.out) le61.out) le91.out) le121.out) le154.out) t155.out) (.inr (Nat.le_refl _))
    have h171 := Held.ran h148 (ran_below b160 _) (Nat.le_trans (Nat.le_trans (Nat.le_trans (Nat.le_trans (le61.out) le91.out) le121.out) le154.out) t155.out) (.inr (Nat.le_refl _))
    have h172 := Held.ran h149 (ran_below b160 _) (Nat.le_trans (Nat.le_trans (le121.out) le154.out) t155.out) (.inr (Nat.le_refl _))
    have h173 := Held.ran h150 (ran_below b160 _) (Nat.le_trans (Nat.le_trans (le121.out) le154.out) t155.out) (.inr (Nat.le_refl _))
    have h174 := Held.ran h151 (ran_below b160 _) (Nat.le_trans (le154.out) t155.out) (.inr (Nat.le_refl _))
    have h175 := Held.ran h156 (ran_below b160 _) (Nat.le_refl _) (.inr (Nat.le_refl _))
    have bel176 : Below w.heap.size w W159 := Below.trans bel152 (Below.mono b160 (Nat.le_trans (Nat.le_trans (Nat.le_trans (Nat.le_trans (Nat.le_trans (Nat.le_trans (le10.out) le27.out) le61.out) le91.out) le121.out) le154.out) t155.out))
    have t177 : Hid (W128.heap.size ≤ W159.heap.size) := Lib.hid (Nat.le_trans t155.out (Below.size b160))
    clear h145 h146 h147 h148 h149 h150 h151 h156 bel152
    have le178 : Hid (W128.heap.size ≤ W159.heap.size) := t177
    have t179 : Hid (W159.heap.size ≤ W159.heap.size) := Lib.hid (Nat.le_refl _)
    have fr180 := Own2.from o161
    have lt181 := Own2.lt o161
    have olt182 := Own2.olt o161
    have h183 := held_own2 o161 lt181 olt182
    have ln184 : (lens L164).sum ≤ 2000000 := by rw [Own2.lens o161]; exact Nat.le_trans (sum_le_tot2 _) (Nat.le_trans H57.out (by omega))
    clear o161 b160
    clear q158
    have bk189 := Held.now h170
    have q190 : W159.cell? ⟨w.heap.size, 0, none⟩ = some (.slice A_aG n_aG c_aG) := Blk.cell bk189 0
    clear bk189
    have lt191 : w.heap.size < W159.heap.size := Nat.lt_of_lt_of_le lt5.out (Nat.le_trans (Nat.le_trans (Nat.le_trans (Nat.le_trans (Nat.le_trans (Nat.le_trans (le27.out) le61.out) le91.out) le121.out) le154.out) le178.out) t179.out)
    have ne192 : w.heap.size ≠ W159.heap.size := Nat.ne_of_lt lt191
    have bk193 := Held.now h171
    have q194 : W159.cell? ⟨W1.heap.size, 0, none⟩ = some (.slice A_aH n_aH c_aH) := Blk.cell bk193 0
    clear bk193
    have lt195 : W1.heap.size < W159.heap.size := Nat.lt_of_lt_of_le lt21.out (Nat.le_trans (Nat.le_trans (Nat.le_trans (Nat.le_trans (Nat.le_trans (le61.out) le91.out) le121.out) le154.out) le178.out) t179.out)
    have ne196 : W1.heap.size ≠ W159.heap.size := Nat.ne_of_lt lt195
    have bk197 := Held.now h173
    have q198 : W159.cell? ⟨g81, 0, none⟩ = some (.slice A78 r.G.length c79) := Blk.cell bk197 0
    clear bk197
    have lt199 : g81 < W159.heap.size := Nat.lt_of_lt_of_le lt100.out (Nat.le_trans (Nat.le_trans (Nat.le_trans (le121.out) le154.out) le178.out) t179.out)
    have ne200 : g81 ≠ W159.heap.size := Nat.ne_of_lt lt199
    have bk201 := Held.now h175
    have q202 : W159.cell? ⟨W104.heap.size, 0, none⟩ = some (.slice A107 x_aG.G.length c108) := Blk.cell bk201 0
    clear bk201
    have lt203 : W104.heap.size < W159.heap.size := Nat.lt_of_lt_of_le lt144.out (Nat.le_trans (le178.out) t179.out)
    have ne204 : W104.heap.size ≠ W159.heap.size := Nat.ne_of_lt lt203
    obtain ⟨W185, hW186⟩ : ∃ W185, W185 = W159.alloc (.cells #[.slice A162 x_aH.G.length c163] 26) := ⟨_, rfl⟩
    have be187 : Below W159.heap.size W159 W185 := by rw [hW186]; exact (Below.refl _ _).alloc (Nat.le_refl _) _
    have bk188 : Blk W185 W159.heap.size #[.slice A162 x_aH.G.length c163] 26 := by rw [hW186]; exact Blk.new _ _ _
    have lt205 : Hid (W159.heap.size < W185.heap.size) := Lib.hid (Blk.lt bk188)
    have h206 := Held.ran h168 (ran_below be187 _) (Nat.le_trans (Nat.le_trans (Nat.le_trans (Nat.le_trans (Nat.le_trans (Nat.le_trans (Nat.le_trans (le10.out) le27.out) le61.out) le91.out) le121.out) le154.out) le178.out) t179.out) (.inr (Nat.le_refl _))
    have h207 := Held.ran h169 (ran_below be187 _) (Nat.le_trans (Nat.le_trans (Nat.le_trans (Nat.le_trans (Nat.le_trans (Nat.le_trans (Nat.le_trans (le10.out) le27.out) le61.out) le91.out) le121.out) le154.out) le178.out) t179.out) (.inr (Nat.le_refl _))
    have h208 := Held.ran h170 (ran_below be187 _) (Nat.le_trans (Nat.le_trans (Nat.le_trans (Nat.le_trans (Nat.le_trans (Nat.le_trans (le27.out) le61.out) le91.out) le121.out) le154.out) le178.out) t179.out) (.inr (Nat.le_refl _))
    have h209 := Held.ran h171 (ran_below be187 _) (Nat.le_trans (Nat.le_trans (Nat.le_trans (Nat.le_trans (Nat.le_trans (le61.out) le91.out) le121.out) le154.out) le178.out) t179.out) (.inr (Nat.le_refl _))
    have h210 := Held.ran h172 (ran_below be187 _) (Nat.le_trans (Nat.le_trans (Nat.le_trans (le121.out) le154.out) le178.out) t179.out) (.inr (Nat.le_refl _))
    have h211 := Held.ran h173 (ran_below be187 _) (Nat.le_trans (Nat.le_trans (Nat.le_trans (le121.out) le154.out) le178.out) t179.out) (.inr (Nat.le_refl _))
    have h212 := Held.ran h174 (ran_below be187 _) (Nat.le_trans (Nat.le_trans (le154.out) le178.out) t179.out) (.inr (Nat.le_refl _))
    have h213 := Held.ran h175 (ran_below be187 _) (Nat.le_trans (le178.out) t179.out) (.inr (Nat.le_refl _))
    have h214 := Held.ran h183 (ran_below be187 _) (Nat.le_refl _) (.inr (Nat.le_refl _))
    have bel215 : Below w.heap.size w W185 := Below.trans bel176 (Below.mono be187 (Nat.le_trans (Nat.le_trans (Nat.le_trans (Nat.le_trans (Nat.le_trans (Nat.le_trans (Nat.le_trans (le10.out) le27.out) le61.out) le91.out) le121.out) le154.out) le178.out) t179.out))
    have t216 : Hid (W159.heap.size ≤ W185.heap.size) := Lib.hid (Nat.le_trans t179.out (Below.size be187))
    clear h168 h169 h170 h171 h172 h173 h174 h175 h183 bel176
    have le217 : Hid (W159.heap.size ≤ W185.heap.size) := t216
    have t218 : Hid (W185.heap.size ≤ W185.heap.size) := Lib.hid (Nat.le_refl _)
    have h219 := held_blk bk188 (Nat.le_refl _) lt205.out
    clear bk188 be187
    have bk220 := Held.now h213
    have q221 := Blk.cell bk220 0
    clear bk220
    go_wp2_with fail
    rw [show W159.alloc (.cells #[.slice A162 x_aH.G.length c163] 26) = W185 from hW186.symm]
    clear hW186
    clear q190 lt191 ne192 q194 lt195 ne196 q198 lt199 ne200 q202 lt203 ne204
    (go_at_call 51; (with_reducible refine (CI _ _ _ _ _ _ _ (Own2.row (Held.now h212)) (Nat.le_refl _) (Own2.row (Held.now h214)) (Nat.le_refl _)).mono ?_); rintro e W222 ⟨A225, c226, L227, rfl, o224, b223⟩)
    have h231 := Held.ran h206 (ran_below b223 _) (Nat.le_trans (Nat.le_trans (Nat.le_trans (Nat.le_trans (Nat.le_trans (Nat.le_trans (Nat.le_trans (Nat.le_trans (le10.out) le27.out) le61.out) le91.out) le121.out) le154.out) le178.out) le217.out) t218.out) (.inr (Nat.le_refl _))
    have h232 := Held.ran h207 (ran_below b223 _) (Nat.le_trans (Nat.le_trans (Nat.le_trans (Nat.le_trans (Nat.le_trans (Nat.le_trans (Nat.le_trans (Nat.le_trans (le10.out) le27.out) le61.out) le91.out) le121.out) le154.out) le178.out) le217.out) t218.out) (.inr (Nat.le_refl _))
    have h233 := Held.ran h208 (ran_below b223 _) (Nat.le_trans (Nat.le_trans (Nat.le_trans (Nat.le_trans (Nat.le_trans (Nat.le_trans (Nat.le_trans (le27.out) le61.out) le91.out) le121.out) le154.out) le178.out) le217.out) t218.out) (.inr (Nat.le_refl _))
    have h234 := Held.ran h209 (ran_below b223 _) (Nat.le_trans (Nat.le_trans (Nat.le_trans (Nat.le_trans (Nat.le_trans (Nat.le_trans (le61.out) le91.out) le121.out) le154.out) le178.out) le217.out) t218.out) (.inr (Nat.le_refl _))
    have h235 := Held.ran h210 (ran_below b223 _) (Nat.le_trans (Nat.le_trans (Nat.le_trans (Nat.le_trans (le121.out) le154.out) le178.out) le217.out) t218.out) (.inr (Nat.le_refl _))
    have h236 := Held.ran h211 (ran_below b223 _) (Nat.le_trans (Nat.le_trans (Nat.le_trans (Nat.le_trans (le121.out) le154.out) le178.out) le217.out) t218.out) (.inr (Nat.le_refl _))
    have h237 := Held.ran h212 (ran_below b223 _) (Nat.le_trans (Nat.le_trans (Nat.le_trans (le154.out) le178.out) le217.out) t218.out) (.inr (Nat.le_refl _))
    have h238 := Held.ran h213 (ran_below b223 _) (Nat.le_trans (Nat.le_trans (le178.out) le217.out) t218.out) (.inr (Nat.le_refl _))
    have h239 := Held.ran h214 (ran_below b223 _) (Nat.le_trans (le217.out) t218.out) (.inr (Nat.le_refl _))
    have h240 := Held.ran h219 (ran_below b223 _) (Nat.le_refl _) (.inr (Nat.le_refl _))
    have bel241 : Below w.heap.size w W222 := Below.trans bel215 (Below.mono b223 (Nat.le_trans (Nat.le_trans (Nat.le_trans (Nat.le_trans (Nat.le_trans (Nat.le_trans (Nat.le_trans (Nat.le_trans (le10.out) le27.out) le61.out) le91.out) le121.out) le154.out) le178.out) le217.out) t218.out))
    have t242 : Hid (W185.heap.size ≤ W222.heap.size) := Lib.hid (Nat.le_trans t218.out (Below.size b223))
    clear h206 h207 h208 h209 h210 h211 h212 h213 h214 h219 bel215
    have le243 : Hid (W185.heap.size ≤ W222.heap.size) := t242
    have t244 : Hid (W222.heap.size ≤ W222.heap.size) := Lib.hid (Nat.le_refl _)
    have fr245 := Own2.from o224
    have lt246 := Own2.lt o224
    have olt247 := Own2.olt o224
    have h248 := held_own2 o224 lt246 olt247
    have ln249 : (lens L227).sum ≤ 2000000 := by rw [Own2.lens o224]; exact hT
    clear o224 b223
    have bk254 := Held.now h233
    have q255 : W222.cell? ⟨w.heap.size, 0, none⟩ = some (.slice A_aG n_aG c_aG) := Blk.cell bk254 0
    clear bk254
    have lt256 : w.heap.size < W222.heap.size := Nat.lt_of_lt_of_le lt5.out (Nat.le_trans (Nat.le_trans (Nat.le_trans (Nat.le_trans (Nat.le_trans (Nat.le_trans (Nat.le_trans (Nat.le_trans (le27.out) le61.out) le91.out) le121.out) le154.out) le178.out) le217.out) le243.out) t244.out)
    have ne257 : w.heap.size ≠ W222.heap.size := Nat.ne_of_lt lt256
    have bk258 := Held.now h234
    have q259 : W222.cell? ⟨W1.heap.size, 0, none⟩ = some (.slice A_aH n_aH c_aH) := Blk.cell bk258 0
    clear bk258
    have lt260 : W1.heap.size < W222.heap.size := Nat.lt_of_lt_of_le lt21.out (Nat.le_trans (Nat.le_trans (Nat.le_trans (Nat.le_trans (Nat.le_trans (Nat.le_trans (Nat.le_trans (le61.out) le91.out) le121.out) le154.out) le178.out) le217.out) le243.out) t244.out)
    have ne261 : W1.heap.size ≠ W222.heap.size := Nat.ne_of_lt lt260
    have bk262 := Held.now h236
    have q263 : W222.cell? ⟨g81, 0, none⟩ = some (.slice A78 r.G.length c79) := Blk.cell bk262 0
    clear bk262
    have lt264 : g81 < W222.heap.size := Nat.lt_of_lt_of_le lt100.out (Nat.le_trans (Nat.le_trans (Nat.le_trans (Nat.le_trans (Nat.le_trans (le121.out) le154.out) le178.out) le217.out) le243.out) t244.out)
    have ne265 : g81 ≠ W222.heap.size := Nat.ne_of_lt lt264
    have bk266 := Held.now h238
    have q267 : W222.cell? ⟨W104.heap.size, 0, none⟩ = some (.slice A107 x_aG.G.length c108) := Blk.cell bk266 0
    clear bk266
    have lt268 : W104.heap.size < W222.heap.size := Nat.lt_of_lt_of_le lt144.out (Nat.le_trans (Nat.le_trans (Nat.le_trans (le178.out) le217.out) le243.out) t244.out)
    have ne269 : W104.heap.size ≠ W222.heap.size := Nat.ne_of_lt lt268
    have bk270 := Held.now h240
    have q271 : W222.cell? ⟨W159.heap.size, 0, none⟩ = some (.slice A162 x_aH.G.length c163) := Blk.cell bk270 0
    clear bk270
    have lt272 : W159.heap.size < W222.heap.size := Nat.lt_of_lt_of_le lt205.out (Nat.le_trans (le243.out) t244.out)
    have ne273 : W159.heap.size ≠ W222.heap.size := Nat.ne_of_lt lt272
    obtain ⟨W250, hW251⟩ : ∃ W250, W250 = W222.alloc (.cells #[.slice A225 r.G.length c226] 26) := ⟨_, rfl⟩
    have be252 : Below W222.heap.size W222 W250 := by rw [hW251]; exact (Below.refl _ _).alloc (Nat.le_refl _) _
    have bk253 : Blk W250 W222.heap.size #[.slice A225 r.G.length c226] 26 := by rw [hW251]; exact Blk.new _ _ _
    have lt274 : Hid (W222.heap.size < W250.heap.size) := Lib.hid (Blk.lt bk253)
    have h275 := Held.ran h231 (ran_below be252 _) (Nat.le_trans (Nat.le_trans (Nat.le_trans (Nat.le_trans (Nat.le_trans (Nat.le_trans (Nat.le_trans (Nat.le_trans (Nat.le_trans (le10.out) le27.out) le61.out) le91.out) le121.out) le154.out) le178.out) le217.out) le243.out) t244.out) (.inr (Nat.le_refl _))
    have h276 := Held.ran h232 (ran_below be252 _) (Nat.le_trans (Nat.le_trans (Nat.le_trans (Nat.le_trans (Nat.le_trans (Nat.le_trans (Nat.le_trans (Nat.le_trans (Nat.le_trans (le10.out) le27.out) le61.out) le91.out) le121.out) le154.out) le178.out) le217.out) le243.out) t244.out) (.inr (Nat.le_refl _))
    have h277 := Held.ran h233 (ran_below be252 _) (Nat.le_trans (Nat.le_trans (Nat.le_trans (Nat.le_trans (Nat.le_trans (Nat.le_trans (Nat.le_trans (Nat.le_trans (le27.out) le61.out) le91.out) le121.out) le154.out) le178.out) le217.out) le243.out) t244.out) (.inr (Nat.le_refl _))
    have h278 := Held.ran h234 (ran_below be252 _) (Nat.le_trans (Nat.le_trans (Nat.le_trans (Nat.le_trans (Nat.le_trans (Nat.le_trans (Nat.le_trans (le61.out) le91.out) le121.out) le154.out) le178.out) le217.out) le243.out) t244.out) (.inr (Nat.le_refl _))
    have h279 := Held.ran h235 (ran_below be252 _) (Nat.le_trans (Nat.le_trans (Nat.le_trans (Nat.le_trans (Nat.le_trans (le121.out) le154.out) le178.out) le217.out) le243.out) t244.out) (.inr (Nat.le_refl _))
    have h280 := Held.ran h236 (ran_below be252 _) (Nat.le_trans (Nat.le_trans (Nat.le_trans (Nat.le_trans (Nat.le_trans (le121.out) le154.out) le178.out) le217.out) le243.out) t244.out) (.inr (Nat.le_refl _))
    have h281 := Held.ran h237 (ran_below be252 _) (Nat.le_trans (Nat.le_trans (Nat.le_trans (Nat.le_trans (le154.out) le178.out) le217.out) le243.out) t244.out) (.inr (Nat.le_refl _))
    have h282 := Held.ran h238 (ran_below be252 _) (Nat.le_trans (Nat.le_trans (Nat.le_trans (le178.out) le217.out) le243.out) t244.out) (.inr (Nat.le_refl _))
    have h283 := Held.ran h239 (ran_below be252 _) (Nat.le_trans (Nat.le_trans (le217.out) le243.out) t244.out) (.inr (Nat.le_refl _))
    have h284 := Held.ran h240 (ran_below be252 _) (Nat.le_trans (le243.out) t244.out) (.inr (Nat.le_refl _))
    have h285 := Held.ran h248 (ran_below be252 _) (Nat.le_refl _) (.inr (Nat.le_refl _))
    have bel286 : Below w.heap.size w W250 := Below.trans bel241 (Below.mono be252 (Nat.le_trans (Nat.le_trans (Nat.le_trans (Nat.le_trans (Nat.le_trans (Nat.le_trans (Nat.le_trans (Nat.le_trans (Nat.le_trans (le10.out) le27.out) le61.out) le91.out) le121.out) le154.out) le178.out) le217.out) le243.out) t244.out))
    have t287 : Hid (W222.heap.size ≤ W250.heap.size) := Lib.hid (Nat.le_trans t244.out (Below.size be252))
    clear h231 h232 h233 h234 h235 h236 h237 h238 h239 h240 h248 bel241
    have le288 : Hid (W222.heap.size ≤ W250.heap.size) := t287
    have t289 : Hid (W250.heap.size ≤ W250.heap.size) := Lib.hid (Nat.le_refl _)
    have h290 := held_blk bk253 (Nat.le_refl _) lt274.out
    clear bk253 be252
    clear q221
    have bk291 := Held.now h280
    have q292 := Blk.cell bk291 0
    clear bk291
    go_wp2_with fail
    rw [show W222.alloc (.cells #[.slice A225 r.G.length c226] 26) = W250 from hW251.symm]
    clear hW251
    clear q255 lt256 ne257 q259 lt260 ne261 q263 lt264 ne265 q267 lt268 ne269 q271 lt272 ne273
    (go_at_call 45; (with_reducible refine (eqGroup_any r _ _ _ _ _ _ (Own2.row (Held.now h285)) (Own2.row (Held.now h279)) (Nat.le_refl _) (Nat.le_refl _)).mono ?_); rintro e W294 ⟨rfl, b293⟩)
    have h295 := Held.ran h275 (ran_below b293 _) (Nat.le_trans (Nat.le_trans (Nat.le_trans (Nat.le_trans (Nat.le_trans (Nat.le_trans (Nat.le_trans (Nat.le_trans (Nat.le_trans (Nat.le_trans (le10.out) le27.out) le61.out) le91.out) le121.out) le154.out) le178.out) le217.out) le243.out) le288.out) t289.out) (.inr (Nat.le_refl _))
    have h296 := Held.ran h276 (ran_below b293 _) (Nat.le_trans (Nat.le_trans (Nat.le_trans (Nat.le_trans (Nat.le_trans (Nat.le_trans (Nat.le_trans (Nat.le_trans (Nat.le_trans (Nat.le_trans (le10.out) le27.out) le61.out) le91.out) le121.out) le154.out) le178.out) le217.out) le243.out) le288.out) t289.out) (.inr (Nat.le_refl _))
    have h297 := Held.ran h277 (ran_below b293 _) (Nat.le_trans (Nat.le_trans (Nat.le_trans (Nat.le_trans (Nat.le_trans (Nat.le_trans (Nat.le_trans (Nat.le_trans (Nat.le_trans (le27.out) le61.out) le91.out) le121.out) le154.out) le178.out) le217.out) le243.out) le288.out) t289.out) (.inr (Nat.le_refl _))
    have h298 := Held.ran h278 (ran_below b293 _) (Nat.le_trans (Nat.le_trans (Nat.le_trans (Nat.le_trans (Nat.le_trans (Nat.le_trans (Nat.le_trans (Nat.le_trans (le61.out) le91.out) le121.out) le154.out) le178.out) le217.out) le243.out) le288.out) t289.out) (.inr (Nat.le_refl _))
    have h299 := Held.ran h279 (ran_below b293 _) (Nat.le_trans (Nat.le_trans (Nat.le_trans (Nat.le_trans (Nat.le_trans (Nat.le_trans (le121.out) le154.out) le178.out) le217.out) le243.out) le288.out) t289.out) (.inr (Nat.le_refl _))
    have h300 := Held.ran h280 (ran_below b293 _) (Nat.le_trans (Nat.le_trans (Nat.le_trans (Nat.le_trans (Nat.le_trans (Nat.le_trans (le121.out) le154.out) le178.out) le217.out) le243.out) le288.out) t289.out) (.inr (Nat.le_refl _))
    have h301 := Held.ran h281 (ran_below b293 _) (Nat.le_trans (Nat.le_trans (Nat.le_trans (Nat.le_trans (Nat.le_trans (le154.out) le178.out) le217.out) le243.out) le288.out) t289.out) (.inr (Nat.le_refl _))
    have h302 := Held.ran h282 (ran_below b293 _) (Nat.le_trans (Nat.le_trans (Nat.le_trans (Nat.le_trans (le178.out) le217.out) le243.out) le288.out) t289.out) (.inr (Nat.le_refl _))
    have h303 := Held.ran h283 (ran_below b293 _) (Nat.le_trans (Nat.le_trans (Nat.le_trans (le217.out) le243.out) le288.out) t289.out) (.inr (Nat.le_refl _))
    have h304 := Held.ran h284 (ran_below b293 _) (Nat.le_trans (Nat.le_trans (le243.out) le288.out) t289.out) (.inr (Nat.le_refl _))
    have h305 := Held.ran h285 (ran_below b293 _) (Nat.le_trans (le288.out) t289.out) (.inr (Nat.le_refl _))
    have h306 := Held.ran h290 (ran_below b293 _) (Nat.le_refl _) (.inr (Nat.le_refl _))
    have bel307 : Below w.heap.size w W294 := Below.trans bel286 (Below.mono b293 (Nat.le_trans (Nat.le_trans (Nat.le_trans (Nat.le_trans (Nat.le_trans (Nat.le_trans (Nat.le_trans (Nat.le_trans (Nat.le_trans (Nat.le_trans (le10.out) le27.out) le61.out) le91.out) le121.out) le154.out) le178.out) le217.out) le243.out) le288.out) t289.out))
    have t308 : Hid (W250.heap.size ≤ W294.heap.size) := Lib.hid (Nat.le_trans t289.out (Below.size b293))
    clear h275 h276 h277 h278 h279 h280 h281 h282 h283 h284 h285 h290 bel286
    clear b293
    clear q292
    have bk309 := Held.now h302
    have q310 : W294.cell? ⟨W104.heap.size, 0, none⟩ = some (.slice A107 x_aG.G.length c108) := Blk.cell bk309 0
    clear bk309
    have bk311 := Held.now h297
    have q312 : W294.cell? ⟨w.heap.size, 0, none⟩ = some (.slice A_aG n_aG c_aG) := Blk.cell bk311 0
    clear bk311
    go_wp2_with fail
    have h313 := Held.ran h295 (ran_drew W294 _) (Nat.le_trans (Nat.le_trans (Nat.le_trans (Nat.le_trans (Nat.le_trans (Nat.le_trans (Nat.le_trans (Nat.le_trans (Nat.le_trans (Nat.le_trans (le10.out) le27.out) le61.out) le91.out) le121.out) le154.out) le178.out) le217.out) le243.out) le288.out) t308.out) (.inr (Nat.le_refl _))
    have h314 := Held.ran h296 (ran_drew W294 _) (Nat.le_trans (Nat.le_trans (Nat.le_trans (Nat.le_trans (Nat.le_trans (Nat.le_trans (Nat.le_trans (Nat.le_trans (Nat.le_trans (Nat.le_trans (le10.out) le27.out) le61.out) le91.out) le121.out) le154.out) le178.out) le217.out) le243.out) le288.out) t308.out) (.inr (Nat.le_refl _))
    have h315 := Held.ran h297 (ran_drew W294 _) (Nat.le_trans (Nat.le_trans (Nat.le_trans (Nat.le_trans (Nat.le_trans (Nat.le_trans (Nat.le_trans (Nat.le_trans (Nat.le_trans (le27.out) le61.out) le91.out) le121.out) le154.out) le178.out) le217.out) le243.out) le288.out) t308.out) (.inr (Nat.le_refl _))
    have h316 := Held.ran h298 (ran_drew W294 _) (Nat.le_trans (Nat.le_trans (Nat.le_trans (Nat.le_trans (Nat.le_trans (Nat.le_trans (Nat.le_trans (Nat.le_trans (le61.out) le91.out) le121.out) le154.out) le178.out) le217.out) le243.out) le288.out) t308.out) (.inr (Nat.le_refl _))
    have h317 := Held.ran h299 (ran_drew W294 _) (Nat.le_trans (Nat.le_trans (Nat.le_trans (Nat.le_trans (Nat.le_trans (Nat.le_trans (le121.out) le154.out) le178.out) le217.out) le243.out) le288.out) t308.out) (.inr (Nat.le_refl _))
    have h318 := Held.ran h300 (ran_drew W294 _) (Nat.le_trans (Nat.le_trans (Nat.le_trans (Nat.le_trans (Nat.le_trans (Nat.le_trans (le121.out) le154.out) le178.out) le217.out) le243.out) le288.out) t308.out) (.inr (Nat.le_refl _))
    have h319 := Held.ran h301 (ran_drew W294 _) (Nat.le_trans (Nat.le_trans (Nat.le_trans (Nat.le_trans (Nat.le_trans (le154.out) le178.out) le217.out) le243.out) le288.out) t308.out) (.inr (Nat.le_refl _))
    have h320 := Held.ran h302 (ran_drew W294 _) (Nat.le_trans (Nat.le_trans (Nat.le_trans (Nat.le_trans (le178.out) le217.out) le243.out) le288.out) t308.out) (.inr (Nat.le_refl _))
    have h321 := Held.ran h303 (ran_drew W294 _) (Nat.le_trans (Nat.le_trans (Nat.le_trans (le217.out) le243.out) le288.out) t308.out) (.inr (Nat.le_refl _))
    have h322 := Held.ran h304 (ran_drew W294 _) (Nat.le_trans (Nat.le_trans (le243.out) le288.out) t308.out) (.inr (Nat.le_refl _))
    have h323 := Held.ran h305 (ran_drew W294 _) (Nat.le_trans (le288.out) t308.out) (.inr (Nat.le_refl _))
    have h324 := Held.ran h306 (ran_drew W294 _) (Nat.le_trans (Nat.le_refl _) t308.out) (.inr (Nat.le_refl _))
    have bel325 : Below w.heap.size w (World.drew W294) := below_drew bel307
    have t326 : Hid (W250.heap.size ≤ ((World.drew W294)).heap.size) := t308
    clear h295 h296 h297 h298 h299 h300 h301 h302 h303 h304 h305 h306 bel307
    have le328 : Hid (W250.heap.size ≤ (World.drew W294).heap.size) := t326
    have t329 : Hid ((World.drew W294).heap.size ≤ (World.drew W294).heap.size) := Lib.hid (Nat.le_refl _)
    refine region_held_n 5 (fun w' => w'.cell? ⟨W104.heap.size, 0, none⟩ = some (.slice A107 x_aG.G.length c108) ∧ w'.cell? ⟨w.heap.size, 0, none⟩ = some (.slice A_aG n_aG c_aG)) (by kernel_rfl) (by kernel_rfl) ⟨q310, q312⟩ (fun hS => ?_)
    refine takeD 0 (some 54) (v := ?_) rfl (by kernel_rfl) (by kernel_rfl) (by kernel_rfl) (fun _ _ _ h => h) hS (fun o ho => Or.inl ⟨by cases ho; rfl, ?_⟩) ?_
    rotate_left
    · cases ho
      intro w' hw'
      (try dsimp only at hw')
      go_simp
      (try with_reducible rfl)
    (try simp only [Act.put, List.setIfInBounds_toArray, List.set_cons_zero, List.set_cons_succ])
    refine takeD 1 (some 55) (v := ?_) rfl (by kernel_rfl) (by kernel_rfl) (by kernel_rfl) (fun _ _ _ h => h) hS (fun o ho => Or.inl ⟨by cases ho; rfl, ?_⟩) ?_
    rotate_left
    · cases ho
      intro w' hw'
      (try dsimp only at hw')
      go_simp
      (try with_reducible rfl)
    (try simp only [Act.put, List.setIfInBounds_toArray, List.set_cons_zero, List.set_cons_succ])
    refine oneD 2 (some 56) (by kernel_rfl) rfl (fun o ho K hK hdo => ?_)
    simp only [List.getElem?_toArray, List.getElem?_cons_succ, List.getElem?_cons_zero, Option.some.injEq] at ho
    subst ho
    clear hdo
    rw [if_pos (by rfl)]
    go_wp2_with ((go_at_call 44; (with_reducible refine (toGroup_any x_aG _ _ _ _ (Rows2.up (Held.now h313) (Nat.le_trans (Nat.le_trans (Nat.le_trans (Nat.le_trans (Nat.le_trans (Nat.le_trans (Nat.le_trans (Nat.le_trans (Nat.le_trans (Nat.le_trans (le10.out) le27.out) le61.out) le91.out) le121.out) le154.out) le178.out) le217.out) le243.out) le288.out) t326.out)) (Nat.le_refl _) H41.out).mono ?_); rintro e W330 ⟨A333, c334, L335, rfl, o332, b331⟩))
    have h339 := Held.ran h313 (ran_below b331 _) (Nat.le_trans (Nat.le_trans (Nat.le_trans (Nat.le_trans (Nat.le_trans (Nat.le_trans (Nat.le_trans (Nat.le_trans (Nat.le_trans (Nat.le_trans (Nat.le_trans (le10.out) le27.out) le61.out) le91.out) le121.out) le154.out) le178.out) le217.out) le243.out) le288.out) le328.out) t329.out) (.inr (Nat.le_refl _))
    have h340 := Held.ran h314 (ran_below b331 _) (Nat.le_trans (Nat.le_trans (Nat.le_trans (Nat.le_trans (Nat.le_trans (Nat.le_trans (Nat.le_trans (Nat.le_trans (Nat.le_trans (Nat.le_trans (Nat.le_trans (le10.out) le27.out) le61.out) le91.out) le121.out) le154.out) le178.out) le217.out) le243.out) le288.out) le328.out) t329.out) (.inr (Nat.le_refl _))
    have h341 := Held.ran h315 (ran_below b331 _) (Nat.le_trans (Nat.le_trans (Nat.le_trans (Nat.le_trans (Nat.le_trans (Nat.le_trans (Nat.le_trans (Nat.le_trans (Nat.le_trans (Nat.le_trans (le27.out) le61.out) le91.out) le121.out) le154.out) le178.out) le217.out) le243.out) le288.out) le328.out) t329.out) (.inr (Nat.le_refl _))
    have h342 := Held.ran h316 (ran_below b331 _) (Nat.le_trans (Nat.le_trans (Nat.le_trans (Nat.le_trans (Nat.le_trans (Nat.le_trans (Nat.le_trans (Nat.le_trans (Nat.le_trans (le61.out) le91.out) le121.out) le154.out) le178.out) le217.out) le243.out) le288.out) le328.out) t329.out) (.inr (Nat.le_refl _))
    have h343 := Held.ran h317 (ran_below b331 _) (Nat.le_trans (Nat.le_trans (Nat.le_trans (Nat.le_trans (Nat.le_trans (Nat.le_trans (Nat.le_trans (le121.out) le154.out) le178.out) le217.out) le243.out) le288.out) le328.out) t329.out) (.inr (Nat.le_refl _))
    have h344 := Held.ran h318 (ran_below b331 _) (Nat.le_trans (Nat.le_trans (Nat.le_trans (Nat.le_trans (Nat.le_trans (Nat.le_trans (Nat.le_trans (le121.out) le154.out) le178.out) le217.out) le243.out) le288.out) le328.out) t329.out) (.inr (Nat.le_refl _))
    have h345 := Held.ran h319 (ran_below b331 _) (Nat.le_trans (Nat.le_trans (Nat.le_trans (Nat.le_trans (Nat.le_trans (Nat.le_trans (le154.out) le178.out) le217.out) le243.out) le288.out) le328.out) t329.out) (.inr (Nat.le_refl _))
    have h346 := Held.ran h320 (ran_below b331 _) (Nat.le_trans (Nat.le_trans (Nat.le_trans (Nat.le_trans (Nat.le_trans (le178.out) le217.out) le243.out) le288.out) le328.out) t329.out) (.inr (Nat.le_refl _))
    have h347 := Held.ran h321 (ran_below b331 _) (Nat.le_trans (Nat.le_trans (Nat.le_trans (Nat.le_trans (le217.out) le243.out) le288.out) le328.out) t329.out) (.inr (Nat.le_refl _))
    have h348 := Held.ran h322 (ran_below b331 _) (Nat.le_trans (Nat.le_trans (Nat.le_trans (le243.out) le288.out) le328.out) t329.out) (.inr (Nat.le_refl _))
    have h349 := Held.ran h323 (ran_below b331 _) (Nat.le_trans (Nat.le_trans (le288.out) le328.out) t329.out) (.inr (Nat.le_refl _))
    have h350 := Held.ran h324 (ran_below b331 _) (Nat.le_trans (le328.out) t329.out) (.inr (Nat.le_refl _))
    have bel351 : Below w.heap.size w W330 := Below.trans bel325 (Below.mono b331 (Nat.le_trans (Nat.le_trans (Nat.le_trans (Nat.le_trans (Nat.le_trans (Nat.le_trans (Nat.le_trans (Nat.le_trans (Nat.le_trans (Nat.le_trans (Nat.le_trans (le10.out) le27.out) le61.out) le91.out) le121.out) le154.out) le178.out) le217.out) le243.out) le288.out) le328.out) t329.out))
    have t352 : Hid ((World.drew W294).heap.size ≤ W330.heap.size) := Lib.hid (Nat.le_trans t329.out (Below.size b331))
    clear h313 h314 h315 h316 h317 h318 h319 h320 h321 h322 h323 h324 bel325
    have le353 : Hid ((World.drew W294).heap.size ≤ W330.heap.size) := t352
    have t354 : Hid (W330.heap.size ≤ W330.heap.size) := Lib.hid (Nat.le_refl _)
    have fr355 := Own2.from o332
    have lt356 := Own2.lt o332
    have olt357 := Own2.olt o332
    have h358 := held_own2 o332 lt356 olt357
    have ln359 : (lens L335).sum ≤ 2000000 := by rw [Own2.lens o332]; exact Nat.le_trans (sum_le_tot2 _) (Nat.le_trans H41.out (by omega))
    clear o332 b331
    have bk360 := Held.now h346
    have q361 : W330.cell? ⟨W104.heap.size, 0, none⟩ = some (.slice A107 x_aG.G.length c108) := Blk.cell bk360 0
    clear bk360
    have bk362 := Held.now h341
    have q363 : W330.cell? ⟨w.heap.size, 0, none⟩ = some (.slice A_aG n_aG c_aG) := Blk.cell bk362 0
    clear bk362
    refine hK.out _ _ ?_ (fun hS => ?_)
    · exact ⟨q361, q363⟩
    clear hK K
    (try simp only [Act.put, List.setIfInBounds_toArray, List.set_cons_zero, List.set_cons_succ])
    refine oneD 3 (some 57) (by kernel_rfl) rfl (fun o ho K hK hdo => ?_)
    simp only [List.getElem?_toArray, List.getElem?_cons_succ, List.getElem?_cons_zero, Option.some.injEq] at ho
    subst ho
    clear hdo
    rw [if_pos (by rfl)]
    go_wp2_with ((go_at_call 45; (with_reducible refine (eqGroup_any x_aG _ _ _ _ _ _ (Own2.row (Held.now h345)) (Own2.row (Held.now h358)) (Nat.le_refl _) (Nat.le_refl _)).mono ?_); rintro e W365 ⟨rfl, b364⟩))
    have h366 := Held.ran h339 (ran_below b364 _) (Nat.le_trans (Nat.le_trans (Nat.le_trans (Nat.le_trans (Nat.le_trans (Nat.le_trans (Nat.le_trans (Nat.le_trans (Nat.le_trans (Nat.le_trans (Nat.le_trans (Nat.le_trans (le10.out) le27.out) le61.out) le91.out) le121.out) le154.out) le178.out) le217.out) le243.out) le288.out) le328.out) le353.out) t354.out) (.inr (Nat.le_refl _))
    have h367 := Held.ran h340 (ran_below b364 _) (Nat.le_trans (Nat.le_trans (Nat.le_trans (Nat.le_trans (Nat.le_trans (Nat.le_trans (Nat.le_trans (Nat.le_trans (Nat.le_trans (Nat.le_trans (Nat.le_trans (Nat.le_trans (le10.out) le27.out) le61.out) le91.out) le121.out) le154.out) le178.out) le217.out) le243.out) le288.out) le328.out) le353.out) t354.out) (.inr (Nat.le_refl _))
    have h368 := Held.ran h341 (ran_below b364 _) (Nat.le_trans (Nat.le_trans (Nat.le_trans (Nat.le_trans (Nat.le_trans (Nat.le_trans (Nat.le_trans (Nat.le_trans (Nat.le_trans (Nat.le_trans (Nat.le_trans (le27.out) le61.out) le91.out) le121.out) le154.out) le178.out) le217.out) le243.out) le288.out) le328.out) le353.out) t354.out) (.inr (Nat.le_refl _))
    have h369 := Held.ran h342 (ran_below b364 _) (Nat.le_trans (Nat.le_trans (Nat.le_trans (Nat.le_trans (Nat.le_trans (Nat.le_trans (Nat.le_trans (Nat.le_trans (Nat.le_trans (Nat.le_trans (le61.out) le91.out) le121.out) le154.out) le178.out) le217.out) le243.out) le288.out) le328.out) le353.out) t354.out) (.inr (Nat.le_refl _))
    have h370 := Held.ran h343 (ran_below b364 _) (Nat.le_trans (Nat.le_trans (Nat.le_trans (Nat.le_trans (Nat.le_trans (Nat.le_trans (Nat.le_trans (Nat.le_trans (le121.out) le154.out) le178.out) le217.out) le243.out) le288.out) le328.out) le353.out) t354.out) (.inr (Nat.le_refl _))
    have h371 := Held.ran h344 (ran_below b364 _) (Nat.le_trans (Nat.le_trans (Nat.le_trans (Nat.le_trans (Nat.le_trans (Nat.le_trans (Nat.le_trans (Nat.le_trans (le121.out) le154.out) le178.out) le217.out) le243.out) le288.out) le328.out) le353.out) t354.out) (.inr (Nat.le_refl _))
    have h372 := Held.ran h345 (ran_below b364 _) (Nat.le_trans (Nat.le_trans (Nat.le_trans (Nat.le_trans (Nat.le_trans (Nat.le_trans (Nat.le_trans (le154.out) le178.out) le217.out) le243.out) le288.out) le328.out) le353.out) t354.out) (.inr (Nat.le_refl _))
    have h373 := Held.ran h346 (ran_below b364 _) (Nat.le_trans (Nat.le_trans (Nat.le_trans (Nat.le_trans (Nat.le_trans (Nat.le_trans (le178.out) le217.out) le243.out) le288.out) le328.out) le353.out) t354.out) (.inr (Nat.le_refl _))
    have h374 := Held.ran h347 (ran_below b364 _) (Nat.le_trans (Nat.le_trans (Nat.le_trans (Nat.le_trans (Nat.le_trans (le217.out) le243.out) le288.out) le328.out) le353.out) t354.out) (.inr (Nat.le_refl _))
    have h375 := Held.ran h348 (ran_below b364 _) (Nat.le_trans (Nat.le_trans (Nat.le_trans (Nat.le_trans (le243.out) le288.out) le328.out) le353.out) t354.out) (.inr (Nat.le_refl _))
    have h376 := Held.ran h349 (ran_below b364 _) (Nat.le_trans (Nat.le_trans (Nat.le_trans (le288.out) le328.out) le353.out) t354.out) (.inr (Nat.le_refl _))
    have h377 := Held.ran h350 (ran_below b364 _) (Nat.le_trans (Nat.le_trans (le328.out) le353.out) t354.out) (.inr (Nat.le_refl _))
    have h378 := Held.ran h358 (ran_below b364 _) (Nat.le_refl _) (.inr (Nat.le_refl _))
    have bel379 : Below w.heap.size w W365 := Below.trans bel351 (Below.mono b364 (Nat.le_trans (Nat.le_trans (Nat.le_trans (Nat.le_trans (Nat.le_trans (Nat.le_trans (Nat.le_trans (Nat.le_trans (Nat.le_trans (Nat.le_trans (Nat.le_trans (Nat.le_trans (le10.out) le27.out) le61.out) le91.out) le121.out) le154.out) le178.out) le217.out) le243.out) le288.out) le328.out) le353.out) t354.out))
    have t380 : Hid (W330.heap.size ≤ W365.heap.size) := Lib.hid (Nat.le_trans t354.out (Below.size b364))
    clear h339 h340 h341 h342 h343 h344 h345 h346 h347 h348 h349 h350 h358 bel351
    have bk381 := Held.now h373
    have q382 : W365.cell? ⟨W104.heap.size, 0, none⟩ = some (.slice A107 x_aG.G.length c108) := Blk.cell bk381 0
    clear bk381
    have bk383 := Held.now h368
    have q384 : W365.cell? ⟨w.heap.size, 0, none⟩ = some (.slice A_aG n_aG c_aG) := Blk.cell bk383 0
    clear bk383
    clear b364
    refine hK.out _ _ ?_ (fun hS => ?_)
    · exact ⟨q382, q384⟩
    clear hK K
    (try simp only [Act.put, List.setIfInBounds_toArray, List.set_cons_zero, List.set_cons_succ])
    refine takeD 4 (some 58) (v := ?_) rfl (by kernel_rfl) (by kernel_rfl) (by kernel_rfl) (fun _ _ _ h => h) hS (fun o ho => Or.inl ⟨by cases ho; rfl, ?_⟩) ?_
    rotate_left
    · cases ho
      intro w' hw'
      (try dsimp only at hw')
      go_simp
      (try with_reducible rfl)
    (try simp only [Act.put, List.setIfInBounds_toArray, List.set_cons_zero, List.set_cons_succ])
    refine wpAnyH_done (by kernel_rfl) ?_ _
    clear hS
    clear q310 q312 q361 q363 q382 q384
    have bk385 := Held.now h375
    have q386 : W365.cell? ⟨W159.heap.size, 0, none⟩ = some (.slice A162 x_aH.G.length c163) := Blk.cell bk385 0
    clear bk385
    have bk387 := Held.now h369
    have q388 : W365.cell? ⟨W1.heap.size, 0, none⟩ = some (.slice A_aH n_aH c_aH) := Blk.cell bk387 0
    clear bk387
    go_wp2_with fail
    have h389 := Held.ran h366 (ran_drew W365 _) (Nat.le_trans (Nat.le_trans (Nat.le_trans (Nat.le_trans (Nat.le_trans (Nat.le_trans (Nat.le_trans (Nat.le_trans (Nat.le_trans (Nat.le_trans (Nat.le_trans (Nat.le_trans (le10.out) le27.out) le61.out) le91.out) le121.out) le154.out) le178.out) le217.out) le243.out) le288.out) le328.out) le353.out) t380.out) (.inr (Nat.le_refl _))
    have h390 := Held.ran h367 (ran_drew W365 _) (Nat.le_trans (Nat.le_trans (Nat.le_trans (Nat.le_trans (Nat.le_trans (Nat.le_trans (Nat.le_trans (Nat.le_trans (Nat.le_trans (Nat.le_trans (Nat.le_trans (Nat.le_trans (le10.out) le27.out) le61.out) le91.out) le121.out) le154.out) le178.out) le217.out) le243.out) le288.out) le328.out) le353.out) t380.out) (.inr (Nat.le_refl _))
    have h391 := Held.ran h368 (ran_drew W365 _) (Nat.le_trans (Nat.le_trans (Nat.le_trans (Nat.le_trans (Nat.le_trans (Nat.le_trans (Nat.le_trans (Nat.le_trans (Nat.le_trans (Nat.le_trans (Nat.le_trans (le27.out) le61.out) le91.out) le121.out) le154.out) le178.out) le217.out) le243.out) le288.out) le328.out) le353.out) t380.out) (.inr (Nat.le_refl _))
    have h392 := Held.ran h369 (ran_drew W365 _) (Nat.le_trans (Nat.le_trans (Nat.le_trans (Nat.le_trans (Nat.le_trans (Nat.le_trans (Nat.le_trans (Nat.le_trans (Nat.le_trans (Nat.le_trans (le61.out) le91.out) le121.out) le154.out) le178.out) le217.out) le243.out) le288.out) le328.out) le353.out) t380.out) (.inr (Nat.le_refl _))
    have h393 := Held.ran h370 (ran_drew W365 _) (Nat.le_trans (Nat.le_trans (Nat.le_trans (Nat.le_trans (Nat.le_trans (Nat.le_trans (Nat.le_trans (Nat.le_trans (le121.out) le154.out) le178.out) le217.out) le243.out) le288.out) le328.out) le353.out) t380.out) (.inr (Nat.le_refl _))
    have h394 := Held.ran h371 (ran_drew W365 _) (Nat.le_trans (Nat.le_trans (Nat.le_trans (Nat.le_trans (Nat.le_trans (Nat.le_trans (Nat.le_trans (Nat.le_trans (le121.out) le154.out) le178.out) le217.out) le243.out) le288.out) le328.out) le353.out) t380.out) (.inr (Nat.le_refl _))
    have h395 := Held.ran h372 (ran_drew W365 _) (Nat.le_trans (Nat.le_trans (Nat.le_trans (Nat.le_trans (Nat.le_trans (Nat.le_trans (Nat.le_trans (le154.out) le178.out) le217.out) le243.out) le288.out) le328.out) le353.out) t380.out) (.inr (Nat.le_refl _))
    have h396 := Held.ran h373 (ran_drew W365 _) (Nat.le_trans (Nat.le_trans (Nat.le_trans (Nat.le_trans (Nat.le_trans (Nat.le_trans (le178.out) le217.out) le243.out) le288.out) le328.out) le353.out) t380.out) (.inr (Nat.le_refl _))
    have h397 := Held.ran h374 (ran_drew W365 _) (Nat.le_trans (Nat.le_trans (Nat.le_trans (Nat.le_trans (Nat.le_trans (le217.out) le243.out) le288.out) le328.out) le353.out) t380.out) (.inr (Nat.le_refl _))
    have h398 := Held.ran h375 (ran_drew W365 _) (Nat.le_trans (Nat.le_trans (Nat.le_trans (Nat.le_trans (le243.out) le288.out) le328.out) le353.out) t380.out) (.inr (Nat.le_refl _))
    have h399 := Held.ran h376 (ran_drew W365 _) (Nat.le_trans (Nat.le_trans (Nat.le_trans (le288.out) le328.out) le353.out) t380.out) (.inr (Nat.le_refl _))
    have h400 := Held.ran h377 (ran_drew W365 _) (Nat.le_trans (Nat.le_trans (le328.out) le353.out) t380.out) (.inr (Nat.le_refl _))
    have h401 := Held.ran h378 (ran_drew W365 _) (Nat.le_trans (Nat.le_refl _) t380.out) (.inr (Nat.le_refl _))
    have bel402 : Below w.heap.size w (World.drew W365) := below_drew bel379
    have t403 : Hid (W330.heap.size ≤ ((World.drew W365)).heap.size) := t380
    clear h366 h367 h368 h369 h370 h371 h372 h373 h374 h375 h376 h377 h378 bel379
    have le405 : Hid (W330.heap.size ≤ (World.drew W365).heap.size) := t403
    have t406 : Hid ((World.drew W365).heap.size ≤ (World.drew W365).heap.size) := Lib.hid (Nat.le_refl _)
    refine region_held_n 5 (fun w' => w'.cell? ⟨W159.heap.size, 0, none⟩ = some (.slice A162 x_aH.G.length c163) ∧ w'.cell? ⟨W1.heap.size, 0, none⟩ = some (.slice A_aH n_aH c_aH)) (by kernel_rfl) (by kernel_rfl) ⟨q386, q388⟩ (fun hS => ?_)
    refine takeD 0 (some 59) (v := ?_) rfl (by kernel_rfl) (by kernel_rfl) (by kernel_rfl) (fun _ _ _ h => h) hS (fun o ho => Or.inl ⟨by cases ho; rfl, ?_⟩) ?_
    rotate_left
    · cases ho
      intro w' hw'
      (try dsimp only at hw')
      go_simp
      (try with_reducible rfl)
    (try simp only [Act.put, List.setIfInBounds_toArray, List.set_cons_zero, List.set_cons_succ])
    refine takeD 1 (some 60) (v := ?_) rfl (by kernel_rfl) (by kernel_rfl) (by kernel_rfl) (fun _ _ _ h => h) hS (fun o ho => Or.inl ⟨by cases ho; rfl, ?_⟩) ?_
    rotate_left
    · cases ho
      intro w' hw'
      (try dsimp only at hw')
      go_simp
      (try with_reducible rfl)
    (try simp only [Act.put, List.setIfInBounds_toArray, List.set_cons_zero, List.set_cons_succ])
    refine oneD 2 (some 61) (by kernel_rfl) rfl (fun o ho K hK hdo => ?_)
    simp only [List.getElem?_toArray, List.getElem?_cons_succ, List.getElem?_cons_zero, Option.some.injEq] at ho
    subst ho
    clear hdo
    rw [if_pos (by rfl)]
    go_wp2_with ((go_at_call 44; (with_reducible refine (toGroup_any x_aH _ _ _ _ (Rows2.up (Held.now h390) (Nat.le_trans (Nat.le_trans (Nat.le_trans (Nat.le_trans (Nat.le_trans (Nat.le_trans (Nat.le_trans (Nat.le_trans (Nat.le_trans (Nat.le_trans (Nat.le_trans (Nat.le_trans (le10.out) le27.out) le61.out) le91.out) le121.out) le154.out) le178.out) le217.out) le243.out) le288.out) le328.out) le353.out) t403.out)) (Nat.le_refl _) H57.out).mono ?_); rintro e W407 ⟨A410, c411, L412, rfl, o409, b408⟩))
    have h416 := Held.ran h389 (ran_below b408 _) (Nat.le_trans (Nat.le_trans (Nat.le_trans (Nat.le_trans (Nat.le_trans (Nat.le_trans (Nat.le_trans (Nat.le_trans (Nat.le_trans (Nat.le_trans (Nat.le_trans (Nat.le_trans (Nat.le_trans (le10.out) le27.out) le61.out) le91.out) le121.out) le154.out) le178.out) le217.out) le243.out) le288.out) le328.out) le353.out) le405.out) t406.out) (.inr (Nat.le_refl _))
    have h417 := Held.ran h390 (ran_below b408 _) (Nat.le_trans (Nat.le_trans (Nat.le_trans (Nat.le_trans (Nat.le_trans (Nat.le_trans (Nat.le_trans (Nat.le_trans (Nat.le_trans (Nat.le_trans (Nat.le_trans (Nat.le_trans (Nat.le_trans (le10.out) le27.out) le61.out) le91.out) le121.out) le154.out) le178.out) le217.out) le243.out) le288.out) le328.out) le353.out) le405.out) t406.out) (.inr (Nat.le_refl _))
    have h418 := Held.ran h391 (ran_below b408 _) (Nat.le_trans (Nat.le_trans (Nat.le_trans (Nat.le_trans (Nat.le_trans (Nat.le_trans (Nat.le_trans (Nat.le_trans (Nat.le_trans (Nat.le_trans (Nat.le_trans (Nat.le_trans (le27.out) le61.out) le91.out) le121.out) le154.out) le178.out) le217.out) le243.out) le288.out) le328.out) le353.out) le405.out) t406.out) (.inr (Nat.le_refl _))
    have h419 := Held.ran h392 (ran_below b408 _) (Nat.le_trans (Nat.le_trans (Nat.le_trans (Nat.le_trans (Nat.le_trans (Nat.le_trans (Nat.le_trans (Nat.le_trans (Nat.le_trans (Nat.le_trans (Nat.le_trans (le61.out) le91.out) le121.out) le154.out) le178.out) le217.out) le243.out) le288.out) le328.out) le353.out) le405.out) t406.out) (.inr (Nat.le_refl _))
    have h420 := Held.ran h393 (ran_below b408 _) (Nat.le_trans (Nat.le_trans (Nat.le_trans (Nat.le_trans (Nat.le_trans (Nat.le_trans (Nat.le_trans (Nat.le_trans (Nat.le_trans (le121.out) le154.out) le178.out) le217.out) le243.out) le288.out) le328.out) le353.out) le405.out) t406.out) (.inr (Nat.le_refl _))
    have h421 := Held.ran h394 (ran_below b408 _) (Nat.le_trans (Nat.le_trans (Nat.le_trans (Nat.le_trans (Nat.le_trans (Nat.le_trans (Nat.le_trans (Nat.le_trans (Nat.le_trans (le121.out) le154.out) le178.out) le217.out) le243.out) le288.out) le328.out) le353.out) le405.out) t406.out) (.inr (Nat.le_refl _))
    have h422 := Held.ran h395 (ran_below b408 _) (Nat.le_trans (Nat.le_trans (Nat.le_trans (Nat.le_trans (Nat.le_trans (Nat.le_trans (Nat.le_trans (Nat.le_trans (le154.out) le178.out) le217.out) le243.out) le288.out) le328.out) le353.out) le405.out) t406.out) (.inr (Nat.le_refl _))
    have h423 := Held.ran h396 (ran_below b408 _) (Nat.le_trans (Nat.le_trans (Nat.le_trans (Nat.le_trans (Nat.le_trans (Nat.le_trans (Nat.le_trans (le178.out) le217.out) le243.out) le288.out) le328.out) le353.out) le405.out) t406.out) (.inr (Nat.le_refl _))
    have h424 := Held.ran h397 (ran_below b408 _) (Nat.le_trans (Nat.le_trans (Nat.le_trans (Nat.le_trans (Nat.le_trans (Nat.le_trans (le217.out) le243.out) le288.out) le328.out) le353.out) le405.out) t406.out) (.inr (Nat.le_refl _))
    have h425 := Held.ran h398 (ran_below b408 _) (Nat.le_trans (Nat.le_trans (Nat.le_trans (Nat.le_trans (Nat.le_trans (le243.out) le288.out) le328.out) le353.out) le405.out) t406.out) (.inr (Nat.le_refl _))
    have h426 := Held.ran h399 (ran_below b408 _) (Nat.le_trans (Nat.le_trans (Nat.le_trans (Nat.le_trans (le288.out) le328.out) le353.out) le405.out) t406.out) (.inr (Nat.le_refl _))
    have h427 := Held.ran h400 (ran_below b408 _) (Nat.le_trans (Nat.le_trans (Nat.le_trans (le328.out) le353.out) le405.out) t406.out) (.inr (Nat.le_refl _))
    have h428 := Held.ran h401 (ran_below b408 _) (Nat.le_trans (le405.out) t406.out) (.inr (Nat.le_refl _))
    have bel429 : Below w.heap.size w W407 := Below.trans bel402 (Below.mono b408 (Nat.le_trans (Nat.le_trans (Nat.le_trans (Nat.le_trans (Nat.le_trans (Nat.le_trans (Nat.le_trans (Nat.le_trans (Nat.le_trans (Nat.le_trans (Nat.le_trans (Nat.le_trans (Nat.le_trans (le10.out) le27.out) le61.out) le91.out) le121.out) le154.out) le178.out) le217.out) le243.out) le288.out) le328.out) le353.out) le405.out) t406.out))
    have t430 : Hid ((World.drew W365).heap.size ≤ W407.heap.size) := Lib.hid (Nat.le_trans t406.out (Below.size b408))
    clear h389 h390 h391 h392 h393 h394 h395 h396 h397 h398 h399 h400 h401 bel402
    have le431 : Hid ((World.drew W365).heap.size ≤ W407.heap.size) := t430
    have t432 : Hid (W407.heap.size ≤ W407.heap.size) := Lib.hid (Nat.le_refl _)
    have fr433 := Own2.from o409
    have lt434 := Own2.lt o409
    have olt435 := Own2.olt o409
    have h436 := held_own2 o409 lt434 olt435
    have ln437 : (lens L412).sum ≤ 2000000 := by rw [Own2.lens o409]; exact Nat.le_trans (sum_le_tot2 _) (Nat.le_trans H57.out (by omega))
    clear o409 b408
    have bk438 := Held.now h425
    have q439 : W407.cell? ⟨W159.heap.size, 0, none⟩ = some (.slice A162 x_aH.G.length c163) := Blk.cell bk438 0
    clear bk438
    have bk440 := Held.now h419
    have q441 : W407.cell? ⟨W1.heap.size, 0, none⟩ = some (.slice A_aH n_aH c_aH) := Blk.cell bk440 0
    clear bk440
    refine hK.out _ _ ?_ (fun hS => ?_)
    · exact ⟨q439, q441⟩
    clear hK K
    (try simp only [Act.put, List.setIfInBounds_toArray, List.set_cons_zero, List.set_cons_succ])
    refine oneD 3 (some 62) (by kernel_rfl) rfl (fun o ho K hK hdo => ?_)
    simp only [List.getElem?_toArray, List.getElem?_cons_succ, List.getElem?_cons_zero, Option.some.injEq] at ho
    subst ho
    clear hdo
    rw [if_pos (by rfl)]
    go_wp2_with ((go_at_call 45; (with_reducible refine (eqGroup_any x_aH _ _ _ _ _ _ (Own2.row (Held.now h424)) (Own2.row (Held.now h436)) (Nat.le_refl _) (Nat.le_refl _)).mono ?_); rintro e W443 ⟨rfl, b442⟩))
    have h444 := Held.ran h416 (ran_below b442 _) (Nat.le_trans (Nat.le_trans (Nat.le_trans (Nat.le_trans (Nat.le_trans (Nat.le_trans (Nat.le_trans (Nat.le_trans (Nat.le_trans (Nat.le_trans (Nat.le_trans (Nat.le_trans (Nat.le_trans (Nat.le_trans (le10.out) le27.out) le61.out) le91.out) le121.out) le154.out) le178.out) le217.out) le243.out) le288.out) le328.out) le353.out) le405.out) le431.out) t432.out) (.inr (Nat.le_refl _))
    have h445 := Held.ran h417 (ran_below b442 _) (Nat.le_trans (Nat.le_trans (Nat.le_trans (Nat.le_trans (Nat.le_trans (Nat.le_trans (Nat.le_trans (Nat.le_trans (Nat.le_trans (Nat.le_trans (Nat.le_trans (Nat.le_trans (Nat.le_trans (Nat.le_trans (le10.out) le27.out) le61.out) le91.out) le121.out) le154.out) le178.out) le217.out) le243.out) le288.out) le328.out) le353.out) le405.out) le431.out) t432.out) (.inr (Nat.le_refl _))
    have h446 := Held.ran h418 (ran_below b442 _) (Nat.le_trans (Nat.le_trans (Nat.le_trans (Nat.le_trans (Nat.le_trans (Nat.le_trans (Nat.le_trans (Nat.le_trans (Nat.le_trans (Nat.le_trans (Nat.le_trans (Nat.le_trans (Nat.le_trans (le27.out) le61.out) le91.out) le121.out) le154.out) le178.out) le217.out) le243.out) le288.out) le328.out) le353.out) le405.out) le431.out) t432.out) (.inr (Nat.le_refl _))
    have h447 := Held.ran h419 (ran_below b442 _) (Nat.le_trans (Nat.le_trans (Nat.le_trans (Nat.le_trans (Nat.le_trans (Nat.le_trans (Nat.le_trans (Nat.le_trans (Nat.le_trans (Nat.le_trans (Nat.le_trans (Nat.le_trans (le61.out) le91.out) le121.out) le154.out) le178.out) le217.out) le243.out) le288.out) le328.out) le353.out) le405.out) le431.out) t432.out) (.inr (Nat.le_refl _))
    have h448 := Held.ran h420 (ran_below b442 _) (Nat.le_trans (Nat.le_trans (Nat.le_trans (Nat.le_trans (Nat.le_trans (Nat.le_trans (Nat.le_trans (Nat.le_trans (Nat.le_trans (Nat.le_trans (le121.out) le154.out) le178.out) le217.out) le243.out) le288.out) le328.out) le353.out) le405.out) le431.out) t432.out) (.inr (Nat.le_refl _))
    have h449 := Held.ran h421 (ran_below b442 _) (Nat.le_trans (Nat.le_trans (Nat.le_trans (Nat.le_trans (Nat.le_trans (Nat.le_trans (Nat.le_trans (Nat.le_trans (Nat.le_trans (Nat.le_trans (le121.out) le154.out) le178.out) le217.out) le243.out) le288.out) le328.out) le353.out) le405.out) le431.out) t432.out) (.inr (Nat.le_refl _))
    have h450 := Held.ran h422 (ran_below b442 _) (Nat.le_trans (Nat.le_trans (Nat.le_trans (Nat.le_trans (Nat.le_trans (Nat.le_trans (Nat.le_trans (Nat.le_trans (Nat.le_trans (le154.out) le178.out) le217.out) le243.out) le288.out) le328.out) le353.out) le405.out) le431.out) t432.out) (.inr (Nat.le_refl _))
    have h451 := Held.ran h423 (ran_below b442 _) (Nat.le_trans (Nat.le_trans (Nat.le_trans (Nat.le_trans (Nat.le_trans (Nat.le_trans (Nat.le_trans (Nat.le_trans (le178.out) le217.out) le243.out) le288.out) le328.out) le353.out) le405.out) le431.out) t432.out) (.inr (Nat.le_refl _))
    have h452 := Held.ran h424 (ran_below b442 _) (Nat.le_trans (Nat.le_trans (Nat.le_trans (Nat.le_trans (Nat.le_trans (Nat.le_trans (Nat.le_trans (le217.out) le243.out) le288.out) le328.out) le353.out) le405.out) le431.out) t432.out) (.inr (Nat.le_refl _))
    have h453 := Held.ran h425 (ran_below b442 _) (Nat.le_trans (Nat.le_trans (Nat.le_trans (Nat.le_trans (Nat.le_trans (Nat.le_trans (le243.out) le288.out) le328.out) le353.out) le405.out) le431.out) t432.out) (.inr (Nat.le_refl _))
    have h454 := Held.ran h426 (ran_below b442 _) (Nat.le_trans (Nat.le_trans (Nat.le_trans (Nat.le_trans (Nat.le_trans (le288.out) le328.out) le353.out) le405.out) le431.out) t432.out) (.inr (Nat.le_refl _))
    have h455 := Held.ran h427 (ran_below b442 _) (Nat.le_trans (Nat.le_trans (Nat.le_trans (Nat.le_trans (le328.out) le353.out) le405.out) le431.out) t432.out) (.inr (Nat.le_refl _))
    have h456 := Held.ran h428 (ran_below b442 _) (Nat.le_trans (Nat.le_trans (le405.out) le431.out) t432.out) (.inr (Nat.le_refl _))
    have h457 := Held.ran h436 (ran_below b442 _) (Nat.le_refl _) (.inr (Nat.le_refl _))
    have bel458 : Below w.heap.size w W443 := Below.trans bel429 (Below.mono b442 (Nat.le_trans (Nat.le_trans (Nat.le_trans (Nat.le_trans (Nat.le_trans (Nat.le_trans (Nat.le_trans (Nat.le_trans (Nat.le_trans (Nat.le_trans (Nat.le_trans (Nat.le_trans (Nat.le_trans (Nat.le_trans (le10.out) le27.out) le61.out) le91.out) le121.out) le154.out) le178.out) le217.out) le243.out) le288.out) le328.out) le353.out) le405.out) le431.out) t432.out))
    have t459 : Hid (W407.heap.size ≤ W443.heap.size) := Lib.hid (Nat.le_trans t432.out (Below.size b442))
    clear h416 h417 h418 h419 h420 h421 h422 h423 h424 h425 h426 h427 h428 h436 bel429
    have bk460 := Held.now h453
    have q461 : W443.cell? ⟨W159.heap.size, 0, none⟩ = some (.slice A162 x_aH.G.length c163) := Blk.cell bk460 0
    clear bk460
    have bk462 := Held.now h447
    have q463 : W443.cell? ⟨W1.heap.size, 0, none⟩ = some (.slice A_aH n_aH c_aH) := Blk.cell bk462 0
    clear bk462
    clear b442
    refine hK.out _ _ ?_ (fun hS => ?_)
    · exact ⟨q461, q463⟩
    clear hK K
    (try simp only [Act.put, List.setIfInBounds_toArray, List.set_cons_zero, List.set_cons_succ])
    refine takeD 4 (some 63) (v := ?_) rfl (by kernel_rfl) (by kernel_rfl) (by kernel_rfl) (fun _ _ _ h => h) hS (fun o ho => Or.inl ⟨by cases ho; rfl, ?_⟩) ?_
    rotate_left
    · cases ho
      intro w' hw'
      (try dsimp only at hw')
      go_simp
      (try with_reducible rfl)
    (try simp only [Act.put, List.setIfInBounds_toArray, List.set_cons_zero, List.set_cons_succ])
    refine wpAnyH_done (by kernel_rfl) ?_ _
    clear hS
    clear q386 q388 q439 q441 q461 q463
    have bk467 := Held.now h451
    have q468 := Blk.cell bk467 0
    clear bk467
    go_wp2_with fail
    (go_at_call 47; (with_reducible refine (markGroup_any x_aG _ _ _ 1 1 (by omega) _ _ _ (Held.now h450) (Nat.le_trans (Nat.le_trans (Nat.le_trans (Nat.le_trans (Nat.le_trans (Nat.le_trans (Nat.le_trans (Nat.le_trans (Nat.le_trans (Nat.le_trans (le121.out) le154.out) le178.out) le217.out) le243.out) le288.out) le328.out) le353.out) le405.out) le431.out) t459.out) (by omega)).mono ?_); rintro e W466 ⟨rfl, o464, k465, k469⟩)
    have r470 := k469 _ lt124
    clear k465 k469
    have h471 := Held.ran h444 (r470) (Nat.le_trans (Nat.le_trans (Nat.le_trans (Nat.le_trans (Nat.le_trans (Nat.le_trans (Nat.le_trans (Nat.le_trans (Nat.le_trans (Nat.le_trans (Nat.le_trans (Nat.le_trans (Nat.le_trans (Nat.le_trans (le10.out) le27.out) le61.out) le91.out) le121.out) le154.out) le178.out) le217.out) le243.out) le288.out) le328.out) le353.out) le405.out) le431.out) t459.out) (.inr (Nat.le_trans (Nat.le_trans (Nat.le_trans (le10.out) le27.out) le61.out) le91.out))
    have h472 := Held.ran h445 (r470) (Nat.le_trans (Nat.le_trans (Nat.le_trans (Nat.le_trans (Nat.le_trans (Nat.le_trans (Nat.le_trans (Nat.le_trans (Nat.le_trans (Nat.le_trans (Nat.le_trans (Nat.le_trans (Nat.le_trans (Nat.le_trans (le10.out) le27.out) le61.out) le91.out) le121.out) le154.out) le178.out) le217.out) le243.out) le288.out) le328.out) le353.out) le405.out) le431.out) t459.out) (.inr (Nat.le_trans (Nat.le_trans (Nat.le_trans (le10.out) le27.out) le61.out) le91.out))
    have h473 := Held.ran h446 (r470) (Nat.le_trans (Nat.le_trans (Nat.le_trans (Nat.le_trans (Nat.le_trans (Nat.le_trans (Nat.le_trans (Nat.le_trans (Nat.le_trans (Nat.le_trans (Nat.le_trans (Nat.le_trans (Nat.le_trans (le27.out) le61.out) le91.out) le121.out) le154.out) le178.out) le217.out) le243.out) le288.out) le328.out) le353.out) le405.out) le431.out) t459.out) (.inr (Nat.le_trans (Nat.le_trans (le27.out) le61.out) le91.out))
    have h474 := Held.ran h447 (r470) (Nat.le_trans (Nat.le_trans (Nat.le_trans (Nat.le_trans (Nat.le_trans (Nat.le_trans (Nat.le_trans (Nat.le_trans (Nat.le_trans (Nat.le_trans (Nat.le_trans (Nat.le_trans (le61.out) le91.out) le121.out) le154.out) le178.out) le217.out) le243.out) le288.out) le328.out) le353.out) le405.out) le431.out) t459.out) (.inr (Nat.le_trans (le61.out) le91.out))
    have h475 := Held.ran h448 (r470) (Nat.le_trans (Nat.le_trans (Nat.le_trans (Nat.le_trans (Nat.le_trans (Nat.le_trans (Nat.le_trans (Nat.le_trans (Nat.le_trans (Nat.le_trans (le121.out) le154.out) le178.out) le217.out) le243.out) le288.out) le328.out) le353.out) le405.out) le431.out) t459.out) (.inr (Nat.le_refl _))
    have h476 := Held.ran h449 (r470) (Nat.le_trans (Nat.le_trans (Nat.le_trans (Nat.le_trans (Nat.le_trans (Nat.le_trans (Nat.le_trans (Nat.le_trans (Nat.le_trans (Nat.le_trans (le121.out) le154.out) le178.out) le217.out) le243.out) le288.out) le328.out) le353.out) le405.out) le431.out) t459.out) (.inr (Nat.le_refl _))
    have h477 := Held.ran h451 (r470) (Nat.le_trans (Nat.le_trans (Nat.le_trans (Nat.le_trans (Nat.le_trans (Nat.le_trans (Nat.le_trans (Nat.le_trans (le178.out) le217.out) le243.out) le288.out) le328.out) le353.out) le405.out) le431.out) t459.out) (.inl (Nat.le_refl _))
    have h478 := Held.ran h452 (r470) (Nat.le_trans (Nat.le_trans (Nat.le_trans (Nat.le_trans (Nat.le_trans (Nat.le_trans (Nat.le_trans (le217.out) le243.out) le288.out) le328.out) le353.out) le405.out) le431.out) t459.out) (.inl (le154.out))
    have h479 := Held.ran h453 (r470) (Nat.le_trans (Nat.le_trans (Nat.le_trans (Nat.le_trans (Nat.le_trans (Nat.le_trans (le243.out) le288.out) le328.out) le353.out) le405.out) le431.out) t459.out) (.inl (Nat.le_trans (le154.out) le178.out))
    have h480 := Held.ran h454 (r470) (Nat.le_trans (Nat.le_trans (Nat.le_trans (Nat.le_trans (Nat.le_trans (le288.out) le328.out) le353.out) le405.out) le431.out) t459.out) (.inl (Nat.le_trans (Nat.le_trans (le154.out) le178.out) le217.out))
    have h481 := Held.ran h455 (r470) (Nat.le_trans (Nat.le_trans (Nat.le_trans (Nat.le_trans (le328.out) le353.out) le405.out) le431.out) t459.out) (.inl (Nat.le_trans (Nat.le_trans (Nat.le_trans (le154.out) le178.out) le217.out) le243.out))
    have h482 := Held.ran h456 (r470) (Nat.le_trans (Nat.le_trans (le405.out) le431.out) t459.out) (.inl (Nat.le_trans (Nat.le_trans (Nat.le_trans (Nat.le_trans (Nat.le_trans (le154.out) le178.out) le217.out) le243.out) le288.out) le328.out))
    have h483 := Held.ran h457 (r470) (Nat.le_trans (Nat.le_refl _) t459.out) (.inl (Nat.le_trans (Nat.le_trans (Nat.le_trans (Nat.le_trans (Nat.le_trans (Nat.le_trans (Nat.le_trans (le154.out) le178.out) le217.out) le243.out) le288.out) le328.out) le353.out) le405.out))
    have bel484 : Below w.heap.size w W466 := Below.trans bel458 (Ran.below r470 (Nat.le_trans (Nat.le_trans (Nat.le_trans (le10.out) le27.out) le61.out) le91.out) (Nat.le_trans (Nat.le_trans (Nat.le_trans (Nat.le_trans (Nat.le_trans (Nat.le_trans (Nat.le_trans (Nat.le_trans (Nat.le_trans (Nat.le_trans (Nat.le_trans (Nat.le_trans (Nat.le_trans (Nat.le_trans (le10.out) le27.out) le61.out) le91.out) le121.out) le154.out) le178.out) le217.out) le243.out) le288.out) le328.out) le353.out) le405.out) le431.out) t459.out))
    have t485 : Hid (W407.heap.size ≤ W466.heap.size) := Lib.hid (Nat.le_trans t459.out (Ran.size r470))
    clear h444 h445 h446 h447 h448 h449 h451 h452 h453 h454 h455 h456 h457 bel458
    have h486 := held_own2 o464 lt124 olt125
    clear o464 h450 r470
    clear q468
    have bk490 := Held.now h479
    have q491 := Blk.cell bk490 0
    clear bk490
    go_wp2_with fail
    (go_at_call 47; (with_reducible refine (markGroup_any x_aH _ _ _ (1 + (((lens L109).sum : Nat) : Int)) (1 + (lens L109).sum) (by omega) _ _ _ (Held.now h478) (Nat.le_trans (Nat.le_trans (Nat.le_trans (Nat.le_trans (Nat.le_trans (Nat.le_trans (Nat.le_trans (Nat.le_trans (le178.out) le217.out) le243.out) le288.out) le328.out) le353.out) le405.out) le431.out) t485.out) (by omega)).mono ?_); rintro e W489 ⟨rfl, o487, k488, k492⟩)
    have r493 := k492 _ lt181
    clear k488 k492
    have h494 := Held.ran h471 (r493) (Nat.le_trans (Nat.le_trans (Nat.le_trans (Nat.le_trans (Nat.le_trans (Nat.le_trans (Nat.le_trans (Nat.le_trans (Nat.le_trans (Nat.le_trans (Nat.le_trans (Nat.le_trans (Nat.le_trans (Nat.le_trans (le10.out) le27.out) le61.out) le91.out) le121.out) le154.out) le178.out) le217.out) le243.out) le288.out) le328.out) le353.out) le405.out) le431.out) t485.out) (.inr (Nat.le_trans (Nat.le_trans (Nat.le_trans (Nat.le_trans (Nat.le_trans (le10.out) le27.out) le61.out) le91.out) le121.out) le154.out))
    have h495 := Held.ran h472 (r493) (Nat.le_trans (Nat.le_trans (Nat.le_trans (Nat.le_trans (Nat.le_trans (Nat.le_trans (Nat.le_trans (Nat.le_trans (Nat.le_trans (Nat.le_trans (Nat.le_trans (Nat.le_trans (Nat.le_trans (Nat.le_trans (le10.out) le27.out) le61.out) le91.out) le121.out) le154.out) le178.out) le217.out) le243.out) le288.out) le328.out) le353.out) le405.out) le431.out) t485.out) (.inr (Nat.le_trans (Nat.le_trans (Nat.le_trans (Nat.le_trans (Nat.le_trans (le10.out) le27.out) le61.out) le91.out) le121.out) le154.out))
    have h496 := Held.ran h473 (r493) (Nat.le_trans (Nat.le_trans (Nat.le_trans (Nat.le_trans (Nat.le_trans (Nat.le_trans (Nat.le_trans (Nat.le_trans (Nat.le_trans (Nat.le_trans (Nat.le_trans (Nat.le_trans (Nat.le_trans (le27.out) le61.out) le91.out) le121.out) le154.out) le178.out) le217.out) le243.out) le288.out) le328.out) le353.out) le405.out) le431.out) t485.out) (.inr (Nat.le_trans (Nat.le_trans (Nat.le_trans (Nat.le_trans (le27.out) le61.out) le91.out) le121.out) le154.out))
    have h497 := Held.ran h474 (r493) (Nat.le_trans (Nat.le_trans (Nat.le_trans (Nat.le_trans (Nat.le_trans (Nat.le_trans (Nat.le_trans (Nat.le_trans (Nat.le_trans (Nat.le_trans (Nat.le_trans (Nat.le_trans (le61.out) le91.out) le121.out) le154.out) le178.out) le217.out) le243.out) le288.out) le328.out) le353.out) le405.out) le431.out) t485.out) (.inr (Nat.le_trans (Nat.le_trans (Nat.le_trans (le61.out) le91.out) le121.out) le154.out))
    have h498 := Held.ran h475 (r493) (Nat.le_trans (Nat.le_trans (Nat.le_trans (Nat.le_trans (Nat.le_trans (Nat.le_trans (Nat.le_trans (Nat.le_trans (Nat.le_trans (Nat.le_trans (le121.out) le154.out) le178.out) le217.out) le243.out) le288.out) le328.out) le353.out) le405.out) le431.out) t485.out) (.inr (Nat.le_trans (le121.out) le154.out))
    have h499 := Held.ran h476 (r493) (Nat.le_trans (Nat.le_trans (Nat.le_trans (Nat.le_trans (Nat.le_trans (Nat.le_trans (Nat.le_trans (Nat.le_trans (Nat.le_trans (Nat.le_trans (le121.out) le154.out) le178.out) le217.out) le243.out) le288.out) le328.out) le353.out) le405.out) le431.out) t485.out) (.inr (Nat.le_trans (le121.out) le154.out))
    have h500 := Held.ran h486 (r493) (Nat.le_trans (Nat.le_trans (Nat.le_trans (Nat.le_trans (Nat.le_trans (Nat.le_trans (Nat.le_trans (Nat.le_trans (Nat.le_trans (le154.out) le178.out) le217.out) le243.out) le288.out) le328.out) le353.out) le405.out) le431.out) t485.out) (.inr (le154.out))
    have h501 := Held.ran h477 (r493) (Nat.le_trans (Nat.le_trans (Nat.le_trans (Nat.le_trans (Nat.le_trans (Nat.le_trans (Nat.le_trans (Nat.le_trans (le178.out) le217.out) le243.out) le288.out) le328.out) le353.out) le405.out) le431.out) t485.out) (.inr (Nat.le_refl _))
    have h502 := Held.ran h479 (r493) (Nat.le_trans (Nat.le_trans (Nat.le_trans (Nat.le_trans (Nat.le_trans (Nat.le_trans (le243.out) le288.out) le328.out) le353.out) le405.out) le431.out) t485.out) (.inl (Nat.le_refl _))
    have h503 := Held.ran h480 (r493) (Nat.le_trans (Nat.le_trans (Nat.le_trans (Nat.le_trans (Nat.le_trans (le288.out) le328.out) le353.out) le405.out) le431.out) t485.out) (.inl (le217.out))
    have h504 := Held.ran h481 (r493) (Nat.le_trans (Nat.le_trans (Nat.le_trans (Nat.le_trans (le328.out) le353.out) le405.out) le431.out) t485.out) (.inl (Nat.le_trans (le217.out) le243.out))
    have h505 := Held.ran h482 (r493) (Nat.le_trans (Nat.le_trans (le405.out) le431.out) t485.out) (.inl (Nat.le_trans (Nat.le_trans (Nat.le_trans (le217.out) le243.out) le288.out) le328.out))
    have h506 := Held.ran h483 (r493) (Nat.le_trans (Nat.le_refl _) t485.out) (.inl (Nat.le_trans (Nat.le_trans (Nat.le_trans (Nat.le_trans (Nat.le_trans (le217.out) le243.out) le288.out) le328.out) le353.out) le405.out))
    have bel507 : Below w.heap.size w W489 := Below.trans bel484 (Ran.below r493 (Nat.le_trans (Nat.le_trans (Nat.le_trans (Nat.le_trans (Nat.le_trans (le10.out) le27.out) le61.out) le91.out) le121.out) le154.out) (Nat.le_trans (Nat.le_trans (Nat.le_trans (Nat.le_trans (Nat.le_trans (Nat.le_trans (Nat.le_trans (Nat.le_trans (Nat.le_trans (Nat.le_trans (Nat.le_trans (Nat.le_trans (Nat.le_trans (Nat.le_trans (le10.out) le27.out) le61.out) le91.out) le121.out) le154.out) le178.out) le217.out) le243.out) le288.out) le328.out) le353.out) le405.out) le431.out) t485.out))
    have t508 : Hid (W407.heap.size ≤ W489.heap.size) := Lib.hid (Nat.le_trans t485.out (Ran.size r493))
    clear h471 h472 h473 h474 h475 h476 h486 h477 h479 h480 h481 h482 h483 bel484
    have h509 := held_own2 o487 lt181 olt182
    clear o487 h478 r493
    clear q491
    have bk510 := Held.now h504
    have q511 := Blk.cell bk510 0
    clear bk510
    have bk512 := Held.now h499
    have q513 := Blk.cell bk512 0
    clear bk512
    go_wp2_with fail
    (go_at_call 45; (with_reducible refine (eqGroup_any r _ _ _ _ _ _ (Own2.row (Held.now h503)) (Own2.row (Held.now h498)) (Nat.le_refl _) (Nat.le_refl _)).mono ?_); rintro e W515 ⟨rfl, b514⟩)
    have h516 := Held.ran h494 (ran_below b514 _) (Nat.le_trans (Nat.le_trans (Nat.le_trans (Nat.le_trans (Nat.le_trans (Nat.le_trans (Nat.le_trans (Nat.le_trans (Nat.le_trans (Nat.le_trans (Nat.le_trans (Nat.le_trans (Nat.le_trans (Nat.le_trans (le10.out) le27.out) le61.out) le91.out) le121.out) le154.out) le178.out) le217.out) le243.out) le288.out) le328.out) le353.out) le405.out) le431.out) t508.out) (.inr (Nat.le_refl _))
    have h517 := Held.ran h495 (ran_below b514 _) (Nat.le_trans (Nat.le_trans (Nat.le_trans (Nat.le_trans (Nat.le_trans (Nat.le_trans (Nat.le_trans (Nat.le_trans (Nat.le_trans (Nat.le_trans (Nat.le_trans (Nat.le_trans (Nat.le_trans (Nat.le_trans (le10.out) le27.out) le61.out) le91.out) le121.out) le154.out) le178.out) le217.out) le243.out) le288.out) le328.out) le353.out) le405.out) le431.out) t508.out) (.inr (Nat.le_refl _))
    have h518 := Held.ran h496 (ran_below b514 _) (Nat.le_trans (Nat.le_trans (Nat.le_trans (Nat.le_trans (Nat.le_trans (Nat.le_trans (Nat.le_trans (Nat.le_trans (Nat.le_trans (Nat.le_trans (Nat.le_trans (Nat.le_trans (Nat.le_trans (le27.out) le61.out) le91.out) le121.out) le154.out) le178.out) le217.out) le243.out) le288.out) le328.out) le353.out) le405.out) le431.out) t508.out) (.inr (Nat.le_refl _))
    have h519 := Held.ran h497 (ran_below b514 _) (Nat.le_trans (Nat.le_trans (Nat.le_trans (Nat.le_trans (Nat.le_trans (Nat.le_trans (Nat.le_trans (Nat.le_trans (Nat.le_trans (Nat.le_trans (Nat.le_trans (Nat.le_trans (le61.out) le91.out) le121.out) le154.out) le178.out) le217.out) le243.out) le288.out) le328.out) le353.out) le405.out) le431.out) t508.out) (.inr (Nat.le_refl _))
    have h520 := Held.ran h498 (ran_below b514 _) (Nat.le_trans (Nat.le_trans (Nat.le_trans (Nat.le_trans (Nat.le_trans (Nat.le_trans (Nat.le_trans (Nat.le_trans (Nat.le_trans (Nat.le_trans (le121.out) le154.out) le178.out) le217.out) le243.out) le288.out) le328.out) le353.out) le405.out) le431.out) t508.out) (.inr (Nat.le_refl _))
    have h521 := Held.ran h499 (ran_below b514 _) (Nat.le_trans (Nat.le_trans (Nat.le_trans (Nat.le_trans (Nat.le_trans (Nat.le_trans (Nat.le_trans (Nat.le_trans (Nat.le_trans (Nat.le_trans (le121.out) le154.out) le178.out) le217.out) le243.out) le288.out) le328.out) le353.out) le405.out) le431.out) t508.out) (.inr (Nat.le_refl _))
    have h522 := Held.ran h500 (ran_below b514 _) (Nat.le_trans (Nat.le_trans (Nat.le_trans (Nat.le_trans (Nat.le_trans (Nat.le_trans (Nat.le_trans (Nat.le_trans (Nat.le_trans (le154.out) le178.out) le217.out) le243.out) le288.out) le328.out) le353.out) le405.out) le431.out) t508.out) (.inr (Nat.le_refl _))
    have h523 := Held.ran h501 (ran_below b514 _) (Nat.le_trans (Nat.le_trans (Nat.le_trans (Nat.le_trans (Nat.le_trans (Nat.le_trans (Nat.le_trans (Nat.le_trans (le178.out) le217.out) le243.out) le288.out) le328.out) le353.out) le405.out) le431.out) t508.out) (.inr (Nat.le_refl _))
    have h524 := Held.ran h509 (ran_below b514 _) (Nat.le_trans (Nat.le_trans (Nat.le_trans (Nat.le_trans (Nat.le_trans (Nat.le_trans (Nat.le_trans (le217.out) le243.out) le288.out) le328.out) le353.out) le405.out) le431.out) t508.out) (.inr (Nat.le_refl _))
    have h525 := Held.ran h502 (ran_below b514 _) (Nat.le_trans (Nat.le_trans (Nat.le_trans (Nat.le_trans (Nat.le_trans (Nat.le_trans (le243.out) le288.out) le328.out) le353.out) le405.out) le431.out) t508.out) (.inr (Nat.le_refl _))
    have h526 := Held.ran h503 (ran_below b514 _) (Nat.le_trans (Nat.le_trans (Nat.le_trans (Nat.le_trans (Nat.le_trans (le288.out) le328.out) le353.out) le405.out) le431.out) t508.out) (.inr (Nat.le_refl _))
    have h527 := Held.ran h504 (ran_below b514 _) (Nat.le_trans (Nat.le_trans (Nat.le_trans (Nat.le_trans (le328.out) le353.out) le405.out) le431.out) t508.out) (.inr (Nat.le_refl _))
    have h528 := Held.ran h505 (ran_below b514 _) (Nat.le_trans (Nat.le_trans (le405.out) le431.out) t508.out) (.inr (Nat.le_refl _))
    have h529 := Held.ran h506 (ran_below b514 _) (Nat.le_trans (Nat.le_refl _) t508.out) (.inr (Nat.le_refl _))
    have bel530 : Below w.heap.size w W515 := Below.trans bel507 (Below.mono b514 (Nat.le_trans (Nat.le_trans (Nat.le_trans (Nat.le_trans (Nat.le_trans (Nat.le_trans (Nat.le_trans (Nat.le_trans (Nat.le_trans (Nat.le_trans (Nat.le_trans (Nat.le_trans (Nat.le_trans (Nat.le_trans (le10.out) le27.out) le61.out) le91.out) le121.out) le154.out) le178.out) le217.out) le243.out) le288.out) le328.out) le353.out) le405.out) le431.out) t508.out))
    have t531 : Hid (W407.heap.size ≤ W515.heap.size) := Lib.hid (Nat.le_trans t508.out (Below.size b514))
    clear h494 h495 h496 h497 h498 h499 h500 h501 h509 h502 h503 h504 h505 h506 bel507
    clear b514
    clear q511
    clear q513
    have bk535 := Held.now h527
    have q536 := Blk.cell bk535 0
    clear bk535
    go_wp2_with fail
    (go_at_call 47; (with_reducible refine (markGroup_any r _ _ _ 1 1 (by omega) _ _ _ (Held.now h526) (Nat.le_trans (Nat.le_trans (Nat.le_trans (Nat.le_trans (Nat.le_trans (Nat.le_trans (le243.out) le288.out) le328.out) le353.out) le405.out) le431.out) t531.out) (by omega)).mono ?_); rintro e W534 ⟨rfl, o532, k533, k537⟩)
    have r538 := k537 _ lt246
    clear k533 k537
    have h539 := Held.ran h516 (r538) (Nat.le_trans (Nat.le_trans (Nat.le_trans (Nat.le_trans (Nat.le_trans (Nat.le_trans (Nat.le_trans (Nat.le_trans (Nat.le_trans (Nat.le_trans (Nat.le_trans (Nat.le_trans (Nat.le_trans (Nat.le_trans (le10.out) le27.out) le61.out) le91.out) le121.out) le154.out) le178.out) le217.out) le243.out) le288.out) le328.out) le353.out) le405.out) le431.out) t531.out) (.inr (Nat.le_trans (Nat.le_trans (Nat.le_trans (Nat.le_trans (Nat.le_trans (Nat.le_trans (Nat.le_trans (le10.out) le27.out) le61.out) le91.out) le121.out) le154.out) le178.out) le217.out))
    have h540 := Held.ran h517 (r538) (Nat.le_trans (Nat.le_trans (Nat.le_trans (Nat.le_trans (Nat.le_trans (Nat.le_trans (Nat.le_trans (Nat.le_trans (Nat.le_trans (Nat.le_trans (Nat.le_trans (Nat.le_trans (Nat.le_trans (Nat.le_trans (le10.out) le27.out) le61.out) le91.out) le121.out) le154.out) le178.out) le217.out) le243.out) le288.out) le328.out) le353.out) le405.out) le431.out) t531.out) (.inr (Nat.le_trans (Nat.le_trans (Nat.le_trans (Nat.le_trans (Nat.le_trans (Nat.le_trans (Nat.le_trans (le10.out) le27.out) le61.out) le91.out) le121.out) le154.out) le178.out) le217.out))
    have h541 := Held.ran h518 (r538) (Nat.le_trans (Nat.le_trans (Nat.le_trans (Nat.le_trans (Nat.le_trans (Nat.le_trans (Nat.le_trans (Nat.le_trans (Nat.le_trans (Nat.le_trans (Nat.le_trans (Nat.le_trans (Nat.le_trans (le27.out) le61.out) le91.out) le121.out) le154.out) le178.out) le217.out) le243.out) le288.out) le328.out) le353.out) le405.out) le431.out) t531.out) (.inr (Nat.le_trans (Nat.le_trans (Nat.le_trans (Nat.le_trans (Nat.le_trans (Nat.le_trans (le27.out) le61.out) le91.out) le121.out) le154.out) le178.out) le217.out))
    have h542 := Held.ran h519 (r538) (Nat.le_trans (Nat.le_trans (Nat.le_trans (Nat.le_trans (Nat.le_trans (Nat.le_trans (Nat.le_trans (Nat.le_trans (Nat.le_trans (Nat.le_trans (Nat.le_trans (Nat.le_trans (le61.out) le91.out) le121.out) le154.out) le178.out) le217.out) le243.out) le288.out) le328.out) le353.out) le405.out) le431.out) t531.out) (.inr (Nat.le_trans (Nat.le_trans (Nat.le_trans (Nat.le_trans (Nat.le_trans (le61.out) le91.out) le121.out) le154.out) le178.out) le217.out))
    have h543 := Held.ran h520 (r538) (Nat.le_trans (Nat.le_trans (Nat.le_trans (Nat.le_trans (Nat.le_trans (Nat.le_trans (Nat.le_trans (Nat.le_trans (Nat.le_trans (Nat.le_trans (le121.out) le154.out) le178.out) le217.out) le243.out) le288.out) le328.out) le353.out) le405.out) le431.out) t531.out) (.inr (Nat.le_trans (Nat.le_trans (Nat.le_trans (le121.out) le154.out) le178.out) le217.out))
    have h544 := Held.ran h521 (r538) (Nat.le_trans (Nat.le_trans (Nat.le_trans (Nat.le_trans (Nat.le_trans (Nat.le_trans (Nat.le_trans (Nat.le_trans (Nat.le_trans (Nat.le_trans (le121.out) le154.out) le178.out) le217.out) le243.out) le288.out) le328.out) le353.out) le405.out) le431.out) t531.out) (.inr (Nat.le_trans (Nat.le_trans (Nat.le_trans (le121.out) le154.out) le178.out) le217.out))
    have h545 := Held.ran h522 (r538) (Nat.le_trans (Nat.le_trans (Nat.le_trans (Nat.le_trans (Nat.le_trans (Nat.le_trans (Nat.le_trans (Nat.le_trans (Nat.le_trans (le154.out) le178.out) le217.out) le243.out) le288.out) le328.out) le353.out) le405.out) le431.out) t531.out) (.inr (Nat.le_trans (Nat.le_trans (le154.out) le178.out) le217.out))
    have h546 := Held.ran h523 (r538) (Nat.le_trans (Nat.le_trans (Nat.le_trans (Nat.le_trans (Nat.le_trans (Nat.le_trans (Nat.le_trans (Nat.le_trans (le178.out) le217.out) le243.out) le288.out) le328.out) le353.out) le405.out) le431.out) t531.out) (.inr (Nat.le_trans (le178.out) le217.out))
    have h547 := Held.ran h524 (r538) (Nat.le_trans (Nat.le_trans (Nat.le_trans (Nat.le_trans (Nat.le_trans (Nat.le_trans (Nat.le_trans (le217.out) le243.out) le288.out) le328.out) le353.out) le405.out) le431.out) t531.out) (.inr (le217.out))
    have h548 := Held.ran h525 (r538) (Nat.le_trans (Nat.le_trans (Nat.le_trans (Nat.le_trans (Nat.le_trans (Nat.le_trans (le243.out) le288.out) le328.out) le353.out) le405.out) le431.out) t531.out) (.inr (Nat.le_refl _))
    have h549 := Held.ran h527 (r538) (Nat.le_trans (Nat.le_trans (Nat.le_trans (Nat.le_trans (le328.out) le353.out) le405.out) le431.out) t531.out) (.inl (Nat.le_refl _))
    have h550 := Held.ran h528 (r538) (Nat.le_trans (Nat.le_trans (le405.out) le431.out) t531.out) (.inl (Nat.le_trans (le288.out) le328.out))
    have h551 := Held.ran h529 (r538) (Nat.le_trans (Nat.le_refl _) t531.out) (.inl (Nat.le_trans (Nat.le_trans (Nat.le_trans (le288.out) le328.out) le353.out) le405.out))
    have bel552 : Below w.heap.size w W534 := Below.trans bel530 (Ran.below r538 (Nat.le_trans (Nat.le_trans (Nat.le_trans (Nat.le_trans (Nat.le_trans (Nat.le_trans (Nat.le_trans (le10.out) le27.out) le61.out) le91.out) le121.out) le154.out) le178.out) le217.out) (Nat.le_trans (Nat.le_trans (Nat.le_trans (Nat.le_trans (Nat.le_trans (Nat.le_trans (Nat.le_trans (Nat.le_trans (Nat.le_trans (Nat.le_trans (Nat.le_trans (Nat.le_trans (Nat.le_trans (Nat.le_trans (le10.out) le27.out) le61.out) le91.out) le121.out) le154.out) le178.out) le217.out) le243.out) le288.out) le328.out) le353.out) le405.out) le431.out) t531.out))
    have t553 : Hid (W407.heap.size ≤ W534.heap.size) := Lib.hid (Nat.le_trans t531.out (Ran.size r538))
    clear h516 h517 h518 h519 h520 h521 h522 h523 h524 h525 h527 h528 h529 bel530
    have h554 := held_own2 o532 lt246 olt247
    clear o532 h526 r538
    clear q536
    have bk555 := Held.now h549
    have q556 := Blk.cell bk555 0
    clear bk555
    go_wp2_with fail
    (go_at_call 48; (with_reducible refine (heldGroup_any r _ _ _ 1 1 (by omega) _ _ (Own2.row (Held.now h554)) (Nat.le_refl _) (by omega)).mono ?_); rintro e W558 ⟨rfl, b557⟩)
    have h559 := Held.ran h539 (ran_below b557 _) (Nat.le_trans (Nat.le_trans (Nat.le_trans (Nat.le_trans (Nat.le_trans (Nat.le_trans (Nat.le_trans (Nat.le_trans (Nat.le_trans (Nat.le_trans (Nat.le_trans (Nat.le_trans (Nat.le_trans (Nat.le_trans (le10.out) le27.out) le61.out) le91.out) le121.out) le154.out) le178.out) le217.out) le243.out) le288.out) le328.out) le353.out) le405.out) le431.out) t553.out) (.inr (Nat.le_refl _))
    have h560 := Held.ran h540 (ran_below b557 _) (Nat.le_trans (Nat.le_trans (Nat.le_trans (Nat.le_trans (Nat.le_trans (Nat.le_trans (Nat.le_trans (Nat.le_trans (Nat.le_trans (Nat.le_trans (Nat.le_trans (Nat.le_trans (Nat.le_trans (Nat.le_trans (le10.out) le27.out) le61.out) le91.out) le121.out) le154.out) le178.out) le217.out) le243.out) le288.out) le328.out) le353.out) le405.out) le431.out) t553.out) (.inr (Nat.le_refl _))
    have h561 := Held.ran h541 (ran_below b557 _) (Nat.le_trans (Nat.le_trans (Nat.le_trans (Nat.le_trans (Nat.le_trans (Nat.le_trans (Nat.le_trans (Nat.le_trans (Nat.le_trans (Nat.le_trans (Nat.le_trans (Nat.le_trans (Nat.le_trans (le27.out) le61.out) le91.out) le121.out) le154.out) le178.out) le217.out) le243.out) le288.out) le328.out) le353.out) le405.out) le431.out) t553.out) (.inr (Nat.le_refl _))
    have h562 := Held.ran h542 (ran_below b557 _) (Nat.le_trans (Nat.le_trans (Nat.le_trans (Nat.le_trans (Nat.le_trans (Nat.le_trans (Nat.le_trans (Nat.le_trans (Nat.le_trans (Nat.le_trans (Nat.le_trans (Nat.le_trans (le61.out) le91.out) le121.out) le154.out) le178.out) le217.out) le243.out) le288.out) le328.out) le353.out) le405.out) le431.out) t553.out) (.inr (Nat.le_refl _))
    have h563 := Held.ran h543 (ran_below b557 _) (Nat.le_trans (Nat.le_trans (Nat.le_trans (Nat.le_trans (Nat.le_trans (Nat.le_trans (Nat.le_trans (Nat.le_trans (Nat.le_trans (Nat.le_trans (le121.out) le154.out) le178.out) le217.out) le243.out) le288.out) le328.out) le353.out) le405.out) le431.out) t553.out) (.inr (Nat.le_refl _))
    have h564 := Held.ran h544 (ran_below b557 _) (Nat.le_trans (Nat.le_trans (Nat.le_trans (Nat.le_trans (Nat.le_trans (Nat.le_trans (Nat.le_trans (Nat.le_trans (Nat.le_trans (Nat.le_trans (le121.out) le154.out) le178.out) le217.out) le243.out) le288.out) le328.out) le353.out) le405.out) le431.out) t553.out) (.inr (Nat.le_refl _))
    have h565 := Held.ran h545 (ran_below b557 _) (Nat.le_trans (Nat.le_trans (Nat.le_trans (Nat.le_trans (Nat.le_trans (Nat.le_trans (Nat.le_trans (Nat.le_trans (Nat.le_trans (le154.out) le178.out) le217.out) le243.out) le288.out) le328.out) le353.out) le405.out) le431.out) t553.out) (.inr (Nat.le_refl _))
    have h566 := Held.ran h546 (ran_below b557 _) (Nat.le_trans (Nat.le_trans (Nat.le_trans (Nat.le_trans (Nat.le_trans (Nat.le_trans (Nat.le_trans (Nat.le_trans (le178.out) le217.out) le243.out) le288.out) le328.out) le353.out) le405.out) le431.out) t553.out) (.inr (Nat.le_refl _))
    have h567 := Held.ran h547 (ran_below b557 _) (Nat.le_trans (Nat.le_trans (Nat.le_trans (Nat.le_trans (Nat.le_trans (Nat.le_trans (Nat.le_trans (le217.out) le243.out) le288.out) le328.out) le353.out) le405.out) le431.out) t553.out) (.inr (Nat.le_refl _))
    have h568 := Held.ran h548 (ran_below b557 _) (Nat.le_trans (Nat.le_trans (Nat.le_trans (Nat.le_trans (Nat.le_trans (Nat.le_trans (le243.out) le288.out) le328.out) le353.out) le405.out) le431.out) t553.out) (.inr (Nat.le_refl _))
    have h569 := Held.ran h554 (ran_below b557 _) (Nat.le_trans (Nat.le_trans (Nat.le_trans (Nat.le_trans (Nat.le_trans (le288.out) le328.out) le353.out) le405.out) le431.out) t553.out) (.inr (Nat.le_refl _))
    have h570 := Held.ran h549 (ran_below b557 _) (Nat.le_trans (Nat.le_trans (Nat.le_trans (Nat.le_trans (le328.out) le353.out) le405.out) le431.out) t553.out) (.inr (Nat.le_refl _))
    have h571 := Held.ran h550 (ran_below b557 _) (Nat.le_trans (Nat.le_trans (le405.out) le431.out) t553.out) (.inr (Nat.le_refl _))
    have h572 := Held.ran h551 (ran_below b557 _) (Nat.le_trans (Nat.le_refl _) t553.out) (.inr (Nat.le_refl _))
    have bel573 : Below w.heap.size w W558 := Below.trans bel552 (Below.mono b557 (Nat.le_trans (Nat.le_trans (Nat.le_trans (Nat.le_trans (Nat.le_trans (Nat.le_trans (Nat.le_trans (Nat.le_trans (Nat.le_trans (Nat.le_trans (Nat.le_trans (Nat.le_trans (Nat.le_trans (Nat.le_trans (le10.out) le27.out) le61.out) le91.out) le121.out) le154.out) le178.out) le217.out) le243.out) le288.out) le328.out) le353.out) le405.out) le431.out) t553.out))
    have t574 : Hid (W407.heap.size ≤ W558.heap.size) := Lib.hid (Nat.le_trans t553.out (Below.size b557))
    clear h539 h540 h541 h542 h543 h544 h545 h546 h547 h548 h554 h549 h550 h551 bel552
    clear b557
    clear q556
    have le575 : Hid (W407.heap.size ≤ W558.heap.size) := t574
    have t576 : Hid (W558.heap.size ≤ W558.heap.size) := Lib.hid (Nat.le_refl _)
    have bk577 := Held.now h561
    have q578 : W558.cell? ⟨w.heap.size, 0, none⟩ = some (.slice A_aG n_aG c_aG) := Blk.cell bk577 0
    clear bk577
    have lt579 : w.heap.size < W558.heap.size := Nat.lt_of_lt_of_le lt5.out (Nat.le_trans (Nat.le_trans (Nat.le_trans (Nat.le_trans (Nat.le_trans (Nat.le_trans (Nat.le_trans (Nat.le_trans (Nat.le_trans (Nat.le_trans (Nat.le_trans (Nat.le_trans (Nat.le_trans (Nat.le_trans (le27.out) le61.out) le91.out) le121.out) le154.out) le178.out) le217.out) le243.out) le288.out) le328.out) le353.out) le405.out) le431.out) le575.out) t576.out)
    have bk580 := Held.now h562
    have q581 : W558.cell? ⟨W1.heap.size, 0, none⟩ = some (.slice A_aH n_aH c_aH) := Blk.cell bk580 0
    clear bk580
    have lt582 : W1.heap.size < W558.heap.size := Nat.lt_of_lt_of_le lt21.out (Nat.le_trans (Nat.le_trans (Nat.le_trans (Nat.le_trans (Nat.le_trans (Nat.le_trans (Nat.le_trans (Nat.le_trans (Nat.le_trans (Nat.le_trans (Nat.le_trans (Nat.le_trans (Nat.le_trans (le61.out) le91.out) le121.out) le154.out) le178.out) le217.out) le243.out) le288.out) le328.out) le353.out) le405.out) le431.out) le575.out) t576.out)
    have R583 := Lib.hid (Rows2.up (Held.now h559) (Nat.le_trans (Nat.le_trans (Nat.le_trans (Nat.le_trans (Nat.le_trans (Nat.le_trans (Nat.le_trans (Nat.le_trans (Nat.le_trans (Nat.le_trans (Nat.le_trans (Nat.le_trans (Nat.le_trans (Nat.le_trans (Nat.le_trans (le10.out) le27.out) le61.out) le91.out) le121.out) le154.out) le178.out) le217.out) le243.out) le288.out) le328.out) le353.out) le405.out) le431.out) le575.out) t576.out))
    have R584 := Lib.hid (Rows2.up (Held.now h560) (Nat.le_trans (Nat.le_trans (Nat.le_trans (Nat.le_trans (Nat.le_trans (Nat.le_trans (Nat.le_trans (Nat.le_trans (Nat.le_trans (Nat.le_trans (Nat.le_trans (Nat.le_trans (Nat.le_trans (Nat.le_trans (Nat.le_trans (le10.out) le27.out) le61.out) le91.out) le121.out) le154.out) le178.out) le217.out) le243.out) le288.out) le328.out) le353.out) le405.out) le431.out) le575.out) t576.out))
    go_wp2_with fail
    obtain ⟨W585, hW586⟩ : ∃ X, X = World.drew W558 := ⟨_, rfl⟩
    have bd587 : Below W558.heap.size W558 W585 := by rw [hW586]; exact below_drewL _
    have sdW585 : W558.heap.size ≤ W585.heap.size := by rw [hW586]; exact Nat.le_refl _
    have seW585 : W585.heap.size ≤ W558.heap.size := by rw [hW586]; exact Nat.le_refl _
    have dq588 : W585.cell? ⟨w.heap.size, 0, none⟩ = some (.slice A_aG n_aG c_aG) := by rw [hW586]; exact q578
    have dq589 : W585.cell? ⟨W1.heap.size, 0, none⟩ = some (.slice A_aH n_aH c_aH) := by rw [hW586]; exact q581
    have RD590 : Rows2 W558.heap.size W585 A_aG n_aG x_aG.G := by rw [hW586]; exact (R583.out).drewN 1
    have RD591 : Rows2 W558.heap.size W585 A_aH n_aH x_aH.G := by rw [hW586]; exact (R584.out).drewN 1
    go_cut [15, 16] (fun s6 s7 wx => ∃ A c L g, s6 = .pointer (some ⟨g, 0, none⟩) ∧ s7 = .bool ok ∧ Hid (EndG (W558.heap.size) r W585 wx A c L g))
    case first =>
      refine region_held_n 11 (fun w' => w'.cell? ⟨w.heap.size, 0, none⟩ = some (.slice A_aG n_aG c_aG) ∧ w'.cell? ⟨W1.heap.size, 0, none⟩ = some (.slice A_aH n_aH c_aH)) (by kernel_rfl) (by kernel_rfl) ⟨q578, q581⟩ (fun hS => ?_)
      rw [← hW586] at hS ⊢
      clear hW586 q578 q581
      have hb0z : Below (W558.heap.size) W585 W585 := Below.refl _ _
      refine takeD 0 (some 95) (v := ?_) rfl (by kernel_rfl) (by kernel_rfl) (by kernel_rfl) (fun _ _ _ h => h) hS (fun o ho => Or.inl ⟨by cases ho; rfl, ?_⟩) ?_
      rotate_left
      · cases ho
        intro w' hw'
        (try dsimp only at hw')
        go_simp
        (try with_reducible rfl)
      (try simp only [Act.put, List.setIfInBounds_toArray, List.set_cons_zero, List.set_cons_succ])
      refine takeD 2 (some 97) (v := ?_) rfl (by kernel_rfl) (by kernel_rfl) (by kernel_rfl) (fun _ _ _ h => h) hS (fun o ho => Or.inl ⟨by cases ho; rfl, ?_⟩) ?_
      rotate_left
      · cases ho
        intro w' hw'
        (try dsimp only at hw')
        go_simp
        (try with_reducible rfl)
      (try simp only [Act.put, List.setIfInBounds_toArray, List.set_cons_zero, List.set_cons_succ])
      refine wpAnyH_ready (rs := [1, 8]) (by kernel_rfl) (by simp) ?_
      refine consD 1 (some 96) rfl (fun o ho K hK hdo => ?_) ?_
      · simp only [List.getElem?_toArray, List.getElem?_cons_succ, List.getElem?_cons_zero, Option.some.injEq] at ho
        subst ho
        clear hdo
        rw [if_pos (by rfl)]
        go_wp2_with fail
        (go_at_call 44; (with_reducible refine (toGroup_any x_aG _ _ _ _ (Rows2.below RD590 hb0z) (by have := hb0z.size; omega) H41.out).mono ?_); rintro e W1z ⟨A4z, c5z, L6z, rfl, o3z, b2z⟩)
        have sz7z := b2z.size
        have hb8z : Below (W558.heap.size) W585 W1z := hb0z.trans (b2z.mono (by have := hb0z.size; omega))
        have bc9z : Below W1z.heap.size W1z W1z := Below.refl _ _
        refine hK.out _ _ ?_ (fun hS => ?_)
        · exact ⟨(hb8z.cell (p := ⟨w.heap.size, 0, none⟩) (show w.heap.size < W558.heap.size by omega)).trans dq588, (hb8z.cell (p := ⟨W1.heap.size, 0, none⟩) (show W1.heap.size < W558.heap.size by omega)).trans dq589⟩
        clear hK K
        (try simp only [Act.put, List.setIfInBounds_toArray, List.set_cons_zero, List.set_cons_succ])
        refine wpAnyH_ready (rs := [3, 8]) (by kernel_rfl) (by simp) ?_
        refine consD 3 (some 98) rfl (fun o ho K hK hdo => ?_) ?_
        · simp only [List.getElem?_toArray, List.getElem?_cons_succ, List.getElem?_cons_zero, Option.some.injEq] at ho
          subst ho
          clear hdo
          rw [if_pos (by rfl)]
          go_wp2_with fail
          (go_at_call 44; (with_reducible refine (toGroup_any x_aH _ _ _ _ (Rows2.below RD591 hb8z) (by have := hb8z.size; omega) H57.out).mono ?_); rintro e W10z ⟨A13z, c14z, L15z, rfl, o12z, b11z⟩)
          have sz16z := b11z.size
          have hb17z : Below (W558.heap.size) W585 W10z := hb8z.trans (b11z.mono (by have := hb8z.size; omega))
          have bc18z : Below W1z.heap.size W1z W10z := bc9z.trans (b11z.mono bc9z.size)
          have bc19z : Below W10z.heap.size W10z W10z := Below.refl _ _
          refine hK.out _ _ ?_ (fun hS => ?_)
          · exact ⟨(hb17z.cell (p := ⟨w.heap.size, 0, none⟩) (show w.heap.size < W558.heap.size by omega)).trans dq588, (hb17z.cell (p := ⟨W1.heap.size, 0, none⟩) (show W1.heap.size < W558.heap.size by omega)).trans dq589⟩
          clear hK K
          (try simp only [Act.put, List.setIfInBounds_toArray, List.set_cons_zero, List.set_cons_succ])
          refine wpAnyH_ready (rs := [4, 8]) (by kernel_rfl) (by simp) ?_
          refine consD 4 (some 99) rfl (fun o ho K hK hdo => ?_) ?_
          · simp only [List.getElem?_toArray, List.getElem?_cons_succ, List.getElem?_cons_zero, Option.some.injEq] at ho
            subst ho
            clear hdo
            rw [if_pos (by rfl)]
            have rr26z := Rows2.up (Rows2.below (Own2.row o3z) bc18z) bc18z.size
            have rr27z := Rows2.up (Rows2.below (Own2.row o12z) bc19z) bc19z.size
            go_wp2_with fail
            (go_at_call 51; (with_reducible refine (CI _ _ _ _ _ _ _ rr26z (Nat.le_refl _) rr27z (Nat.le_refl _)).mono ?_); rintro e W20z ⟨A23z, c24z, L25z, rfl, o22z, b21z⟩)
            have sz28z := b21z.size
            have hb29z : Below (W558.heap.size) W585 W20z := hb17z.trans (b21z.mono (by have := hb17z.size; omega))
            have bc30z : Below W1z.heap.size W1z W20z := bc18z.trans (b21z.mono bc18z.size)
            have bc31z : Below W10z.heap.size W10z W20z := bc19z.trans (b21z.mono bc19z.size)
            refine hK.out _ _ ?_ (fun hS => ?_)
            · exact ⟨(hb29z.cell (p := ⟨w.heap.size, 0, none⟩) (show w.heap.size < W558.heap.size by omega)).trans dq588, (hb29z.cell (p := ⟨W1.heap.size, 0, none⟩) (show W1.heap.size < W558.heap.size by omega)).trans dq589⟩
            clear hK K
            (try simp only [Act.put, List.setIfInBounds_toArray, List.set_cons_zero, List.set_cons_succ])
            refine takeD 5 (some 94) (v := ?_) rfl (by kernel_rfl) (by kernel_rfl) (by kernel_rfl) (fun _ _ _ h => h) hS (fun o ho => Or.inl ⟨by cases ho; rfl, ?_⟩) ?_
            rotate_left
            · cases ho
              intro w' hw'
              (try dsimp only at hw')
              go_simp
              (try with_reducible rfl)
            (try simp only [Act.put, List.setIfInBounds_toArray, List.set_cons_zero, List.set_cons_succ])
            refine takeD 6 (some 100) (v := ?_) rfl (by kernel_rfl) (by kernel_rfl) (by kernel_rfl) (fun _ _ _ h => h) hS (fun o ho => Or.inl ⟨by cases ho; rfl, ?_⟩) ?_
            rotate_left
            · cases ho
              intro w' hw'
              (try dsimp only at hw')
              go_simp
              (try with_reducible rfl)
            (try simp only [Act.put, List.setIfInBounds_toArray, List.set_cons_zero, List.set_cons_succ])
            refine takeD 7 (some 101) (v := ?_) rfl (by kernel_rfl) (by kernel_rfl) (by kernel_rfl) (fun _ _ _ h => h) hS (fun o ho => Or.inl ⟨by cases ho; rfl, ?_⟩) ?_
            rotate_left
            · cases ho
              intro w' hw'
              (try dsimp only at hw')
              go_simp
              (try with_reducible rfl)
            (try simp only [Act.put, List.setIfInBounds_toArray, List.set_cons_zero, List.set_cons_succ])
            refine oneD 8 (some 15) (by kernel_rfl) rfl (fun o ho K hK hdo => ?_)
            simp only [List.getElem?_toArray, List.getElem?_cons_succ, List.getElem?_cons_zero, Option.some.injEq] at ho
            subst ho
            clear hdo
            rw [if_pos (by rfl)]
            go_wp2_with fail
            obtain ⟨W32z, h33z⟩ : ∃ X, X = W20z.alloc (.cells #[nilV] 26) := ⟨_, rfl⟩
            rw [← h33z]
            have b34z : Below W20z.heap.size W20z W32z := by rw [h33z]; exact (Below.refl _ _).alloc (Nat.le_refl _) _
            have bx35z : Blk W32z W20z.heap.size #[nilV] 26 := by rw [h33z]; exact Blk.new _ _ _
            clear h33z
            have lz36z := bx35z.lt
            have sz37z := b34z.size
            have hb38z : Below (W558.heap.size) W585 W32z := hb29z.trans (b34z.mono (by have := hb29z.size; omega))
            have bc39z : Below W1z.heap.size W1z W32z := bc30z.trans (b34z.mono bc30z.size)
            have bc40z : Below W10z.heap.size W10z W32z := bc31z.trans (b34z.mono bc31z.size)
            have ow41z := Own2.keepL o22z (fun q hq => b34z.block q (o22z.olt q hq)) (fun t ht q hq => b34z.block q (o22z.lt t ht q hq))
            refine hK.out _ _ ?_ (fun hS => ?_)
            · exact ⟨(hb38z.cell (p := ⟨w.heap.size, 0, none⟩) (show w.heap.size < W558.heap.size by omega)).trans dq588, (hb38z.cell (p := ⟨W1.heap.size, 0, none⟩) (show W1.heap.size < W558.heap.size by omega)).trans dq589⟩
            clear hK K
            (try simp only [Act.put, List.setIfInBounds_toArray, List.set_cons_zero, List.set_cons_succ])
            have q42z := bx35z.cell 0
            have f43z := bx35z.frozen 0
            have E44z : Hid (EndG (W558.heap.size) r W585 (W32z.setCell ⟨W20z.heap.size, 0, none⟩ (.slice A23z r.G.length c24z)) A23z c24z L25z (W20z.heap.size)) := Lib.hid (EndG.made bx35z ow41z (by omega) (by omega) hb38z (fun q hq => by have h1 := Own2.ofrom o22z q hq; have h2 := Own2.olt o22z q hq; omega) (fun t ht q hq => by have h1 := Own2.from o22z t ht q hq; have h2 := Own2.lt o22z t ht q hq; omega))
            refine oneD 9 none (by kernel_rfl) rfl (fun o ho K hK hdo => ?_)
            simp only [List.getElem?_toArray, List.getElem?_cons_succ, List.getElem?_cons_zero, Option.some.injEq] at ho
            subst ho
            clear hdo
            rw [if_pos (by rfl)]
            go_wp2_with fail
            refine hK.out undef _ ?_ (fun hS => ?_)
            · exact ⟨(E44z.out.bel.cell (p := ⟨w.heap.size, 0, none⟩) (show w.heap.size < W558.heap.size by omega)).trans dq588, (E44z.out.bel.cell (p := ⟨W1.heap.size, 0, none⟩) (show W1.heap.size < W558.heap.size by omega)).trans dq589⟩
            clear hK K
            (try simp only [Act.put])
            refine takeD 10 (some 16) (v := ?_) rfl (by kernel_rfl) (by kernel_rfl) (by kernel_rfl) (fun _ _ _ h => h) hS (fun o ho => Or.inl ⟨by cases ho; rfl, ?_⟩) ?_
            rotate_left
            · cases ho
              intro w' hw'
              (try dsimp only at hw')
              go_simp
              (try with_reducible rfl)
            (try simp only [Act.put, List.setIfInBounds_toArray, List.set_cons_zero, List.set_cons_succ])
            refine wpAnyH_done (by kernel_rfl) ?_ _
            clear hS
            go_wp2_with fail
            go_meet
            exact ⟨_, _, _, _, rfl, rfl, E44z⟩
          refine consD 8 (some 15) rfl (fun o ho K hK hdo => ?_) ?_
          · simp only [List.getElem?_toArray, List.getElem?_cons_succ, List.getElem?_cons_zero, Option.some.injEq] at ho
            subst ho
            clear hdo
            rw [if_pos (by rfl)]
            go_wp2_with fail
            obtain ⟨W45z, h46z⟩ : ∃ X, X = W10z.alloc (.cells #[nilV] 26) := ⟨_, rfl⟩
            rw [← h46z]
            have b47z : Below W10z.heap.size W10z W45z := by rw [h46z]; exact (Below.refl _ _).alloc (Nat.le_refl _) _
            have bx48z : Blk W45z W10z.heap.size #[nilV] 26 := by rw [h46z]; exact Blk.new _ _ _
            clear h46z
            have lz49z := bx48z.lt
            have sz50z := b47z.size
            have hb51z : Below (W558.heap.size) W585 W45z := hb17z.trans (b47z.mono (by have := hb17z.size; omega))
            have bc52z : Below W1z.heap.size W1z W45z := bc18z.trans (b47z.mono bc18z.size)
            have bc53z : Below W10z.heap.size W10z W45z := bc19z.trans (b47z.mono bc19z.size)
            refine hK.out _ _ ?_ (fun hS => ?_)
            · exact ⟨(hb51z.cell (p := ⟨w.heap.size, 0, none⟩) (show w.heap.size < W558.heap.size by omega)).trans dq588, (hb51z.cell (p := ⟨W1.heap.size, 0, none⟩) (show W1.heap.size < W558.heap.size by omega)).trans dq589⟩
            clear hK K
            (try simp only [Act.put, List.setIfInBounds_toArray, List.set_cons_zero, List.set_cons_succ])
            refine oneD 4 (some 99) (by kernel_rfl) rfl (fun o ho K hK hdo => ?_)
            simp only [List.getElem?_toArray, List.getElem?_cons_succ, List.getElem?_cons_zero, Option.some.injEq] at ho
            subst ho
            clear hdo
            rw [if_pos (by rfl)]
            have rr60z := Rows2.up (Rows2.below (Own2.row o3z) bc52z) bc52z.size
            have rr61z := Rows2.up (Rows2.below (Own2.row o12z) bc53z) bc53z.size
            go_wp2_with fail
            (go_at_call 51; (with_reducible refine (CI _ _ _ _ _ _ _ rr60z (Nat.le_refl _) rr61z (Nat.le_refl _)).mono ?_); rintro e W54z ⟨A57z, c58z, L59z, rfl, o56z, b55z⟩)
            have sz62z := b55z.size
            have hb63z : Below (W558.heap.size) W585 W54z := hb51z.trans (b55z.mono (by have := hb51z.size; omega))
            have bc64z : Below W1z.heap.size W1z W54z := bc52z.trans (b55z.mono bc52z.size)
            have bc65z : Below W10z.heap.size W10z W54z := bc53z.trans (b55z.mono bc53z.size)
            have bx66z := bx48z.below b55z bx48z.lt
            refine hK.out _ _ ?_ (fun hS => ?_)
            · exact ⟨(hb63z.cell (p := ⟨w.heap.size, 0, none⟩) (show w.heap.size < W558.heap.size by omega)).trans dq588, (hb63z.cell (p := ⟨W1.heap.size, 0, none⟩) (show W1.heap.size < W558.heap.size by omega)).trans dq589⟩
            clear hK K
            (try simp only [Act.put, List.setIfInBounds_toArray, List.set_cons_zero, List.set_cons_succ])
            refine takeD 5 (some 94) (v := ?_) rfl (by kernel_rfl) (by kernel_rfl) (by kernel_rfl) (fun _ _ _ h => h) hS (fun o ho => Or.inl ⟨by cases ho; rfl, ?_⟩) ?_
            rotate_left
            · cases ho
              intro w' hw'
              (try dsimp only at hw')
              go_simp
              (try with_reducible rfl)
            (try simp only [Act.put, List.setIfInBounds_toArray, List.set_cons_zero, List.set_cons_succ])
            refine takeD 6 (some 100) (v := ?_) rfl (by kernel_rfl) (by kernel_rfl) (by kernel_rfl) (fun _ _ _ h => h) hS (fun o ho => Or.inl ⟨by cases ho; rfl, ?_⟩) ?_
            rotate_left
            · cases ho
              intro w' hw'
              (try dsimp only at hw')
              go_simp
              (try with_reducible rfl)
            (try simp only [Act.put, List.setIfInBounds_toArray, List.set_cons_zero, List.set_cons_succ])
            refine takeD 7 (some 101) (v := ?_) rfl (by kernel_rfl) (by kernel_rfl) (by kernel_rfl) (fun _ _ _ h => h) hS (fun o ho => Or.inl ⟨by cases ho; rfl, ?_⟩) ?_
            rotate_left
            · cases ho
              intro w' hw'
              (try dsimp only at hw')
              go_simp
              (try with_reducible rfl)
            (try simp only [Act.put, List.setIfInBounds_toArray, List.set_cons_zero, List.set_cons_succ])
            have q67z := bx66z.cell 0
            have f68z := bx66z.frozen 0
            have E69z : Hid (EndG (W558.heap.size) r W585 (W54z.setCell ⟨W10z.heap.size, 0, none⟩ (.slice A57z r.G.length c58z)) A57z c58z L59z (W10z.heap.size)) := Lib.hid (EndG.made bx66z o56z (by omega) (by omega) hb63z (fun q hq => by have h1 := Own2.ofrom o56z q hq; have h2 := Own2.olt o56z q hq; omega) (fun t ht q hq => by have h1 := Own2.from o56z t ht q hq; have h2 := Own2.lt o56z t ht q hq; omega))
            refine oneD 9 none (by kernel_rfl) rfl (fun o ho K hK hdo => ?_)
            simp only [List.getElem?_toArray, List.getElem?_cons_succ, List.getElem?_cons_zero, Option.some.injEq] at ho
            subst ho
            clear hdo
            rw [if_pos (by rfl)]
            go_wp2_with fail
            refine hK.out undef _ ?_ (fun hS => ?_)
            · exact ⟨(E69z.out.bel.cell (p := ⟨w.heap.size, 0, none⟩) (show w.heap.size < W558.heap.size by omega)).trans dq588, (E69z.out.bel.cell (p := ⟨W1.heap.size, 0, none⟩) (show W1.heap.size < W558.heap.size by omega)).trans dq589⟩
            clear hK K
            (try simp only [Act.put])
            refine takeD 10 (some 16) (v := ?_) rfl (by kernel_rfl) (by kernel_rfl) (by kernel_rfl) (fun _ _ _ h => h) hS (fun o ho => Or.inl ⟨by cases ho; rfl, ?_⟩) ?_
            rotate_left
            · cases ho
              intro w' hw'
              (try dsimp only at hw')
              go_simp
              (try with_reducible rfl)
            (try simp only [Act.put, List.setIfInBounds_toArray, List.set_cons_zero, List.set_cons_succ])
            refine wpAnyH_done (by kernel_rfl) ?_ _
            clear hS
            go_wp2_with fail
            go_meet
            exact ⟨_, _, _, _, rfl, rfl, E69z⟩
          exact AllReadyH.nil
        refine consD 8 (some 15) rfl (fun o ho K hK hdo => ?_) ?_
        · simp only [List.getElem?_toArray, List.getElem?_cons_succ, List.getElem?_cons_zero, Option.some.injEq] at ho
          subst ho
          clear hdo
          rw [if_pos (by rfl)]
          go_wp2_with fail
          obtain ⟨W70z, h71z⟩ : ∃ X, X = W1z.alloc (.cells #[nilV] 26) := ⟨_, rfl⟩
          rw [← h71z]
          have b72z : Below W1z.heap.size W1z W70z := by rw [h71z]; exact (Below.refl _ _).alloc (Nat.le_refl _) _
          have bx73z : Blk W70z W1z.heap.size #[nilV] 26 := by rw [h71z]; exact Blk.new _ _ _
          clear h71z
          have lz74z := bx73z.lt
          have sz75z := b72z.size
          have hb76z : Below (W558.heap.size) W585 W70z := hb8z.trans (b72z.mono (by have := hb8z.size; omega))
          have bc77z : Below W1z.heap.size W1z W70z := bc9z.trans (b72z.mono bc9z.size)
          refine hK.out _ _ ?_ (fun hS => ?_)
          · exact ⟨(hb76z.cell (p := ⟨w.heap.size, 0, none⟩) (show w.heap.size < W558.heap.size by omega)).trans dq588, (hb76z.cell (p := ⟨W1.heap.size, 0, none⟩) (show W1.heap.size < W558.heap.size by omega)).trans dq589⟩
          clear hK K
          (try simp only [Act.put, List.setIfInBounds_toArray, List.set_cons_zero, List.set_cons_succ])
          refine oneD 3 (some 98) (by kernel_rfl) rfl (fun o ho K hK hdo => ?_)
          simp only [List.getElem?_toArray, List.getElem?_cons_succ, List.getElem?_cons_zero, Option.some.injEq] at ho
          subst ho
          clear hdo
          rw [if_pos (by rfl)]
          go_wp2_with fail
          (go_at_call 44; (with_reducible refine (toGroup_any x_aH _ _ _ _ (Rows2.below RD591 hb76z) (by have := hb76z.size; omega) H57.out).mono ?_); rintro e W78z ⟨A81z, c82z, L83z, rfl, o80z, b79z⟩)
          have sz84z := b79z.size
          have hb85z : Below (W558.heap.size) W585 W78z := hb76z.trans (b79z.mono (by have := hb76z.size; omega))
          have bc86z : Below W1z.heap.size W1z W78z := bc77z.trans (b79z.mono bc77z.size)
          have bx87z := bx73z.below b79z bx73z.lt
          have bc88z : Below W78z.heap.size W78z W78z := Below.refl _ _
          refine hK.out _ _ ?_ (fun hS => ?_)
          · exact ⟨(hb85z.cell (p := ⟨w.heap.size, 0, none⟩) (show w.heap.size < W558.heap.size by omega)).trans dq588, (hb85z.cell (p := ⟨W1.heap.size, 0, none⟩) (show W1.heap.size < W558.heap.size by omega)).trans dq589⟩
          clear hK K
          (try simp only [Act.put, List.setIfInBounds_toArray, List.set_cons_zero, List.set_cons_succ])
          refine oneD 4 (some 99) (by kernel_rfl) rfl (fun o ho K hK hdo => ?_)
          simp only [List.getElem?_toArray, List.getElem?_cons_succ, List.getElem?_cons_zero, Option.some.injEq] at ho
          subst ho
          clear hdo
          rw [if_pos (by rfl)]
          have rr95z := Rows2.up (Rows2.below (Own2.row o3z) bc86z) bc86z.size
          have rr96z := Rows2.up (Rows2.below (Own2.row o80z) bc88z) bc88z.size
          go_wp2_with fail
          (go_at_call 51; (with_reducible refine (CI _ _ _ _ _ _ _ rr95z (Nat.le_refl _) rr96z (Nat.le_refl _)).mono ?_); rintro e W89z ⟨A92z, c93z, L94z, rfl, o91z, b90z⟩)
          have sz97z := b90z.size
          have hb98z : Below (W558.heap.size) W585 W89z := hb85z.trans (b90z.mono (by have := hb85z.size; omega))
          have bc99z : Below W1z.heap.size W1z W89z := bc86z.trans (b90z.mono bc86z.size)
          have bc100z : Below W78z.heap.size W78z W89z := bc88z.trans (b90z.mono bc88z.size)
          have bx101z := bx87z.below b90z bx87z.lt
          refine hK.out _ _ ?_ (fun hS => ?_)
          · exact ⟨(hb98z.cell (p := ⟨w.heap.size, 0, none⟩) (show w.heap.size < W558.heap.size by omega)).trans dq588, (hb98z.cell (p := ⟨W1.heap.size, 0, none⟩) (show W1.heap.size < W558.heap.size by omega)).trans dq589⟩
          clear hK K
          (try simp only [Act.put, List.setIfInBounds_toArray, List.set_cons_zero, List.set_cons_succ])
          refine takeD 5 (some 94) (v := ?_) rfl (by kernel_rfl) (by kernel_rfl) (by kernel_rfl) (fun _ _ _ h => h) hS (fun o ho => Or.inl ⟨by cases ho; rfl, ?_⟩) ?_
          rotate_left
          · cases ho
            intro w' hw'
            (try dsimp only at hw')
            go_simp
            (try with_reducible rfl)
          (try simp only [Act.put, List.setIfInBounds_toArray, List.set_cons_zero, List.set_cons_succ])
          refine takeD 6 (some 100) (v := ?_) rfl (by kernel_rfl) (by kernel_rfl) (by kernel_rfl) (fun _ _ _ h => h) hS (fun o ho => Or.inl ⟨by cases ho; rfl, ?_⟩) ?_
          rotate_left
          · cases ho
            intro w' hw'
            (try dsimp only at hw')
            go_simp
            (try with_reducible rfl)
          (try simp only [Act.put, List.setIfInBounds_toArray, List.set_cons_zero, List.set_cons_succ])
          refine takeD 7 (some 101) (v := ?_) rfl (by kernel_rfl) (by kernel_rfl) (by kernel_rfl) (fun _ _ _ h => h) hS (fun o ho => Or.inl ⟨by cases ho; rfl, ?_⟩) ?_
          rotate_left
          · cases ho
            intro w' hw'
            (try dsimp only at hw')
            go_simp
            (try with_reducible rfl)
          (try simp only [Act.put, List.setIfInBounds_toArray, List.set_cons_zero, List.set_cons_succ])
          have q102z := bx101z.cell 0
          have f103z := bx101z.frozen 0
          have E104z : Hid (EndG (W558.heap.size) r W585 (W89z.setCell ⟨W1z.heap.size, 0, none⟩ (.slice A92z r.G.length c93z)) A92z c93z L94z (W1z.heap.size)) := Lib.hid (EndG.made bx101z o91z (by omega) (by omega) hb98z (fun q hq => by have h1 := Own2.ofrom o91z q hq; have h2 := Own2.olt o91z q hq; omega) (fun t ht q hq => by have h1 := Own2.from o91z t ht q hq; have h2 := Own2.lt o91z t ht q hq; omega))
          refine oneD 9 none (by kernel_rfl) rfl (fun o ho K hK hdo => ?_)
          simp only [List.getElem?_toArray, List.getElem?_cons_succ, List.getElem?_cons_zero, Option.some.injEq] at ho
          subst ho
          clear hdo
          rw [if_pos (by rfl)]
          go_wp2_with fail
          refine hK.out undef _ ?_ (fun hS => ?_)
          · exact ⟨(E104z.out.bel.cell (p := ⟨w.heap.size, 0, none⟩) (show w.heap.size < W558.heap.size by omega)).trans dq588, (E104z.out.bel.cell (p := ⟨W1.heap.size, 0, none⟩) (show W1.heap.size < W558.heap.size by omega)).trans dq589⟩
          clear hK K
          (try simp only [Act.put])
          refine takeD 10 (some 16) (v := ?_) rfl (by kernel_rfl) (by kernel_rfl) (by kernel_rfl) (fun _ _ _ h => h) hS (fun o ho => Or.inl ⟨by cases ho; rfl, ?_⟩) ?_
          rotate_left
          · cases ho
            intro w' hw'
            (try dsimp only at hw')
            go_simp
            (try with_reducible rfl)
          (try simp only [Act.put, List.setIfInBounds_toArray, List.set_cons_zero, List.set_cons_succ])
          refine wpAnyH_done (by kernel_rfl) ?_ _
          clear hS
          go_wp2_with fail
          go_meet
          exact ⟨_, _, _, _, rfl, rfl, E104z⟩
        exact AllReadyH.nil
      refine consD 8 (some 15) rfl (fun o ho K hK hdo => ?_) ?_
      · simp only [List.getElem?_toArray, List.getElem?_cons_succ, List.getElem?_cons_zero, Option.some.injEq] at ho
        subst ho
        clear hdo
        rw [if_pos (by rfl)]
        go_wp2_with fail
        obtain ⟨W105z, h106z⟩ : ∃ X, X = W585.alloc (.cells #[nilV] 26) := ⟨_, rfl⟩
        rw [← h106z]
        have b107z : Below W585.heap.size W585 W105z := by rw [h106z]; exact (Below.refl _ _).alloc (Nat.le_refl _) _
        have bx108z : Blk W105z W585.heap.size #[nilV] 26 := by rw [h106z]; exact Blk.new _ _ _
        clear h106z
        have lz109z := bx108z.lt
        have sz110z := b107z.size
        have hb111z : Below (W558.heap.size) W585 W105z := hb0z.trans (b107z.mono (by have := hb0z.size; omega))
        refine hK.out _ _ ?_ (fun hS => ?_)
        · exact ⟨(hb111z.cell (p := ⟨w.heap.size, 0, none⟩) (show w.heap.size < W558.heap.size by omega)).trans dq588, (hb111z.cell (p := ⟨W1.heap.size, 0, none⟩) (show W1.heap.size < W558.heap.size by omega)).trans dq589⟩
        clear hK K
        (try simp only [Act.put, List.setIfInBounds_toArray, List.set_cons_zero, List.set_cons_succ])
        refine oneD 1 (some 96) (by kernel_rfl) rfl (fun o ho K hK hdo => ?_)
        simp only [List.getElem?_toArray, List.getElem?_cons_succ, List.getElem?_cons_zero, Option.some.injEq] at ho
        subst ho
        clear hdo
        rw [if_pos (by rfl)]
        go_wp2_with fail
        (go_at_call 44; (with_reducible refine (toGroup_any x_aG _ _ _ _ (Rows2.below RD590 hb111z) (by have := hb111z.size; omega) H41.out).mono ?_); rintro e W112z ⟨A115z, c116z, L117z, rfl, o114z, b113z⟩)
        have sz118z := b113z.size
        have hb119z : Below (W558.heap.size) W585 W112z := hb111z.trans (b113z.mono (by have := hb111z.size; omega))
        have bx120z := bx108z.below b113z bx108z.lt
        have bc121z : Below W112z.heap.size W112z W112z := Below.refl _ _
        refine hK.out _ _ ?_ (fun hS => ?_)
        · exact ⟨(hb119z.cell (p := ⟨w.heap.size, 0, none⟩) (show w.heap.size < W558.heap.size by omega)).trans dq588, (hb119z.cell (p := ⟨W1.heap.size, 0, none⟩) (show W1.heap.size < W558.heap.size by omega)).trans dq589⟩
        clear hK K
        (try simp only [Act.put, List.setIfInBounds_toArray, List.set_cons_zero, List.set_cons_succ])
        refine oneD 3 (some 98) (by kernel_rfl) rfl (fun o ho K hK hdo => ?_)
        simp only [List.getElem?_toArray, List.getElem?_cons_succ, List.getElem?_cons_zero, Option.some.injEq] at ho
        subst ho
        clear hdo
        rw [if_pos (by rfl)]
        go_wp2_with fail
        (go_at_call 44; (with_reducible refine (toGroup_any x_aH _ _ _ _ (Rows2.below RD591 hb119z) (by have := hb119z.size; omega) H57.out).mono ?_); rintro e W122z ⟨A125z, c126z, L127z, rfl, o124z, b123z⟩)
        have sz128z := b123z.size
        have hb129z : Below (W558.heap.size) W585 W122z := hb119z.trans (b123z.mono (by have := hb119z.size; omega))
        have bc130z : Below W112z.heap.size W112z W122z := bc121z.trans (b123z.mono bc121z.size)
        have bx131z := bx120z.below b123z bx120z.lt
        have bc132z : Below W122z.heap.size W122z W122z := Below.refl _ _
        refine hK.out _ _ ?_ (fun hS => ?_)
        · exact ⟨(hb129z.cell (p := ⟨w.heap.size, 0, none⟩) (show w.heap.size < W558.heap.size by omega)).trans dq588, (hb129z.cell (p := ⟨W1.heap.size, 0, none⟩) (show W1.heap.size < W558.heap.size by omega)).trans dq589⟩
        clear hK K
        (try simp only [Act.put, List.setIfInBounds_toArray, List.set_cons_zero, List.set_cons_succ])
        refine oneD 4 (some 99) (by kernel_rfl) rfl (fun o ho K hK hdo => ?_)
        simp only [List.getElem?_toArray, List.getElem?_cons_succ, List.getElem?_cons_zero, Option.some.injEq] at ho
        subst ho
        clear hdo
        rw [if_pos (by rfl)]
        have rr139z := Rows2.up (Rows2.below (Own2.row o114z) bc130z) bc130z.size
        have rr140z := Rows2.up (Rows2.below (Own2.row o124z) bc132z) bc132z.size
        go_wp2_with fail
        (go_at_call 51; (with_reducible refine (CI _ _ _ _ _ _ _ rr139z (Nat.le_refl _) rr140z (Nat.le_refl _)).mono ?_); rintro e W133z ⟨A136z, c137z, L138z, rfl, o135z, b134z⟩)
        have sz141z := b134z.size
        have hb142z : Below (W558.heap.size) W585 W133z := hb129z.trans (b134z.mono (by have := hb129z.size; omega))
        have bc143z : Below W112z.heap.size W112z W133z := bc130z.trans (b134z.mono bc130z.size)
        have bc144z : Below W122z.heap.size W122z W133z := bc132z.trans (b134z.mono bc132z.size)
        have bx145z := bx131z.below b134z bx131z.lt
        refine hK.out _ _ ?_ (fun hS => ?_)
        · exact ⟨(hb142z.cell (p := ⟨w.heap.size, 0, none⟩) (show w.heap.size < W558.heap.size by omega)).trans dq588, (hb142z.cell (p := ⟨W1.heap.size, 0, none⟩) (show W1.heap.size < W558.heap.size by omega)).trans dq589⟩
        clear hK K
        (try simp only [Act.put, List.setIfInBounds_toArray, List.set_cons_zero, List.set_cons_succ])
        refine takeD 5 (some 94) (v := ?_) rfl (by kernel_rfl) (by kernel_rfl) (by kernel_rfl) (fun _ _ _ h => h) hS (fun o ho => Or.inl ⟨by cases ho; rfl, ?_⟩) ?_
        rotate_left
        · cases ho
          intro w' hw'
          (try dsimp only at hw')
          go_simp
          (try with_reducible rfl)
        (try simp only [Act.put, List.setIfInBounds_toArray, List.set_cons_zero, List.set_cons_succ])
        refine takeD 6 (some 100) (v := ?_) rfl (by kernel_rfl) (by kernel_rfl) (by kernel_rfl) (fun _ _ _ h => h) hS (fun o ho => Or.inl ⟨by cases ho; rfl, ?_⟩) ?_
        rotate_left
        · cases ho
          intro w' hw'
          (try dsimp only at hw')
          go_simp
          (try with_reducible rfl)
        (try simp only [Act.put, List.setIfInBounds_toArray, List.set_cons_zero, List.set_cons_succ])
        refine takeD 7 (some 101) (v := ?_) rfl (by kernel_rfl) (by kernel_rfl) (by kernel_rfl) (fun _ _ _ h => h) hS (fun o ho => Or.inl ⟨by cases ho; rfl, ?_⟩) ?_
        rotate_left
        · cases ho
          intro w' hw'
          (try dsimp only at hw')
          go_simp
          (try with_reducible rfl)
        (try simp only [Act.put, List.setIfInBounds_toArray, List.set_cons_zero, List.set_cons_succ])
        have q146z := bx145z.cell 0
        have f147z := bx145z.frozen 0
        have E148z : Hid (EndG (W558.heap.size) r W585 (W133z.setCell ⟨W585.heap.size, 0, none⟩ (.slice A136z r.G.length c137z)) A136z c137z L138z (W585.heap.size)) := Lib.hid (EndG.made bx145z o135z (by omega) (by omega) hb142z (fun q hq => by have h1 := Own2.ofrom o135z q hq; have h2 := Own2.olt o135z q hq; omega) (fun t ht q hq => by have h1 := Own2.from o135z t ht q hq; have h2 := Own2.lt o135z t ht q hq; omega))
        refine oneD 9 none (by kernel_rfl) rfl (fun o ho K hK hdo => ?_)
        simp only [List.getElem?_toArray, List.getElem?_cons_succ, List.getElem?_cons_zero, Option.some.injEq] at ho
        subst ho
        clear hdo
        rw [if_pos (by rfl)]
        go_wp2_with fail
        refine hK.out undef _ ?_ (fun hS => ?_)
        · exact ⟨(E148z.out.bel.cell (p := ⟨w.heap.size, 0, none⟩) (show w.heap.size < W558.heap.size by omega)).trans dq588, (E148z.out.bel.cell (p := ⟨W1.heap.size, 0, none⟩) (show W1.heap.size < W558.heap.size by omega)).trans dq589⟩
        clear hK K
        (try simp only [Act.put])
        refine takeD 10 (some 16) (v := ?_) rfl (by kernel_rfl) (by kernel_rfl) (by kernel_rfl) (fun _ _ _ h => h) hS (fun o ho => Or.inl ⟨by cases ho; rfl, ?_⟩) ?_
        rotate_left
        · cases ho
          intro w' hw'
          (try dsimp only at hw')
          go_simp
          (try with_reducible rfl)
        (try simp only [Act.put, List.setIfInBounds_toArray, List.set_cons_zero, List.set_cons_succ])
        refine wpAnyH_done (by kernel_rfl) ?_ _
        clear hS
        go_wp2_with fail
        go_meet
        exact ⟨_, _, _, _, rfl, rfl, E148z⟩
      exact AllReadyH.nil
    case rest =>
      obtain ⟨A592, c593, L594, g595, rfl, rfl, E596⟩ := hcut
      obtain ⟨W597, rfl⟩ : ∃ X, X = wc := ⟨_, rfl⟩
      have b598 : Below W558.heap.size W558 W597 := bd587.trans E596.out.bel
      clear hW586 q578 q581 dq588 dq589 RD590 RD591
      have h599 := Held.ran h559 (ran_below b598 _) (Nat.le_trans (Nat.le_trans (Nat.le_trans (Nat.le_trans (Nat.le_trans (Nat.le_trans (Nat.le_trans (Nat.le_trans (Nat.le_trans (Nat.le_trans (Nat.le_trans (Nat.le_trans (Nat.le_trans (Nat.le_trans (Nat.le_trans (le10.out) le27.out) le61.out) le91.out) le121.out) le154.out) le178.out) le217.out) le243.out) le288.out) le328.out) le353.out) le405.out) le431.out) le575.out) t576.out) (.inr (Nat.le_refl _))
      have h600 := Held.ran h560 (ran_below b598 _) (Nat.le_trans (Nat.le_trans (Nat.le_trans (Nat.le_trans (Nat.le_trans (Nat.le_trans (Nat.le_trans (Nat.le_trans (Nat.le_trans (Nat.le_trans (Nat.le_trans (Nat.le_trans (Nat.le_trans (Nat.le_trans (Nat.le_trans (le10.out) le27.out) le61.out) le91.out) le121.out) le154.out) le178.out) le217.out) le243.out) le288.out) le328.out) le353.out) le405.out) le431.out) le575.out) t576.out) (.inr (Nat.le_refl _))
      have h601 := Held.ran h561 (ran_below b598 _) (Nat.le_trans (Nat.le_trans (Nat.le_trans (Nat.le_trans (Nat.le_trans (Nat.le_trans (Nat.le_trans (Nat.le_trans (Nat.le_trans (Nat.le_trans (Nat.le_trans (Nat.le_trans (Nat.le_trans (Nat.le_trans (le27.out) le61.out) le91.out) le121.out) le154.out) le178.out) le217.out) le243.out) le288.out) le328.out) le353.out) le405.out) le431.out) le575.out) t576.out) (.inr (Nat.le_refl _))
      have h602 := Held.ran h562 (ran_below b598 _) (Nat.le_trans (Nat.le_trans (Nat.le_trans (Nat.le_trans (Nat.le_trans (Nat.le_trans (Nat.le_trans (Nat.le_trans (Nat.le_trans (Nat.le_trans (Nat.le_trans (Nat.le_trans (Nat.le_trans (le61.out) le91.out) le121.out) le154.out) le178.out) le217.out) le243.out) le288.out) le328.out) le353.out) le405.out) le431.out) le575.out) t576.out) (.inr (Nat.le_refl _))
      have h603 := Held.ran h563 (ran_below b598 _) (Nat.le_trans (Nat.le_trans (Nat.le_trans (Nat.le_trans (Nat.le_trans (Nat.le_trans (Nat.le_trans (Nat.le_trans (Nat.le_trans (Nat.le_trans (Nat.le_trans (le121.out) le154.out) le178.out) le217.out) le243.out) le288.out) le328.out) le353.out) le405.out) le431.out) le575.out) t576.out) (.inr (Nat.le_refl _))
      have h604 := Held.ran h564 (ran_below b598 _) (Nat.le_trans (Nat.le_trans (Nat.le_trans (Nat.le_trans (Nat.le_trans (Nat.le_trans (Nat.le_trans (Nat.le_trans (Nat.le_trans (Nat.le_trans (Nat.le_trans (le121.out) le154.out) le178.out) le217.out) le243.out) le288.out) le328.out) le353.out) le405.out) le431.out) le575.out) t576.out) (.inr (Nat.le_refl _))
      have h605 := Held.ran h565 (ran_below b598 _) (Nat.le_trans (Nat.le_trans (Nat.le_trans (Nat.le_trans (Nat.le_trans (Nat.le_trans (Nat.le_trans (Nat.le_trans (Nat.le_trans (Nat.le_trans (le154.out) le178.out) le217.out) le243.out) le288.out) le328.out) le353.out) le405.out) le431.out) le575.out) t576.out) (.inr (Nat.le_refl _))
      have h606 := Held.ran h566 (ran_below b598 _) (Nat.le_trans (Nat.le_trans (Nat.le_trans (Nat.le_trans (Nat.le_trans (Nat.le_trans (Nat.le_trans (Nat.le_trans (Nat.le_trans (le178.out) le217.out) le243.out) le288.out) le328.out) le353.out) le405.out) le431.out) le575.out) t576.out) (.inr (Nat.le_refl _))
      have h607 := Held.ran h567 (ran_below b598 _) (Nat.le_trans (Nat.le_trans (Nat.le_trans (Nat.le_trans (Nat.le_trans (Nat.le_trans (Nat.le_trans (Nat.le_trans (le217.out) le243.out) le288.out) le328.out) le353.out) le405.out) le431.out) le575.out) t576.out) (.inr (Nat.le_refl _))
      have h608 := Held.ran h568 (ran_below b598 _) (Nat.le_trans (Nat.le_trans (Nat.le_trans (Nat.le_trans (Nat.le_trans (Nat.le_trans (Nat.le_trans (le243.out) le288.out) le328.out) le353.out) le405.out) le431.out) le575.out) t576.out) (.inr (Nat.le_refl _))
      have h609 := Held.ran h569 (ran_below b598 _) (Nat.le_trans (Nat.le_trans (Nat.le_trans (Nat.le_trans (Nat.le_trans (Nat.le_trans (le288.out) le328.out) le353.out) le405.out) le431.out) le575.out) t576.out) (.inr (Nat.le_refl _))
      have h610 := Held.ran h570 (ran_below b598 _) (Nat.le_trans (Nat.le_trans (Nat.le_trans (Nat.le_trans (Nat.le_trans (le328.out) le353.out) le405.out) le431.out) le575.out) t576.out) (.inr (Nat.le_refl _))
      have h611 := Held.ran h571 (ran_below b598 _) (Nat.le_trans (Nat.le_trans (Nat.le_trans (le405.out) le431.out) le575.out) t576.out) (.inr (Nat.le_refl _))
      have h612 := Held.ran h572 (ran_below b598 _) (Nat.le_trans (le575.out) t576.out) (.inr (Nat.le_refl _))
      have bel613 : Below w.heap.size w W597 := Below.trans bel573 (Below.mono b598 (Nat.le_trans (Nat.le_trans (Nat.le_trans (Nat.le_trans (Nat.le_trans (Nat.le_trans (Nat.le_trans (Nat.le_trans (Nat.le_trans (Nat.le_trans (Nat.le_trans (Nat.le_trans (Nat.le_trans (Nat.le_trans (Nat.le_trans (le10.out) le27.out) le61.out) le91.out) le121.out) le154.out) le178.out) le217.out) le243.out) le288.out) le328.out) le353.out) le405.out) le431.out) le575.out) t576.out))
      have t614 : Hid (W558.heap.size ≤ W597.heap.size) := Lib.hid (Nat.le_trans t576.out (Below.size b598))
      clear h559 h560 h561 h562 h563 h564 h565 h566 h567 h568 h569 h570 h571 h572 bel573
      have le615 : Hid (W558.heap.size ≤ W597.heap.size) := t614
      have t616 : Hid (W597.heap.size ≤ W597.heap.size) := Lib.hid (Nat.le_refl _)
      have o617 := E596.out.own
      have fr618 := Own2.from o617
      have lt619 := Own2.lt o617
      have olt620 := Own2.olt o617
      have h621 := held_own2 o617 lt619 olt620
      have ln622 : (lens L594).sum ≤ 2000000 := by rw [Own2.lens o617]; exact hT
      clear o617
      have bk623 := E596.out.box
      have lt624 : Hid (g595 < W597.heap.size) := Lib.hid (Blk.lt bk623)
      have h625 := held_blk bk623 (show W558.heap.size ≤ g595 from E596.out.low) lt624.out
      clear bk623 b598
      have bk626 := Held.now h625
      have q627 := Blk.cell bk626 0
      clear bk626
      have bk628 := Held.now h604
      have q629 := Blk.cell bk628 0
      clear bk628
      go_wp2_with fail
      (go_at_call 45; (with_reducible refine (eqGroup_any r _ _ _ _ _ _ (Own2.row (Held.now h621)) (Own2.row (Held.now h603)) (Nat.le_refl _) (Nat.le_refl _)).mono ?_); rintro e W631 ⟨rfl, b630⟩)
      have h632 := Held.ran h599 (ran_below b630 _) (Nat.le_trans (Nat.le_trans (Nat.le_trans (Nat.le_trans (Nat.le_trans (Nat.le_trans (Nat.le_trans (Nat.le_trans (Nat.le_trans (Nat.le_trans (Nat.le_trans (Nat.le_trans (Nat.le_trans (Nat.le_trans (Nat.le_trans (Nat.le_trans (le10.out) le27.out) le61.out) le91.out) le121.out) le154.out) le178.out) le217.out) le243.out) le288.out) le328.out) le353.out) le405.out) le431.out) le575.out) le615.out) t616.out) (.inr (Nat.le_refl _))
      have h633 := Held.ran h600 (ran_below b630 _) (Nat.le_trans (Nat.le_trans (Nat.le_trans (Nat.le_trans (Nat.le_trans (Nat.le_trans (Nat.le_trans (Nat.le_trans (Nat.le_trans (Nat.le_trans (Nat.le_trans (Nat.le_trans (Nat.le_trans (Nat.le_trans (Nat.le_trans (Nat.le_trans (le10.out) le27.out) le61.out) le91.out) le121.out) le154.out) le178.out) le217.out) le243.out) le288.out) le328.out) le353.out) le405.out) le431.out) le575.out) le615.out) t616.out) (.inr (Nat.le_refl _))
      have h634 := Held.ran h601 (ran_below b630 _) (Nat.le_trans (Nat.le_trans (Nat.le_trans (Nat.le_trans (Nat.le_trans (Nat.le_trans (Nat.le_trans (Nat.le_trans (Nat.le_trans (Nat.le_trans (Nat.le_trans (Nat.le_trans (Nat.le_trans (Nat.le_trans (Nat.le_trans (le27.out) le61.out) le91.out) le121.out) le154.out) le178.out) le217.out) le243.out) le288.out) le328.out) le353.out) le405.out) le431.out) le575.out) le615.out) t616.out) (.inr (Nat.le_refl _))
      have h635 := Held.ran h602 (ran_below b630 _) (Nat.le_trans (Nat.le_trans (Nat.le_trans (Nat.le_trans (Nat.le_trans (Nat.le_trans (Nat.le_trans (Nat.le_trans (Nat.le_trans (Nat.le_trans (Nat.le_trans (Nat.le_trans (Nat.le_trans (Nat.le_trans (le61.out) le91.out) le121.out) le154.out) le178.out) le217.out) le243.out) le288.out) le328.out) le353.out) le405.out) le431.out) le575.out) le615.out) t616.out) (.inr (Nat.le_refl _))
      have h636 := Held.ran h603 (ran_below b630 _) (Nat.le_trans (Nat.le_trans (Nat.le_trans (Nat.le_trans (Nat.le_trans (Nat.le_trans (Nat.le_trans (Nat.le_trans (Nat.le_trans (Nat.le_trans (Nat.le_trans (Nat.le_trans (le121.out) le154.out) le178.out) le217.out) le243.out) le288.out) le328.out) le353.out) le405.out) le431.out) le575.out) le615.out) t616.out) (.inr (Nat.le_refl _))
      have h637 := Held.ran h604 (ran_below b630 _) (Nat.le_trans (Nat.le_trans (Nat.le_trans (Nat.le_trans (Nat.le_trans (Nat.le_trans (Nat.le_trans (Nat.le_trans (Nat.le_trans (Nat.le_trans (Nat.le_trans (Nat.le_trans (le121.out) le154.out) le178.out) le217.out) le243.out) le288.out) le328.out) le353.out) le405.out) le431.out) le575.out) le615.out) t616.out) (.inr (Nat.le_refl _))
      have h638 := Held.ran h605 (ran_below b630 _) (Nat.le_trans (Nat.le_trans (Nat.le_trans (Nat.le_trans (Nat.le_trans (Nat.le_trans (Nat.le_trans (Nat.le_trans (Nat.le_trans (Nat.le_trans (Nat.le_trans (le154.out) le178.out) le217.out) le243.out) le288.out) le328.out) le353.out) le405.out) le431.out) le575.out) le615.out) t616.out) (.inr (Nat.le_refl _))
      have h639 := Held.ran h606 (ran_below b630 _) (Nat.le_trans (Nat.le_trans (Nat.le_trans (Nat.le_trans (Nat.le_trans (Nat.le_trans (Nat.le_trans (Nat.le_trans (Nat.le_trans (Nat.le_trans (le178.out) le217.out) le243.out) le288.out) le328.out) le353.out) le405.out) le431.out) le575.out) le615.out) t616.out) (.inr (Nat.le_refl _))
      have h640 := Held.ran h607 (ran_below b630 _) (Nat.le_trans (Nat.le_trans (Nat.le_trans (Nat.le_trans (Nat.le_trans (Nat.le_trans (Nat.le_trans (Nat.le_trans (Nat.le_trans (le217.out) le243.out) le288.out) le328.out) le353.out) le405.out) le431.out) le575.out) le615.out) t616.out) (.inr (Nat.le_refl _))
      have h641 := Held.ran h608 (ran_below b630 _) (Nat.le_trans (Nat.le_trans (Nat.le_trans (Nat.le_trans (Nat.le_trans (Nat.le_trans (Nat.le_trans (Nat.le_trans (le243.out) le288.out) le328.out) le353.out) le405.out) le431.out) le575.out) le615.out) t616.out) (.inr (Nat.le_refl _))
      have h642 := Held.ran h609 (ran_below b630 _) (Nat.le_trans (Nat.le_trans (Nat.le_trans (Nat.le_trans (Nat.le_trans (Nat.le_trans (Nat.le_trans (le288.out) le328.out) le353.out) le405.out) le431.out) le575.out) le615.out) t616.out) (.inr (Nat.le_refl _))
      have h643 := Held.ran h610 (ran_below b630 _) (Nat.le_trans (Nat.le_trans (Nat.le_trans (Nat.le_trans (Nat.le_trans (Nat.le_trans (le328.out) le353.out) le405.out) le431.out) le575.out) le615.out) t616.out) (.inr (Nat.le_refl _))
      have h644 := Held.ran h611 (ran_below b630 _) (Nat.le_trans (Nat.le_trans (Nat.le_trans (Nat.le_trans (le405.out) le431.out) le575.out) le615.out) t616.out) (.inr (Nat.le_refl _))
      have h645 := Held.ran h612 (ran_below b630 _) (Nat.le_trans (Nat.le_trans (le575.out) le615.out) t616.out) (.inr (Nat.le_refl _))
      have h646 := Held.ran h621 (ran_below b630 _) (Nat.le_refl _) (.inr (Nat.le_refl _))
      have h647 := Held.ran h625 (ran_below b630 _) (Nat.le_refl _) (.inr (Nat.le_refl _))
      have bel648 : Below w.heap.size w W631 := Below.trans bel613 (Below.mono b630 (Nat.le_trans (Nat.le_trans (Nat.le_trans (Nat.le_trans (Nat.le_trans (Nat.le_trans (Nat.le_trans (Nat.le_trans (Nat.le_trans (Nat.le_trans (Nat.le_trans (Nat.le_trans (Nat.le_trans (Nat.le_trans (Nat.le_trans (Nat.le_trans (le10.out) le27.out) le61.out) le91.out) le121.out) le154.out) le178.out) le217.out) le243.out) le288.out) le328.out) le353.out) le405.out) le431.out) le575.out) le615.out) t616.out))
      have t649 : Hid (W597.heap.size ≤ W631.heap.size) := Lib.hid (Nat.le_trans t616.out (Below.size b630))
      clear h599 h600 h601 h602 h603 h604 h605 h606 h607 h608 h609 h610 h611 h612 h621 h625 bel613
      clear b630
      clear q627
      clear q629
      have bk650 := Held.now h643
      have q651 := Blk.cell bk650 0
      clear bk650
      go_wp2_with fail
      (go_at_call 48; (with_reducible refine (heldGroup_any r _ _ _ 1 1 (by omega) _ _ (Own2.row (Held.now h642)) (Nat.le_refl _) (by omega)).mono ?_); rintro e W653 ⟨rfl, b652⟩)
      have h654 := Held.ran h632 (ran_below b652 _) (Nat.le_trans (Nat.le_trans (Nat.le_trans (Nat.le_trans (Nat.le_trans (Nat.le_trans (Nat.le_trans (Nat.le_trans (Nat.le_trans (Nat.le_trans (Nat.le_trans (Nat.le_trans (Nat.le_trans (Nat.le_trans (Nat.le_trans (Nat.le_trans (le10.out) le27.out) le61.out) le91.out) le121.out) le154.out) le178.out) le217.out) le243.out) le288.out) le328.out) le353.out) le405.out) le431.out) le575.out) le615.out) t649.out) (.inr (Nat.le_refl _))
      have h655 := Held.ran h633 (ran_below b652 _) (Nat.le_trans (Nat.le_trans (Nat.le_trans (Nat.le_trans (Nat.le_trans (Nat.le_trans (Nat.le_trans (Nat.le_trans (Nat.le_trans (Nat.le_trans (Nat.le_trans (Nat.le_trans (Nat.le_trans (Nat.le_trans (Nat.le_trans (Nat.le_trans (le10.out) le27.out) le61.out) le91.out) le121.out) le154.out) le178.out) le217.out) le243.out) le288.out) le328.out) le353.out) le405.out) le431.out) le575.out) le615.out) t649.out) (.inr (Nat.le_refl _))
      have h656 := Held.ran h634 (ran_below b652 _) (Nat.le_trans (Nat.le_trans (Nat.le_trans (Nat.le_trans (Nat.le_trans (Nat.le_trans (Nat.le_trans (Nat.le_trans (Nat.le_trans (Nat.le_trans (Nat.le_trans (Nat.le_trans (Nat.le_trans (Nat.le_trans (Nat.le_trans (le27.out) le61.out) le91.out) le121.out) le154.out) le178.out) le217.out) le243.out) le288.out) le328.out) le353.out) le405.out) le431.out) le575.out) le615.out) t649.out) (.inr (Nat.le_refl _))
      have h657 := Held.ran h635 (ran_below b652 _) (Nat.le_trans (Nat.le_trans (Nat.le_trans (Nat.le_trans (Nat.le_trans (Nat.le_trans (Nat.le_trans (Nat.le_trans (Nat.le_trans (Nat.le_trans (Nat.le_trans (Nat.le_trans (Nat.le_trans (Nat.le_trans (le61.out) le91.out) le121.out) le154.out) le178.out) le217.out) le243.out) le288.out) le328.out) le353.out) le405.out) le431.out) le575.out) le615.out) t649.out) (.inr (Nat.le_refl _))
      have h658 := Held.ran h636 (ran_below b652 _) (Nat.le_trans (Nat.le_trans (Nat.le_trans (Nat.le_trans (Nat.le_trans (Nat.le_trans (Nat.le_trans (Nat.le_trans (Nat.le_trans (Nat.le_trans (Nat.le_trans (Nat.le_trans (le121.out) le154.out) le178.out) le217.out) le243.out) le288.out) le328.out) le353.out) le405.out) le431.out) le575.out) le615.out) t649.out) (.inr (Nat.le_refl _))
      have h659 := Held.ran h637 (ran_below b652 _) (Nat.le_trans (Nat.le_trans (Nat.le_trans (Nat.le_trans (Nat.le_trans (Nat.le_trans (Nat.le_trans (Nat.le_trans (Nat.le_trans (Nat.le_trans (Nat.le_trans (Nat.le_trans (le121.out) le154.out) le178.out) le217.out) le243.out) le288.out) le328.out) le353.out) le405.out) le431.out) le575.out) le615.out) t649.out) (.inr (Nat.le_refl _))
      have h660 := Held.ran h638 (ran_below b652 _) (Nat.le_trans (Nat.le_trans (Nat.le_trans (Nat.le_trans (Nat.le_trans (Nat.le_trans (Nat.le_trans (Nat.le_trans (Nat.le_trans (Nat.le_trans (Nat.le_trans (le154.out) le178.out) le217.out) le243.out) le288.out) le328.out) le353.out) le405.out) le431.out) le575.out) le615.out) t649.out) (.inr (Nat.le_refl _))
      have h661 := Held.ran h639 (ran_below b652 _) (Nat.le_trans (Nat.le_trans (Nat.le_trans (Nat.le_trans (Nat.le_trans (Nat.le_trans (Nat.le_trans (Nat.le_trans (Nat.le_trans (Nat.le_trans (le178.out) le217.out) le243.out) le288.out) le328.out) le353.out) le405.out) le431.out) le575.out) le615.out) t649.out) (.inr (Nat.le_refl _))
      have h662 := Held.ran h640 (ran_below b652 _) (Nat.le_trans (Nat.le_trans (Nat.le_trans (Nat.le_trans (Nat.le_trans (Nat.le_trans (Nat.le_trans (Nat.le_trans (Nat.le_trans (le217.out) le243.out) le288.out) le328.out) le353.out) le405.out) le431.out) le575.out) le615.out) t649.out) (.inr (Nat.le_refl _))
      have h663 := Held.ran h641 (ran_below b652 _) (Nat.le_trans (Nat.le_trans (Nat.le_trans (Nat.le_trans (Nat.le_trans (Nat.le_trans (Nat.le_trans (Nat.le_trans (le243.out) le288.out) le328.out) le353.out) le405.out) le431.out) le575.out) le615.out) t649.out) (.inr (Nat.le_refl _))
      have h664 := Held.ran h642 (ran_below b652 _) (Nat.le_trans (Nat.le_trans (Nat.le_trans (Nat.le_trans (Nat.le_trans (Nat.le_trans (Nat.le_trans (le288.out) le328.out) le353.out) le405.out) le431.out) le575.out) le615.out) t649.out) (.inr (Nat.le_refl _))
      have h665 := Held.ran h643 (ran_below b652 _) (Nat.le_trans (Nat.le_trans (Nat.le_trans (Nat.le_trans (Nat.le_trans (Nat.le_trans (le328.out) le353.out) le405.out) le431.out) le575.out) le615.out) t649.out) (.inr (Nat.le_refl _))
      have h666 := Held.ran h644 (ran_below b652 _) (Nat.le_trans (Nat.le_trans (Nat.le_trans (Nat.le_trans (le405.out) le431.out) le575.out) le615.out) t649.out) (.inr (Nat.le_refl _))
      have h667 := Held.ran h645 (ran_below b652 _) (Nat.le_trans (Nat.le_trans (le575.out) le615.out) t649.out) (.inr (Nat.le_refl _))
      have h668 := Held.ran h646 (ran_below b652 _) (Nat.le_trans (Nat.le_refl _) t649.out) (.inr (Nat.le_refl _))
      have h669 := Held.ran h647 (ran_below b652 _) (Nat.le_trans (Nat.le_refl _) t649.out) (.inr (Nat.le_refl _))
      have bel670 : Below w.heap.size w W653 := Below.trans bel648 (Below.mono b652 (Nat.le_trans (Nat.le_trans (Nat.le_trans (Nat.le_trans (Nat.le_trans (Nat.le_trans (Nat.le_trans (Nat.le_trans (Nat.le_trans (Nat.le_trans (Nat.le_trans (Nat.le_trans (Nat.le_trans (Nat.le_trans (Nat.le_trans (Nat.le_trans (le10.out) le27.out) le61.out) le91.out) le121.out) le154.out) le178.out) le217.out) le243.out) le288.out) le328.out) le353.out) le405.out) le431.out) le575.out) le615.out) t649.out))
      have t671 : Hid (W597.heap.size ≤ W653.heap.size) := Lib.hid (Nat.le_trans t649.out (Below.size b652))
      clear h632 h633 h634 h635 h636 h637 h638 h639 h640 h641 h642 h643 h644 h645 h646 h647 bel648
      clear b652
      clear q651
      go_wp2_with fail
      go_ret
      exact ⟨rfl, bel670⟩
end Go.Proofs.Yteggllmiapdmcaa
