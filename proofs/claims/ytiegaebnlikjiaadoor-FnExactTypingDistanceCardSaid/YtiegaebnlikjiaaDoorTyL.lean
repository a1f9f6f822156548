/-
  The first move of the least script behind some symbols, and its cost.
-/
import Derived.Test.YtiegaebnlikjiaaDoorTyF
import Derived.Test.YtiegaebnlikjiaaDoorLast
import Derived.Deep.WholeRow
import Derived.IntWalk
import Derived.Laws.CopyOwn
namespace Go.Proofs.YtiegaebnlikjiaaDoor
open Go Go.RowKit

def zeroMv : Array Value := #[.int .i32 0, .int .i64 0, .int .i64 0, .int .i64 0]
def bestA (a b : ByteArray) (i j : Nat) : Array Value :=
  match bestM a b i j 5 with
  | none => zeroMv
  | some m => mvCs m
/-- What is known behind k moves. -/
def bestSt (a b : ByteArray) (i j k : Nat) (fd : Bool) (l : Nat) (cs : Array Value) : Prop :=
  match bestM a b i j k with
  | none => fd = false ∧ l = 0 ∧ cs = zeroMv
  | some m => fd = true ∧ l = valM a b i j m ∧ cs = mvCs m
theorem bestSt_zero (a b : ByteArray) (i j : Nat) : bestSt a b i j 0 false 0 zeroMv := ⟨rfl, rfl, rfl⟩
section
variable {a b : ByteArray} {i j k l : Nat} {fd : Bool} {cs : Array Value}
theorem bestSt.skip (h : bestSt a b i j k fd l cs) (hf : fitM a b i j k = false) : bestSt a b i j (k + 1) fd l cs := by
  unfold bestSt at h ⊢
  rw [best_skip hf]; exact h
theorem bestSt.first (h : bestSt a b i j k fd l cs) (hf : fitM a b i j k = true) (h0 : fd = false) : bestSt a b i j (k + 1) true (valM a b i j k) (mvCs k) := by
  unfold bestSt at h ⊢
  rcases hb : bestM a b i j k with _ | m
  · rw [best_first hf hb]; exact ⟨rfl, rfl, rfl⟩
  · rw [hb] at h
    rw [h0] at h
    exact absurd h.1 (by decide)
theorem bestSt.less (h : bestSt a b i j k fd l cs) (hf : fitM a b i j k = true) (h0 : fd = true) (hl : valM a b i j k < l) : bestSt a b i j (k + 1) true (valM a b i j k) (mvCs k) := by
  unfold bestSt at h ⊢
  rcases hb : bestM a b i j k with _ | m
  · rw [hb, h0] at h
    exact absurd h.1 (by decide)
  · rw [hb] at h
    rw [best_less hf hb (by rw [← h.2.1]; exact hl)]; exact ⟨rfl, rfl, rfl⟩
theorem bestSt.more (h : bestSt a b i j k fd l cs) (hf : fitM a b i j k = true) (h0 : fd = true) (hl : ¬ valM a b i j k < l) : bestSt a b i j (k + 1) fd l cs := by
  unfold bestSt at h ⊢
  rcases hb : bestM a b i j k with _ | m
  · rw [hb, h0] at h
    exact absurd h.1 (by decide)
  · rw [hb] at h
    rw [best_more hf hb (by rw [← h.2.1]; exact hl)]; exact h
theorem bestSt.form (h : bestSt a b i j k fd l cs) : ∃ x0 x1 x2 x3 : Int, cs = #[.int .i32 x0, .int .i64 x1, .int .i64 x2, .int .i64 x3] := by
  unfold bestSt at h
  rcases hb : bestM a b i j k with _ | m
  · rw [hb] at h; exact ⟨_, _, _, _, h.2.2⟩
  · rw [hb] at h; exact ⟨_, _, _, _, h.2.2⟩
theorem bestSt.five (h : bestSt a b i j 5 fd l cs) (hi : i ≤ a.size) (hj : j ≤ b.size) : l = cst true a b i j ∧ cs = bestA a b i j := by
  unfold bestSt at h
  unfold bestA
  rcases best_5 hi hj with ⟨h1, h2, hb⟩ | ⟨m, _, hb, _, hv, _⟩
  · rw [hb] at h ⊢
    refine ⟨?_, h.2.2⟩
    rw [h.2.1, cst_end (by omega)]; omega
  · rw [hb] at h ⊢
    exact ⟨h.2.1.trans hv, h.2.2⟩
end
theorem val_le {a b : ByteArray} (i j m : Nat) (ha : a.size ≤ 20) (hb : b.size ≤ 20) : valM a b i j m ≤ 21 := by
  have h := cst_le true a b (i + mvA m) (j + mvB m)
  have h2 : mvC m ≤ 1 := by unfold mvC; split <;> omega
  unfold valM
  omega
theorem mv_bd (m : Nat) : mvA m ≤ 2 ∧ mvB m ≤ 2 ∧ mvC m ≤ 1 ∧ mvL m ≤ 100 := by
  unfold mvA mvB mvC mvL
  refine ⟨?_, ?_, ?_, ?_⟩ <;> split <;> omega
theorem index_mv (k : Nat) (hk : k < 5) (W : World) : (Instr.index 76 (.agg mvAll.toArray) (.int .i64 (k : Int))).run Tryd.prog W = .ok (.agg #[.int .i32 (mvL k : Nat), .int .i64 (mvC k : Nat), .int .i64 (mvA k : Nat), .int .i64 (mvB k : Nat)]) W := by
  rcases (show k = 0 ∨ k = 1 ∨ k = 2 ∨ k = 3 ∨ k = 4 by omega) with rfl | rfl | rfl | rfl | rfl
  all_goals kernel_rfl

theorem four_one (x0 x1 x2 x3 : Int) : (#[Value.int .i32 x0, .int .i64 x1, .int .i64 x2, .int .i64 x3] : Array Value).all (·.oneCell') = true := by
  rw [Array.all_eq_true_iff_forall_mem]
  intro v hv
  simp at hv
  rcases hv with rfl | rfl | rfl | rfl <;> rfl
/-- What leastMove returns. -/
def GotMv (a b : ByteArray) (i j : Nat) (w : World) (e : Ending) (w' : World) : Prop :=
  e = .returned (.tuple #[.agg (bestA a b i j), .int .i64 ((cst true a b i j : Nat) : Int)]) ∧ Below w.heap.size w w'
set_option maxRecDepth 100000 in
set_option maxHeartbeats 8000000 in
theorem leastMove_any {g : Nat} (a b : ByteArray) (F : Nat → Nat → Nat) (i j : Nat) (w : World) (h : TyB w g a b F) (hM : HeldM w) (hi : i ≤ a.size) (hj : j ≤ b.size) (ha : a.size ≤ 20) (hb : b.size ≤ 20)
    (hF : ∀ m, m < 5 → fitM a b i j m = true → F (i + mvA m) (j + mvB m) = cst true a b (i + mvA m) (j + mvB m)) :
    Calls Tryd.prog 40 #[.pointer (some ⟨g, 0, none⟩), .int .i64 i, .int .i64 j] w (GotMv a b i j w) := by
  obtain ⟨w1, hw1⟩ : ∃ w1, w1 = w.alloc (.cells zeroMv 51) := ⟨_, rfl⟩
  have bel1 : Below w.heap.size w w1 := by rw [hw1]; exact (Below.refl _ w).alloc (Nat.le_refl _) _
  have b1 : Blk w1 w.heap.size zeroMv 51 := by rw [hw1]; exact Blk.new _ _ _
  have lg := Blk.lt h
  have H1 := Lib.hid (Blk.below h bel1 lg)
  obtain ⟨AV, hAV⟩ : ∃ AV : Array Value, AV = mvAll.toArray := ⟨_, rfl⟩
  have HI := fun (k : Nat) (W : World) (hk : k < 5) => index_mv k hk W
  have hsz : (Tryd.prog.info? 76).map (·.size) = some mvAll.toArray.size := by kernel_rfl
  obtain ⟨tt, fr, hld⟩ := hM.up bel1
  rw [← hAV] at HI hsz hld
  rw [hw1] at hld
  unfold zeroMv at hld
  clear hAV
  have HF := Lib.hid hF
  have B1 := Lib.hid b1
  have BEL1 := Lib.hid bel1
  have LT1 := b1.lt
  clear h hM hF b1 bel1
  unfold zeroMv at hw1
  go_enter Tryd.func40, Tryd.ntmps40
  go_wp2_with (refine wpList_load_row rfl 76 _ rfl 0 rfl _ AV _ _ hld Tryd.underlying76 rfl hsz ?_)
  rw [← hw1]
  clear hw1 hld hsz
  go_loopw [7, 8, 10, 11, 13] (fun s7 s8 _ _ s13 wr => ∃ (k : Nat) (fd : Bool) (l : Nat) (cs : Array Value), k ≤ 5 ∧ s13 = .int .i64 k ∧ s8 = .bool fd ∧ s7 = .int .i64 l ∧ l ≤ 21 ∧ Hid (bestSt a b i j k fd l cs) ∧ Hid (Blk wr w.heap.size cs 51) ∧ Hid (TyB wr g a b F) ∧ Below w.heap.size w wr) (fun _ _ _ _ s13 _ => 5 - (intOf s13).toNat)
  case atStart => exact ⟨0, false, 0, zeroMv, by omega, rfl, rfl, rfl, by omega, Lib.hid (bestSt_zero a b i j), B1, H1, BEL1.out⟩
  case round =>
    obtain ⟨k, fd, l, cs, hk, rfl, rfl, rfl, hl, hst, hbk, hty, hbel⟩ := hrel
    obtain ⟨W, hW⟩ : ∃ W, W = wr := ⟨_, rfl⟩
    rw [← hW] at hbk hty hbel ⊢
    clear hW
    by_cases hlt : k < 5
    · have HIk := fun W => HI k W hlt
      clear HI
      have hbd := mv_bd k
      have hval : valM a b i j k = mvC k + cst true a b (i + mvA k) (j + mvB k) := rfl
      have hvl := val_le (a := a) (b := b) i j k ha hb
      have CF0 := fun W => fits_any k hlt (a.extract i a.size) (b.extract j b.size) W (by simp; omega) (by simp; omega)
      rw [fit_rest] at CF0
      have hFk0 := HF.out k hlt
      have HIN := fun hf => fit_in (m := k) hi hj hf
      have HC : Hid (mvCs k = #[.int .i32 (mvL k : Nat), .int .i64 (mvC k : Nat), .int .i64 (mvA k : Nat), .int .i64 (mvB k : Nat)]) := Lib.hid rfl
      unfold mvCs at CF0
      generalize mvL k = L at *
      generalize mvC k = C at *
      generalize mvA k = A at *
      generalize mvB k = B at *
      obtain ⟨w2, hw2⟩ : ∃ w2, w2 = W.alloc (.cells #[.int .i32 (L : Int), .int .i64 (C : Int), .int .i64 (A : Int), .int .i64 (B : Int)] 51) := ⟨_, rfl⟩
      have bm : Blk w2 W.heap.size #[.int .i32 (L : Int), .int .i64 (C : Int), .int .i64 (A : Int), .int .i64 (B : Int)] 51 := by rw [hw2]; exact Blk.new _ _ _
      have bel2 : Below W.heap.size W w2 := by rw [hw2]; exact (Below.refl _ W).alloc (Nat.le_refl _) _
      have ty2 := Blk.below hty.out bel2 (Blk.lt hty.out)
      have hb2 := Lib.hid (hbk.out.below bel2 hbk.out.lt)
      have HBEL2 := Lib.hid (hbel.trans (bel2.mono hbel.size))
      obtain ⟨gm, hgm⟩ : ∃ gm, gm = W.heap.size := ⟨_, rfl⟩
      rw [← hgm] at bm
      have m0 := bm.cell 0
      have m1 := bm.cell 1
      have m2 := bm.cell 2
      have m3 := bm.cell 3
      have q0 := TyB.fa ty2
      have q1 := TyB.fb ty2
      have lg2 := Blk.lt ty2
      have lm := bm.lt
      have BM := Lib.hid bm
      have TY2 := Lib.hid ty2
      have l6 : w.heap.size < w2.heap.size := hb2.out.lt
      have CF := CF0
      clear bm ty2 bel2 CF0
      go_wp2_with fail
      rw [← hw2, ← hgm]
      clear hw2 hgm
      rcases hfit : fitM a b i j k with _ | _
      · rw [hfit] at CF
        have HSK := Lib.hid (hst.out.skip hfit)
        clear hfit hFk0
        go_wp2_with fail
        refine region_held_n 15 (fun w' => w'.cell? ⟨g, 0, none⟩ = some (.string a) ∧ w'.cell? ⟨g, 1, none⟩ = some (.string b) ∧ w'.cell? ⟨gm, 0, none⟩ = some (.int .i32 (L : Int)) ∧ w'.cell? ⟨gm, 1, none⟩ = some (.int .i64 (C : Int)) ∧ w'.cell? ⟨gm, 2, none⟩ = some (.int .i64 (A : Int)) ∧ w'.cell? ⟨gm, 3, none⟩ = some (.int .i64 (B : Int))) (by kernel_rfl) (by kernel_rfl) ⟨q0, q1, m0, m1, m2, m3⟩ (fun hS => ?_)
        refine takeD 0 (some 16) (v := ?_) rfl (by kernel_rfl) (by kernel_rfl) (by kernel_rfl) (fun _ _ _ h => h) hS (fun o ho => Or.inl ⟨by cases ho; rfl, ?_⟩) ?_
        rotate_left
        · cases ho
          intro w' hw'
          (try dsimp only at hw')
          go_simp
          (try with_reducible rfl)
        (try simp only [Act.put, List.setIfInBounds_toArray, List.set_cons_zero, List.set_cons_succ])
        refine takeD 1 (some 17) (v := ?_) rfl (by kernel_rfl) (by kernel_rfl) (by kernel_rfl) (fun _ _ _ h => h) hS (fun o ho => Or.inl ⟨by cases ho; rfl, ?_⟩) ?_
        rotate_left
        · cases ho
          intro w' hw'
          (try dsimp only at hw')
          go_simp
          (try with_reducible rfl)
        (try simp only [Act.put, List.setIfInBounds_toArray, List.set_cons_zero, List.set_cons_succ])
        refine takeD 2 (some 18) (v := ?_) rfl (by kernel_rfl) (by kernel_rfl) (by kernel_rfl) (fun _ _ _ h => h) hS (fun o ho => Or.inl ⟨by cases ho; rfl, ?_⟩) ?_
        rotate_left
        · cases ho
          intro w' hw'
          (try dsimp only at hw')
          go_simp
          (try with_reducible rfl)
        (try simp only [Act.put, List.setIfInBounds_toArray, List.set_cons_zero, List.set_cons_succ])
        refine takeD 3 (some 19) (v := ?_) rfl (by kernel_rfl) (by kernel_rfl) (by kernel_rfl) (fun _ _ _ h => h) hS (fun o ho => Or.inl ⟨by cases ho; rfl, ?_⟩) ?_
        rotate_left
        · cases ho
          intro w' hw'
          (try dsimp only at hw')
          go_simp
          (try with_reducible rfl)
        (try simp only [Act.put, List.setIfInBounds_toArray, List.set_cons_zero, List.set_cons_succ])
        refine takeD 4 (some 20) (v := ?_) rfl (by kernel_rfl) (by kernel_rfl) (by kernel_rfl) (fun _ _ _ h => h) hS (fun o ho => Or.inl ⟨by cases ho; rfl, ?_⟩) ?_
        rotate_left
        · cases ho
          intro w' hw'
          (try dsimp only at hw')
          go_simp
          (try with_reducible rfl)
        (try simp only [Act.put, List.setIfInBounds_toArray, List.set_cons_zero, List.set_cons_succ])
        refine takeD 5 (some 21) (v := ?_) rfl (by kernel_rfl) (by kernel_rfl) (by kernel_rfl) (fun _ _ _ h => h) hS (fun o ho => Or.inl ⟨by cases ho; rfl, ?_⟩) ?_
        rotate_left
        · cases ho
          intro w' hw'
          (try dsimp only at hw')
          go_simp
          (try with_reducible rfl)
        (try simp only [Act.put, List.setIfInBounds_toArray, List.set_cons_zero, List.set_cons_succ])
        refine takeD 6 (some 22) (v := ?_) rfl (by kernel_rfl) (by kernel_rfl) (by kernel_rfl) (fun _ _ _ h => h) hS (fun o ho => Or.inl ⟨by cases ho; rfl, ?_⟩) ?_
        rotate_left
        · cases ho
          intro w' hw'
          (try dsimp only at hw')
          go_simp
          (try with_reducible rfl)
        (try simp only [Act.put, List.setIfInBounds_toArray, List.set_cons_zero, List.set_cons_succ])
        refine takeD 7 (some 23) (v := ?_) rfl (by kernel_rfl) (by kernel_rfl) (by kernel_rfl) (fun _ _ _ h => h) hS (fun o ho => Or.inl ⟨by cases ho; rfl, ?_⟩) ?_
        rotate_left
        · cases ho
          intro w' hw'
          (try dsimp only at hw')
          go_simp
          (try with_reducible rfl)
        (try simp only [Act.put, List.setIfInBounds_toArray, List.set_cons_zero, List.set_cons_succ])
        refine takeD 8 (some 24) (v := ?_) rfl (by kernel_rfl) (by kernel_rfl) (by kernel_rfl) (fun _ _ _ h => h) hS (fun o ho => Or.inl ⟨by cases ho; rfl, ?_⟩) ?_
        rotate_left
        · cases ho
          intro w' hw'
          (try dsimp only at hw')
          go_simp
          (try with_reducible rfl)
        (try simp only [Act.put, List.setIfInBounds_toArray, List.set_cons_zero, List.set_cons_succ])
        refine takeD 9 (some 25) (v := ?_) rfl (by kernel_rfl) (by kernel_rfl) (by kernel_rfl) (fun _ _ _ h => h) hS (fun o ho => Or.inl ⟨by cases ho; rfl, ?_⟩) ?_
        rotate_left
        · cases ho
          intro w' hw'
          (try dsimp only at hw')
          go_simp
          (try with_reducible rfl)
        (try simp only [Act.put, List.setIfInBounds_toArray, List.set_cons_zero, List.set_cons_succ])
        refine takeD 10 (some 26) (v := ?_) rfl (by kernel_rfl) (by kernel_rfl) (by kernel_rfl) (fun _ _ _ h => h) hS (fun o ho => Or.inl ⟨by cases ho; rfl, ?_⟩) ?_
        rotate_left
        · cases ho
          intro w' hw'
          (try dsimp only at hw')
          go_simp
          (try with_reducible rfl)
        (try simp only [Act.put, List.setIfInBounds_toArray, List.set_cons_zero, List.set_cons_succ])
        refine takeD 11 (some 27) (v := ?_) rfl (by kernel_rfl) (by kernel_rfl) (by kernel_rfl) (fun _ _ _ h => h) hS (fun o ho => Or.inl ⟨by cases ho; rfl, ?_⟩) ?_
        rotate_left
        · cases ho
          intro w' hw'
          (try dsimp only at hw')
          go_simp
          (try with_reducible rfl)
        (try simp only [Act.put, List.setIfInBounds_toArray, List.set_cons_zero, List.set_cons_succ])
        refine takeD 12 (some 28) (v := ?_) rfl (by kernel_rfl) (by kernel_rfl) (by kernel_rfl) (fun _ _ _ h => h) hS (fun o ho => Or.inl ⟨by cases ho; rfl, ?_⟩) ?_
        rotate_left
        · cases ho
          intro w' hw'
          (try dsimp only at hw')
          go_simp
          (try with_reducible rfl)
        (try simp only [Act.put, List.setIfInBounds_toArray, List.set_cons_zero, List.set_cons_succ])
        refine oneD 13 (some 29) (by kernel_rfl) rfl (fun o ho K hK hdo => ?_)
        simp only [List.getElem?_toArray, List.getElem?_cons_succ, List.getElem?_cons_zero, Option.some.injEq] at ho
        subst ho
        clear hdo
        rw [if_pos (by rfl)]
        go_wp2_with fail
        (go_at_call 28; (with_reducible refine (CF _).mono ?_); rintro e w5 ⟨rfl, bf⟩)
        have BF := Lib.hid bf
        refine hK.out _ _ ?_ (fun hS => ?_)
        · exact ⟨(bf.cell (p := ⟨g, 0, none⟩) lg2).trans q0, (bf.cell (p := ⟨g, 1, none⟩) lg2).trans q1, (bf.cell (p := ⟨gm, 0, none⟩) lm).trans m0, (bf.cell (p := ⟨gm, 1, none⟩) lm).trans m1, (bf.cell (p := ⟨gm, 2, none⟩) lm).trans m2, (bf.cell (p := ⟨gm, 3, none⟩) lm).trans m3⟩
        clear hK K
        (try simp only [Act.put, List.setIfInBounds_toArray, List.set_cons_zero, List.set_cons_succ])
        refine takeD 14 (some 30) (v := ?_) rfl (by kernel_rfl) (by kernel_rfl) (by kernel_rfl) (fun _ _ _ h => h) hS (fun o ho => Or.inl ⟨by cases ho; rfl, ?_⟩) ?_
        rotate_left
        · cases ho
          intro w' hw'
          (try dsimp only at hw')
          go_simp
          (try with_reducible rfl)
        (try simp only [Act.put, List.setIfInBounds_toArray, List.set_cons_zero, List.set_cons_succ])
        refine wpAnyH_done (by kernel_rfl) ?_ _
        clear hS
        have b25 : Below w2.heap.size w2 w5 := below_of_drew BF.out
        have X1 := Lib.hid (hb2.out.below b25 l6)
        have X2 := Lib.hid (Blk.below TY2.out b25 lg2)
        have X3 := Lib.hid (HBEL2.out.trans (b25.mono (Nat.le_of_lt l6)))
        clear BF b25
        go_wp2_with fail
        go_roundw
        case rel => exact ⟨k + 1, fd, l, cs, by omega, by go_num, rfl, rfl, hl, HSK, X1, X2, X3.out⟩
        case measure => simp [intOf]; omega
      · rw [hfit] at CF
        have hFk := hFk0 hfit
        obtain ⟨hiA, hjB⟩ := HIN hfit
        have HFIT := Lib.hid hfit
        obtain ⟨V, hV⟩ : ∃ V, V = cst true a b (i + A) (j + B) := ⟨_, rfl⟩
        rw [← hV] at hFk hval
        have hVl : V ≤ 21 := by omega
        clear hV hfit hFk0 HIN
        go_wp2_with fail
        refine region_held_n 15 (fun w' => w'.cell? ⟨g, 0, none⟩ = some (.string a) ∧ w'.cell? ⟨g, 1, none⟩ = some (.string b) ∧ w'.cell? ⟨gm, 0, none⟩ = some (.int .i32 (L : Int)) ∧ w'.cell? ⟨gm, 1, none⟩ = some (.int .i64 (C : Int)) ∧ w'.cell? ⟨gm, 2, none⟩ = some (.int .i64 (A : Int)) ∧ w'.cell? ⟨gm, 3, none⟩ = some (.int .i64 (B : Int))) (by kernel_rfl) (by kernel_rfl) ⟨q0, q1, m0, m1, m2, m3⟩ (fun hS => ?_)
        refine takeD 0 (some 16) (v := ?_) rfl (by kernel_rfl) (by kernel_rfl) (by kernel_rfl) (fun _ _ _ h => h) hS (fun o ho => Or.inl ⟨by cases ho; rfl, ?_⟩) ?_
        rotate_left
        · cases ho
          intro w' hw'
          (try dsimp only at hw')
          go_simp
          (try with_reducible rfl)
        (try simp only [Act.put, List.setIfInBounds_toArray, List.set_cons_zero, List.set_cons_succ])
        refine takeD 1 (some 17) (v := ?_) rfl (by kernel_rfl) (by kernel_rfl) (by kernel_rfl) (fun _ _ _ h => h) hS (fun o ho => Or.inl ⟨by cases ho; rfl, ?_⟩) ?_
        rotate_left
        · cases ho
          intro w' hw'
          (try dsimp only at hw')
          go_simp
          (try with_reducible rfl)
        (try simp only [Act.put, List.setIfInBounds_toArray, List.set_cons_zero, List.set_cons_succ])
        refine takeD 2 (some 18) (v := ?_) rfl (by kernel_rfl) (by kernel_rfl) (by kernel_rfl) (fun _ _ _ h => h) hS (fun o ho => Or.inl ⟨by cases ho; rfl, ?_⟩) ?_
        rotate_left
        · cases ho
          intro w' hw'
          (try dsimp only at hw')
          go_simp
          (try with_reducible rfl)
        (try simp only [Act.put, List.setIfInBounds_toArray, List.set_cons_zero, List.set_cons_succ])
        refine takeD 3 (some 19) (v := ?_) rfl (by kernel_rfl) (by kernel_rfl) (by kernel_rfl) (fun _ _ _ h => h) hS (fun o ho => Or.inl ⟨by cases ho; rfl, ?_⟩) ?_
        rotate_left
        · cases ho
          intro w' hw'
          (try dsimp only at hw')
          go_simp
          (try with_reducible rfl)
        (try simp only [Act.put, List.setIfInBounds_toArray, List.set_cons_zero, List.set_cons_succ])
        refine takeD 4 (some 20) (v := ?_) rfl (by kernel_rfl) (by kernel_rfl) (by kernel_rfl) (fun _ _ _ h => h) hS (fun o ho => Or.inl ⟨by cases ho; rfl, ?_⟩) ?_
        rotate_left
        · cases ho
          intro w' hw'
          (try dsimp only at hw')
          go_simp
          (try with_reducible rfl)
        (try simp only [Act.put, List.setIfInBounds_toArray, List.set_cons_zero, List.set_cons_succ])
        refine takeD 5 (some 21) (v := ?_) rfl (by kernel_rfl) (by kernel_rfl) (by kernel_rfl) (fun _ _ _ h => h) hS (fun o ho => Or.inl ⟨by cases ho; rfl, ?_⟩) ?_
        rotate_left
        · cases ho
          intro w' hw'
          (try dsimp only at hw')
          go_simp
          (try with_reducible rfl)
        (try simp only [Act.put, List.setIfInBounds_toArray, List.set_cons_zero, List.set_cons_succ])
        refine takeD 6 (some 22) (v := ?_) rfl (by kernel_rfl) (by kernel_rfl) (by kernel_rfl) (fun _ _ _ h => h) hS (fun o ho => Or.inl ⟨by cases ho; rfl, ?_⟩) ?_
        rotate_left
        · cases ho
          intro w' hw'
          (try dsimp only at hw')
          go_simp
          (try with_reducible rfl)
        (try simp only [Act.put, List.setIfInBounds_toArray, List.set_cons_zero, List.set_cons_succ])
        refine takeD 7 (some 23) (v := ?_) rfl (by kernel_rfl) (by kernel_rfl) (by kernel_rfl) (fun _ _ _ h => h) hS (fun o ho => Or.inl ⟨by cases ho; rfl, ?_⟩) ?_
        rotate_left
        · cases ho
          intro w' hw'
          (try dsimp only at hw')
          go_simp
          (try with_reducible rfl)
        (try simp only [Act.put, List.setIfInBounds_toArray, List.set_cons_zero, List.set_cons_succ])
        refine takeD 8 (some 24) (v := ?_) rfl (by kernel_rfl) (by kernel_rfl) (by kernel_rfl) (fun _ _ _ h => h) hS (fun o ho => Or.inl ⟨by cases ho; rfl, ?_⟩) ?_
        rotate_left
        · cases ho
          intro w' hw'
          (try dsimp only at hw')
          go_simp
          (try with_reducible rfl)
        (try simp only [Act.put, List.setIfInBounds_toArray, List.set_cons_zero, List.set_cons_succ])
        refine takeD 9 (some 25) (v := ?_) rfl (by kernel_rfl) (by kernel_rfl) (by kernel_rfl) (fun _ _ _ h => h) hS (fun o ho => Or.inl ⟨by cases ho; rfl, ?_⟩) ?_
        rotate_left
        · cases ho
          intro w' hw'
          (try dsimp only at hw')
          go_simp
          (try with_reducible rfl)
        (try simp only [Act.put, List.setIfInBounds_toArray, List.set_cons_zero, List.set_cons_succ])
        refine takeD 10 (some 26) (v := ?_) rfl (by kernel_rfl) (by kernel_rfl) (by kernel_rfl) (fun _ _ _ h => h) hS (fun o ho => Or.inl ⟨by cases ho; rfl, ?_⟩) ?_
        rotate_left
        · cases ho
          intro w' hw'
          (try dsimp only at hw')
          go_simp
          (try with_reducible rfl)
        (try simp only [Act.put, List.setIfInBounds_toArray, List.set_cons_zero, List.set_cons_succ])
        refine takeD 11 (some 27) (v := ?_) rfl (by kernel_rfl) (by kernel_rfl) (by kernel_rfl) (fun _ _ _ h => h) hS (fun o ho => Or.inl ⟨by cases ho; rfl, ?_⟩) ?_
        rotate_left
        · cases ho
          intro w' hw'
          (try dsimp only at hw')
          go_simp
          (try with_reducible rfl)
        (try simp only [Act.put, List.setIfInBounds_toArray, List.set_cons_zero, List.set_cons_succ])
        refine takeD 12 (some 28) (v := ?_) rfl (by kernel_rfl) (by kernel_rfl) (by kernel_rfl) (fun _ _ _ h => h) hS (fun o ho => Or.inl ⟨by cases ho; rfl, ?_⟩) ?_
        rotate_left
        · cases ho
          intro w' hw'
          (try dsimp only at hw')
          go_simp
          (try with_reducible rfl)
        (try simp only [Act.put, List.setIfInBounds_toArray, List.set_cons_zero, List.set_cons_succ])
        refine oneD 13 (some 29) (by kernel_rfl) rfl (fun o ho K hK hdo => ?_)
        simp only [List.getElem?_toArray, List.getElem?_cons_succ, List.getElem?_cons_zero, Option.some.injEq] at ho
        subst ho
        clear hdo
        rw [if_pos (by rfl)]
        go_wp2_with fail
        (go_at_call 28; (with_reducible refine (CF _).mono ?_); rintro e w5 ⟨rfl, bf⟩)
        have BF := Lib.hid bf
        refine hK.out _ _ ?_ (fun hS => ?_)
        · exact ⟨(bf.cell (p := ⟨g, 0, none⟩) lg2).trans q0, (bf.cell (p := ⟨g, 1, none⟩) lg2).trans q1, (bf.cell (p := ⟨gm, 0, none⟩) lm).trans m0, (bf.cell (p := ⟨gm, 1, none⟩) lm).trans m1, (bf.cell (p := ⟨gm, 2, none⟩) lm).trans m2, (bf.cell (p := ⟨gm, 3, none⟩) lm).trans m3⟩
        clear hK K
        (try simp only [Act.put, List.setIfInBounds_toArray, List.set_cons_zero, List.set_cons_succ])
        refine takeD 14 (some 30) (v := ?_) rfl (by kernel_rfl) (by kernel_rfl) (by kernel_rfl) (fun _ _ _ h => h) hS (fun o ho => Or.inl ⟨by cases ho; rfl, ?_⟩) ?_
        rotate_left
        · cases ho
          intro w' hw'
          (try dsimp only at hw')
          go_simp
          (try with_reducible rfl)
        (try simp only [Act.put, List.setIfInBounds_toArray, List.set_cons_zero, List.set_cons_succ])
        refine wpAnyH_done (by kernel_rfl) ?_ _
        clear hS
        have b25 : Below w2.heap.size w2 w5 := below_of_drew BF.out
        have X1 := Lib.hid (hb2.out.below b25 l6)
        have X2 := Lib.hid (Blk.below TY2.out b25 lg2)
        have X3 := Lib.hid (HBEL2.out.trans (b25.mono (Nat.le_of_lt l6)))
        have X4 := Lib.hid (BM.out.below b25 lm)
        have n0 := X4.out.cell 0
        have n1 := X4.out.cell 1
        have n2 := X4.out.cell 2
        have n3 := X4.out.cell 3
        obtain ⟨I, hI⟩ : ∃ I, I = i + A := ⟨_, rfl⟩
        obtain ⟨J, hJ⟩ : ∃ J, J = j + B := ⟨_, rfl⟩
        have nV : w5.cell? ⟨g, I * 21 + J + 2, none⟩ = some (.int .i64 (V : Int)) := by
          rw [hI, hJ, TyB.at_ X2.out (by omega) (by omega), hFk]
        have nV2 : w5.cell? ⟨g, 2 + I * 21 + J, none⟩ = some (.int .i64 (V : Int)) := by
          rw [show 2 + I * 21 + J = I * 21 + J + 2 by omega]; exact nV
        have wa : IntKind.i64.wrap ((i : Int) + (A : Int)) = (I : Int) := by rw [hI]; exact IntWalk.i64_in _ (by omega)
        have wb : IntKind.i64.wrap ((j : Int) + (B : Int)) = (J : Int) := by rw [hJ]; exact IntWalk.i64_in _ (by omega)
        have wc : IntKind.i64.wrap ((C : Int) + (V : Int)) = (C : Int) + (V : Int) := IntWalk.i64_in _ (by omega)
        have i1 : (I : Int) < 21 := by omega
        have i2 : (J : Int) < 21 := by omega
        have i3 : (0 : Int) ≤ (I : Int) := by omega
        have i4 : (0 : Int) ≤ (J : Int) := by omega
        clear hI hJ
        clear BF b25 m0 m1 m2 m3 q0 q1 CF
        go_wp2_with fail
        obtain ⟨CC, hCC⟩ : ∃ CC : Array Value, CC = #[.int .i32 (L : Int), .int .i64 (C : Int), .int .i64 (A : Int), .int .i64 (B : Int)] := ⟨_, rfl⟩
        have y4 : ∀ m, (w5.drewN m).heap[gm]? = some (.cells CC 51) := fun m => by rw [hCC]; exact X4.out
        have y1 : ∀ m, (w5.drewN m).heap[w.heap.size]? = some (.cells cs 51) := fun m => X1.out
        rw [← hCC] at HC
        have HSZ : (Tryd.prog.info? 51).map (·.size) = some CC.size := by rw [hCC]; kernel_rfl
        have HS2 : cs.size = CC.size := by
          obtain ⟨x0, x1, x2, x3, e⟩ := hst.out.form
          rw [e, hCC]; rfl
        have HO : CC.all (·.oneCell') = true := by rw [hCC]; exact four_one _ _ _ _
        have Z1 : ∀ m, Hid (Blk ((w5.drewN m).setRow w.heap.size CC) w.heap.size CC 51) := fun m => Lib.hid (setRow_heap _ _ _ _ _ _ (y1 m))
        have Z2 : ∀ m, Hid (TyB ((w5.drewN m).setRow w.heap.size CC) g a b F) := fun m => Lib.hid (by
          show ((w5.drewN m).setRow w.heap.size CC).heap[g]? = _
          rw [setRow_other _ _ _ _ (by omega)]; exact X2.out)
        have Z3 : ∀ m, Hid (Below w.heap.size w ((w5.drewN m).setRow w.heap.size CC)) := fun m => Lib.hid (below_setRow (below_drewN X3.out m) (Nat.le_refl _) _)
        have hcv : ((C : Int) + (V : Int)) = ((C + V : Nat) : Int) := by simp
        have HVL : Hid (valM a b i j k = C + V) := Lib.hid hval
        have HCV := Lib.hid hcv
        have hcv21 : C + V ≤ 21 := by omega
        clear hCC hval hvl hcv
        rcases fd with _ | _
        · have HSF := Lib.hid (hst.out.first HFIT.out rfl)
          rw [HVL.out, HC.out] at HSF
          go_quiet (fail)
          go_wp2_with (first | (refine wpList_load_row rfl 51 _ rfl gm rfl _ CC _ _ (y4 _) Tryd.underlying51 rfl HSZ ?_) | (refine wpList_store_row rfl 51 _ _ rfl w.heap.size CC rfl rfl _ _ (y1 _) HSZ HS2 HO ?_))
          go_roundw
          case rel => exact ⟨k + 1, true, C + V, CC, by omega, by go_num, rfl, by rw [← HCV.out], by omega, HSF, Z1 _, Z2 _, (Z3 _).out⟩
          case measure => simp [intOf]; omega
        · by_cases hlv : C + V < l
          · have gl : (C : Int) + (V : Int) < (l : Int) := by omega
            have HSF := Lib.hid (hst.out.less HFIT.out rfl (by rw [HVL.out]; exact hlv))
            rw [HVL.out, HC.out] at HSF
            go_quiet (fail)
            go_wp2_with (first | (refine wpList_load_row rfl 51 _ rfl gm rfl _ CC _ _ (y4 _) Tryd.underlying51 rfl HSZ ?_) | (refine wpList_store_row rfl 51 _ _ rfl w.heap.size CC rfl rfl _ _ (y1 _) HSZ HS2 HO ?_))
            go_roundw
            case rel => exact ⟨k + 1, true, C + V, CC, by omega, by go_num, rfl, by rw [← HCV.out], by omega, HSF, Z1 _, Z2 _, (Z3 _).out⟩
            case measure => simp [intOf]; omega
          · have gl : ¬ (C : Int) + (V : Int) < (l : Int) := by omega
            have HSF := Lib.hid (hst.out.more HFIT.out rfl (by rw [HVL.out]; exact hlv))
            go_quiet (fail)
            go_wp2_with fail
            go_roundw
            case rel => exact ⟨k + 1, true, l, cs, by omega, by go_num, rfl, rfl, hl, HSF, X1, X2, below_drewN X3.out _⟩
            case measure => simp [intOf]; omega
    · obtain rfl : k = 5 := by omega
      obtain ⟨e1, e2⟩ := hst.out.five hi hj
      obtain ⟨x0, x1, x2, x3, e3⟩ := hst.out.form
      have HE1 := Lib.hid e1
      have HE2 : Hid (bestA a b i j = #[.int .i32 x0, .int .i64 x1, .int .i64 x2, .int .i64 x3]) := Lib.hid (by rw [← e2, e3])
      have HBK := hbk.out
      rw [e3] at HBK
      have p0 := HBK.cell 0
      have p1 := HBK.cell 1
      have p2 := HBK.cell 2
      have p3 := HBK.cell 3
      have f0 := HBK.frozen 0
      have f1 := HBK.frozen 1
      have f2 := HBK.frozen 2
      have f3 := HBK.frozen 3
      have hlw := HBK.lt
      have HR : Hid (Blk (W.setRow w.heap.size #[.int .i32 x0, .int .i64 x1, .int .i64 x2, .int .i64 x3]) w.heap.size #[.int .i32 x0, .int .i64 x1, .int .i64 x2, .int .i64 x3] 51) := Lib.hid (setRow_heap _ _ _ _ _ _ HBK)
      have HBB : Hid (Below w.heap.size w (W.setRow w.heap.size #[.int .i32 x0, .int .i64 x1, .int .i64 x2, .int .i64 x3])) := Lib.hid (below_setRow hbel (Nat.le_refl _) _)
      have HSZ : (Tryd.prog.info? 51).map (·.size) = some (#[Value.int .i32 x0, .int .i64 x1, .int .i64 x2, .int .i64 x3] : Array Value).size := by kernel_rfl
      clear e1 e2 e3
      go_wp2_with (first | (refine wpList_load_row rfl 51 _ rfl w.heap.size rfl _ _ _ _ HBK Tryd.underlying51 rfl HSZ ?_) | (refine wpList_store_row rfl 51 _ _ rfl w.heap.size _ rfl rfl _ _ HBK HSZ rfl (four_one _ _ _ _) ?_))
      obtain ⟨w9, hw9⟩ : ∃ w9, w9 = W.setRow w.heap.size #[.int .i32 x0, .int .i64 x1, .int .i64 x2, .int .i64 x3] := ⟨_, rfl⟩
      rw [← hw9] at HR HBB
      rw [← hw9]
      have r0 := HR.out.cell 0
      have r1 := HR.out.cell 1
      have r2 := HR.out.cell 2
      have r3 := HR.out.cell 3
      refine bodyPost_ret (v := .tuple #[.agg #[.int .i32 x0, .int .i64 x1, .int .i64 x2, .int .i64 x3], .int .i64 (l : Int)]) (by simp [results, Tryd.results40, go_sem, r0, r1, r2, r3]) rfl ?_
      refine ⟨?_, HBB.out⟩
      rw [HE2.out, HE1.out]
end Go.Proofs.YtiegaebnlikjiaaDoor
