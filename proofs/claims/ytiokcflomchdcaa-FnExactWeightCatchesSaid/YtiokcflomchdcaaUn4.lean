/-
  Whether a pair is unseen: the program's.
-/
import Derived.Test.YtiokcflomchdcaaUn3
import Derived.Test.YtiokcflomchdcaaLast
import Derived.WalkArith
namespace Go.Proofs.Ytiokcflomchdcaa
open Go Go.RowKit

theorem row_part {W : World} {b s : Nat} {v0 v1 v2 : Int} (h : Blk W b #[.int .i64 v0, .int .i64 v1, .int .i64 v2] 165) (hs : s ≤ 3) (hw : ∀ d ∈ [v0, v1, v2].take s, 0 ≤ d ∧ d ≤ 35) : RowB .i64 W.heap.size W (some ⟨b, 0, none⟩) s ([v0, v1, v2].take s) := by
  have hl := h.lt
  have c0 := h.cell 0
  have c1 := h.cell 1
  have c2 := h.cell 2
  refine ⟨by simp; omega, by unfold maxLen; omega, fun z hz => by have := hw z hz; exact WalkArith.wf_i64 (by omega), fun _ => ⟨b, 0, rfl, hl, fun j hj => ?_⟩⟩
  match j, hj with
  | 0, hj =>
    have e : ([v0, v1, v2].take s).getD 0 0 = v0 := by
      match s, hj with
      | s + 1, _ => rfl
    rw [e]; simpa using c0
  | 1, hj =>
    have e : ([v0, v1, v2].take s).getD 1 0 = v1 := by
      match s, hj with
      | s + 2, _ => rfl
    rw [e]; simpa using c1
  | 2, hj =>
    have e : ([v0, v1, v2].take s).getD 2 0 = v2 := by
      match s, hj with
      | s + 3, _ => rfl
    rw [e]; simpa using c2
  | j + 3, hj => omega
theorem enter_single (args : Array Value) (W : World) : (callFunc 164 args).run Try.prog W = .ok (.enter 164 args) W := by kernel_rfl
theorem enter_swap (args : Array Value) (W : World) : (callFunc 165 args).run Try.prog W = .ok (.enter 165 args) W := by kernel_rfl
theorem enter_jump (args : Array Value) (W : World) : (callFunc 166 args).run Try.prog W = .ok (.enter 166 args) W := by kernel_rfl
theorem enter_twin (args : Array Value) (W : World) : (callFunc 167 args).run Try.prog W = .ok (.enter 167 args) W := by kernel_rfl
theorem enter_jumpTwin (args : Array Value) (W : World) : (callFunc 168 args).run Try.prog W = .ok (.enter 168 args) W := by kernel_rfl
theorem enter_phonetic (args : Array Value) (W : World) : (callFunc 169 args).run Try.prog W = .ok (.enter 169 args) W := by kernel_rfl
theorem enter_fn (k : Nat) (hk : k < 6) (args : Array Value) (W : World) : (callFunc (fnOf k) args).run Try.prog W = .ok (.enter (fnOf k) args) W := by
  match k, hk with
  | 0, _ => exact enter_single args W
  | 1, _ => exact enter_swap args W
  | 2, _ => exact enter_jump args W
  | 3, _ => exact enter_twin args W
  | 4, _ => exact enter_jumpTwin args W
  | 5, _ => exact enter_phonetic args W
set_option maxRecDepth 100000 in
set_option maxHeartbeats 8000000 in
theorem isUnseen_any {B : Nat} (x : Wt) (A : Option Addr) (n c : Nat) (w : World) (hr : RowB .i64 B w A n x.W) (hB : B ≤ w.heap.size) {bs m : Nat} (f : x.Fine bs m n) (k p : Nat) (hk : k < 6) (hp : p + sizeK k ≤ n) (a b : Int) (ha : 0 ≤ a ∧ a ≤ 35) (hb : 0 ≤ b ∧ b ≤ 35) :
    Calls Try.prog 122 #[wtV x A n c, .int .i64 k, .int .i64 p, .int .i64 a, .int .i64 b] w fun e w' => e = .returned (.bool (same x.W m p k a b)) ∧ Below w.heap.size w w' := by
  obtain ⟨base, modulus, target, W⟩ := x
  have HF : Hid ((⟨base, modulus, target, W⟩ : Wt).Fine bs m n) := Lib.hid f
  obtain ⟨w1, hw1⟩ : ∃ w1, w1 = w.alloc (.cells #[.int .i64 base, .int .i64 modulus, .int .i64 target, .slice A n c] 26) := ⟨_, rfl⟩
  have bel : Below w.heap.size w w1 := by rw [hw1]; exact (Below.refl _ w).alloc (Nat.le_refl _) _
  have b1 : Blk w1 w.heap.size #[.int .i64 base, .int .i64 modulus, .int .i64 target, .slice A n c] 26 := by rw [hw1]; exact Blk.new _ _ _
  obtain ⟨x1, x2, x3, y0, y1, y2, hpF, hpT, CH⟩ := change_any k hk a b w1
  have hmF : ∀ d ∈ [x1, x2, x3], 0 ≤ d ∧ d ≤ 35 := by rw [← hpF]; exact pF_mem ha hb
  have hmT : ∀ d ∈ [y0, y1, y2], 0 ≤ d ∧ d ≤ 35 := by rw [← hpT]; exact pT_mem ha hb
  have CP := partsOf_any k hk w1
  have CZ := fun W => sizeOf_any k W
  obtain ⟨hs1, hs3⟩ := sizeK_le k
  have HSM : Hid (same W m p k a b = decide (dot (W.drop p) ([x1, x2, x3].take (sizeK k)) % (m : Int) = dot (W.drop p) ([y0, y1, y2].take (sizeK k)) % (m : Int))) := Lib.hid (by unfold same; rw [hpF, hpT])
  generalize sizeK k = s at hp CZ hs1 hs3 HSM
  have HFN := Lib.hid (enter_fn k hk)
  generalize fnOf k = fk at CH CP HFN
  obtain ⟨d1, hd1⟩ : ∃ d1, d1 = dot (W.drop p) ([x1, x2, x3].take s) % (m : Int) := ⟨_, rfl⟩
  obtain ⟨d2, hd2⟩ : ∃ d2, d2 = dot (W.drop p) ([y0, y1, y2].take s) % (m : Int) := ⟨_, rfl⟩
  rw [← hd1, ← hd2] at HSM
  have HD1 := Lib.hid hd1
  have HD2 := Lib.hid hd2
  clear hd1 hd2
  have HX : Hid (∀ d ∈ [x1, x2, x3].take s, 0 ≤ d ∧ d ≤ 35) := Lib.hid (fun d hd => hmF d (List.mem_of_mem_take hd))
  have HY : Hid (∀ d ∈ [y0, y1, y2].take s, 0 ≤ d ∧ d ≤ 35) := Lib.hid (fun d hd => hmT d (List.mem_of_mem_take hd))
  have HR : Hid (RowB .i64 B w A n W) := Lib.hid hr
  have BW1 := Lib.hid bel
  have B1 := Lib.hid b1
  have LT1 := Lib.hid b1.lt
  have i1 : (0 : Int) ≤ (s : Int) := by omega
  have i2 : (s : Int) ≤ 3 := by omega
  have i3 : s ≤ 3 := hs3
  clear hpF hpT hmF hmT bel b1 hr f ha hb
  dsimp only
  go_enter Try.func122, Try.ntmps122
  go_wp2_with fail
  rw [← hw1]
  have HW1 := Lib.hid hw1
  clear hw1
  (go_at_call 151; (with_reducible refine (CP).mono ?_); rintro e w' ⟨rfl, rfl⟩)
  go_wp2_with fail
  rw [HFN.out, Oper.upon_enter]
  (with_reducible refine (CH).mono ?_)
  rintro e w2 ⟨rfl, be2⟩
  have BE2 := Lib.hid be2
  clear be2 CH CP
  go_wp2_with fail
  (go_at_call 69; (with_reducible refine (CZ _).mono ?_); rintro e w' ⟨rfl, rfl⟩)
  obtain ⟨w4, hw4⟩ : ∃ w4, w4 = (w2.alloc (.cells #[.int .i64 x1, .int .i64 x2, .int .i64 x3] 165)).alloc (.cells #[.int .i64 y0, .int .i64 y1, .int .i64 y2] 165) := ⟨_, rfl⟩
  rw [← hw4]
  have hb24 : Below w2.heap.size w2 w4 := by rw [hw4]; exact ((Below.refl _ w2).alloc (Nat.le_refl _) _).alloc (by simp) _
  have hkF : Blk w4 w2.heap.size #[.int .i64 x1, .int .i64 x2, .int .i64 x3] 165 := by rw [hw4]; exact (Blk.new _ _ _).alloc _
  have hkT : Blk w4 (w2.heap.size + 1) #[.int .i64 y0, .int .i64 y1, .int .i64 y2] 165 := by
    rw [hw4]
    have := Blk.new (w2.alloc (.cells #[.int .i64 x1, .int .i64 x2, .int .i64 x3] 165)) #[.int .i64 y0, .int .i64 y1, .int .i64 y2] 165
    simpa using this
  have HB4 : Hid (Below w1.heap.size w1 w4) := Lib.hid (BE2.out.trans (hb24.mono BE2.out.size))
  have s4 : w1.heap.size ≤ w4.heap.size := HB4.out.size
  have RF4 : Hid (RowB .i64 w4.heap.size w4 (some ⟨w2.heap.size, 0, none⟩) s ([x1, x2, x3].take s)) := Lib.hid (row_part hkF hs3 HX.out)
  have RT4 : Hid (RowB .i64 w4.heap.size w4 (some ⟨w2.heap.size + 1, 0, none⟩) s ([y0, y1, y2].take s)) := Lib.hid (row_part hkT hs3 HY.out)
  have RW4 : Hid (RowB .i64 B w4 A n W) := Lib.hid (HR.out.below ((BW1.out.trans (HB4.out.mono BW1.out.size)).mono hB))
  have HCE : Hid (∀ w' : World, Below w1.heap.size w1 w' → (w'.cell? ⟨w.heap.size, 0, none⟩ = some (.int .i64 base) ∧ w'.cell? ⟨w.heap.size, 1, none⟩ = some (.int .i64 modulus) ∧ w'.cell? ⟨w.heap.size, 2, none⟩ = some (.int .i64 target) ∧ w'.cell? ⟨w.heap.size, 3, none⟩ = some (.slice A n c))) := Lib.hid (fun w' h => by
    have hk := B1.out.below h LT1.out
    exact ⟨hk.cell 0, hk.cell 1, hk.cell 2, hk.cell 3⟩)
  have hS0 := HCE.out w4.drew (HB4.out.trans ((Below.refl _ w4).drew.mono s4))
  obtain ⟨z0, z1, z2, z3⟩ := HCE.out w4 HB4.out
  have hBw4 : B ≤ w4.heap.size := Nat.le_trans (Nat.le_trans hB BW1.out.size) s4
  have CS1 : Calls Try.prog 152 #[.agg #[.int .i64 base, .int .i64 modulus, .int .i64 target, .slice A n c], .int .i64 p, .slice (some ⟨w2.heap.size, 0, none⟩) s 3] w4.drew fun e w' => e = .returned (.int .i64 d1) ∧ Below w4.drew.heap.size w4.drew w' := by
    rw [HD1.out]
    exact sumFrom_any ⟨base, modulus, target, W⟩ A n c w4.drew (RW4.out.drewN 1) hBw4 HF.out p (some ⟨w2.heap.size, 0, none⟩) s 3 ([x1, x2, x3].take s) (RF4.out.drewN 1) (Nat.le_refl _) (by omega) HX.out
  clear hw4 hkF hkT hb24
  have h0s : ¬ (s : Int) < 0 := by omega
  have h3s : ¬ 3 < s := by omega
  go_wp2_with fail
  refine region_held_n 12 (fun w' => w'.cell? ⟨w.heap.size, 0, none⟩ = some (.int .i64 base) ∧ w'.cell? ⟨w.heap.size, 1, none⟩ = some (.int .i64 modulus) ∧ w'.cell? ⟨w.heap.size, 2, none⟩ = some (.int .i64 target) ∧ w'.cell? ⟨w.heap.size, 3, none⟩ = some (.slice A n c)) (by kernel_rfl) (by kernel_rfl) hS0 (fun hS => ?_)
  refine takeD 0 (some 25) (v := ?_) rfl (by kernel_rfl) (by kernel_rfl) (by kernel_rfl) (fun _ _ _ h => h) hS (fun o ho => Or.inl ⟨by cases ho; rfl, ?_⟩) ?_
  rotate_left
  · cases ho
    intro w' hw'
    (try dsimp only at hw')
    go_simp
    (try with_reducible rfl)
  (try simp only [Act.put, List.setIfInBounds_toArray, List.set_cons_zero, List.set_cons_succ])
  refine takeD 1 (some 26) (v := ?_) rfl (by kernel_rfl) (by kernel_rfl) (by kernel_rfl) (fun _ _ _ h => h) hS (fun o ho => Or.inl ⟨by cases ho; rfl, ?_⟩) ?_
  rotate_left
  · cases ho
    intro w' hw'
    (try dsimp only at hw')
    go_simp
    (try with_reducible rfl)
  (try simp only [Act.put, List.setIfInBounds_toArray, List.set_cons_zero, List.set_cons_succ])
  refine takeD 2 (some 27) (v := ?_) rfl (by kernel_rfl) (by kernel_rfl) (by kernel_rfl) (fun _ _ _ h => h) hS (fun o ho => Or.inl ⟨by cases ho; rfl, ?_⟩) ?_
  rotate_left
  · cases ho
    intro w' hw'
    (try dsimp only at hw')
    go_simp
    (try with_reducible rfl)
  (try simp only [Act.put, List.setIfInBounds_toArray, List.set_cons_zero, List.set_cons_succ])
  refine takeD 3 (some 28) (v := ?_) rfl (by kernel_rfl) (by kernel_rfl) (by kernel_rfl) (fun _ _ _ h => h) hS (fun o ho => Or.inl ⟨by cases ho; rfl, ?_⟩) ?_
  rotate_left
  · cases ho
    intro w' hw'
    (try dsimp only at hw')
    go_simp
    (try with_reducible rfl)
  (try simp only [Act.put, List.setIfInBounds_toArray, List.set_cons_zero, List.set_cons_succ])
  refine takeD 5 (some 30) (v := ?_) rfl (by kernel_rfl) (by kernel_rfl) (by kernel_rfl) (fun _ _ _ h => h) hS (fun o ho => Or.inl ⟨by cases ho; rfl, ?_⟩) ?_
  rotate_left
  · cases ho
    intro w' hw'
    (try dsimp only at hw')
    go_simp
    (try with_reducible rfl)
  (try simp only [Act.put, List.setIfInBounds_toArray, List.set_cons_zero, List.set_cons_succ])
  refine takeD 6 (some 31) (v := ?_) rfl (by kernel_rfl) (by kernel_rfl) (by kernel_rfl) (fun _ _ _ h => h) hS (fun o ho => Or.inl ⟨by cases ho; rfl, ?_⟩) ?_
  rotate_left
  · cases ho
    intro w' hw'
    (try dsimp only at hw')
    go_simp
    (try with_reducible rfl)
  (try simp only [Act.put, List.setIfInBounds_toArray, List.set_cons_zero, List.set_cons_succ])
  refine takeD 7 (some 32) (v := ?_) rfl (by kernel_rfl) (by kernel_rfl) (by kernel_rfl) (fun _ _ _ h => h) hS (fun o ho => Or.inl ⟨by cases ho; rfl, ?_⟩) ?_
  rotate_left
  · cases ho
    intro w' hw'
    (try dsimp only at hw')
    go_simp
    (try with_reducible rfl)
  (try simp only [Act.put, List.setIfInBounds_toArray, List.set_cons_zero, List.set_cons_succ])
  refine takeD 8 (some 33) (v := ?_) rfl (by kernel_rfl) (by kernel_rfl) (by kernel_rfl) (fun _ _ _ h => h) hS (fun o ho => Or.inl ⟨by cases ho; rfl, ?_⟩) ?_
  rotate_left
  · cases ho
    intro w' hw'
    (try dsimp only at hw')
    go_simp
    (try with_reducible rfl)
  (try simp only [Act.put, List.setIfInBounds_toArray, List.set_cons_zero, List.set_cons_succ])
  refine oneD 4 (some 29) (by kernel_rfl) rfl (fun o ho K hK hdo => ?_)
  simp only [List.getElem?_toArray, List.getElem?_cons_succ, List.getElem?_cons_zero, Option.some.injEq] at ho
  subst ho
  clear hdo
  rw [if_pos (by rfl)]
  go_wp2_with fail
  (go_at_call 152; (with_reducible refine (CS1).mono ?_); rintro e W5 ⟨rfl, be5⟩)
  have be5' : Below w4.heap.size w4 W5 := below_of_drew be5
  have hBw5 : B ≤ W5.heap.size := Nat.le_trans hBw4 be5'.size
  have CS2 : Calls Try.prog 152 #[.agg #[.int .i64 base, .int .i64 modulus, .int .i64 target, .slice A n c], .int .i64 p, .slice (some ⟨w2.heap.size + 1, 0, none⟩) s 3] W5 fun e w' => e = .returned (.int .i64 d2) ∧ Below W5.heap.size W5 w' := by
    rw [HD2.out]
    exact sumFrom_any ⟨base, modulus, target, W⟩ A n c W5 (RW4.out.below (be5'.mono hBw4)) hBw5 HF.out p (some ⟨w2.heap.size + 1, 0, none⟩) s 3 ([y0, y1, y2].take s) (RT4.out.below be5') be5'.size (by omega) HY.out
  clear be5
  refine hK.out _ _ ?_ (fun hS => ?_)
  · exact (HCE.out W5 (HB4.out.trans (be5'.mono s4)))
  clear hK K
  (try simp only [Act.put, List.setIfInBounds_toArray, List.set_cons_zero, List.set_cons_succ])
  refine oneD 9 (some 34) (by kernel_rfl) rfl (fun o ho K hK hdo => ?_)
  simp only [List.getElem?_toArray, List.getElem?_cons_succ, List.getElem?_cons_zero, Option.some.injEq] at ho
  subst ho
  clear hdo
  rw [if_pos (by rfl)]
  go_wp2_with fail
  (go_at_call 152; (with_reducible refine (CS2).mono ?_); rintro e W6 ⟨rfl, be6⟩)
  have HB6 : Hid (Below w.heap.size w W6) := Lib.hid (((BW1.out.trans (HB4.out.mono BW1.out.size)).trans (be5'.mono (Nat.le_trans BW1.out.size s4))).trans (be6.mono (Nat.le_trans (Nat.le_trans BW1.out.size s4) be5'.size)))
  refine hK.out _ _ ?_ (fun hS => ?_)
  · exact (HCE.out W6 ((HB4.out.trans (be5'.mono s4)).trans (be6.mono (Nat.le_trans s4 be5'.size))))
  clear hK K
  (try simp only [Act.put, List.setIfInBounds_toArray, List.set_cons_zero, List.set_cons_succ])
  refine takeD 10 (some 35) (v := ?_) rfl (by kernel_rfl) (by kernel_rfl) (by kernel_rfl) (fun _ _ _ h => h) hS (fun o ho => Or.inl ⟨by cases ho; rfl, ?_⟩) ?_
  rotate_left
  · cases ho
    intro w' hw'
    (try dsimp only at hw')
    go_simp
    (try with_reducible rfl)
  (try simp only [Act.put, List.setIfInBounds_toArray, List.set_cons_zero, List.set_cons_succ])
  refine takeD 11 (some 10) (v := ?_) rfl (by kernel_rfl) (by kernel_rfl) (by kernel_rfl) (fun _ _ _ h => h) hS (fun o ho => Or.inl ⟨by cases ho; rfl, ?_⟩) ?_
  rotate_left
  · cases ho
    intro w' hw'
    (try dsimp only at hw')
    go_simp
    (try with_reducible rfl)
  (try simp only [Act.put, List.setIfInBounds_toArray, List.set_cons_zero, List.set_cons_succ])
  refine wpAnyH_done (by kernel_rfl) ?_ _
  clear hS
  go_wp2_with fail
  go_ret
  exact ⟨ret_bool (by rw [HSM.out]; rfl), HB6.out⟩
end Go.Proofs.Ytiokcflomchdcaa
