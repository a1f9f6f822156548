/-
  ValidPermuting, of the model and of the program, and how a permuting that came in as an argument reads.
-/
import Derived.Test.YtakkehjfdeghoabPIs
import Derived.Test.YtakkehjfdeghoabOpen
namespace Go.Proofs.Ytakkehjfdeghoab
open Go.RowKit Go.ChangeShapes Go.WideShapes Go.ChangeAt Go.Deep

section
variable {H : Type} {enc : TypeId × Value → H} {w : World} {v : Value}
set_option maxRecDepth 100000 in
theorem open_permuting {base : Nat} {d : DataW H} {p : List MemPlace} (hv : Value.okWide Try.prog w .any base 61 v) (h : DataW.Trod enc Try.prog w 0 (fun _ => true) true 61 v d p) :
    ∃ x A n c, v = pmV x A n c ∧ Rows2 w.heap.size w A n x.O := by
  obtain ⟨cs, rfl, hsz⟩ := okWide_struct Try.underlying61 hv
  obtain ⟨fuel, hf⟩ := h
  obtain ⟨xs, n, _, _, hlen, hxl, hfs⟩ := DataW.trod_struct Try.underlying61 hf
  have hC : Try.prog.cellsOf 61 = 3 := by kernel_rfl
  have hc2 : Try.prog.cellsOf 2 = 1 := by kernel_rfl
  have hcP : Try.prog.cellsOf 34 = 1 := by kernel_rfl
  rw [hC] at hlen
  simp [Value.cells] at hlen
  obtain ⟨l⟩ := cs
  obtain ⟨v0, v1, v2, rfl⟩ : ∃ v0 v1 v2, l = [v0, v1, v2] := by
    match l, hlen with
    | [v0, v1, v2], _ => exact ⟨v0, v1, v2, rfl⟩
  obtain ⟨y0, y1, y2, rfl⟩ : ∃ y0 y1 y2, xs = [y0, y1, y2] := by
    match xs, hxl with
    | [y0, y1, y2], _ => exact ⟨y0, y1, y2, rfl⟩
  have f0 : DataW.trod enc Try.prog w 0 (fun _ => true) true n 2 (List.take (Try.prog.cellsOf 2) (List.drop 0 [v0, v1, v2])) = some y0 := hfs 0 _ rfl
  have f1 : DataW.trod enc Try.prog w 0 (fun _ => true) true n 2 (List.take (Try.prog.cellsOf 2) (List.drop 1 [v0, v1, v2])) = some y1 := hfs 1 _ rfl
  have f2 : DataW.trod enc Try.prog w 0 (fun _ => true) true n 34 (List.take (Try.prog.cellsOf 34) (List.drop 2 [v0, v1, v2])) = some y2 := hfs 2 _ rfl
  rw [hc2] at f0 f1
  rw [hcP] at f2
  simp only [List.drop, List.take] at f0 f1 f2
  obtain ⟨n0, e0, _⟩ := DataW.trod_int Try.underlying2 f0
  obtain ⟨n1, e1, _⟩ := DataW.trod_int Try.underlying2 f1
  obtain ⟨A, m, c, O, e3, _, r3⟩ := rows2_of_trod f2
  simp at e0 e1
  subst e0 e1 e3
  exact ⟨⟨n0, n1, O⟩, A, m, c, rfl, r3⟩
end
set_option maxHeartbeats 1000000 in
theorem specValidP_any {B : Nat} (x : Pm) (A : Option Addr) (n c : Nat) (w : World) (hr : Rows2 B w A n x.O) (hB : B ≤ w.heap.size) :
    Calls Try.prog 50 #[pmV x A n c] w fun e w' => e = .returned (.bool (pOk x)) ∧ Below w.heap.size w w' := by
  obtain ⟨w1, hw1⟩ : ∃ w1, w1 = w.alloc (.cells (pmCells x A n c) 64) := ⟨_, rfl⟩
  have bel : Below w.heap.size w w1 := by rw [hw1]; exact (Below.refl _ w).alloc (Nat.le_refl _) _
  have b1 : Blk w1 w.heap.size (pmCells x A n c) 64 := by rw [hw1]; exact Blk.new _ _ _
  have CC := l03Permuting_any x A n c w1 b1 (hr.below (bel.mono hB))
  have BEL := Lib.hid bel
  clear bel b1
  go_enter Try.func50, Try.ntmps50
  go_wp2_with fail
  rw [← hw1]
  have HW1 := Lib.hid hw1
  clear hw1
  (go_at_call 100; (with_reducible refine (CC).mono ?_); rintro e w2 ⟨rfl, m, rfl⟩)
  go_wp2_with fail
  go_ret
  exact ⟨rfl, below_drewN BEL.out _⟩
set_option maxHeartbeats 400000 in
theorem plen_any (x : Pm) (A : Option Addr) (n c : Nat) (w : World) (_ : n ≤ 9223372036854775807) :
    Calls Try.prog 127 #[pmV x A n c] w fun e w' => e = .returned (.int .i64 n) ∧ Below w.heap.size w w' := by
  go_enter Try.func127, Try.ntmps127
  go_wp2_with fail
  go_ret
  exact ⟨rfl, (Below.refl _ w).alloc (Nat.le_refl _) _⟩
theorem isOrd_base {base : Int} {o : List Int} (h1 : 2 ≤ base) (h2 : base ≤ 36) (h : (o.length : Int) = base) : isOrd o = ordB base o := by
  unfold isOrd ordB
  have e1 : decide (1 ≤ o.length ∧ o.length ≤ 36) = true := by simp; omega
  have e2 : decide ((o.length : Int) = base) = true := by simpa using h
  rw [e1, e2, h]
  simp
theorem ordB_len {base : Int} {o : List Int} (h : ¬ (o.length : Int) = base) : ordB base o = false := by
  unfold ordB
  simp [h]
set_option maxRecDepth 100000 in
set_option maxHeartbeats 4000000 in
theorem validP_any {B : Nat} (x : Pm) (A : Option Addr) (n c : Nat) (w : World) (hr : Rows2 B w A n x.O) (hB : B ≤ w.heap.size) :
    Calls Try.prog 101 #[pmV x A n c] w fun e w' => e = .returned (.bool (pOk x)) ∧ Below w.heap.size w w' := by
  have hl := hr.len
  have hn := hr.le
  obtain ⟨base, target, O⟩ := x
  dsimp only at hl hr
  have HOK : Hid (pOk ⟨base, target, O⟩ = (manyB base n && (inB target 0 (base - 1) && O.all (ordB base)))) := Lib.hid (by unfold pOk; dsimp only; rw [hl])
  obtain ⟨w1, hw1⟩ : ∃ w1, w1 = w.alloc (.cells #[.int .i64 base, .int .i64 target, .slice A n c] 64) := ⟨_, rfl⟩
  have bel : Below w.heap.size w w1 := by rw [hw1]; exact (Below.refl _ w).alloc (Nat.le_refl _) _
  have b1 : Blk w1 w.heap.size #[.int .i64 base, .int .i64 target, .slice A n c] 64 := by rw [hw1]; exact Blk.new _ _ _
  have HR1 := Lib.hid (Rows2.below hr (bel.mono hB))
  have c0 : w1.cell? ⟨w.heap.size, 0, none⟩ = some (.int .i64 base) := b1.cell 0
  have c1 : w1.cell? ⟨w.heap.size, 1, none⟩ = some (.int .i64 target) := b1.cell 1
  have c2 : w1.cell? ⟨w.heap.size, 2, none⟩ = some (.slice A n c) := b1.cell 2
  have CL : Calls Try.prog 127 #[.agg #[.int .i64 base, .int .i64 target, .slice A n c]] w1.drew fun e w' => e = .returned (.int .i64 n) ∧ Below w1.drew.heap.size w1.drew w' := plen_any ⟨base, target, O⟩ A n c w1.drew hn
  have C1 : ∀ Y, Calls Try.prog 104 #[.int .i64 base, .int .i64 n] Y fun e w' => e = .returned (.bool (manyB base n)) ∧ Y = w' := fun Y => wordLimit_any _ _ Y (by unfold maxLen; omega)
  have C3 : ∀ Y, Calls Try.prog 75 #[.int .i64 target, .int .i64 0, .int .i64 (base - 1)] Y fun e w' => e = .returned (.bool (inB target 0 (base - 1))) ∧ Y = w' := fun Y => within_any _ _ _ Y
  have lt1 := b1.lt
  have BEL := Lib.hid bel
  have BLK := Lib.hid b1
  have LT1 := Lib.hid lt1
  clear bel b1 hr hl lt1
  rcases h1 : manyB base n with _ | _
  · rw [h1] at C1 HOK
    clear h1 C3
    go_enter Try.func101, Try.ntmps101
    go_wp2_with fail
    rw [← hw1]
    have HW1 := Lib.hid hw1
    clear hw1
    refine region_held_n 15 (fun w' => w'.cell? ⟨w.heap.size, 0, none⟩ = some (.int .i64 base) ∧ w'.cell? ⟨w.heap.size, 1, none⟩ = some (.int .i64 target) ∧ w'.cell? ⟨w.heap.size, 2, none⟩ = some (.slice A n c)) (by kernel_rfl) (by kernel_rfl) ⟨c0, c1, c2⟩ (fun hS => ?_)
    refine takeD 0 (some 5) (v := ?_) rfl (by kernel_rfl) (by kernel_rfl) (by kernel_rfl) (fun _ _ _ h => h) hS (fun o ho => Or.inl ⟨by cases ho; rfl, ?_⟩) ?_
    rotate_left
    · cases ho
      intro w' hw'
      (try dsimp only at hw')
      go_simp
      (try with_reducible rfl)
    (try simp only [Act.put, List.setIfInBounds_toArray, List.set_cons_zero, List.set_cons_succ])
    refine takeD 1 (some 6) (v := ?_) rfl (by kernel_rfl) (by kernel_rfl) (by kernel_rfl) (fun _ _ _ h => h) hS (fun o ho => Or.inl ⟨by cases ho; rfl, ?_⟩) ?_
    rotate_left
    · cases ho
      intro w' hw'
      (try dsimp only at hw')
      go_simp
      (try with_reducible rfl)
    (try simp only [Act.put, List.setIfInBounds_toArray, List.set_cons_zero, List.set_cons_succ])
    refine takeD 2 (some 7) (v := ?_) rfl (by kernel_rfl) (by kernel_rfl) (by kernel_rfl) (fun _ _ _ h => h) hS (fun o ho => Or.inl ⟨by cases ho; rfl, ?_⟩) ?_
    rotate_left
    · cases ho
      intro w' hw'
      (try dsimp only at hw')
      go_simp
      (try with_reducible rfl)
    (try simp only [Act.put, List.setIfInBounds_toArray, List.set_cons_zero, List.set_cons_succ])
    refine oneD 3 (some 8) (by kernel_rfl) rfl (fun o ho K hK hdo => ?_)
    simp only [List.getElem?_toArray, List.getElem?_cons_succ, List.getElem?_cons_zero, Option.some.injEq] at ho
    subst ho
    clear hdo
    rw [if_pos (by rfl)]
    go_wp2_with ((go_at_call 127; (with_reducible refine (CL).mono ?_); rintro e w2 ⟨rfl, be2⟩))
    have be2 := below_of_drew be2
    have k0 := (be2.cell (p := ⟨w.heap.size, 0, none⟩) LT1.out).trans c0
    have k1 := (be2.cell (p := ⟨w.heap.size, 1, none⟩) LT1.out).trans c1
    have k2 := (be2.cell (p := ⟨w.heap.size, 2, none⟩) LT1.out).trans c2
    have BE2 := Lib.hid be2
    clear be2 CL
    refine hK.out _ _ ?_ (fun hS => ?_)
    · exact ⟨k0, k1, k2⟩
    clear hK K
    (try simp only [Act.put, List.setIfInBounds_toArray, List.set_cons_zero, List.set_cons_succ])
    refine oneD 4 (some 9) (by kernel_rfl) rfl (fun o ho K hK hdo => ?_)
    simp only [List.getElem?_toArray, List.getElem?_cons_succ, List.getElem?_cons_zero, Option.some.injEq] at ho
    subst ho
    clear hdo
    rw [if_pos (by rfl)]
    go_wp2_with ((go_at_call 104; (with_reducible refine (C1 _).mono ?_); rintro e w' ⟨rfl, rfl⟩))
    refine hK.out _ _ ?_ (fun hS => ?_)
    · exact ⟨k0, k1, k2⟩
    clear hK K
    (try simp only [Act.put, List.setIfInBounds_toArray, List.set_cons_zero, List.set_cons_succ])
    refine takeD 5 (some 10) (v := ?_) rfl (by kernel_rfl) (by kernel_rfl) (by kernel_rfl) (fun _ _ _ h => h) hS (fun o ho => Or.inl ⟨by cases ho; rfl, ?_⟩) ?_
    rotate_left
    · cases ho
      intro w' hw'
      (try dsimp only at hw')
      go_simp
      (try with_reducible rfl)
    (try simp only [Act.put, List.setIfInBounds_toArray, List.set_cons_zero, List.set_cons_succ])
    refine takeD 6 (some 11) (v := ?_) rfl (by kernel_rfl) (by kernel_rfl) (by kernel_rfl) (fun _ _ _ h => h) hS (fun o ho => Or.inl ⟨by cases ho; rfl, ?_⟩) ?_
    rotate_left
    · cases ho
      intro w' hw'
      (try dsimp only at hw')
      go_simp
      (try with_reducible rfl)
    (try simp only [Act.put, List.setIfInBounds_toArray, List.set_cons_zero, List.set_cons_succ])
    refine takeD 7 (some 12) (v := undef) rfl (by kernel_rfl) (by kernel_rfl) (by kernel_rfl) (fun _ _ _ h => h) hS (fun o ho => Or.inr ⟨by cases ho; rfl, rfl⟩) ?_
    (try simp only [Act.put, List.setIfInBounds_toArray, List.set_cons_zero, List.set_cons_succ])
    refine takeD 8 (some 13) (v := undef) rfl (by kernel_rfl) (by kernel_rfl) (by kernel_rfl) (fun _ _ _ h => h) hS (fun o ho => Or.inr ⟨by cases ho; rfl, rfl⟩) ?_
    (try simp only [Act.put, List.setIfInBounds_toArray, List.set_cons_zero, List.set_cons_succ])
    refine takeD 9 (some 14) (v := undef) rfl (by kernel_rfl) (by kernel_rfl) (by kernel_rfl) (fun _ _ _ h => h) hS (fun o ho => Or.inr ⟨by cases ho; rfl, rfl⟩) ?_
    (try simp only [Act.put, List.setIfInBounds_toArray, List.set_cons_zero, List.set_cons_succ])
    refine takeD 10 (some 15) (v := undef) rfl (by kernel_rfl) (by kernel_rfl) (by kernel_rfl) (fun _ _ _ h => h) hS (fun o ho => Or.inr ⟨by cases ho; rfl, rfl⟩) ?_
    (try simp only [Act.put, List.setIfInBounds_toArray, List.set_cons_zero, List.set_cons_succ])
    refine takeD 11 (some 16) (v := undef) rfl (by kernel_rfl) (by kernel_rfl) (by kernel_rfl) (fun _ _ _ h => h) hS (fun o ho => Or.inr ⟨by cases ho; rfl, rfl⟩) ?_
    (try simp only [Act.put, List.setIfInBounds_toArray, List.set_cons_zero, List.set_cons_succ])
    refine takeD 12 (some 17) (v := undef) rfl (by kernel_rfl) (by kernel_rfl) (by kernel_rfl) (fun _ _ _ h => h) hS (fun o ho => Or.inr ⟨by cases ho; rfl, rfl⟩) ?_
    (try simp only [Act.put, List.setIfInBounds_toArray, List.set_cons_zero, List.set_cons_succ])
    refine takeD 13 (some 18) (v := undef) rfl (by kernel_rfl) (by kernel_rfl) (by kernel_rfl) (fun _ _ _ h => h) hS (fun o ho => Or.inr ⟨by cases ho; rfl, rfl⟩) ?_
    (try simp only [Act.put, List.setIfInBounds_toArray, List.set_cons_zero, List.set_cons_succ])
    refine takeD 14 (some 19) (v := ?_) rfl (by kernel_rfl) (by kernel_rfl) (by kernel_rfl) (fun _ _ _ h => h) hS (fun o ho => Or.inl ⟨by cases ho; rfl, ?_⟩) ?_
    rotate_left
    · cases ho
      intro w' hw'
      (try dsimp only at hw')
      go_simp
      (try with_reducible rfl)
    (try simp only [Act.put, List.setIfInBounds_toArray, List.set_cons_zero, List.set_cons_succ])
    refine wpAnyH_done (by kernel_rfl) ?_ _
    clear hS
    go_wp2_with fail
    go_ret
    exact ⟨ret_bool (by rw [HOK.out]; rfl), BEL.out.trans (BE2.out.mono (Nat.le_of_lt LT1.out))⟩
  · rw [h1] at C1 HOK
    have hbn : 2 ≤ base ∧ base ≤ 36 ∧ 1 ≤ n ∧ n ≤ 20 := by
      unfold manyB at h1
      simp only [Bool.and_eq_true, inB_true] at h1
      omega
    clear h1
    rcases h2 : inB target 0 (base - 1) with _ | _
    · rw [h2] at C3 HOK
      clear h2
      go_enter Try.func101, Try.ntmps101
      go_wp2_with fail
      rw [← hw1]
      have HW1 := Lib.hid hw1
      clear hw1
      refine region_held_n 15 (fun w' => w'.cell? ⟨w.heap.size, 0, none⟩ = some (.int .i64 base) ∧ w'.cell? ⟨w.heap.size, 1, none⟩ = some (.int .i64 target) ∧ w'.cell? ⟨w.heap.size, 2, none⟩ = some (.slice A n c)) (by kernel_rfl) (by kernel_rfl) ⟨c0, c1, c2⟩ (fun hS => ?_)
      refine takeD 0 (some 5) (v := ?_) rfl (by kernel_rfl) (by kernel_rfl) (by kernel_rfl) (fun _ _ _ h => h) hS (fun o ho => Or.inl ⟨by cases ho; rfl, ?_⟩) ?_
      rotate_left
      · cases ho
        intro w' hw'
        (try dsimp only at hw')
        go_simp
        (try with_reducible rfl)
      (try simp only [Act.put, List.setIfInBounds_toArray, List.set_cons_zero, List.set_cons_succ])
      refine takeD 1 (some 6) (v := ?_) rfl (by kernel_rfl) (by kernel_rfl) (by kernel_rfl) (fun _ _ _ h => h) hS (fun o ho => Or.inl ⟨by cases ho; rfl, ?_⟩) ?_
      rotate_left
      · cases ho
        intro w' hw'
        (try dsimp only at hw')
        go_simp
        (try with_reducible rfl)
      (try simp only [Act.put, List.setIfInBounds_toArray, List.set_cons_zero, List.set_cons_succ])
      refine takeD 2 (some 7) (v := ?_) rfl (by kernel_rfl) (by kernel_rfl) (by kernel_rfl) (fun _ _ _ h => h) hS (fun o ho => Or.inl ⟨by cases ho; rfl, ?_⟩) ?_
      rotate_left
      · cases ho
        intro w' hw'
        (try dsimp only at hw')
        go_simp
        (try with_reducible rfl)
      (try simp only [Act.put, List.setIfInBounds_toArray, List.set_cons_zero, List.set_cons_succ])
      refine oneD 3 (some 8) (by kernel_rfl) rfl (fun o ho K hK hdo => ?_)
      simp only [List.getElem?_toArray, List.getElem?_cons_succ, List.getElem?_cons_zero, Option.some.injEq] at ho
      subst ho
      clear hdo
      rw [if_pos (by rfl)]
      go_wp2_with ((go_at_call 127; (with_reducible refine (CL).mono ?_); rintro e w2 ⟨rfl, be2⟩))
      have be2 := below_of_drew be2
      have k0 := (be2.cell (p := ⟨w.heap.size, 0, none⟩) LT1.out).trans c0
      have k1 := (be2.cell (p := ⟨w.heap.size, 1, none⟩) LT1.out).trans c1
      have k2 := (be2.cell (p := ⟨w.heap.size, 2, none⟩) LT1.out).trans c2
      have BE2 := Lib.hid be2
      clear be2 CL
      refine hK.out _ _ ?_ (fun hS => ?_)
      · exact ⟨k0, k1, k2⟩
      clear hK K
      (try simp only [Act.put, List.setIfInBounds_toArray, List.set_cons_zero, List.set_cons_succ])
      refine oneD 4 (some 9) (by kernel_rfl) rfl (fun o ho K hK hdo => ?_)
      simp only [List.getElem?_toArray, List.getElem?_cons_succ, List.getElem?_cons_zero, Option.some.injEq] at ho
      subst ho
      clear hdo
      rw [if_pos (by rfl)]
      go_wp2_with ((go_at_call 104; (with_reducible refine (C1 _).mono ?_); rintro e w' ⟨rfl, rfl⟩))
      refine hK.out _ _ ?_ (fun hS => ?_)
      · exact ⟨k0, k1, k2⟩
      clear hK K
      (try simp only [Act.put, List.setIfInBounds_toArray, List.set_cons_zero, List.set_cons_succ])
      refine takeD 5 (some 10) (v := ?_) rfl (by kernel_rfl) (by kernel_rfl) (by kernel_rfl) (fun _ _ _ h => h) hS (fun o ho => Or.inl ⟨by cases ho; rfl, ?_⟩) ?_
      rotate_left
      · cases ho
        intro w' hw'
        (try dsimp only at hw')
        go_simp
        (try with_reducible rfl)
      (try simp only [Act.put, List.setIfInBounds_toArray, List.set_cons_zero, List.set_cons_succ])
      refine takeD 6 (some 11) (v := ?_) rfl (by kernel_rfl) (by kernel_rfl) (by kernel_rfl) (fun _ _ _ h => h) hS (fun o ho => Or.inl ⟨by cases ho; rfl, ?_⟩) ?_
      rotate_left
      · cases ho
        intro w' hw'
        (try dsimp only at hw')
        go_simp
        (try with_reducible rfl)
      (try simp only [Act.put, List.setIfInBounds_toArray, List.set_cons_zero, List.set_cons_succ])
      refine takeD 7 (some 12) (v := ?_) rfl (by kernel_rfl) (by kernel_rfl) (by kernel_rfl) (fun _ _ _ h => h) hS (fun o ho => Or.inl ⟨by cases ho; rfl, ?_⟩) ?_
      rotate_left
      · cases ho
        intro w' hw'
        (try dsimp only at hw')
        go_simp
        (try with_reducible rfl)
      (try simp only [Act.put, List.setIfInBounds_toArray, List.set_cons_zero, List.set_cons_succ])
      refine takeD 8 (some 13) (v := ?_) rfl (by kernel_rfl) (by kernel_rfl) (by kernel_rfl) (fun _ _ _ h => h) hS (fun o ho => Or.inl ⟨by cases ho; rfl, ?_⟩) ?_
      rotate_left
      · cases ho
        intro w' hw'
        (try dsimp only at hw')
        go_simp
        (try with_reducible rfl)
      (try simp only [Act.put, List.setIfInBounds_toArray, List.set_cons_zero, List.set_cons_succ])
      refine takeD 9 (some 14) (v := ?_) rfl (by kernel_rfl) (by kernel_rfl) (by kernel_rfl) (fun _ _ _ h => h) hS (fun o ho => Or.inl ⟨by cases ho; rfl, ?_⟩) ?_
      rotate_left
      · cases ho
        intro w' hw'
        (try dsimp only at hw')
        go_simp
        (try with_reducible rfl)
      (try simp only [Act.put, List.setIfInBounds_toArray, List.set_cons_zero, List.set_cons_succ])
      refine takeD 10 (some 15) (v := ?_) rfl (by kernel_rfl) (by kernel_rfl) (by kernel_rfl) (fun _ _ _ h => h) hS (fun o ho => Or.inl ⟨by cases ho; rfl, ?_⟩) ?_
      rotate_left
      · cases ho
        intro w' hw'
        (try dsimp only at hw')
        go_simp
        (try with_reducible rfl)
      (try simp only [Act.put, List.setIfInBounds_toArray, List.set_cons_zero, List.set_cons_succ])
      refine takeD 11 (some 16) (v := ?_) rfl (by kernel_rfl) (by kernel_rfl) (by kernel_rfl) (fun _ _ _ h => h) hS (fun o ho => Or.inl ⟨by cases ho; rfl, ?_⟩) ?_
      rotate_left
      · cases ho
        intro w' hw'
        (try dsimp only at hw')
        go_simp
        (try with_reducible rfl)
      (try simp only [Act.put, List.setIfInBounds_toArray, List.set_cons_zero, List.set_cons_succ])
      refine oneD 12 (some 17) (by kernel_rfl) rfl (fun o ho K hK hdo => ?_)
      simp only [List.getElem?_toArray, List.getElem?_cons_succ, List.getElem?_cons_zero, Option.some.injEq] at ho
      subst ho
      clear hdo
      rw [if_pos (by rfl)]
      go_wp2_with ((go_at_call 75; (with_reducible refine (C3 _).mono ?_); rintro e w' ⟨rfl, rfl⟩))
      refine hK.out _ _ ?_ (fun hS => ?_)
      · exact ⟨k0, k1, k2⟩
      clear hK K
      (try simp only [Act.put, List.setIfInBounds_toArray, List.set_cons_zero, List.set_cons_succ])
      refine takeD 13 (some 18) (v := ?_) rfl (by kernel_rfl) (by kernel_rfl) (by kernel_rfl) (fun _ _ _ h => h) hS (fun o ho => Or.inl ⟨by cases ho; rfl, ?_⟩) ?_
      rotate_left
      · cases ho
        intro w' hw'
        (try dsimp only at hw')
        go_simp
        (try with_reducible rfl)
      (try simp only [Act.put, List.setIfInBounds_toArray, List.set_cons_zero, List.set_cons_succ])
      refine takeD 14 (some 19) (v := ?_) rfl (by kernel_rfl) (by kernel_rfl) (by kernel_rfl) (fun _ _ _ h => h) hS (fun o ho => Or.inl ⟨by cases ho; rfl, ?_⟩) ?_
      rotate_left
      · cases ho
        intro w' hw'
        (try dsimp only at hw')
        go_simp
        (try with_reducible rfl)
      (try simp only [Act.put, List.setIfInBounds_toArray, List.set_cons_zero, List.set_cons_succ])
      refine wpAnyH_done (by kernel_rfl) ?_ _
      clear hS
      go_wp2_with fail
      go_ret
      exact ⟨ret_bool (by rw [HOK.out]; rfl), BEL.out.trans (BE2.out.mono (Nat.le_of_lt LT1.out))⟩
    · rw [h2] at C3 HOK
      clear h2
      go_enter Try.func101, Try.ntmps101
      go_wp2_with fail
      rw [← hw1]
      have HW1 := Lib.hid hw1
      clear hw1
      refine region_held_n 15 (fun w' => w'.cell? ⟨w.heap.size, 0, none⟩ = some (.int .i64 base) ∧ w'.cell? ⟨w.heap.size, 1, none⟩ = some (.int .i64 target) ∧ w'.cell? ⟨w.heap.size, 2, none⟩ = some (.slice A n c)) (by kernel_rfl) (by kernel_rfl) ⟨c0, c1, c2⟩ (fun hS => ?_)
      refine takeD 0 (some 5) (v := ?_) rfl (by kernel_rfl) (by kernel_rfl) (by kernel_rfl) (fun _ _ _ h => h) hS (fun o ho => Or.inl ⟨by cases ho; rfl, ?_⟩) ?_
      rotate_left
      · cases ho
        intro w' hw'
        (try dsimp only at hw')
        go_simp
        (try with_reducible rfl)
      (try simp only [Act.put, List.setIfInBounds_toArray, List.set_cons_zero, List.set_cons_succ])
      refine takeD 1 (some 6) (v := ?_) rfl (by kernel_rfl) (by kernel_rfl) (by kernel_rfl) (fun _ _ _ h => h) hS (fun o ho => Or.inl ⟨by cases ho; rfl, ?_⟩) ?_
      rotate_left
      · cases ho
        intro w' hw'
        (try dsimp only at hw')
        go_simp
        (try with_reducible rfl)
      (try simp only [Act.put, List.setIfInBounds_toArray, List.set_cons_zero, List.set_cons_succ])
      refine takeD 2 (some 7) (v := ?_) rfl (by kernel_rfl) (by kernel_rfl) (by kernel_rfl) (fun _ _ _ h => h) hS (fun o ho => Or.inl ⟨by cases ho; rfl, ?_⟩) ?_
      rotate_left
      · cases ho
        intro w' hw'
        (try dsimp only at hw')
        go_simp
        (try with_reducible rfl)
      (try simp only [Act.put, List.setIfInBounds_toArray, List.set_cons_zero, List.set_cons_succ])
      refine oneD 3 (some 8) (by kernel_rfl) rfl (fun o ho K hK hdo => ?_)
      simp only [List.getElem?_toArray, List.getElem?_cons_succ, List.getElem?_cons_zero, Option.some.injEq] at ho
      subst ho
      clear hdo
      rw [if_pos (by rfl)]
      go_wp2_with ((go_at_call 127; (with_reducible refine (CL).mono ?_); rintro e w2 ⟨rfl, be2⟩))
      have be2 := below_of_drew be2
      have k0 := (be2.cell (p := ⟨w.heap.size, 0, none⟩) LT1.out).trans c0
      have k1 := (be2.cell (p := ⟨w.heap.size, 1, none⟩) LT1.out).trans c1
      have k2 := (be2.cell (p := ⟨w.heap.size, 2, none⟩) LT1.out).trans c2
      have BE2 := Lib.hid be2
      clear be2 CL
      refine hK.out _ _ ?_ (fun hS => ?_)
      · exact ⟨k0, k1, k2⟩
      clear hK K
      (try simp only [Act.put, List.setIfInBounds_toArray, List.set_cons_zero, List.set_cons_succ])
      refine oneD 4 (some 9) (by kernel_rfl) rfl (fun o ho K hK hdo => ?_)
      simp only [List.getElem?_toArray, List.getElem?_cons_succ, List.getElem?_cons_zero, Option.some.injEq] at ho
      subst ho
      clear hdo
      rw [if_pos (by rfl)]
      go_wp2_with ((go_at_call 104; (with_reducible refine (C1 _).mono ?_); rintro e w' ⟨rfl, rfl⟩))
      refine hK.out _ _ ?_ (fun hS => ?_)
      · exact ⟨k0, k1, k2⟩
      clear hK K
      (try simp only [Act.put, List.setIfInBounds_toArray, List.set_cons_zero, List.set_cons_succ])
      refine takeD 5 (some 10) (v := ?_) rfl (by kernel_rfl) (by kernel_rfl) (by kernel_rfl) (fun _ _ _ h => h) hS (fun o ho => Or.inl ⟨by cases ho; rfl, ?_⟩) ?_
      rotate_left
      · cases ho
        intro w' hw'
        (try dsimp only at hw')
        go_simp
        (try with_reducible rfl)
      (try simp only [Act.put, List.setIfInBounds_toArray, List.set_cons_zero, List.set_cons_succ])
      refine takeD 6 (some 11) (v := ?_) rfl (by kernel_rfl) (by kernel_rfl) (by kernel_rfl) (fun _ _ _ h => h) hS (fun o ho => Or.inl ⟨by cases ho; rfl, ?_⟩) ?_
      rotate_left
      · cases ho
        intro w' hw'
        (try dsimp only at hw')
        go_simp
        (try with_reducible rfl)
      (try simp only [Act.put, List.setIfInBounds_toArray, List.set_cons_zero, List.set_cons_succ])
      refine takeD 7 (some 12) (v := ?_) rfl (by kernel_rfl) (by kernel_rfl) (by kernel_rfl) (fun _ _ _ h => h) hS (fun o ho => Or.inl ⟨by cases ho; rfl, ?_⟩) ?_
      rotate_left
      · cases ho
        intro w' hw'
        (try dsimp only at hw')
        go_simp
        (try with_reducible rfl)
      (try simp only [Act.put, List.setIfInBounds_toArray, List.set_cons_zero, List.set_cons_succ])
      refine takeD 8 (some 13) (v := ?_) rfl (by kernel_rfl) (by kernel_rfl) (by kernel_rfl) (fun _ _ _ h => h) hS (fun o ho => Or.inl ⟨by cases ho; rfl, ?_⟩) ?_
      rotate_left
      · cases ho
        intro w' hw'
        (try dsimp only at hw')
        go_simp
        (try with_reducible rfl)
      (try simp only [Act.put, List.setIfInBounds_toArray, List.set_cons_zero, List.set_cons_succ])
      refine takeD 9 (some 14) (v := ?_) rfl (by kernel_rfl) (by kernel_rfl) (by kernel_rfl) (fun _ _ _ h => h) hS (fun o ho => Or.inl ⟨by cases ho; rfl, ?_⟩) ?_
      rotate_left
      · cases ho
        intro w' hw'
        (try dsimp only at hw')
        go_simp
        (try with_reducible rfl)
      (try simp only [Act.put, List.setIfInBounds_toArray, List.set_cons_zero, List.set_cons_succ])
      refine takeD 10 (some 15) (v := ?_) rfl (by kernel_rfl) (by kernel_rfl) (by kernel_rfl) (fun _ _ _ h => h) hS (fun o ho => Or.inl ⟨by cases ho; rfl, ?_⟩) ?_
      rotate_left
      · cases ho
        intro w' hw'
        (try dsimp only at hw')
        go_simp
        (try with_reducible rfl)
      (try simp only [Act.put, List.setIfInBounds_toArray, List.set_cons_zero, List.set_cons_succ])
      refine takeD 11 (some 16) (v := ?_) rfl (by kernel_rfl) (by kernel_rfl) (by kernel_rfl) (fun _ _ _ h => h) hS (fun o ho => Or.inl ⟨by cases ho; rfl, ?_⟩) ?_
      rotate_left
      · cases ho
        intro w' hw'
        (try dsimp only at hw')
        go_simp
        (try with_reducible rfl)
      (try simp only [Act.put, List.setIfInBounds_toArray, List.set_cons_zero, List.set_cons_succ])
      refine oneD 12 (some 17) (by kernel_rfl) rfl (fun o ho K hK hdo => ?_)
      simp only [List.getElem?_toArray, List.getElem?_cons_succ, List.getElem?_cons_zero, Option.some.injEq] at ho
      subst ho
      clear hdo
      rw [if_pos (by rfl)]
      go_wp2_with ((go_at_call 75; (with_reducible refine (C3 _).mono ?_); rintro e w' ⟨rfl, rfl⟩))
      refine hK.out _ _ ?_ (fun hS => ?_)
      · exact ⟨k0, k1, k2⟩
      clear hK K
      (try simp only [Act.put, List.setIfInBounds_toArray, List.set_cons_zero, List.set_cons_succ])
      refine takeD 13 (some 18) (v := ?_) rfl (by kernel_rfl) (by kernel_rfl) (by kernel_rfl) (fun _ _ _ h => h) hS (fun o ho => Or.inl ⟨by cases ho; rfl, ?_⟩) ?_
      rotate_left
      · cases ho
        intro w' hw'
        (try dsimp only at hw')
        go_simp
        (try with_reducible rfl)
      (try simp only [Act.put, List.setIfInBounds_toArray, List.set_cons_zero, List.set_cons_succ])
      refine takeD 14 (some 19) (v := ?_) rfl (by kernel_rfl) (by kernel_rfl) (by kernel_rfl) (fun _ _ _ h => h) hS (fun o ho => Or.inl ⟨by cases ho; rfl, ?_⟩) ?_
      rotate_left
      · cases ho
        intro w' hw'
        (try dsimp only at hw')
        go_simp
        (try with_reducible rfl)
      (try simp only [Act.put, List.setIfInBounds_toArray, List.set_cons_zero, List.set_cons_succ])
      refine wpAnyH_done (by kernel_rfl) ?_ _
      clear hS
      clear C1 C3
      have LT2 : Hid (w.heap.size < w2.heap.size) := Lib.hid (Nat.lt_of_lt_of_le LT1.out BE2.out.size)
      have BEL2 : Hid (Below w.heap.size w w2) := Lib.hid (BEL.out.trans (BE2.out.mono (Nat.le_of_lt LT1.out)))
      have BLK2 := Lib.hid (BLK.out.below BE2.out LT1.out)
      have R2 := Lib.hid (Rows2.below HR1.out (BE2.out.mono (Nat.le_trans hB BEL.out.size)))
      go_wp2_with fail
      go_loopw [4, 23] (fun _ i wr => ∃ k : Nat, k ≤ n ∧ i = .int .i64 k ∧ Hid ((O.take k).all (ordB base) = true) ∧ Hid (Below w2.heap.size w2 wr)) (fun _ i _ => n - (intOf i).toNat)
      case atStart => exact ⟨0, by omega, rfl, Lib.hid (by simp), Lib.hid (Below.refl _ _)⟩
      case round =>
        obtain ⟨k, hk, rfl, hall, hbw⟩ := hrel
        obtain ⟨W, rfl⟩ : ∃ W, W = wr := ⟨_, rfl⟩
        have bel3 : Below w.heap.size w W := BEL2.out.trans (hbw.out.mono (Nat.le_of_lt LT2.out))
        have BEL3 := Lib.hid bel3
        have d0 : W.cell? ⟨w.heap.size, 0, none⟩ = some (.int .i64 base) := (BLK2.out.below hbw.out LT2.out).cell 0
        have rW := Rows2.below R2.out (hbw.out.mono (Nat.le_trans hB BEL2.out.size))
        clear bel3
        by_cases hlt : k < n
        · obtain ⟨bA, oA, Aj, nj, cj, zs, rfl, _, hz, hc, hcap, hrow⟩ := rW.2.2 k hlt
          have hlj := hrow.len
          have HZ := Lib.hid hz
          have HLJ := Lib.hid hlj
          have hnj := hrow.le
          by_cases hlen : (nj : Int) = base
          · have g2 : ((nj : Int) != base) = false := by simpa using hlen
            have CO := implIsOrder_any Aj nj cj zs W (hrow.up (Nat.le_trans hB BEL3.out.size))
            rw [isOrd_base (base := base) hbn.1 hbn.2.1 (by rw [hlj]; exact hlen)] at CO
            clear hz rW hlj hrow
            rcases hin : ordB base zs with _ | _
            · rw [hin] at CO
              have HIN := Lib.hid hin
              clear hin
              go_wp2_with fail
              (go_at_call 128; (with_reducible refine (CO).mono ?_); rintro e w4 ⟨rfl, be4⟩)
              have BE4 := Lib.hid be4
              clear be4
              go_wp2_with fail
              go_ret
              exact ⟨ret_bool (by rw [HOK.out, all_bad HZ.out HIN.out]; simp), BEL3.out.trans (BE4.out.mono BEL3.out.size)⟩
            · rw [hin] at CO
              have HIN := Lib.hid hin
              clear hin
              go_wp2_with fail
              (go_at_call 128; (with_reducible refine (CO).mono ?_); rintro e w4 ⟨rfl, be4⟩)
              have HB4 : Hid (Below w2.heap.size w2 w4) := Lib.hid (hbw.out.trans (be4.mono hbw.out.size))
              have HALL : Hid ((O.take (k + 1)).all (ordB base) = true) := Lib.hid (all_step HZ.out hall.out HIN.out)
              clear be4 d0
              go_wp2_with fail
              go_roundw
              case rel => exact ⟨k + 1, by omega, by go_num, HALL, HB4⟩
              case measure => simp [intOf]; omega
          · have g2 : ((nj : Int) != base) = true := by simpa using hlen
            have HIN : Hid (ordB base zs = false) := Lib.hid (ordB_len (by rw [hlj]; exact hlen))
            clear hz rW hlj hrow
            go_wp2_with fail
            go_ret
            exact ⟨ret_bool (by rw [HOK.out, all_bad HZ.out HIN.out]; simp), BEL3.out⟩
        · obtain rfl : n = k := by omega
          have hl2 := rW.len
          have HT := Lib.hid (all_end (by omega) hall.out)
          clear rW hl2
          go_wp2_with fail
          go_ret
          exact ⟨ret_bool (by rw [HOK.out, HT.out]; simp), BEL3.out⟩
set_option maxHeartbeats 1000000 in
theorem implValidP_any {B : Nat} (x : Pm) (A : Option Addr) (n c : Nat) (w : World) (hr : Rows2 B w A n x.O) (hB : B ≤ w.heap.size) :
    Calls Try.prog 52 #[pmV x A n c] w fun e w' => e = .returned (.bool (pOk x)) ∧ Below w.heap.size w w' := by
  obtain ⟨w1, hw1⟩ : ∃ w1, w1 = w.alloc (.cells (pmCells x A n c) 64) := ⟨_, rfl⟩
  have bel : Below w.heap.size w w1 := by rw [hw1]; exact (Below.refl _ w).alloc (Nat.le_refl _) _
  have CC := validP_any x A n c w1 (hr.below (bel.mono hB)) (Nat.le_trans hB bel.size)
  have BEL := Lib.hid bel
  clear bel
  go_enter Try.func52, Try.ntmps52
  go_wp2_with fail
  rw [← hw1]
  have HW1 := Lib.hid hw1
  clear hw1
  (go_at_call 101; (with_reducible refine (CC).mono ?_); rintro e w2 ⟨rfl, be⟩)
  go_wp2_with fail
  go_ret
  exact ⟨rfl, BEL.out.trans (be.mono BEL.out.size)⟩
end Go.Proofs.Ytakkehjfdeghoab
