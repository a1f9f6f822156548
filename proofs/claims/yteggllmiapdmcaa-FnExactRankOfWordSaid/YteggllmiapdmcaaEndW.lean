/-
  The program's endings.
-/
import Derived.Test.YteggllmiapdmcaaEndM
import Derived.Test.YteggllmiapdmcaaNx
import Derived.Test.YteggllmiapdmcaaInW
import Derived.Test.YteggllmiapdmcaaGr
namespace Go.Proofs.Yteggllmiapdmcaa
open Go.RowKit Go.Shelf
attribute [local go_sem] Oper.semAt_some

theorem six_cells {W : World} {b : Nat} {v0 v1 v2 v3 v4 v5 : Value} {t : TypeId} (h : Blk W b #[v0, v1, v2, v3, v4, v5] t) : W.cell? ⟨b, 0, none⟩ = some v0 ∧ W.cell? ⟨b, 1, none⟩ = some v1 ∧ W.cell? ⟨b, 2, none⟩ = some v2 ∧ W.cell? ⟨b, 3, none⟩ = some v3 ∧ W.cell? ⟨b, 4, none⟩ = some v4 ∧ W.cell? ⟨b, 5, none⟩ = some v5 :=
  ⟨h.cell 0, h.cell 1, h.cell 2, h.cell 3, h.cell 4, h.cell 5⟩
theorem duo_cells {W : World} {b : Nat} {v0 v1 : Value} {t : TypeId} (h : Blk W b #[v0, v1] t) : W.cell? ⟨b, 0, none⟩ = some v0 ∧ W.cell? ⟨b, 1, none⟩ = some v1 := ⟨h.cell 0, h.cell 1⟩
theorem Own.storedE {B n cp j : Nat} {w : World} {g : Nat} {zs : List Int} {z : Int} (h : Own B w (some ⟨g, 0, none⟩) n cp zs) (hz : (Lit.int .i64 z).wf = true) :
    Own B (w.setCell ⟨g, j, none⟩ (.int .i64 z)) (some ⟨g, 0, none⟩) n cp (zs.set j z) := by
  have hst := (h.1.stored j (.int .i64 z)).1
  have e : (cells64 zs).set j (.int .i64 z) = cells64 (zs.set j z) := by rw [cells64, ← List.map_set]
  rw [e] at hst
  refine ⟨hst, fun y hy => ?_⟩
  rcases List.mem_or_eq_of_mem_set hy with h1 | rfl
  · exact h.2 y h1
  · exact hz
/-- A cell of the one block. -/
theorem Own.cellE {B n cp j : Nat} {w : World} {g : Nat} {zs : List Int} (h : Own B w (some ⟨g, 0, none⟩) n cp zs) (hj : j < n) : w.cell? ⟨g, j, none⟩ = some (.int .i64 (zs[j]?.getD 0)) ∧ w.frozen? ⟨g, j, none⟩ = false ∧ (Lit.int .i64 (zs[j]?.getD 0)).wf = true := by
  have hl := h.len
  refine ⟨?_, h.1.frozenAt j, ?_⟩
  · rw [h.1.cellAt j (by omega)]; simp [cells64, List.getElem?_eq_getElem (show j < zs.length by omega)]
  · rw [List.getElem?_eq_getElem (by omega)]; exact h.2 _ (List.getElem_mem _)

theorem cell_al {W : World} {a : Addr} {v : Value} (o : Obj) (h : W.cell? a = some v) : (W.alloc o).cell? a = some v := by
  rw [World.cell?_alloc_some _ _ _ (by rw [h]; rfl)]; exact h
theorem gb_refl (W : World) (r : Option Nat) : W.grownBy W r := ⟨rfl, rfl, rfl, Nat.le_refl _, fun _ _ _ => rfl⟩
theorem gb_of_below {a b : World} (h : Below a.heap.size a b) (r : Option Nat) : a.grownBy b r := ⟨h.os, h.tape, h.output, h.size, fun k hk _ => h.block k hk⟩
theorem gb_set (W : World) (g j : Nat) (v : Value) : W.grownBy (W.setCell ⟨g, j, none⟩ v) (some g) := ⟨rfl, rfl, rfl, by simp, fun k _ hk => heap_setCell_other _ _ _ _ (by intro e; exact hk (by rw [e]))⟩
theorem gb_drew {a b : World} {r : Option Nat} (h : a.grownBy b r) : a.grownBy b.drew r := ⟨h.os, h.tape, h.output, h.size, h.block⟩
theorem Own.isCells {B n cp : Nat} {w : World} {g : Nat} {zs : List Int} (h : Own B w (some ⟨g, 0, none⟩) n cp zs) : ∃ cs t, w.heap[g]? = some (.cells cs t) := by
  rcases h.1.2 with ⟨hv, _⟩ | ⟨g', cap, cur, hv, _, hg, _⟩
  · cases hv
  · injection hv with h1 h2 h3
    injection h1 with h1
    injection h1 with h1
    subst h1
    exact ⟨_, _, hg⟩

/-- What holds between two rounds over the places. -/
def EndI {α : Type} (w : World) (b3 Bs g N : Nat) (CC GC : Array Value) (D : List α → List Int) (pre : List α) (W : World) : Prop :=
  (Blk W w.heap.size CC 48 ∧ Blk W (w.heap.size + 1) #[.int .i64 0, nilV] 101 ∧ Blk W b3 GC 101 ∧ Blk W Bs CC 48) ∧ Own (w.heap.size + 1 + 1) W (some ⟨g, 0, none⟩) N N (D pre) ∧ Below w.heap.size w W
theorem blk_from {β : Type} (B b : Nat) (cs : Array Value) (t : TypeId) : OwnFrom B (fun (_ : β) W => Blk W b cs t) := fun s X Y row hs hg hr =>
  (hg.block b hs.lt (fun e => by
    obtain ⟨_, o, ho, hc⟩ := hr b e.symm
    have hs' : X.heap[b]? = some (.cells cs t) := hs
    rw [hs'] at ho
    cases ho
    cases hc)).trans hs
theorem endI_from {α : Type} {w : World} {b3 Bs g N B : Nat} {CC GC : Array Value} {D : List α → List Int} (hB : w.heap.size ≤ B) : OwnFrom B (EndI w b3 Bs g N CC GC D) := fun s X Y row hs hg hr =>
  ⟨⟨blk_from B _ _ _ s X Y row hs.1.1 hg hr, blk_from B _ _ _ s X Y row hs.1.2.1 hg hr, blk_from B _ _ _ s X Y row hs.1.2.2.1 hg hr, blk_from B _ _ _ s X Y row hs.1.2.2.2 hg hr⟩,
    hs.2.1.keep (fun g' hg' => by
      cases hg'
      exact hg.block g (hs.2.1.lt g rfl) (fun e => by
        obtain ⟨_, o, ho, hc⟩ := hr g e.symm
        obtain ⟨cs, t, hgc⟩ := hs.2.1.isCells
        rw [hgc] at ho
        cases ho
        cases hc)),
    hs.2.2.grown hg hs.2.2.size (fun k e => Nat.le_trans hB (hr k e).1)⟩

set_option maxRecDepth 100000 in
set_option maxHeartbeats 8000000 in
theorem endings_any {B : Nat} (c : Ch) (AT AP : Option Addr) (nT cT nP cP : Nat) (w : World) (hr : ChRows B w c AT nT AP nP) (hB : B ≤ w.heap.size) {bs s n : Nat} (f : c.Fine bs s n) :
    Calls Try.prog 80 #[chV c AT nT cT AP nP cP] w fun e w' => ∃ g, e = .returned (.agg #[.int .i64 s, .slice (some ⟨g, 0, none⟩) ((n + 1) * s) ((n + 1) * s)]) ∧ Own w.heap.size w' (some ⟨g, 0, none⟩) ((n + 1) * s) ((n + 1) * s) (flatE s ((n + 1) * s) (c.full bs n 0)) ∧ Below w.heap.size w w' := by
  obtain rfl : nP = n := by have := hr.2.len; have := f.len; omega
  have hn20 := f.n20
  have hs36 := f.s36
  have hb36 := f.b36
  have hs1 := f.s1
  obtain ⟨eN, he⟩ : ∃ eN : Nat, c.stop = eN := ⟨c.stop.toNat, by have := f.stop0; omega⟩
  have hes : eN < s := by have := f.stop; omega
  have hCV : chV c AT nT cT AP nP cP = .agg #[.int .i64 bs, .int .i64 s, .int .i64 c.start, .int .i64 eN, .slice AT nT cT, .slice AP nP cP] := by unfold chV; rw [f.base, f.states, he]
  have hCC : chCells c AT nT cT AP nP cP = #[.int .i64 bs, .int .i64 s, .int .i64 c.start, .int .i64 eN, .slice AT nT cT, .slice AP nP cP] := by unfold chCells; rw [f.base, f.states, he]
  have CG := newGrid_any c AT AP nT cT nP cP s ((w.alloc (.cells (chCells c AT nT cT AP nP cP) 48)).alloc (.cells #[.int .i64 0, nilV] 101)) (by omega) hn20
  have CLN : ∀ Y, Calls Try.prog 89 #[.agg #[.int .i64 bs, .int .i64 s, .int .i64 c.start, .int .i64 eN, .slice AT nT cT, .slice AP nP cP]] Y fun e w' => e = .returned (.int .i64 nP) ∧ w' = Y.alloc (.cells #[.int .i64 bs, .int .i64 s, .int .i64 c.start, .int .i64 eN, .slice AT nT cT, .slice AP nP cP] 48) := by
    intro Y; have h := lengthX_any c AT AP nT cT nP cP Y; rw [hCV, hCC] at h; exact h
  have CBK : ∀ Y, Calls Try.prog 131 #[.agg #[.int .i64 bs, .int .i64 s, .int .i64 c.start, .int .i64 eN, .slice AT nT cT, .slice AP nP cP]] Y fun e w' => e = .returned (.func (.func 146) #[] #[.pointer (some ⟨Y.heap.size, 0, none⟩)]) ∧ w' = Y.alloc (.cells #[.int .i64 bs, .int .i64 s, .int .i64 c.start, .int .i64 eN, .slice AT nT cT, .slice AP nP cP] 48) := by
    intro Y; have h := backwards_any c AT AP nT cT nP cP Y; rw [hCV, hCC] at h; exact h
  rw [hCV] at CG ⊢
  rw [hCC] at CG
  obtain ⟨N, hN⟩ : ∃ N : Nat, N = (nP + 1) * s := ⟨_, rfl⟩
  have hNb : N ≤ 756 := by rw [hN]; exact Nat.le_trans (Nat.mul_le_mul (show nP + 1 ≤ 21 by omega) hs36) (by decide)
  have HSTART := Lib.hid (full_startE (b := bs) (n := nP) hes he)
  have HDAT := Lib.hid (datE_full f nP (Nat.le_refl _))
  have hcell : ∀ i x, i ≤ nP → x < s → i * s + x < N := fun i x hi hx => by rw [hN]; exact cell_in hi hx
  have hrow : ∀ i, i ≤ nP → (i + 1) * s ≤ N := fun i hi => by rw [hN]; exact row_in hi
  rw [← hN] at CG HSTART HDAT ⊢
  rw [Nat.sub_self] at HDAT
  have HROW := Lib.hid hrow
  have HCELL := Lib.hid hcell
  have CRW : ∀ (g i : Nat), i ≤ nP → ∀ Y, Calls Try.prog 81 #[.agg #[.int .i64 s, .slice (some ⟨g, 0, none⟩) N N], .int .i64 i] Y fun e w' => e = .returned (.slice (some ⟨g, i * s, none⟩) s (N - i * s)) ∧ w' = Y.alloc (.cells #[.int .i64 s, .slice (some ⟨g, 0, none⟩) N N] 101) :=
    fun g i hi Y => gridRow_any g s i N Y hs1 (by omega) (by omega) (HROW.out i hi) (by omega)
  clear hcell hrow
  have HN := Lib.hid hN
  have F := Lib.hid f
  have HR := Lib.hid hr
  have CRW := Lib.hid CRW
  clear hN f hr
  refine (callsIn_wide (n := 30)).1 ?_
  refine callsIn_of_wp_marks Try.func80 rfl trivial ?_ rfl
  simp only [Try.ntmps80, List.size_toArray, List.length_cons, List.length_nil, Nat.reduceAdd, Nat.reduceSub, Array.replicate_succ, Array.replicate_zero, List.push_toArray, List.append_toArray, List.nil_append, List.cons_append]
  gi_wp2_with fail
  refine ⟨trivial, ?_⟩
  gi_at_call 130
  refine (callsIn_wide.2 CG).mono ?_
  rintro e1 w3 ⟨g, rfl, own3, bel3⟩
  rw [World.size_alloc, World.size_alloc] at own3 bel3
  have bc3 : Blk w3 w.heap.size #[.int .i64 bs, .int .i64 s, .int .i64 c.start, .int .i64 eN, .slice AT nT cT, .slice AP nP cP] 48 := ((Blk.new w #[.int .i64 bs, .int .i64 s, .int .i64 c.start, .int .i64 eN, .slice AT nT cT, .slice AP nP cP] 48).alloc _).below bel3 (by omega)
  have bz3 : Blk w3 (w.heap.size + 1) #[.int .i64 0, nilV] 101 := by
    have h := Blk.new (w.alloc (.cells #[.int .i64 bs, .int .i64 s, .int .i64 c.start, .int .i64 eN, .slice AT nT cT, .slice AP nP cP] 48)) #[.int .i64 0, nilV] 101
    rw [World.size_alloc] at h
    exact h.below bel3 (by omega)
  have bw3 : Below w.heap.size w w3 := (((Below.refl _ w).alloc (Nat.le_refl _) _).alloc (by simp) _).trans (bel3.mono (by omega))
  have hg3 := own3.lt g rfl
  have hg2 := own3.from g rfl
  have hsz3 := bel3.size
  simp only [World.size_alloc] at hsz3
  have BC3 := Lib.hid bc3
  have BZ3 := Lib.hid bz3
  have BW3 := Lib.hid bw3
  have OWN3 := Lib.hid own3
  clear own3 bel3 bc3 bz3 bw3 CG
  gi_wp2_with fail
  obtain ⟨W4, hW4⟩ : ∃ W4, W4 = w3.alloc (.cells #[.int .i64 s, .slice (some ⟨g, 0, none⟩) N N] 101) := ⟨_, rfl⟩
  rw [← hW4]
  have hs4 : W4.heap.size = w3.heap.size + 1 := by rw [hW4]; simp
  have bg4 : Blk W4 w3.heap.size #[.int .i64 s, .slice (some ⟨g, 0, none⟩) N N] 101 := by rw [hW4]; exact Blk.new _ _ _
  have keep4 : ∀ k, k < w3.heap.size → W4.heap[k]? = w3.heap[k]? := fun k hk => by rw [hW4, Below.heap_alloc _ _ _ hk]
  have bc4 : Blk W4 w.heap.size #[.int .i64 bs, .int .i64 s, .int .i64 c.start, .int .i64 eN, .slice AT nT cT, .slice AP nP cP] 48 := (keep4 _ (by omega)).trans BC3.out
  have bz4 : Blk W4 (w.heap.size + 1) #[.int .i64 0, nilV] 101 := (keep4 _ (by omega)).trans BZ3.out
  have own4 : Own (w.heap.size + 1 + 1) W4 (some ⟨g, 0, none⟩) N N (List.replicate N 0) := OWN3.out.keep fun g' hg' => by cases hg'; exact keep4 _ hg3
  have bw4 : Below w.heap.size w W4 := by rw [hW4]; exact BW3.out.alloc BW3.out.size _
  have BC4 := Lib.hid bc4
  have BG4 := Lib.hid bg4
  have BZ4 := Lib.hid bz4
  have OWN4 := Lib.hid own4
  have BW4 := Lib.hid bw4
  have KEEP4 := Lib.hid keep4
  clear hW4 bz4 own4 bw4 keep4
  have e0 : (0 : Int) ≤ (eN : Int) := by omega
  have e1 : (eN : Int) < (s : Int) := by omega
  have CRW2 := CRW.out g
  refine region_last_wd 7 7 (fun w' => Blk w' w.heap.size #[.int .i64 bs, .int .i64 s, .int .i64 c.start, .int .i64 eN, .slice AT nT cT, .slice AP nP cP] 48 ∧ Blk w' w3.heap.size #[.int .i64 s, .slice (some ⟨g, 0, none⟩) N N] 101) (by kernel_rfl) (by kernel_rfl) (by kernel_rfl) (by kernel_rfl) ⟨bc4, bg4⟩ (fun hS => ?_)
  refine takeD 0 (some 13) (v := ?_) rfl (by kernel_rfl) (by kernel_rfl) (by kernel_rfl) (fun _ _ _ h => False.elim h) hS (fun o ho => Or.inl ⟨by cases ho; rfl, ?_⟩) ?_
  rotate_left
  · cases ho
    intro w' hw'
    obtain ⟨q0, q1, q2, q3, q4, q5⟩ := six_cells hw'.1; obtain ⟨r0, r1⟩ := duo_cells hw'.2
    go_simp
    (try with_reducible rfl)
  (try simp only [Act.put, List.setIfInBounds_toArray, List.set_cons_zero, List.set_cons_succ])
  refine takeD 1 (some 14) (v := ?_) rfl (by kernel_rfl) (by kernel_rfl) (by kernel_rfl) (fun _ _ _ h => False.elim h) hS (fun o ho => Or.inl ⟨by cases ho; rfl, ?_⟩) ?_
  rotate_left
  · cases ho
    intro w' hw'
    obtain ⟨q0, q1, q2, q3, q4, q5⟩ := six_cells hw'.1; obtain ⟨r0, r1⟩ := duo_cells hw'.2
    go_simp
    (try with_reducible rfl)
  (try simp only [Act.put, List.setIfInBounds_toArray, List.set_cons_zero, List.set_cons_succ])
  refine takeD 4 (some 17) (v := ?_) rfl (by kernel_rfl) (by kernel_rfl) (by kernel_rfl) (fun _ _ _ h => False.elim h) hS (fun o ho => Or.inl ⟨by cases ho; rfl, ?_⟩) ?_
  rotate_left
  · cases ho
    intro w' hw'
    obtain ⟨q0, q1, q2, q3, q4, q5⟩ := six_cells hw'.1; obtain ⟨r0, r1⟩ := duo_cells hw'.2
    go_simp
    (try with_reducible rfl)
  (try simp only [Act.put, List.setIfInBounds_toArray, List.set_cons_zero, List.set_cons_succ])
  refine takeD 5 (some 18) (v := ?_) rfl (by kernel_rfl) (by kernel_rfl) (by kernel_rfl) (fun _ _ _ h => False.elim h) hS (fun o ho => Or.inl ⟨by cases ho; rfl, ?_⟩) ?_
  rotate_left
  · cases ho
    intro w' hw'
    obtain ⟨q0, q1, q2, q3, q4, q5⟩ := six_cells hw'.1; obtain ⟨r0, r1⟩ := duo_cells hw'.2
    go_simp
    (try with_reducible rfl)
  (try simp only [Act.put, List.setIfInBounds_toArray, List.set_cons_zero, List.set_cons_succ])
  refine oneD 2 (some 15) (by kernel_rfl) rfl (fun o ho K hK hdo => ?_)
  simp only [List.getElem?_toArray, List.getElem?_cons_succ, List.getElem?_cons_zero, Option.some.injEq] at ho
  subst ho
  clear hdo
  rw [if_pos (by rfl)]
  go_wp2_with fail
  (go_at_call 89; (with_reducible refine (CLN _).mono ?_); rintro e W5 ⟨rfl, rfl⟩)
  refine hK.out _ _ ?_ (fun hS => ?_)
  · exact ⟨hS.1.alloc _, hS.2.alloc _⟩
  clear hK K
  (try simp only [Act.put, List.setIfInBounds_toArray, List.set_cons_zero, List.set_cons_succ])
  refine oneD 3 (some 16) (by kernel_rfl) rfl (fun o ho K hK hdo => ?_)
  simp only [List.getElem?_toArray, List.getElem?_cons_succ, List.getElem?_cons_zero, Option.some.injEq] at ho
  subst ho
  clear hdo
  rw [if_pos (by rfl)]
  go_wp2_with fail
  (go_at_call 81; (with_reducible refine (CRW2 nP (Nat.le_refl _) _).mono ?_); rintro e W6 ⟨rfl, rfl⟩)
  refine hK.out _ _ ?_ (fun hS => ?_)
  · exact ⟨hS.1.alloc _, hS.2.alloc _⟩
  clear hK K
  (try simp only [Act.put, List.setIfInBounds_toArray, List.set_cons_zero, List.set_cons_succ])
  refine takeD 6 (some 19) (v := ?_) rfl (by kernel_rfl) (by kernel_rfl) (by kernel_rfl) (fun _ _ _ h => False.elim h) hS (fun o ho => Or.inl ⟨by cases ho; rfl, ?_⟩) ?_
  rotate_left
  · cases ho
    intro w' hw'
    obtain ⟨q0, q1, q2, q3, q4, q5⟩ := six_cells hw'.1; obtain ⟨r0, r1⟩ := duo_cells hw'.2
    go_simp
    (try with_reducible rfl)
  (try simp only [Act.put, List.setIfInBounds_toArray, List.set_cons_zero, List.set_cons_succ])
  refine wpAnyH_done (by kernel_rfl) ?_ _
  refine thenD rfl (fun o ho K hK => ?_)
  simp only [List.getElem?_toArray, List.getElem?_cons_succ, List.getElem?_cons_zero, Option.some.injEq] at ho
  subst ho
  clear hS
  have own5 := (OWN4.out.below ((Below.refl _ W4).alloc (Nat.le_refl _) (.cells #[.int .i64 bs, .int .i64 s, .int .i64 c.start, .int .i64 eN, .slice AT nT cT, .slice AP nP cP] 48))).below ((Below.refl _ _).alloc (Nat.le_refl _) (.cells #[.int .i64 s, .slice (some ⟨g, 0, none⟩) N N] 101))
  have z1 := own5.drewN 1
  obtain ⟨z2, z3, _⟩ := z1.cellE (HCELL.out nP eN (Nat.le_refl _) hes)
  have OWN5 := Lib.hid own5
  have z2 : ((W4.alloc (.cells #[.int .i64 bs, .int .i64 s, .int .i64 c.start, .int .i64 eN, .slice AT nT cT, .slice AP nP cP] 48)).alloc (.cells #[.int .i64 s, .slice (some ⟨g, 0, none⟩) N N] 101)).drew.cell? ⟨g, nP * s + eN, none⟩ = some (.int .i64 ((List.replicate N 0)[nP * s + eN]?.getD 0)) := z2
  have z3 : ((W4.alloc (.cells #[.int .i64 bs, .int .i64 s, .int .i64 c.start, .int .i64 eN, .slice AT nT cT, .slice AP nP cP] 48)).alloc (.cells #[.int .i64 s, .slice (some ⟨g, 0, none⟩) N N] 101)).drew.frozen? ⟨g, nP * s + eN, none⟩ = false := z3
  clear own5 z1
  go_wp2_with fail
  refine hK.out _ _ ?_
  clear hK K
  clear z2 z3 e0 e1 CRW2 bc4 bg4 CLN
  obtain ⟨W5, hW5⟩ : ∃ W5, W5 = (((W4.alloc (.cells #[.int .i64 bs, .int .i64 s, .int .i64 c.start, .int .i64 eN, .slice AT nT cT, .slice AP nP cP] 48)).alloc (.cells #[.int .i64 s, .slice (some ⟨g, 0, none⟩) N N] 101)).setCell ⟨g, nP * s + eN, none⟩ (.int .i64 1)).drew := ⟨_, rfl⟩
  rw [← hW5]
  simp only [Calm]
  have hs5 : w3.heap.size + 1 + 1 + 1 ≤ W5.heap.size := by rw [hW5]; simp [World.drew, hs4]
  have keep5 : ∀ k, k < W4.heap.size → k ≠ g → W5.heap[k]? = W4.heap[k]? := fun k hk hne => by
    rw [hW5]
    show (((W4.alloc (.cells #[.int .i64 bs, .int .i64 s, .int .i64 c.start, .int .i64 eN, .slice AT nT cT, .slice AP nP cP] 48)).alloc (.cells #[.int .i64 s, .slice (some ⟨g, 0, none⟩) N N] 101)).setCell ⟨g, nP * s + eN, none⟩ (.int .i64 1)).heap[k]? = _
    rw [heap_setCell_other _ _ _ _ (by simp; omega), Below.heap_alloc _ _ _ (by simp; omega), Below.heap_alloc _ _ _ hk]
  have bc5 : Blk W5 w.heap.size #[.int .i64 bs, .int .i64 s, .int .i64 c.start, .int .i64 eN, .slice AT nT cT, .slice AP nP cP] 48 := (keep5 _ (by omega) (by omega)).trans BC4.out
  have bz5 : Blk W5 (w.heap.size + 1) #[.int .i64 0, nilV] 101 := (keep5 _ (by omega) (by omega)).trans BZ4.out
  have bg5 : Blk W5 w3.heap.size #[.int .i64 s, .slice (some ⟨g, 0, none⟩) N N] 101 := (keep5 _ (by omega) (by omega)).trans BG4.out
  have own5 : Own (w.heap.size + 1 + 1) W5 (some ⟨g, 0, none⟩) N N (flatE s N (c.full bs nP nP)) := by
    rw [hW5]
    have h := OWN5.out.storedE (j := nP * s + eN) (z := 1) (by rfl)
    rw [HSTART.out] at h
    exact h.drewN 1
  have bw5 : Below w.heap.size w W5 := by
    rw [hW5]
    exact below_drewN ((((BW4.out.alloc BW4.out.size _)).alloc (by have := BW4.out.size; simp; omega) _).setCell (p := ⟨g, nP * s + eN, none⟩) (by show w.heap.size ≤ g; omega) _) 1
  have BC5 := Lib.hid bc5
  have BZ5 := Lib.hid bz5
  have BG5 := Lib.hid bg5
  have OWN5 := Lib.hid own5
  have BW5 := Lib.hid bw5
  clear hW5 keep5 bz5 bg5 own5 bw5
  obtain ⟨q0, q1, q2, q3, q4, q5⟩ := six_cells bc5
  gi_wp2_with fail
  clear bc5 q0 q1 q2 q3 q4 q5
  refine ⟨trivial, ?_⟩
  gi_at_call 131
  refine (callsIn_wide.2 (CBK W5)).mono ?_
  rintro e6 W6x ⟨rfl, rfl⟩
  gi_wp2_with fail
  clear CBK
  obtain ⟨W6, hW6⟩ : ∃ W6, W6 = W5.alloc (.cells #[.int .i64 bs, .int .i64 s, .int .i64 c.start, .int .i64 eN, .slice AT nT cT, .slice AP nP cP] 48) := ⟨_, rfl⟩
  rw [← hW6]
  have hs6 : W5.heap.size < W6.heap.size := by rw [hW6]; simp
  have keep6 : ∀ k, k < W5.heap.size → W6.heap[k]? = W5.heap[k]? := fun k hk => by rw [hW6, Below.heap_alloc _ _ _ hk]
  have bB6 : Blk W6 W5.heap.size #[.int .i64 bs, .int .i64 s, .int .i64 c.start, .int .i64 eN, .slice AT nT cT, .slice AP nP cP] 48 := by rw [hW6]; exact Blk.new _ _ _
  have I6 : EndI w w3.heap.size W5.heap.size g N #[.int .i64 bs, .int .i64 s, .int .i64 c.start, .int .i64 eN, .slice AT nT cT, .slice AP nP cP] #[.int .i64 s, .slice (some ⟨g, 0, none⟩) N N] (fun pre => datE c s bs nP pre (flatE s N (c.full bs nP nP))) [] W6 :=
    ⟨⟨(keep6 _ (by omega)).trans BC5.out, (keep6 _ (by omega)).trans BZ5.out, (keep6 _ (by omega)).trans BG5.out, bB6⟩, OWN5.out.keep (fun g' hg' => by cases hg'; exact keep6 _ (by omega)), by rw [hW6]; exact BW5.out.alloc BW5.out.size _⟩
  have bB6' : Blk W6 W5.heap.size (chCells c AT nT cT AP nP cP) 48 := by rw [hCC]; exact bB6
  have hw6 : w.heap.size ≤ W6.heap.size := I6.2.2.size
  clear hW6 keep6 bB6 BC3 BZ3 BW3 OWN3 BZ4 BW4 OWN4 BC4 BG4 KEEP4 BC5 BZ5 BG5 OWN5 BW5
  refine wpIn_rangeFunc_ownF rfl (by omega) (gf := 146) (lb := #[.pointer (some ⟨W5.heap.size, 0, none⟩)]) rfl trivial (enters_of Try.func146 (by kernel_rfl) rfl)
    (back_stops 29 (by omega) c AT AP nT cT nP cP W5.heap.size hn20 W6 bB6') (fun h k => k.trans h) (fun W l o o' hl ho _ _ => World.putObj_heap_other (by omega)) (Below.refl _ _) (fun _ => rfl)
    (EndI w w3.heap.size W5.heap.size g N #[.int .i64 bs, .int .i64 s, .int .i64 c.start, .int .i64 eN, .slice AT nT cT, .slice AP nP cP] #[.int .i64 s, .slice (some ⟨g, 0, none⟩) N N] (fun pre => datE c s bs nP pre (flatE s N (c.full bs nP nP)))) (fun _ _ _ => False) (endI_from hw6) (fun _ _ _ _ _ hs _ _ => hs) I6 ?a1 ?assign ?body ?done ?stop
  case assign =>
    intro l x W K hK
    gi_wp2
    exact hK
  case body =>
    rintro l pre ⟨x, hx⟩ W ⟨⟨bc, bz, bg, bB⟩, own, bw⟩ _
    dsimp only at own ⊢
    have hgW := own.lt g rfl
    have hb1W := bc.lt
    have hb2W := bz.lt
    have hb3W := bg.lt
    have hBsW := bB.lt
    have hwW := bw.size
    obtain ⟨L0, hL0⟩ : ∃ L0, L0 = datE c s bs nP pre (flatE s N (c.full bs nP nP)) := ⟨_, rfl⟩
    rw [← hL0] at own
    have HL0 := Lib.hid hL0
    have BC := Lib.hid bc
    have BZ := Lib.hid bz
    have BG := Lib.hid bg
    have BBs := Lib.hid bB
    have OWN := Lib.hid own
    have BW := Lib.hid bw
    have CRX0 := CRW.out g x (by omega)
    have CRX : ∀ Y, Calls Try.prog 81 #[.agg #[.int .i64 s, .slice (some ⟨g, 0, none⟩) N N], .int .i64 ((x : Int) + 1)] Y fun e w' => e = .returned (.slice (some ⟨g, (x + 1) * s, none⟩) s (N - (x + 1) * s)) ∧ w' = Y.alloc (.cells #[.int .i64 s, .slice (some ⟨g, 0, none⟩) N N] 101) := by
      intro Y; have h := CRW.out g (x + 1) (by omega) Y; rw [show (((x + 1 : Nat)) : Int) = (x : Int) + 1 by omega] at h; exact h
    have CTX : ∀ Y, Y = W.drew → Calls Try.prog 90 #[.agg #[.int .i64 bs, .int .i64 s, .int .i64 c.start, .int .i64 eN, .slice AT nT cT, .slice AP nP cP], .int .i64 x] Y fun e w' => ∃ A2 c2, e = .returned (.slice A2 s c2) ∧ Rows2 B w' A2 s (c.tb x) ∧ Below W.heap.size W w' := by
      rintro Y rfl
      have h := tableAt_any c AT AP nT cT nP cP W.drew ((HR.out.below (bw.mono hB)).drewN 1) (Nat.le_trans hB hwW) F.out x hx
      rw [hCV] at h
      exact h.mono fun e w' ⟨A2, c2, h1, h2, h3⟩ => ⟨A2, c2, h1, h2, below_of_drew h3⟩
    have a1 : IntKind.i64.wrap ((x : Int) + 1) = (x : Int) + 1 := IntWalk.i64_in _ (by omega)
    clear hL0 bz bB own bw
    gi_wp2_with fail
    refine region_last_in 9 9 (fun w' => Blk w' w.heap.size #[.int .i64 bs, .int .i64 s, .int .i64 c.start, .int .i64 eN, .slice AT nT cT, .slice AP nP cP] 48 ∧ Blk w' w3.heap.size #[.int .i64 s, .slice (some ⟨g, 0, none⟩) N N] 101) (by kernel_rfl) (by kernel_rfl) (by kernel_rfl) (by kernel_rfl) ⟨bc, bg⟩ (fun hS => ?_)
    refine takeD 0 (some 23) (v := ?_) rfl (by kernel_rfl) (by kernel_rfl) (by kernel_rfl) (fun _ _ _ h => False.elim h) hS (fun o ho => Or.inl ⟨by cases ho; rfl, ?_⟩) ?_
    rotate_left
    · cases ho
      intro w' hw'
      obtain ⟨q0, q1, q2, q3, q4, q5⟩ := six_cells hw'.1; obtain ⟨r0, r1⟩ := duo_cells hw'.2
      go_simp
      (try with_reducible rfl)
    (try simp only [Act.put, List.setIfInBounds_toArray, List.set_cons_zero, List.set_cons_succ])
    refine takeD 1 (some 24) (v := ?_) rfl (by kernel_rfl) (by kernel_rfl) (by kernel_rfl) (fun _ _ _ h => False.elim h) hS (fun o ho => Or.inl ⟨by cases ho; rfl, ?_⟩) ?_
    rotate_left
    · cases ho
      intro w' hw'
      obtain ⟨q0, q1, q2, q3, q4, q5⟩ := six_cells hw'.1; obtain ⟨r0, r1⟩ := duo_cells hw'.2
      go_simp
      (try with_reducible rfl)
    (try simp only [Act.put, List.setIfInBounds_toArray, List.set_cons_zero, List.set_cons_succ])
    refine takeD 4 (some 27) (v := ?_) rfl (by kernel_rfl) (by kernel_rfl) (by kernel_rfl) (fun _ _ _ h => False.elim h) hS (fun o ho => Or.inl ⟨by cases ho; rfl, ?_⟩) ?_
    rotate_left
    · cases ho
      intro w' hw'
      obtain ⟨q0, q1, q2, q3, q4, q5⟩ := six_cells hw'.1; obtain ⟨r0, r1⟩ := duo_cells hw'.2
      go_simp
      (try with_reducible rfl)
    (try simp only [Act.put, List.setIfInBounds_toArray, List.set_cons_zero, List.set_cons_succ])
    refine takeD 5 (some 28) (v := ?_) rfl (by kernel_rfl) (by kernel_rfl) (by kernel_rfl) (fun _ _ _ h => False.elim h) hS (fun o ho => Or.inl ⟨by cases ho; rfl, ?_⟩) ?_
    rotate_left
    · cases ho
      intro w' hw'
      obtain ⟨q0, q1, q2, q3, q4, q5⟩ := six_cells hw'.1; obtain ⟨r0, r1⟩ := duo_cells hw'.2
      go_simp
      (try with_reducible rfl)
    (try simp only [Act.put, List.setIfInBounds_toArray, List.set_cons_zero, List.set_cons_succ])
    refine takeD 6 (some 29) (v := ?_) rfl (by kernel_rfl) (by kernel_rfl) (by kernel_rfl) (fun _ _ _ h => False.elim h) hS (fun o ho => Or.inl ⟨by cases ho; rfl, ?_⟩) ?_
    rotate_left
    · cases ho
      intro w' hw'
      obtain ⟨q0, q1, q2, q3, q4, q5⟩ := six_cells hw'.1; obtain ⟨r0, r1⟩ := duo_cells hw'.2
      go_simp
      (try with_reducible rfl)
    (try simp only [Act.put, List.setIfInBounds_toArray, List.set_cons_zero, List.set_cons_succ])
    refine oneD 2 (some 25) (by kernel_rfl) rfl (fun o ho K hK hdo => ?_)
    simp only [List.getElem?_toArray, List.getElem?_cons_succ, List.getElem?_cons_zero, Option.some.injEq] at ho
    subst ho
    clear hdo
    rw [if_pos (by rfl)]
    go_wp2_with fail
    (go_at_call 90; (with_reducible refine (CTX _ rfl).mono ?_); rintro e W7 ⟨A2, c2, rfl, hr2, be7⟩)
    have HR2 := Lib.hid hr2
    refine hK.out _ _ ?_ (fun hS => ?_)
    · exact ⟨BC.out.below be7 hb1W, BG.out.below be7 hb3W⟩
    clear hK K
    (try simp only [Act.put, List.setIfInBounds_toArray, List.set_cons_zero, List.set_cons_succ])
    refine takeD 3 (some 26) (v := ?_) rfl (by kernel_rfl) (by kernel_rfl) (by kernel_rfl) (fun _ _ _ h => False.elim h) hS (fun o ho => Or.inl ⟨by cases ho; rfl, ?_⟩) ?_
    rotate_left
    · cases ho
      intro w' hw'
      obtain ⟨q0, q1, q2, q3, q4, q5⟩ := six_cells hw'.1; obtain ⟨r0, r1⟩ := duo_cells hw'.2
      go_simp
      (try with_reducible rfl)
    (try simp only [Act.put, List.setIfInBounds_toArray, List.set_cons_zero, List.set_cons_succ])
    refine oneD 7 (some 30) (by kernel_rfl) rfl (fun o ho K hK hdo => ?_)
    simp only [List.getElem?_toArray, List.getElem?_cons_succ, List.getElem?_cons_zero, Option.some.injEq] at ho
    subst ho
    clear hdo
    rw [if_pos (by rfl)]
    go_wp2_with fail
    (go_at_call 81; (with_reducible refine (CRX _).mono ?_); rintro e W7b ⟨rfl, rfl⟩)
    refine hK.out _ _ ?_ (fun hS => ?_)
    · exact ⟨hS.1.alloc _, hS.2.alloc _⟩
    clear hK K
    (try simp only [Act.put, List.setIfInBounds_toArray, List.set_cons_zero, List.set_cons_succ])
    refine takeD 8 (some 5) (v := ?_) rfl (by kernel_rfl) (by kernel_rfl) (by kernel_rfl) (fun _ _ _ h => False.elim h) hS (fun o ho => Or.inl ⟨by cases ho; rfl, ?_⟩) ?_
    rotate_left
    · cases ho
      intro w' hw'
      obtain ⟨q0, q1, q2, q3, q4, q5⟩ := six_cells hw'.1; obtain ⟨r0, r1⟩ := duo_cells hw'.2
      go_simp
      (try with_reducible rfl)
    (try simp only [Act.put, List.setIfInBounds_toArray, List.set_cons_zero, List.set_cons_succ])
    refine wpAnyH_done (by kernel_rfl) ?_ _
    refine thenD rfl (fun o ho K hK => ?_)
    simp only [List.getElem?_toArray, List.getElem?_cons_succ, List.getElem?_cons_zero, Option.some.injEq] at ho
    subst ho
    clear hS
    go_wp2_with fail
    refine hK.out _ _ ?_
    clear hK K
    simp only [Calm]
    obtain ⟨W8, hW8⟩ : ∃ W8, W8 = W7.alloc (.cells #[.int .i64 s, .slice (some ⟨g, 0, none⟩) N N] 101) := ⟨_, rfl⟩
    rw [← hW8]
    clear CRX CTX a1 bc bg
    have hs8 : W7.heap.size < W8.heap.size := by rw [hW8]; simp
    have gb8 : W.grownBy W8 (some g) := by rw [hW8]; exact gb_of_below (be7.alloc be7.size _) _
    have bc8 : Blk W8 w.heap.size #[.int .i64 bs, .int .i64 s, .int .i64 c.start, .int .i64 eN, .slice AT nT cT, .slice AP nP cP] 48 := (gb8.block _ hb1W (by intro e; cases e; omega)).trans BC.out
    have bg8 : Blk W8 w3.heap.size #[.int .i64 s, .slice (some ⟨g, 0, none⟩) N N] 101 := (gb8.block _ hb3W (by intro e; cases e; omega)).trans BG.out
    have own8 : Own (w.heap.size + 1 + 1) W8 (some ⟨g, 0, none⟩) N N L0 := by rw [hW8]; exact (OWN.out.below be7).below ((Below.refl _ _).alloc (Nat.le_refl _) _)
    have rows8 : Rows2 B W8 A2 s (c.tb x) := by rw [hW8]; exact HR2.out.below ((Below.refl B W7).alloc (Nat.le_trans hB (Nat.le_trans hwW be7.size)) _)
    have hwW8 : w.heap.size ≤ W8.heap.size := Nat.le_trans hwW gb8.size
    have hb1W8 := bc8.lt
    have hb3W8 := bg8.lt
    have hgW8 := own8.lt g rfl
    have BC8 := Lib.hid bc8
    have BG8 := Lib.hid bg8
    have OWN8 := Lib.hid own8
    have ROWS8 := Lib.hid rows8
    have GB8 := Lib.hid gb8
    have HG8 := Lib.hid (gb_refl W8 (some g))
    obtain ⟨q0, q1, q2, q3, q4, q5⟩ := six_cells bc8
    clear hW8 gb8 bg8 own8 rows8 be7 hs8 HR2 bc8
    gi_wp2_with fail
    clear q0 q1 q2 q3 q4 q5
    gi_loopw [7, 8, 33] (fun _ _ i wr => ∃ st : Nat, st ≤ s ∧ i = .int .i64 st ∧ Hid (Own (w.heap.size + 1 + 1) wr (some ⟨g, 0, none⟩) N N (colE c s bs x st L0)) ∧ Hid (W8.grownBy wr (some g))) (fun _ _ i _ => s - (intOf i).toNat)
    case atStart => exact ⟨0, by omega, rfl, OWN8, HG8⟩
    case round =>
      obtain ⟨st, hst, rfl, hown, hgb⟩ := hrel
      by_cases hlt : st < s
      · have bcr : Blk wr w.heap.size #[.int .i64 bs, .int .i64 s, .int .i64 c.start, .int .i64 eN, .slice AT nT cT, .slice AP nP cP] 48 := (hgb.out.block _ hb1W8 (by intro e; cases e; omega)).trans BC8.out
        obtain ⟨q0, q1, q2, q3, q4, q5⟩ := six_cells bcr
        clear bcr
        gi_wp2_with fail
        clear q0 q1 q2 q3 q4 q5
        gi_loopw [8, 38] (fun _ i wr => ∃ d : Nat, d ≤ bs ∧ i = .int .i64 d ∧ Hid (Own (w.heap.size + 1 + 1) wr (some ⟨g, 0, none⟩) N N (rowE c s x st d (colE c s bs x st L0))) ∧ Hid (W8.grownBy wr (some g))) (fun _ i _ => bs - (intOf i).toNat)
        case atStart => exact ⟨0, by omega, rfl, hown, hgb⟩
        case round =>
          obtain ⟨d, hd, rfl, hown, hgb⟩ := hrel
          by_cases hltd : d < bs
          · obtain ⟨L, hL⟩ : ∃ L, L = rowE c s x st d (colE c s bs x st L0) := ⟨_, rfl⟩
            rw [← hL] at hown
            have HL := Lib.hid hL
            clear hL
            obtain ⟨nx, hnxe⟩ : ∃ nx, nx = c.nx x st d := ⟨_, rfl⟩
            have hnx : nx < s := by rw [hnxe]; exact (F.out.nx hx hlt hltd).2.choose_spec.2.2.2
            have hsz := hgb.out.size
            have belr : Below B W8 wr := ⟨hgb.out.os, hgb.out.tape, hgb.out.output, hsz, fun k hk => hgb.out.block k (by omega) (by intro e; cases e; omega)⟩
            have CNX : ∀ Y, Below B wr Y → Calls Try.prog 91 #[.slice A2 s c2, .int .i64 st, .int .i64 d] Y fun e w' => e = .returned (.int .i64 (nx : Nat)) ∧ w' = Y := by
              intro Y h
              rw [hnxe]
              exact next_any F.out x st d A2 c2 Y ((ROWS8.out.below belr).below h) hx hlt hltd
            have bgr : Blk wr w3.heap.size #[.int .i64 s, .slice (some ⟨g, 0, none⟩) N N] 101 := (hgb.out.block _ hb3W8 (by intro e; cases e; omega)).trans BG8.out
            have hi1 := HCELL.out x st (by omega) hlt
            have hi2 := HCELL.out (x + 1) nx (by omega) hnx
            obtain ⟨z1, y1, _⟩ := hown.out.cellE hi1
            obtain ⟨z2, _, _⟩ := hown.out.cellE hi2
            obtain ⟨V1, hV1⟩ : ∃ V, V = L[x * s + st]?.getD 0 := ⟨_, rfl⟩
            obtain ⟨V2, hV2⟩ : ∃ V, V = L[(x + 1) * s + nx]?.getD 0 := ⟨_, rfl⟩
            rw [← hV1] at z1
            rw [← hV2] at z2
            have HST : Hid (L.set (x * s + st) (wrap64 (V1 + V2)) = rowE c s x st (d + 1) (colE c s bs x st L0)) := Lib.hid (by
              show _ = stE c s x st d (rowE c s x st d (colE c s bs x st L0))
              rw [← HL.out, hV1, hV2, hnxe]
              unfold stE
              rw [IntWalk.i64_left])
            have hgwr := hown.out.lt g rfl
            have hBwr : B ≤ wr.heap.size := by omega
            have OW := hown
            have GB := hgb
            have f3 : (0 : Int) ≤ (st : Int) := by omega
            have f4 : (st : Int) < (s : Int) := by omega
            have f6 : (0 : Int) ≤ (nx : Int) := by omega
            have f7 : (nx : Int) < (s : Int) := by omega
            have Z1 := z1
            have Y1 := y1
            have Z2 := z2
            clear hV1 hV2 hnxe hown hgb belr hi1 hi2 y1
            gi_wp2_with fail
            refine region_last_in 15 15 (fun w' => Blk w' w3.heap.size #[.int .i64 s, .slice (some ⟨g, 0, none⟩) N N] 101 ∧ w'.cell? ⟨g, x * s + st, none⟩ = some (.int .i64 V1) ∧ w'.cell? ⟨g, (x + 1) * s + nx, none⟩ = some (.int .i64 V2) ∧ Below B wr w') (by kernel_rfl) (by kernel_rfl) (by kernel_rfl) (by kernel_rfl) ⟨bgr, z1, z2, below_drewN (Below.refl B wr) 1⟩ (fun hS => ?_)
            refine takeD 0 (some 41) (v := ?_) rfl (by kernel_rfl) (by kernel_rfl) (by kernel_rfl) (fun _ _ _ h => False.elim h) hS (fun o ho => Or.inl ⟨by cases ho; rfl, ?_⟩) ?_
            rotate_left
            · cases ho
              intro w' hw'
              obtain ⟨r0, r1⟩ := duo_cells hw'.1; have k1 := hw'.2.1; have k2 := hw'.2.2.1
              go_simp
              (try with_reducible rfl)
            (try simp only [Act.put, List.setIfInBounds_toArray, List.set_cons_zero, List.set_cons_succ])
            refine takeD 1 (some 42) (v := ?_) rfl (by kernel_rfl) (by kernel_rfl) (by kernel_rfl) (fun _ _ _ h => False.elim h) hS (fun o ho => Or.inl ⟨by cases ho; rfl, ?_⟩) ?_
            rotate_left
            · cases ho
              intro w' hw'
              obtain ⟨r0, r1⟩ := duo_cells hw'.1; have k1 := hw'.2.1; have k2 := hw'.2.2.1
              go_simp
              (try with_reducible rfl)
            (try simp only [Act.put, List.setIfInBounds_toArray, List.set_cons_zero, List.set_cons_succ])
            refine takeD 3 (some 44) (v := ?_) rfl (by kernel_rfl) (by kernel_rfl) (by kernel_rfl) (fun _ _ _ h => False.elim h) hS (fun o ho => Or.inl ⟨by cases ho; rfl, ?_⟩) ?_
            rotate_left
            · cases ho
              intro w' hw'
              obtain ⟨r0, r1⟩ := duo_cells hw'.1; have k1 := hw'.2.1; have k2 := hw'.2.2.1
              go_simp
              (try with_reducible rfl)
            (try simp only [Act.put, List.setIfInBounds_toArray, List.set_cons_zero, List.set_cons_succ])
            refine takeD 6 (some 47) (v := ?_) rfl (by kernel_rfl) (by kernel_rfl) (by kernel_rfl) (fun _ _ _ h => False.elim h) hS (fun o ho => Or.inl ⟨by cases ho; rfl, ?_⟩) ?_
            rotate_left
            · cases ho
              intro w' hw'
              obtain ⟨r0, r1⟩ := duo_cells hw'.1; have k1 := hw'.2.1; have k2 := hw'.2.2.1
              go_simp
              (try with_reducible rfl)
            (try simp only [Act.put, List.setIfInBounds_toArray, List.set_cons_zero, List.set_cons_succ])
            refine takeD 7 (some 48) (v := ?_) rfl (by kernel_rfl) (by kernel_rfl) (by kernel_rfl) (fun _ _ _ h => False.elim h) hS (fun o ho => Or.inl ⟨by cases ho; rfl, ?_⟩) ?_
            rotate_left
            · cases ho
              intro w' hw'
              obtain ⟨r0, r1⟩ := duo_cells hw'.1; have k1 := hw'.2.1; have k2 := hw'.2.2.1
              go_simp
              (try with_reducible rfl)
            (try simp only [Act.put, List.setIfInBounds_toArray, List.set_cons_zero, List.set_cons_succ])
            refine takeD 8 (some 49) (v := ?_) rfl (by kernel_rfl) (by kernel_rfl) (by kernel_rfl) (fun _ _ _ h => False.elim h) hS (fun o ho => Or.inl ⟨by cases ho; rfl, ?_⟩) ?_
            rotate_left
            · cases ho
              intro w' hw'
              obtain ⟨r0, r1⟩ := duo_cells hw'.1; have k1 := hw'.2.1; have k2 := hw'.2.2.1
              go_simp
              (try with_reducible rfl)
            (try simp only [Act.put, List.setIfInBounds_toArray, List.set_cons_zero, List.set_cons_succ])
            refine takeD 9 (some 50) (v := ?_) rfl (by kernel_rfl) (by kernel_rfl) (by kernel_rfl) (fun _ _ _ h => False.elim h) hS (fun o ho => Or.inl ⟨by cases ho; rfl, ?_⟩) ?_
            rotate_left
            · cases ho
              intro w' hw'
              obtain ⟨r0, r1⟩ := duo_cells hw'.1; have k1 := hw'.2.1; have k2 := hw'.2.2.1
              go_simp
              (try with_reducible rfl)
            (try simp only [Act.put, List.setIfInBounds_toArray, List.set_cons_zero, List.set_cons_succ])
            refine oneD 2 (some 43) (by kernel_rfl) rfl (fun o ho K hK hdo => ?_)
            simp only [List.getElem?_toArray, List.getElem?_cons_succ, List.getElem?_cons_zero, Option.some.injEq] at ho
            subst ho
            clear hdo
            rw [if_pos (by rfl)]
            go_wp2_with fail
            (go_at_call 81; (with_reducible refine (CRX0 _).mono ?_); rintro e W9 ⟨rfl, rfl⟩)
            refine hK.out _ _ ?_ (fun hS => ?_)
            · exact ⟨hS.1.alloc _, cell_al _ hS.2.1, cell_al _ hS.2.2.1, hS.2.2.2.alloc (Nat.le_trans hBwr hS.2.2.2.size) _⟩
            clear hK K
            (try simp only [Act.put, List.setIfInBounds_toArray, List.set_cons_zero, List.set_cons_succ])
            refine takeD 4 (some 45) (v := ?_) rfl (by kernel_rfl) (by kernel_rfl) (by kernel_rfl) (fun _ _ _ h => False.elim h) hS (fun o ho => Or.inl ⟨by cases ho; rfl, ?_⟩) ?_
            rotate_left
            · cases ho
              intro w' hw'
              obtain ⟨r0, r1⟩ := duo_cells hw'.1; have k1 := hw'.2.1; have k2 := hw'.2.2.1
              go_simp
              (try with_reducible rfl)
            (try simp only [Act.put, List.setIfInBounds_toArray, List.set_cons_zero, List.set_cons_succ])
            refine takeD 5 (some 46) (v := ?_) rfl (by kernel_rfl) (by kernel_rfl) (by kernel_rfl) (fun _ _ _ h => False.elim h) hS (fun o ho => Or.inl ⟨by cases ho; rfl, ?_⟩) ?_
            rotate_left
            · cases ho
              intro w' hw'
              obtain ⟨r0, r1⟩ := duo_cells hw'.1; have k1 := hw'.2.1; have k2 := hw'.2.2.1
              go_simp
              (try with_reducible rfl)
            (try simp only [Act.put, List.setIfInBounds_toArray, List.set_cons_zero, List.set_cons_succ])
            refine oneD 10 (some 51) (by kernel_rfl) rfl (fun o ho K hK hdo => ?_)
            simp only [List.getElem?_toArray, List.getElem?_cons_succ, List.getElem?_cons_zero, Option.some.injEq] at ho
            subst ho
            clear hdo
            rw [if_pos (by rfl)]
            go_wp2_with fail
            have CNa := CNX ((wr.alloc (.cells #[.int .i64 s, .slice (some ⟨g, 0, none⟩) N N] 101)).drew) hS.2.2.2
            (go_at_call 91; (with_reducible refine CNa.mono ?_); rintro e W9 ⟨rfl, rfl⟩)
            refine hK.out _ _ ?_ (fun hS => ?_)
            · exact ⟨hS.1, hS.2.1, hS.2.2.1, hS.2.2.2⟩
            clear hK K
            (try simp only [Act.put, List.setIfInBounds_toArray, List.set_cons_zero, List.set_cons_succ])
            refine takeD 11 (some 52) (v := ?_) rfl (by kernel_rfl) (by kernel_rfl) (by kernel_rfl) (fun _ _ _ h => False.elim h) hS (fun o ho => Or.inl ⟨by cases ho; rfl, ?_⟩) ?_
            rotate_left
            · cases ho
              intro w' hw'
              obtain ⟨r0, r1⟩ := duo_cells hw'.1; have k1 := hw'.2.1; have k2 := hw'.2.2.1
              go_simp
              (try with_reducible rfl)
            (try simp only [Act.put, List.setIfInBounds_toArray, List.set_cons_zero, List.set_cons_succ])
            refine takeD 12 (some 53) (v := ?_) rfl (by kernel_rfl) (by kernel_rfl) (by kernel_rfl) (fun _ _ _ h => False.elim h) hS (fun o ho => Or.inl ⟨by cases ho; rfl, ?_⟩) ?_
            rotate_left
            · cases ho
              intro w' hw'
              obtain ⟨r0, r1⟩ := duo_cells hw'.1; have k1 := hw'.2.1; have k2 := hw'.2.2.1
              go_simp
              (try with_reducible rfl)
            (try simp only [Act.put, List.setIfInBounds_toArray, List.set_cons_zero, List.set_cons_succ])
            refine takeD 13 (some 54) (v := ?_) rfl (by kernel_rfl) (by kernel_rfl) (by kernel_rfl) (fun _ _ _ h => False.elim h) hS (fun o ho => Or.inl ⟨by cases ho; rfl, ?_⟩) ?_
            rotate_left
            · cases ho
              intro w' hw'
              obtain ⟨r0, r1⟩ := duo_cells hw'.1; have k1 := hw'.2.1; have k2 := hw'.2.2.1
              go_simp
              (try with_reducible rfl)
            (try simp only [Act.put, List.setIfInBounds_toArray, List.set_cons_zero, List.set_cons_succ])
            refine takeD 14 (some 55) (v := ?_) rfl (by kernel_rfl) (by kernel_rfl) (by kernel_rfl) (fun _ _ _ h => False.elim h) hS (fun o ho => Or.inl ⟨by cases ho; rfl, ?_⟩) ?_
            rotate_left
            · cases ho
              intro w' hw'
              obtain ⟨r0, r1⟩ := duo_cells hw'.1; have k1 := hw'.2.1; have k2 := hw'.2.2.1
              go_simp
              (try with_reducible rfl)
            (try simp only [Act.put, List.setIfInBounds_toArray, List.set_cons_zero, List.set_cons_succ])
            refine wpAnyH_done (by kernel_rfl) ?_ _
            refine thenD rfl (fun o ho K hK => ?_)
            simp only [List.getElem?_toArray, List.getElem?_cons_succ, List.getElem?_cons_zero, Option.some.injEq] at ho
            subst ho
            clear hS
            have z8 : (wr.alloc (.cells #[.int .i64 s, .slice (some ⟨g, 0, none⟩) N N] 101)).drew.cell? ⟨g, x * s + st, none⟩ = some (.int .i64 V1) := cell_al _ Z1
            have y8 : (wr.alloc (.cells #[.int .i64 s, .slice (some ⟨g, 0, none⟩) N N] 101)).drew.frozen? ⟨g, x * s + st, none⟩ = false := (OW.out.below ((Below.refl _ wr).alloc (Nat.le_refl _) (.cells #[.int .i64 s, .slice (some ⟨g, 0, none⟩) N N] 101))).1.frozenAt _
            go_wp2_with fail
            refine hK.out _ _ ?_
            clear hK K
            simp only [Calm]
            obtain ⟨w9, hw9⟩ : ∃ w9, w9 = ((wr.setCell ⟨g, x * s + st, none⟩ (.int .i64 (wrap64 (V1 + V2)))).alloc (.cells #[.int .i64 s, .slice (some ⟨g, 0, none⟩) N N] 101)).drew := ⟨_, rfl⟩
            rw [← hw9]
            have OW9 : Hid (Own (w.heap.size + 1 + 1) w9 (some ⟨g, 0, none⟩) N N (rowE c s x st (d + 1) (colE c s bs x st L0))) := Lib.hid (by
              rw [hw9, ← HST.out]
              exact ((OW.out.storedE (wrap64_wf _)).below ((Below.refl _ _).alloc (Nat.le_refl _) (.cells #[.int .i64 s, .slice (some ⟨g, 0, none⟩) N N] 101))).drewN 1)
            have GB9 : Hid (W8.grownBy w9 (some g)) := Lib.hid (by
              rw [hw9]
              exact gb_drew ((GB.out.trans (gb_set _ g _ _)).trans ((World.grownBy_alloc _ _ none).but (some g))))
            clear hw9
            gi_wp2_with fail
            go_roundw
            case rel => exact ⟨d + 1, by omega, by go_num, OW9, GB9⟩
            case measure => simp [intOf]; omega
          · obtain rfl : bs = d := by omega
            gi_wp2_with fail
            go_roundw
            case rel => exact ⟨st + 1, by omega, by go_num, hown, hgb⟩
            case measure => simp [intOf]; omega
      · obtain rfl : s = st := by omega
        gi_wp2_with fail
        have gbW := GB8.out.trans hgb.out
        have D9 : colE c s bs x s L0 = datE c s bs nP (pre ++ [⟨x, hx⟩]) (flatE s N (c.full bs nP nP)) := by rw [datE_snoc, ← HL0.out]
        refine ⟨KeepsOthers.of_grownBy gbW (fun j o e ho => ?_), gbW.block _ hBsW (by intro e; cases e; omega), ⟨⟨?_, ?_, ?_, ?_⟩, ?_, ?_⟩⟩
        · cases e
          obtain ⟨cs, t, hc⟩ := OWN.out.isCells
          rw [hc] at ho
          cases ho
          rfl
        · exact (gbW.block _ hb1W (by intro e; cases e; omega)).trans BC.out
        · exact (gbW.block _ hb2W (by intro e; cases e; omega)).trans BZ.out
        · exact (gbW.block _ hb3W (by intro e; cases e; omega)).trans BG.out
        · exact (gbW.block _ hBsW (by intro e; cases e; omega)).trans BBs.out
        · have h := hown.out
          rw [D9] at h
          exact h
        · exact BW.out.grown gbW hwW (fun k e => by cases e; omega)
  case done =>
    rintro D ys W hD rfl ⟨⟨bc, bz, bg, bB⟩, own, bw⟩ hK
    obtain ⟨r0, r1⟩ := duo_cells bg
    obtain ⟨p0, p1⟩ := duo_cells bz
    have pf0 := bz.frozen 0
    have pf1 := bz.frozen 1
    have own1 : Own (w.heap.size + 1 + 1) W (some ⟨g, 0, none⟩) N N (flatE s N (c.full bs nP 0)) := by
      have h := own
      dsimp only at h
      rw [HDAT.out] at h
      exact h
    have OWN1 := Lib.hid own1
    have BZ1 := Lib.hid bz
    have BW1 := Lib.hid bw
    clear own own1 bc bB bw bz bg
    gi_wp2_with fail
    obtain ⟨W2, hW2⟩ : ∃ W2, W2 = (W.setCell ⟨w.heap.size + 1, 0, none⟩ (.int .i64 s)).setCell ⟨w.heap.size + 1, 1, none⟩ (.slice (some ⟨g, 0, none⟩) N N) := ⟨_, rfl⟩
    rw [← hW2]
    have hK2 : W2.heap[D]? = some (.deferred (some [])) := by
      rw [hW2]
      exact (KeepsOthers.setCell _ _ _).same D _ ((KeepsOthers.setCell W ⟨w.heap.size + 1, 0, none⟩ (.int .i64 s)).same D _ hK rfl) rfl
    have bz2 : Blk W2 (w.heap.size + 1) #[.int .i64 s, .slice (some ⟨g, 0, none⟩) N N] 101 := by
      rw [hW2]
      simpa using (BZ1.out.set 0 (.int .i64 s)).set 1 (.slice (some ⟨g, 0, none⟩) N N)
    have own2 : Own (w.heap.size + 1 + 1) W2 (some ⟨g, 0, none⟩) N N (flatE s N (c.full bs nP 0)) := OWN1.out.keep fun g' hg' => by
      cases hg'
      rw [hW2, heap_setCell_other _ _ _ _ (by simp; omega), heap_setCell_other _ _ _ _ (by simp; omega)]
    have bw2 : Below w.heap.size w W2 := by
      rw [hW2]
      exact (BW1.out.setCell (p := ⟨w.heap.size + 1, 0, none⟩) (Nat.le_succ _) _).setCell (p := ⟨w.heap.size + 1, 1, none⟩) (Nat.le_succ _) _
    clear hW2 hK
    refine ⟨by simp, .inl ⟨_, _, rfl, run_takeDeferred hK2, ?_⟩⟩
    have bz3 : Blk (W2.putObj D (.deferred none)) (w.heap.size + 1) #[.int .i64 s, .slice (some ⟨g, 0, none⟩) N N] 101 := (World.putObj_heap_other (by omega)).trans bz2
    obtain ⟨p2, p3⟩ := duo_cells bz3
    refine ⟨.agg #[.int .i64 s, .slice (some ⟨g, 0, none⟩) N N], ?_, g, rfl, (own2.keep fun g' hg' => by cases hg'; exact World.putObj_heap_other (by omega)).lower (by omega), bw2.trans (belowK_b (w := w) (Nat.le_refl _) W2 D _ _ (by omega) hK2 rfl rfl)⟩
    simp [results, Try.f80, go_sem, p2, p3]
  case stop =>
    rintro D c pre W _ _ h _
    exact h.elim
end Go.Proofs.Yteggllmiapdmcaa
