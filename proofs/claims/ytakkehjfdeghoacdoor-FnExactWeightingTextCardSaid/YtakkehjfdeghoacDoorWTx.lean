/-
  WeightingText, of the model and of the program.
-/
import Derived.Test.YtakkehjfdeghoacDoorWIs
import Derived.Test.YtakkehjfdeghoacDoorList
import Derived.Lib.Hide
namespace Go.Proofs.YtakkehjfdeghoacDoor
open Go.RowKit

theorem tab_underW {w w' : World} (h : Tab w) (hb : Below w.heap.size w w') : Tab w' :=
  Go.Joins.tab_stays (g := 2) (by kernel_rfl) h hb (Nat.le_refl _)
def itoB (n : Int) : ByteArray := ⟨(Lib.itoa n).toArray⟩
/-- The text of a valid weighting. -/
def wTxt (x : Wt) : ByteArray := ⟨(Lib.join [Lib.itoa x.base, Lib.itoa x.modulus, Lib.itoa x.target, (textR x.W).data.toList] [47]).toArray⟩
def wTxtR (x : Wt) : ByteArray := if wOk x = true then wTxt x else ⟨#[]⟩
theorem wTxtR_yes {x : Wt} (h : wOk x = true) : wTxtR x = wTxt x := by simp [wTxtR, h]
theorem wTxtR_no {x : Wt} (h : wOk x = false) : wTxtR x = ⟨#[]⟩ := by simp [wTxtR, h]
/-- What a valid weighting's numbers are for its text. -/
theorem wOk_parts {x : Wt} {n : Nat} (hl : x.W.length = n) (h : wOk x = true) : (2 ≤ x.base ∧ x.base ≤ 36) ∧ (2 ≤ x.modulus ∧ x.modulus ≤ 36) ∧ (0 ≤ x.target ∧ x.target ≤ 35) ∧ (1 ≤ n ∧ n ≤ 20) ∧ x.W.all inVal = true ∧ listOk x.W = true := by
  unfold wOk manyB at h
  simp only [Bool.and_eq_true, inB_true, List.all_eq_true] at h
  obtain ⟨⟨hb, hn, _⟩, hm, ht, hw⟩ := h
  have hall : x.W.all inVal = true := by
    rw [List.all_eq_true]
    intro z hz
    have := hw z hz
    unfold inVal
    rw [inB_true]
    omega
  refine ⟨by omega, by omega, by omega, by omega, hall, ?_⟩
  unfold listOk
  rw [hall]
  simp
  omega
theorem itoB_size {n : Int} (h : 0 ≤ n ∧ n ≤ 1000) : (itoB n).size ≤ 18 := by
  have := itoa_len (v := n) (by omega)
  simp [itoB, ByteArray.size]; omega
theorem textR_size {zs : List Int} (h : zs.all inVal = true) (hn : zs.length ≤ 20) : (textR zs).size ≤ 400 := by
  unfold textR
  split
  · exact (by decide : (4 : Nat) ≤ 400)
  · have := txt_len h zs.length
    rw [List.take_of_length_le (Nat.le_refl _)] at this
    simp [ByteArray.size]
    omega

set_option maxRecDepth 100000 in
set_option maxHeartbeats 4000000 in
theorem l03Text_any {B b : Nat} (x : Wt) (A : Option Addr) (n c : Nat) (w : World) (hb : Blk w b (wtCells x A n c) 28) (hr : RowB .i64 B w A n x.W) (hB : B ≤ w.heap.size) (hok : wOk x = true) :
    Calls Tryd.prog 16 #[.pointer (some ⟨b, 0, none⟩)] w fun e w' => e = .returned (.string (wTxt x)) ∧ Below w.heap.size w w' := by
  have hl := hr.len
  obtain ⟨p0, p1, p2, p3, p4, _⟩ := wOk_parts hl hok
  have LTB := Lib.hid hb.lt
  obtain ⟨s0, hs0⟩ : ∃ s0, s0 = itoB x.base := ⟨_, rfl⟩
  obtain ⟨s1, hs1⟩ : ∃ s1, s1 = itoB x.modulus := ⟨_, rfl⟩
  obtain ⟨s2, hs2⟩ : ∃ s2, s2 = itoB x.target := ⟨_, rfl⟩
  obtain ⟨s3, hs3⟩ : ∃ s3, s3 = textR x.W := ⟨_, rfl⟩
  have z0 : s0.size ≤ 18 := by rw [hs0]; exact itoB_size (by omega)
  have z1 : s1.size ≤ 18 := by rw [hs1]; exact itoB_size (by omega)
  have z2 : s2.size ≤ 18 := by rw [hs2]; exact itoB_size (by omega)
  have z3 : s3.size ≤ 400 := by rw [hs3]; exact textR_size p4 (by omega)
  have HE : Hid ((((((s0 ++ ⟨#[47]⟩) ++ s1) ++ ⟨#[47]⟩) ++ s2) ++ ⟨#[47]⟩) ++ s3 = wTxt x) := Lib.hid (by
    rw [hs0, hs1, hs2, hs3]
    apply ByteArray.ext
    simp [wTxt, itoB, Lib.join])
  obtain ⟨base, modulus, target, W⟩ := x
  dsimp only at hr hl hs0 hs1 hs2 hs3 p0 p1 p2 p4
  have C0 : ∀ Y, Calls Tryd.prog 32 #[.int .i64 base] Y fun e w' => e = .returned (.string s0) ∧ Below Y.heap.size Y w' := fun Y => by rw [hs0]; exact l01Dec_any base Y (by omega) (by omega)
  have C1 : ∀ Y, Calls Tryd.prog 32 #[.int .i64 modulus] Y fun e w' => e = .returned (.string s1) ∧ Below Y.heap.size Y w' := fun Y => by rw [hs1]; exact l01Dec_any modulus Y (by omega) (by omega)
  have C2 : ∀ Y, Calls Tryd.prog 32 #[.int .i64 target] Y fun e w' => e = .returned (.string s2) ∧ Below Y.heap.size Y w' := fun Y => by rw [hs2]; exact l01Dec_any target Y (by omega) (by omega)
  have C3 : ∀ Y, Below w.heap.size w Y → Calls Tryd.prog 33 #[.slice A n c] Y fun e w' => e = .returned (.string s3) ∧ Below Y.heap.size Y w' := fun Y hY => by rw [hs3]; exact l01Text_any A n c W Y (RowB.below hr (hY.mono hB)) (Nat.le_trans hB hY.size) p4 (by omega)
  have c0 : w.cell? ⟨b, 0, none⟩ = some (.int .i64 base) := hb.cell 0
  have c1 : w.cell? ⟨b, 1, none⟩ = some (.int .i64 modulus) := hb.cell 1
  have c2 : w.cell? ⟨b, 2, none⟩ = some (.int .i64 target) := hb.cell 2
  have c3 : w.cell? ⟨b, 3, none⟩ = some (.slice A n c) := hb.cell 3
  have SF : ∀ X : World, Below w.heap.size w X → X.cell? ⟨b, 0, none⟩ = some (.int .i64 base) ∧ X.cell? ⟨b, 1, none⟩ = some (.int .i64 modulus) ∧ X.cell? ⟨b, 2, none⟩ = some (.int .i64 target) ∧ X.cell? ⟨b, 3, none⟩ = some (.slice A n c) := fun X hX => ⟨(hX.cell (p := ⟨b, 0, none⟩) LTB.out).trans c0, (hX.cell (p := ⟨b, 1, none⟩) LTB.out).trans c1, (hX.cell (p := ⟨b, 2, none⟩) LTB.out).trans c2, (hX.cell (p := ⟨b, 3, none⟩) LTB.out).trans c3⟩
  have SF := Lib.hid SF
  have C3 := Lib.hid C3
  have e47 : (⟨#[47]⟩ : ByteArray).size = 1 := rfl
  have y1 : (s0 ++ ⟨#[47]⟩).size ≤ 19 := by rw [ByteArray.size_append, e47]; omega
  have y2 : ((s0 ++ ⟨#[47]⟩) ++ s1).size ≤ 37 := by rw [ByteArray.size_append]; omega
  have y3 : (((s0 ++ ⟨#[47]⟩) ++ s1) ++ ⟨#[47]⟩).size ≤ 38 := by rw [ByteArray.size_append, e47]; omega
  have y4 : ((((s0 ++ ⟨#[47]⟩) ++ s1) ++ ⟨#[47]⟩) ++ s2).size ≤ 56 := by rw [ByteArray.size_append]; omega
  have y5 : (((((s0 ++ ⟨#[47]⟩) ++ s1) ++ ⟨#[47]⟩) ++ s2) ++ ⟨#[47]⟩).size ≤ 57 := by rw [ByteArray.size_append, e47]; omega
  clear hs0 hs1 hs2 hs3 p0 p1 p2 p4 hr hl hok hb
  go_enter Tryd.func16, Tryd.ntmps16
  go_wp2_with fail
  refine region_held_n 27 (fun w' => w'.cell? ⟨b, 0, none⟩ = some (.int .i64 base) ∧ w'.cell? ⟨b, 1, none⟩ = some (.int .i64 modulus) ∧ w'.cell? ⟨b, 2, none⟩ = some (.int .i64 target) ∧ w'.cell? ⟨b, 3, none⟩ = some (.slice A n c)) (by kernel_rfl) (by kernel_rfl) ⟨c0, c1, c2, c3⟩ (fun hS => ?_)
  refine takeD 0 (some 3) (v := ?_) rfl (by kernel_rfl) (by kernel_rfl) (by kernel_rfl) (fun _ _ _ h => h) hS (fun o ho => Or.inl ⟨by cases ho; rfl, ?_⟩) ?_
  rotate_left
  · cases ho
    intro w' hw'
    (try dsimp only at hw')
    go_simp
    (try with_reducible rfl)
  (try simp only [Act.put, List.setIfInBounds_toArray, List.set_cons_zero, List.set_cons_succ])
  refine takeD 1 (some 4) (v := ?_) rfl (by kernel_rfl) (by kernel_rfl) (by kernel_rfl) (fun _ _ _ h => h) hS (fun o ho => Or.inl ⟨by cases ho; rfl, ?_⟩) ?_
  rotate_left
  · cases ho
    intro w' hw'
    (try dsimp only at hw')
    go_simp
    (try with_reducible rfl)
  (try simp only [Act.put, List.setIfInBounds_toArray, List.set_cons_zero, List.set_cons_succ])
  refine takeD 2 (some 5) (v := ?_) rfl (by kernel_rfl) (by kernel_rfl) (by kernel_rfl) (fun _ _ _ h => h) hS (fun o ho => Or.inl ⟨by cases ho; rfl, ?_⟩) ?_
  rotate_left
  · cases ho
    intro w' hw'
    (try dsimp only at hw')
    go_simp
    (try with_reducible rfl)
  (try simp only [Act.put, List.setIfInBounds_toArray, List.set_cons_zero, List.set_cons_succ])
  refine takeD 3 (some 6) (v := ?_) rfl (by kernel_rfl) (by kernel_rfl) (by kernel_rfl) (fun _ _ _ h => h) hS (fun o ho => Or.inl ⟨by cases ho; rfl, ?_⟩) ?_
  rotate_left
  · cases ho
    intro w' hw'
    (try dsimp only at hw')
    go_simp
    (try with_reducible rfl)
  (try simp only [Act.put, List.setIfInBounds_toArray, List.set_cons_zero, List.set_cons_succ])
  refine takeD 6 (some 9) (v := ?_) rfl (by kernel_rfl) (by kernel_rfl) (by kernel_rfl) (fun _ _ _ h => h) hS (fun o ho => Or.inl ⟨by cases ho; rfl, ?_⟩) ?_
  rotate_left
  · cases ho
    intro w' hw'
    (try dsimp only at hw')
    go_simp
    (try with_reducible rfl)
  (try simp only [Act.put, List.setIfInBounds_toArray, List.set_cons_zero, List.set_cons_succ])
  refine takeD 7 (some 10) (v := ?_) rfl (by kernel_rfl) (by kernel_rfl) (by kernel_rfl) (fun _ _ _ h => h) hS (fun o ho => Or.inl ⟨by cases ho; rfl, ?_⟩) ?_
  rotate_left
  · cases ho
    intro w' hw'
    (try dsimp only at hw')
    go_simp
    (try with_reducible rfl)
  (try simp only [Act.put, List.setIfInBounds_toArray, List.set_cons_zero, List.set_cons_succ])
  refine takeD 8 (some 11) (v := ?_) rfl (by kernel_rfl) (by kernel_rfl) (by kernel_rfl) (fun _ _ _ h => h) hS (fun o ho => Or.inl ⟨by cases ho; rfl, ?_⟩) ?_
  rotate_left
  · cases ho
    intro w' hw'
    (try dsimp only at hw')
    go_simp
    (try with_reducible rfl)
  (try simp only [Act.put, List.setIfInBounds_toArray, List.set_cons_zero, List.set_cons_succ])
  refine takeD 9 (some 12) (v := ?_) rfl (by kernel_rfl) (by kernel_rfl) (by kernel_rfl) (fun _ _ _ h => h) hS (fun o ho => Or.inl ⟨by cases ho; rfl, ?_⟩) ?_
  rotate_left
  · cases ho
    intro w' hw'
    (try dsimp only at hw')
    go_simp
    (try with_reducible rfl)
  (try simp only [Act.put, List.setIfInBounds_toArray, List.set_cons_zero, List.set_cons_succ])
  refine takeD 13 (some 16) (v := ?_) rfl (by kernel_rfl) (by kernel_rfl) (by kernel_rfl) (fun _ _ _ h => h) hS (fun o ho => Or.inl ⟨by cases ho; rfl, ?_⟩) ?_
  rotate_left
  · cases ho
    intro w' hw'
    (try dsimp only at hw')
    go_simp
    (try with_reducible rfl)
  (try simp only [Act.put, List.setIfInBounds_toArray, List.set_cons_zero, List.set_cons_succ])
  refine takeD 14 (some 17) (v := ?_) rfl (by kernel_rfl) (by kernel_rfl) (by kernel_rfl) (fun _ _ _ h => h) hS (fun o ho => Or.inl ⟨by cases ho; rfl, ?_⟩) ?_
  rotate_left
  · cases ho
    intro w' hw'
    (try dsimp only at hw')
    go_simp
    (try with_reducible rfl)
  (try simp only [Act.put, List.setIfInBounds_toArray, List.set_cons_zero, List.set_cons_succ])
  refine takeD 15 (some 18) (v := ?_) rfl (by kernel_rfl) (by kernel_rfl) (by kernel_rfl) (fun _ _ _ h => h) hS (fun o ho => Or.inl ⟨by cases ho; rfl, ?_⟩) ?_
  rotate_left
  · cases ho
    intro w' hw'
    (try dsimp only at hw')
    go_simp
    (try with_reducible rfl)
  (try simp only [Act.put, List.setIfInBounds_toArray, List.set_cons_zero, List.set_cons_succ])
  refine takeD 16 (some 19) (v := ?_) rfl (by kernel_rfl) (by kernel_rfl) (by kernel_rfl) (fun _ _ _ h => h) hS (fun o ho => Or.inl ⟨by cases ho; rfl, ?_⟩) ?_
  rotate_left
  · cases ho
    intro w' hw'
    (try dsimp only at hw')
    go_simp
    (try with_reducible rfl)
  (try simp only [Act.put, List.setIfInBounds_toArray, List.set_cons_zero, List.set_cons_succ])
  refine takeD 20 (some 23) (v := ?_) rfl (by kernel_rfl) (by kernel_rfl) (by kernel_rfl) (fun _ _ _ h => h) hS (fun o ho => Or.inl ⟨by cases ho; rfl, ?_⟩) ?_
  rotate_left
  · cases ho
    intro w' hw'
    (try dsimp only at hw')
    go_simp
    (try with_reducible rfl)
  (try simp only [Act.put, List.setIfInBounds_toArray, List.set_cons_zero, List.set_cons_succ])
  refine takeD 21 (some 24) (v := ?_) rfl (by kernel_rfl) (by kernel_rfl) (by kernel_rfl) (fun _ _ _ h => h) hS (fun o ho => Or.inl ⟨by cases ho; rfl, ?_⟩) ?_
  rotate_left
  · cases ho
    intro w' hw'
    (try dsimp only at hw')
    go_simp
    (try with_reducible rfl)
  (try simp only [Act.put, List.setIfInBounds_toArray, List.set_cons_zero, List.set_cons_succ])
  refine takeD 22 (some 25) (v := ?_) rfl (by kernel_rfl) (by kernel_rfl) (by kernel_rfl) (fun _ _ _ h => h) hS (fun o ho => Or.inl ⟨by cases ho; rfl, ?_⟩) ?_
  rotate_left
  · cases ho
    intro w' hw'
    (try dsimp only at hw')
    go_simp
    (try with_reducible rfl)
  (try simp only [Act.put, List.setIfInBounds_toArray, List.set_cons_zero, List.set_cons_succ])
  refine takeD 23 (some 26) (v := ?_) rfl (by kernel_rfl) (by kernel_rfl) (by kernel_rfl) (fun _ _ _ h => h) hS (fun o ho => Or.inl ⟨by cases ho; rfl, ?_⟩) ?_
  rotate_left
  · cases ho
    intro w' hw'
    (try dsimp only at hw')
    go_simp
    (try with_reducible rfl)
  (try simp only [Act.put, List.setIfInBounds_toArray, List.set_cons_zero, List.set_cons_succ])
  refine oneD 4 (some 7) (by kernel_rfl) rfl (fun o ho K hK hdo => ?_)
  simp only [List.getElem?_toArray, List.getElem?_cons_succ, List.getElem?_cons_zero, Option.some.injEq] at ho
  subst ho
  clear hdo
  rw [if_pos (by rfl)]
  go_wp2_with ((go_at_call 32; (with_reducible refine (C0 _).mono ?_); rintro e w1 ⟨rfl, be1⟩))
  have BB1 : Hid (Below w.heap.size w w1) := Lib.hid (below_of_drew be1)
  clear be1
  refine hK.out _ _ ?_ (fun hS => ?_)
  · exact SF.out _ BB1.out
  clear hK K
  (try simp only [Act.put, List.setIfInBounds_toArray, List.set_cons_zero, List.set_cons_succ])
  refine takeD 5 (some 8) (v := .string (s0 ++ ⟨#[47]⟩)) rfl (by kernel_rfl) (by kernel_rfl) (by kernel_rfl) (fun _ _ _ h => h) hS (fun o ho => Or.inl ⟨by cases ho; rfl, ?_⟩) ?_
  · cases ho
    intro w' hw'
    (try dsimp only at hw')
    go_simp
    (try omega)
  (try simp only [Act.put, List.setIfInBounds_toArray, List.set_cons_zero, List.set_cons_succ])
  refine oneD 10 (some 13) (by kernel_rfl) rfl (fun o ho K hK hdo => ?_)
  simp only [List.getElem?_toArray, List.getElem?_cons_succ, List.getElem?_cons_zero, Option.some.injEq] at ho
  subst ho
  clear hdo
  rw [if_pos (by rfl)]
  go_wp2_with ((go_at_call 32; (with_reducible refine (C1 _).mono ?_); rintro e w2 ⟨rfl, be2⟩))
  have BB2 : Hid (Below w.heap.size w w2) := Lib.hid (BB1.out.trans (be2.mono BB1.out.size))
  clear be2
  refine hK.out _ _ ?_ (fun hS => ?_)
  · exact SF.out _ BB2.out
  clear hK K
  (try simp only [Act.put, List.setIfInBounds_toArray, List.set_cons_zero, List.set_cons_succ])
  refine takeD 11 (some 14) (v := .string ((s0 ++ ⟨#[47]⟩) ++ s1)) rfl (by kernel_rfl) (by kernel_rfl) (by kernel_rfl) (fun _ _ _ h => h) hS (fun o ho => Or.inl ⟨by cases ho; rfl, ?_⟩) ?_
  · cases ho
    intro w' hw'
    (try dsimp only at hw')
    go_simp
    (try omega)
  (try simp only [Act.put, List.setIfInBounds_toArray, List.set_cons_zero, List.set_cons_succ])
  refine takeD 12 (some 15) (v := .string (((s0 ++ ⟨#[47]⟩) ++ s1) ++ ⟨#[47]⟩)) rfl (by kernel_rfl) (by kernel_rfl) (by kernel_rfl) (fun _ _ _ h => h) hS (fun o ho => Or.inl ⟨by cases ho; rfl, ?_⟩) ?_
  · cases ho
    intro w' hw'
    (try dsimp only at hw')
    go_simp
    (try omega)
  (try simp only [Act.put, List.setIfInBounds_toArray, List.set_cons_zero, List.set_cons_succ])
  refine oneD 17 (some 20) (by kernel_rfl) rfl (fun o ho K hK hdo => ?_)
  simp only [List.getElem?_toArray, List.getElem?_cons_succ, List.getElem?_cons_zero, Option.some.injEq] at ho
  subst ho
  clear hdo
  rw [if_pos (by rfl)]
  go_wp2_with ((go_at_call 32; (with_reducible refine (C2 _).mono ?_); rintro e w3 ⟨rfl, be3⟩))
  have BB3 : Hid (Below w.heap.size w w3) := Lib.hid (BB2.out.trans (be3.mono BB2.out.size))
  clear be3
  refine hK.out _ _ ?_ (fun hS => ?_)
  · exact SF.out _ BB3.out
  clear hK K
  (try simp only [Act.put, List.setIfInBounds_toArray, List.set_cons_zero, List.set_cons_succ])
  refine takeD 18 (some 21) (v := .string ((((s0 ++ ⟨#[47]⟩) ++ s1) ++ ⟨#[47]⟩) ++ s2)) rfl (by kernel_rfl) (by kernel_rfl) (by kernel_rfl) (fun _ _ _ h => h) hS (fun o ho => Or.inl ⟨by cases ho; rfl, ?_⟩) ?_
  · cases ho
    intro w' hw'
    (try dsimp only at hw')
    go_simp
    (try omega)
  (try simp only [Act.put, List.setIfInBounds_toArray, List.set_cons_zero, List.set_cons_succ])
  refine takeD 19 (some 22) (v := .string (((((s0 ++ ⟨#[47]⟩) ++ s1) ++ ⟨#[47]⟩) ++ s2) ++ ⟨#[47]⟩)) rfl (by kernel_rfl) (by kernel_rfl) (by kernel_rfl) (fun _ _ _ h => h) hS (fun o ho => Or.inl ⟨by cases ho; rfl, ?_⟩) ?_
  · cases ho
    intro w' hw'
    (try dsimp only at hw')
    go_simp
    (try omega)
  (try simp only [Act.put, List.setIfInBounds_toArray, List.set_cons_zero, List.set_cons_succ])
  refine oneD 24 (some 27) (by kernel_rfl) rfl (fun o ho K hK hdo => ?_)
  simp only [List.getElem?_toArray, List.getElem?_cons_succ, List.getElem?_cons_zero, Option.some.injEq] at ho
  subst ho
  clear hdo
  rw [if_pos (by rfl)]
  go_wp2_with ((go_at_call 33; (with_reducible refine (C3.out _ BB3.out).mono ?_); rintro e w4 ⟨rfl, be4⟩))
  have BB4 : Hid (Below w.heap.size w w4) := Lib.hid (BB3.out.trans (be4.mono BB3.out.size))
  clear be4
  refine hK.out _ _ ?_ (fun hS => ?_)
  · exact SF.out _ BB4.out
  clear hK K
  (try simp only [Act.put, List.setIfInBounds_toArray, List.set_cons_zero, List.set_cons_succ])
  refine takeD 25 (some 28) (v := .string ((((((s0 ++ ⟨#[47]⟩) ++ s1) ++ ⟨#[47]⟩) ++ s2) ++ ⟨#[47]⟩) ++ s3)) rfl (by kernel_rfl) (by kernel_rfl) (by kernel_rfl) (fun _ _ _ h => h) hS (fun o ho => Or.inl ⟨by cases ho; rfl, ?_⟩) ?_
  · cases ho
    intro w' hw'
    (try dsimp only at hw')
    go_simp
    (try omega)
  (try simp only [Act.put, List.setIfInBounds_toArray, List.set_cons_zero, List.set_cons_succ])
  refine takeD 26 (some 2) (v := ?_) rfl (by kernel_rfl) (by kernel_rfl) (by kernel_rfl) (fun _ _ _ h => h) hS (fun o ho => Or.inl ⟨by cases ho; rfl, ?_⟩) ?_
  rotate_left
  · cases ho
    intro w' hw'
    (try dsimp only at hw')
    go_simp
    (try with_reducible rfl)
  (try simp only [Act.put, List.setIfInBounds_toArray, List.set_cons_zero, List.set_cons_succ])
  refine wpAnyH_done (by kernel_rfl) ?_ _
  clear hS
  go_wp2_with fail
  go_ret
  exact ⟨ret_string HE.out, BB4.out⟩
set_option maxHeartbeats 1000000 in
theorem specWTxt_any {B : Nat} (x : Wt) (A : Option Addr) (n c : Nat) (w : World) (hr : RowB .i64 B w A n x.W) (hB : B ≤ w.heap.size) :
    Calls Tryd.prog 6 #[wtV x A n c] w fun e w' => e = twoT (wTxtR x) (wOk x) ∧ Below w.heap.size w w' := by
  obtain ⟨w1, hw1⟩ : ∃ w1, w1 = w.alloc (.cells (wtCells x A n c) 28) := ⟨_, rfl⟩
  have bel : Below w.heap.size w w1 := by rw [hw1]; exact (Below.refl _ w).alloc (Nat.le_refl _) _
  have b1 : Blk w1 w.heap.size (wtCells x A n c) 28 := by rw [hw1]; exact Blk.new _ _ _
  have r1 := RowB.below hr (bel.mono hB)
  have CC := l03Is_any x A n c w1 b1 r1
  have BEL := Lib.hid bel
  have B1 := Lib.hid b1
  have R1 := Lib.hid r1
  clear bel b1 r1 hr
  rcases h1 : wOk x with _ | _
  · rw [h1] at CC
    have HO := Lib.hid h1
    clear h1
    go_enter Tryd.func6, Tryd.ntmps6
    go_wp2_with fail
    rw [← hw1]
    have HW1 := Lib.hid hw1
    clear hw1
    (go_at_call 15; (with_reducible refine (CC).mono ?_); rintro e w2 ⟨rfl, m, rfl⟩)
    go_wp2_with fail
    go_ret2
    exact ⟨twoT_eq (wTxtR_no HO.out).symm rfl, below_drewN BEL.out _⟩
  · rw [h1] at CC
    have HO := Lib.hid h1
    clear h1
    go_enter Tryd.func6, Tryd.ntmps6
    go_wp2_with fail
    rw [← hw1]
    have HW1 := Lib.hid hw1
    clear hw1
    (go_at_call 15; (with_reducible refine (CC).mono ?_); rintro e w2 ⟨rfl, m, hw2⟩)
    have bl2 : Below w.heap.size w w2 := by rw [hw2]; exact below_drewN BEL.out m
    have b2 : Blk w2 w.heap.size (wtCells x A n c) 28 := by rw [hw2]; exact B1.out
    have r2 : RowB .i64 B w2 A n x.W := by rw [hw2]; exact RowB.drewN R1.out m
    have CT := l03Text_any x A n c w2 b2 r2 (Nat.le_trans hB bl2.size) HO.out
    have BL2 := Lib.hid bl2
    clear CC hw2 bl2 b2 r2
    go_wp2_with fail
    (go_at_call 16; (with_reducible refine (CT).mono ?_); rintro e w3 ⟨rfl, be3⟩)
    have BE3 := Lib.hid be3
    clear be3
    go_wp2_with fail
    go_ret2
    exact ⟨twoT_eq (wTxtR_yes HO.out).symm rfl, BL2.out.trans (BE3.out.mono BL2.out.size)⟩
set_option maxRecDepth 100000 in
set_option maxHeartbeats 4000000 in
theorem implWTxt_any {B : Nat} (x : Wt) (A : Option Addr) (n c : Nat) (w : World) (hr : RowB .i64 B w A n x.W) (hB : B ≤ w.heap.size) (hT : Tab w) :
    Calls Tryd.prog 8 #[wtV x A n c] w fun e w' => e = twoT (wTxtR x) (wOk x) ∧ Below w.heap.size w w' := by
  have hl := hr.len
  obtain ⟨w1, hw1⟩ : ∃ w1, w1 = w.alloc (.cells #[.int .i64 x.base, .int .i64 x.modulus, .int .i64 x.target, .slice A n c] 28) := ⟨_, rfl⟩
  have bel : Below w.heap.size w w1 := by rw [hw1]; exact (Below.refl _ w).alloc (Nat.le_refl _) _
  have b1 : Blk w1 w.heap.size #[.int .i64 x.base, .int .i64 x.modulus, .int .i64 x.target, .slice A n c] 28 := by rw [hw1]; exact Blk.new _ _ _
  have r1 := RowB.below hr (bel.mono hB)
  have CV := validW_any x A n c w1 r1 (Nat.le_trans hB bel.size)
  have TT : ∀ Y, Below w.heap.size w Y → Tab Y := fun Y hY => tab_underW hT hY
  have TT := Lib.hid TT
  have BEL := Lib.hid bel
  have B1 := Lib.hid b1
  have R1 := Lib.hid r1
  have LT1 := Lib.hid b1.lt
  clear bel b1 r1 hr hT
  rcases h1 : wOk x with _ | _
  · rw [h1] at CV
    have HO := Lib.hid h1
    clear h1
    go_enter Tryd.func8, Tryd.ntmps8
    go_wp2_with fail
    rw [← hw1]
    have HW1 := Lib.hid hw1
    clear hw1
    (go_at_call 18; (with_reducible refine (CV).mono ?_); rintro e w2 ⟨rfl, be2⟩)
    have BE2 := Lib.hid be2
    clear be2
    go_wp2_with fail
    go_ret2
    exact ⟨twoT_eq (wTxtR_no HO.out).symm rfl, BEL.out.trans (BE2.out.mono BEL.out.size)⟩
  · rw [h1] at CV
    have HO := Lib.hid h1
    obtain ⟨p0, p1, p2, p3, p4, p5⟩ := wOk_parts hl h1
    clear h1
    go_enter Tryd.func8, Tryd.ntmps8
    go_wp2_with fail
    rw [← hw1]
    have HW1 := Lib.hid hw1
    clear hw1
    (go_at_call 18; (with_reducible refine (CV).mono ?_); rintro e w2 ⟨rfl, be2⟩)
    have b2 := B1.out.below be2 LT1.out
    have bl2 : Below w.heap.size w w2 := BEL.out.trans (be2.mono BEL.out.size)
    have r2 : RowB .i64 B w2 A n x.W := RowB.below R1.out (be2.mono (Nat.le_trans hB BEL.out.size))
    have CL := implList_any A n c x.W w2 (r2.up (Nat.le_trans hB bl2.size)) (TT.out w2 bl2)
    rw [p5, show listR x.W = textR x.W by unfold listR; rw [if_pos p5]] at CL
    have k3 := b2.cell 3
    have B2 := Lib.hid b2
    have BL2 := Lib.hid bl2
    have LT2 := Lib.hid b2.lt
    obtain ⟨s0, hs0⟩ : ∃ s0, s0 = itoB x.base := ⟨_, rfl⟩
    obtain ⟨s1, hs1⟩ : ∃ s1, s1 = itoB x.modulus := ⟨_, rfl⟩
    obtain ⟨s2, hs2⟩ : ∃ s2, s2 = itoB x.target := ⟨_, rfl⟩
    obtain ⟨s3, hs3⟩ : ∃ s3, s3 = textR x.W := ⟨_, rfl⟩
    rw [← hs3] at CL
    have HE : Hid ((⟨(Lib.join ([s0, s1, s2, s3].map (·.data.toList)) (⟨#[47]⟩ : ByteArray).data.toList).toArray⟩ : ByteArray) = wTxt x) := Lib.hid (by
      rw [hs0, hs1, hs2, hs3]
      simp [wTxt, itoB])
    have hj : (Lib.join ([s0, s1, s2, s3].map (·.data.toList)) (⟨#[47]⟩ : ByteArray).data.toList).length ≤ 140737488355328 := by
      have z0 : s0.size ≤ 18 := by rw [hs0]; exact itoB_size (by omega)
      have z1 : s1.size ≤ 18 := by rw [hs1]; exact itoB_size (by omega)
      have z2 : s2.size ≤ 18 := by rw [hs2]; exact itoB_size (by omega)
      have z3 : s3.size ≤ 400 := by rw [hs3]; exact textR_size p4 (by omega)
      have q0 : s0.data.size ≤ 18 := z0
      have q1 : s1.data.size ≤ 18 := z1
      have q2 : s2.data.size ≤ 18 := z2
      have q3 : s3.data.size ≤ 400 := z3
      simp [Lib.join]
      omega
    have HJ := Lib.hid hj
    obtain ⟨base, modulus, target, W⟩ := x
    dsimp only at p0 p1 p2 hs0 hs1 hs2
    have C0 : ∀ Y, Below w.heap.size w Y → Calls Tryd.prog 21 #[.int .i64 base] Y fun e w' => e = .returned (.string s0) ∧ Below Y.heap.size Y w' := fun Y hY => by rw [hs0]; exact implDecimal_any base Y (by omega) (by omega) (TT.out Y hY)
    have C1 : ∀ Y, Below w.heap.size w Y → Calls Tryd.prog 21 #[.int .i64 modulus] Y fun e w' => e = .returned (.string s1) ∧ Below Y.heap.size Y w' := fun Y hY => by rw [hs1]; exact implDecimal_any modulus Y (by omega) (by omega) (TT.out Y hY)
    have C2 : ∀ Y, Below w.heap.size w Y → Calls Tryd.prog 21 #[.int .i64 target] Y fun e w' => e = .returned (.string s2) ∧ Below Y.heap.size Y w' := fun Y hY => by rw [hs2]; exact implDecimal_any target Y (by omega) (by omega) (TT.out Y hY)
    have C0 := Lib.hid C0
    have C1 := Lib.hid C1
    have C2 := Lib.hid C2
    clear be2 b2 bl2 r2 CV hj hs0 hs1 hs2 hs3 p0 p1 p2 p3 p4 p5
    go_wp2_with fail
    (go_at_call 19; (with_reducible refine (CL).mono ?_); rintro e w3 ⟨rfl, be3⟩)
    have b3 := B2.out.below be3 LT2.out
    have bl3 : Below w.heap.size w w3 := BL2.out.trans (be3.mono BL2.out.size)
    have c0 : w3.cell? ⟨w.heap.size, 0, none⟩ = some (.int .i64 base) := b3.cell 0
    have c1 : w3.cell? ⟨w.heap.size, 1, none⟩ = some (.int .i64 modulus) := b3.cell 1
    have c2 : w3.cell? ⟨w.heap.size, 2, none⟩ = some (.int .i64 target) := b3.cell 2
    have lt3 := b3.lt
    have SF : ∀ X : World, Below w3.heap.size w3 X → X.cell? ⟨w.heap.size, 0, none⟩ = some (.int .i64 base) ∧ X.cell? ⟨w.heap.size, 1, none⟩ = some (.int .i64 modulus) ∧ X.cell? ⟨w.heap.size, 2, none⟩ = some (.int .i64 target) := fun X hX => ⟨(hX.cell (p := ⟨w.heap.size, 0, none⟩) lt3).trans c0, (hX.cell (p := ⟨w.heap.size, 1, none⟩) lt3).trans c1, (hX.cell (p := ⟨w.heap.size, 2, none⟩) lt3).trans c2⟩
    have SF := Lib.hid SF
    have BL3 := Lib.hid bl3
    have BD3 : Hid (Below w.heap.size w w3.drew) := Lib.hid (below_drewN bl3 1)
    clear be3 b3 bl3 CL k3 lt3
    go_wp2_with fail
    refine region_held_n 14 (fun w' => w'.cell? ⟨w.heap.size, 0, none⟩ = some (.int .i64 base) ∧ w'.cell? ⟨w.heap.size, 1, none⟩ = some (.int .i64 modulus) ∧ w'.cell? ⟨w.heap.size, 2, none⟩ = some (.int .i64 target)) (by kernel_rfl) (by kernel_rfl) ⟨c0, c1, c2⟩ (fun hS => ?_)
    refine takeD 0 (some 15) (v := ?_) rfl (by kernel_rfl) (by kernel_rfl) (by kernel_rfl) (fun _ _ _ h => h) hS (fun o ho => Or.inl ⟨by cases ho; rfl, ?_⟩) ?_
    rotate_left
    · cases ho
      intro w' hw'
      (try dsimp only at hw')
      go_simp
      (try with_reducible rfl)
    (try simp only [Act.put, List.setIfInBounds_toArray, List.set_cons_zero, List.set_cons_succ])
    refine takeD 1 (some 16) (v := ?_) rfl (by kernel_rfl) (by kernel_rfl) (by kernel_rfl) (fun _ _ _ h => h) hS (fun o ho => Or.inl ⟨by cases ho; rfl, ?_⟩) ?_
    rotate_left
    · cases ho
      intro w' hw'
      (try dsimp only at hw')
      go_simp
      (try with_reducible rfl)
    (try simp only [Act.put, List.setIfInBounds_toArray, List.set_cons_zero, List.set_cons_succ])
    refine takeD 3 (some 18) (v := ?_) rfl (by kernel_rfl) (by kernel_rfl) (by kernel_rfl) (fun _ _ _ h => h) hS (fun o ho => Or.inl ⟨by cases ho; rfl, ?_⟩) ?_
    rotate_left
    · cases ho
      intro w' hw'
      (try dsimp only at hw')
      go_simp
      (try with_reducible rfl)
    (try simp only [Act.put, List.setIfInBounds_toArray, List.set_cons_zero, List.set_cons_succ])
    refine takeD 4 (some 19) (v := ?_) rfl (by kernel_rfl) (by kernel_rfl) (by kernel_rfl) (fun _ _ _ h => h) hS (fun o ho => Or.inl ⟨by cases ho; rfl, ?_⟩) ?_
    rotate_left
    · cases ho
      intro w' hw'
      (try dsimp only at hw')
      go_simp
      (try with_reducible rfl)
    (try simp only [Act.put, List.setIfInBounds_toArray, List.set_cons_zero, List.set_cons_succ])
    refine takeD 6 (some 21) (v := ?_) rfl (by kernel_rfl) (by kernel_rfl) (by kernel_rfl) (fun _ _ _ h => h) hS (fun o ho => Or.inl ⟨by cases ho; rfl, ?_⟩) ?_
    rotate_left
    · cases ho
      intro w' hw'
      (try dsimp only at hw')
      go_simp
      (try with_reducible rfl)
    (try simp only [Act.put, List.setIfInBounds_toArray, List.set_cons_zero, List.set_cons_succ])
    refine takeD 7 (some 22) (v := ?_) rfl (by kernel_rfl) (by kernel_rfl) (by kernel_rfl) (fun _ _ _ h => h) hS (fun o ho => Or.inl ⟨by cases ho; rfl, ?_⟩) ?_
    rotate_left
    · cases ho
      intro w' hw'
      (try dsimp only at hw')
      go_simp
      (try with_reducible rfl)
    (try simp only [Act.put, List.setIfInBounds_toArray, List.set_cons_zero, List.set_cons_succ])
    refine takeD 9 (some 24) (v := ?_) rfl (by kernel_rfl) (by kernel_rfl) (by kernel_rfl) (fun _ _ _ h => h) hS (fun o ho => Or.inl ⟨by cases ho; rfl, ?_⟩) ?_
    rotate_left
    · cases ho
      intro w' hw'
      (try dsimp only at hw')
      go_simp
      (try with_reducible rfl)
    (try simp only [Act.put, List.setIfInBounds_toArray, List.set_cons_zero, List.set_cons_succ])
    refine oneD 2 (some 17) (by kernel_rfl) rfl (fun o ho K hK hdo => ?_)
    simp only [List.getElem?_toArray, List.getElem?_cons_succ, List.getElem?_cons_zero, Option.some.injEq] at ho
    subst ho
    clear hdo
    rw [if_pos (by rfl)]
    go_wp2_with ((go_at_call 21; (with_reducible refine (C0.out _ BD3.out).mono ?_); rintro e w4 ⟨rfl, be1⟩))
    have BB1 : Hid (Below w3.heap.size w3 w4) := Lib.hid (below_of_drew be1)
    clear be1
    refine hK.out _ _ ?_ (fun hS => ?_)
    · exact SF.out _ BB1.out
    clear hK K
    (try simp only [Act.put, List.setIfInBounds_toArray, List.set_cons_zero, List.set_cons_succ])
    refine oneD 5 (some 20) (by kernel_rfl) rfl (fun o ho K hK hdo => ?_)
    simp only [List.getElem?_toArray, List.getElem?_cons_succ, List.getElem?_cons_zero, Option.some.injEq] at ho
    subst ho
    clear hdo
    rw [if_pos (by rfl)]
    go_wp2_with ((go_at_call 21; (with_reducible refine (C1.out _ (BL3.out.trans (BB1.out.mono BL3.out.size))).mono ?_); rintro e w5 ⟨rfl, be2⟩))
    have BB2 : Hid (Below w3.heap.size w3 w5) := Lib.hid (BB1.out.trans (be2.mono BB1.out.size))
    clear be2
    refine hK.out _ _ ?_ (fun hS => ?_)
    · exact SF.out _ BB2.out
    clear hK K
    (try simp only [Act.put, List.setIfInBounds_toArray, List.set_cons_zero, List.set_cons_succ])
    refine oneD 8 (some 23) (by kernel_rfl) rfl (fun o ho K hK hdo => ?_)
    simp only [List.getElem?_toArray, List.getElem?_cons_succ, List.getElem?_cons_zero, Option.some.injEq] at ho
    subst ho
    clear hdo
    rw [if_pos (by rfl)]
    go_wp2_with ((go_at_call 21; (with_reducible refine (C2.out _ (BL3.out.trans (BB2.out.mono BL3.out.size))).mono ?_); rintro e w6 ⟨rfl, be3⟩))
    have BB3 : Hid (Below w3.heap.size w3 w6) := Lib.hid (BB2.out.trans (be3.mono BB2.out.size))
    clear be3
    refine hK.out _ _ ?_ (fun hS => ?_)
    · exact SF.out _ BB3.out
    clear hK K
    (try simp only [Act.put, List.setIfInBounds_toArray, List.set_cons_zero, List.set_cons_succ])
    refine oneD 10 (some 25) (by kernel_rfl) rfl (fun o ho K hK hdo => ?_)
    simp only [List.getElem?_toArray, List.getElem?_cons_succ, List.getElem?_cons_zero, Option.some.injEq] at ho
    subst ho
    clear hdo
    rw [if_pos (by rfl)]
    go_wp2_with (fail)
    obtain ⟨w7, hw7⟩ : ∃ w7, w7 = w6.alloc (.cells #[.string s0, .string s1, .string s2, .string s3] 9) := ⟨_, rfl⟩
    rw [← hw7]
    have BB4 : Hid (Below w3.heap.size w3 w7) := Lib.hid (by rw [hw7]; exact BB3.out.alloc BB3.out.size _)
    have B7 : Blk w7 w6.heap.size #[.string s0, .string s1, .string s2, .string s3] 9 := by rw [hw7]; exact Blk.new _ _ _
    have CJ := Tryd.strings_Join w6.heap.size 0 4 [s0, s1, s2, s3] ⟨#[47]⟩ w7 (fun j x hj => by rw [Nat.zero_add, B7.cell j]; match j, hj with | 0, hj => simpa using hj | 1, hj => simpa using hj | 2, hj => simpa using hj | 3, hj => simpa using hj | j + 4, hj => simp at hj) B7.lt (by simp) (by simp) HJ.out
    rw [HE.out, show [s0, s1, s2, s3].length = 4 from rfl] at CJ
    clear hw7 B7
    refine hK.out _ _ ?_ (fun hS => ?_)
    · exact SF.out _ BB4.out
    clear hK K
    (try simp only [Act.put, List.setIfInBounds_toArray, List.set_cons_zero, List.set_cons_succ])
    refine oneD 11 (some 26) (by kernel_rfl) rfl (fun o ho K hK hdo => ?_)
    simp only [List.getElem?_toArray, List.getElem?_cons_succ, List.getElem?_cons_zero, Option.some.injEq] at ho
    subst ho
    clear hdo
    rw [if_pos (by rfl)]
    go_wp2_with ((go_at_call 20; (with_reducible refine (CJ).mono ?_); rintro e w8 ⟨rfl, be5⟩))
    have BB5 : Hid (Below w3.heap.size w3 w8) := Lib.hid (BB4.out.trans (be5.mono BB4.out.size))
    clear be5
    refine hK.out _ _ ?_ (fun hS => ?_)
    · exact SF.out _ BB5.out
    clear hK K
    (try simp only [Act.put, List.setIfInBounds_toArray, List.set_cons_zero, List.set_cons_succ])
    refine takeD 12 (some 2) (v := ?_) rfl (by kernel_rfl) (by kernel_rfl) (by kernel_rfl) (fun _ _ _ h => h) hS (fun o ho => Or.inl ⟨by cases ho; rfl, ?_⟩) ?_
    rotate_left
    · cases ho
      intro w' hw'
      (try dsimp only at hw')
      go_simp
      (try with_reducible rfl)
    (try simp only [Act.put, List.setIfInBounds_toArray, List.set_cons_zero, List.set_cons_succ])
    refine takeD 13 (some 3) (v := ?_) rfl (by kernel_rfl) (by kernel_rfl) (by kernel_rfl) (fun _ _ _ h => h) hS (fun o ho => Or.inl ⟨by cases ho; rfl, ?_⟩) ?_
    rotate_left
    · cases ho
      intro w' hw'
      (try dsimp only at hw')
      go_simp
      (try with_reducible rfl)
    (try simp only [Act.put, List.setIfInBounds_toArray, List.set_cons_zero, List.set_cons_succ])
    refine wpAnyH_done (by kernel_rfl) ?_ _
    clear hS
    go_wp2_with fail
    go_ret2
    exact ⟨twoT_eq (wTxtR_yes HO.out).symm rfl, BL3.out.trans (BB5.out.mono BL3.out.size)⟩
end Go.Proofs.YtakkehjfdeghoacDoor
