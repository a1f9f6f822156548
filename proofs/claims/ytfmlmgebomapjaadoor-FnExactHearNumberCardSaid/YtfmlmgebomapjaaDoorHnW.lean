/-
  Heard numbers of the program, whole.
-/
import Derived.Test.YtfmlmgebomapjaaDoorHnI
namespace Go.Proofs.YtfmlmgebomapjaaDoor
open Go Go.RowKit

theorem texts_atI {ps : List ByteArray} {P : List (List UInt8)} (h : textsOf ps = P) {k : Nat} {p : ByteArray} (hp : ps[k]? = some p) : P[k]? = some p.data.toList := by
  rw [← h]; unfold textsOf; rw [List.getElem?_map, hp]; rfl

/-- The parts of a text, or too many of them, in a block of their own. -/
def SplitQ9 (l : List UInt8) (w : World) (e : Ending) (w' : World) : Prop :=
  ∃ (g L cc : Nat) (ps : List ByteArray), e = .returned (.slice (some ⟨g, 0, none⟩) L cc) ∧ Hid (ps.length = L) ∧ w.heap.size ≤ g ∧ g < w'.heap.size ∧ Hid (∀ (j : Nat) p, ps[j]? = some p → w'.cell? ⟨g, j, none⟩ = some (.string p)) ∧ L ≤ 9 ∧ Hid ((8 < (cut 45 l).length ∧ 8 < ps.length) ∨ (ps.length ≤ 8 ∧ textsOf ps = cut 45 l)) ∧ Below w.heap.size w w'
theorem splitQ_any (s : ByteArray) (m : Int) (w : World) (hs : s.size ≤ 1048576) (hm : w.cell? ⟨4, 0, none⟩ = some (.int .i64 m)) :
    Calls Tryd.prog 64 #[.string s, .string ⟨#[45]⟩, .int .i64 9] w (SplitQ9 s.data.toList w) :=
  (splitN9_any s m w hs hm).mono fun _ _ ⟨cc, ps, he, hc, h9, hp, hl, hb⟩ => ⟨w.heap.size, ps.length, cc, ps, he, Lib.hid rfl, Nat.le_refl _, hl, Lib.hid hc, h9, Lib.hid hp, hb⟩

set_option maxRecDepth 100000 in
set_option maxHeartbeats 8000000 in
theorem implHear_any (F S s : ByteArray) (m0 : Int) (w : World) (hF : F.size ≤ 1048576) (hS : S.size ≤ 1048576) (hs : s.size ≤ 1048576) (hm : w.cell? ⟨4, 0, none⟩ = some (.int .i64 m0)) :
    Calls Tryd.prog 35 #[spV F S, .string s] w fun e w' => e = hnE (hnO F S (cut 45 s.data.toList)) ∧ Below w.heap.size w w' := by
  have hgl := block_of_cell hm
  obtain ⟨W1, hW1⟩ : ∃ W, W = w.alloc (.cells #[.string F, .string S] 50) := ⟨_, rfl⟩
  have bA : Below w.heap.size w W1 := by rw [hW1]; exact (Below.refl _ w).alloc (Nat.le_refl _) _
  have p0 : W1.cell? ⟨w.heap.size, 0, none⟩ = some (.string F) := by rw [hW1]; simp
  have p1 : W1.cell? ⟨w.heap.size, 1, none⟩ = some (.string S) := by rw [hW1]; simp
  have l1 : w.heap.size < W1.heap.size := by rw [hW1]; simp
  have B1 := Lib.hid bA
  have CS := splitQ_any s m0 W1 hs ((bA.cell (p := ⟨4, 0, none⟩) hgl).trans hm)
  have HW1 := Lib.hid hW1
  clear hm hgl bA hW1
  go_enter Tryd.func35, Tryd.ntmps35
  go_wp2_with fail
  rw [← HW1.out]
  (go_at_call 64; (with_reducible refine (CS).mono ?_); rintro e w2 ⟨g, L, cc, ps, rfl, HPL, hgB, hg2, HC, hL9, HP, b1⟩)
  have q0 : w2.cell? ⟨w.heap.size, 0, none⟩ = some (.string F) := (b1.cell (p := ⟨w.heap.size, 0, none⟩) l1).trans p0
  have q1 : w2.cell? ⟨w.heap.size, 1, none⟩ = some (.string S) := (b1.cell (p := ⟨w.heap.size, 1, none⟩) l1).trans p1
  have l2 : w.heap.size < w2.heap.size := Nat.lt_of_lt_of_le l1 b1.size
  have B2 := Lib.hid (B1.out.trans (b1.mono B1.out.size))
  have CM := fun W => numbers_any F S L W hF hS
  clear b1 p0 p1 CS
  rcases hm : nmOk F S L with _ | _
  · have H : Hid (hnO F S (cut 45 s.data.toList) = none) := Lib.hid (hnO_no (by
      rcases HP.out with ⟨h1, _⟩ | ⟨_, h2⟩
      · exact nm_long h1
      · rw [← h2, show (textsOf ps).length = L by rw [← HPL.out]; simp]; exact hm))
    have hv : nmV F S L = 0 := by unfold nmV; rw [hm]; rfl
    rw [hm, hv] at CM
    clear hm hv
    go_wp2_with (go_at_call 65; (with_reducible refine (CM _).mono ?_); rintro e w3 ⟨rfl, b3⟩)
    go_ret2
    exact ⟨hn_no H.out, B2.out.trans (b3.mono B2.out.size)⟩
  · have hm' := hm
    unfold nmOk at hm'
    simp only [Bool.and_eq_true] at hm'
    obtain ⟨h1, h2, h3⟩ := hm'
    obtain ⟨⟨hF1, hF20⟩, hS1, hS6⟩ := sp_parts h1
    obtain ⟨hb1, hb120⟩ := base_bd h1
    have hk := inB_true.1 h2
    have hL8 : L ≤ 8 := by omega
    have HT : Hid (textsOf ps = cut 45 s.data.toList) := Lib.hid (by
      rcases HP.out with ⟨_, h5⟩ | ⟨_, h5⟩
      · rw [HPL.out] at h5; omega
      · exact h5)
    have HCL : Hid ((cut 45 s.data.toList).length = L) := Lib.hid (by rw [← HT.out, ← HPL.out]; simp)
    have HY : Hid (hnO F S (cut 45 s.data.toList) = hearN F S (cut 45 s.data.toList) 0) := Lib.hid (hnO_yes (by rw [HCL.out]; exact hm))
    have CB := fun W => base_any F S W hF20 hS6
    have CN := fun p W => numberOf_any F S p W hF20 hS6
    obtain ⟨Q, hQ⟩ : ∃ Q, Q = F.size * S.size := ⟨_, rfl⟩
    have HQ := Lib.hid hQ
    rw [← hQ] at CB hb1 hb120 h3
    rw [Int.toNat_natCast] at h3
    have HM : Hid (∀ k n, k ≤ L → n < Q ^ k → n < 1000000000000000) := Lib.hid (fun k n hk hn => by
      have h5 := pw_mono hb1 hk
      unfold pwOk at h3
      rw [decide_eq_true_eq] at h3
      omega)
    obtain ⟨v, hv⟩ : ∃ v, v = nmV F S L := ⟨_, rfl⟩
    rw [hm, ← hv] at CM
    clear hm hv h1 h2 h3 hQ hk
    go_wp2_with fail
    (go_at_call 65; (with_reducible refine (CM _).mono ?_); rintro e w3 ⟨rfl, b3⟩)
    have r0 : w3.cell? ⟨w.heap.size, 0, none⟩ = some (.string F) := (b3.cell (p := ⟨w.heap.size, 0, none⟩) l2).trans q0
    have r1 : w3.cell? ⟨w.heap.size, 1, none⟩ = some (.string S) := (b3.cell (p := ⟨w.heap.size, 1, none⟩) l2).trans q1
    have l3 : w.heap.size < w3.heap.size := Nat.lt_of_lt_of_le l2 b3.size
    have g3 : g < w3.heap.size := Nat.lt_of_lt_of_le hg2 b3.size
    have HC3 : Hid (∀ (j : Nat) p, ps[j]? = some p → w3.cell? ⟨g, j, none⟩ = some (.string p)) := Lib.hid (fun j p h => (b3.cell (p := ⟨g, j, none⟩) hg2).trans (HC.out j p h))
    have B3 := Lib.hid (B2.out.trans (b3.mono B2.out.size))
    clear b3 q0 q1 HC CM
    go_wp2_with fail
    go_loopw [9, 11, 12, 13, 27] (fun x _ _ _ y wr => ∃ (k n : Nat), k ≤ L ∧ y = .int .i64 (k : Int) ∧ x = .int .i64 (n : Int) ∧ Hid (HnIn F S (cut 45 s.data.toList) k n) ∧ Below w3.heap.size w3 wr) (fun _ _ _ _ y _ => L - (intOf y).toNat)
    case atStart => exact ⟨0, 0, by omega, rfl, rfl, Lib.hid (HnIn.zero F S _), Below.refl _ _⟩
    case round =>
      obtain ⟨k, n, hk, rfl, rfl, hI, hbl⟩ := hrel
      obtain ⟨W, hW⟩ : ∃ W, W = wr := ⟨_, rfl⟩
      rw [← hW] at hbl ⊢
      clear hW
      have hnb : n < 1000000000000000 := HM.out k n hk (by rw [HQ.out]; exact hI.out.2)
      have B4 := Lib.hid (B3.out.trans (hbl.mono B3.out.size))
      by_cases hlt : k < L
      · have hkp : k < ps.length := by have := HPL.out; omega
        have hpk : ps[k]? = some ps[k] := List.getElem?_eq_getElem hkp
        obtain ⟨p, hpp⟩ : ∃ p, p = ps[k] := ⟨_, rfl⟩
        rw [← hpp] at hpk
        have HCU := Lib.hid (texts_atI HT.out hpk)
        have hcp : W.cell? ⟨g, k, none⟩ = some (.string p) := (hbl.cell (p := ⟨g, k, none⟩) g3).trans (HC3.out k p hpk)
        have y0 : W.cell? ⟨w.heap.size, 0, none⟩ = some (.string F) := (hbl.cell (p := ⟨w.heap.size, 0, none⟩) l3).trans r0
        have y1 : W.cell? ⟨w.heap.size, 1, none⟩ = some (.string S) := (hbl.cell (p := ⟨w.heap.size, 1, none⟩) l3).trans r1
        have lW : w.heap.size < W.heap.size := Nat.lt_of_lt_of_le l3 hbl.size
        have hlti : (k : Int) < (L : Int) := by omega
        have CNp := CN p
        clear hpk hpp CN
        rcases hd : nmO F S p.data.toList with _ | d
        · have H : Hid (hnO F S (cut 45 s.data.toList) = none) := Lib.hid (HY.out.trans (hI.out.bad HCU.out hd))
          rw [hd] at CNp
          have CNq : ∀ W, Calls Tryd.prog 66 #[spV F S, .string p] W fun e w' => e = two 0 false ∧ Below W.heap.size W w' := CNp
          clear hd CNp
          go_wp2_with (go_at_call 66; (with_reducible refine (CNq _).mono ?_); rintro e w5 ⟨rfl, b5⟩)
          go_ret2
          exact ⟨hn_no H.out, B4.out.trans (b5.mono B4.out.size)⟩
        · have hN := hI.out.next HCU.out hd
          have hdl := nmO_lt hd
          rw [hd] at CNp
          have CNq : ∀ W, Calls Tryd.prog 66 #[spV F S, .string p] W fun e w' => e = two (d : Int) true ∧ Below W.heap.size W w' := CNp
          rw [← HQ.out] at hN hdl
          obtain ⟨X, hX⟩ : ∃ X, X = n * Q := ⟨_, rfl⟩
          have hmulX : (n : Int) * (Q : Int) = (X : Int) := by rw [hX]; simp
          rw [← hX] at hN
          have hXb : X ≤ 120000000000000000 := by rw [hX]; exact Nat.le_trans (Nat.mul_le_mul (Nat.le_of_lt hnb) hb120) (by decide)
          have hd120 : d ≤ 120 := by omega
          have HN := Lib.hid hN
          have HW : Hid (wrap64 (X : Int) = (X : Int)) := Lib.hid (IntWalk.wrap64_in _ (by omega))
          have HV0 : Hid ((X : Int) + (d : Int) = ((X + d : Nat) : Int)) := Lib.hid (by omega)
          have HV1 : Hid (wrap64 ((X : Int) + (d : Int)) = ((X + d : Nat) : Int)) := Lib.hid ((IntWalk.wrap64_in ((X : Int) + (d : Int)) (by omega)).trans (by omega))
          have HV2 : Hid (wrap64 (wrap64 (X : Int) + (d : Int)) = ((X + d : Nat) : Int)) := Lib.hid (by rw [HW.out]; exact HV1.out)
          clear hd CNp hX hN hdl
          go_wp2_with fail
          (go_at_call 66; (with_reducible refine (CNq _).mono ?_); rintro e w5 ⟨rfl, b5⟩)
          have t0 : w5.cell? ⟨w.heap.size, 0, none⟩ = some (.string F) := (b5.cell (p := ⟨w.heap.size, 0, none⟩) lW).trans y0
          have t1 : w5.cell? ⟨w.heap.size, 1, none⟩ = some (.string S) := (b5.cell (p := ⟨w.heap.size, 1, none⟩) lW).trans y1
          have B5 := Lib.hid (hbl.trans (b5.mono hbl.size))
          clear b5 y0 y1
          go_wp2_with fail
          (go_at_call 67; (with_reducible refine (CB _).mono ?_); rintro e w6 ⟨rfl, b6⟩)
          have B6 := Lib.hid (B5.out.trans (b6.mono B5.out.size))
          clear b6
          go_wp2_with fail
          clear hmulX
          go_roundw
          case rel => exact ⟨k + 1, X + d, by omega, by go_num, (by first | exact congrArg _ HV0.out | exact congrArg _ HV1.out | exact congrArg _ HV2.out), HN, B6.out⟩
          case measure => simp [intOf]; omega
      · have H : Hid (hnO F S (cut 45 s.data.toList) = some n) := Lib.hid (HY.out.trans (hI.out.done (by rw [HCL.out]; omega)))
        have hlti : ¬ (k : Int) < (L : Int) := by omega
        go_wp2_with fail
        go_ret2
        exact ⟨hn_yes H.out, B4.out⟩
end Go.Proofs.YtfmlmgebomapjaaDoor
