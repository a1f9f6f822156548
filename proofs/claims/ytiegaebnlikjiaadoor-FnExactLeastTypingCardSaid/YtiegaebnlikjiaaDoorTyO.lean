/-
  The costs of the ends of two words, as the program fills them.
-/
import Derived.Test.YtiegaebnlikjiaaDoorTyL
import Derived.Test.YtiegaebnlikjiaaDoorEdW
import Derived.Deep.RegionWith
namespace Go.Proofs.YtiegaebnlikjiaaDoor
open Go Go.RowKit

/-- The typing of two words: a block of the call's own with all costs. -/
def GotTy (a b : ByteArray) (w : World) (e : Ending) (w' : World) : Prop :=
  ∃ g F, e = .returned (.pointer (some ⟨g, 0, none⟩)) ∧ TyB w' g a b F ∧ w.heap.size ≤ g ∧ (∀ i j, i ≤ a.size → j ≤ b.size → F i j = cst true a b i j) ∧ Below w.heap.size w w'
theorem mv_zero {m : Nat} (h : mvA m = 0) : mvB m = 1 := by
  match m, h with
  | 0, h => cases h
  | 1, h => cases h
  | 2, _ => rfl
  | 3, h => cases h
  | m + 4, h => cases h
set_option maxRecDepth 100000 in
set_option maxHeartbeats 8000000 in
theorem typingOf_any (a b : ByteArray) (w : World) (hM : HeldM w) (ha : a.size ≤ 20) (hb : b.size ≤ 20) :
    Calls Tryd.prog 25 #[.string a, .string b] w (GotTy a b w) := by
  have ez := zeroTy a b
  obtain ⟨w1, hw1⟩ : ∃ w1, w1 = w.alloc (.cells (tyA a b (fun _ _ => 0)) 46) := ⟨_, rfl⟩
  have b1 : TyB w1 w.heap.size a b (fun _ _ => 0) := by rw [hw1]; exact Blk.new _ _ _
  have bel1 : Below w.heap.size w w1 := by rw [hw1]; exact (Below.refl _ w).alloc (Nat.le_refl _) _
  have B1 := Lib.hid b1
  have BEL1 := Lib.hid bel1
  have HM := Lib.hid hM
  clear b1 bel1 hM
  go_enter Tryd.func25, Tryd.ntmps25
  go_wp2_with fail
  rw [← hw1]
  clear hw1 ez
  go_loopw [6, 7] (fun s _ wr => ∃ (i1 : Nat) (z : Int) (F : Nat → Nat → Nat), i1 ≤ a.size + 1 ∧ z + 1 = (i1 : Int) ∧ s = .int .i64 z ∧ Hid (TyB wr w.heap.size a b F) ∧ Hid (∀ x y, i1 ≤ x → x ≤ a.size → y ≤ b.size → F x y = cst true a b x y) ∧ Below w.heap.size w wr) (fun s _ _ => (intOf s + 1).toNat)
  case atStart => exact ⟨a.size + 1, a.size, _, by omega, by omega, rfl, B1, Lib.hid (fun x y h1 h2 _ => absurd h1 (by omega)), BEL1.out⟩
  case round =>
    obtain ⟨i1, z, F, hi1, hz, rfl, hty, hF, hbel⟩ := hrel
    by_cases h0 : i1 = 0
    · obtain rfl : z = -1 := by omega
      subst h0
      go_wp2_with fail
      go_ret
      exact ⟨_, F, rfl, hty.out, Nat.le_refl _, fun x y hx hy => hF.out x y (Nat.zero_le _) hx hy, hbel⟩
    · obtain ⟨i, rfl⟩ : ∃ i, i1 = i + 1 := ⟨i1 - 1, by omega⟩
      obtain rfl : z = (i : Int) := by omega
      clear h0 hz
      have hia : i ≤ a.size := by omega
      go_wp2_with fail
      go_loopw [7] (fun s wr => ∃ (j1 : Nat) (z : Int) (G : Nat → Nat → Nat), j1 ≤ b.size + 1 ∧ z + 1 = (j1 : Int) ∧ s = .int .i64 z ∧ Hid (TyB wr w.heap.size a b G) ∧ Hid (∀ x y, i + 1 ≤ x → x ≤ a.size → y ≤ b.size → G x y = cst true a b x y) ∧ Hid (∀ y, j1 ≤ y → y ≤ b.size → G i y = cst true a b i y) ∧ Below w.heap.size w wr) (fun s _ => (intOf s + 1).toNat)
      case atStart => exact ⟨b.size + 1, b.size, F, by omega, by omega, rfl, hty, hF, Lib.hid (fun y h1 h2 => absurd h1 (by omega)), hbel⟩
      case round =>
        obtain ⟨j1, z, G, hj1, hz, rfl, hty, hF, hG, hbel⟩ := hrel
        by_cases h0 : j1 = 0
        · obtain rfl : z = -1 := by omega
          subst h0
          have HN : Hid (∀ x y, i ≤ x → x ≤ a.size → y ≤ b.size → G x y = cst true a b x y) := Lib.hid (fun x y h1 h2 h3 => by
            rcases Nat.eq_or_lt_of_le h1 with h4 | h4
            · rw [← h4]; exact hG.out y (Nat.zero_le _) h3
            · exact hF.out x y h4 h2 h3)
          go_wp2_with fail
          go_roundw
          case rel => exact ⟨i, (i : Int) - 1, G, by omega, by omega, by go_num, hty, HN, hbel⟩
          case measure => simp [intOf]
        · obtain ⟨j, rfl⟩ : ∃ j, j1 = j + 1 := ⟨j1 - 1, by omega⟩
          obtain rfl : z = (j : Int) := by omega
          clear h0 hz
          have hjb : j ≤ b.size := by omega
          obtain ⟨W, hW⟩ : ∃ W, W = wr := ⟨_, rfl⟩
          rw [← hW] at hty hbel ⊢
          clear hW
          have hFm : ∀ m, m < 5 → fitM a b i j m = true → G (i + mvA m) (j + mvB m) = cst true a b (i + mvA m) (j + mvB m) := fun m _ hf => by
            have h1 := fit_in hia hjb hf
            by_cases hA : mvA m = 0
            · rw [hA, mv_zero hA, Nat.add_zero]
              have h2 := mv_zero hA
              exact hG.out _ (Nat.le_refl _) (by omega)
            · exact hF.out _ _ (by omega) h1.1 h1.2
          have CL0 := fun (W : World) (h : TyB W w.heap.size a b G ∧ HeldM W) => leastMove_any a b G i j W h.1 h.2 hia hjb ha hb hFm
          obtain ⟨V, hV⟩ : ∃ V, V = cst true a b i j := ⟨_, rfl⟩
          have HV := Lib.hid hV
          unfold GotMv at CL0
          rw [← hV] at CL0
          have CL := CL0
          have hS0 : TyB W w.heap.size a b G ∧ HeldM W := ⟨hty.out, HM.out.below hbel HM.out.lt⟩
          have i21 : (i : Int) < 21 := by omega
          have j21 : (j : Int) < 21 := by omega
          clear CL0 hV hFm
          have CLd := CL W.drew hS0
          clear CL
          go_wp2_with fail
          go_region_with (go_at_call 40; (with_reducible refine (CLd).mono ?_); rintro e w5 ⟨rfl, bf⟩; have X2 := Lib.hid (TyB.below hS0.1 (below_of_drew bf)); have X3 := Lib.hid (hbel.trans ((below_of_drew bf).mono hbel.size)); have fr2 : w5.frozen? ⟨w.heap.size, 2 + i * 21 + j, none⟩ = false := Blk.frozen X2.out _; have old2 : w5.cell? ⟨w.heap.size, 2 + i * 21 + j, none⟩ = some (.int .i64 ((G i j : Nat) : Int)) := (by rw [show 2 + i * 21 + j = i * 21 + j + 2 by omega]; exact TyB.at_ X2.out (by omega) (by omega)); have X4 : Hid (TyB (w5.setCell ⟨w.heap.size, 2 + i * 21 + j, none⟩ (.int .i64 (V : Int))) w.heap.size a b (tyPut G i j V)) := Lib.hid (by rw [show 2 + i * 21 + j = i * 21 + j + 2 by omega]; exact TyB.put X2.out V (by omega) (by omega)); have X5 : Hid (Below w.heap.size w (w5.setCell ⟨w.heap.size, 2 + i * 21 + j, none⟩ (.int .i64 (V : Int)))) := Lib.hid (X3.out.setCell (Nat.le_refl _) _); clear bf)
          go_wp2_with fail
          go_roundw
          case rel =>
            refine ⟨j, (j : Int) - 1, tyPut G i j V, by omega, by omega, by go_num, X4, Lib.hid (fun x y h1 h2 h3 => ?_), Lib.hid (fun y h1 h2 => ?_), X5.out⟩
            · rw [tyPut_ne G (by omega)]; exact hF.out x y h1 h2 h3
            · by_cases hy : y = j
              · rw [hy, tyPut_same, HV.out]
              · rw [tyPut_ne G (by omega)]; exact hG.out y (by omega) h2
          case measure => simp [intOf]
end Go.Proofs.YtiegaebnlikjiaaDoor
