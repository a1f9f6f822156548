/-
  The walk of the law of HearNumber.
-/
import Derived.Test.YtfmlmgebomapjaaDoorHnS
import Derived.Test.YtfmlmgebomapjaaDoorHnW
import Derived.Test.YtfmlmgebomapjaaDoorSpL
import Derived.Stop.Joined
namespace Go.Proofs.YtfmlmgebomapjaaDoor
open Go Go.RowKit

theorem maxLen_held {W : World} (hS : W.ShapedOpen Tryd.prog) : ∃ m, W.cell? ⟨4, 0, none⟩ = some (.int .i64 m) := cell_of_shapedOpen_int (zero := #[.int .i64 0]) (t := 3) hS (of_decide_eq_true (by kernel_rfl)) (by kernel_rfl) rfl (by kernel_rfl) (by kernel_rfl) Tryd.underlying3
set_option maxRecDepth 100000 in
set_option maxHeartbeats 4000000 in
theorem hear_walkC (F S s : ByteArray) (w : World) (hF : F.size ≤ maxLen) (hS : S.size ≤ maxLen) (m0 : Int) (hm : w.cell? ⟨4, 0, none⟩ = some (.int .i64 m0)) (hs : s.size ≤ maxLen) :
    Calls Tryd.prog 10 #[.agg #[.string F, .string S], .string s] w fun e w' => e = .returned (.bool true) ∧ Below w.heap.size w w' := by
  have hs' := hs
  unfold maxLen at hs'
  obtain ⟨u, ok, hu⟩ : ∃ (u : Int) (ok : Bool), hnE (hnO F S (cut 45 s.data.toList)) = .returned (.tuple #[.int .i64 u, .bool ok]) := ⟨_, _, rfl⟩
  have HE := Lib.hid hu
  have hgl := block_of_cell hm
  have HM := Lib.hid hm
  clear hu hm
  by_cases hla : 1048576 < s.size
  · go_enter Tryd.func10, Tryd.ntmps10
    go_wp2_with fail
    go_ret
    exact ⟨rfl, (Below.refl _ w).alloc (Nat.le_refl _) _⟩
  · have hsl : s.size ≤ 1048576 := by omega
    have hlai : ¬ (1048576 : Int) < (s.size : Int) := by omega
    go_enter Tryd.func10, Tryd.ntmps10
    go_wp2_with fail
    (go_at_call 32; (with_reducible refine (szSpeech_any F S _ hF hS).mono ?_); rintro e w1 ⟨⟨z, rfl, hz⟩, b1⟩)
    have B1 : Hid (Below w.heap.size w w1) := Lib.hid (((Below.refl _ w).alloc (Nat.le_refl _) _).trans (b1.mono (by simp)))
    have q0 : w1.cell? ⟨w.heap.size, 0, none⟩ = some (.string F) := (b1.cell (p := ⟨w.heap.size, 0, none⟩) (by simp)).trans (by simp)
    have q1 : w1.cell? ⟨w.heap.size, 1, none⟩ = some (.string S) := (b1.cell (p := ⟨w.heap.size, 1, none⟩) (by simp)).trans (by simp)
    have l1 : w.heap.size < w1.heap.size := by have := b1.size; simp at this; omega
    clear b1
    by_cases hneg : z < 0
    · go_wp2_with fail
      go_ret
      exact ⟨rfl, B1.out⟩
    · obtain ⟨hF2, hS2⟩ := hz (by omega)
      clear hz
      go_wp2_with fail
      (go_at_call 34; (with_reducible refine (toSpeech_any F S _).mono ?_); rintro e w2 ⟨rfl, b2⟩)
      have r0 : w2.cell? ⟨w.heap.size, 0, none⟩ = some (.string F) := (b2.cell (p := ⟨w.heap.size, 0, none⟩) l1).trans q0
      have r1 : w2.cell? ⟨w.heap.size, 1, none⟩ = some (.string S) := (b2.cell (p := ⟨w.heap.size, 1, none⟩) l1).trans q1
      have l2 : w.heap.size < w2.heap.size := Nat.lt_of_lt_of_le l1 b2.size
      have B2 := Lib.hid (B1.out.trans (b2.mono B1.out.size))
      clear b2 q0 q1
      have CS : Calls Tryd.prog 33 #[spV F S, .string s] w2 fun e w' => e = .returned (.tuple #[.int .i64 u, .bool ok]) ∧ Below w2.heap.size w2 w' := (specHear_any F S s w2 hF2 hS2 hsl).mono fun e w' he => ⟨he.1.trans HE.out, he.2⟩
      go_wp2_with fail
      (go_at_call 33; (with_reducible refine (CS).mono ?_); rintro e w3 ⟨rfl, b3⟩)
      have s0 : w3.cell? ⟨w.heap.size, 0, none⟩ = some (.string F) := (b3.cell (p := ⟨w.heap.size, 0, none⟩) l2).trans r0
      have s1 : w3.cell? ⟨w.heap.size, 1, none⟩ = some (.string S) := (b3.cell (p := ⟨w.heap.size, 1, none⟩) l2).trans r1
      have B3 := Lib.hid (B2.out.trans (b3.mono B2.out.size))
      clear b3 r0 r1 CS
      go_wp2_with fail
      (go_at_call 34; (with_reducible refine (toSpeech_any F S _).mono ?_); rintro e w4 ⟨rfl, b4⟩)
      have B4 := Lib.hid (B3.out.trans (b4.mono B3.out.size))
      have CI : Calls Tryd.prog 35 #[spV F S, .string s] w4 fun e w' => e = .returned (.tuple #[.int .i64 u, .bool ok]) ∧ Below w4.heap.size w4 w' := (implHear_any F S s m0 w4 hF2 hS2 hsl ((B4.out.cell (p := ⟨4, 0, none⟩) hgl).trans HM.out)).mono fun e w' he => ⟨he.1.trans HE.out, he.2⟩
      clear b4
      go_wp2_with fail
      (go_at_call 35; (with_reducible refine (CI).mono ?_); rintro e w5 ⟨rfl, b5⟩)
      have B5 := Lib.hid (B4.out.trans (b5.mono B4.out.size))
      clear b5 CI
      have hbe : (ok != ok) = false := by simp
      have hbu : (u != u) = false := by simp
      go_wp2_with fail
      go_ret
      exact ⟨rfl, B5.out⟩
theorem hear_walk (F S s : ByteArray) (w : World) (hF : F.size ≤ maxLen) (hS : S.size ≤ maxLen) (hs : s.size ≤ maxLen) (_ : laidMetH Tryd.prog Rows.fnExactHearNumberRow.laid w) (hsh : w.ShapedOpen Tryd.prog) :
    Calls Tryd.prog 10 #[.agg #[.string F, .string S], .string s] w fun e w' => e = .returned (.bool true) ∧ Below w.heap.size w w' := by
  obtain ⟨m, hm⟩ := maxLen_held hsh
  exact hear_walkC F S s w hF hS m hm hs
end Go.Proofs.YtfmlmgebomapjaaDoor
