/-
  Whether a script goes over all of two words; the move of a letter.
-/
import Derived.Test.YtiegaebnlikjiaaDoorTyF
import Derived.Test.YtiegaebnlikjiaaDoorEdW
import Derived.Deep.CutRange
import Derived.Deep.WholeRow
import Derived.Laws.CopyOwn
namespace Go.Proofs.YtiegaebnlikjiaaDoor
open Go Go.RowKit

def ltN (r : Nat) : Option Nat := if r = 61 then some 0 else if r = 68 then some 1 else if r = 73 then some 2 else if r = 83 then some 3 else if r = 88 then some 4 else none
theorem ltN_at {k : Nat} (h : k < 5) : ltN (mvL k) = some k := by
  rcases (show k = 0 ∨ k = 1 ∨ k = 2 ∨ k = 3 ∨ k = 4 by omega) with rfl | rfl | rfl | rfl | rfl <;> rfl
theorem ltN_no {r : Nat} (h : ∀ j, j < 5 → ¬ mvL j = r) : ltN r = none := by
  have h0 : ¬ 61 = r := h 0 (by omega)
  have h1 : ¬ 68 = r := h 1 (by omega)
  have h2 : ¬ 73 = r := h 2 (by omega)
  have h3 : ¬ 83 = r := h 3 (by omega)
  have h4 : ¬ 88 = r := h 4 (by omega)
  unfold ltN
  rw [if_neg (by omega), if_neg (by omega), if_neg (by omega), if_neg (by omega), if_neg (by omega)]
theorem ltN_5 {r m : Nat} (h : ltN r = some m) : m < 5 ∧ r = mvL m := by
  unfold ltN at h
  split at h
  · cases h; exact ⟨by omega, by assumption⟩
  · split at h
    · cases h; exact ⟨by omega, by assumption⟩
    · split at h
      · cases h; exact ⟨by omega, by assumption⟩
      · split at h
        · cases h; exact ⟨by omega, by assumption⟩
        · split at h
          · cases h; exact ⟨by omega, by assumption⟩
          · cases h
theorem ltN_high {r : Nat} (h : 128 ≤ r) : ltN r = none := by
  unfold ltN
  rw [if_neg (by omega), if_neg (by omega), if_neg (by omega), if_neg (by omega), if_neg (by omega)]
/-- Whether a script goes over all that lies behind two places. -/
def apS (a b : ByteArray) : List UInt8 → Nat → Nat → Bool
  | [], i, k => decide (i = a.size ∧ k = b.size)
  | c :: r, i, k =>
    match ltN c.toNat with
    | none => false
    | some m => fitM a b i k m && apS a b r (i + mvA m) (k + mvB m)
section
variable {a b s : ByteArray} {i k p m : Nat}
theorem aps_end (h : ¬ p < s.size) : apS a b (s.data.toList.drop p) i k = decide (i = a.size ∧ k = b.size) := by
  rw [drop_none h]; rfl
theorem aps_none (h : p < s.size) (hl : ltN s[p].toNat = none) : apS a b (s.data.toList.drop p) i k = false := by
  rw [drop_at h]
  show (match ltN s[p].toNat with | none => false | some m => _) = false
  rw [hl]
theorem aps_some (h : p < s.size) (hl : ltN s[p].toNat = some m) : apS a b (s.data.toList.drop p) i k = (fitM a b i k m && apS a b (s.data.toList.drop (p + 1)) (i + mvA m) (k + mvB m)) := by
  rw [drop_at h]
  show (match ltN s[p].toNat with | none => false | some m => _) = _
  rw [hl]
end
def apOk (s a b : ByteArray) : Bool := (wordB a 36 && wordB b 36) && apS a b s.data.toList 0 0
def apV (s a b : ByteArray) : ByteArray := if apOk s a b = true then b else ByteArray.empty
abbrev twoS (v : ByteArray) (b : Bool) : Ending := .returned (.tuple #[.string v, .bool b])

theorem ltN_not {r : Nat} (h : ltN r = none) : ¬ r = 61 ∧ ¬ r = 68 ∧ ¬ r = 73 ∧ ¬ r = 83 ∧ ¬ r = 88 := by
  unfold ltN at h
  split at h
  · cases h
  · split at h
    · cases h
    · split at h
      · cases h
      · split at h
        · cases h
        · split at h
          · cases h
          · exact ⟨by assumption, by assumption, by assumption, by assumption, by assumption⟩
theorem twoS_no {s a b : ByteArray} (_ : (wordB a 36 && wordB b 36) = true) (h : apS a b s.data.toList 0 0 = false) : Ending.returned (.tuple #[.string { data := #[] }, .bool false]) = twoS (apV s a b) (apOk s a b) := by
  have e : apOk s a b = false := by unfold apOk; rw [h, Bool.and_false]
  unfold apV
  rw [e]; rfl
theorem twoS_bad {s a b : ByteArray} (h : (wordB a 36 && wordB b 36) = false) : Ending.returned (.tuple #[.string { data := #[] }, .bool false]) = twoS (apV s a b) (apOk s a b) := by
  have e : apOk s a b = false := by unfold apOk; rw [h, Bool.false_and]
  unfold apV
  rw [e]; rfl
theorem twoS_yes {s a b : ByteArray} (h0 : (wordB a 36 && wordB b 36) = true) (h : apS a b s.data.toList 0 0 = true) : Ending.returned (.tuple #[.string b, .bool true]) = twoS (apV s a b) (apOk s a b) := by
  have e : apOk s a b = true := by unfold apOk; rw [h0, h]; rfl
  unfold apV
  rw [e]; rfl

def zeroM : Array Value := #[.int .i32 0, .int .i64 0, .int .i64 0, .int .i64 0]
def mvOr (r : Nat) : Array Value :=
  match ltN r with
  | none => zeroM
  | some m => mvCs m
theorem one4 (x0 x1 x2 x3 : Int) : (#[Value.int .i32 x0, .int .i64 x1, .int .i64 x2, .int .i64 x3] : Array Value).all (·.oneCell') = true := by
  rw [Array.all_eq_true_iff_forall_mem]
  intro v hv
  simp at hv
  rcases hv with rfl | rfl | rfl | rfl <;> rfl
theorem index_mvF (k : Nat) (hk : k < 5) (W : World) : (Instr.index 76 (.agg mvAll.toArray) (.int .i64 (k : Int))).run Tryd.prog W = .ok (.agg #[.int .i32 (mvL k : Nat), .int .i64 (mvC k : Nat), .int .i64 (mvA k : Nat), .int .i64 (mvB k : Nat)]) W := by
  rcases (show k = 0 ∨ k = 1 ∨ k = 2 ∨ k = 3 ∨ k = 4 by omega) with rfl | rfl | rfl | rfl | rfl
  all_goals kernel_rfl
theorem mvL_100 (m : Nat) : mvL m ≤ 100 := by
  unfold mvL; split <;> omega
set_option maxRecDepth 100000 in
set_option maxHeartbeats 8000000 in
theorem moveFor_any (r : Nat) (w : World) (hM : HeldM w) :
    Calls Tryd.prog 27 #[.int .i32 r] w fun e w' => e = .returned (.tuple #[.agg (mvOr r), .bool (ltN r).isSome]) ∧ Below w.heap.size w w' := by
  obtain ⟨w1, hw1⟩ : ∃ w1, w1 = w.alloc (.cells zeroM 51) := ⟨_, rfl⟩
  have bel1 : Below w.heap.size w w1 := by rw [hw1]; exact (Below.refl _ w).alloc (Nat.le_refl _) _
  have b1 : Blk w1 w.heap.size zeroM 51 := by rw [hw1]; exact Blk.new _ _ _
  obtain ⟨AV, hAV⟩ : ∃ AV : Array Value, AV = mvAll.toArray := ⟨_, rfl⟩
  have HI := fun (k : Nat) (W : World) (hk : k < 5) => index_mvF k hk W
  have hsz : (Tryd.prog.info? 76).map (·.size) = some mvAll.toArray.size := by kernel_rfl
  obtain ⟨tt, fr, hld⟩ := hM.up bel1
  rw [← hAV] at HI hsz hld
  rw [hw1] at hld
  unfold zeroM at hld
  have B1 := Lib.hid b1
  have BEL1 := Lib.hid bel1
  clear hAV hM b1 bel1
  unfold zeroM at hw1
  go_enter Tryd.func27, Tryd.ntmps27
  go_wp2_with (refine wpList_load_row rfl 76 _ rfl 0 rfl _ AV _ _ hld Tryd.underlying76 rfl hsz ?_)
  rw [← hw1]
  clear hw1 hld hsz
  go_loopw [5, 7] (fun _ s7 wr => ∃ k : Nat, k ≤ 5 ∧ s7 = .int .i64 k ∧ Hid (∀ j, j < k → ¬ mvL j = r) ∧ Hid (Blk wr w.heap.size zeroM 51) ∧ Below w.heap.size w wr) (fun _ s7 _ => 5 - (intOf s7).toNat)
  case atStart => exact ⟨0, by omega, rfl, Lib.hid (fun j hj => absurd hj (by omega)), B1, BEL1.out⟩
  case round =>
    obtain ⟨k, hk, rfl, hno, hbk, hbel⟩ := hrel
    obtain ⟨W, hW⟩ : ∃ W, W = wr := ⟨_, rfl⟩
    rw [← hW] at hbk hbel ⊢
    clear hW
    by_cases hlt : k < 5
    · have HIk := fun W => HI k W hlt
      clear HI
      have hL1 := mvL_100 k
      have HLT := Lib.hid (ltN_at hlt)
      have HC : Hid (mvCs k = #[.int .i32 (mvL k : Nat), .int .i64 (mvC k : Nat), .int .i64 (mvA k : Nat), .int .i64 (mvB k : Nat)]) := Lib.hid rfl
      have HNO : Hid (¬ mvL k = r → ∀ j, j < k + 1 → ¬ mvL j = r) := Lib.hid (fun h j hj => by
        rcases Nat.lt_or_ge j k with h1 | h1
        · exact hno.out j h1
        · obtain rfl : j = k := by omega
          exact h)
      generalize mvL k = L at *
      generalize mvC k = C at *
      generalize mvA k = A at *
      generalize mvB k = B at *
      obtain ⟨CC, hCC⟩ : ∃ CC : Array Value, CC = #[.int .i32 (L : Int), .int .i64 (C : Int), .int .i64 (A : Int), .int .i64 (B : Int)] := ⟨_, rfl⟩
      obtain ⟨w2, hw2⟩ : ∃ w2, w2 = W.alloc (.cells #[.int .i32 (L : Int), .int .i64 (C : Int), .int .i64 (A : Int), .int .i64 (B : Int)] 51) := ⟨_, rfl⟩
      have bm : Blk w2 W.heap.size #[.int .i32 (L : Int), .int .i64 (C : Int), .int .i64 (A : Int), .int .i64 (B : Int)] 51 := by rw [hw2]; exact Blk.new _ _ _
      have bel2 : Below W.heap.size W w2 := by rw [hw2]; exact (Below.refl _ W).alloc (Nat.le_refl _) _
      have hb2 := hbk.out.below bel2 hbk.out.lt
      have HB2 := Lib.hid hb2
      have HBEL2 := Lib.hid (hbel.trans (bel2.mono hbel.size))
      obtain ⟨gm, hgm⟩ : ∃ gm, gm = W.heap.size := ⟨_, rfl⟩
      rw [← hgm] at bm
      have m0 := bm.cell 0
      rw [← hCC] at bm HC
      have HSZ : (Tryd.prog.info? 51).map (·.size) = some CC.size := by rw [hCC]; kernel_rfl
      have HS2 : zeroM.size = CC.size := by rw [hCC]; rfl
      have HO : CC.all (·.oneCell') = true := by rw [hCC]; exact one4 _ _ _ _
      have Z1 : Hid (Blk (w2.setRow w.heap.size CC) w.heap.size CC 51) := Lib.hid (setRow_heap _ _ _ _ _ _ hb2)
      have Z3 : Hid (Below w.heap.size w (w2.setRow w.heap.size CC)) := Lib.hid (below_setRow HBEL2.out (Nat.le_refl _) _)
      have HCC := Lib.hid hCC
      clear hCC bel2
      by_cases heq : L = r
      · subst heq
        have HMV : Hid (mvOr L = CC ∧ (ltN L).isSome = true) := Lib.hid (by unfold mvOr; rw [HLT.out]; exact ⟨HC.out, rfl⟩)
        go_upto_region 4 with fail
        rw [← hw2, ← hgm]
        clear hw2 hgm
        go_wp2_with (first | (refine wpList_load_row rfl 51 _ rfl gm rfl _ CC _ _ bm Tryd.underlying51 rfl HSZ ?_) | (refine wpList_store_row rfl 51 _ _ rfl w.heap.size CC rfl rfl _ _ hb2 HSZ HS2 HO ?_))
        obtain ⟨w9, hw9⟩ : ∃ w9, w9 = w2.setRow w.heap.size CC := ⟨_, rfl⟩
        rw [← hw9] at Z1 Z3
        rw [← hw9]
        have z1 := Z1.out
        rw [HCC.out] at z1
        have r0 := z1.cell 0
        have r1 := z1.cell 1
        have r2 := z1.cell 2
        have r3 := z1.cell 3
        refine bodyPost_ret (v := .tuple #[.agg #[.int .i32 (L : Int), .int .i64 (C : Int), .int .i64 (A : Int), .int .i64 (B : Int)], .bool true]) (by simp [results, Tryd.results27, go_sem, r0, r1, r2, r3]) rfl ?_
        rw [← HCC.out]
        exact ⟨by rw [HMV.out.1, HMV.out.2], Z3.out⟩
      · have hbne : ((L : Int) == (r : Int)) = false := by simp; omega
        have HN := Lib.hid (HNO.out heq)
        go_upto_region 4 with fail
        rw [← hw2, ← hgm]
        clear hw2 hgm
        go_wp2_with fail
        go_roundw
        case rel => exact ⟨k + 1, by omega, by go_num, HN, HB2, HBEL2.out⟩
        case measure => simp [intOf]; omega
    · obtain rfl : k = 5 := by omega
      have HLN := Lib.hid (ltN_no hno.out)
      have HMV : Hid (mvOr r = zeroM ∧ (ltN r).isSome = false) := Lib.hid (by unfold mvOr; rw [HLN.out]; exact ⟨rfl, rfl⟩)
      have hbo := hbk.out
      unfold zeroM at hbo
      have f0 := hbo.frozen 0
      have f1 := hbo.frozen 1
      have f2 := hbo.frozen 2
      have f3 := hbo.frozen 3
      have c0 := hbo.cell 0
      have c1 := hbo.cell 1
      have c2 := hbo.cell 2
      have c3 := hbo.cell 3
      have HSZ : (Tryd.prog.info? 51).map (·.size) = some (#[Value.int .i32 0, .int .i64 0, .int .i64 0, .int .i64 0] : Array Value).size := by kernel_rfl
      have Z1 : Hid (Blk (W.setRow w.heap.size #[.int .i32 0, .int .i64 0, .int .i64 0, .int .i64 0]) w.heap.size #[.int .i32 0, .int .i64 0, .int .i64 0, .int .i64 0] 51) := Lib.hid (setRow_heap _ _ _ _ _ _ hbo)
      have Z3 : Hid (Below w.heap.size w (W.setRow w.heap.size #[.int .i32 0, .int .i64 0, .int .i64 0, .int .i64 0])) := Lib.hid (below_setRow hbel (Nat.le_refl _) _)
      go_wp2_with (refine wpList_store_row rfl 51 _ _ rfl w.heap.size _ rfl rfl _ _ hbo HSZ rfl (one4 _ _ _ _) ?_)
      obtain ⟨w9, hw9⟩ : ∃ w9, w9 = W.setRow w.heap.size #[.int .i32 0, .int .i64 0, .int .i64 0, .int .i64 0] := ⟨_, rfl⟩
      rw [← hw9] at Z1 Z3
      rw [← hw9]
      have r0 := Z1.out.cell 0
      have r1 := Z1.out.cell 1
      have r2 := Z1.out.cell 2
      have r3 := Z1.out.cell 3
      refine bodyPost_ret (v := .tuple #[.agg #[.int .i32 0, .int .i64 0, .int .i64 0, .int .i64 0], .bool false]) (by simp [results, Tryd.results27, go_sem, r0, r1, r2, r3]) rfl ?_
      exact ⟨by rw [HMV.out.1, HMV.out.2]; rfl, Z3.out⟩
end Go.Proofs.YtiegaebnlikjiaaDoor
