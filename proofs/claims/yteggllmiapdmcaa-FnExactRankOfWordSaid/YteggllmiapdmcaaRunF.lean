/-
  Contracts of the functions that lead a word through a chain, of the model and of the program.
-/
import Derived.Test.YteggllmiapdmcaaRun
import Derived.Test.YteggllmiapdmcaaIs2
import Derived.Test.YteggllmiapdmcaaValid
import Derived.Test.YteggllmiapdmcaaDigLaw
import Derived.Deep.RegionHeld3
namespace Go.Proofs.Yteggllmiapdmcaa
open Go.RowKit

/-- The digits of a word as natural numbers. -/
def dn (s : ByteArray) : List Nat := s.data.toList.map fun c => (digN c.toNat).toNat
theorem dn_len (s : ByteArray) : (dn s).length = s.size := by simp [dn]
theorem dn_digit {s : ByteArray} {base : Int} (h : wordB s base = true) : ∀ c ∈ s.data.toList, 0 ≤ digN c.toNat ∧ digN c.toNat < base := by
  unfold wordB at h
  simp only [Bool.and_eq_true, List.all_eq_true] at h
  intro c hc
  have := h.2.2 c hc
  unfold digOk at this
  rw [inB_true] at this
  omega
theorem digs_ints {s : ByteArray} {base : Int} (h : wordB s base = true) : digs s.data.toList = ints (dn s) := by
  unfold digs dn ints
  rw [List.map_map]
  apply List.map_congr_left
  intro c hc
  have := dn_digit h c hc
  simp; omega
theorem dn_lt {s : ByteArray} {b : Nat} (h : wordB s (b : Int) = true) : ∀ d ∈ dn s, d < b := by
  intro d hd
  simp only [dn, List.mem_map] at hd
  obtain ⟨c, hc, rfl⟩ := hd
  have := dn_digit h c hc
  omega

/-- Whether a chain is valid and a text is a word for it. -/
def Ch.both (c : Ch) (s : ByteArray) : Bool := c.ok && (decide (s.size = c.P.length) && wordB s c.base)
def Ch.led (c : Ch) (s : ByteArray) : Nat := c.run 0 c.start.toNat (dn s)
def Ch.runR (c : Ch) (s : ByteArray) : Int := if c.both s = true then (c.led s : Nat) else 0
def Ch.chk (c : Ch) (s : ByteArray) : Bool := c.both s && decide ((c.led s : Int) = c.stop)
theorem both_ok {c : Ch} {s : ByteArray} (h : c.both s = true) : c.ok = true ∧ s.size = c.P.length ∧ wordB s c.base = true := by
  unfold Ch.both at h; simpa using h
theorem runR_no {c : Ch} {s : ByteArray} (h : c.both s = false) : c.runR s = 0 := by simp [Ch.runR, h]
theorem runR_yes {c : Ch} {s : ByteArray} (h : c.both s = true) : c.runR s = (c.led s : Nat) := by simp [Ch.runR, h]

set_option maxHeartbeats 1000000 in
theorem l02Both_any {B b : Nat} (c : Ch) (AT AP : Option Addr) (nT cT nP cP : Nat) (t : ByteArray) (w : World) (hb : Blk w b (chCells c AT nT cT AP nP cP) 48) (hr : ChRows B w c AT nT AP nP) (ht : t.size ≤ maxLen) :
    Calls Try.prog 132 #[.pointer (some ⟨b, 0, none⟩), .string t] w fun e w' => e = .returned (.bool (c.both t)) ∧ ∃ m, w' = w.drewN m := by
  have CI := l02Is_any c AT AP nT cT nP cP w hb hr
  have hlP := hr.2.len
  have hnP := hr.2.le
  have HT := Lib.hid ht
  unfold maxLen at ht
  rcases h1 : c.ok with _ | _
  · rw [h1] at CI
    have HO := Lib.hid h1
    clear h1
    go_enter Try.func132, Try.ntmps132
    go_wp2_with fail
    (go_at_call 75; (with_reducible refine (CI).mono ?_); rintro e w2 ⟨rfl, m, rfl⟩)
    go_wp2_with fail
    go_ret
    exact ⟨ret_bool (by unfold Ch.both; rw [HO.out]; rfl), m, rfl⟩
  · rw [h1] at CI
    have HO := Lib.hid h1
    clear h1
    have c0 := hb.cell 0
    have c5 := hb.cell 5
    by_cases h2 : (t.size : Int) = (nP : Int)
    · have g2 : ((t.size : Int) == (nP : Int)) = true := by simpa using h2
      have CW : ∀ W, Calls Try.prog 147 #[.string t, .int .i64 c.base] W fun e w' => e = .returned (.bool (wordB t c.base)) ∧ W = w' := fun W => l01Word_any t c.base W HT.out
      go_enter Try.func132, Try.ntmps132
      go_wp2_with fail
      (go_at_call 75; (with_reducible refine (CI).mono ?_); rintro e w2 ⟨rfl, m, rfl⟩)
      have k0 : (w.drewN m).cell? ⟨b, 0, none⟩ = some (.int .i64 c.base) := c0
      have k5 : (w.drewN m).cell? ⟨b, 5, none⟩ = some (.slice AP nP cP) := c5
      clear c0 c5 CI
      go_wp2_with fail
      (go_at_call 147; (with_reducible refine (CW _).mono ?_); rintro e w2 ⟨rfl, rfl⟩)
      go_wp2_with fail
      go_ret
      have e : decide (t.size = c.P.length) = true := by rw [hlP]; simp; omega
      exact ⟨ret_bool (by unfold Ch.both; rw [HO.out, e]; rfl), m, rfl⟩
    · have g2 : ((t.size : Int) == (nP : Int)) = false := by simpa using h2
      go_enter Try.func132, Try.ntmps132
      go_wp2_with fail
      (go_at_call 75; (with_reducible refine (CI).mono ?_); rintro e w2 ⟨rfl, m, rfl⟩)
      have k0 : (w.drewN m).cell? ⟨b, 0, none⟩ = some (.int .i64 c.base) := c0
      have k5 : (w.drewN m).cell? ⟨b, 5, none⟩ = some (.slice AP nP cP) := c5
      clear c0 c5 CI
      go_wp2_with fail
      go_ret
      have e : decide (t.size = c.P.length) = false := by rw [hlP]; simp; omega
      exact ⟨ret_bool (by unfold Ch.both; rw [HO.out, e]; rfl), m, rfl⟩
set_option maxRecDepth 100000 in
set_option maxHeartbeats 2000000 in
theorem l02Checked_any {B b : Nat} (c : Ch) (AT AP : Option Addr) (nT cT nP cP : Nat) (t : ByteArray) (w1 : World) (b1 : Blk w1 b (chCells c AT nT cT AP nP cP) 48) (r1 : ChRows B w1 c AT nT AP nP) (hB : B ≤ w1.heap.size) (ht : t.size ≤ maxLen) :
    Calls Try.prog 84 #[.pointer (some ⟨b, 0, none⟩), .string t] w1 fun e w' => e = .returned (.bool (c.chk t)) ∧ Below w1.heap.size w1 w' := by
  have CB : ∀ q, Calls Try.prog 132 #[.pointer (some ⟨b, 0, none⟩), .string t] (w1.drewN q) fun e w' => e = .returned (.bool (c.both t)) ∧ ∃ m, w' = (w1.drewN q).drewN m := fun q => l02Both_any c AT AP nT cT nP cP t (w1.drewN q) (b1.drewN q) (r1.drewN q) ht
  have k2 : w1.cell? ⟨b, 2, none⟩ = some (.int .i64 c.start) := by rw [b1.cell 2]; rfl
  have k3 : w1.cell? ⟨b, 3, none⟩ = some (.int .i64 c.stop) := by rw [b1.cell 3]; rfl
  have R1 := Lib.hid r1
  have BLK := Lib.hid b1
  clear b1 r1
  rcases h1 : c.both t with _ | _
  · rw [h1] at CB
    have H := Lib.hid h1
    clear h1
    go_enter Try.func84, Try.ntmps84
    go_wp2_with fail
    go_quiet ((go_at_call 132; first | ((with_reducible refine (CB _).mono ?_); first | exact (fun _ _ ⟨he, _, hm⟩ => ⟨he, _, hm.trans (World.drewN_drewN _ _ _)⟩) | exact (fun _ _ ⟨he, _, hm⟩ => ⟨he, _, hm.trans ((World.drewN_drewN _ _ _).trans (by rw [Nat.add_assoc]))⟩))))
    go_wp2
    go_ret
    exact ⟨ret_bool (by unfold Ch.chk; rw [H.out]; rfl), below_drewN (Below.refl _ _) _⟩
  · rw [h1] at CB
    have H := Lib.hid h1
    obtain ⟨hok, hsz, hwd⟩ := both_ok h1
    obtain ⟨bs, s, n, f⟩ := Ch.fine hok
    obtain ⟨x0, hx0⟩ : ∃ x0 : Nat, c.start = x0 := ⟨c.start.toNat, by have := f.start0; omega⟩
    have hxs : x0 < s := by have := f.start; omega
    have htn : t.size = n := by rw [hsz, f.len]
    have ht20 : t.size ≤ 1048576 := by have := f.n20; omega
    rw [f.base] at hwd
    have hds := dn_lt hwd
    have hdi := digs_ints hwd
    have hled : c.led t = c.run 0 x0 (dn t) := by unfold Ch.led; rw [hx0]; rfl
    have CD : ∀ W, Calls Try.prog 85 #[.string t] W (Made W.heap.size t.size (digs t.data.toList) W) := fun W => l01Digits_any t W ht20
    have CR : ∀ (w2 w3 : World) (A3 : Option Addr) (c3 : Nat), Below w1.heap.size w1 w2 → Below w2.heap.size w2 w3 → Own w2.heap.size w3 A3 t.size c3 (digs t.data.toList) → Calls Try.prog 133 #[.pointer (some ⟨b, 0, none⟩), .int .i64 0, .int .i64 c.start, .slice A3 t.size c3] w3 fun e w' => e = .returned (.int .i64 (c.led t : Nat)) ∧ ∃ q, w' = w3.drewN q := by
      intro w2 w3 A3 c3 be2 be3 ho
      rw [hdi] at ho
      have be13 : Below w1.heap.size w1 w3 := be2.trans (be3.mono be2.size)
      have := l02Run_any c AT AP nT cT nP cP w3 (BLK.out.below be13 BLK.out.lt) (R1.out.below (be13.mono hB)) f A3 t.size c3 (dn t) 0 x0 ho.row (by omega) hxs hds
      rw [show ((x0 : Nat) : Int) = c.start from hx0.symm, ← hled] at this
      exact this
    have CR := Lib.hid CR
    have CBd : Calls Try.prog 132 #[.pointer (some ⟨b, 0, none⟩), .string t] w1.drew fun e w' => e = .returned (.bool true) ∧ ∃ m, w' = (w1.drewN 1).drewN m := CB 1
    clear h1 hok hsz f hds hdi hled hwd hx0 htn
    go_enter Try.func84, Try.ntmps84
    go_wp2_with fail
    go_region_held3 (fun w' => w'.cell? ⟨b, 2, none⟩ = some (.int .i64 c.start) ∧ w'.cell? ⟨b, 3, none⟩ = some (.int .i64 c.stop)) (first | exact ⟨K2'', K3''⟩ | exact ⟨K2', K3'⟩ | exact ⟨K2, K3⟩ | exact ⟨k2, k3⟩) (first
      | (go_at_call 132
         with_reducible refine CBd.mono ?_
         rintro e w2 ⟨rfl, m, hw2⟩
         have K2 : w2.cell? ⟨b, 2, none⟩ = some (.int .i64 c.start) := by rw [hw2]; exact k2
         have K3 : w2.cell? ⟨b, 3, none⟩ = some (.int .i64 c.stop) := by rw [hw2]; exact k3
         have BE2 : Hid (Below w1.heap.size w1 w2) := Lib.hid (by rw [hw2]; exact below_drewN (below_drewN (Below.refl _ _) 1) m)
         clear hw2)
      | (go_at_call 85
         with_reducible refine (CD _).mono ?_
         rintro e w3 ⟨A3, c3, rfl, ho, be3⟩
         have CR3 := CR.out _ w3 A3 c3 BE2.out be3 ho
         have K2' := (be3.cell (p := ⟨b, 2, none⟩) (block_of_cell K2)).trans K2
         have K3' := (be3.cell (p := ⟨b, 3, none⟩) (block_of_cell K3)).trans K3
         have BE3 := Lib.hid (BE2.out.trans (be3.mono BE2.out.size))
         clear ho be3)
      | (go_at_call 133
         with_reducible refine CR3.mono ?_
         rintro e w4 ⟨rfl, q4, hw4⟩
         have K2'' : w4.cell? ⟨b, 2, none⟩ = some (.int .i64 c.start) := by rw [hw4]; exact K2'
         have K3'' : w4.cell? ⟨b, 3, none⟩ = some (.int .i64 c.stop) := by rw [hw4]; exact K3'
         have BE4 : Hid (Below w1.heap.size w1 w4) := Lib.hid (by rw [hw4]; exact below_drewN BE3.out q4)
         clear CR3 hw4))
    all_goals (go_wp2_with fail; go_ret; exact ⟨ret_bool (by unfold Ch.chk; rw [H.out]; simp; rw [Bool.eq_iff_iff]; simp), BE4.out⟩)

theorem tupS {A : Option Addr} {m cd : Nat} {b b' : Bool} (h : b = b') : Ending.returned (.tuple #[.slice A m cd, .bool b]) = .returned (.tuple #[.slice A m cd, .bool b']) := by rw [h]
/-- What digitsOf leaves. -/
def DigC (c : Ch) (t : ByteArray) (w : World) (e : Ending) (w' : World) : Prop :=
  ∃ A cd m, e = .returned (.tuple #[.slice A m cd, .bool (c.both t)]) ∧ Below w.heap.size w w' ∧ (c.both t = true → m = t.size ∧ Own w.heap.size w' A m cd (ints (dn t)))
set_option maxHeartbeats 2000000 in
theorem digitsOf_any {B : Nat} (c : Ch) (AT AP : Option Addr) (nT cT nP cP : Nat) (t : ByteArray) (w : World) (hr : ChRows B w c AT nT AP nP) (hB : B ≤ w.heap.size) (ht : t.size ≤ maxLen) :
    Calls Try.prog 87 #[chV c AT nT cT AP nP cP, .string t] w (DigC c t w) := by
  obtain ⟨w1, hw1⟩ : ∃ w1, w1 = w.alloc (.cells (chCells c AT nT cT AP nP cP) 48) := ⟨_, rfl⟩
  have bel : Below w.heap.size w w1 := by rw [hw1]; exact (Below.refl _ w).alloc (Nat.le_refl _) _
  have b1 : Blk w1 w.heap.size (chCells c AT nT cT AP nP cP) 48 := by rw [hw1]; exact Blk.new _ _ _
  have CV := implValid_any c AT AP nT cT nP cP w1 (hr.below (bel.mono hB)) (Nat.le_trans hB bel.size)
  have hlP := hr.2.len
  have hnP := hr.2.le
  have BEL := Lib.hid bel
  have BLK := Lib.hid b1
  have LT1 := Lib.hid b1.lt
  have HT := Lib.hid ht
  unfold maxLen at ht
  have q0 := b1.cell 0
  have q1 := b1.cell 1
  have q2 := b1.cell 2
  have q3 := b1.cell 3
  have q4 := b1.cell 4
  have q5 := b1.cell 5
  clear bel b1
  rcases h1 : c.ok with _ | _
  · rw [h1] at CV
    have HO := Lib.hid h1
    clear h1
    go_enter Try.func87, Try.ntmps87
    go_wp2_with fail
    rw [← hw1]
    have HW1 := Lib.hid hw1
    clear hw1
    (go_at_call 79; (with_reducible refine (CV).mono ?_); rintro e w2 ⟨rfl, be2⟩)
    have BE2 := Lib.hid be2
    clear be2
    go_wp2_with fail
    go_ret2
    have e : c.both t = false := by unfold Ch.both; rw [HO.out]; rfl
    exact ⟨none, 0, 0, tupS e.symm, BEL.out.trans (BE2.out.mono (Nat.le_of_lt LT1.out)), fun h => by rw [e] at h; cases h⟩
  · rw [h1] at CV
    have HO := Lib.hid h1
    clear h1
    by_cases h2 : (t.size : Int) = (nP : Int)
    · have g2 : ((t.size : Int) != (nP : Int)) = false := by simpa using h2
      go_enter Try.func87, Try.ntmps87
      go_wp2_with fail
      rw [← hw1]
      have HW1 := Lib.hid hw1
      clear hw1
      (go_at_call 79; (with_reducible refine (CV).mono ?_); rintro e w2 ⟨rfl, be2⟩)
      have bk := BLK.out.below be2 LT1.out
      have k0 := bk.cell 0
      have k5 := bk.cell 5
      have BE2 := Lib.hid be2
      have CD := implDigits_any t c.base w2 HT.out
      clear be2 bk CV q0 q1 q2 q3 q4 q5
      go_wp2_with fail
      (go_at_call 135; (with_reducible refine (CD).mono ?_); rintro e w3 ⟨A, cd, rfl, ho, be3⟩)
      have HO3 := Lib.hid ho
      have BE3 := Lib.hid be3
      clear ho be3 CD k0 k5
      go_wp2_with fail
      go_ret2
      have e : decide (t.size = c.P.length) = true := by rw [hlP]; simp; omega
      have eb : c.both t = wordB t c.base := by unfold Ch.both; rw [HO.out, e]; simp
      have bl2 : Below w.heap.size w w2 := BEL.out.trans (BE2.out.mono (Nat.le_of_lt LT1.out))
      refine ⟨A, cd, _, tupS eb.symm, bl2.trans (BE3.out.mono bl2.size), fun h => ?_⟩
      rw [eb] at h
      have e2 : digR t c.base = ints (dn t) := by unfold digR; rw [h, if_pos rfl, digs_ints h]
      have h3 := HO3.out
      rw [e2] at h3
      have e3 : (digR t c.base).length = t.size := by rw [e2]; simp [dn_len]
      refine ⟨e3, ?_⟩
      rw [e3]
      have e4 : (ints (dn t)).length = t.size := by simp [dn_len]
      rw [e4] at h3
      exact h3.lower bl2.size
    · have g2 : ((t.size : Int) != (nP : Int)) = true := by simpa using h2
      go_enter Try.func87, Try.ntmps87
      go_wp2_with fail
      rw [← hw1]
      have HW1 := Lib.hid hw1
      clear hw1
      (go_at_call 79; (with_reducible refine (CV).mono ?_); rintro e w2 ⟨rfl, be2⟩)
      have bk := BLK.out.below be2 LT1.out
      have k5 := bk.cell 5
      have BE2 := Lib.hid be2
      clear be2 bk CV q0 q1 q2 q3 q4 q5
      go_wp2_with fail
      go_ret2
      have e0 : decide (t.size = c.P.length) = false := by rw [hlP]; simp; omega
      have e : c.both t = false := by unfold Ch.both; rw [HO.out, e0]; rfl
      exact ⟨none, 0, 0, tupS e.symm, BEL.out.trans (BE2.out.mono (Nat.le_of_lt LT1.out)), fun h => by rw [e] at h; cases h⟩
end Go.Proofs.Yteggllmiapdmcaa
