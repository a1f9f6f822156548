/-
  Slices of integers that a call makes itself, and the contracts of the laws' helpers: a copy, a comparison, marks that are written and marks that are still there.
-/
import Derived.Test.YtfmlmgebomapjabDoorRow
import Derived.OwnWalk
import Derived.Deep.QuietTactic
import Derived.BigQuiet
namespace Go.Proofs.YtfmlmgebomapjabDoor
open Go.RowKit

theorem info64 : (Tryd.prog.info? 2).map (fun i => (i.zero, i.size, i.bytes)) = some (some (.int .i64 0), 1, 8) := by kernel_rfl
abbrev cells64 (zs : List Int) : List Value := zs.map (Value.int .i64)

/-- The slice is the call's own: a row of its own from block B on, not frozen. -/
def Own (B : Nat) (w : World) (A : Option Addr) (n c : Nat) (zs : List Int) : Prop :=
  w.ownsRow B 2 1 (.slice A n c) n (cells64 zs) ∧ ∀ z ∈ zs, (Lit.int .i64 z).wf = true

section
variable {B B' : Nat} {w w' : World} {A : Option Addr} {n c : Nat} {zs : List Int}
theorem Own.len (h : Own B w A n c zs) : zs.length = n := by have := h.1.1; simpa using this
theorem Own.form (h : Own B w A n c zs) : (A = none ∧ n = 0 ∧ c = 0) ∨ ∃ g, A = some ⟨g, 0, none⟩ ∧ B ≤ g ∧ g < w.heap.size ∧ n ≤ c ∧ c ≤ maxLen := by
  rcases h.1.2 with ⟨hv, hn⟩ | ⟨g, cap, cur, hv, hb, hg, hnc, hcm, _⟩
  · injection hv with h1 h2 h3; exact .inl ⟨h1, hn, h3⟩
  · injection hv with h1 h2 h3
    subst h1; subst h3
    exact .inr ⟨g, rfl, hb, (Array.getElem?_eq_some_iff.1 hg).1, hnc, hcm⟩
theorem Own.row (h : Own B w A n c zs) : Row .i64 w A n zs := by
  have hl := h.len
  rcases h.form with ⟨rfl, rfl, _⟩ | ⟨g, rfl, hb, hg, hnc, hcm⟩
  · exact ⟨hl, by unfold maxLen; omega, h.2, fun h0 => absurd h0 (by omega)⟩
  · refine ⟨hl, by omega, h.2, fun h0 => ⟨g, 0, rfl, hg, fun j hj => ?_⟩⟩
    have := h.1.cellAt j (by omega)
    rw [Nat.zero_add, this]
    simp [List.getElem?_eq_getElem (show j < zs.length by omega), List.getD]
theorem Own.keep (h : Own B w A n c zs) (hk : ∀ g, A = some ⟨g, 0, none⟩ → w'.heap[g]? = w.heap[g]?) : Own B w' A n c zs := by
  refine ⟨⟨h.1.1, ?_⟩, h.2⟩
  rcases h.1.2 with hn | ⟨g, cap, cur, hv, hb, hg, rest⟩
  · exact .inl hn
  · refine .inr ⟨g, cap, cur, hv, hb, ?_, rest⟩
    injection hv with h1
    rw [hk g h1, hg]
theorem Own.below (h : Own B w A n c zs) (hb : Below w.heap.size w w') : Own B w' A n c zs :=
  h.keep fun g hg => by
    rcases h.form with ⟨hA, _⟩ | ⟨g', hA, _, hlt, _⟩
    · rw [hg] at hA; cases hA
    · rw [hg] at hA
      injection hA with hA
      injection hA with hA
      subst hA
      exact hb.block _ hlt
theorem Own.drewN (h : Own B w A n c zs) (m : Nat) : Own B (w.drewN m) A n c zs := h
theorem below_drewN {B : Nat} {a w : World} (h : Below B a w) (m : Nat) : Below B a (w.drewN m) := ⟨h.os, h.tape, h.output, h.size, h.block⟩
end

/-- What a copy is: a slice of the call's own with the same numbers. -/
def Made (B : Nat) (n : Nat) (zs : List Int) (w : World) (e : Ending) (w' : World) : Prop :=
  ∃ A c, e = .returned (.slice A n c) ∧ Own B w' A n c zs ∧ Below B w w'

theorem set_take {zs : List Int} {n k : Nat} {z : Int} (hl : zs.length = n) (hk : k < n) (hz : zs[k]? = some z) :
    (zs.take k ++ List.replicate (n - k) 0).set k z = zs.take (k + 1) ++ List.replicate (n - (k + 1)) 0 := by
  apply List.ext_getElem?
  intro j
  rcases Nat.lt_trichotomy j k with h | h | h
  · rw [List.getElem?_set_ne (by omega), List.getElem?_append_left (by simp; omega), List.getElem?_append_left (by simp; omega)]
    simp [h, show j < k + 1 by omega]
  · subst h
    rw [List.getElem?_set_self (by simp; omega), List.getElem?_append_left (by simp; omega)]
    simp [hz]
  · rw [List.getElem?_set_ne (by omega), List.getElem?_append_right (by simp; omega), List.getElem?_append_right (by simp; omega)]
    simp only [List.length_take, List.getElem?_replicate, hl]
    by_cases hj : j < n
    · rw [if_pos (by omega), if_pos (by omega)]
    · rw [if_neg (by omega), if_neg (by omega)]

set_option maxHeartbeats 400000 in
theorem toInt64S_any (A : Option Addr) (n c : Nat) (zs : List Int) (w : World) (hr : Row .i64 w A n zs) (hn : n ≤ 1048576) :
    Calls Tryd.prog 5 #[.slice A n c] w (Made w.heap.size n zs w) := by
  obtain ⟨i0, hi, hz0, hz1, hz2⟩ := info_parts info64
  go_enter Tryd.func5, Tryd.ntmps5
  go_wp2_with (refine wpList_make_full _ rfl _ _ 22 rfl w.heap.size 2 i0 (.int .i64 0) 1 Tryd.underlying22 hi hz0 hz1 .i64 .i64 n n n rfl rfl rfl rfl ?c1 ?c2 (Nat.le_refl _) ?_)
  case c1 => rw [hz2]; omega
  case c2 => unfold maxLen; omega
  intro w1 hown hg
  have hbel : Below w.heap.size w w1 := (Below.refl _ w).grown hg (Nat.le_refl _) (fun k hk => by cases hk)
  have hown0 : w1.ownsRow w.heap.size 2 1 (.slice (some ⟨w.heap.size, 0, none⟩) n n) n (cells64 (zs.take 0 ++ List.replicate (n - 0) 0)) := by
    have e : cells64 (zs.take 0 ++ List.replicate (n - 0) 0) = (madeCells #[Value.int .i64 0] n).toList := by
      simp [cells64, toList_madeCells_one]
    rw [e]; exact hown
  clear hown
  go_wp2
  go_loopw [4] (fun i wr => ∃ k : Nat, k ≤ n ∧ i = .int .i64 k ∧ wr.ownsRow w.heap.size 2 1 (.slice (some ⟨w.heap.size, 0, none⟩) n n) n (cells64 (zs.take k ++ List.replicate (n - k) 0)) ∧ Below w.heap.size w wr) (fun i _ => n - (intOf i).toNat)
  case atStart => exact ⟨0, by omega, rfl, hown0, hbel⟩
  case round =>
    obtain ⟨k, hk, rfl, ho, hb⟩ := hrel
    by_cases hlt : k < n
    · obtain ⟨b, off, z, rfl, hbb, hz, hc, _⟩ := (RowB.below hr hb).at_ hlt
      have hc2 : wr.cell? ⟨w.heap.size, k, none⟩ = (cells64 (zs.take k ++ List.replicate (n - k) 0))[k]? := ho.cellAt k (by omega)
      have hc3 : (cells64 (zs.take k ++ List.replicate (n - k) 0))[k]? = some (.int .i64 0) := by
        have hl := hr.len
        simp only [cells64, List.getElem?_map]
        rw [List.getElem?_append_right (by simp; omega)]
        simp [hl, List.getElem?_replicate]
        omega
      have hcell := hc2.trans hc3
      have hfr := ho.frozenAt k
      have hst := ho.stored k (.int .i64 z)
      have HZ := Lib.hid hz
      clear hc2 hc3 hz
      go_wp2
      go_roundw
      case rel =>
        refine ⟨k + 1, by omega, by go_num, ?_, hb.setCell (Nat.le_refl _) _⟩
        have e : (cells64 (zs.take k ++ List.replicate (n - k) 0)).set k (.int .i64 z) = cells64 (zs.take (k + 1) ++ List.replicate (n - (k + 1)) 0) := by
          rw [cells64, ← List.map_set, set_take hr.len hlt HZ.out]
        rw [← e]; exact hst.1
      case measure => simp [intOf]; omega
    · obtain rfl : k = n := by omega
      go_wp2
      go_ret
      refine ⟨_, _, rfl, ⟨?_, hr.2.2.1⟩, hb⟩
      have e : zs.take k ++ List.replicate (k - k) 0 = zs := by
        rw [List.take_of_length_le (by have := hr.len; omega)]; simp
      rw [e] at ho; exact ho

/-- Of what was there only the block of the slice at A may have turned. -/
structure Only (A : Option Addr) (w w' : World) : Prop where
  os : w'.os = w.os
  tape : w'.tape = w.tape
  output : w'.output = w.output
  size : w'.heap.size = w.heap.size
  block : ∀ g, A ≠ some ⟨g, 0, none⟩ → w'.heap[g]? = w.heap[g]?
theorem Only.refl (A : Option Addr) (w : World) : Only A w w := ⟨rfl, rfl, rfl, rfl, fun _ _ => rfl⟩
theorem Only.set {g : Nat} {w w' : World} (h : Only (some ⟨g, 0, none⟩) w w') (k : Nat) (v : Value) : Only (some ⟨g, 0, none⟩) w (w'.setCell ⟨g, k, none⟩ v) :=
  ⟨h.os, h.tape, h.output, by simpa [World.setCell] using h.size, fun b hb => by
    rw [Below.heap_setCell w' ⟨g, k, none⟩ v b (fun e => hb (by rw [e]))]
    exact h.block b hb⟩
theorem Only.below {A : Option Addr} {B : Nat} {w w' : World} (h : Only A w w') (hB : ∀ g, A = some ⟨g, 0, none⟩ → B ≤ g) : Below B w w' :=
  ⟨h.os, h.tape, h.output, by rw [h.size]; exact Nat.le_refl _, fun k hk => h.block k fun e => by have := hB k e; omega⟩
theorem Only.sz {A : Option Addr} {m : Nat} {w w' : World} (h : Only A (w.drewN m) w') : w'.heap.size = w.heap.size := h.size
theorem Own.from {B n c : Nat} {w : World} {A : Option Addr} {zs : List Int} (h : Own B w A n c zs) : ∀ g, A = some ⟨g, 0, none⟩ → B ≤ g := by
  intro g hg
  rcases h.form with ⟨hA, _⟩ | ⟨g', hA, hb, _⟩
  · rw [hg] at hA; cases hA
  · rw [hg] at hA
    injection hA with hA
    injection hA with hA
    omega

theorem Own.lower {B B' n c : Nat} {w : World} {A : Option Addr} {zs : List Int} (h : Own B w A n c zs) (hB : B' ≤ B) : Own B' w A n c zs := by
  refine ⟨⟨h.1.1, ?_⟩, h.2⟩
  rcases h.1.2 with hh | ⟨g, cap, cur, hv, hg, rest⟩
  · exact .inl hh
  · exact .inr ⟨g, cap, cur, hv, Nat.le_trans hB hg, rest⟩
theorem Own.cap {B n c : Nat} {w : World} {A : Option Addr} {zs : List Int} (h : Own B w A n c zs) : n ≤ c := by
  rcases h.form with ⟨_, h0, _⟩ | ⟨_, _, _, _, h1, _⟩ <;> omega
theorem Own.lt {B n c : Nat} {w : World} {A : Option Addr} {zs : List Int} (h : Own B w A n c zs) : ∀ g, A = some ⟨g, 0, none⟩ → g < w.heap.size := by
  intro g hg
  rcases h.form with ⟨hA, _⟩ | ⟨g', hA, _, hl, _⟩
  · rw [hg] at hA; cases hA
  · rw [hg] at hA
    injection hA with hA
    injection hA with hA
    omega
/-- Another slice's block, below this one's, may turn. -/
theorem Own.only_lt {B n c : Nat} {w w' : World} {A A' : Option Addr} {zs : List Int} (h : Own B w A n c zs) (k : Only A' w w') (hl : ∀ g, A' = some ⟨g, 0, none⟩ → g < B) : Own B w' A n c zs :=
  h.keep fun g hg => k.block g fun e => by have h1 := hl g e; have h2 := h.from g hg; omega
/-- Another slice's block, above this one's, may turn. -/
theorem Own.only_gt {B B' n c : Nat} {w w' : World} {A A' : Option Addr} {zs : List Int} (h : Own B w A n c zs) (k : Only A' w w') (ht : ∀ g, A = some ⟨g, 0, none⟩ → g < B') (hl : ∀ g, A' = some ⟨g, 0, none⟩ → B' ≤ g) : Own B w' A n c zs :=
  h.keep fun g hg => k.block g fun e => by have h1 := hl g e; have h2 := ht g hg; omega

def marks (k n : Nat) : List Int := (List.range' k n).map Int.ofNat
theorem marks_len (k n : Nat) : (marks k n).length = n := by simp [marks]
theorem marks_at {k n i : Nat} (h : i < n) : (marks k n)[i]? = some ((k : Int) + (i : Int)) := by
  simp [marks, h]
theorem marks_wf {k n : Nat} (h : k + n ≤ 1000000000000) : ∀ z ∈ marks k n, (Lit.int .i64 z).wf = true := by
  intro z hz
  simp only [marks, List.mem_map, List.mem_range'_1] at hz
  obtain ⟨a, ha, rfl⟩ := hz
  exact WalkArith.wf_i64 (by simp; omega)
theorem marks_set {zs : List Int} {k i n : Nat} (hl : zs.length = n) (h : i < n) :
    (marks k i ++ zs.drop i).set i ((k : Int) + (i : Int)) = marks k (i + 1) ++ zs.drop (i + 1) := by
  apply List.ext_getElem?
  intro j
  have hm := marks_len k i
  have hm1 := marks_len k (i + 1)
  rcases Nat.lt_trichotomy j i with hj | hj | hj
  · rw [List.getElem?_set_ne (by omega), List.getElem?_append_left (by omega), List.getElem?_append_left (by omega), marks_at hj, marks_at (by omega)]
  · subst hj
    rw [List.getElem?_set_self (by simp; omega), List.getElem?_append_left (by omega), marks_at (by omega)]
  · rw [List.getElem?_set_ne (by omega), List.getElem?_append_right (by omega), List.getElem?_append_right (by omega)]
    simp only [List.getElem?_drop, hm, hm1]
    congr 1
    omega

set_option maxHeartbeats 400000 in
theorem eqInt64S_any {B1 B2 : Nat} (A1 A2 : Option Addr) (n c1 c2 : Nat) (zs : List Int) (w : World) (h1 : RowB .i64 B1 w A1 n zs) (h2 : RowB .i64 B2 w A2 n zs) :
    Calls Tryd.prog 7 #[.slice A1 n c1, .slice A2 n c2] w fun e w' => e = .returned (.bool true) ∧ ∃ m, w' = w.drewN m := by
  have hle := h1.le
  go_enter Tryd.func7, Tryd.ntmps7
  go_wp2
  go_loopw [5] (fun i wr => ∃ k : Nat, k ≤ n ∧ i = .int .i64 k ∧ ∃ m, wr = w.drewN m) (fun i _ => n - (intOf i).toNat)
  case atStart => exact ⟨0, by omega, rfl, 0, rfl⟩
  case round =>
    obtain ⟨k, hk, rfl, m, rfl⟩ := hrel
    by_cases hlt : k < n
    · obtain ⟨b1, o1, z, rfl, _, hz1, hc1, _⟩ := h1.at_ hlt
      obtain ⟨b2, o2, z2, rfl, _, hz2, hc2, _⟩ := h2.at_ hlt
      obtain rfl : z = z2 := by rw [hz1] at hz2; exact Option.some.inj hz2
      have hc1' : (w.drewN m).cell? ⟨b1, o1 + k, none⟩ = some (.int .i64 z) := hc1
      have hc2' : (w.drewN m).cell? ⟨b2, o2 + k, none⟩ = some (.int .i64 z) := hc2
      clear hz1 hz2
      go_wp2
      go_quiet (fail)
      go_wp2
      go_roundw
      case rel => exact ⟨k + 1, by omega, by go_num, _, rfl⟩
      case measure => simp [intOf]; omega
    · obtain rfl : k = n := by omega
      go_wp2
      go_ret
      exact ⟨rfl, m, rfl⟩
end Go.Proofs.YtfmlmgebomapjabDoor
