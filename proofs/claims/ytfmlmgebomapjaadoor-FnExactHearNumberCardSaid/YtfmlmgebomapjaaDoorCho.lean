/-
  Choices of an alphabet's symbols as masks: which texts choose, and what.
-/
import Derived.Test.YtfmlmgebomapjaaDoorIxv
import Derived.Test.YtfmlmgebomapjaaDoorLow
import Derived.Test.YtfmlmgebomapjaaDoorBt
import Derived.IntWalk
namespace Go.Proofs.YtfmlmgebomapjaaDoor
open Go Go.RowKit

/-- The place of a byte. -/
def ixO : List UInt8 → UInt8 → Option Nat
  | [], _ => none
  | b :: l, c => if b = c then some 0 else (ixO l c).map (· + 1)
theorem ixO_index : ∀ (l : List UInt8) (c : UInt8), Lib.indexByte l c = match ixO l c with | none => -1 | some k => (k : Int) := by
  intro l
  induction l with
  | nil => intro c; rfl
  | cons b l ih =>
    intro c
    by_cases h : b = c
    · subst h
      simp [Lib.indexByte, ixO]
    · have hb : (b == c) = false := by simpa using h
      have := ih c
      simp only [Lib.indexByte, ixO, hb, if_neg h]
      rw [this]
      cases ixO l c with
      | none => rfl
      | some k => first | (simp; done) | (simp; omega)
theorem ixO_at : ∀ (l : List UInt8) (c : UInt8) (k : Nat), ixO l c = some k → l[k]? = some c := by
  intro l
  induction l with
  | nil => intro c k h; cases h
  | cons b l ih =>
    intro c k h
    unfold ixO at h
    by_cases hb : b = c
    · rw [if_pos hb] at h; injection h with h; subst h; subst hb; rfl
    · rw [if_neg hb] at h
      cases hx : ixO l c with
      | none => rw [hx] at h; cases h
      | some j =>
        rw [hx] at h
        simp at h
        subst h
        simpa using ih c j hx
theorem ixO_lt {l : List UInt8} {c : UInt8} {k : Nat} (h : ixO l c = some k) : k < l.length := (List.getElem?_eq_some_iff.1 (ixO_at l c k h)).1
theorem ixO_none : ∀ (l : List UInt8) (c : UInt8), ixO l c = none ↔ c ∉ l := by
  intro l
  induction l with
  | nil => intro c; simp [ixO]
  | cons b l ih =>
    intro c
    unfold ixO
    by_cases h : b = c
    · subst h; simp
    · rw [if_neg h, Option.map_eq_none_iff, ih c]
      simp [Ne.symm h]
/-- The choice of the symbols of a text behind others. -/
def chM (a : List UInt8) : List UInt8 → Nat → Option Nat
  | [], m => some m
  | b :: l, m => match ixO a b with
    | none => none
    | some k => if m.testBit k = true then none else chM a l (m ||| 2 ^ k)
theorem chM_cons (a : List UInt8) (b : UInt8) (l : List UInt8) (m : Nat) : chM a (b :: l) m = match ixO a b with
    | none => none
    | some k => if m.testBit k = true then none else chM a l (m ||| 2 ^ k) := rfl
theorem chM_snoc (a : List UInt8) (b : UInt8) : ∀ (l : List UInt8) (m : Nat), chM a (l ++ [b]) m = match chM a l m with
    | none => none
    | some m' => chM a [b] m' := by
  intro l
  induction l with
  | nil => intro m; rfl
  | cons c l ih =>
    intro m
    rw [List.cons_append, chM_cons, chM_cons]
    cases ixO a c with
    | none => rfl
    | some k =>
      dsimp only
      by_cases h : m.testBit k = true
      · rw [if_pos h, if_pos h]
      · rw [if_neg h, if_neg h]; exact ih _
theorem chM_more {a : List UInt8} : ∀ (l r : List UInt8) (m : Nat), chM a l m = none → chM a (l ++ r) m = none := by
  intro l
  induction l with
  | nil => intro r m h; cases h
  | cons c l ih =>
    intro r m h
    rw [List.cons_append, chM_cons]
    rw [chM_cons] at h
    cases hx : ixO a c with
    | none => rfl
    | some k =>
      rw [hx] at h
      dsimp only at h ⊢
      by_cases hb : m.testBit k = true
      · rw [if_pos hb]
      · rw [if_neg hb] at h ⊢; exact ih r _ h
theorem chM_lt {a : List UInt8} {n : Nat} (ha : a.length ≤ n) : ∀ (l : List UInt8) (m m' : Nat), m < 2 ^ n → chM a l m = some m' → m' < 2 ^ n := by
  intro l
  induction l with
  | nil => intro m m' hm h; injection h with h; omega
  | cons c l ih =>
    intro m m' hm h
    rw [chM_cons] at h
    cases hx : ixO a c with
    | none => rw [hx] at h; cases h
    | some k =>
      rw [hx] at h
      dsimp only at h
      have hk := ixO_lt hx
      by_cases hb : m.testBit k = true
      · rw [if_pos hb] at h; cases h
      · rw [if_neg hb] at h
        exact ih _ _ (Nat.or_lt_two_pow hm (Nat.pow_lt_pow_of_lt (by omega) (by omega))) h
theorem and_pow (m k : Nat) : (m &&& 2 ^ k = 0) ↔ m.testBit k = false := by
  constructor
  · intro h
    have := congrArg (fun x => x.testBit k) h
    simpa [Nat.testBit_and, Nat.testBit_two_pow_self] using this
  · intro h
    apply Nat.eq_of_testBit_eq
    intro j
    rw [Nat.testBit_and, Nat.testBit_two_pow]
    by_cases hj : k = j
    · subst hj; simp [h]
    · simp [hj]

theorem pow63 {i : Nat} (hi : i < 63) : 2 ^ i < 9223372036854775808 := by
  have : 2 ^ i < 2 ^ 63 := Nat.pow_lt_pow_of_lt (by omega) hi
  simpa using this
set_option maxHeartbeats 400000 in
theorem choiceOf_any (i : Nat) (w : World) (hi : i < 63) :
    Calls Tryd.prog 77 #[.int .i64 (i : Int)] w fun e w' => e = .returned (.int .u64 ((2 ^ i : Nat) : Int)) ∧ w = w' := by
  have H : Hid (IntKind.u64.wrap ((2 : Int) ^ i) = ((2 ^ i : Nat) : Int)) := Lib.hid (by
    have h1 := pow63 hi
    have h2 : ((2 : Int) ^ i) = ((2 ^ i : Nat) : Int) := by simp
    rw [h2]
    generalize 2 ^ i = X at h1
    exact IntWalk.u64_in _ (by omega))
  go_enter Tryd.func77, Tryd.ntmps77
  go_wp2
  go_ret
  exact ⟨ret_int H.out, rfl⟩

set_option maxHeartbeats 400000 in
theorem indexOf_plain (a : ByteArray) (c : UInt8) (w : World) (hc : c.toNat < 128) :
    Calls Tryd.prog 60 #[.string a, .int .i32 (c.toNat : Int)] w fun e w' => e = .returned (.int .i64 (Lib.indexByte a.data.toList c)) ∧ w = w' := by
  have C : Calls Tryd.prog 87 #[.string a, .int .i32 (c.toNat : Int)] w fun e w' => e = .returned (.int .i64 (Lib.indexByte a.data.toList c)) ∧ w = w' := by
    refine (Tryd.strings_IndexRune_ascii a c.toNat w (by omega) (by omega)).mono ?_
    rintro e w' ⟨rfl, rfl⟩
    refine ⟨ret_int ?_, rfl⟩
    simp
  go_enter Tryd.func60, Tryd.ntmps60
  go_wp2_with (go_at_call 87; (with_reducible refine (C).mono ?_); rintro e w' ⟨rfl, rfl⟩)
  go_ret
  exact ⟨rfl, rfl⟩
set_option maxHeartbeats 400000 in
theorem indexOf_high (a : ByteArray) (r : Nat) (w : World) (hp : plainB a) (hs : a.size ≤ 1000) (h1 : 128 ≤ r) :
    Calls Tryd.prog 60 #[.string a, .int .i32 (r : Int)] w fun e w' => e = .returned (.int .i64 (-1)) ∧ Below w.heap.size w w' := by
  have C := ixr_high a r w hp hs h1
  go_enter Tryd.func60, Tryd.ntmps60
  go_wp2_with (go_at_call 87; (with_reducible refine (C).mono ?_); rintro e w1 ⟨rfl, b1⟩)
  go_ret
  exact ⟨rfl, b1⟩

def choE (a t : ByteArray) : Ending := .returned (.tuple #[.int .u64 (((chM a.data.toList t.data.toList 0).getD 0 : Nat) : Int), .bool (chM a.data.toList t.data.toList 0).isSome])
theorem cho_no {a t : ByteArray} (h : chM a.data.toList t.data.toList 0 = none) : Ending.returned (.tuple #[.int .u64 0, .bool false]) = choE a t := by unfold choE; rw [h]; rfl
theorem cho_yes {a t : ByteArray} {m : Nat} (h : chM a.data.toList t.data.toList 0 = some m) : Ending.returned (.tuple #[.int .u64 (m : Int), .bool true]) = choE a t := by unfold choE; rw [h]; rfl
theorem cho_stop {a t : ByteArray} {pos : Nat} (hlt : pos < t.size) {m : Nat} (hm : chM a.data.toList (t.data.toList.take pos) 0 = some m) (h : chM a.data.toList [t[pos]] m = none) : chM a.data.toList t.data.toList 0 = none := by
  have e : t.data.toList = t.data.toList.take (pos + 1) ++ t.data.toList.drop (pos + 1) := (List.take_append_drop _ _).symm
  rw [e]
  refine chM_more _ _ _ ?_
  rw [take_next t pos hlt, chM_snoc, hm]
  exact h
set_option maxRecDepth 100000 in
set_option maxHeartbeats 2000000 in
theorem choose_any (a t : ByteArray) (w : World) (hp : plainB a) (ha : a.size ≤ 62) (ht : t.size ≤ maxLen) :
    Calls Tryd.prog 46 #[.string a, .string t] w fun e w' => e = choE a t ∧ Below w.heap.size w w' := by
  unfold maxLen at ht
  have hal : a.data.toList.length ≤ 62 := by simpa using ha
  go_enter Tryd.func46, Tryd.ntmps46
  go_wp2_with fail
  go_loopw [6, 8, 9] (fun v _ _ wr => ∃ pos m : Nat, wr = w.iter t pos ∧ pos ≤ t.size ∧ v = .int .u64 (m : Int) ∧ Hid (chM a.data.toList (t.data.toList.take pos) 0 = some m)) (fun _ _ _ wr => t.size - wr.iterPos w.heap.size)
  case atStart => exact ⟨0, 0, rfl, by omega, rfl, Lib.hid rfl⟩
  case round =>
    obtain ⟨pos, m, rfl, hpp, rfl, hM⟩ := hrel
    by_cases hlt : pos < t.size
    · by_cases hasc : t[pos].toNat < 128
      · have hnx : ∀ ty, (Instr.next (.pointer (some ⟨w.heap.size, 0, none⟩)) true ty).run Tryd.prog (w.iter t pos) = _ := fun ty => run_next_ascii w t pos ty hlt hasc
        have CI := fun W => indexOf_plain a t[pos] W hasc
        have hix := ixO_index a.data.toList t[pos]
        rcases hx : ixO a.data.toList t[pos] with _ | k
        · have HB : Hid (chM a.data.toList t.data.toList 0 = none) := Lib.hid (cho_stop hlt hM.out (by rw [chM_cons, hx]))
          rw [hx] at hix
          rw [show Lib.indexByte a.data.toList t[pos] = -1 from hix] at CI
          clear hix hx
          go_wp2_with (go_at_call 60; (with_reducible refine (CI _).mono ?_); rintro e w' ⟨rfl, rfl⟩)
          go_ret2
          exact ⟨cho_no HB.out, below_iter _ _ _⟩
        · have hk := ixO_lt hx
          have hk63 : k < 63 := by omega
          have hm63 : m < 2 ^ 62 := chM_lt hal _ 0 m (by decide) hM.out
          have CC := fun W => choiceOf_any k W hk63
          rw [hx] at hix
          rw [show Lib.indexByte a.data.toList t[pos] = (k : Int) from hix] at CI
          have hkn : ¬ (k : Int) < 0 := by omega
          clear hix
          rcases hb : m.testBit k with _ | _
          · have HM : Hid (chM a.data.toList (t.data.toList.take (pos + 1)) 0 = some (m ||| 2 ^ k)) := Lib.hid (by
              rw [take_next t pos hlt, chM_snoc, hM.out]
              show chM a.data.toList [t[pos]] m = _
              rw [chM_cons, hx]
              show (if m.testBit k = true then none else chM a.data.toList [] (m ||| 2 ^ k)) = _
              rw [if_neg (by rw [hb]; decide)]; rfl)
            have hA := (and_pow m k).2 hb
            have hand := bits_and (m := m) (X := 2 ^ k) (by omega) (by have := pow63 hk63; omega)
            have hor := bits_or (m := m) (X := 2 ^ k) (by omega) (by have := pow63 hk63; omega)
            rw [hA] at hand
            obtain ⟨X, hX⟩ : ∃ X, X = 2 ^ k := ⟨_, rfl⟩
            obtain ⟨O, hO⟩ : ∃ O, O = m ||| 2 ^ k := ⟨_, rfl⟩
            rw [← hO] at HM hor
            rw [← hX] at CC hand hor
            clear hX hO hA hx hb hk hM
            go_wp2_with (first | (go_at_call 60; (with_reducible refine (CI _).mono ?_); rintro e w' ⟨rfl, rfl⟩) | (go_at_call 77; (with_reducible refine (CC _).mono ?_); rintro e w' ⟨rfl, rfl⟩))
            go_roundw
            case rel => exact ⟨pos + 1, O, rfl, by omega, rfl, HM⟩
            case measure => simp; omega
          · have HB : Hid (chM a.data.toList t.data.toList 0 = none) := Lib.hid (cho_stop hlt hM.out (by
              rw [chM_cons, hx]
              show (if m.testBit k = true then none else chM a.data.toList [] (m ||| 2 ^ k)) = _
              rw [if_pos hb]))
            have hA : m &&& 2 ^ k ≠ 0 := fun e => by
              have := (and_pow m k).1 e
              rw [hb] at this; cases this
            have hand := bits_and (m := m) (X := 2 ^ k) (by omega) (by have := pow63 hk63; omega)
            obtain ⟨X, hX⟩ : ∃ X, X = 2 ^ k := ⟨_, rfl⟩
            obtain ⟨O, hO⟩ : ∃ O, O = m &&& 2 ^ k := ⟨_, rfl⟩
            rw [← hO] at hand hA
            rw [← hX] at CC hand
            have hne : ((O : Int) != 0) = true := by simp; omega
            clear hX hO hA hx hb hk hM
            go_wp2_with (first | (go_at_call 60; (with_reducible refine (CI _).mono ?_); rintro e w' ⟨rfl, rfl⟩) | (go_at_call 77; (with_reducible refine (CC _).mono ?_); rintro e w' ⟨rfl, rfl⟩))
            go_ret2
            exact ⟨cho_no HB.out, below_iter _ _ _⟩
      · have hd := decode_high t pos hlt (by omega)
        have hnx : ∀ ty, (Instr.next (.pointer (some ⟨w.heap.size, 0, none⟩)) true ty).run Tryd.prog (w.iter t pos) = _ := fun ty => run_next_any w t pos ty hlt
        have CI := fun W => indexOf_high a (Utf8.decode t pos).1 W hp (by omega) hd.1
        have HB : Hid (chM a.data.toList t.data.toList 0 = none) := Lib.hid (cho_stop hlt hM.out (by
          rw [chM_cons, (ixO_none _ _).2]
          intro hmem
          have := hp _ hmem
          omega))
        go_wp2_with (go_at_call 60; (with_reducible refine (CI _).mono ?_); rintro e w1 ⟨rfl, b1⟩)
        go_ret2
        exact ⟨cho_no HB.out, (below_iter w t _).trans (b1.mono (below_iter w t _).size)⟩
    · obtain rfl : pos = t.size := by omega
      have HB : Hid (chM a.data.toList t.data.toList 0 = some m) := Lib.hid (by
        have := hM.out
        rw [List.take_of_length_le (by simp)] at this
        exact this)
      have hnx : ∀ ty, (Instr.next (.pointer (some ⟨w.heap.size, 0, none⟩)) true ty).run Tryd.prog (w.iter t t.size) = _ := fun ty => run_next_end w t t.size ty hlt
      go_wp2_with fail
      go_ret2
      exact ⟨cho_yes HB.out, below_iter _ _ _⟩
end Go.Proofs.YtfmlmgebomapjaaDoor
