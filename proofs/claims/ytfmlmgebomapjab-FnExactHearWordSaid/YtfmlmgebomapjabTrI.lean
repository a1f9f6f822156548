/-
  Lexicons: the program's trie of words, the model's test, and the law's walk.
-/
import Derived.Test.YtfmlmgebomapjabTrH
import Derived.Test.YtfmlmgebomapjabSRow
import Derived.Test.YtfmlmgebomapjabLim
namespace Go.Proofs.Ytfmlmgebomapjab
open Go.RowKit

def wokB (s : ByteArray) : Bool := decide (1 ≤ s.size) && hearB s
/-- Whether texts are a lexicon. -/
def lexB (ss : List ByteArray) : Bool := decide (2 ≤ ss.length ∧ ss.length ≤ 16) && (ss.all wokB && decide ss.Nodup)
theorem lex_len {ss : List ByteArray} (h : ¬ (2 ≤ ss.length ∧ ss.length ≤ 16)) : lexB ss = false := by unfold lexB; rw [decide_eq_false h]; rfl
theorem lex_all {ss : List ByteArray} (h : ss.all wokB = false) : lexB ss = false := by simp [lexB, h]
theorem lex_dup {ss : List ByteArray} (h : ¬ ss.Nodup) : lexB ss = false := by simp [lexB, h]
theorem lex_yes {ss : List ByteArray} (h1 : ss.all wokB = true) (h2 : ss.Nodup) : lexB ss = decide (2 ≤ ss.length ∧ ss.length ≤ 16) := by simp [lexB, h1, h2]
theorem lex_parts {ss : List ByteArray} (h : lexB ss = true) : 2 ≤ ss.length ∧ ss.length ≤ 16 ∧ ss.all wokB = true := by
  unfold lexB at h
  simp only [Bool.and_eq_true, decide_eq_true_eq] at h
  exact ⟨h.1.1, h.1.2, h.2.1⟩
theorem dup_at {ss : List ByteArray} {i k : Nat} {s : ByteArray} (hk : ss[k]? = some s) (hi : ss[i]? = some s) (h : k < i) : ¬ ss.Nodup := by
  intro hn
  obtain ⟨h1, e1⟩ := List.getElem?_eq_some_iff.1 hk
  obtain ⟨h2, e2⟩ := List.getElem?_eq_some_iff.1 hi
  exact (List.pairwise_iff_getElem.1 hn) k i h1 h2 h (e1.trans e2.symm)
theorem nodup_of {ss : List ByteArray} (h : ∀ (i k : Nat) (s : ByteArray), k < i → ss[k]? = some s → ss[i]? = some s → False) : ss.Nodup := by
  refine List.pairwise_iff_getElem.2 (fun i j hi hj hij e => ?_)
  exact h j i ss[i] hij (List.getElem?_eq_getElem hi) (by rw [List.getElem?_eq_getElem hj, e])
theorem wok_let {s : ByteArray} (h : wokB s = true) : letB s = true ∧ s.size ≤ 20 := by
  unfold wokB hearB at h
  simp only [Bool.and_eq_true, decide_eq_true_eq] at h
  exact ⟨h.2.2, h.2.1⟩
theorem let_97 {s : ByteArray} (h : letB s = true) : ∀ b ∈ s.data.toList, 97 ≤ b.toNat := fun b hb => by
  have := List.all_eq_true.1 h b hb
  simp only [lowB, decide_eq_true_eq] at this
  exact this.1
theorem lets_eq {s t : ByteArray} (hs : letB s = true) (ht : letB t = true) (h : lets s.data.toList = lets t.data.toList) : s = t := by
  have := lets_inj _ _ (let_97 hs) (let_97 ht) h
  exact ByteArray.ext (Array.toList_inj.1 this)
theorem str_noneL {s : ByteArray} (h : ¬ s.size = 0) : (s.toList == ([] : List UInt8)) = false := by
  rw [ByteArray.toList_eq, beq_eq_false_iff_ne]
  intro e
  have := congrArg List.length e
  simp at this
  exact h (by simpa using this)
theorem str_someL {s : ByteArray} (h : s.size = 0) : s.toList = [] := by
  rw [ByteArray.toList_eq]
  exact List.eq_nil_of_length_eq_zero (by simpa using h)

def wsOf (ss : List ByteArray) : List (List Nat) := ss.map fun s => lets s.data.toList
/-- The trie with no word. -/
def trie0 (g : Nat) : Tr := ⟨[g], fun _ => none, fun _ _ => none⟩
theorem trie0_ok (g : Nat) : (trie0 g).Ok := ⟨by simp [trie0], by simp [trie0], by simp [trie0], by simp [trie0], by simp [trie0]⟩
theorem trie0_deep (g : Nat) : (trie0 g).Deep 20 := by
  intro u i e
  cases u with
  | nil => simp
  | cons c l => cases e
theorem trie0_has (g : Nat) : (trie0 g).Has (wsOf []) := by
  intro u z
  have : (trie0 g).acc u = none := by
    unfold Tr.acc
    cases u with
    | nil => rfl
    | cons c l => rfl
  rw [this]
  simp [wsOf]
theorem trie0_at (w : World) : TrAt (w.alloc (.cells #[Value.bool false, Value.int .i64 0, Value.pointer none, Value.pointer none, Value.pointer none, Value.pointer none, Value.pointer none, Value.pointer none, Value.pointer none, Value.pointer none, Value.pointer none, Value.pointer none, Value.pointer none, Value.pointer none, Value.pointer none, Value.pointer none, Value.pointer none, Value.pointer none, Value.pointer none, Value.pointer none, Value.pointer none, Value.pointer none, Value.pointer none, Value.pointer none, Value.pointer none, Value.pointer none, Value.pointer none, Value.pointer none] 60)) w.heap.size (trie0 w.heap.size) := by
  refine ⟨fun i hi => ?_, fun i j hij hj => ?_⟩
  · have h0 : i = 0 := by simp [trie0] at hi; exact hi
    subst h0
    exact ⟨Nat.le_refl _, Blk.new w _ _⟩
  · simp [trie0] at hj; omega
/-- How far the words have been added. -/
def TrIn (w : World) (ss : List ByteArray) (k : Nat) (wr : World) : Prop :=
  ∃ T : Tr, TrAt wr w.heap.size T ∧ T.Ok ∧ T.Deep 20 ∧ T.gs.getD 0 0 = w.heap.size ∧ T.Has (wsOf (ss.take k)) ∧ (ss.take k).all wokB = true
def TrPost (ss : List ByteArray) (w : World) (e : Ending) (w' : World) : Prop :=
  Below w.heap.size w w' ∧ ((lexB ss = false ∧ e = .returned (.tuple #[.pointer none, .bool false])) ∨
    (lexB ss = true ∧ e = .returned (.tuple #[.pointer (some ⟨w.heap.size, 0, none⟩), .bool true]) ∧ TrIn w ss ss.length w'))
theorem has_dup {ss : List ByteArray} {k : Nat} {s : ByteArray} {T : Tr} (hh : T.Has (wsOf (ss.take k))) (ha : (ss.take k).all wokB = true) (hs : ss[k]? = some s) (hl : letB s = true) (hd : T.acc (lets s.data.toList) ≠ none) : ¬ ss.Nodup := by
  cases hz : T.acc (lets s.data.toList) with
  | none => exact absurd hz hd
  | some z =>
    have h1 := (hh _ z).1 hz
    unfold wsOf at h1
    rw [List.getElem?_map] at h1
    cases h2 : (ss.take k)[z]? with
    | none => rw [h2] at h1; cases h1
    | some t =>
      rw [h2] at h1
      simp only [Option.map_some, Option.some.injEq] at h1
      have h3 := List.all_eq_true.1 ha t (List.mem_of_getElem? h2)
      have h4 := lets_eq (wok_let h3).1 hl h1
      subst h4
      have hzk : z < k := by
        have := (List.getElem?_eq_some_iff.1 h2).1
        simp at this
        omega
      rw [List.getElem?_take, if_pos hzk] at h2
      exact dup_at h2 hs hzk
theorem has_nodup {ss : List ByteArray} {T : Tr} (hh : T.Has (wsOf ss)) : ss.Nodup := by
  refine nodup_of (fun i k s hki hk hi => ?_)
  have h1 : T.acc (lets s.data.toList) = some k := (hh _ k).2 (by unfold wsOf; rw [List.getElem?_map, hk]; rfl)
  have h2 : T.acc (lets s.data.toList) = some i := (hh _ i).2 (by unfold wsOf; rw [List.getElem?_map, hi]; rfl)
  rw [h1] at h2
  injection h2 with h2
  omega

set_option maxRecDepth 100000 in
set_option maxHeartbeats 4000000 in
theorem trieOf_any {B : Nat} (A : Option Addr) (n c : Nat) (ss : List ByteArray) (w : World) (h : SRow B w A n ss) (hB : B ≤ w.heap.size) :
    Calls Try.prog 28 #[.slice A n c] w (TrPost ss w) := by
  have hle := h.le
  have hl := h.1
  have CI := fun W => withinInt_any (n : Int) 2 16 W
  rcases hin : inB n 2 16 with _ | _
  · have H : Hid (lexB ss = false) := Lib.hid (lex_len (by rw [hl]; have := inB_false.1 hin; omega))
    rw [hin] at CI
    clear hin
    go_enter Try.func28, Try.ntmps28
    go_wp2_with (go_at_call 36; (with_reducible refine (CI _).mono ?_); rintro e w' ⟨rfl, rfl⟩)
    go_ret2
    exact ⟨Below.refl _ _, .inl ⟨H.out, rfl⟩⟩
  · have hn := inB_true.1 hin
    rw [hin] at CI
    have HL := Lib.hid hl
    have HT : Hid (TrIn w ss 0 (w.alloc (.cells #[Value.bool false, Value.int .i64 0, Value.pointer none, Value.pointer none, Value.pointer none, Value.pointer none, Value.pointer none, Value.pointer none, Value.pointer none, Value.pointer none, Value.pointer none, Value.pointer none, Value.pointer none, Value.pointer none, Value.pointer none, Value.pointer none, Value.pointer none, Value.pointer none, Value.pointer none, Value.pointer none, Value.pointer none, Value.pointer none, Value.pointer none, Value.pointer none, Value.pointer none, Value.pointer none, Value.pointer none, Value.pointer none] 60))) := Lib.hid ⟨trie0 w.heap.size, trie0_at w, trie0_ok _, trie0_deep _, rfl, trie0_has _, rfl⟩
    clear hin hl
    go_enter Try.func28, Try.ntmps28
    go_wp2_with (go_at_call 36; (with_reducible refine (CI _).mono ?_); rintro e w' ⟨rfl, rfl⟩)
    go_loopw [5, 6, 15] (fun _ _ y wr => ∃ k : Nat, k ≤ n ∧ y = .int .i64 k ∧ Hid (TrIn w ss k wr) ∧ Below w.heap.size w wr) (fun _ _ y _ => n - (intOf y).toNat)
    case atStart => exact ⟨0, by omega, rfl, HT, (Below.refl _ _).alloc (Nat.le_refl _) _⟩
    case round =>
      obtain ⟨k, hk, rfl, hT, hbl⟩ := hrel
      obtain ⟨W, hW⟩ : ∃ W, W = wr := ⟨_, rfl⟩
      rw [← hW] at hT hbl ⊢
      clear hW HT
      have hsz := hbl.size
      by_cases hlt : k < n
      · obtain ⟨b, o, s, rfl, _, hs, hc, hsm⟩ := (h.below (hbl.mono hB)).at_ hlt
        have HS := Lib.hid hs
        have CH := fun W => isHeard_any s W hsm
        clear hs
        by_cases h0 : s.size = 0
        · have hst := str_someL h0
          have H : Hid (lexB ss = false) := Lib.hid (lex_all (all_bad (p := wokB) HS.out (by simp [wokB, h0])))
          clear h0
          go_wp2_with fail
          go_ret2
          exact ⟨hbl, .inl ⟨H.out, rfl⟩⟩
        · have hst := str_noneL h0
          rcases hh : hearB s with _ | _
          · have H : Hid (lexB ss = false) := Lib.hid (lex_all (all_bad (p := wokB) HS.out (by simp [wokB, hh])))
            rw [hh] at CH
            clear h0 hh
            go_wp2_with (go_at_call 25; (with_reducible refine (CH _).mono ?_); rintro e w1 ⟨rfl, b1⟩)
            go_ret2
            exact ⟨hbl.trans (b1.mono hsz), .inl ⟨H.out, rfl⟩⟩
          · have HW : Hid (wokB s = true) := Lib.hid (by unfold wokB; rw [hh, Bool.and_true]; simp; omega)
            rw [hh] at CH
            clear h0 hh
            go_wp2_with fail
            (go_at_call 25; (with_reducible refine (CH _).mono ?_); rintro e w1 ⟨rfl, b1⟩)
            have B1 := Lib.hid (hbl.trans (b1.mono hsz))
            obtain ⟨T, t1, t2, t6, t3, t4, t5⟩ := hT.out
            have CA := add_any T s k w1 (t1.below b1) t2 t6 (wok_let HW.out).2 (wok_let HW.out).1 (Nat.le_trans hsz b1.size)
            rw [t3] at CA
            have TT := Lib.hid (And.intro t3 (And.intro t4 t5))
            clear hT hbl b1 t1 t2 t3 t4 t5 t6
            go_wp2_with fail
            (go_at_call 43; (with_reducible refine (CA).mono ?_); rintro e w2 ⟨bA, hA⟩)
            rcases hA with ⟨hd, rfl⟩ | ⟨hd, rfl, hN⟩
            · have H : Hid (lexB ss = false) := Lib.hid (lex_dup (has_dup TT.out.2.1 TT.out.2.2 HS.out (wok_let HW.out).1 hd))
              have B2 := Lib.hid (B1.out.trans bA)
              clear hd bA
              go_wp2_with fail
              go_ret2
              exact ⟨B2.out, .inl ⟨H.out, rfl⟩⟩
            · have B2 := Lib.hid (B1.out.trans bA)
              have H : Hid (TrIn w ss (k + 1) w2) := Lib.hid (by
                obtain ⟨T', u1, u2, u5, u3, u4⟩ := hN
                have hlk : (ss.take k).length = k := by simp; have := HL.out; omega
                have e : wsOf (ss.take (k + 1)) = wsOf (ss.take k) ++ [lets s.data.toList] := by
                  unfold wsOf
                  rw [List.take_add_one, HS.out]; simp
                refine ⟨T', u1, u2, u5, u3.trans TT.out.1, ?_, all_step HS.out TT.out.2.2 HW.out⟩
                rw [e]
                refine Tr.Has.add TT.out.2.1 hd (fun v => ?_)
                rw [u4 v]
                unfold wsOf
                rw [List.length_map, hlk])
              clear hd bA hN
              go_wp2_with fail
              go_roundw
              case rel => exact ⟨k + 1, by omega, by go_num, H, B2.out⟩
              case measure => simp [intOf]; omega
      · obtain rfl : k = n := by omega
        have H : Hid (lexB ss = true ∧ TrIn w ss ss.length W) := Lib.hid (by
          obtain ⟨T, t1, t2, t6, t3, t4, t5⟩ := hT.out
          have e : ss.take k = ss := List.take_of_length_le (by rw [HL.out]; exact Nat.le_refl _)
          refine ⟨?_, T, t1, t2, t6, t3, by rw [List.take_length, ← e]; exact t4, by rw [List.take_length, ← e]; exact t5⟩
          rw [e] at t4 t5
          rw [lex_yes t5 (has_nodup t4), HL.out]
          simp; omega)
        go_wp2_with fail
        go_ret2
        exact ⟨hbl, .inr ⟨H.out.1, rfl, H.out.2⟩⟩

set_option maxHeartbeats 1000000 in
theorem implLex_any {B : Nat} (A : Option Addr) (n c : Nat) (ss : List ByteArray) (w : World) (h : SRow B w A n ss) (hB : B ≤ w.heap.size) :
    Calls Try.prog 13 #[.slice A n c] w fun e w' => e = .returned (.bool (lexB ss)) ∧ Below w.heap.size w w' := by
  have CT := trieOf_any A n c ss w h hB
  go_enter Try.func13, Try.ntmps13
  go_wp2_with fail
  (go_at_call 28; (with_reducible refine (CT).mono ?_); rintro e w1 ⟨b1, hP⟩)
  rcases hP with ⟨hx, rfl⟩ | ⟨hx, rfl, _⟩
  · have HX := Lib.hid hx
    clear hx
    go_wp2_with fail
    go_ret
    exact ⟨ret_bool HX.out.symm, b1⟩
  · have HX := Lib.hid hx
    clear hx
    go_wp2_with fail
    go_ret
    exact ⟨ret_bool HX.out.symm, b1⟩
end Go.Proofs.Ytfmlmgebomapjab
