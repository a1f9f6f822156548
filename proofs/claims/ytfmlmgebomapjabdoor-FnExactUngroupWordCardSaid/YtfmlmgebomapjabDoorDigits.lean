/-
  Contracts of DigitsOf, of the program and of the model: the digits of a word, or none.
-/
import Derived.Test.YtfmlmgebomapjabDoorWord
import Derived.Lib.OthersKept
import Derived.WalkSmall
namespace Go.Proofs.YtfmlmgebomapjabDoor
open Go.RowKit

def digs (l : List UInt8) : List Int := l.map fun c => digN c.toNat
def digR (s : ByteArray) (base : Int) : List Int := if wordB s base = true then digs s.data.toList else []
theorem digs_wf (l : List UInt8) : ∀ z ∈ digs l, (Lit.int .i64 z).wf = true := by
  intro z hz
  simp only [digs, List.mem_map] at hz
  obtain ⟨c, _, rfl⟩ := hz
  have := digN_bd c.toNat
  exact WalkArith.wf_i64 (by omega)
theorem digR_wf (s : ByteArray) (base : Int) : ∀ z ∈ digR s base, (Lit.int .i64 z).wf = true := by
  unfold digR
  split
  · exact digs_wf _
  · intro z hz; cases hz
theorem digs_len (l : List UInt8) : (digs l).length = l.length := by simp [digs]
theorem digR_le (s : ByteArray) (base : Int) : (digR s base).length ≤ 20 := by
  unfold digR
  split
  · next h =>
    rw [digs_len]
    simp [wordB] at h
    exact h.2.1
  · simp

/-- What DigitsOf leaves: a slice of its own (none if the text is no word). -/
def DigPost (s : ByteArray) (base : Int) (w : World) (e : Ending) (w' : World) : Prop :=
  ∃ A c, e = .returned (.tuple #[.slice A (digR s base).length c, .bool (wordB s base)]) ∧ Own w.heap.size w' A (digR s base).length c (digR s base) ∧ Below w.heap.size w w'
theorem dig_none {s : ByteArray} {base : Int} {w w' : World} (h : wordB s base = false) (hb : Below w.heap.size w w') :
    DigPost s base w (.returned (.tuple #[.slice none 0 0, .bool false])) w' := by
  have e : digR s base = [] := by simp [digR, h]
  refine ⟨none, 0, by rw [e, h]; rfl, ?_, hb⟩
  rw [e]
  exact ⟨⟨rfl, .inl ⟨rfl, rfl⟩⟩, by simp⟩
theorem one_cell (w : World) (x : Value) (t : TypeId) : ∀ j u, [x][j]? = some u → (w.alloc (.cells #[x] t)).cell? ((⟨w.heap.size, 0, none⟩ : Addr).add j) = some u := by
  intro j u hj
  match j, hj with
  | 0, hj => simp at hj; subst hj; simp [Addr.add]
  | j + 1, hj => simp at hj

set_option maxRecDepth 1000000 in
set_option maxHeartbeats 2000000 in
theorem implDigits_any (s : ByteArray) (base : Int) (w : World) (hs : s.size ≤ maxLen) :
    Calls Tryd.prog 27 #[.string s, .int .i64 base] w (DigPost s base w) := by
  unfold maxLen at hs
  rcases hbase : inB base 2 36 with _ | _
  · have HB : Hid (wordB s base = false) := Lib.hid (word_base hbase)
    go_enter Tryd.func27, Tryd.ntmps27
    go_wp2_with (go_at_call 35; (with_reducible refine (isBase_any _ _).mono ?_); rintro e w' ⟨rfl, rfl⟩)
    go_ret2
    exact dig_none HB.out (Below.refl _ _)
  · by_cases h20 : 20 < (s.size : Int)
    · have HB : Hid (wordB s base = false) := Lib.hid (by simp [wordB]; intros; omega)
      go_enter Tryd.func27, Tryd.ntmps27
      go_wp2_with (go_at_call 35; (with_reducible refine (isBase_any _ _).mono ?_); rintro e w' ⟨rfl, rfl⟩)
      go_ret2
      exact dig_none HB.out (Below.refl _ _)
    · have hb := inB_true.1 hbase
      have HBASE := Lib.hid hbase
      obtain ⟨i0, hi, hz0, hz1, hz2⟩ := info_parts info64
      go_enter Tryd.func27, Tryd.ntmps27
      go_wp2_with (first | (go_at_call 35; (with_reducible refine (isBase_any _ _).mono ?_); rintro e w' ⟨rfl, rfl⟩) | (refine wpList_make_own _ rfl _ _ 22 rfl w.heap.size 2 i0 (.int .i64 0) 1 Tryd.underlying22 hi hz0 hz1 .i64 .i64 s.size s.size rfl rfl rfl ?c1 ?c2 (Nat.le_refl _) ?_))
      case c1 => rw [hz2]; omega
      case c2 => unfold maxLen; omega
      intro w1 hown hg
      have hlt1 : w.heap.size < w1.heap.size := (hown.lt _ rfl).2
      have hbel : Below w.heap.size w w1 := (Below.refl _ w).grown hg (Nat.le_refl _) (fun k hk => by cases hk)
      clear hg
      go_wp2
      go_loopw [6, 8, 9] (fun v _ _ wr => ∃ pos : Nat, pos ≤ s.size ∧ v = .slice (some ⟨w.heap.size, 0, none⟩) pos s.size ∧ wr.heap[w1.heap.size]? = some (.stringIter s pos) ∧ wr.ownsRow w.heap.size 2 1 (.slice (some ⟨w.heap.size, 0, none⟩) pos s.size) pos (cells64 (digs (s.data.toList.take pos))) ∧ Below w.heap.size w wr ∧ Hid ((s.data.toList.take pos).all (digOk base) = true)) (fun _ _ _ wr => s.size - wr.iterPos w1.heap.size)
      case atStart => exact ⟨0, by omega, rfl, World.iter_heap w1 s 0, by simp only [List.take_zero, digs, List.map_nil, cells64]; exact hown.alloc (.stringIter s 0), hbel.alloc (by omega) _, Lib.hid rfl⟩
      case round =>
        obtain ⟨pos, hp, rfl, hit, ho, hbw, ha⟩ := hrel
        have hpos0 := Lib.hid (iterPos_of hit)
        have hitl : w1.heap.size < wr.heap.size := by have := (Array.getElem?_eq_some_iff.1 hit).1; omega
        by_cases hlt : pos < s.size
        · rcases hl : digOk base s[pos] with _ | _
          · have HW : Hid (wordB s base = false) := Lib.hid (dig_bad hlt hl)
            by_cases hasc : s[pos].toNat < 128
            · have hnx : ∀ ty, (Instr.next (.pointer (some ⟨w1.heap.size, 0, none⟩)) true ty).run Tryd.prog wr = _ := fun ty => Lib.run_next_ascii_at wr w1.heap.size s pos ty hit hlt hasc
              have hbw2 := Lib.below_iterAt hbw (k := w1.heap.size) (by omega) s (pos + 1)
              obtain ⟨W1, hW1⟩ : ∃ W1, W1 = wr.iterAt w1.heap.size s (pos + 1) := ⟨_, rfl⟩
              rw [← hW1] at hnx hbw2
              unfold digOk at hl
              obtain ⟨q, hq⟩ : ∃ q, q = s[pos].toNat := ⟨_, rfl⟩
              rw [← hq] at hnx hasc hl
              clear hW1 hit ho hbw hq
              go_wp2_with (first | (go_at_call 36; (with_reducible refine (digitOf_ascii _ _ hasc).mono ?_); rintro e w' ⟨rfl, rfl⟩) | (go_at_call 28; (with_reducible refine (within_any _ _ _ _).mono ?_); rintro e w' ⟨rfl, rfl⟩))
              go_ret2
              exact dig_none HW.out hbw2
            · have hd := decode_high s pos hlt (by omega)
              have hnx : ∀ ty, (Instr.next (.pointer (some ⟨w1.heap.size, 0, none⟩)) true ty).run Tryd.prog wr = _ := fun ty => Lib.run_next_any_at wr w1.heap.size s pos ty hit hlt
              have hbw2 := Lib.below_iterAt hbw (k := w1.heap.size) (by omega) s (pos + (Utf8.decode s pos).2)
              obtain ⟨W1, hW1⟩ : ∃ W1, W1 = wr.iterAt w1.heap.size s (pos + (Utf8.decode s pos).2) := ⟨_, rfl⟩
              rw [← hW1] at hnx hbw2
              obtain ⟨q, hq⟩ : ∃ q, q = (Utf8.decode s pos).1 := ⟨_, rfl⟩
              rw [← hq] at hnx hd
              have hd1 : 128 ≤ q := hd.1
              have hin : inB (-1) 0 (base - 1) = false := by rw [inB_false]; omega
              clear hW1 hit ho hbw hq hl hasc hd
              go_wp2_with (first | (go_at_call 36; (with_reducible refine (digitOf_high _ _ hd1).mono ?_); rintro e w' ⟨rfl, hb3⟩) | (go_at_call 28; (with_reducible refine (within_any _ _ _ _).mono ?_); rintro e w' ⟨rfl, rfl⟩))
              go_ret2
              exact dig_none HW.out (hbw2.trans (hb3.mono hbw2.size))
          · have hasc : s[pos].toNat < 128 := by
              rcases Nat.lt_or_ge s[pos].toNat 128 with h | h
              · exact h
              · unfold digOk at hl
                rw [digN_high h] at hl
                have := inB_true.1 hl
                omega
            have HA : Hid ((s.data.toList.take (pos + 1)).all (digOk base) = true) := Lib.hid (dig_next hlt ha.out hl)
            have HD : Hid (digs (s.data.toList.take (pos + 1)) = digs (s.data.toList.take pos) ++ [digN s[pos].toNat]) := Lib.hid (by rw [take_one s pos hlt]; simp [digs])
            have hnx : ∀ ty, (Instr.next (.pointer (some ⟨w1.heap.size, 0, none⟩)) true ty).run Tryd.prog wr = _ := fun ty => Lib.run_next_ascii_at wr w1.heap.size s pos ty hit hlt hasc
            have hit2 := Lib.iterAt_heap wr w1.heap.size s pos (pos + 1) hit
            have hbw2 := Lib.below_iterAt hbw (k := w1.heap.size) (by omega) s (pos + 1)
            have ho2 : (wr.iterAt w1.heap.size s (pos + 1)).ownsRow w.heap.size 2 1 (.slice (some ⟨w.heap.size, 0, none⟩) pos s.size) pos (cells64 (digs (s.data.toList.take pos))) :=
              ho.kept (row := some w1.heap.size) ⟨rfl, rfl, rfl, by rw [Lib.iterAt_size]; exact Nat.le_refl _, fun k _ hk => Lib.iterAt_other _ _ _ _ _ (fun e => hk (by rw [e]))⟩ (.inr (by simp [Value.ownBlock]; omega))
            have hsz2 := Lib.iterAt_size wr w1.heap.size s (pos + 1)
            obtain ⟨W1, hW1⟩ : ∃ W1, W1 = wr.iterAt w1.heap.size s (pos + 1) := ⟨_, rfl⟩
            rw [← hW1] at hnx hbw2 hit2 ho2 hsz2
            have hitl2 : w1.heap.size < W1.heap.size := by omega
            unfold digOk at hl
            obtain ⟨q, hq⟩ : ∃ q, q = s[pos].toNat := ⟨_, rfl⟩
            rw [← hq] at hnx hasc hl HD
            clear hW1 hit ho hbw hq hsz2
            go_wp2_with (first | (go_at_call 36; (with_reducible refine (digitOf_ascii _ _ hasc).mono ?_); rintro e w' ⟨rfl, rfl⟩) | (go_at_call 28; (with_reducible refine (within_any _ _ _ _).mono ?_); rintro e w' ⟨rfl, rfl⟩) | (at_builtin; refine wpList_append_fits _ rfl _ _ 22 rfl w.heap.size 2 i0 1 Tryd.underlying22 hi hz1 w.heap.size pos s.size _ rfl (ho2.alloc _) ⟨W1.heap.size, 0, none⟩ 1 1 [.int .i64 (digN q)] rfl rfl (one_cell _ _ _) (fun u hu => by simp at hu; subst hu; rfl) (by omega) ?_))
            intro w3 ho3 hg3
            have hit3 : w3.heap[w1.heap.size]? = some (.stringIter s (pos + 1)) := by
              rw [hg3.block w1.heap.size (by simp; omega) (by simp; omega), Below.heap_alloc _ _ _ hitl2]; exact hit2
            have hbw3 : Below w.heap.size w w3 := Below.grown (hbw2.alloc (by omega) _) hg3 (by simp; omega) (fun j hj => by simp at hj; omega)
            have e3 : cells64 (digs (s.data.toList.take pos)) ++ [Value.int .i64 (digN q)] = cells64 (digs (s.data.toList.take (pos + 1))) := by
              rw [HD.out]; simp [cells64]
            rw [e3] at ho3
            have HX : Hid (w3.iterPos w1.heap.size = pos + 1) := Lib.hid (iterPos_of hit3)
            have X : Hid (w3.heap[w1.heap.size]? = some (.stringIter s (pos + 1)) ∧ w3.ownsRow w.heap.size 2 1 (.slice (some ⟨w.heap.size, 0, none⟩) (pos + 1) s.size) (pos + 1) (cells64 (digs (s.data.toList.take (pos + 1)))) ∧ Below w.heap.size w w3) := Lib.hid ⟨hit3, ho3, hbw3⟩
            clear hit3 ho3 hbw3 e3 hg3
            go_wp2
            go_roundw
            case rel => exact ⟨pos + 1, by omega, rfl, X.out.1, X.out.2.1, X.out.2.2, HA⟩
            case measure => rw [HX.out, hpos0.out]; omega
        · obtain rfl : pos = s.size := by omega
          have HW : Hid (wordB s base = true) := Lib.hid (by rw [dig_all HBASE.out ha.out]; simp; omega)
          have hnx : ∀ ty, (Instr.next (.pointer (some ⟨w1.heap.size, 0, none⟩)) true ty).run Tryd.prog wr = _ := fun ty => Lib.run_next_end_at wr w1.heap.size s s.size ty hit hlt
          go_wp2
          go_ret2
          have e : digR s base = digs s.data.toList := by simp [digR, HW.out]
          have el : (digR s base).length = s.size := by rw [e, digs_len]; simp
          rw [List.take_of_length_le (by simp)] at ho
          refine ⟨_, s.size, by rw [el, HW.out]; rfl, ⟨?_, digR_wf s base⟩, hbw⟩
          rw [el, e]; exact ho
end Go.Proofs.YtfmlmgebomapjabDoor
