/-
  The contract of the model's l01Cut: the parts of a text between marks.
-/
import Derived.Test.YtfmlmgebomapjaaDoorCutN
import Derived.Lib.Strings
namespace Go.Proofs.YtfmlmgebomapjaaDoor
open Go.RowKit

/-- How far the parts before place i are cut; the part under way begins at f. -/
def Cutting (c : UInt8) (l : List UInt8) (done : List (List UInt8)) (f i : Nat) : Prop :=
  done.length ≤ i ∧ ((i = l.length + 1 ∧ done = cut c l) ∨ (f ≤ i ∧ i ≤ l.length ∧ done ++ cut c (l.drop f) = cut c l ∧ ∀ b ∈ (l.drop f).take (i - f), b ≠ c))
theorem cutting_start (c : UInt8) (l : List UInt8) : Cutting c l [] 0 0 := ⟨Nat.le_refl _, .inr ⟨Nat.le_refl _, Nat.zero_le _, by simp, by simp⟩⟩
theorem cutting_skip {c b : UInt8} {l : List UInt8} {done : List (List UInt8)} {f i : Nat} (h : Cutting c l done f i) (hb : l[i]? = some b) (hc : b ≠ c) : Cutting c l done f (i + 1) := by
  have hi := (List.getElem?_eq_some_iff.1 hb).1
  obtain ⟨h0, h1 | ⟨h1, h2, h3, h4⟩⟩ := h
  · omega
  · refine ⟨by omega, .inr ⟨by omega, by omega, h3, ?_⟩⟩
    intro x hx
    rw [show i + 1 - f = (i - f) + 1 by omega, List.take_add_one, List.getElem?_drop, show f + (i - f) = i by omega, hb] at hx
    rcases List.mem_append.1 hx with hx | hx
    · exact h4 x hx
    · simp at hx; rw [hx]; exact hc
theorem cutting_hit {c : UInt8} {l : List UInt8} {done : List (List UInt8)} {f i : Nat} (h : Cutting c l done f i) (hb : l[i]? = some c) : Cutting c l (done ++ [(l.drop f).take (i - f)]) (i + 1) (i + 1) := by
  obtain ⟨hi, hb⟩ := List.getElem?_eq_some_iff.1 hb
  obtain ⟨h0, h1 | ⟨h1, h2, h3, h4⟩⟩ := h
  · omega
  · refine ⟨by simp; omega, .inr ⟨Nat.le_refl _, by omega, ?_, by simp⟩⟩
    have e : l.drop f = (l.drop f).take (i - f) ++ c :: l.drop (i + 1) := by
      have h5 := (List.take_append_drop (i - f) (l.drop f)).symm
      rw [List.drop_drop, show f + (i - f) = i by omega, List.drop_eq_getElem_cons hi, hb] at h5
      exact h5
    rw [← h3]
    conv => rhs; rw [e, cut_hit _ h4]
    simp
theorem cutting_end {c : UInt8} {l : List UInt8} {done : List (List UInt8)} {f : Nat} (h : Cutting c l done f l.length) : Cutting c l (done ++ [(l.drop f).take (l.length - f)]) (l.length + 1) (l.length + 1) := by
  obtain ⟨h0, h1 | ⟨h1, h2, h3, h4⟩⟩ := h
  · omega
  · refine ⟨by simp; omega, .inl ⟨rfl, ?_⟩⟩
    have e : (l.drop f).take (l.length - f) = l.drop f := List.take_of_length_le (by simp)
    rw [e] at h4 ⊢
    rw [← h3, cut_free h4]
theorem cutting_done {c : UInt8} {l : List UInt8} {done : List (List UInt8)} {f : Nat} (h : Cutting c l done f (l.length + 1)) : done = cut c l := by
  obtain ⟨_, ⟨_, h1⟩ | ⟨_, h2, _⟩⟩ := h
  · exact h1
  · omega
abbrev textsOf (ps : List ByteArray) : List (List UInt8) := ps.map fun p => p.data.toList
abbrev cellsS (ps : List ByteArray) : List Value := ps.map Value.string
theorem infoStr : (Tryd.prog.info? 9).map (fun i => (i.zero, i.size, i.bytes)) = some (some (.string ByteArray.empty), 1, 16) := by kernel_rfl
/-- The parts of a text, in a slice of one's own. -/
def CutPost (s : ByteArray) (c : UInt8) (w : World) (e : Ending) (w' : World) : Prop :=
  ∃ A cc ps, e = .returned (.slice A ps.length cc) ∧ w'.ownsRow w.heap.size 9 1 (.slice A ps.length cc) ps.length (cellsS ps) ∧ textsOf ps = cut c s.data.toList ∧ Below w.heap.size w w'
theorem part_text (s : ByteArray) (f i : Nat) : (s.extract f i).data.toList = (s.data.toList.drop f).take (i - f) := Lib.extract_data s f i
theorem cell_oneS (w : World) (x : Value) (t : TypeId) : ∀ j u, [x][j]? = some u → (w.alloc (.cells #[x] t)).cell? ((⟨w.heap.size, 0, none⟩ : Addr).add j) = some u := by
  intro j u hj
  match j, hj with
  | 0, hj => simp at hj; subst hj; simp [Addr.add]
  | j + 1, hj => simp at hj
theorem byte_at {s : ByteArray} {k : Nat} (h : k < s.size) : s.data.toList[k]? = some s[k] := by
  have h' : k < s.data.toList.length := by simpa using h
  rw [List.getElem?_eq_getElem h']
  simp [ByteArray.getElem_eq_getElem_data]
set_option maxRecDepth 100000 in
set_option maxHeartbeats 2000000 in
theorem l01Cut_byte (s : ByteArray) (c : UInt8) (w : World) (hs : s.size ≤ 1048576) :
    Calls Tryd.prog 62 #[.string s, .int .u8 (c.toNat : Int)] w (CutPost s c w) := by
  obtain ⟨i0, hi, hz0, hz1, hz2⟩ := info_parts infoStr
  have hlen : s.data.toList.length = s.size := by simp
  go_enter Tryd.func62, Tryd.ntmps62
  go_wp2
  go_loopw [5, 6, 7] (fun v f i wr => ∃ (fN k : Nat) (ps : List ByteArray), f = .int .i64 (fN : Int) ∧ i = .int .i64 (k : Int) ∧ k ≤ s.size + 1 ∧ (k ≤ s.size → fN ≤ k) ∧ ps.length ≤ k ∧ wr.ownsRow w.heap.size 9 1 v ps.length (cellsS ps) ∧ Hid (Cutting c s.data.toList (textsOf ps) fN k) ∧ Below w.heap.size w wr) (fun _ _ i _ => s.size + 1 - (intOf i).toNat)
  case atStart => exact ⟨0, 0, [], rfl, rfl, by omega, by omega, by simp, World.ownsRow_made _ _ _ (Nat.le_refl _) (by unfold maxLen; omega) rfl, Lib.hid (cutting_start _ _), (Below.refl _ _).alloc (Nat.le_refl _) _⟩
  case round =>
    obtain ⟨f, k, ps, rfl, rfl, hk, hfk, hpk, ho, hc, hb⟩ := hrel
    by_cases hle : k ≤ s.size
    · have hf := hfk hle
      have hbs := hb.size
      by_cases hke : k = s.size
      · have HN : Hid (Cutting c s.data.toList (textsOf (ps ++ [s.extract f k])) (k + 1) (k + 1)) := Lib.hid (by
          have h := hc.out
          rw [hke, ← hlen] at h
          have := cutting_end h
          rw [hke]
          simp only [textsOf, List.map_append, List.map_cons, List.map_nil, part_text]
          rw [hlen] at this
          exact this)
        subst hke
        go_wp2_with (at_builtin; refine wpList_append_own _ rfl _ _ 25 rfl w.heap.size 9 i0 (.string ByteArray.empty) 1 16 Tryd.underlying25 hi hz0 hz1 hz2 rfl (by decide) _ _ _ rfl (ho.alloc _) ⟨wr.heap.size, 0, none⟩ 1 1 [.string (s.extract f s.size)] rfl rfl (cell_oneS _ _ _) (fun u hu => by simp at hu; subst hu; rfl) ?c1 ?c2 ?c3 ?_)
        case c1 => unfold maxLen; omega
        case c2 => omega
        case c3 => simp; omega
        intro v3 w3 ho3 hg3 _
        have hbw3 : Below w.heap.size w w3 := Below.grown (hb.alloc (by omega) _) hg3 (by simp; omega) (fun j hj => (ho.lt j hj).1)
        have e3 : cellsS ps ++ [Value.string (s.extract f s.size)] = cellsS (ps ++ [s.extract f s.size]) := by simp [cellsS]
        have e4 : ps.length + 1 = (ps ++ [s.extract f s.size]).length := by simp
        rw [e3, e4] at ho3
        have X : Hid (w3.ownsRow w.heap.size 9 1 v3 (ps ++ [s.extract f s.size]).length (cellsS (ps ++ [s.extract f s.size])) ∧ Below w.heap.size w w3) := Lib.hid ⟨ho3, hbw3⟩
        clear ho3 hbw3 e3 e4 hg3
        go_wp2
        go_roundw
        case rel => exact ⟨s.size + 1, s.size + 1, _, by go_num, by go_num, by omega, by omega, by simp; omega, X.out.1, HN, X.out.2⟩
        case measure => simp [intOf]
      · have hlt : k < s.size := by omega
        have hbyte := byte_at hlt
        have hle255 : s[k].toNat ≤ 255 := by have := s[k].toNat_lt; omega
        by_cases hm : s[k] = c
        · have HN : Hid (Cutting c s.data.toList (textsOf (ps ++ [s.extract f k])) (k + 1) (k + 1)) := Lib.hid (by
            simp only [textsOf, List.map_append, List.map_cons, List.map_nil, part_text]
            exact cutting_hit hc.out (by rw [hbyte, hm]))
          have hmm : ((s[k].toNat : Int) == (c.toNat : Int)) = true := by rw [hm]; exact beq_self_eq_true _
          have hke' : ((k : Int) == (s.size : Int)) = false := by rw [beq_eq_false_iff_ne]; omega
          clear hbyte hm
          go_wp2_with (at_builtin; refine wpList_append_own _ rfl _ _ 25 rfl w.heap.size 9 i0 (.string ByteArray.empty) 1 16 Tryd.underlying25 hi hz0 hz1 hz2 rfl (by decide) _ _ _ rfl (ho.alloc _) ⟨wr.heap.size, 0, none⟩ 1 1 [.string (s.extract f k)] rfl rfl (cell_oneS _ _ _) (fun u hu => by simp at hu; subst hu; rfl) ?c1 ?c2 ?c3 ?_)
          case c1 => unfold maxLen; omega
          case c2 => omega
          case c3 => simp; omega
          intro v3 w3 ho3 hg3 _
          have hbw3 : Below w.heap.size w w3 := Below.grown (hb.alloc (by omega) _) hg3 (by simp; omega) (fun j hj => (ho.lt j hj).1)
          have e3 : cellsS ps ++ [Value.string (s.extract f k)] = cellsS (ps ++ [s.extract f k]) := by simp [cellsS]
          have e4 : ps.length + 1 = (ps ++ [s.extract f k]).length := by simp
          rw [e3, e4] at ho3
          have X : Hid (w3.ownsRow w.heap.size 9 1 v3 (ps ++ [s.extract f k]).length (cellsS (ps ++ [s.extract f k])) ∧ Below w.heap.size w w3) := Lib.hid ⟨ho3, hbw3⟩
          clear ho3 hbw3 e3 e4 hg3
          go_wp2
          go_roundw
          case rel => exact ⟨k + 1, k + 1, _, by go_num, by go_num, by omega, by omega, by simp; omega, X.out.1, HN, X.out.2⟩
          case measure => simp [intOf]; omega
        · have HN : Hid (Cutting c s.data.toList (textsOf ps) f (k + 1)) := Lib.hid (cutting_skip hc.out hbyte hm)
          have hmm : ((s[k].toNat : Int) == (c.toNat : Int)) = false := by rw [beq_eq_false_iff_ne]; exact fun e => hm (UInt8.toNat_inj.1 (by omega))
          have hke' : ((k : Int) == (s.size : Int)) = false := by rw [beq_eq_false_iff_ne]; omega
          have HO := Lib.hid (And.intro ho hb)
          clear hbyte hm ho hb
          go_wp2
          go_roundw
          case rel => exact ⟨f, k + 1, ps, rfl, by go_num, by omega, by omega, by omega, HO.out.1, HN, HO.out.2⟩
          case measure => simp [intOf]; omega
    · obtain rfl : k = s.size + 1 := by omega
      have hv : ∃ A cc, u5 = .slice A ps.length cc := by
        rcases ho.2 with ⟨hv, hn⟩ | ⟨g, cap, cur, hv, _⟩
        · exact ⟨none, 0, by rw [hv, hn]⟩
        · exact ⟨_, _, hv⟩
      obtain ⟨A, cc, rfl⟩ := hv
      have HE : Hid (textsOf ps = cut c s.data.toList) := Lib.hid (cutting_done (f := f) (by rw [hlen]; exact hc.out))
      have HO := Lib.hid (And.intro ho hb)
      clear ho hb hc
      go_wp2
      go_ret
      exact ⟨A, cc, ps, rfl, HO.out.1, HE.out, HO.out.2⟩
theorem l01Cut_any (s : ByteArray) (c : UInt8) (C : Int) (hC : C = c.toNat) (w : World) (hs : s.size ≤ 1048576) :
    Calls Tryd.prog 62 #[.string s, .int .u8 C] w (CutPost s c w) := by
  subst hC; exact l01Cut_byte s c w hs
end Go.Proofs.YtfmlmgebomapjaaDoor
