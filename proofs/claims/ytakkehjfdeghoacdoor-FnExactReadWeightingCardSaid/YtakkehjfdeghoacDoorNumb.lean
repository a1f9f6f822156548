/-
  Contracts of ReadList, of the program and of the model: the numbers of a text.
-/
import Derived.Test.YtakkehjfdeghoacDoorLRead
import Derived.Test.YtakkehjfdeghoacDoorCutW
import Derived.Test.YtakkehjfdeghoacDoorOwnK
import Derived.BigRegion
namespace Go.Proofs.YtakkehjfdeghoacDoor
open Go.RowKit

/-- The numbers of some texts, if all are numerals. -/
def numsOf : List (List UInt8) → Option (List Int)
  | [] => some []
  | p :: r => (specP p).bind fun v => (numsOf r).map fun vs => v :: vs
theorem nums_none : ∀ {a b : List (List UInt8)} {p : List UInt8}, specP p = none → numsOf (a ++ p :: b) = none := by
  intro a
  induction a with
  | nil => intro b p h; simp [numsOf, h]
  | cons x a ih => intro b p h; simp [numsOf, ih h]
theorem nums_snoc : ∀ {a : List (List UInt8)} {p : List UInt8} {zs : List Int} {v : Int}, numsOf a = some zs → specP p = some v → numsOf (a ++ [p]) = some (zs ++ [v]) := by
  intro a
  induction a with
  | nil => intro p zs v h h2; simp [numsOf] at h ⊢; subst h; simp [h2]
  | cons x a ih =>
    intro p zs v h h2
    simp only [numsOf, List.cons_append] at h ⊢
    rcases hx : specP x with _ | u
    · rw [hx] at h; simp at h
    · rw [hx] at h
      simp only [Option.bind_some] at h ⊢
      obtain ⟨vs, e1, e2⟩ := Option.map_eq_some_iff.1 h
      rw [ih e1 h2]
      simp [← e2]
theorem nums_len : ∀ {a : List (List UInt8)} {zs : List Int}, numsOf a = some zs → zs.length = a.length := by
  intro a
  induction a with
  | nil => intro zs h; simp [numsOf] at h; subst h; rfl
  | cons x a ih =>
    intro zs h
    simp only [numsOf] at h
    rcases hx : specP x with _ | u
    · rw [hx] at h; simp at h
    · rw [hx] at h
      simp only [Option.bind_some] at h
      obtain ⟨vs, e1, e2⟩ := Option.map_eq_some_iff.1 h
      rw [← e2]; simp [ih e1]
theorem spec_wf {p : List UInt8} {v : Int} (h : specP p = some v) : (Lit.int .i64 v).wf = true ∧ -1000000000000000 ≤ v ∧ v ≤ 1000000000000000 := by
  have := (numB_iff.1 ((specP_iff p v).1 h)).1
  exact ⟨WalkArith.wf_i64 (by omega), this⟩
theorem nums_wf : ∀ {a : List (List UInt8)} {zs : List Int}, numsOf a = some zs → ∀ z ∈ zs, (Lit.int .i64 z).wf = true := by
  intro a
  induction a with
  | nil => intro zs h; simp [numsOf] at h; subst h; simp
  | cons x a ih =>
    intro zs h z hz
    simp only [numsOf] at h
    rcases hx : specP x with _ | u
    · rw [hx] at h; simp at h
    · rw [hx] at h
      simp only [Option.bind_some] at h
      obtain ⟨vs, e1, e2⟩ := Option.map_eq_some_iff.1 h
      rw [← e2] at hz
      rcases List.mem_cons.1 hz with rfl | hz
      · exact (spec_wf hx).1
      · exact ih e1 z hz
abbrev noneT : List UInt8 := [110, 111, 110, 101]
/-- The list with a text. -/
def listR (l : List UInt8) : Option (List Int) := if l = noneT then some [] else if 40 < (cut 32 l).length then none else numsOf (cut 32 l)
theorem listR_none {l : List UInt8} (h : l = noneT) : listR l = some [] := by simp [listR, h]
theorem listR_long {l : List UInt8} (h : ¬ l = noneT) (h2 : 40 < (cut 32 l).length) : listR l = none := by simp [listR, h, h2]
theorem listR_nums {l : List UInt8} (h : ¬ l = noneT) (h2 : ¬ 40 < (cut 32 l).length) : listR l = numsOf (cut 32 l) := by simp [listR, h, h2]
theorem listR_le (l : List UInt8) : ((listR l).getD []).length ≤ 40 := by
  unfold listR
  split
  · simp
  · split
    · simp
    · next h2 =>
      rcases hn : numsOf (cut 32 l) with _ | zs
      · simp
      · have := nums_len hn; simp; omega
/-- What a function leaves that returns a list of its own, or none. -/
def GotList (o : Option (List Int)) (w : World) (e : Ending) (w' : World) : Prop :=
  ∃ A c, e = .returned (.tuple #[.slice A (o.getD []).length c, .bool o.isSome]) ∧ Own w.heap.size w' A (o.getD []).length c (o.getD []) ∧ Below w.heap.size w w'
theorem got_none {w w' : World} (hb : Below w.heap.size w w') : GotList none w (.returned (.tuple #[.slice none 0 0, .bool false])) w' :=
  ⟨none, 0, rfl, ⟨⟨rfl, .inl ⟨rfl, rfl⟩⟩, by simp⟩, hb⟩
theorem got_empty {w w' : World} {A : Option Addr} {c : Nat} (h : w'.ownsRow w.heap.size 2 1 (.slice A 0 c) 0 (cells64 [])) (hb : Below w.heap.size w w') : GotList (some []) w (.returned (.tuple #[.slice A 0 c, .bool true])) w' :=
  ⟨A, c, rfl, ⟨h, by simp⟩, hb⟩
theorem got_some {w w' : World} {A : Option Addr} {c n : Nat} {zs : List Int} (hn : zs.length = n) (ho : Own w.heap.size w' A n c zs) (hb : Below w.heap.size w w') : GotList (some zs) w (.returned (.tuple #[.slice A n c, .bool true])) w' := by
  subst hn; exact ⟨A, c, rfl, ho, hb⟩
theorem text_eq {s : ByteArray} : s = ⟨#[110, 111, 110, 101]⟩ ↔ s.data.toList = noneT := by
  obtain ⟨⟨l⟩⟩ := s
  simp
/-- What a loop over some texts reads of them. -/
def Texts (B : Nat) (w : World) (A : Option Addr) (ps : List ByteArray) : Prop :=
  ∀ j p, ps[j]? = some p → ∃ g, A = some ⟨g, 0, none⟩ ∧ g < B ∧ w.cell? ⟨g, j, none⟩ = some (.string p)
theorem Texts.below {B : Nat} {w w' : World} {A : Option Addr} {ps : List ByteArray} (h : Texts B w A ps) (hb : Below B w w') : Texts B w' A ps := fun j p hp => by
  obtain ⟨g, e, hg, hc⟩ := h j p hp
  exact ⟨g, e, hg, (hb.cell (p := ⟨g, j, none⟩) hg).trans hc⟩
theorem Texts.own {B : Nat} {w : World} {A : Option Addr} {cc : Nat} {ps : List ByteArray} (h : w.ownsRow B 9 1 (.slice A ps.length cc) ps.length (cellsS ps)) : Texts w.heap.size w A ps := by
  intro j p hp
  have hj := (List.getElem?_eq_some_iff.1 hp).1
  have h0 := h
  rcases h.2 with ⟨hv, hn⟩ | ⟨g, cap, cur, hv, _, hg, _⟩
  · omega
  · injection hv with h1
    subst h1
    refine ⟨g, rfl, (Array.getElem?_eq_some_iff.1 hg).1, ?_⟩
    rw [h0.cellAt j (by omega)]
    simp [hp]
theorem texts_at {ps : List ByteArray} {l : List UInt8} (h : textsOf ps = cut 32 l) {k : Nat} {p : ByteArray} (hp : ps[k]? = some p) : (cut 32 l).take (k + 1) = (cut 32 l).take k ++ [p.data.toList] ∧ cut 32 l = (cut 32 l).take k ++ p.data.toList :: (cut 32 l).drop (k + 1) ∧ p.size ≤ l.length := by
  have e : (cut 32 l)[k]? = some p.data.toList := by rw [← h]; simp [hp]
  have hk := (List.getElem?_eq_some_iff.1 e).1
  refine ⟨by rw [List.take_add_one, e]; rfl, ?_, ?_⟩
  · conv => lhs; rw [← List.take_append_drop k (cut 32 l)]
    rw [List.drop_eq_getElem_cons hk, (List.getElem?_eq_some_iff.1 e).2]
  · have := cut_le 32 l _ (List.mem_of_getElem? e)
    simpa using this
theorem row_apart {B1 B2 : Nat} {w : World} {t1 t2 : TypeId} {v : Value} {n1 n2 c : Nat} {A : Option Addr} {x1 x2 : List Value} (h1 : w.ownsRow B1 t1 1 v n1 x1) (h2 : w.ownsRow B2 t2 1 (.slice A n2 c) n2 x2) (ht : t1 ≠ t2) (g : Nat) (e : A = some ⟨g, 0, none⟩) : v.ownBlock ≠ some g := by
  rcases h1.2 with ⟨hv, _⟩ | ⟨g', cap, cur, hv, _, hg', _⟩
  · rw [hv]; simp [Value.ownBlock]
  · rw [hv]
    intro h
    have hgg : g' = g := by simpa [Value.ownBlock] using h
    subst hgg
    rcases h2.2 with ⟨hv2, _⟩ | ⟨g2, cap2, cur2, hv2, _, hg2, _⟩
    · injection hv2 with h3; rw [e] at h3; cases h3
    · injection hv2 with h3
      rw [e] at h3
      injection h3 with h3
      injection h3 with h3
      subst h3
      rw [hg'] at hg2
      injection hg2 with hg2
      injection hg2 with _ hg2
      exact ht hg2
theorem row_slice {w : World} {B : Nat} {t : TypeId} {v : Value} {k : Nat} {xs : List Value} (h : w.ownsRow B t 1 v k xs) : ∃ A c, v = .slice A k c := by
  rcases h.2 with ⟨hv, hn⟩ | ⟨g, cap, cur, hv, _⟩
  · exact ⟨none, 0, by rw [hv, hn]⟩
  · exact ⟨_, _, hv⟩
theorem row_below {w w' : World} {B : Nat} {t : TypeId} {A : Option Addr} {k c : Nat} {xs : List Value} (h : w.ownsRow B t 1 (.slice A k c) k xs) (hb : Below w.heap.size w w') : w'.ownsRow B t 1 (.slice A k c) k xs :=
  ownsRow_keep h fun g e => by
    rcases ownsRow_form h with ⟨h0, _⟩ | ⟨g', h0, _, hlt, _⟩
    · rw [e] at h0; cases h0
    · rw [e] at h0; injection h0 with h0; injection h0 with h0; subst h0; exact hb.block _ hlt
set_option maxRecDepth 100000 in
set_option maxHeartbeats 2000000 in
theorem l01Numbers_any (s : ByteArray) (w : World) (hs : s.size ≤ 1048576) :
    Calls Tryd.prog 48 #[.string s] w (GotList (listR s.data.toList) w) := by
  obtain ⟨i0, hi, hz0, hz1, hz2⟩ := info_parts info64
  by_cases hnone : s.data.toList = noneT
  · have HR : Hid (listR s.data.toList = some []) := Lib.hid (listR_none hnone)
    obtain rfl := text_eq.2 hnone
    clear hnone
    go_enter Tryd.func48, Tryd.ntmps48
    go_wp2_with fail
    go_ret2
    rw [HR.out]
    exact got_empty (World.ownsRow_made _ _ _ (Nat.le_refl _) (by unfold maxLen; omega) rfl) ((Below.refl _ _).alloc (Nat.le_refl _) _)
  · have ht2 : (s.toList == ([110, 111, 110, 101] : List UInt8)) = false := by rw [ByteArray.toList_eq, beq_eq_false_iff_ne]; exact hnone
    have ht3 : ¬ s = ⟨#[110, 111, 110, 101]⟩ := fun e => hnone (text_eq.1 e)
    have HN := Lib.hid hnone
    have CC := fun W => l01Cut_any s 32 32 rfl W hs
    clear hnone
    go_enter Tryd.func48, Tryd.ntmps48
    go_wp2_with fail
    (go_at_call 46; (with_reducible refine (CC _).mono ?_); rintro e w1 ⟨A, cc, ps, rfl, hps, hcut, hb⟩)
    have hlen : ps.length = (cut 32 s.data.toList).length := by rw [← hcut]; simp
    have hb1 : Below w.heap.size w w1 := ((Below.refl _ w).alloc (Nat.le_refl _) _).trans (hb.mono (by simp))
    have hown : w1.ownsRow w.heap.size 2 1 (.slice (some ⟨w.heap.size, 0, none⟩) 0 0) 0 (cells64 []) := by
      have h0 : (w.alloc (.cells #[] 2)).ownsRow w.heap.size 2 1 (.slice (some ⟨w.heap.size, 0, none⟩) 0 0) 0 (cells64 []) := World.ownsRow_made _ _ _ (Nat.le_refl _) (by unfold maxLen; omega) rfl
      refine ⟨h0.1, ?_⟩
      rcases h0.2 with hn | ⟨g, cap, cur, hv, hbb, hg, rest⟩
      · exact .inl hn
      · exact .inr ⟨g, cap, cur, hv, hbb, (hb.block g (Array.getElem?_eq_some_iff.1 hg).1).trans hg, rest⟩
    have hT := Texts.own hps
    have hsz : s.data.toList.length = s.size := by simp
    have HC := Lib.hid hcut
    have hp1 : ps.length ≤ s.size + 1 := by rw [hlen, ← hsz]; exact cut_len _ _
    clear hb ht2 ht3 CC
    by_cases hlong : 40 < ps.length
    · have HR : Hid (listR s.data.toList = none) := Lib.hid (listR_long HN.out (by omega))
      clear hown hlen
      go_wp2_with fail
      go_ret2
      rw [HR.out]
      exact got_none hb1
    · have HR : Hid (listR s.data.toList = numsOf (cut 32 s.data.toList)) := Lib.hid (listR_nums HN.out (by omega))
      clear HN
      have HL := Lib.hid hlen
      clear hlen hcut
      go_wp2_with fail
      go_loopw [4, 6, 7, 8] (fun v i _ _ wr => ∃ (k : Nat) (zs : List Int), k ≤ ps.length ∧ i = .int .i64 (k : Int) ∧ wr.ownsRow w.heap.size 2 1 v k (cells64 zs) ∧ wr.ownsRow (w.heap.size + 1) 9 1 (.slice A ps.length cc) ps.length (cellsS ps) ∧ Hid (numsOf ((cut 32 s.data.toList).take k) = some zs) ∧ Below w.heap.size w wr) (fun _ i _ _ _ => ps.length - (intOf i).toNat)
      case atStart => exact ⟨0, [], by omega, rfl, hown, ownsRow_lower hps (by simp), Lib.hid rfl, hb1⟩
      case round =>
        obtain ⟨k, zs, hk, rfl, ho, hp, hn, hb⟩ := hrel
        obtain ⟨A2, c2, rfl⟩ := row_slice ho
        have hbs := hb.size
        by_cases hlt : k < ps.length
        · have hpk : ps[k]? = some (ps[k]'hlt) := List.getElem?_eq_getElem hlt
          obtain ⟨p, hpe⟩ : ∃ p, p = ps[k]'hlt := ⟨_, rfl⟩
          rw [← hpe] at hpk
          obtain ⟨e1, e2, e3⟩ := texts_at HC.out hpk
          obtain ⟨g, rfl, hg, hcell⟩ := Texts.own hp k p hpk
          have hpsz : p.size ≤ 1048576 := by omega
          rcases hv : specP p.data.toList with _ | v
          · have HF : Hid (listR s.data.toList = none) := Lib.hid (by rw [HR.out, e2]; exact nums_none hv)
            have CV : ∀ W, Calls Tryd.prog 47 #[.string p] W fun e w' => e = .returned (.tuple #[.int .i64 0, .bool false]) ∧ Below W.heap.size W w' := fun W => by
              have := l01Value_any p W hpsz
              rw [hv] at this
              exact this
            clear e1 e2 e3 hpk hpe hv ho hp
            go_wp2_with fail
            (go_at_call 47; (with_reducible refine (CV _).mono ?_); rintro e w2 ⟨rfl, b2⟩)
            go_wp2_with fail
            go_ret2
            rw [HF.out]
            exact got_none (hb.trans (b2.mono hbs))
          · have HN2 : Hid (numsOf ((cut 32 s.data.toList).take (k + 1)) = some (zs ++ [v])) := Lib.hid (by rw [e1]; exact nums_snoc hn.out hv)
            have CV : ∀ W, Calls Tryd.prog 47 #[.string p] W fun e w' => e = .returned (.tuple #[.int .i64 v, .bool true]) ∧ Below W.heap.size W w' := fun W => by
              have := l01Value_any p W hpsz
              rw [hv] at this
              exact this
            clear e1 e2 e3 hpk hpe hv
            go_wp2_with fail
            (go_at_call 47; (with_reducible refine (CV _).mono ?_); rintro e w2 ⟨rfl, b2⟩)
            have ho2 := row_below ho b2
            have hp2 := row_below hp b2
            have hb2 := hb.trans (b2.mono hbs)
            have hbs2 := hb2.size
            clear ho hp hb b2 CV
            go_wp2_with (at_builtin; refine wpList_append_own _ rfl _ _ 22 rfl w.heap.size 2 i0 (.int .i64 0) 1 8 Tryd.underlying22 hi hz0 hz1 hz2 rfl (by decide) _ _ _ rfl (ho2.alloc _) ⟨w2.heap.size, 0, none⟩ 1 1 [.int .i64 v] rfl rfl (cell_oneS _ _ _) (fun u hu => by simp at hu; subst hu; rfl) ?c1 ?c2 ?c3 ?_)
            case c1 => unfold maxLen; omega
            case c2 => omega
            case c3 => simp; omega
            intro v3 w3 ho3 hg3 _
            have hbw3 : Below w.heap.size w w3 := Below.grown (hb2.alloc (by omega) _) hg3 (by simp; omega) (fun j hj => (ho2.lt j hj).1)
            have hp3 : w3.ownsRow (w.heap.size + 1) 9 1 (.slice (some ⟨g, 0, none⟩) ps.length cc) ps.length (cellsS ps) := ownsRow_keep hp2 fun g' e => by
              have hlt2 : g' < w2.heap.size := by
                rcases ownsRow_form hp2 with ⟨h0, _⟩ | ⟨g'', h0, _, hl, _⟩
                · cases h0
                · rw [e] at h0; injection h0 with h0; injection h0 with h0; omega
              rw [hg3.block g' (by simp; omega) (fun e4 => row_apart ho2 hp2 (by decide) g' e e4.symm), Below.heap_alloc _ _ _ hlt2]
            have e5 : cells64 zs ++ [Value.int .i64 v] = cells64 (zs ++ [v]) := by simp [cells64]
            rw [e5] at ho3
            have X := Lib.hid (And.intro ho3 (And.intro hp3 hbw3))
            clear ho3 hp3 hbw3 e5 hg3
            go_wp2
            go_roundw
            case rel => exact ⟨k + 1, _, by omega, by go_num, X.out.1, X.out.2.1, HN2, X.out.2.2⟩
            case measure => simp [intOf]; omega
        · obtain rfl : k = ps.length := by omega
          have HF : Hid (listR s.data.toList = some zs) := Lib.hid (by rw [HR.out, ← hn.out, List.take_of_length_le (by rw [HL.out]; exact Nat.le_refl _)])
          have HZ := Lib.hid (nums_len hn.out)
          have HW := Lib.hid (nums_wf hn.out)
          have X := Lib.hid (And.intro ho hb)
          clear ho hb hp
          go_wp2
          go_ret2
          rw [HF.out]
          exact got_some (by rw [HZ.out, List.take_of_length_le (by rw [HL.out]; exact Nat.le_refl _), HL.out]) ⟨X.out.1, HW.out⟩ X.out.2
end Go.Proofs.YtakkehjfdeghoacDoor
