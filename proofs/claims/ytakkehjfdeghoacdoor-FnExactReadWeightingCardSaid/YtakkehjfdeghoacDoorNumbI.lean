/-
  The contract of the program's ReadList, by the library's SplitN.
-/
import Derived.Test.YtakkehjfdeghoacDoorNumb
namespace Go.Proofs.YtakkehjfdeghoacDoor
open Go.RowKit

/-- What the library asks of memory. -/
structure HeldS (w : World) : Prop where
  held : HeldL w
  max : ∃ m, w.cell? ⟨1, 0, none⟩ = some (.int .i64 m)
  lt : 1 < w.heap.size
theorem heldS_below {w w' : World} (h : HeldS w) (hb : Below w.heap.size w w') : HeldS w' := by
  obtain ⟨h1, ⟨m, h2⟩, h3⟩ := h
  have := hb.size
  exact ⟨held_below h1 hb, ⟨m, (hb.cell (p := ⟨1, 0, none⟩) h3).trans h2⟩, by omega⟩
/-- The parts of a text, or too many of them. -/
def SplitPost (l : List UInt8) (w : World) (e : Ending) (w' : World) : Prop :=
  ∃ cc ps, e = .returned (.slice (some ⟨w.heap.size, 0, none⟩) ps.length cc) ∧ Texts w'.heap.size w' (some ⟨w.heap.size, 0, none⟩) ps ∧ 1 ≤ ps.length ∧ ps.length ≤ 41 ∧ ((40 < (cut 32 l).length ∧ 40 < ps.length) ∨ (ps.length ≤ 40 ∧ textsOf ps = cut 32 l)) ∧ Below w.heap.size w w'
theorem splitN_any (s : ByteArray) (w : World) (hs : s.size ≤ 1048576) (h : HeldS w) :
    Calls Tryd.prog 24 #[.string s, .string ⟨#[32]⟩, .int .i64 41] w (SplitPost s.data.toList w) := by
  obtain ⟨_, ⟨m, hm⟩, _⟩ := h
  refine (Tryd.strings_SplitN s ⟨#[32]⟩ 41 m w (by omega) hm (by decide) (by omega) (by omega)).mono ?_
  rintro e w' ⟨rfl, rfl⟩
  have hl : s.data.toList.length = s.size := by simp
  have hk : min 41 (s.size + 1) - 1 ≤ 40 := by omega
  obtain ⟨K, hK⟩ : ∃ K, K = min 41 (s.size + 1) - 1 := ⟨_, rfl⟩
  have hN : min 41 (s.size + 1) = K + 1 := by omega
  rw [← hK]
  have hlen := Lib.splitB_length_le ⟨#[32]⟩ 0 K s
  have hdata := Lib.splitB_data ⟨#[32]⟩ 0 K s
  obtain ⟨ps, hps⟩ : ∃ ps, ps = Lib.splitB ⟨#[32]⟩ 0 K s := ⟨_, rfl⟩
  rw [← hps] at hlen hdata ⊢
  have hT : textsOf ps = Lib.splitK [32] 0 K s.data.toList := hdata
  have hL : ps.length = (Lib.splitK [32] 0 K s.data.toList).length := by rw [← hT]; simp
  have hc := split_cut 32 K s.data.toList
  have hcl := cut_len 32 s.data.toList
  have hc1 := List.length_pos_iff.2 (cut_ne 32 s.data.toList)
  refine ⟨_, ps, rfl, ?_, ?_, by omega, ?_, (Below.refl _ _).alloc (Nat.le_refl _) _⟩
  · intro j p hp
    refine ⟨w.heap.size, rfl, by simp, ?_⟩
    have hj := (List.getElem?_eq_some_iff.1 hp).1
    rw [World.cell?_alloc_new]
    simp only [Lib.cellsOf, List.getElem?_toArray]
    rw [List.getElem?_append_left (by simpa using hj)]
    simp [hp]
  · rcases Nat.lt_or_ge (K + 1) (cut 32 s.data.toList).length with h1 | h1
    · have := hc.2 (by omega); omega
    · have := hc.1 h1; rw [hL, this]; omega
  · rcases Nat.lt_or_ge 40 (cut 32 s.data.toList).length with h1 | h1
    · refine .inl ⟨h1, ?_⟩
      have hK40 : K = 40 := by omega
      have := hc.2 (by omega)
      omega
    · refine .inr ?_
      have h2 : (cut 32 s.data.toList).length ≤ K + 1 := by omega
      have := hc.1 h2
      exact ⟨by rw [hL, this]; exact h1, hT.trans this⟩
set_option maxRecDepth 100000 in
set_option maxHeartbeats 2000000 in
theorem implReadList_any (s : ByteArray) (w : World) (hs : s.size ≤ 1048576) (hH : HeldS w) :
    Calls Tryd.prog 26 #[.string s] w (GotList (listR s.data.toList) w) := by
  obtain ⟨i0, hi, hz0, hz1, hz2⟩ := info_parts info64
  by_cases hnone : s.data.toList = noneT
  · have HR : Hid (listR s.data.toList = some []) := Lib.hid (listR_none hnone)
    obtain rfl := text_eq.2 hnone
    clear hnone hH
    go_enter Tryd.func26, Tryd.ntmps26
    go_wp2_with fail
    go_ret2
    rw [HR.out]
    exact got_empty ⟨rfl, .inl ⟨rfl, rfl⟩⟩ (Below.refl _ _)
  · have ht2 : (s.toList == ([110, 111, 110, 101] : List UInt8)) = false := by rw [ByteArray.toList_eq, beq_eq_false_iff_ne]; exact hnone
    have HN := Lib.hid hnone
    have HH := Lib.hid hH
    have CC := splitN_any s w hs hH
    have hsz : s.data.toList.length = s.size := by simp
    clear hnone hH
    go_enter Tryd.func26, Tryd.ntmps26
    go_wp2_with fail
    (go_at_call 24; (with_reducible refine (CC).mono ?_); rintro e w1 ⟨cc, ps, rfl, hT, hp1, hp41, hcase, hb⟩)
    clear CC ht2
    by_cases hlong : 40 < ps.length
    · have HR : Hid (listR s.data.toList = none) := Lib.hid (by
        rcases hcase with ⟨h1, _⟩ | ⟨h1, _⟩
        · exact listR_long HN.out h1
        · omega)
      clear hcase hT
      go_wp2_with fail
      go_ret2
      rw [HR.out]
      exact got_none hb
    · obtain ⟨hle, hcut⟩ : ps.length ≤ 40 ∧ textsOf ps = cut 32 s.data.toList := by
        rcases hcase with ⟨_, h1⟩ | h1
        · omega
        · exact h1
      have hlen : ps.length = (cut 32 s.data.toList).length := by rw [← hcut]; simp
      have HR : Hid (listR s.data.toList = numsOf (cut 32 s.data.toList)) := Lib.hid (listR_nums HN.out (by omega))
      have HC := Lib.hid hcut
      have HL := Lib.hid hlen
      have hbs1 := hb.size
      clear hcase hcut hlen HN
      go_wp2_with (refine wpList_make_own _ rfl _ _ 22 rfl w1.heap.size 2 i0 (.int .i64 0) 1 Tryd.underlying22 hi hz0 hz1 .i64 .i64 ps.length ps.length rfl rfl rfl ?c1 ?c2 (Nat.le_refl _) ?_)
      case c1 => rw [hz2]; omega
      case c2 => unfold maxLen; omega
      intro w2 hown hg
      have hb2 : Below w1.heap.size w1 w2 := (Below.refl _ w1).grown hg (Nat.le_refl _) (fun k hk => by cases hk)
      have hT2 := hT.below hb2
      have HB2 : Hid (Below w.heap.size w w2) := Lib.hid (hb.trans (hb2.mono hbs1))
      have HH2 : Hid (HeldS w2) := Lib.hid (heldS_below HH.out HB2.out)
      have hown0 : w2.ownsRow w1.heap.size 2 1 (.slice (some ⟨w1.heap.size, 0, none⟩) 0 ps.length) 0 (cells64 []) := hown
      have hs2 := hb2.size
      clear hT hg hown hb hb2
      go_wp2_with fail
      go_loopw [5, 7, 8, 9, 22] (fun v _ _ _ i wr => ∃ (k : Nat) (zs : List Int), k ≤ ps.length ∧ i = .int .i64 (k : Int) ∧ v = .slice (some ⟨w1.heap.size, 0, none⟩) k ps.length ∧ wr.ownsRow w1.heap.size 2 1 (.slice (some ⟨w1.heap.size, 0, none⟩) k ps.length) k (cells64 zs) ∧ Texts w1.heap.size wr (some ⟨w.heap.size, 0, none⟩) ps ∧ Hid (numsOf ((cut 32 s.data.toList).take k) = some zs) ∧ Hid (HeldS wr ∧ Below w.heap.size w wr) ∧ w1.heap.size ≤ wr.heap.size) (fun _ _ _ _ i _ => ps.length - (intOf i).toNat)
      case atStart => exact ⟨0, [], by omega, rfl, rfl, hown0, hT2, Lib.hid rfl, Lib.hid ⟨HH2.out, HB2.out⟩, hs2⟩
      case round =>
        obtain ⟨k, zs, hk, rfl, rfl, ho, hp, hn, hb, hbs⟩ := hrel
        by_cases hlt : k < ps.length
        · have hpk : ps[k]? = some (ps[k]'hlt) := List.getElem?_eq_getElem hlt
          obtain ⟨p, hpe⟩ : ∃ p, p = ps[k]'hlt := ⟨_, rfl⟩
          rw [← hpe] at hpk
          obtain ⟨e1, e2, e3⟩ := texts_at HC.out hpk
          obtain ⟨g, hge, hg, hcell⟩ := hp k p hpk
          obtain rfl : w.heap.size = g := by injection hge with hge; injection hge
          have hpsz : p.size ≤ 1048576 := by omega
          rcases hv : specP p.data.toList with _ | v
          · have HF : Hid (listR s.data.toList = none) := Lib.hid (by rw [HR.out, e2]; exact nums_none hv)
            have CV : ∀ W, HeldL W → Calls Tryd.prog 25 #[.string p] W fun e w' => e = .returned (.tuple #[.int .i64 0, .bool false]) ∧ Below W.heap.size W w' := fun W hW => by
              have := implRead_any p W hpsz hW
              rw [implP_eq, hv] at this
              exact this
            clear e1 e2 e3 hpk hpe hv ho hp hge
            go_wp2_with fail
            (go_at_call 25; (with_reducible refine (CV _ hb.out.1.held).mono ?_); rintro e w3 ⟨rfl, b2⟩)
            go_wp2_with fail
            go_ret2
            rw [HF.out]
            exact got_none (hb.out.2.trans (b2.mono hb.out.2.size))
          · have HN2 : Hid (numsOf ((cut 32 s.data.toList).take (k + 1)) = some (zs ++ [v])) := Lib.hid (by rw [e1]; exact nums_snoc hn.out hv)
            have CV : ∀ W, HeldL W → Calls Tryd.prog 25 #[.string p] W fun e w' => e = .returned (.tuple #[.int .i64 v, .bool true]) ∧ Below W.heap.size W w' := fun W hW => by
              have := implRead_any p W hpsz hW
              rw [implP_eq, hv] at this
              exact this
            clear e1 e2 e3 hpk hpe hv hge
            go_wp2_with fail
            (go_at_call 25; (with_reducible refine (CV _ hb.out.1.held).mono ?_); rintro e w3 ⟨rfl, b2⟩)
            have ho2 := row_below ho b2
            have hp2 := hp.below (b2.mono hbs)
            have HB3 : Hid (HeldS w3 ∧ Below w.heap.size w w3) := Lib.hid ⟨heldS_below hb.out.1 b2, hb.out.2.trans (b2.mono hb.out.2.size)⟩
            have hbs3 : w1.heap.size ≤ w3.heap.size := by have := b2.size; omega
            have hlt3 := (ho2.lt _ rfl).2
            clear ho hp hb b2 CV
            go_wp2_with (at_builtin; refine wpList_append_fits _ rfl _ _ 22 rfl w1.heap.size 2 i0 1 Tryd.underlying22 hi hz1 w1.heap.size k ps.length _ rfl (ho2.alloc _) ⟨w3.heap.size, 0, none⟩ 1 1 [.int .i64 v] rfl rfl (cell_oneS _ _ _) (fun u hu => by simp at hu; subst hu; rfl) (by omega) ?_)
            intro w4 ho4 hg4
            have hbw : Below w1.heap.size w3 w4 := Below.grown ((Below.refl w1.heap.size w3).alloc (by omega) _) hg4 (by simp; omega) (fun j hj => by simp at hj; omega)
            have e5 : cells64 zs ++ [Value.int .i64 v] = cells64 (zs ++ [v]) := by simp [cells64]
            rw [e5] at ho4
            have hp4 := hp2.below hbw
            have hbB : Below w.heap.size w3 w4 := hbw.mono hbs1
            have X := Lib.hid (And.intro ho4 (And.intro hp4 (HB3.out.2.trans hbB)))
            have hh4 : Hid (HeldS w4) := Lib.hid (heldS_below HH.out X.out.2.2)
            have hs4 := hbw.size
            clear ho4 hp4 e5 hg4 hbw hbB
            go_wp2
            go_roundw
            case rel => exact ⟨k + 1, _, by omega, by go_num, rfl, X.out.1, X.out.2.1, HN2, Lib.hid ⟨hh4.out, X.out.2.2⟩, by omega⟩
            case measure => simp [intOf]; omega
        · obtain rfl : k = ps.length := by omega
          have HF : Hid (listR s.data.toList = some zs) := Lib.hid (by rw [HR.out, ← hn.out, List.take_of_length_le (by rw [HL.out]; exact Nat.le_refl _)])
          have HZ := Lib.hid (nums_len hn.out)
          have HW := Lib.hid (nums_wf hn.out)
          have HO := Lib.hid ho
          clear ho hp
          go_wp2
          go_ret2
          rw [HF.out]
          exact got_some (by rw [HZ.out, List.take_of_length_le (by rw [HL.out]; exact Nat.le_refl _), HL.out]) ⟨ownsRow_lower HO.out hbs1, HW.out⟩ hb.out.2
end Go.Proofs.YtakkehjfdeghoacDoor
