/-
  ReadWeighting, of the model and of the program.
-/
import Derived.Test.YtakkehjfdeghoacDoorRwM
import Derived.Test.YtakkehjfdeghoacDoorLast
import Derived.Lib.Hide
namespace Go.Proofs.YtakkehjfdeghoacDoor
open Go.RowKit

def Four (l : List UInt8) (w' : World) (g N : Nat) : Prop :=
  (N ≠ 4 ∧ rwO l = none) ∨ (N = 4 ∧ ∃ p0 p1 p2 p3 : ByteArray, (w'.cell? ⟨g, 0, none⟩ = some (.string p0) ∧ w'.cell? ⟨g, 1, none⟩ = some (.string p1) ∧ w'.cell? ⟨g, 2, none⟩ = some (.string p2) ∧ w'.cell? ⟨g, 3, none⟩ = some (.string p3)) ∧ (p0.size ≤ 1048576 ∧ p1.size ≤ 1048576 ∧ p2.size ≤ 1048576 ∧ p3.size ≤ 1048576) ∧ rwO l = rw4 p0.data.toList p1.data.toList p2.data.toList p3.data.toList)
/-- The parts of a text. -/
def PartsAt (l : List UInt8) (w : World) (e : Ending) (w' : World) : Prop :=
  ∃ g N cc, e = .returned (.slice (some ⟨g, 0, none⟩) N cc) ∧ g < w'.heap.size ∧ N ≤ 2000000 ∧ Below w.heap.size w w' ∧ Four l w' g N
theorem four_of {l : List UInt8} {w' : World} {g : Nat} {ps : List ByteArray} (hT : Texts w'.heap.size w' (some ⟨g, 0, none⟩) ps) (hsz : ∀ p ∈ ps, p.size ≤ 1048576) (h1 : ps.length ≠ 4 → rwO l = none) (h2 : ∀ a b c d, textsOf ps = [a, b, c, d] → rwO l = rw4 a b c d) : Four l w' g ps.length := by
  by_cases h : ps.length = 4
  · refine .inr ⟨h, ?_⟩
    match ps, h with
    | [p0, p1, p2, p3], _ =>
      have c : ∀ j p, [p0, p1, p2, p3][j]? = some p → w'.cell? ⟨g, j, none⟩ = some (.string p) := fun j p hp => by
        obtain ⟨g', e, _, hc⟩ := hT j p hp
        injection e with e
        injection e with e
        rw [e]; exact hc
      exact ⟨p0, p1, p2, p3, ⟨c 0 _ rfl, c 1 _ rfl, c 2 _ rfl, c 3 _ rfl⟩, ⟨hsz _ (by simp), hsz _ (by simp), hsz _ (by simp), hsz _ (by simp)⟩, h2 _ _ _ _ rfl⟩
  · exact .inl ⟨h, h1 h⟩
theorem l01Cut_parts (s : ByteArray) (w : World) (hs : s.size ≤ 1048576) :
    Calls Tryd.prog 46 #[.string s, .int .u8 47] w (PartsAt s.data.toList w) := by
  refine (l01Cut_any s 47 47 rfl w hs).mono ?_
  rintro e w' ⟨A, cc, ps, rfl, ho, ht, hb⟩
  have hT := Texts.own ho
  have hl : s.data.toList.length = s.size := by simp
  have hlen : ps.length = (cut 47 s.data.toList).length := by rw [← ht]; simp
  have hcl := cut_len 47 s.data.toList
  have hpos := List.length_pos_iff.2 (cut_ne 47 s.data.toList)
  obtain ⟨g, rfl, hg, _⟩ := hT 0 _ (List.getElem?_eq_getElem (show 0 < ps.length by omega))
  refine ⟨g, ps.length, cc, rfl, hg, by omega, hb, four_of hT (fun p hp => ?_) (fun h => rwO_else (by omega)) (fun a b c d e => rwO_four (by rw [← ht]; exact e))⟩
  have h3 := cut_le 47 s.data.toList p.data.toList (by rw [← ht]; exact List.mem_map_of_mem hp)
  have : p.data.toList.length = p.size := by simp
  omega
theorem splitN_parts (s : ByteArray) (w : World) (hs : s.size ≤ 1048576) (h : HeldS w) :
    Calls Tryd.prog 24 #[.string s, .string ⟨#[47]⟩, .int .i64 4] w (PartsAt s.data.toList w) := by
  obtain ⟨_, ⟨m, hm⟩, _⟩ := h
  refine (Tryd.strings_SplitN s ⟨#[47]⟩ 4 m w (by omega) hm (by decide) (by omega) (by omega)).mono ?_
  rintro e w' ⟨rfl, rfl⟩
  have hl : s.data.toList.length = s.size := by simp
  obtain ⟨K, hK⟩ : ∃ K, K = min 4 (s.size + 1) - 1 := ⟨_, rfl⟩
  have hN : min 4 (s.size + 1) = K + 1 := by omega
  rw [← hK]
  have hlen := Lib.splitB_length_le ⟨#[47]⟩ 0 K s
  have hdata := Lib.splitB_data ⟨#[47]⟩ 0 K s
  obtain ⟨ps, hps⟩ : ∃ ps, ps = Lib.splitB ⟨#[47]⟩ 0 K s := ⟨_, rfl⟩
  rw [← hps] at hlen hdata ⊢
  have hT : textsOf ps = Lib.splitK [47] 0 K s.data.toList := hdata
  obtain ⟨r1, r2, r3⟩ := split_rw s.data.toList K (by omega)
  have hL : ps.length = (Lib.splitK [47] 0 K s.data.toList).length := by rw [← hT]; simp
  refine ⟨w.heap.size, ps.length, _, rfl, by simp, by omega, (Below.refl _ _).alloc (Nat.le_refl _) _, four_of ?_ (fun p hp => ?_) (fun h => r2 (by omega)) (fun a b c d e => r3 _ _ _ _ (by rw [← hT]; exact e))⟩
  · intro j p hp
    refine ⟨w.heap.size, rfl, by simp, ?_⟩
    have hj := (List.getElem?_eq_some_iff.1 hp).1
    rw [World.cell?_alloc_new]
    simp only [Lib.cellsOf, List.getElem?_toArray]
    rw [List.getElem?_append_left (by simpa using hj)]
    simp [hp]
  · have h3 := (split_last 47 K s.data.toList).1 p.data.toList (by rw [← hT]; exact List.mem_map_of_mem hp)
    have : p.data.toList.length = p.size := by simp
    omega

theorem made_any {B n3 c : Nat} {k : Bool} {w w' : World} {x0 x1 x2 : Int} {zs : List Int} {A : Option Addr} (hn : n3 = zs.length) (ho : Own B w' A n3 c zs) (hb : Below B w w') : MadeWB B ⟨x0, x1, x2, zs⟩ k w (.returned (.tuple #[.agg #[.int .i64 x0, .int .i64 x1, .int .i64 x2, .slice A n3 c], .bool k])) w' := by
  subst hn
  exact ⟨A, c, rfl, ho, hb⟩
theorem Own.lower2 {B B' : Nat} {w : World} {A : Option Addr} {n c : Nat} {zs : List Int} (h : Own B w A n c zs) (hB : B' ≤ B) : Own B' w A n c zs := ⟨ownsRow_lower h.1 hB, h.2⟩
theorem made_no {B : Nat} {o : Option Wt} {w w' : World} (h : o = none) (hb : Below B w w') : MadeWB B (o.getD zeroW) o.isSome w (.returned (.tuple #[.agg #[.int .i64 0, .int .i64 0, .int .i64 0, .slice none 0 0], .bool false])) w' := by
  rw [h]; exact made_zero hb
theorem made_yes {B n3 c : Nat} {o : Option Wt} {w w' : World} {x0 x1 x2 : Int} {zs : List Int} {A : Option Addr} (h : o = some ⟨x0, x1, x2, zs⟩) (hn : n3 = zs.length) (ho : Own B w' A n3 c zs) (hb : Below B w w') : MadeWB B (o.getD zeroW) o.isSome w (.returned (.tuple #[.agg #[.int .i64 x0, .int .i64 x1, .int .i64 x2, .slice A n3 c], .bool true])) w' := by
  subst hn
  rw [h]; exact ⟨A, c, rfl, ho, hb⟩
set_option maxRecDepth 100000 in
set_option maxHeartbeats 4000000 in
theorem l03Read_any (s : ByteArray) (w : World) (hs : s.size ≤ 1048576) :
    Calls Tryd.prog 23 #[.string s] w (MadeWB w.heap.size ((rwO s.data.toList).getD zeroW) (rwO s.data.toList).isSome w) := by
  obtain ⟨w1, hw1⟩ : ∃ w1, w1 = w.alloc (.cells #[.int .i64 0, .int .i64 0, .int .i64 0, .slice none 0 0] 28) := ⟨_, rfl⟩
  have bel : Below w.heap.size w w1 := by rw [hw1]; exact (Below.refl _ w).alloc (Nat.le_refl _) _
  have b1 : Blk w1 w.heap.size #[.int .i64 0, .int .i64 0, .int .i64 0, .slice none 0 0] 28 := by rw [hw1]; exact Blk.new _ _ _
  have CC := l01Cut_parts s w1 hs
  have BEL := Lib.hid bel
  have B1 := Lib.hid b1
  have LT1 := Lib.hid b1.lt
  clear bel b1
  go_enter Tryd.func23, Tryd.ntmps23
  go_wp2_with fail
  rw [← hw1]
  have HW1 := Lib.hid hw1
  clear hw1
  (go_at_call 46; (with_reducible refine (CC).mono ?_); rintro e w2 ⟨g, N, cc, rfl, hg, hN, be, h4⟩)
  have BL : Hid (Below w.heap.size w w2) := Lib.hid (BEL.out.trans (be.mono BEL.out.size))
  have DD : Hid (Blk w2 w.heap.size #[.int .i64 0, .int .i64 0, .int .i64 0, .slice none 0 0] 28) := Lib.hid (B1.out.below be LT1.out)
  have DL := Lib.hid DD.out.lt
  clear be CC
  rcases h4 with ⟨hn4, hO⟩ | ⟨rfl, p0, p1, p2, p3, ⟨k0, k1, k2, k3⟩, ⟨z0, z1, z2, z3⟩, hO⟩
  · have HR := Lib.hid hO
    have D2 := DD
    have BL2 := BL
    clear hO
    have hni : ¬ ((N : Int) = 4) := by omega
    have e0 := D2.out.cell 0
    have e1 := D2.out.cell 1
    have e2 := D2.out.cell 2
    have e3 := D2.out.cell 3
    have fe0 := D2.out.frozen 0
    have fe1 := D2.out.frozen 1
    have fe2 := D2.out.frozen 2
    have fe3 := D2.out.frozen 3
    go_wp2_with fail
    have q : Blk (four w2 w.heap.size (.int .i64 0) (.int .i64 0) (.int .i64 0) (.slice none 0 0)) w.heap.size #[.int .i64 0, .int .i64 0, .int .i64 0, .slice none 0 0] 28 := four_blk D2.out _ _ _ _
    have FB : Hid (Below w.heap.size w (four w2 w.heap.size (.int .i64 0) (.int .i64 0) (.int .i64 0) (.slice none 0 0))) := Lib.hid (four_below BL2.out (Nat.le_refl _) _ _ _ _)
    obtain ⟨w9, hw9⟩ : ∃ w9, w9 = four w2 w.heap.size (.int .i64 0) (.int .i64 0) (.int .i64 0) (.slice none 0 0) := ⟨_, rfl⟩
    rw [← hw9] at q FB
    unfold four at hw9
    rw [← hw9]
    have q0 := q.cell 0
    have q1 := q.cell 1
    have q2 := q.cell 2
    have q3 := q.cell 3
    refine bodyPost_ret (v := .tuple #[.agg #[.int .i64 0, .int .i64 0, .int .i64 0, .slice none 0 0], .bool false]) (by simp [results, Tryd.results23, go_sem, q0, q1, q2, q3]) rfl ?_
    exact made_no HR.out FB.out
  · have HL := rw4_eq p0.data.toList p1.data.toList p2.data.toList p3.data.toList
    rw [← hO] at HL
    have SF : ∀ X : World, Below w2.heap.size w2 X → X.cell? ⟨g, 0, none⟩ = some (.string p0) ∧ X.cell? ⟨g, 1, none⟩ = some (.string p1) ∧ X.cell? ⟨g, 2, none⟩ = some (.string p2) ∧ X.cell? ⟨g, 3, none⟩ = some (.string p3) := fun X hX => ⟨(hX.cell (p := ⟨g, 0, none⟩) hg).trans k0, (hX.cell (p := ⟨g, 1, none⟩) hg).trans k1, (hX.cell (p := ⟨g, 2, none⟩) hg).trans k2, (hX.cell (p := ⟨g, 3, none⟩) hg).trans k3⟩
    have SF := Lib.hid SF
    have C0 : ∀ Y, Below w2.heap.size w2 Y → Calls Tryd.prog 47 #[.string p0] Y fun e w' => e = .returned (.tuple #[.int .i64 ((specP p0.data.toList).getD 0), .bool (specP p0.data.toList).isSome]) ∧ Below Y.heap.size Y w' := fun Y hY => l01Value_any p0 Y z0
    have C1 : ∀ Y, Below w2.heap.size w2 Y → Calls Tryd.prog 47 #[.string p1] Y fun e w' => e = .returned (.tuple #[.int .i64 ((specP p1.data.toList).getD 0), .bool (specP p1.data.toList).isSome]) ∧ Below Y.heap.size Y w' := fun Y hY => l01Value_any p1 Y z1
    have C2 : ∀ Y, Below w2.heap.size w2 Y → Calls Tryd.prog 47 #[.string p2] Y fun e w' => e = .returned (.tuple #[.int .i64 ((specP p2.data.toList).getD 0), .bool (specP p2.data.toList).isSome]) ∧ Below Y.heap.size Y w' := fun Y hY => l01Value_any p2 Y z2
    have C3 : ∀ Y, Below w2.heap.size w2 Y → Calls Tryd.prog 48 #[.string p3] Y (fun e w' => ∃ A c, e = .returned (.tuple #[.slice A ((listR p3.data.toList).getD []).length c, .bool (listR p3.data.toList).isSome]) ∧ Own Y.heap.size w' A ((listR p3.data.toList).getD []).length c ((listR p3.data.toList).getD []) ∧ Below Y.heap.size Y w') := fun Y hY => l01Numbers_any p3 Y z3
    have hn3 := listR_le p3.data.toList
    generalize (specP p0.data.toList).getD 0 = x0 at C0 HL
    generalize (specP p0.data.toList).isSome = o0 at C0 HL
    generalize (specP p1.data.toList).getD 0 = x1 at C1 HL
    generalize (specP p1.data.toList).isSome = o1 at C1 HL
    generalize (specP p2.data.toList).getD 0 = x2 at C2 HL
    generalize (specP p2.data.toList).isSome = o2 at C2 HL
    generalize (listR p3.data.toList).getD [] = zs at C3 HL hn3
    generalize (listR p3.data.toList).isSome = o3 at C3 HL
    obtain ⟨n3, hn⟩ : ∃ n3, n3 = zs.length := ⟨_, rfl⟩
    rw [← hn] at C3 hn3
    have HZ := Lib.hid hn
    have B0 : Hid (Below w2.heap.size w2 w2) := Lib.hid (Below.refl _ _)
    clear hO z0 z1 z2 z3 k1 k2 k3 hn hs
    rcases o0 with _ | _
    · simp [-Option.ite_none_right_eq_some] at HL
      have C0 := Lib.hid C0
      have C1 := Lib.hid C1
      have C2 := Lib.hid C2
      have C3 := Lib.hid C3
      have HR := Lib.hid HL
      clear HL
      go_wp2_with fail
      (go_at_call 47; (with_reducible refine (C0.out _ B0.out).mono ?_); rintro e v0 ⟨rfl, be⟩)
      have B1 : Hid (Below w2.heap.size w2 v0) := Lib.hid (B0.out.trans (be.mono B0.out.size))
      have k1 := (SF.out _ B1.out).2.1
      clear be
      go_wp2_with fail
      (go_at_call 47; (with_reducible refine (C1.out _ B1.out).mono ?_); rintro e v1 ⟨rfl, be⟩)
      have B2 : Hid (Below w2.heap.size w2 v1) := Lib.hid (B1.out.trans (be.mono B1.out.size))
      have k2 := (SF.out _ B2.out).2.2.1
      clear be
      go_wp2_with fail
      (go_at_call 47; (with_reducible refine (C2.out _ B2.out).mono ?_); rintro e v2 ⟨rfl, be⟩)
      have B3 : Hid (Below w2.heap.size w2 v2) := Lib.hid (B2.out.trans (be.mono B2.out.size))
      have k3 := (SF.out _ B3.out).2.2.2
      clear be
      go_wp2_with fail
      (go_at_call 48; (with_reducible refine (C3.out _ B3.out).mono ?_); rintro e v3 ⟨A, c, rfl, ow, be⟩)
      have B4 : Hid (Below w2.heap.size w2 v3) := Lib.hid (B3.out.trans (be.mono B3.out.size))
      have BL2 : Hid (Below w.heap.size w v3) := Lib.hid (BL.out.trans (B4.out.mono BL.out.size))
      have D2 : Hid (Blk v3 w.heap.size #[.int .i64 0, .int .i64 0, .int .i64 0, .slice none 0 0] 28) := Lib.hid (DD.out.below B4.out DL.out)
      have OV : Hid (Own w.heap.size v3 A n3 c zs) := Lib.hid (Own.lower2 ow (Nat.le_trans (Nat.le_trans BL.out.size B3.out.size) (Nat.le_refl _)))
      have lt3 := D2.out.lt
      have ne3 : w.heap.size ≠ v3.heap.size := by omega
      clear be ow
      have e0 := D2.out.cell 0
      have e1 := D2.out.cell 1
      have e2 := D2.out.cell 2
      have e3 := D2.out.cell 3
      have fe0 := D2.out.frozen 0
      have fe1 := D2.out.frozen 1
      have fe2 := D2.out.frozen 2
      have fe3 := D2.out.frozen 3
      go_wp2_with fail
      have q : Blk ((four v3 w.heap.size (.int .i64 0) (.int .i64 0) (.int .i64 0) (.slice none 0 0)).alloc (.cells #[.int .i64 x0, .int .i64 x1, .int .i64 x2, .slice A n3 c] 28)) w.heap.size #[.int .i64 0, .int .i64 0, .int .i64 0, .slice none 0 0] 28 := (four_blk D2.out _ _ _ _).alloc _
      have FB : Hid (Below w.heap.size w ((four v3 w.heap.size (.int .i64 0) (.int .i64 0) (.int .i64 0) (.slice none 0 0)).alloc (.cells #[.int .i64 x0, .int .i64 x1, .int .i64 x2, .slice A n3 c] 28))) := Lib.hid ((four_below BL2.out (Nat.le_refl _) _ _ _ _).alloc (four_below BL2.out (Nat.le_refl _) _ _ _ _).size _)
      obtain ⟨w9, hw9⟩ : ∃ w9, w9 = (four v3 w.heap.size (.int .i64 0) (.int .i64 0) (.int .i64 0) (.slice none 0 0)).alloc (.cells #[.int .i64 x0, .int .i64 x1, .int .i64 x2, .slice A n3 c] 28) := ⟨_, rfl⟩
      rw [← hw9] at q FB
      unfold four at hw9
      rw [← hw9]
      have q0 := q.cell 0
      have q1 := q.cell 1
      have q2 := q.cell 2
      have q3 := q.cell 3
      refine bodyPost_ret (v := .tuple #[.agg #[.int .i64 0, .int .i64 0, .int .i64 0, .slice none 0 0], .bool false]) (by simp [results, Tryd.results23, go_sem, q0, q1, q2, q3]) rfl ?_
      exact made_no HR.out FB.out
    · skip
      rcases o1 with _ | _
      · simp [-Option.ite_none_right_eq_some] at HL
        have C0 := Lib.hid C0
        have C1 := Lib.hid C1
        have C2 := Lib.hid C2
        have C3 := Lib.hid C3
        have HR := Lib.hid HL
        clear HL
        go_wp2_with fail
        (go_at_call 47; (with_reducible refine (C0.out _ B0.out).mono ?_); rintro e v0 ⟨rfl, be⟩)
        have B1 : Hid (Below w2.heap.size w2 v0) := Lib.hid (B0.out.trans (be.mono B0.out.size))
        have k1 := (SF.out _ B1.out).2.1
        clear be
        go_wp2_with fail
        (go_at_call 47; (with_reducible refine (C1.out _ B1.out).mono ?_); rintro e v1 ⟨rfl, be⟩)
        have B2 : Hid (Below w2.heap.size w2 v1) := Lib.hid (B1.out.trans (be.mono B1.out.size))
        have k2 := (SF.out _ B2.out).2.2.1
        clear be
        go_wp2_with fail
        (go_at_call 47; (with_reducible refine (C2.out _ B2.out).mono ?_); rintro e v2 ⟨rfl, be⟩)
        have B3 : Hid (Below w2.heap.size w2 v2) := Lib.hid (B2.out.trans (be.mono B2.out.size))
        have k3 := (SF.out _ B3.out).2.2.2
        clear be
        go_wp2_with fail
        (go_at_call 48; (with_reducible refine (C3.out _ B3.out).mono ?_); rintro e v3 ⟨A, c, rfl, ow, be⟩)
        have B4 : Hid (Below w2.heap.size w2 v3) := Lib.hid (B3.out.trans (be.mono B3.out.size))
        have BL2 : Hid (Below w.heap.size w v3) := Lib.hid (BL.out.trans (B4.out.mono BL.out.size))
        have D2 : Hid (Blk v3 w.heap.size #[.int .i64 0, .int .i64 0, .int .i64 0, .slice none 0 0] 28) := Lib.hid (DD.out.below B4.out DL.out)
        have OV : Hid (Own w.heap.size v3 A n3 c zs) := Lib.hid (Own.lower2 ow (Nat.le_trans (Nat.le_trans BL.out.size B3.out.size) (Nat.le_refl _)))
        have lt3 := D2.out.lt
        have ne3 : w.heap.size ≠ v3.heap.size := by omega
        clear be ow
        have e0 := D2.out.cell 0
        have e1 := D2.out.cell 1
        have e2 := D2.out.cell 2
        have e3 := D2.out.cell 3
        have fe0 := D2.out.frozen 0
        have fe1 := D2.out.frozen 1
        have fe2 := D2.out.frozen 2
        have fe3 := D2.out.frozen 3
        go_wp2_with fail
        have q : Blk ((four v3 w.heap.size (.int .i64 0) (.int .i64 0) (.int .i64 0) (.slice none 0 0)).alloc (.cells #[.int .i64 x0, .int .i64 x1, .int .i64 x2, .slice A n3 c] 28)) w.heap.size #[.int .i64 0, .int .i64 0, .int .i64 0, .slice none 0 0] 28 := (four_blk D2.out _ _ _ _).alloc _
        have FB : Hid (Below w.heap.size w ((four v3 w.heap.size (.int .i64 0) (.int .i64 0) (.int .i64 0) (.slice none 0 0)).alloc (.cells #[.int .i64 x0, .int .i64 x1, .int .i64 x2, .slice A n3 c] 28))) := Lib.hid ((four_below BL2.out (Nat.le_refl _) _ _ _ _).alloc (four_below BL2.out (Nat.le_refl _) _ _ _ _).size _)
        obtain ⟨w9, hw9⟩ : ∃ w9, w9 = (four v3 w.heap.size (.int .i64 0) (.int .i64 0) (.int .i64 0) (.slice none 0 0)).alloc (.cells #[.int .i64 x0, .int .i64 x1, .int .i64 x2, .slice A n3 c] 28) := ⟨_, rfl⟩
        rw [← hw9] at q FB
        unfold four at hw9
        rw [← hw9]
        have q0 := q.cell 0
        have q1 := q.cell 1
        have q2 := q.cell 2
        have q3 := q.cell 3
        refine bodyPost_ret (v := .tuple #[.agg #[.int .i64 0, .int .i64 0, .int .i64 0, .slice none 0 0], .bool false]) (by simp [results, Tryd.results23, go_sem, q0, q1, q2, q3]) rfl ?_
        exact made_no HR.out FB.out
      · skip
        rcases o2 with _ | _
        · simp [-Option.ite_none_right_eq_some] at HL
          have C0 := Lib.hid C0
          have C1 := Lib.hid C1
          have C2 := Lib.hid C2
          have C3 := Lib.hid C3
          have HR := Lib.hid HL
          clear HL
          go_wp2_with fail
          (go_at_call 47; (with_reducible refine (C0.out _ B0.out).mono ?_); rintro e v0 ⟨rfl, be⟩)
          have B1 : Hid (Below w2.heap.size w2 v0) := Lib.hid (B0.out.trans (be.mono B0.out.size))
          have k1 := (SF.out _ B1.out).2.1
          clear be
          go_wp2_with fail
          (go_at_call 47; (with_reducible refine (C1.out _ B1.out).mono ?_); rintro e v1 ⟨rfl, be⟩)
          have B2 : Hid (Below w2.heap.size w2 v1) := Lib.hid (B1.out.trans (be.mono B1.out.size))
          have k2 := (SF.out _ B2.out).2.2.1
          clear be
          go_wp2_with fail
          (go_at_call 47; (with_reducible refine (C2.out _ B2.out).mono ?_); rintro e v2 ⟨rfl, be⟩)
          have B3 : Hid (Below w2.heap.size w2 v2) := Lib.hid (B2.out.trans (be.mono B2.out.size))
          have k3 := (SF.out _ B3.out).2.2.2
          clear be
          go_wp2_with fail
          (go_at_call 48; (with_reducible refine (C3.out _ B3.out).mono ?_); rintro e v3 ⟨A, c, rfl, ow, be⟩)
          have B4 : Hid (Below w2.heap.size w2 v3) := Lib.hid (B3.out.trans (be.mono B3.out.size))
          have BL2 : Hid (Below w.heap.size w v3) := Lib.hid (BL.out.trans (B4.out.mono BL.out.size))
          have D2 : Hid (Blk v3 w.heap.size #[.int .i64 0, .int .i64 0, .int .i64 0, .slice none 0 0] 28) := Lib.hid (DD.out.below B4.out DL.out)
          have OV : Hid (Own w.heap.size v3 A n3 c zs) := Lib.hid (Own.lower2 ow (Nat.le_trans (Nat.le_trans BL.out.size B3.out.size) (Nat.le_refl _)))
          have lt3 := D2.out.lt
          have ne3 : w.heap.size ≠ v3.heap.size := by omega
          clear be ow
          have e0 := D2.out.cell 0
          have e1 := D2.out.cell 1
          have e2 := D2.out.cell 2
          have e3 := D2.out.cell 3
          have fe0 := D2.out.frozen 0
          have fe1 := D2.out.frozen 1
          have fe2 := D2.out.frozen 2
          have fe3 := D2.out.frozen 3
          go_wp2_with fail
          have q : Blk ((four v3 w.heap.size (.int .i64 0) (.int .i64 0) (.int .i64 0) (.slice none 0 0)).alloc (.cells #[.int .i64 x0, .int .i64 x1, .int .i64 x2, .slice A n3 c] 28)) w.heap.size #[.int .i64 0, .int .i64 0, .int .i64 0, .slice none 0 0] 28 := (four_blk D2.out _ _ _ _).alloc _
          have FB : Hid (Below w.heap.size w ((four v3 w.heap.size (.int .i64 0) (.int .i64 0) (.int .i64 0) (.slice none 0 0)).alloc (.cells #[.int .i64 x0, .int .i64 x1, .int .i64 x2, .slice A n3 c] 28))) := Lib.hid ((four_below BL2.out (Nat.le_refl _) _ _ _ _).alloc (four_below BL2.out (Nat.le_refl _) _ _ _ _).size _)
          obtain ⟨w9, hw9⟩ : ∃ w9, w9 = (four v3 w.heap.size (.int .i64 0) (.int .i64 0) (.int .i64 0) (.slice none 0 0)).alloc (.cells #[.int .i64 x0, .int .i64 x1, .int .i64 x2, .slice A n3 c] 28) := ⟨_, rfl⟩
          rw [← hw9] at q FB
          unfold four at hw9
          rw [← hw9]
          have q0 := q.cell 0
          have q1 := q.cell 1
          have q2 := q.cell 2
          have q3 := q.cell 3
          refine bodyPost_ret (v := .tuple #[.agg #[.int .i64 0, .int .i64 0, .int .i64 0, .slice none 0 0], .bool false]) (by simp [results, Tryd.results23, go_sem, q0, q1, q2, q3]) rfl ?_
          exact made_no HR.out FB.out
        · skip
          rcases o3 with _ | _
          · simp [-Option.ite_none_right_eq_some] at HL
            have C0 := Lib.hid C0
            have C1 := Lib.hid C1
            have C2 := Lib.hid C2
            have C3 := Lib.hid C3
            have HR := Lib.hid HL
            clear HL
            go_wp2_with fail
            (go_at_call 47; (with_reducible refine (C0.out _ B0.out).mono ?_); rintro e v0 ⟨rfl, be⟩)
            have B1 : Hid (Below w2.heap.size w2 v0) := Lib.hid (B0.out.trans (be.mono B0.out.size))
            have k1 := (SF.out _ B1.out).2.1
            clear be
            go_wp2_with fail
            (go_at_call 47; (with_reducible refine (C1.out _ B1.out).mono ?_); rintro e v1 ⟨rfl, be⟩)
            have B2 : Hid (Below w2.heap.size w2 v1) := Lib.hid (B1.out.trans (be.mono B1.out.size))
            have k2 := (SF.out _ B2.out).2.2.1
            clear be
            go_wp2_with fail
            (go_at_call 47; (with_reducible refine (C2.out _ B2.out).mono ?_); rintro e v2 ⟨rfl, be⟩)
            have B3 : Hid (Below w2.heap.size w2 v2) := Lib.hid (B2.out.trans (be.mono B2.out.size))
            have k3 := (SF.out _ B3.out).2.2.2
            clear be
            go_wp2_with fail
            (go_at_call 48; (with_reducible refine (C3.out _ B3.out).mono ?_); rintro e v3 ⟨A, c, rfl, ow, be⟩)
            have B4 : Hid (Below w2.heap.size w2 v3) := Lib.hid (B3.out.trans (be.mono B3.out.size))
            have BL2 : Hid (Below w.heap.size w v3) := Lib.hid (BL.out.trans (B4.out.mono BL.out.size))
            have D2 : Hid (Blk v3 w.heap.size #[.int .i64 0, .int .i64 0, .int .i64 0, .slice none 0 0] 28) := Lib.hid (DD.out.below B4.out DL.out)
            have OV : Hid (Own w.heap.size v3 A n3 c zs) := Lib.hid (Own.lower2 ow (Nat.le_trans (Nat.le_trans BL.out.size B3.out.size) (Nat.le_refl _)))
            have lt3 := D2.out.lt
            have ne3 : w.heap.size ≠ v3.heap.size := by omega
            clear be ow
            have e0 := D2.out.cell 0
            have e1 := D2.out.cell 1
            have e2 := D2.out.cell 2
            have e3 := D2.out.cell 3
            have fe0 := D2.out.frozen 0
            have fe1 := D2.out.frozen 1
            have fe2 := D2.out.frozen 2
            have fe3 := D2.out.frozen 3
            go_wp2_with fail
            have q : Blk ((four v3 w.heap.size (.int .i64 0) (.int .i64 0) (.int .i64 0) (.slice none 0 0)).alloc (.cells #[.int .i64 x0, .int .i64 x1, .int .i64 x2, .slice A n3 c] 28)) w.heap.size #[.int .i64 0, .int .i64 0, .int .i64 0, .slice none 0 0] 28 := (four_blk D2.out _ _ _ _).alloc _
            have FB : Hid (Below w.heap.size w ((four v3 w.heap.size (.int .i64 0) (.int .i64 0) (.int .i64 0) (.slice none 0 0)).alloc (.cells #[.int .i64 x0, .int .i64 x1, .int .i64 x2, .slice A n3 c] 28))) := Lib.hid ((four_below BL2.out (Nat.le_refl _) _ _ _ _).alloc (four_below BL2.out (Nat.le_refl _) _ _ _ _).size _)
            obtain ⟨w9, hw9⟩ : ∃ w9, w9 = (four v3 w.heap.size (.int .i64 0) (.int .i64 0) (.int .i64 0) (.slice none 0 0)).alloc (.cells #[.int .i64 x0, .int .i64 x1, .int .i64 x2, .slice A n3 c] 28) := ⟨_, rfl⟩
            rw [← hw9] at q FB
            unfold four at hw9
            rw [← hw9]
            have q0 := q.cell 0
            have q1 := q.cell 1
            have q2 := q.cell 2
            have q3 := q.cell 3
            refine bodyPost_ret (v := .tuple #[.agg #[.int .i64 0, .int .i64 0, .int .i64 0, .slice none 0 0], .bool false]) (by simp [results, Tryd.results23, go_sem, q0, q1, q2, q3]) rfl ?_
            exact made_no HR.out FB.out
          · skip
            simp only [Bool.true_and, Bool.and_true] at HL
            rcases hk : wOk ⟨x0, x1, x2, zs⟩ with _ | _
            · simp [hk] at HL
              have HK := Lib.hid hk
              clear hk
              have C0 := Lib.hid C0
              have C1 := Lib.hid C1
              have C2 := Lib.hid C2
              have C3 := Lib.hid C3
              have HR := Lib.hid HL
              clear HL
              go_wp2_with fail
              (go_at_call 47; (with_reducible refine (C0.out _ B0.out).mono ?_); rintro e v0 ⟨rfl, be⟩)
              have B1 : Hid (Below w2.heap.size w2 v0) := Lib.hid (B0.out.trans (be.mono B0.out.size))
              have k1 := (SF.out _ B1.out).2.1
              clear be
              go_wp2_with fail
              (go_at_call 47; (with_reducible refine (C1.out _ B1.out).mono ?_); rintro e v1 ⟨rfl, be⟩)
              have B2 : Hid (Below w2.heap.size w2 v1) := Lib.hid (B1.out.trans (be.mono B1.out.size))
              have k2 := (SF.out _ B2.out).2.2.1
              clear be
              go_wp2_with fail
              (go_at_call 47; (with_reducible refine (C2.out _ B2.out).mono ?_); rintro e v2 ⟨rfl, be⟩)
              have B3 : Hid (Below w2.heap.size w2 v2) := Lib.hid (B2.out.trans (be.mono B2.out.size))
              have k3 := (SF.out _ B3.out).2.2.2
              clear be
              go_wp2_with fail
              (go_at_call 48; (with_reducible refine (C3.out _ B3.out).mono ?_); rintro e v3 ⟨A, c, rfl, ow, be⟩)
              have B4 : Hid (Below w2.heap.size w2 v3) := Lib.hid (B3.out.trans (be.mono B3.out.size))
              have BL2 : Hid (Below w.heap.size w v3) := Lib.hid (BL.out.trans (B4.out.mono BL.out.size))
              have D2 : Hid (Blk v3 w.heap.size #[.int .i64 0, .int .i64 0, .int .i64 0, .slice none 0 0] 28) := Lib.hid (DD.out.below B4.out DL.out)
              have OV : Hid (Own w.heap.size v3 A n3 c zs) := Lib.hid (Own.lower2 ow (Nat.le_trans (Nat.le_trans BL.out.size B3.out.size) (Nat.le_refl _)))
              have lt3 := D2.out.lt
              have ne3 : w.heap.size ≠ v3.heap.size := by omega
              clear be ow
              go_wp2_with fail
              obtain ⟨v4, hv4⟩ : ∃ v4, v4 = v3.alloc (.cells #[.int .i64 x0, .int .i64 x1, .int .i64 x2, .slice A n3 c] 28) := ⟨_, rfl⟩
              rw [← hv4]
              have bl4 : Below w.heap.size w v4 := by rw [hv4]; exact BL2.out.alloc BL2.out.size _
              have d4 : Blk v4 w.heap.size #[.int .i64 0, .int .i64 0, .int .i64 0, .slice none 0 0] 28 := by rw [hv4]; exact D2.out.alloc _
              have e4 : Blk v4 v3.heap.size #[.int .i64 x0, .int .i64 x1, .int .i64 x2, .slice A n3 c] 28 := by rw [hv4]; exact Blk.new _ _ _
              have o4 : Own w.heap.size v4 A n3 c zs := OV.out.below (by rw [hv4]; exact (Below.refl _ v3).alloc (Nat.le_refl _) _)
              have CI := l03Is_any ⟨x0, x1, x2, zs⟩ A n3 c v4 e4 (Own.row o4)
              rw [HK.out] at CI
              have X := Lib.hid (And.intro bl4 (And.intro d4 (And.intro e4 o4)))
              clear hv4 bl4 d4 e4 o4
              (go_at_call 15; (with_reducible refine (CI).mono ?_); rintro e v5 ⟨rfl, m, hv5⟩)
              have BL2 : Hid (Below w.heap.size w v5) := Lib.hid (by rw [hv5]; exact below_drewN X.out.1 m)
              have D2 : Hid (Blk v5 w.heap.size #[.int .i64 0, .int .i64 0, .int .i64 0, .slice none 0 0] 28) := Lib.hid (by rw [hv5]; exact X.out.2.1)
              have E2 : Hid (Blk v5 v3.heap.size #[.int .i64 x0, .int .i64 x1, .int .i64 x2, .slice A n3 c] 28) := Lib.hid (by rw [hv5]; exact X.out.2.2.1)
              have OO : Hid (Own w.heap.size v5 A n3 c zs) := Lib.hid (by rw [hv5]; exact Own.drewN X.out.2.2.2 m)
              clear CI hv5
              have lt5 := D2.out.lt
              have lt6 := E2.out.lt
              have h0 := E2.out.cell 0
              have h1 := E2.out.cell 1
              have h2 := E2.out.cell 2
              have h3 := E2.out.cell 3
              have e0 := D2.out.cell 0
              have e1 := D2.out.cell 1
              have e2 := D2.out.cell 2
              have e3 := D2.out.cell 3
              have fe0 := D2.out.frozen 0
              have fe1 := D2.out.frozen 1
              have fe2 := D2.out.frozen 2
              have fe3 := D2.out.frozen 3
              go_wp2_with fail
              have q : Blk (four v5 w.heap.size (.int .i64 0) (.int .i64 0) (.int .i64 0) (.slice none 0 0)) w.heap.size #[.int .i64 0, .int .i64 0, .int .i64 0, .slice none 0 0] 28 := four_blk D2.out _ _ _ _
              have FB : Hid (Below w.heap.size w (four v5 w.heap.size (.int .i64 0) (.int .i64 0) (.int .i64 0) (.slice none 0 0))) := Lib.hid (four_below BL2.out (Nat.le_refl _) _ _ _ _)
              obtain ⟨w9, hw9⟩ : ∃ w9, w9 = four v5 w.heap.size (.int .i64 0) (.int .i64 0) (.int .i64 0) (.slice none 0 0) := ⟨_, rfl⟩
              rw [← hw9] at q FB
              unfold four at hw9
              rw [← hw9]
              have q0 := q.cell 0
              have q1 := q.cell 1
              have q2 := q.cell 2
              have q3 := q.cell 3
              refine bodyPost_ret (v := .tuple #[.agg #[.int .i64 0, .int .i64 0, .int .i64 0, .slice none 0 0], .bool false]) (by simp [results, Tryd.results23, go_sem, q0, q1, q2, q3]) rfl ?_
              exact made_no HR.out FB.out
            · simp [hk] at HL
              have HK := Lib.hid hk
              clear hk
              have C0 := Lib.hid C0
              have C1 := Lib.hid C1
              have C2 := Lib.hid C2
              have C3 := Lib.hid C3
              have HR := Lib.hid HL
              clear HL
              go_wp2_with fail
              (go_at_call 47; (with_reducible refine (C0.out _ B0.out).mono ?_); rintro e v0 ⟨rfl, be⟩)
              have B1 : Hid (Below w2.heap.size w2 v0) := Lib.hid (B0.out.trans (be.mono B0.out.size))
              have k1 := (SF.out _ B1.out).2.1
              clear be
              go_wp2_with fail
              (go_at_call 47; (with_reducible refine (C1.out _ B1.out).mono ?_); rintro e v1 ⟨rfl, be⟩)
              have B2 : Hid (Below w2.heap.size w2 v1) := Lib.hid (B1.out.trans (be.mono B1.out.size))
              have k2 := (SF.out _ B2.out).2.2.1
              clear be
              go_wp2_with fail
              (go_at_call 47; (with_reducible refine (C2.out _ B2.out).mono ?_); rintro e v2 ⟨rfl, be⟩)
              have B3 : Hid (Below w2.heap.size w2 v2) := Lib.hid (B2.out.trans (be.mono B2.out.size))
              have k3 := (SF.out _ B3.out).2.2.2
              clear be
              go_wp2_with fail
              (go_at_call 48; (with_reducible refine (C3.out _ B3.out).mono ?_); rintro e v3 ⟨A, c, rfl, ow, be⟩)
              have B4 : Hid (Below w2.heap.size w2 v3) := Lib.hid (B3.out.trans (be.mono B3.out.size))
              have BL2 : Hid (Below w.heap.size w v3) := Lib.hid (BL.out.trans (B4.out.mono BL.out.size))
              have D2 : Hid (Blk v3 w.heap.size #[.int .i64 0, .int .i64 0, .int .i64 0, .slice none 0 0] 28) := Lib.hid (DD.out.below B4.out DL.out)
              have OV : Hid (Own w.heap.size v3 A n3 c zs) := Lib.hid (Own.lower2 ow (Nat.le_trans (Nat.le_trans BL.out.size B3.out.size) (Nat.le_refl _)))
              have lt3 := D2.out.lt
              have ne3 : w.heap.size ≠ v3.heap.size := by omega
              clear be ow
              go_wp2_with fail
              obtain ⟨v4, hv4⟩ : ∃ v4, v4 = v3.alloc (.cells #[.int .i64 x0, .int .i64 x1, .int .i64 x2, .slice A n3 c] 28) := ⟨_, rfl⟩
              rw [← hv4]
              have bl4 : Below w.heap.size w v4 := by rw [hv4]; exact BL2.out.alloc BL2.out.size _
              have d4 : Blk v4 w.heap.size #[.int .i64 0, .int .i64 0, .int .i64 0, .slice none 0 0] 28 := by rw [hv4]; exact D2.out.alloc _
              have e4 : Blk v4 v3.heap.size #[.int .i64 x0, .int .i64 x1, .int .i64 x2, .slice A n3 c] 28 := by rw [hv4]; exact Blk.new _ _ _
              have o4 : Own w.heap.size v4 A n3 c zs := OV.out.below (by rw [hv4]; exact (Below.refl _ v3).alloc (Nat.le_refl _) _)
              have CI := l03Is_any ⟨x0, x1, x2, zs⟩ A n3 c v4 e4 (Own.row o4)
              rw [HK.out] at CI
              have X := Lib.hid (And.intro bl4 (And.intro d4 (And.intro e4 o4)))
              clear hv4 bl4 d4 e4 o4
              (go_at_call 15; (with_reducible refine (CI).mono ?_); rintro e v5 ⟨rfl, m, hv5⟩)
              have BL2 : Hid (Below w.heap.size w v5) := Lib.hid (by rw [hv5]; exact below_drewN X.out.1 m)
              have D2 : Hid (Blk v5 w.heap.size #[.int .i64 0, .int .i64 0, .int .i64 0, .slice none 0 0] 28) := Lib.hid (by rw [hv5]; exact X.out.2.1)
              have E2 : Hid (Blk v5 v3.heap.size #[.int .i64 x0, .int .i64 x1, .int .i64 x2, .slice A n3 c] 28) := Lib.hid (by rw [hv5]; exact X.out.2.2.1)
              have OO : Hid (Own w.heap.size v5 A n3 c zs) := Lib.hid (by rw [hv5]; exact Own.drewN X.out.2.2.2 m)
              clear CI hv5
              have lt5 := D2.out.lt
              have lt6 := E2.out.lt
              have h0 := E2.out.cell 0
              have h1 := E2.out.cell 1
              have h2 := E2.out.cell 2
              have h3 := E2.out.cell 3
              have e0 := D2.out.cell 0
              have e1 := D2.out.cell 1
              have e2 := D2.out.cell 2
              have e3 := D2.out.cell 3
              have fe0 := D2.out.frozen 0
              have fe1 := D2.out.frozen 1
              have fe2 := D2.out.frozen 2
              have fe3 := D2.out.frozen 3
              go_wp2_with fail
              have q : Blk (four v5 w.heap.size (.int .i64 x0) (.int .i64 x1) (.int .i64 x2) (.slice A n3 c)) w.heap.size #[.int .i64 x0, .int .i64 x1, .int .i64 x2, .slice A n3 c] 28 := four_blk D2.out _ _ _ _
              have FB : Hid (Below w.heap.size w (four v5 w.heap.size (.int .i64 x0) (.int .i64 x1) (.int .i64 x2) (.slice A n3 c))) := Lib.hid (four_below BL2.out (Nat.le_refl _) _ _ _ _)
              have OW : Hid (Own w.heap.size (four v5 w.heap.size (.int .i64 x0) (.int .i64 x1) (.int .i64 x2) (.slice A n3 c)) A n3 c zs) := Lib.hid (OO.out.keep fun g hg => four_heap _ _ _ _ _ _ (fun e => blk_neW D2.out OO.out.1 (by decide) (by rw [hg, e])))
              obtain ⟨w9, hw9⟩ : ∃ w9, w9 = four v5 w.heap.size (.int .i64 x0) (.int .i64 x1) (.int .i64 x2) (.slice A n3 c) := ⟨_, rfl⟩
              rw [← hw9] at q FB OW
              unfold four at hw9
              rw [← hw9]
              have q0 := q.cell 0
              have q1 := q.cell 1
              have q2 := q.cell 2
              have q3 := q.cell 3
              refine bodyPost_ret (v := .tuple #[.agg #[.int .i64 x0, .int .i64 x1, .int .i64 x2, .slice A n3 c], .bool true]) (by simp [results, Tryd.results23, go_sem, q0, q1, q2, q3]) rfl ?_
              exact made_yes HR.out HZ.out OW.out FB.out
set_option maxRecDepth 100000 in
set_option maxHeartbeats 2000000 in
theorem specRW_any (s : ByteArray) (w : World) (hs : s.size ≤ 1048576) :
    Calls Tryd.prog 10 #[.string s] w (MadeWB w.heap.size ((rwO s.data.toList).getD zeroW) (rwO s.data.toList).isSome w) := by
  obtain ⟨w1, hw1⟩ : ∃ w1, w1 = w.alloc (.cells #[.int .i64 0, .int .i64 0, .int .i64 0, .slice none 0 0] 28) := ⟨_, rfl⟩
  have bel : Below w.heap.size w w1 := by rw [hw1]; exact (Below.refl _ w).alloc (Nat.le_refl _) _
  have b1 : Blk w1 w.heap.size #[.int .i64 0, .int .i64 0, .int .i64 0, .slice none 0 0] 28 := by rw [hw1]; exact Blk.new _ _ _
  have CC := l03Read_any s w1 hs
  generalize (rwO s.data.toList).getD zeroW = r at CC ⊢
  generalize (rwO s.data.toList).isSome = k at CC ⊢
  obtain ⟨x0, x1, x2, zs⟩ := r
  obtain ⟨n3, hn⟩ : ∃ n3, n3 = zs.length := ⟨_, rfl⟩
  have CD : Calls Tryd.prog 23 #[.string s] w1 (fun e w' => ∃ A c, e = .returned (.tuple #[.agg #[.int .i64 x0, .int .i64 x1, .int .i64 x2, .slice A n3 c], .bool k]) ∧ Own w1.heap.size w' A n3 c zs ∧ Below w1.heap.size w1 w') := by rw [hn]; exact CC
  have HZ := Lib.hid hn
  have BEL := Lib.hid bel
  have B1 := Lib.hid b1
  have LT1 := Lib.hid b1.lt
  clear bel b1 CC hn
  go_enter Tryd.func10, Tryd.ntmps10
  go_wp2_with fail
  rw [← hw1]
  have HW1 := Lib.hid hw1
  clear hw1
  (go_at_call 23; (with_reducible refine (CD).mono ?_); rintro e w2 ⟨A, c, rfl, ow, be⟩)
  have BL2 : Hid (Below w.heap.size w w2) := Lib.hid (BEL.out.trans (be.mono BEL.out.size))
  have D2 : Hid (Blk w2 w.heap.size #[.int .i64 0, .int .i64 0, .int .i64 0, .slice none 0 0] 28) := Lib.hid (B1.out.below be LT1.out)
  have OO : Hid (Own w.heap.size w2 A n3 c zs) := Lib.hid (Own.lower2 ow BEL.out.size)
  clear be ow CD
  have e0 := D2.out.cell 0
  have e1 := D2.out.cell 1
  have e2 := D2.out.cell 2
  have e3 := D2.out.cell 3
  have fe0 := D2.out.frozen 0
  have fe1 := D2.out.frozen 1
  have fe2 := D2.out.frozen 2
  have fe3 := D2.out.frozen 3
  go_wp2_with fail
  have q : Blk (four w2 w.heap.size (.int .i64 x0) (.int .i64 x1) (.int .i64 x2) (.slice A n3 c)) w.heap.size #[.int .i64 x0, .int .i64 x1, .int .i64 x2, .slice A n3 c] 28 := four_blk D2.out _ _ _ _
  have FB : Hid (Below w.heap.size w (four w2 w.heap.size (.int .i64 x0) (.int .i64 x1) (.int .i64 x2) (.slice A n3 c))) := Lib.hid (four_below BL2.out (Nat.le_refl _) _ _ _ _)
  have OW : Hid (Own w.heap.size (four w2 w.heap.size (.int .i64 x0) (.int .i64 x1) (.int .i64 x2) (.slice A n3 c)) A n3 c zs) := Lib.hid (OO.out.keep fun g hg => four_heap _ _ _ _ _ _ (fun e => blk_neW D2.out OO.out.1 (by decide) (by rw [hg, e])))
  obtain ⟨w9, hw9⟩ : ∃ w9, w9 = four w2 w.heap.size (.int .i64 x0) (.int .i64 x1) (.int .i64 x2) (.slice A n3 c) := ⟨_, rfl⟩
  rw [← hw9] at q FB OW
  unfold four at hw9
  rw [← hw9]
  have q0 := q.cell 0
  have q1 := q.cell 1
  have q2 := q.cell 2
  have q3 := q.cell 3
  refine bodyPost_ret (v := .tuple #[.agg #[.int .i64 x0, .int .i64 x1, .int .i64 x2, .slice A n3 c], .bool k]) (by simp [results, Tryd.results10, go_sem, q0, q1, q2, q3]) rfl ?_
  exact made_any HZ.out OW.out FB.out
set_option maxRecDepth 100000 in
set_option maxHeartbeats 4000000 in
theorem implRW_any (s : ByteArray) (w : World) (hs : s.size ≤ 1048576) (hH : HeldS w) :
    Calls Tryd.prog 11 #[.string s] w (MadeWB w.heap.size ((rwO s.data.toList).getD zeroW) (rwO s.data.toList).isSome w) := by
  obtain ⟨w1, hw1⟩ : ∃ w1, w1 = w.alloc (.cells #[.int .i64 0, .int .i64 0, .int .i64 0, .slice none 0 0] 28) := ⟨_, rfl⟩
  have bel : Below w.heap.size w w1 := by rw [hw1]; exact (Below.refl _ w).alloc (Nat.le_refl _) _
  have b1 : Blk w1 w.heap.size #[.int .i64 0, .int .i64 0, .int .i64 0, .slice none 0 0] 28 := by rw [hw1]; exact Blk.new _ _ _
  have CC := splitN_parts s w1 hs (heldS_below hH bel)
  have HH := Lib.hid hH
  clear hH
  have BEL := Lib.hid bel
  have B1 := Lib.hid b1
  have LT1 := Lib.hid b1.lt
  clear bel b1
  go_enter Tryd.func11, Tryd.ntmps11
  go_wp2_with fail
  rw [← hw1]
  have HW1 := Lib.hid hw1
  clear hw1
  (go_at_call 24; (with_reducible refine (CC).mono ?_); rintro e w2 ⟨g, N, cc, rfl, hg, hN, be, h4⟩)
  have BL : Hid (Below w.heap.size w w2) := Lib.hid (BEL.out.trans (be.mono BEL.out.size))
  have DD : Hid (Blk w2 w.heap.size #[.int .i64 0, .int .i64 0, .int .i64 0, .slice none 0 0] 28) := Lib.hid (B1.out.below be LT1.out)
  have DL := Lib.hid DD.out.lt
  clear be CC
  rcases h4 with ⟨hn4, hO⟩ | ⟨rfl, p0, p1, p2, p3, ⟨k0, k1, k2, k3⟩, ⟨z0, z1, z2, z3⟩, hO⟩
  · have HR := Lib.hid hO
    have D2 := DD
    have BL2 := BL
    clear hO
    have hni : ¬ ((N : Int) = 4) := by omega
    have e0 := D2.out.cell 0
    have e1 := D2.out.cell 1
    have e2 := D2.out.cell 2
    have e3 := D2.out.cell 3
    have fe0 := D2.out.frozen 0
    have fe1 := D2.out.frozen 1
    have fe2 := D2.out.frozen 2
    have fe3 := D2.out.frozen 3
    go_wp2_with fail
    have q : Blk (four w2 w.heap.size (.int .i64 0) (.int .i64 0) (.int .i64 0) (.slice none 0 0)) w.heap.size #[.int .i64 0, .int .i64 0, .int .i64 0, .slice none 0 0] 28 := four_blk D2.out _ _ _ _
    have FB : Hid (Below w.heap.size w (four w2 w.heap.size (.int .i64 0) (.int .i64 0) (.int .i64 0) (.slice none 0 0))) := Lib.hid (four_below BL2.out (Nat.le_refl _) _ _ _ _)
    obtain ⟨w9, hw9⟩ : ∃ w9, w9 = four w2 w.heap.size (.int .i64 0) (.int .i64 0) (.int .i64 0) (.slice none 0 0) := ⟨_, rfl⟩
    rw [← hw9] at q FB
    unfold four at hw9
    rw [← hw9]
    have q0 := q.cell 0
    have q1 := q.cell 1
    have q2 := q.cell 2
    have q3 := q.cell 3
    refine bodyPost_ret (v := .tuple #[.agg #[.int .i64 0, .int .i64 0, .int .i64 0, .slice none 0 0], .bool false]) (by simp [results, Tryd.results11, go_sem, q0, q1, q2, q3]) rfl ?_
    exact made_no HR.out FB.out
  · have HL := rw4_eq p0.data.toList p1.data.toList p2.data.toList p3.data.toList
    rw [← hO] at HL
    have SF : ∀ X : World, Below w2.heap.size w2 X → X.cell? ⟨g, 0, none⟩ = some (.string p0) ∧ X.cell? ⟨g, 1, none⟩ = some (.string p1) ∧ X.cell? ⟨g, 2, none⟩ = some (.string p2) ∧ X.cell? ⟨g, 3, none⟩ = some (.string p3) := fun X hX => ⟨(hX.cell (p := ⟨g, 0, none⟩) hg).trans k0, (hX.cell (p := ⟨g, 1, none⟩) hg).trans k1, (hX.cell (p := ⟨g, 2, none⟩) hg).trans k2, (hX.cell (p := ⟨g, 3, none⟩) hg).trans k3⟩
    have SF := Lib.hid SF
    have C0 : ∀ Y, Below w2.heap.size w2 Y → Calls Tryd.prog 25 #[.string p0] Y fun e w' => e = .returned (.tuple #[.int .i64 ((specP p0.data.toList).getD 0), .bool (specP p0.data.toList).isSome]) ∧ Below Y.heap.size Y w' := fun Y hY => by have q := implRead_any p0 Y z0 (heldS_below HH.out (BL.out.trans (hY.mono BL.out.size))).held; rw [implP_eq] at q; exact q
    have C1 : ∀ Y, Below w2.heap.size w2 Y → Calls Tryd.prog 25 #[.string p1] Y fun e w' => e = .returned (.tuple #[.int .i64 ((specP p1.data.toList).getD 0), .bool (specP p1.data.toList).isSome]) ∧ Below Y.heap.size Y w' := fun Y hY => by have q := implRead_any p1 Y z1 (heldS_below HH.out (BL.out.trans (hY.mono BL.out.size))).held; rw [implP_eq] at q; exact q
    have C2 : ∀ Y, Below w2.heap.size w2 Y → Calls Tryd.prog 25 #[.string p2] Y fun e w' => e = .returned (.tuple #[.int .i64 ((specP p2.data.toList).getD 0), .bool (specP p2.data.toList).isSome]) ∧ Below Y.heap.size Y w' := fun Y hY => by have q := implRead_any p2 Y z2 (heldS_below HH.out (BL.out.trans (hY.mono BL.out.size))).held; rw [implP_eq] at q; exact q
    have C3 : ∀ Y, Below w2.heap.size w2 Y → Calls Tryd.prog 26 #[.string p3] Y (fun e w' => ∃ A c, e = .returned (.tuple #[.slice A ((listR p3.data.toList).getD []).length c, .bool (listR p3.data.toList).isSome]) ∧ Own Y.heap.size w' A ((listR p3.data.toList).getD []).length c ((listR p3.data.toList).getD []) ∧ Below Y.heap.size Y w') := fun Y hY => implReadList_any p3 Y z3 (heldS_below HH.out (BL.out.trans (hY.mono BL.out.size)))
    have hn3 := listR_le p3.data.toList
    generalize (specP p0.data.toList).getD 0 = x0 at C0 HL
    generalize (specP p0.data.toList).isSome = o0 at C0 HL
    generalize (specP p1.data.toList).getD 0 = x1 at C1 HL
    generalize (specP p1.data.toList).isSome = o1 at C1 HL
    generalize (specP p2.data.toList).getD 0 = x2 at C2 HL
    generalize (specP p2.data.toList).isSome = o2 at C2 HL
    generalize (listR p3.data.toList).getD [] = zs at C3 HL hn3
    generalize (listR p3.data.toList).isSome = o3 at C3 HL
    obtain ⟨n3, hn⟩ : ∃ n3, n3 = zs.length := ⟨_, rfl⟩
    rw [← hn] at C3 hn3
    have HZ := Lib.hid hn
    have B0 : Hid (Below w2.heap.size w2 w2) := Lib.hid (Below.refl _ _)
    clear hO z0 z1 z2 z3 k1 k2 k3 hn hs
    rcases o0 with _ | _
    · simp [-Option.ite_none_right_eq_some] at HL
      have C0 := Lib.hid C0
      have C1 := Lib.hid C1
      have C2 := Lib.hid C2
      have C3 := Lib.hid C3
      have HR := Lib.hid HL
      clear HL
      go_wp2_with fail
      (go_at_call 25; (with_reducible refine (C0.out _ B0.out).mono ?_); rintro e v0 ⟨rfl, be⟩)
      have B1 : Hid (Below w2.heap.size w2 v0) := Lib.hid (B0.out.trans (be.mono B0.out.size))
      have k1 := (SF.out _ B1.out).2.1
      clear be
      go_wp2_with fail
      (go_at_call 25; (with_reducible refine (C1.out _ B1.out).mono ?_); rintro e v1 ⟨rfl, be⟩)
      have B2 : Hid (Below w2.heap.size w2 v1) := Lib.hid (B1.out.trans (be.mono B1.out.size))
      have k2 := (SF.out _ B2.out).2.2.1
      clear be
      go_wp2_with fail
      (go_at_call 25; (with_reducible refine (C2.out _ B2.out).mono ?_); rintro e v2 ⟨rfl, be⟩)
      have B3 : Hid (Below w2.heap.size w2 v2) := Lib.hid (B2.out.trans (be.mono B2.out.size))
      have k3 := (SF.out _ B3.out).2.2.2
      clear be
      go_wp2_with fail
      (go_at_call 26; (with_reducible refine (C3.out _ B3.out).mono ?_); rintro e v3 ⟨A, c, rfl, ow, be⟩)
      have B4 : Hid (Below w2.heap.size w2 v3) := Lib.hid (B3.out.trans (be.mono B3.out.size))
      have BL2 : Hid (Below w.heap.size w v3) := Lib.hid (BL.out.trans (B4.out.mono BL.out.size))
      have D2 : Hid (Blk v3 w.heap.size #[.int .i64 0, .int .i64 0, .int .i64 0, .slice none 0 0] 28) := Lib.hid (DD.out.below B4.out DL.out)
      have OV : Hid (Own w.heap.size v3 A n3 c zs) := Lib.hid (Own.lower2 ow (Nat.le_trans (Nat.le_trans BL.out.size B3.out.size) (Nat.le_refl _)))
      have lt3 := D2.out.lt
      have ne3 : w.heap.size ≠ v3.heap.size := by omega
      clear be ow
      have e0 := D2.out.cell 0
      have e1 := D2.out.cell 1
      have e2 := D2.out.cell 2
      have e3 := D2.out.cell 3
      have fe0 := D2.out.frozen 0
      have fe1 := D2.out.frozen 1
      have fe2 := D2.out.frozen 2
      have fe3 := D2.out.frozen 3
      go_wp2_with fail
      have q : Blk ((four v3 w.heap.size (.int .i64 0) (.int .i64 0) (.int .i64 0) (.slice none 0 0)).alloc (.cells #[.int .i64 x0, .int .i64 x1, .int .i64 x2, .slice A n3 c] 28)) w.heap.size #[.int .i64 0, .int .i64 0, .int .i64 0, .slice none 0 0] 28 := (four_blk D2.out _ _ _ _).alloc _
      have FB : Hid (Below w.heap.size w ((four v3 w.heap.size (.int .i64 0) (.int .i64 0) (.int .i64 0) (.slice none 0 0)).alloc (.cells #[.int .i64 x0, .int .i64 x1, .int .i64 x2, .slice A n3 c] 28))) := Lib.hid ((four_below BL2.out (Nat.le_refl _) _ _ _ _).alloc (four_below BL2.out (Nat.le_refl _) _ _ _ _).size _)
      obtain ⟨w9, hw9⟩ : ∃ w9, w9 = (four v3 w.heap.size (.int .i64 0) (.int .i64 0) (.int .i64 0) (.slice none 0 0)).alloc (.cells #[.int .i64 x0, .int .i64 x1, .int .i64 x2, .slice A n3 c] 28) := ⟨_, rfl⟩
      rw [← hw9] at q FB
      unfold four at hw9
      rw [← hw9]
      have q0 := q.cell 0
      have q1 := q.cell 1
      have q2 := q.cell 2
      have q3 := q.cell 3
      refine bodyPost_ret (v := .tuple #[.agg #[.int .i64 0, .int .i64 0, .int .i64 0, .slice none 0 0], .bool false]) (by simp [results, Tryd.results11, go_sem, q0, q1, q2, q3]) rfl ?_
      exact made_no HR.out FB.out
    · skip
      rcases o1 with _ | _
      · simp [-Option.ite_none_right_eq_some] at HL
        have C0 := Lib.hid C0
        have C1 := Lib.hid C1
        have C2 := Lib.hid C2
        have C3 := Lib.hid C3
        have HR := Lib.hid HL
        clear HL
        go_wp2_with fail
        (go_at_call 25; (with_reducible refine (C0.out _ B0.out).mono ?_); rintro e v0 ⟨rfl, be⟩)
        have B1 : Hid (Below w2.heap.size w2 v0) := Lib.hid (B0.out.trans (be.mono B0.out.size))
        have k1 := (SF.out _ B1.out).2.1
        clear be
        go_wp2_with fail
        (go_at_call 25; (with_reducible refine (C1.out _ B1.out).mono ?_); rintro e v1 ⟨rfl, be⟩)
        have B2 : Hid (Below w2.heap.size w2 v1) := Lib.hid (B1.out.trans (be.mono B1.out.size))
        have k2 := (SF.out _ B2.out).2.2.1
        clear be
        go_wp2_with fail
        (go_at_call 25; (with_reducible refine (C2.out _ B2.out).mono ?_); rintro e v2 ⟨rfl, be⟩)
        have B3 : Hid (Below w2.heap.size w2 v2) := Lib.hid (B2.out.trans (be.mono B2.out.size))
        have k3 := (SF.out _ B3.out).2.2.2
        clear be
        go_wp2_with fail
        (go_at_call 26; (with_reducible refine (C3.out _ B3.out).mono ?_); rintro e v3 ⟨A, c, rfl, ow, be⟩)
        have B4 : Hid (Below w2.heap.size w2 v3) := Lib.hid (B3.out.trans (be.mono B3.out.size))
        have BL2 : Hid (Below w.heap.size w v3) := Lib.hid (BL.out.trans (B4.out.mono BL.out.size))
        have D2 : Hid (Blk v3 w.heap.size #[.int .i64 0, .int .i64 0, .int .i64 0, .slice none 0 0] 28) := Lib.hid (DD.out.below B4.out DL.out)
        have OV : Hid (Own w.heap.size v3 A n3 c zs) := Lib.hid (Own.lower2 ow (Nat.le_trans (Nat.le_trans BL.out.size B3.out.size) (Nat.le_refl _)))
        have lt3 := D2.out.lt
        have ne3 : w.heap.size ≠ v3.heap.size := by omega
        clear be ow
        have e0 := D2.out.cell 0
        have e1 := D2.out.cell 1
        have e2 := D2.out.cell 2
        have e3 := D2.out.cell 3
        have fe0 := D2.out.frozen 0
        have fe1 := D2.out.frozen 1
        have fe2 := D2.out.frozen 2
        have fe3 := D2.out.frozen 3
        go_wp2_with fail
        have q : Blk ((four v3 w.heap.size (.int .i64 0) (.int .i64 0) (.int .i64 0) (.slice none 0 0)).alloc (.cells #[.int .i64 x0, .int .i64 x1, .int .i64 x2, .slice A n3 c] 28)) w.heap.size #[.int .i64 0, .int .i64 0, .int .i64 0, .slice none 0 0] 28 := (four_blk D2.out _ _ _ _).alloc _
        have FB : Hid (Below w.heap.size w ((four v3 w.heap.size (.int .i64 0) (.int .i64 0) (.int .i64 0) (.slice none 0 0)).alloc (.cells #[.int .i64 x0, .int .i64 x1, .int .i64 x2, .slice A n3 c] 28))) := Lib.hid ((four_below BL2.out (Nat.le_refl _) _ _ _ _).alloc (four_below BL2.out (Nat.le_refl _) _ _ _ _).size _)
        obtain ⟨w9, hw9⟩ : ∃ w9, w9 = (four v3 w.heap.size (.int .i64 0) (.int .i64 0) (.int .i64 0) (.slice none 0 0)).alloc (.cells #[.int .i64 x0, .int .i64 x1, .int .i64 x2, .slice A n3 c] 28) := ⟨_, rfl⟩
        rw [← hw9] at q FB
        unfold four at hw9
        rw [← hw9]
        have q0 := q.cell 0
        have q1 := q.cell 1
        have q2 := q.cell 2
        have q3 := q.cell 3
        refine bodyPost_ret (v := .tuple #[.agg #[.int .i64 0, .int .i64 0, .int .i64 0, .slice none 0 0], .bool false]) (by simp [results, Tryd.results11, go_sem, q0, q1, q2, q3]) rfl ?_
        exact made_no HR.out FB.out
      · skip
        rcases o2 with _ | _
        · simp [-Option.ite_none_right_eq_some] at HL
          have C0 := Lib.hid C0
          have C1 := Lib.hid C1
          have C2 := Lib.hid C2
          have C3 := Lib.hid C3
          have HR := Lib.hid HL
          clear HL
          go_wp2_with fail
          (go_at_call 25; (with_reducible refine (C0.out _ B0.out).mono ?_); rintro e v0 ⟨rfl, be⟩)
          have B1 : Hid (Below w2.heap.size w2 v0) := Lib.hid (B0.out.trans (be.mono B0.out.size))
          have k1 := (SF.out _ B1.out).2.1
          clear be
          go_wp2_with fail
          (go_at_call 25; (with_reducible refine (C1.out _ B1.out).mono ?_); rintro e v1 ⟨rfl, be⟩)
          have B2 : Hid (Below w2.heap.size w2 v1) := Lib.hid (B1.out.trans (be.mono B1.out.size))
          have k2 := (SF.out _ B2.out).2.2.1
          clear be
          go_wp2_with fail
          (go_at_call 25; (with_reducible refine (C2.out _ B2.out).mono ?_); rintro e v2 ⟨rfl, be⟩)
          have B3 : Hid (Below w2.heap.size w2 v2) := Lib.hid (B2.out.trans (be.mono B2.out.size))
          have k3 := (SF.out _ B3.out).2.2.2
          clear be
          go_wp2_with fail
          (go_at_call 26; (with_reducible refine (C3.out _ B3.out).mono ?_); rintro e v3 ⟨A, c, rfl, ow, be⟩)
          have B4 : Hid (Below w2.heap.size w2 v3) := Lib.hid (B3.out.trans (be.mono B3.out.size))
          have BL2 : Hid (Below w.heap.size w v3) := Lib.hid (BL.out.trans (B4.out.mono BL.out.size))
          have D2 : Hid (Blk v3 w.heap.size #[.int .i64 0, .int .i64 0, .int .i64 0, .slice none 0 0] 28) := Lib.hid (DD.out.below B4.out DL.out)
          have OV : Hid (Own w.heap.size v3 A n3 c zs) := Lib.hid (Own.lower2 ow (Nat.le_trans (Nat.le_trans BL.out.size B3.out.size) (Nat.le_refl _)))
          have lt3 := D2.out.lt
          have ne3 : w.heap.size ≠ v3.heap.size := by omega
          clear be ow
          have e0 := D2.out.cell 0
          have e1 := D2.out.cell 1
          have e2 := D2.out.cell 2
          have e3 := D2.out.cell 3
          have fe0 := D2.out.frozen 0
          have fe1 := D2.out.frozen 1
          have fe2 := D2.out.frozen 2
          have fe3 := D2.out.frozen 3
          go_wp2_with fail
          have q : Blk ((four v3 w.heap.size (.int .i64 0) (.int .i64 0) (.int .i64 0) (.slice none 0 0)).alloc (.cells #[.int .i64 x0, .int .i64 x1, .int .i64 x2, .slice A n3 c] 28)) w.heap.size #[.int .i64 0, .int .i64 0, .int .i64 0, .slice none 0 0] 28 := (four_blk D2.out _ _ _ _).alloc _
          have FB : Hid (Below w.heap.size w ((four v3 w.heap.size (.int .i64 0) (.int .i64 0) (.int .i64 0) (.slice none 0 0)).alloc (.cells #[.int .i64 x0, .int .i64 x1, .int .i64 x2, .slice A n3 c] 28))) := Lib.hid ((four_below BL2.out (Nat.le_refl _) _ _ _ _).alloc (four_below BL2.out (Nat.le_refl _) _ _ _ _).size _)
          obtain ⟨w9, hw9⟩ : ∃ w9, w9 = (four v3 w.heap.size (.int .i64 0) (.int .i64 0) (.int .i64 0) (.slice none 0 0)).alloc (.cells #[.int .i64 x0, .int .i64 x1, .int .i64 x2, .slice A n3 c] 28) := ⟨_, rfl⟩
          rw [← hw9] at q FB
          unfold four at hw9
          rw [← hw9]
          have q0 := q.cell 0
          have q1 := q.cell 1
          have q2 := q.cell 2
          have q3 := q.cell 3
          refine bodyPost_ret (v := .tuple #[.agg #[.int .i64 0, .int .i64 0, .int .i64 0, .slice none 0 0], .bool false]) (by simp [results, Tryd.results11, go_sem, q0, q1, q2, q3]) rfl ?_
          exact made_no HR.out FB.out
        · skip
          rcases o3 with _ | _
          · simp [-Option.ite_none_right_eq_some] at HL
            have C0 := Lib.hid C0
            have C1 := Lib.hid C1
            have C2 := Lib.hid C2
            have C3 := Lib.hid C3
            have HR := Lib.hid HL
            clear HL
            go_wp2_with fail
            (go_at_call 25; (with_reducible refine (C0.out _ B0.out).mono ?_); rintro e v0 ⟨rfl, be⟩)
            have B1 : Hid (Below w2.heap.size w2 v0) := Lib.hid (B0.out.trans (be.mono B0.out.size))
            have k1 := (SF.out _ B1.out).2.1
            clear be
            go_wp2_with fail
            (go_at_call 25; (with_reducible refine (C1.out _ B1.out).mono ?_); rintro e v1 ⟨rfl, be⟩)
            have B2 : Hid (Below w2.heap.size w2 v1) := Lib.hid (B1.out.trans (be.mono B1.out.size))
            have k2 := (SF.out _ B2.out).2.2.1
            clear be
            go_wp2_with fail
            (go_at_call 25; (with_reducible refine (C2.out _ B2.out).mono ?_); rintro e v2 ⟨rfl, be⟩)
            have B3 : Hid (Below w2.heap.size w2 v2) := Lib.hid (B2.out.trans (be.mono B2.out.size))
            have k3 := (SF.out _ B3.out).2.2.2
            clear be
            go_wp2_with fail
            (go_at_call 26; (with_reducible refine (C3.out _ B3.out).mono ?_); rintro e v3 ⟨A, c, rfl, ow, be⟩)
            have B4 : Hid (Below w2.heap.size w2 v3) := Lib.hid (B3.out.trans (be.mono B3.out.size))
            have BL2 : Hid (Below w.heap.size w v3) := Lib.hid (BL.out.trans (B4.out.mono BL.out.size))
            have D2 : Hid (Blk v3 w.heap.size #[.int .i64 0, .int .i64 0, .int .i64 0, .slice none 0 0] 28) := Lib.hid (DD.out.below B4.out DL.out)
            have OV : Hid (Own w.heap.size v3 A n3 c zs) := Lib.hid (Own.lower2 ow (Nat.le_trans (Nat.le_trans BL.out.size B3.out.size) (Nat.le_refl _)))
            have lt3 := D2.out.lt
            have ne3 : w.heap.size ≠ v3.heap.size := by omega
            clear be ow
            have e0 := D2.out.cell 0
            have e1 := D2.out.cell 1
            have e2 := D2.out.cell 2
            have e3 := D2.out.cell 3
            have fe0 := D2.out.frozen 0
            have fe1 := D2.out.frozen 1
            have fe2 := D2.out.frozen 2
            have fe3 := D2.out.frozen 3
            go_wp2_with fail
            have q : Blk ((four v3 w.heap.size (.int .i64 0) (.int .i64 0) (.int .i64 0) (.slice none 0 0)).alloc (.cells #[.int .i64 x0, .int .i64 x1, .int .i64 x2, .slice A n3 c] 28)) w.heap.size #[.int .i64 0, .int .i64 0, .int .i64 0, .slice none 0 0] 28 := (four_blk D2.out _ _ _ _).alloc _
            have FB : Hid (Below w.heap.size w ((four v3 w.heap.size (.int .i64 0) (.int .i64 0) (.int .i64 0) (.slice none 0 0)).alloc (.cells #[.int .i64 x0, .int .i64 x1, .int .i64 x2, .slice A n3 c] 28))) := Lib.hid ((four_below BL2.out (Nat.le_refl _) _ _ _ _).alloc (four_below BL2.out (Nat.le_refl _) _ _ _ _).size _)
            obtain ⟨w9, hw9⟩ : ∃ w9, w9 = (four v3 w.heap.size (.int .i64 0) (.int .i64 0) (.int .i64 0) (.slice none 0 0)).alloc (.cells #[.int .i64 x0, .int .i64 x1, .int .i64 x2, .slice A n3 c] 28) := ⟨_, rfl⟩
            rw [← hw9] at q FB
            unfold four at hw9
            rw [← hw9]
            have q0 := q.cell 0
            have q1 := q.cell 1
            have q2 := q.cell 2
            have q3 := q.cell 3
            refine bodyPost_ret (v := .tuple #[.agg #[.int .i64 0, .int .i64 0, .int .i64 0, .slice none 0 0], .bool false]) (by simp [results, Tryd.results11, go_sem, q0, q1, q2, q3]) rfl ?_
            exact made_no HR.out FB.out
          · skip
            simp only [Bool.true_and, Bool.and_true] at HL
            rcases hk : wOk ⟨x0, x1, x2, zs⟩ with _ | _
            · simp [hk] at HL
              have HK := Lib.hid hk
              clear hk
              have C0 := Lib.hid C0
              have C1 := Lib.hid C1
              have C2 := Lib.hid C2
              have C3 := Lib.hid C3
              have HR := Lib.hid HL
              clear HL
              go_wp2_with fail
              (go_at_call 25; (with_reducible refine (C0.out _ B0.out).mono ?_); rintro e v0 ⟨rfl, be⟩)
              have B1 : Hid (Below w2.heap.size w2 v0) := Lib.hid (B0.out.trans (be.mono B0.out.size))
              have k1 := (SF.out _ B1.out).2.1
              clear be
              go_wp2_with fail
              (go_at_call 25; (with_reducible refine (C1.out _ B1.out).mono ?_); rintro e v1 ⟨rfl, be⟩)
              have B2 : Hid (Below w2.heap.size w2 v1) := Lib.hid (B1.out.trans (be.mono B1.out.size))
              have k2 := (SF.out _ B2.out).2.2.1
              clear be
              go_wp2_with fail
              (go_at_call 25; (with_reducible refine (C2.out _ B2.out).mono ?_); rintro e v2 ⟨rfl, be⟩)
              have B3 : Hid (Below w2.heap.size w2 v2) := Lib.hid (B2.out.trans (be.mono B2.out.size))
              have k3 := (SF.out _ B3.out).2.2.2
              clear be
              go_wp2_with fail
              (go_at_call 26; (with_reducible refine (C3.out _ B3.out).mono ?_); rintro e v3 ⟨A, c, rfl, ow, be⟩)
              have B4 : Hid (Below w2.heap.size w2 v3) := Lib.hid (B3.out.trans (be.mono B3.out.size))
              have BL2 : Hid (Below w.heap.size w v3) := Lib.hid (BL.out.trans (B4.out.mono BL.out.size))
              have D2 : Hid (Blk v3 w.heap.size #[.int .i64 0, .int .i64 0, .int .i64 0, .slice none 0 0] 28) := Lib.hid (DD.out.below B4.out DL.out)
              have OV : Hid (Own w.heap.size v3 A n3 c zs) := Lib.hid (Own.lower2 ow (Nat.le_trans (Nat.le_trans BL.out.size B3.out.size) (Nat.le_refl _)))
              have lt3 := D2.out.lt
              have ne3 : w.heap.size ≠ v3.heap.size := by omega
              clear be ow
              go_wp2_with fail
              obtain ⟨v4, hv4⟩ : ∃ v4, v4 = v3.alloc (.cells #[.int .i64 x0, .int .i64 x1, .int .i64 x2, .slice A n3 c] 28) := ⟨_, rfl⟩
              rw [← hv4]
              have bl4 : Below w.heap.size w v4 := by rw [hv4]; exact BL2.out.alloc BL2.out.size _
              have d4 : Blk v4 w.heap.size #[.int .i64 0, .int .i64 0, .int .i64 0, .slice none 0 0] 28 := by rw [hv4]; exact D2.out.alloc _
              have e4 : Blk v4 v3.heap.size #[.int .i64 x0, .int .i64 x1, .int .i64 x2, .slice A n3 c] 28 := by rw [hv4]; exact Blk.new _ _ _
              have o4 : Own w.heap.size v4 A n3 c zs := OV.out.below (by rw [hv4]; exact (Below.refl _ v3).alloc (Nat.le_refl _) _)
              have CI : Calls Tryd.prog 18 #[.agg #[.int .i64 x0, .int .i64 x1, .int .i64 x2, .slice A n3 c]] v4 fun e w' => e = .returned (.bool (wOk ⟨x0, x1, x2, zs⟩)) ∧ Below v4.heap.size v4 w' := validW_any ⟨x0, x1, x2, zs⟩ A n3 c v4 (Own.row o4) (Nat.le_refl _)
              rw [HK.out] at CI
              have X := Lib.hid (And.intro bl4 (And.intro d4 (And.intro e4 o4)))
              clear hv4 bl4 d4 e4 o4
              (go_at_call 18; (with_reducible refine (CI).mono ?_); rintro e v5 ⟨rfl, be5⟩)
              have BL2 : Hid (Below w.heap.size w v5) := Lib.hid (X.out.1.trans (be5.mono X.out.1.size))
              have D2 : Hid (Blk v5 w.heap.size #[.int .i64 0, .int .i64 0, .int .i64 0, .slice none 0 0] 28) := Lib.hid (X.out.2.1.below be5 X.out.2.1.lt)
              have E2 : Hid (Blk v5 v3.heap.size #[.int .i64 x0, .int .i64 x1, .int .i64 x2, .slice A n3 c] 28) := Lib.hid (X.out.2.2.1.below be5 X.out.2.2.1.lt)
              have OO : Hid (Own w.heap.size v5 A n3 c zs) := Lib.hid (X.out.2.2.2.below be5)
              clear CI be5
              have lt5 := D2.out.lt
              have lt6 := E2.out.lt
              have h0 := E2.out.cell 0
              have h1 := E2.out.cell 1
              have h2 := E2.out.cell 2
              have h3 := E2.out.cell 3
              have e0 := D2.out.cell 0
              have e1 := D2.out.cell 1
              have e2 := D2.out.cell 2
              have e3 := D2.out.cell 3
              have fe0 := D2.out.frozen 0
              have fe1 := D2.out.frozen 1
              have fe2 := D2.out.frozen 2
              have fe3 := D2.out.frozen 3
              go_wp2_with fail
              have q : Blk (four v5 w.heap.size (.int .i64 0) (.int .i64 0) (.int .i64 0) (.slice none 0 0)) w.heap.size #[.int .i64 0, .int .i64 0, .int .i64 0, .slice none 0 0] 28 := four_blk D2.out _ _ _ _
              have FB : Hid (Below w.heap.size w (four v5 w.heap.size (.int .i64 0) (.int .i64 0) (.int .i64 0) (.slice none 0 0))) := Lib.hid (four_below BL2.out (Nat.le_refl _) _ _ _ _)
              obtain ⟨w9, hw9⟩ : ∃ w9, w9 = four v5 w.heap.size (.int .i64 0) (.int .i64 0) (.int .i64 0) (.slice none 0 0) := ⟨_, rfl⟩
              rw [← hw9] at q FB
              unfold four at hw9
              rw [← hw9]
              have q0 := q.cell 0
              have q1 := q.cell 1
              have q2 := q.cell 2
              have q3 := q.cell 3
              refine bodyPost_ret (v := .tuple #[.agg #[.int .i64 0, .int .i64 0, .int .i64 0, .slice none 0 0], .bool false]) (by simp [results, Tryd.results11, go_sem, q0, q1, q2, q3]) rfl ?_
              exact made_no HR.out FB.out
            · simp [hk] at HL
              have HK := Lib.hid hk
              clear hk
              have C0 := Lib.hid C0
              have C1 := Lib.hid C1
              have C2 := Lib.hid C2
              have C3 := Lib.hid C3
              have HR := Lib.hid HL
              clear HL
              go_wp2_with fail
              (go_at_call 25; (with_reducible refine (C0.out _ B0.out).mono ?_); rintro e v0 ⟨rfl, be⟩)
              have B1 : Hid (Below w2.heap.size w2 v0) := Lib.hid (B0.out.trans (be.mono B0.out.size))
              have k1 := (SF.out _ B1.out).2.1
              clear be
              go_wp2_with fail
              (go_at_call 25; (with_reducible refine (C1.out _ B1.out).mono ?_); rintro e v1 ⟨rfl, be⟩)
              have B2 : Hid (Below w2.heap.size w2 v1) := Lib.hid (B1.out.trans (be.mono B1.out.size))
              have k2 := (SF.out _ B2.out).2.2.1
              clear be
              go_wp2_with fail
              (go_at_call 25; (with_reducible refine (C2.out _ B2.out).mono ?_); rintro e v2 ⟨rfl, be⟩)
              have B3 : Hid (Below w2.heap.size w2 v2) := Lib.hid (B2.out.trans (be.mono B2.out.size))
              have k3 := (SF.out _ B3.out).2.2.2
              clear be
              go_wp2_with fail
              (go_at_call 26; (with_reducible refine (C3.out _ B3.out).mono ?_); rintro e v3 ⟨A, c, rfl, ow, be⟩)
              have B4 : Hid (Below w2.heap.size w2 v3) := Lib.hid (B3.out.trans (be.mono B3.out.size))
              have BL2 : Hid (Below w.heap.size w v3) := Lib.hid (BL.out.trans (B4.out.mono BL.out.size))
              have D2 : Hid (Blk v3 w.heap.size #[.int .i64 0, .int .i64 0, .int .i64 0, .slice none 0 0] 28) := Lib.hid (DD.out.below B4.out DL.out)
              have OV : Hid (Own w.heap.size v3 A n3 c zs) := Lib.hid (Own.lower2 ow (Nat.le_trans (Nat.le_trans BL.out.size B3.out.size) (Nat.le_refl _)))
              have lt3 := D2.out.lt
              have ne3 : w.heap.size ≠ v3.heap.size := by omega
              clear be ow
              go_wp2_with fail
              obtain ⟨v4, hv4⟩ : ∃ v4, v4 = v3.alloc (.cells #[.int .i64 x0, .int .i64 x1, .int .i64 x2, .slice A n3 c] 28) := ⟨_, rfl⟩
              rw [← hv4]
              have bl4 : Below w.heap.size w v4 := by rw [hv4]; exact BL2.out.alloc BL2.out.size _
              have d4 : Blk v4 w.heap.size #[.int .i64 0, .int .i64 0, .int .i64 0, .slice none 0 0] 28 := by rw [hv4]; exact D2.out.alloc _
              have e4 : Blk v4 v3.heap.size #[.int .i64 x0, .int .i64 x1, .int .i64 x2, .slice A n3 c] 28 := by rw [hv4]; exact Blk.new _ _ _
              have o4 : Own w.heap.size v4 A n3 c zs := OV.out.below (by rw [hv4]; exact (Below.refl _ v3).alloc (Nat.le_refl _) _)
              have CI : Calls Tryd.prog 18 #[.agg #[.int .i64 x0, .int .i64 x1, .int .i64 x2, .slice A n3 c]] v4 fun e w' => e = .returned (.bool (wOk ⟨x0, x1, x2, zs⟩)) ∧ Below v4.heap.size v4 w' := validW_any ⟨x0, x1, x2, zs⟩ A n3 c v4 (Own.row o4) (Nat.le_refl _)
              rw [HK.out] at CI
              have X := Lib.hid (And.intro bl4 (And.intro d4 (And.intro e4 o4)))
              clear hv4 bl4 d4 e4 o4
              (go_at_call 18; (with_reducible refine (CI).mono ?_); rintro e v5 ⟨rfl, be5⟩)
              have BL2 : Hid (Below w.heap.size w v5) := Lib.hid (X.out.1.trans (be5.mono X.out.1.size))
              have D2 : Hid (Blk v5 w.heap.size #[.int .i64 0, .int .i64 0, .int .i64 0, .slice none 0 0] 28) := Lib.hid (X.out.2.1.below be5 X.out.2.1.lt)
              have E2 : Hid (Blk v5 v3.heap.size #[.int .i64 x0, .int .i64 x1, .int .i64 x2, .slice A n3 c] 28) := Lib.hid (X.out.2.2.1.below be5 X.out.2.2.1.lt)
              have OO : Hid (Own w.heap.size v5 A n3 c zs) := Lib.hid (X.out.2.2.2.below be5)
              clear CI be5
              have lt5 := D2.out.lt
              have lt6 := E2.out.lt
              have h0 := E2.out.cell 0
              have h1 := E2.out.cell 1
              have h2 := E2.out.cell 2
              have h3 := E2.out.cell 3
              have e0 := D2.out.cell 0
              have e1 := D2.out.cell 1
              have e2 := D2.out.cell 2
              have e3 := D2.out.cell 3
              have fe0 := D2.out.frozen 0
              have fe1 := D2.out.frozen 1
              have fe2 := D2.out.frozen 2
              have fe3 := D2.out.frozen 3
              go_wp2_with fail
              have q : Blk (four v5 w.heap.size (.int .i64 x0) (.int .i64 x1) (.int .i64 x2) (.slice A n3 c)) w.heap.size #[.int .i64 x0, .int .i64 x1, .int .i64 x2, .slice A n3 c] 28 := four_blk D2.out _ _ _ _
              have FB : Hid (Below w.heap.size w (four v5 w.heap.size (.int .i64 x0) (.int .i64 x1) (.int .i64 x2) (.slice A n3 c))) := Lib.hid (four_below BL2.out (Nat.le_refl _) _ _ _ _)
              have OW : Hid (Own w.heap.size (four v5 w.heap.size (.int .i64 x0) (.int .i64 x1) (.int .i64 x2) (.slice A n3 c)) A n3 c zs) := Lib.hid (OO.out.keep fun g hg => four_heap _ _ _ _ _ _ (fun e => blk_neW D2.out OO.out.1 (by decide) (by rw [hg, e])))
              obtain ⟨w9, hw9⟩ : ∃ w9, w9 = four v5 w.heap.size (.int .i64 x0) (.int .i64 x1) (.int .i64 x2) (.slice A n3 c) := ⟨_, rfl⟩
              rw [← hw9] at q FB OW
              unfold four at hw9
              rw [← hw9]
              have q0 := q.cell 0
              have q1 := q.cell 1
              have q2 := q.cell 2
              have q3 := q.cell 3
              refine bodyPost_ret (v := .tuple #[.agg #[.int .i64 x0, .int .i64 x1, .int .i64 x2, .slice A n3 c], .bool true]) (by simp [results, Tryd.results11, go_sem, q0, q1, q2, q3]) rfl ?_
              exact made_yes HR.out HZ.out OW.out FB.out
end Go.Proofs.YtakkehjfdeghoacDoor
