/-
  Contracts of ReadDecimal, of the program and of the model: both read just the numerals.
-/
import Derived.Test.YtakkehjfdeghoacDoorParse
import Derived.Test.YtakkehjfdeghoacDoorLDec
import Derived.Lib.AtoiErrMem
namespace Go.Proofs.YtakkehjfdeghoacDoor
open Go.RowKit

/-- What the library's ParseInt asks of memory: its two variables hold errors, and its table holds the powers of ten. -/
structure HeldL (w : World) : Prop where
  tab : Tab w
  bad : ∃ t p, w.cell? ⟨3, 0, none⟩ = some (.iface t p)
  far : ∃ t p, w.cell? ⟨4, 0, none⟩ = some (.iface t p)
  lt1 : 3 < w.heap.size
  lt2 : 4 < w.heap.size
theorem held_below {w w' : World} (h : HeldL w) (hb : Below w.heap.size w w') : HeldL w' := by
  obtain ⟨ht, ⟨t1, p1, h1⟩, ⟨t2, p2, h2⟩, l1, l2⟩ := h
  have hs := hb.size
  exact ⟨Go.Joins.tab_stays (g := 2) (by kernel_rfl) ht hb (Nat.le_refl _), ⟨t1, p1, (hb.cell (p := ⟨3, 0, none⟩) l1).trans h1⟩, ⟨t2, p2, (hb.cell (p := ⟨4, 0, none⟩) l2).trans h2⟩, by omega, by omega⟩

/-- How the library's ParseInt ends: with a number and no error, or with an error. -/
def ParseEnd (l : List UInt8) (w : World) (e : Ending) (w' : World) : Prop :=
  Below w.heap.size w w' ∧ ((∃ v : Int, Lib.parseIntB 64 l = .ok v ∧ e = .returned (.tuple #[.int .i64 v, .nilIface])) ∨
    ((∀ v, Lib.parseIntB 64 l ≠ .ok v) ∧ ∃ (v : Int) (N t : Nat), e = .returned (.tuple #[.int .i64 v, .iface t (.pointer (some ⟨N, 0, none⟩))])))
theorem parseInt_any (s : ByteArray) (w : World) (hs : s.size ≤ 1048576) (h : HeldL w) :
    Calls Tryd.prog 50 #[.string s, .int .i64 10, .int .i64 64] w (ParseEnd s.data.toList w) := by
  obtain ⟨_, ⟨t1, p1, h1⟩, ⟨t2, p2, h2⟩, _, _⟩ := h
  rcases hp : Lib.parseIntB 64 s.data.toList with v | _ | _
  · refine (Tryd.strconv_ParseInt_10_at64_ok s (by omega) v hp w).mono ?_
    rintro e w' ⟨rfl, hw⟩
    refine ⟨?_, .inl ⟨v, hp, rfl⟩⟩
    rcases hw with rfl | ⟨t, rfl⟩
    · exact Below.refl _ _
    · exact Lib.bytesWorld_below _ _ _
  · refine (Tryd.strconv_ParseInt_10_at64_syntax s (by omega) hp _ w h1 (.inr ⟨_, _, rfl⟩)).mono ?_
    rintro e w' ⟨N, rfl, _, _, hb⟩
    exact ⟨hb, .inr ⟨fun v e => (by rw [hp] at e; cases e), _, N, _, rfl⟩⟩
  · refine (Tryd.strconv_ParseInt_10_at64_range s (by omega) hp _ w h2 (.inr ⟨_, _, rfl⟩)).mono ?_
    rintro e w' ⟨N, rfl, _, _, hb⟩
    exact ⟨hb, .inr ⟨fun v e => (by rw [hp] at e; cases e), _, N, _, rfl⟩⟩

def optTwo (o : Option Int) : Ending := two (o.getD 0) o.isSome
theorem bytes_eq {l : List UInt8} {s : ByteArray} : ((⟨l.toArray⟩ : ByteArray) = s) ↔ l = s.data.toList := by
  obtain ⟨d⟩ := s
  constructor
  · intro h
    injection h with h
    rw [← h]
  · intro h
    simp only at h
    rw [h]
set_option maxHeartbeats 1000000 in
theorem implRead_any (s : ByteArray) (w : World) (hs : s.size ≤ 1048576) (h : HeldL w) :
    Calls Tryd.prog 25 #[.string s] w fun e w' => e = optTwo (implP s.data.toList) ∧ Below w.heap.size w w' := by
  have C : Calls Tryd.prog 50 #[.string s, .int .i64 10, .int .i64 64] w (ParseEnd s.data.toList w) := parseInt_any s w hs h
  go_enter Tryd.func25, Tryd.ntmps25
  go_wp2_with fail
  go_at_call 50
  refine C.mono ?_
  rintro e w1 ⟨b1, ⟨v, hv, rfl⟩ | ⟨hno, v, N, t, rfl⟩⟩
  · have hbd := Lib.parseIntB_bounds hv
    have hv0 : -9223372036854775808 ≤ v ∧ v ≤ 9223372036854775807 := by simp at hbd; omega
    have h1 := held_below h b1
    have E : implP s.data.toList = if numB s.data.toList v = true then some v else none := by unfold implP; rw [hv]
    have HE := Lib.hid E
    clear hv hbd E C
    rcases hin : inB v (-1000000000000000) 1000000000000000 with _ | _
    · have HN : Hid (numB s.data.toList v = false) := Lib.hid (by simp [numB, hin])
      go_wp2_with (go_at_call 38; (with_reducible refine (isValue_any _ _).mono ?_); rintro e w' ⟨rfl, rfl⟩)
      go_ret2
      exact ⟨by rw [HE.out, HN.out]; rfl, b1⟩
    · by_cases hq : Lib.itoa v = s.data.toList
      · have HN : Hid (numB s.data.toList v = true) := Lib.hid (by simp [numB, hin, hq])
        have hst : (⟨(Lib.itoa v).toArray⟩ : ByteArray) = s := bytes_eq.2 hq
        have CD : Calls Tryd.prog 21 #[.int .i64 v] w1 fun e w' => e = .returned (.string s) ∧ Below w1.heap.size w1 w' := by
          have := implDecimal_any v w1 hv0.1 hv0.2 h1.tab
          rw [hst] at this
          exact this
        clear hq hst
        go_wp2_with (first | (go_at_call 38; (with_reducible refine (isValue_any _ _).mono ?_); rintro e w' ⟨rfl, rfl⟩) | (go_at_call 21; (with_reducible refine (CD).mono ?_); rintro e w2 ⟨rfl, b2⟩))
        go_ret2
        exact ⟨by rw [HE.out, HN.out]; rfl, b1.trans (b2.mono b1.size)⟩
      · have HN : Hid (numB s.data.toList v = false) := Lib.hid (by simp [numB, hq])
        have hst : ¬ (⟨(Lib.itoa v).toArray⟩ : ByteArray) = s := fun h => hq (bytes_eq.1 h)
        obtain ⟨u, hu⟩ : ∃ u : ByteArray, u = ⟨(Lib.itoa v).toArray⟩ := ⟨_, rfl⟩
        have CD : Calls Tryd.prog 21 #[.int .i64 v] w1 fun e w' => e = .returned (.string u) ∧ Below w1.heap.size w1 w' := by
          rw [hu]; exact implDecimal_any v w1 hv0.1 hv0.2 h1.tab
        have t1 : (u.toList == s.toList) = false := by
          rw [ByteArray.toList_eq, ByteArray.toList_eq, hu, beq_eq_false_iff_ne]
          simpa using hq
        clear hq hu hst
        go_wp2_with (first | (go_at_call 38; (with_reducible refine (isValue_any _ _).mono ?_); rintro e w' ⟨rfl, rfl⟩) | (go_at_call 21; (with_reducible refine (CD).mono ?_); rintro e w2 ⟨rfl, b2⟩))
        go_ret2
        exact ⟨by rw [HE.out, HN.out]; rfl, b1.trans (b2.mono b1.size)⟩
  · have HE : Hid (implP s.data.toList = none) := Lib.hid (by
      unfold implP
      split
      · next v' hv' => exact absurd hv' (hno v')
      · rfl)
    clear hno C
    go_wp2
    go_ret2
    exact ⟨by rw [HE.out]; rfl, b1⟩
end Go.Proofs.YtakkehjfdeghoacDoor
