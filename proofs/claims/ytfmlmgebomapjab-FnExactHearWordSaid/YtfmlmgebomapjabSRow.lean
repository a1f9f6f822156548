/-
  Slices of texts: what came in as an argument, and what a call makes itself.
-/
import Derived.Test.YtfmlmgebomapjabOpenR
import Derived.Test.YtfmlmgebomapjabOwnK
import Derived.SliceStrings
import Derived.BigRegion
namespace Go.Proofs.Ytfmlmgebomapjab
open Go Go.RowKit Go.ChangeShapes Go.WideShapes Go.ChangeAt Go.Deep

/-- The slice at A of n texts reads as ss, and lies below block B. -/
def SRow (B : Nat) (w : World) (A : Option Addr) (n : Nat) (ss : List ByteArray) : Prop :=
  ss.length = n ∧ n ≤ maxLen ∧ (∀ s ∈ ss, s.size ≤ maxLen) ∧
  (0 < n → ∃ b off, A = some ⟨b, off, none⟩ ∧ b < B ∧ ∀ j, j < n → w.cell? ⟨b, off + j, none⟩ = some (.string (ss.getD j ByteArray.empty)))
section
variable {B B' n c : Nat} {w w' : World} {A : Option Addr} {ss : List ByteArray}
theorem SRow.below (h : SRow B w A n ss) (hb : Below B w w') : SRow B w' A n ss :=
  ⟨h.1, h.2.1, h.2.2.1, fun h0 => by
    obtain ⟨b, off, e, hb', hc⟩ := h.2.2.2 h0
    exact ⟨b, off, e, hb', fun j hj => (hb.cell (p := ⟨b, off + j, none⟩) hb').trans (hc j hj)⟩⟩
theorem SRow.more (h : SRow B w A n ss) (hB : B ≤ B') : SRow B' w A n ss :=
  ⟨h.1, h.2.1, h.2.2.1, fun h0 => by
    obtain ⟨b, off, e, hb', hc⟩ := h.2.2.2 h0
    exact ⟨b, off, e, by omega, hc⟩⟩
theorem SRow.le (h : SRow B w A n ss) : n ≤ 9223372036854775807 := h.2.1
theorem SRow.at_ (h : SRow B w A n ss) {j : Nat} (hj : j < n) : ∃ b off s, A = some ⟨b, off, none⟩ ∧ b < B ∧ ss[j]? = some s ∧ w.cell? ⟨b, off + j, none⟩ = some (.string s) ∧ s.size ≤ maxLen := by
  obtain ⟨b, off, e, hb, hc⟩ := h.2.2.2 (by omega)
  have hl := h.1
  have hz : ss[j]? = some (ss[j]'(by omega)) := List.getElem?_eq_getElem (by omega)
  refine ⟨b, off, _, e, hb, hz, ?_, h.2.2.1 _ (List.getElem_mem _)⟩
  have h2 := hc j hj
  simpa [List.getD, hz] using h2
/-- The slice of texts is the call's own. -/
def OwnS (B : Nat) (w : World) (A : Option Addr) (n c : Nat) (ss : List ByteArray) : Prop := w.ownsRow B 9 1 (.slice A n c) n (ss.map Value.string) ∧ ∀ s ∈ ss, s.size ≤ maxLen
theorem OwnS.row (h : OwnS B w A n c ss) : SRow w.heap.size w A n ss := by
  have hl : ss.length = n := by have := h.1.1; simpa using this
  rcases ownsRow_form h.1 with ⟨_, h0, _⟩ | ⟨g, rfl, _, hg, h1, h2⟩
  · exact ⟨hl, by rw [h0]; exact Nat.zero_le _, h.2, fun h3 => absurd h3 (by omega)⟩
  · refine ⟨hl, Nat.le_trans h1 h2, h.2, fun _ => ⟨g, 0, rfl, hg, fun j hj => ?_⟩⟩
    have hz : ss[j]? = some (ss[j]'(by omega)) := List.getElem?_eq_getElem (by omega)
    rw [Nat.zero_add, h.1.cellAt j (by omega), List.getElem?_map, hz]
    simp [List.getD, hz]
end
section
variable {H : Type} {enc : TypeId × Value → H} {w : World} {fuel : Nat} {v : Value} {x : DataW H × List MemPlace}
theorem srow_of_trod (h : DataW.trod enc Try.prog w 0 (fun _ => true) true fuel 25 [v] = some x) :
    ∃ A n c ss, v = .slice A n c ∧ n ≤ c ∧ SRow w.heap.size w A n ss := by
  rcases open_strings Try.underlying25 Try.underlying9 (by kernel_rfl) h with ⟨hcs, _⟩ | ⟨a, l, c, ss, hcs, _, hl, hm, hz, _, hcell, hss⟩
  · simp at hcs
    exact ⟨_, _, _, [], hcs, Nat.le_refl _, rfl, Nat.zero_le _, fun s hs => by (cases hs), fun h0 => absurd h0 (by omega)⟩
  · simp at hcs
    have hz2 : ss.length = c := by simpa using hz
    refine ⟨_, _, _, ss.take l, hcs, hl, by simp; omega, by omega, fun s hs => hss s (List.mem_of_mem_take hs), fun h0 => ?_⟩
    obtain ⟨b, off, spot⟩ := a
    have h1 := hcell 0 (by omega)
    have hspot : spot = none := by simpa [Addr.add] using World.cell?_spot h1
    subst hspot
    have hb := block_of_cell h1
    refine ⟨b, off, rfl, by simpa [Addr.add] using hb, fun j hj => ?_⟩
    have h2 := hcell j (by omega)
    have e : (ss.take l).getD j ByteArray.empty = ss.getD j ByteArray.empty := by simp [List.getD, hj]
    rw [e]
    by_cases hj0 : j = 0
    · subst hj0; simpa [Addr.add] using h2
    · simpa [Addr.add, hj0] using h2
end
def SzP (n : Nat) (left : Int) (w : World) (e : Ending) (w' : World) : Prop := (∃ z, e = .returned (.int .i64 z) ∧ (0 ≤ z → (n : Int) ≤ left)) ∧ w = w'
set_option maxHeartbeats 2000000 in
theorem szStringS_any {B : Nat} (A : Option Addr) (n c : Nat) (ss : List ByteArray) (left : Int) (w : World) (h : SRow B w A n ss) (h0 : 0 ≤ left) (h1 : left ≤ 1048576) :
    Calls Try.prog 10 #[.slice A n c, .int .i64 left] w (SzP n left w) := by
  have hle := h.le
  by_cases hn : left < (n : Int)
  · go_enter Try.func10, Try.ntmps10
    go_wp2
    go_ret
    exact ⟨⟨_, rfl, fun hz => absurd hz (by decide)⟩, rfl⟩
  · go_enter Try.func10, Try.ntmps10
    go_wp2
    go_loop [1, 5] (fun l i => ∃ (k : Nat) (z : Int), k ≤ n ∧ i = .int .i64 k ∧ l = .int .i64 z ∧ 0 ≤ z ∧ z ≤ left) (fun _ i => n - (intOf i).toNat)
    case atStart => exact ⟨0, _, by omega, rfl, rfl, by omega, by omega⟩
    case round =>
      obtain ⟨k, z, hk, rfl, rfl, hz0, hz1⟩ := hrel
      by_cases hlt : k < n
      · obtain ⟨b, o, s, rfl, _, _, hc, hsz⟩ := h.at_ hlt
        unfold maxLen at hsz
        by_cases hb : z < (s.size : Int)
        · go_wp2
          go_ret
          exact ⟨⟨_, rfl, fun hz => absurd hz (by decide)⟩, rfl⟩
        · go_wp2
          go_round
          case rel => exact ⟨k + 1, _, by omega, by go_num, rfl, by omega, by omega⟩
          case measure => simp [intOf]; omega
      · obtain rfl : k = n := by omega
        go_wp2
        go_ret
        exact ⟨⟨_, rfl, fun _ => by omega⟩, rfl⟩
theorem infoSt : (Try.prog.info? 9).map (fun i => (i.zero, i.size, i.bytes)) = some (some (.string ByteArray.empty), 1, 16) := by kernel_rfl
theorem set_takeS {ss : List ByteArray} {n k : Nat} {s : ByteArray} (hl : ss.length = n) (hk : k < n) (hz : ss[k]? = some s) :
    (ss.take k ++ List.replicate (n - k) ByteArray.empty).set k s = ss.take (k + 1) ++ List.replicate (n - (k + 1)) ByteArray.empty := by
  have e : n - k = (n - (k + 1)) + 1 := by omega
  have hlk : (ss.take k).length = k := by simp; omega
  rw [List.set_append, if_neg (by omega), hlk, Nat.sub_self, e, List.replicate_succ, List.set_cons_zero, List.take_add_one, hz]
  simp
def MadeS (B : Nat) (n : Nat) (ss : List ByteArray) (w : World) (e : Ending) (w' : World) : Prop := ∃ A c, e = .returned (.slice A n c) ∧ OwnS B w' A n c ss ∧ Below B w w'
set_option maxHeartbeats 2000000 in
theorem toStringS_any {B : Nat} (A : Option Addr) (n c : Nat) (ss : List ByteArray) (w : World) (h : SRow B w A n ss) (hB : B ≤ w.heap.size) (hn : n ≤ 1048576) :
    Calls Try.prog 12 #[.slice A n c] w (MadeS w.heap.size n ss w) := by
  obtain ⟨i0, hi, hz0, hz1, hz2⟩ := info_parts infoSt
  have hr := h.more hB
  clear h
  go_enter Try.func12, Try.ntmps12
  go_wp2_with (refine wpList_make_full _ rfl _ _ 25 rfl w.heap.size 9 i0 (.string ByteArray.empty) 1 Try.underlying25 hi hz0 hz1 .i64 .i64 n n n rfl rfl rfl rfl ?c1 ?c2 (Nat.le_refl _) ?_)
  case c1 => rw [hz2]; omega
  case c2 => unfold maxLen; omega
  intro w1 hown hg
  have hbel : Below w.heap.size w w1 := (Below.refl _ w).grown hg (Nat.le_refl _) (fun k hk => by cases hk)
  have hown0 : Hid (w1.ownsRow w.heap.size 9 1 (.slice (some ⟨w.heap.size, 0, none⟩) n n) n ((ss.take 0 ++ List.replicate (n - 0) ByteArray.empty).map Value.string)) := Lib.hid (by
    have e : (ss.take 0 ++ List.replicate (n - 0) ByteArray.empty).map Value.string = (madeCells #[Value.string ByteArray.empty] n).toList := by
      simp [toList_madeCells_one]
    rw [e]; exact hown)
  clear hown
  go_wp2
  go_loopw [4] (fun i wr => ∃ k : Nat, k ≤ n ∧ i = .int .i64 k ∧ Hid (wr.ownsRow w.heap.size 9 1 (.slice (some ⟨w.heap.size, 0, none⟩) n n) n ((ss.take k ++ List.replicate (n - k) ByteArray.empty).map Value.string)) ∧ Below w.heap.size w wr) (fun i _ => n - (intOf i).toNat)
  case atStart => exact ⟨0, by omega, rfl, hown0, hbel⟩
  case round =>
    obtain ⟨k, hk, rfl, hO, hb⟩ := hrel
    by_cases hlt : k < n
    · have ho := hO.out
      obtain ⟨b, off, s, rfl, hbb, hz, hc, _⟩ := (SRow.below hr hb).at_ hlt
      have hc2 : wr.cell? ⟨w.heap.size, k, none⟩ = ((ss.take k ++ List.replicate (n - k) ByteArray.empty).map Value.string)[k]? := ho.cellAt k (by omega)
      have hc3 : ((ss.take k ++ List.replicate (n - k) ByteArray.empty).map Value.string)[k]? = some (.string ByteArray.empty) := by
        have hl := hr.1
        simp only [List.getElem?_map]
        rw [List.getElem?_append_right (by simp; omega)]
        simp [hl, List.getElem?_replicate]
        omega
      have hcell := hc2.trans hc3
      have hfr := ho.frozenAt k
      have hst := (ho.stored k (.string s)).1
      have e : ((ss.take k ++ List.replicate (n - k) ByteArray.empty).map Value.string).set k (.string s) = (ss.take (k + 1) ++ List.replicate (n - (k + 1)) ByteArray.empty).map Value.string := by
        rw [← List.map_set, set_takeS hr.1 hlt hz]
      rw [e] at hst
      have HST := Lib.hid hst
      clear hc2 hc3 hz hst e ho hO
      go_wp2
      go_roundw
      case rel => exact ⟨k + 1, by omega, by go_num, HST, hb.setCell (Nat.le_refl _) _⟩
      case measure => simp [intOf]; omega
    · obtain rfl : k = n := by omega
      have HF : Hid (wr.ownsRow w.heap.size 9 1 (.slice (some ⟨w.heap.size, 0, none⟩) k k) k (ss.map Value.string)) := Lib.hid (by
        have h5 := hO.out
        rw [List.take_of_length_le (by have := hr.1; omega)] at h5
        simpa using h5)
      clear hO hown0
      go_wp2
      go_ret
      exact ⟨_, _, rfl, ⟨HF.out, hr.2.2.1⟩, hb⟩
set_option maxHeartbeats 2000000 in
theorem eqStringS_any {B1 B2 : Nat} (A1 A2 : Option Addr) (n c1 c2 : Nat) (ss : List ByteArray) (w : World) (h1 : SRow B1 w A1 n ss) (h2 : SRow B2 w A2 n ss) :
    Calls Try.prog 14 #[.slice A1 n c1, .slice A2 n c2] w fun e w' => e = .returned (.bool true) ∧ ∃ m, w' = w.drewN m := by
  have hle := h1.le
  go_enter Try.func14, Try.ntmps14
  go_wp2
  go_loopw [5] (fun i wr => ∃ k : Nat, k ≤ n ∧ i = .int .i64 k ∧ ∃ m, wr = w.drewN m) (fun i _ => n - (intOf i).toNat)
  case atStart => exact ⟨0, by omega, rfl, 0, rfl⟩
  case round =>
    obtain ⟨k, hk, rfl, m, rfl⟩ := hrel
    by_cases hlt : k < n
    · obtain ⟨b, o, s, rfl, _, hz, q1, _⟩ := h1.at_ hlt
      obtain ⟨b', o', s', rfl, _, hz', q2, _⟩ := h2.at_ hlt
      obtain rfl := Option.some.inj (hz.symm.trans hz')
      clear hz hz'
      go_wp2
      go_quiet (fail)
      go_wp2
      go_roundw
      case rel => exact ⟨k + 1, by omega, by go_num, _, rfl⟩
      case measure => simp [intOf]; omega
    · obtain rfl : k = n := by omega
      go_wp2
      go_ret
      exact ⟨rfl, _, rfl⟩
end Go.Proofs.Ytfmlmgebomapjab
