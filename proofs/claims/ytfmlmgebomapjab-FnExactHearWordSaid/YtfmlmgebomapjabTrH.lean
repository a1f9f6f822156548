/-
  Tries in memory, and the program's add.
-/
import Derived.Test.YtfmlmgebomapjabTrM
import Derived.Test.YtfmlmgebomapjabBlk
import Derived.Test.YtfmlmgebomapjabLow
import Derived.RegionTactic
import Derived.IntWalk
namespace Go.Proofs.Ytfmlmgebomapjab
open Go.RowKit

/-- The pointer to a node. -/
def Tr.ptr (T : Tr) : Option Nat → Value
  | none => .pointer none
  | some j => .pointer (some ⟨T.gs.getD j 0, 0, none⟩)
def Tr.cellsL (T : Tr) (i : Nat) : List Value := .bool (T.en i).isSome :: .int .i64 (((T.en i).getD 0 : Nat) : Int) :: (List.range 26).map fun c => T.ptr (T.nx i c)
def TrAt (W : World) (B : Nat) (T : Tr) : Prop :=
  (∀ i, i < T.gs.length → B ≤ T.gs.getD i 0 ∧ Blk W (T.gs.getD i 0) (T.cellsL i).toArray 60) ∧ ∀ i j, i < j → j < T.gs.length → T.gs.getD i 0 < T.gs.getD j 0
theorem Tr.cells_kid (T : Tr) (i : Nat) {c : Nat} (hc : c < 26) : (T.cellsL i).toArray[2 + c]? = some (T.ptr (T.nx i c)) := by
  rw [List.getElem?_toArray, show 2 + c = c + 1 + 1 by omega]
  unfold Tr.cellsL
  rw [List.getElem?_cons_succ, List.getElem?_cons_succ, List.getElem?_map, List.getElem?_range hc]; rfl
theorem Tr.cells_0 (T : Tr) (i : Nat) : (T.cellsL i).toArray[0]? = some (.bool (T.en i).isSome) := rfl
theorem Tr.cells_1 (T : Tr) (i : Nat) : (T.cellsL i).toArray[1]? = some (.int .i64 (((T.en i).getD 0 : Nat) : Int)) := rfl
theorem Tr.getD_grow {T : Tr} {i c g j : Nat} (hj : j < T.gs.length) : (T.grow i c g).gs.getD j 0 = T.gs.getD j 0 := by
  show (T.gs ++ [g]).getD j 0 = _
  simp [List.getD, List.getElem?_append_left hj]
theorem Tr.getD_new {T : Tr} {i c g : Nat} : (T.grow i c g).gs.getD T.gs.length 0 = g := by
  show (T.gs ++ [g]).getD T.gs.length 0 = g
  simp [List.getD]
theorem Tr.Ok.ptr_grow {T : Tr} (h : T.Ok) {i c g a b : Nat} : (T.grow i c g).ptr (T.nx a b) = T.ptr (T.nx a b) := by
  cases hx : T.nx a b with
  | none => rfl
  | some j => show Value.pointer (some ⟨(T.grow i c g).gs.getD j 0, 0, none⟩) = .pointer (some ⟨T.gs.getD j 0, 0, none⟩); rw [Tr.getD_grow (h.kid _ _ _ hx).2]
theorem Tr.Ok.cells_other {T : Tr} (h : T.Ok) {i c g a : Nat} (ha : a ≠ i) : (T.grow i c g).cellsL a = T.cellsL a := by
  unfold Tr.cellsL
  congr 2
  apply List.map_congr_left
  intro b _
  rw [Tr.grow_nx, if_neg (by omega), h.ptr_grow]
theorem Tr.Ok.cells_at {T : Tr} (h : T.Ok) {i c g : Nat} (hc : c < 26) : ((T.cellsL i).toArray).setIfInBounds (2 + c) (.pointer (some ⟨g, 0, none⟩)) = ((T.grow i c g).cellsL i).toArray := by
  rw [List.setIfInBounds_toArray]
  congr 1
  unfold Tr.cellsL
  rw [show 2 + c = c + 1 + 1 by omega, List.set_cons_succ, List.set_cons_succ]
  congr 2
  apply List.ext_getElem?
  intro b
  rw [List.getElem?_set]
  by_cases hb : b < 26
  · rw [List.getElem?_map, List.getElem?_map, List.getElem?_range hb]
    by_cases hcb : c = b
    · subst hcb
      rw [if_pos rfl, if_pos (by simpa using hb)]
      simp only [Option.map_some]
      rw [Tr.grow_nx, if_pos ⟨rfl, rfl⟩]
      show _ = some (Value.pointer (some ⟨(T.grow i c g).gs.getD T.gs.length 0, 0, none⟩))
      rw [Tr.getD_new]
    · rw [if_neg hcb]
      simp only [Option.map_some]
      rw [Tr.grow_nx, if_neg (by omega), h.ptr_grow]
  · rw [if_neg (by omega), List.getElem?_eq_none (by simp; omega), List.getElem?_eq_none (by simp; omega)]
theorem Tr.Ok.cells_new {T : Tr} (h : T.Ok) {i c g : Nat} (hi : i < T.gs.length) : ((T.grow i c g).cellsL T.gs.length).toArray = #[Value.bool false, Value.int .i64 0, Value.pointer none, Value.pointer none, Value.pointer none, Value.pointer none, Value.pointer none, Value.pointer none, Value.pointer none, Value.pointer none, Value.pointer none, Value.pointer none, Value.pointer none, Value.pointer none, Value.pointer none, Value.pointer none, Value.pointer none, Value.pointer none, Value.pointer none, Value.pointer none, Value.pointer none, Value.pointer none, Value.pointer none, Value.pointer none, Value.pointer none, Value.pointer none, Value.pointer none, Value.pointer none] := by
  show _ = (Value.bool false :: Value.int .i64 0 :: List.replicate 26 (Value.pointer none)).toArray
  congr 1
  unfold Tr.cellsL
  have e : (T.grow i c g).en T.gs.length = none := h.enN _ (Nat.le_refl _)
  rw [e]
  have e2 : (List.range 26).map (fun b => (T.grow i c g).ptr ((T.grow i c g).nx T.gs.length b)) = List.replicate 26 (.pointer none) := by
    apply List.ext_getElem?
    intro b
    by_cases hb : b < 26
    · rw [List.getElem?_map, List.getElem?_range hb, List.getElem?_replicate, if_pos hb]
      simp only [Option.map_some]
      rw [Tr.grow_nx, if_neg (by omega), h.out _ _ (Nat.le_refl _)]
      rfl
    · rw [List.getElem?_eq_none (by simp; omega), List.getElem?_eq_none (by simp; omega)]
  rw [e2]; rfl
theorem alpha_0 (h) : ((⟨#[97, 98, 99, 100, 101, 102, 103, 104, 105, 106, 107, 108, 109, 110, 111, 112, 113, 114, 115, 116, 117, 118, 119, 120, 121, 122]⟩ : ByteArray)[0]'h).toNat = 97 := rfl
theorem TrAt.inj {W : World} {B : Nat} {T : Tr} (h : TrAt W B T) {i j : Nat} (hi : i < T.gs.length) (hj : j < T.gs.length) (hne : i ≠ j) : T.gs.getD i 0 ≠ T.gs.getD j 0 := by
  rcases Nat.lt_or_ge i j with h1 | h1
  · have := h.2 i j h1 hj; omega
  · have := h.2 j i (by omega) hi; omega
theorem TrAt.below {W W' : World} {B : Nat} {T : Tr} (h : TrAt W B T) (hb : Below W.heap.size W W') : TrAt W' B T :=
  ⟨fun i hi => ⟨(h.1 i hi).1, (h.1 i hi).2.below hb (h.1 i hi).2.lt⟩, h.2⟩
theorem TrAt.drew {W : World} {B : Nat} {T : Tr} (h : TrAt W B T) : TrAt W.drew B T := ⟨fun i hi => ⟨(h.1 i hi).1, (h.1 i hi).2⟩, h.2⟩
theorem TrAt.grow {W : World} {B : Nat} {T : Tr} (h : TrAt W B T) (ho : T.Ok) (hB : B ≤ W.heap.size) {i c : Nat} (hi : i < T.gs.length) (hc : c < 26) :
    TrAt ((W.setCell ⟨T.gs.getD i 0, 2 + c, none⟩ (.pointer (some ⟨W.heap.size, 0, none⟩))).alloc (.cells #[Value.bool false, Value.int .i64 0, Value.pointer none, Value.pointer none, Value.pointer none, Value.pointer none, Value.pointer none, Value.pointer none, Value.pointer none, Value.pointer none, Value.pointer none, Value.pointer none, Value.pointer none, Value.pointer none, Value.pointer none, Value.pointer none, Value.pointer none, Value.pointer none, Value.pointer none, Value.pointer none, Value.pointer none, Value.pointer none, Value.pointer none, Value.pointer none, Value.pointer none, Value.pointer none, Value.pointer none, Value.pointer none] 60)) B (T.grow i c W.heap.size) := by
  have hl : (T.grow i c W.heap.size).gs.length = T.gs.length + 1 := by simp [Tr.grow]
  have hlt : ∀ a, a < T.gs.length → T.gs.getD a 0 < W.heap.size := fun a ha => (h.1 a ha).2.lt
  refine ⟨fun a ha => ?_, fun a b hab hb => ?_⟩
  · by_cases han : a = T.gs.length
    · subst han
      rw [Tr.getD_new]
      refine ⟨hB, ?_⟩
      rw [ho.cells_new hi]
      have e : (W.setCell ⟨T.gs.getD i 0, 2 + c, none⟩ (.pointer (some ⟨W.heap.size, 0, none⟩))).heap.size = W.heap.size := by simp
      have h5 := Blk.new (W.setCell ⟨T.gs.getD i 0, 2 + c, none⟩ (.pointer (some ⟨W.heap.size, 0, none⟩))) #[Value.bool false, Value.int .i64 0, Value.pointer none, Value.pointer none, Value.pointer none, Value.pointer none, Value.pointer none, Value.pointer none, Value.pointer none, Value.pointer none, Value.pointer none, Value.pointer none, Value.pointer none, Value.pointer none, Value.pointer none, Value.pointer none, Value.pointer none, Value.pointer none, Value.pointer none, Value.pointer none, Value.pointer none, Value.pointer none, Value.pointer none, Value.pointer none, Value.pointer none, Value.pointer none, Value.pointer none, Value.pointer none] 60
      rw [e] at h5
      exact h5
    · have ha' : a < T.gs.length := by omega
      rw [Tr.getD_grow ha']
      refine ⟨(h.1 a ha').1, ?_⟩
      by_cases hai : a = i
      · subst hai
        rw [← ho.cells_at hc]
        exact ((h.1 a ha').2.set _ _).alloc _
      · rw [ho.cells_other hai]
        exact ((h.1 a ha').2.other _ (h.inj ha' hi hai)).alloc _
  · by_cases hbn : b = T.gs.length
    · subst hbn
      rw [Tr.getD_new, Tr.getD_grow hab]
      exact hlt a hab
    · rw [Tr.getD_grow (by omega), Tr.getD_grow (by omega)]
      exact h.2 a b hab (by omega)
theorem TrAt.mark {W : World} {B : Nat} {T : Tr} (h : TrAt W B T) {i z : Nat} (hi : i < T.gs.length) :
    TrAt ((W.setCell ⟨T.gs.getD i 0, 0, none⟩ (.bool true)).setCell ⟨T.gs.getD i 0, 1, none⟩ (.int .i64 (z : Int))) B (T.mark i z) := by
  refine ⟨fun a ha => ?_, h.2⟩
  have ha' : a < T.gs.length := ha
  refine ⟨(h.1 a ha').1, ?_⟩
  show Blk _ (T.gs.getD a 0) ((T.mark i z).cellsL a).toArray _
  by_cases hai : a = i
  · subst hai
    have e : ((T.mark a z).cellsL a).toArray = (((T.cellsL a).toArray).setIfInBounds 0 (.bool true)).setIfInBounds 1 (.int .i64 (z : Int)) := by
      rw [List.setIfInBounds_toArray, List.setIfInBounds_toArray]
      congr 1
      unfold Tr.cellsL
      have : (T.mark a z).en a = some z := by show (if a = a then some z else T.en a) = some z; rw [if_pos rfl]
      rw [this]
      rfl
    rw [e]
    exact ((h.1 a ha').2.set _ _).set _ _
  · have e : (T.mark i z).cellsL a = T.cellsL a := by
      unfold Tr.cellsL
      have : (T.mark i z).en a = T.en a := by show (if a = i then some z else T.en a) = T.en a; rw [if_neg hai]
      rw [this]; rfl
    rw [e]
    exact ((h.1 a ha').2.other _ (h.inj ha' hi hai)).other _ (h.inj ha' hi hai)

/-- What add leaves: the word with its index, or nothing of use where it is there already. -/
def AddPost (B : Nat) (T : Tr) (u : List Nat) (z : Nat) (W : World) (e : Ending) (W' : World) : Prop :=
  Below B W W' ∧ ((T.acc u ≠ none ∧ e = .returned (.bool false)) ∨
    (T.acc u = none ∧ e = .returned (.bool true) ∧ ∃ T' : Tr, TrAt W' B T' ∧ T'.Ok ∧ T'.Deep 20 ∧ T'.gs.getD 0 0 = T.gs.getD 0 0 ∧ ∀ v, T'.acc v = if v = u then some z else T.acc v))

/-- How far add has come. -/
def AddIn (B : Nat) (T : Tr) (l : List Nat) (W : World) (i : Nat) (T1 : Tr) : Prop :=
  TrAt W B T1 ∧ T1.Ok ∧ i < T1.gs.length ∧ T1.go 0 l = some i ∧ (∀ v, T1.acc v = T.acc v) ∧ T1.gs.getD 0 0 = T.gs.getD 0 0 ∧ T1.Deep 20

set_option maxRecDepth 100000 in
set_option maxHeartbeats 4000000 in
theorem add_any {B : Nat} (T : Tr) (s : ByteArray) (z : Nat) (W : World) (hT : TrAt W B T) (hO : T.Ok) (hD : T.Deep 20) (hs : s.size ≤ 20) (hl : letB s = true) (hB : B ≤ W.heap.size) :
    Calls Try.prog 43 #[.pointer (some ⟨T.gs.getD 0 0, 0, none⟩), .string s, .int .i64 (z : Int)] W (AddPost B T (lets s.data.toList) z W) := by
  have HL := Lib.hid hl
  have HT : Hid (AddIn B T ((lets s.data.toList).take 0) W 0 T) := Lib.hid ⟨hT, hO, hO.root, rfl, fun _ => rfl, rfl, hD⟩
  clear hT hO hD hl
  go_enter Try.func43, Try.ntmps43
  go_wp2_with fail
  go_loopw [0, 7, 8, 11] (fun t _ _ y wr => ∃ (k i : Nat) (T1 : Tr), k ≤ s.size ∧ y = .int .i64 k ∧ t = .pointer (some ⟨T1.gs.getD i 0, 0, none⟩) ∧ Hid (AddIn B T ((lets s.data.toList).take k) wr i T1) ∧ Below B W wr) (fun _ _ _ y _ => s.size - (intOf y).toNat)
  case atStart => exact ⟨0, 0, T, by omega, rfl, rfl, HT, Below.refl _ _⟩
  case round =>
    obtain ⟨k, i, T1, hk, rfl, rfl, hA, hbl⟩ := hrel
    obtain ⟨wq, hwq⟩ : ∃ wq, wq = wr := ⟨_, rfl⟩
    rw [← hwq] at hA hbl ⊢
    clear hwq HT
    have hsz := hbl.size
    obtain ⟨g, hg⟩ : ∃ g, g = T1.gs.getD i 0 := ⟨_, rfl⟩
    have HG := Lib.hid hg
    have hblk := (hA.out.1.1 i hA.out.2.2.1)
    have hBg : B ≤ g := by rw [hg]; exact hblk.1
    have hblk := hblk.2
    rw [← hg] at hblk ⊢
    clear hg
    by_cases hlt : k < s.size
    · have hmem : s[k] ∈ s.data.toList := by simp [ByteArray.getElem_eq_getElem_data]
      have hlow : lowB s[k] = true := List.all_eq_true.1 HL.out _ hmem
      have hlow2 : 97 ≤ s[k].toNat ∧ s[k].toNat ≤ 122 := by simpa only [lowB, decide_eq_true_eq] using hlow
      obtain ⟨c, hc⟩ : ∃ c, s[k].toNat = c + 97 := ⟨s[k].toNat - 97, by omega⟩
      have hc26 : c < 26 := by omega
      have HS : Hid ((lets s.data.toList).take (k + 1) = (lets s.data.toList).take k ++ [c]) := Lib.hid (by
        have : (lets s.data.toList)[k]? = some c := by
          unfold lets
          rw [List.getElem?_map, List.getElem?_eq_getElem (by simpa using hlt)]
          simp only [Option.map_some, Option.some.injEq]
          show s[k].toNat - 97 = c
          omega
        rw [List.take_add_one, this]; rfl)
      have hcell : wq.cell? ⟨g, 2 + c, none⟩ = some (T1.ptr (T1.nx i c)) := by rw [hblk.cell, T1.cells_kid i hc26]
      have hfr := hblk.frozen (2 + c)
      have hglt : g < wq.heap.size := hblk.lt
      have hgne : g ≠ wq.heap.size := by omega
      have h97 := alpha_0
      have hw1 : IntKind.u8.wrap (c : Int) = (c : Int) := by rw [IntKind.wrap]; simp [IntKind.bits, IntKind.signed]; omega
      have hci : (c : Int) < 26 := by omega
      clear hmem hlow hlow2
      rcases hx : T1.nx i c with _ | j
      · rw [hx] at hcell
        have hcell2 : wq.cell? ⟨g, 2 + c, none⟩ = some (.pointer none) := hcell
        clear hcell
        have HX := Lib.hid hx
        clear hx
        have HTA : Hid (AddIn B T ((lets s.data.toList).take (k + 1)) ((wq.setCell ⟨g, 2 + c, none⟩ (.pointer (some ⟨wq.heap.size, 0, none⟩))).alloc (.cells #[Value.bool false, Value.int .i64 0, Value.pointer none, Value.pointer none, Value.pointer none, Value.pointer none, Value.pointer none, Value.pointer none, Value.pointer none, Value.pointer none, Value.pointer none, Value.pointer none, Value.pointer none, Value.pointer none, Value.pointer none, Value.pointer none, Value.pointer none, Value.pointer none, Value.pointer none, Value.pointer none, Value.pointer none, Value.pointer none, Value.pointer none, Value.pointer none, Value.pointer none, Value.pointer none, Value.pointer none, Value.pointer none] 60)).drew T1.gs.length (T1.grow i c wq.heap.size)) := Lib.hid (by
          obtain ⟨a1, a2, a3, a4, a5, a6, a7⟩ := hA.out
          refine ⟨TrAt.drew (by rw [HG.out]; exact a1.grow a2 (by omega) a3 hc26), a2.grow _ a3, by simp [Tr.grow], ?_, fun v => (a2.grow_acc _ HX.out v).trans (a5 v), (Tr.getD_grow a2.root).trans a6, a2.grow_deep _ a3 HX.out a4 a7 (by simp [lets]; omega)⟩
          rw [HS.out]
          exact Tr.Ok.grow_new _ HX.out a4)
        have HB : Hid (Below B W ((wq.setCell ⟨g, 2 + c, none⟩ (.pointer (some ⟨wq.heap.size, 0, none⟩))).alloc (.cells #[Value.bool false, Value.int .i64 0, Value.pointer none, Value.pointer none, Value.pointer none, Value.pointer none, Value.pointer none, Value.pointer none, Value.pointer none, Value.pointer none, Value.pointer none, Value.pointer none, Value.pointer none, Value.pointer none, Value.pointer none, Value.pointer none, Value.pointer none, Value.pointer none, Value.pointer none, Value.pointer none, Value.pointer none, Value.pointer none, Value.pointer none, Value.pointer none, Value.pointer none, Value.pointer none, Value.pointer none, Value.pointer none] 60)).drew) := Lib.hid (((hbl.setCell hBg _).alloc (by simp; omega) _).drew)
        have HP : Hid (Value.pointer (some ⟨wq.heap.size, 0, none⟩) = .pointer (some ⟨(T1.grow i c wq.heap.size).gs.getD T1.gs.length 0, 0, none⟩)) := Lib.hid (by rw [Tr.getD_new])
        clear hbl hA hblk HG HX HS
        go_wp2_with fail
        go_region
        go_wp2_with fail
        go_roundw
        case rel => exact ⟨k + 1, T1.gs.length, T1.grow i c wq.heap.size, by omega, by go_num, HP.out, HTA, HB.out⟩
        case measure => simp [intOf]; omega
      · rw [hx] at hcell
        have hcell2 : wq.cell? ⟨g, 2 + c, none⟩ = some (.pointer (some ⟨T1.gs.getD j 0, 0, none⟩)) := hcell
        have HTA : Hid (AddIn B T ((lets s.data.toList).take (k + 1)) wq.drew j T1) := Lib.hid (by
          obtain ⟨a1, a2, a3, a4, a5, a6, a7⟩ := hA.out
          refine ⟨a1.drew, a2, (a2.kid _ _ _ hx).2, ?_, a5, a6, a7⟩
          rw [HS.out, Tr.go_snoc, a4]
          exact hx)
        have HB : Hid (Below B W wq.drew) := Lib.hid hbl.drew
        clear hcell hx hbl hA hblk HG HS
        go_wp2_with fail
        go_region
        go_wp2_with fail
        go_roundw
        case rel => exact ⟨k + 1, j, T1, by omega, by go_num, rfl, HTA, HB.out⟩
        case measure => simp [intOf]; omega
    · obtain rfl : k = s.size := by omega
      have h0 := hblk.cell 0
      rw [T1.cells_0] at h0
      have h1 := hblk.cell 1
      rw [T1.cells_1] at h1
      have hf0 := hblk.frozen 0
      have hf1 := hblk.frozen 1
      have hlen : (lets s.data.toList).take s.size = lets s.data.toList := List.take_of_length_le (by simp [lets])
      have HC : Hid (T.acc (lets s.data.toList) = T1.en i) := Lib.hid (by
        obtain ⟨a1, a2, a3, a4, a5, a6, a7⟩ := hA.out
        rw [hlen] at a4
        rw [← a5]
        unfold Tr.acc
        rw [a4])
      rcases he : T1.en i with _ | e
      · rw [he] at h0
        have h0' : wq.cell? ⟨g, 0, none⟩ = some (.bool false) := h0
        have HTA : Hid (∃ T' : Tr, TrAt ((wq.setCell ⟨g, 0, none⟩ (.bool true)).setCell ⟨g, 1, none⟩ (.int .i64 (z : Int))) B T' ∧ T'.Ok ∧ T'.Deep 20 ∧ T'.gs.getD 0 0 = T.gs.getD 0 0 ∧ ∀ v, T'.acc v = if v = lets s.data.toList then some z else T.acc v) := Lib.hid (by
          obtain ⟨a1, a2, a3, a4, a5, a6, a7⟩ := hA.out
          rw [hlen] at a4
          refine ⟨T1.mark i z, by rw [HG.out]; exact a1.mark a3, a2.mark a3, Tr.mark_deep a7, a6, fun v => ?_⟩
          rw [a2.mark_acc a4 v, a5 v])
        have HN : Hid (T.acc (lets s.data.toList) = none) := Lib.hid (HC.out.trans he)
        have HB : Hid (Below B W ((wq.setCell ⟨g, 0, none⟩ (.bool true)).setCell ⟨g, 1, none⟩ (.int .i64 (z : Int)))) := Lib.hid ((hbl.setCell hBg _).setCell hBg _)
        clear h0 he hlen hbl hA hblk HG HC
        go_wp2_with fail
        go_ret
        exact ⟨HB.out, .inr ⟨HN.out, rfl, HTA.out⟩⟩
      · rw [he] at h0
        have h0' : wq.cell? ⟨g, 0, none⟩ = some (.bool true) := h0
        have HN : Hid (T.acc (lets s.data.toList) ≠ none) := Lib.hid (by rw [HC.out, he]; simp)
        clear h0 he hlen hA hblk HG HC
        go_wp2_with fail
        go_ret
        exact ⟨hbl, .inl ⟨HN.out, rfl⟩⟩
end Go.Proofs.Ytfmlmgebomapjab
