/-
  Contracts of ComposeOrders and InverseOrder, of the program and of the model: both return the same lists.
-/
import Derived.Test.YtlgoopjbjamlmaaOrd
namespace Go.Proofs.Ytlgoopjbjamlmaa
open Go.RowKit

/-- What a function leaves that returns a list of its own and whether there is one. -/
def Ret2 (zs : List Int) (ok : Bool) (w : World) (e : Ending) (w' : World) : Prop :=
  ∃ A c, e = .returned (.tuple #[.slice A zs.length c, .bool ok]) ∧ Own w.heap.size w' A zs.length c zs ∧ Below w.heap.size w w'
theorem ret2_none {w w' : World} (hb : Below w.heap.size w w') : Ret2 [] false w (.returned (.tuple #[.slice none 0 0, .bool false])) w' :=
  ⟨none, 0, rfl, ⟨⟨rfl, .inl ⟨rfl, rfl⟩⟩, by simp⟩, hb⟩
theorem cell_one (w : World) (x : Value) (t : TypeId) : ∀ j u, [x][j]? = some u → (w.alloc (.cells #[x] t)).cell? ((⟨w.heap.size, 0, none⟩ : Addr).add j) = some u := by
  intro j u hj
  match j, hj with
  | 0, hj => simp at hj; subst hj; simp [Addr.add]
  | j + 1, hj => simp at hj
theorem slice_of {w : World} {B n : Nat} {v : Value} {xs : List Value} (h : w.ownsRow B 2 1 v n xs) : ∃ A c, v = .slice A n c := by
  rcases h.2 with ⟨hv, hn⟩ | ⟨g, cap, cur, hv, _⟩
  · exact ⟨none, 0, by rw [hv, hn]⟩
  · exact ⟨_, _, hv⟩

theorem ord_mem {n : Int} : ∀ (r pre : List Int), ordGo n pre r = true → ∀ x ∈ r, 0 ≤ x ∧ x ≤ n - 1
  | [], _, _, x, hx => by cases hx
  | y :: r, pre, h, x, hx => by
    simp only [ordGo, Bool.and_eq_true] at h
    rcases List.mem_cons.1 hx with rfl | hx
    · exact inB_true.1 h.1.1
    · exact ord_mem r _ h.2 x hx
theorem isOrd_mem {zs : List Int} (h : isOrd zs = true) : ∀ x ∈ zs, 0 ≤ x ∧ x ≤ (zs.length : Int) - 1 := by
  simp only [isOrd, Bool.and_eq_true] at h
  exact ord_mem zs [] h.2
theorem isOrd_le {zs : List Int} (h : isOrd zs = true) : 1 ≤ zs.length ∧ zs.length ≤ 36 := by
  simp only [isOrd, Bool.and_eq_true, decide_eq_true_eq] at h
  exact h.1

def compV (zs ys : List Int) : List Int := ys.map fun y => zs.getD y.toNat 0
theorem compV_len (zs ys : List Int) : (compV zs ys).length = ys.length := by simp [compV]
theorem compV_at {zs ys : List Int} {k : Nat} {y v : Int} (hy : ys[k]? = some y) (hv : zs[y.toNat]? = some v) : (compV zs ys)[k]? = some v := by
  simp [compV, hy, List.getD, hv]
theorem compV_wf {zs ys : List Int} (h : ∀ z ∈ zs, (Lit.int .i64 z).wf = true) : ∀ z ∈ compV zs ys, (Lit.int .i64 z).wf = true := by
  intro z hz
  simp only [compV, List.mem_map] at hz
  obtain ⟨y, _, rfl⟩ := hz
  by_cases hy : y.toNat < zs.length
  · simp only [List.getD, List.getElem?_eq_getElem hy, Option.getD_some]
    exact h _ (List.getElem_mem _)
  · simp only [List.getD, List.getElem?_eq_none (by omega : zs.length ≤ y.toNat), Option.getD_none]
    decide

set_option maxHeartbeats 1000000 in
theorem after_any (A1 A2 : Option Addr) (n1 n c1 c2 : Nat) (zs ys : List Int) (w : World) (h1 : Row .i64 w A1 n1 zs) (h2 : Row .i64 w A2 n ys) (hn : n ≤ 36) (hm : ∀ y ∈ ys, 0 ≤ y ∧ y ≤ (n1 : Int) - 1) :
    Calls Try.prog 41 #[.slice A1 n1 c1, .slice A2 n c2] w (Made w.heap.size n (compV zs ys) w) := by
  have hle1 := h1.le
  have hlc : (compV zs ys).length = n := by rw [compV_len, h2.len]
  obtain ⟨i0, hi, hz0, hz1, hz2⟩ := info_parts info64
  go_enter Try.func41, Try.ntmps41
  go_wp2_with (refine wpList_make_full _ rfl _ _ 51 rfl w.heap.size 2 i0 (.int .i64 0) 1 Try.underlying51 hi hz0 hz1 .i64 .i64 n n n rfl rfl rfl rfl ?c1 ?c2 (Nat.le_refl _) ?_)
  case c1 => rw [hz2]; omega
  case c2 => unfold maxLen; omega
  intro w1 hown hg
  have hbel : Below w.heap.size w w1 := (Below.refl _ w).grown hg (Nat.le_refl _) (fun k hk => by cases hk)
  have hown0 : w1.ownsRow w.heap.size 2 1 (.slice (some ⟨w.heap.size, 0, none⟩) n n) n (cells64 ((compV zs ys).take 0 ++ List.replicate (n - 0) 0)) := by
    have e : cells64 ((compV zs ys).take 0 ++ List.replicate (n - 0) 0) = (madeCells #[Value.int .i64 0] n).toList := by
      simp [cells64, toList_madeCells_one]
    rw [e]; exact hown
  clear hown hg
  go_wp2
  go_loopw [6, 7, 13] (fun _ _ i wr => ∃ k : Nat, k ≤ n ∧ i = .int .i64 k ∧ wr.ownsRow w.heap.size 2 1 (.slice (some ⟨w.heap.size, 0, none⟩) n n) n (cells64 ((compV zs ys).take k ++ List.replicate (n - k) 0)) ∧ Below w.heap.size w wr) (fun _ _ i _ => n - (intOf i).toNat)
  case atStart => exact ⟨0, by omega, rfl, hown0, hbel⟩
  case round =>
    obtain ⟨k, hk, rfl, ho, hb⟩ := hrel
    by_cases hlt : k < n
    · obtain ⟨b2, o2, y, rfl, _, hy, hc2, _⟩ := (RowB.below h2 hb).at_ hlt
      have hyb := hm y (List.mem_of_getElem? hy)
      obtain ⟨j, rfl⟩ := Int.eq_ofNat_of_zero_le hyb.1
      obtain ⟨b1, o1, v, rfl, _, hv, hc1, _⟩ := (RowB.below h1 hb).at_ (show j < n1 by omega)
      have HV := Lib.hid (compV_at (zs := zs) (k := k) hy (show zs[((j : Int)).toNat]? = some v by simpa using hv))
      have hcA : wr.cell? ⟨w.heap.size, k, none⟩ = (cells64 ((compV zs ys).take k ++ List.replicate (n - k) 0))[k]? := ho.cellAt k (by omega)
      have hcB : (cells64 ((compV zs ys).take k ++ List.replicate (n - k) 0))[k]? = some (.int .i64 0) := by
        simp only [cells64, List.getElem?_map]
        rw [List.getElem?_append_right (by simp; omega)]
        simp [hlc, List.getElem?_replicate]
        omega
      have hcell := hcA.trans hcB
      have hfr := ho.frozenAt k
      have hst := ho.stored k (.int .i64 v)
      clear hcA hcB hy hv
      go_wp2
      go_roundw
      case rel =>
        refine ⟨k + 1, by omega, by go_num, ?_, hb.setCell (Nat.le_refl _) _⟩
        have e : (cells64 ((compV zs ys).take k ++ List.replicate (n - k) 0)).set k (.int .i64 v) = cells64 ((compV zs ys).take (k + 1) ++ List.replicate (n - (k + 1)) 0) := by
          rw [cells64, ← List.map_set, set_take hlc hlt HV.out]
        rw [← e]; exact hst.1
      case measure => simp [intOf]; omega
    · obtain rfl : k = n := by omega
      go_wp2
      go_ret
      refine ⟨_, _, rfl, ⟨?_, compV_wf h1.2.2.1⟩, hb⟩
      have e : (compV zs ys).take k ++ List.replicate (k - k) 0 = compV zs ys := by
        rw [List.take_of_length_le (by omega)]; simp
      rw [e] at ho; exact ho


/-! The inverse of an order, number by number. -/
def invPut (f : List Int) (out : List Int) (i : Nat) : List Int := out.set (f.getD i 0).toNat (i : Int)
def invPart (f : List Int) (k : Nat) : List Int := (List.range k).foldl (invPut f) (List.replicate f.length 0)
def invL (f : List Int) : List Int := invPart f f.length
theorem invPart_next (f : List Int) (k : Nat) : invPart f (k + 1) = invPut f (invPart f k) k := by
  simp [invPart, List.range_succ]
theorem invPart_len (f : List Int) : ∀ k, (invPart f k).length = f.length
  | 0 => by simp [invPart]
  | k + 1 => by rw [invPart_next, invPut, List.length_set]; exact invPart_len f k
theorem invPart_bd (f : List Int) : ∀ k, ∀ z ∈ invPart f k, 0 ≤ z ∧ z ≤ k
  | 0 => by
    intro z hz
    simp only [invPart, List.range_zero, List.foldl_nil, List.mem_replicate] at hz
    omega
  | k + 1 => by
    intro z hz
    rw [invPart_next, invPut] at hz
    rcases List.mem_or_eq_of_mem_set hz with h | h
    · have := invPart_bd f k z h; omega
    · omega
theorem invL_wf {f : List Int} (h : f.length ≤ 1000000) : ∀ z ∈ invL f, (Lit.int .i64 z).wf = true := by
  intro z hz
  have := invPart_bd f _ z hz
  exact WalkArith.wf_i64 (by omega)

set_option maxHeartbeats 1000000 in
theorem inverse_any (A : Option Addr) (n c : Nat) (ys : List Int) (w : World) (h2 : Row .i64 w A n ys) (hn : n ≤ 36) (hm : ∀ y ∈ ys, 0 ≤ y ∧ y ≤ (n : Int) - 1) :
    Calls Try.prog 40 #[.slice A n c] w (Made w.heap.size n (invL ys) w) := by
  have hl := h2.len
  obtain ⟨i0, hi, hz0, hz1, hz2⟩ := info_parts info64
  go_enter Try.func40, Try.ntmps40
  go_wp2_with (refine wpList_make_full _ rfl _ _ 51 rfl w.heap.size 2 i0 (.int .i64 0) 1 Try.underlying51 hi hz0 hz1 .i64 .i64 n n n rfl rfl rfl rfl ?c1 ?c2 (Nat.le_refl _) ?_)
  case c1 => rw [hz2]; omega
  case c2 => unfold maxLen; omega
  intro w1 hown hg
  have hbel : Below w.heap.size w w1 := (Below.refl _ w).grown hg (Nat.le_refl _) (fun k hk => by cases hk)
  have hown0 : w1.ownsRow w.heap.size 2 1 (.slice (some ⟨w.heap.size, 0, none⟩) n n) n (cells64 (invPart ys 0)) := by
    have e : cells64 (invPart ys 0) = (madeCells #[Value.int .i64 0] n).toList := by
      simp [cells64, invPart, toList_madeCells_one, hl]
    rw [e]; exact hown
  clear hown hg
  go_wp2
  go_loopw [4, 5, 11] (fun _ _ i wr => ∃ k : Nat, k ≤ n ∧ i = .int .i64 k ∧ wr.ownsRow w.heap.size 2 1 (.slice (some ⟨w.heap.size, 0, none⟩) n n) n (cells64 (invPart ys k)) ∧ Below w.heap.size w wr) (fun _ _ i _ => n - (intOf i).toNat)
  case atStart => exact ⟨0, by omega, rfl, hown0, hbel⟩
  case round =>
    obtain ⟨k, hk, rfl, ho, hb⟩ := hrel
    by_cases hlt : k < n
    · obtain ⟨b2, o2, y, rfl, _, hy, hc2, _⟩ := (RowB.below h2 hb).at_ hlt
      have hyb := hm y (List.mem_of_getElem? hy)
      obtain ⟨j, rfl⟩ := Int.eq_ofNat_of_zero_le hyb.1
      have HV : Hid (cells64 (invPart ys (k + 1)) = (cells64 (invPart ys k)).set j (.int .i64 (k : Int))) := Lib.hid (by
        rw [invPart_next, invPut, cells64, List.map_set]
        simp [List.getD, hy])
      have hcell : ∃ u, wr.cell? ⟨w.heap.size, j, none⟩ = some u := by
        have hc2 := ho.cellAt j (by omega)
        refine ⟨_, hc2.trans (List.getElem?_eq_getElem (by have := invPart_len ys k; simp; omega))⟩
      obtain ⟨u, hu⟩ := hcell
      have hfr := ho.frozenAt j
      have hst := ho.stored j (.int .i64 (k : Int))
      clear hy
      go_wp2
      go_roundw
      case rel => exact ⟨k + 1, by omega, by go_num, by rw [HV.out]; exact hst.1, hb.setCell (Nat.le_refl _) _⟩
      case measure => simp [intOf]; omega
    · obtain rfl : k = n := by omega
      go_wp2
      go_ret
      have e : invL ys = invPart ys k := by rw [invL, hl]
      exact ⟨_, _, rfl, ⟨by rw [e]; exact ho, invL_wf (by omega)⟩, hb⟩

theorem ret2_some {w w' : World} {A : Option Addr} {n c : Nat} {zs : List Int} (hn : zs.length = n) (ho : Own w.heap.size w' A n c zs) (hb : Below w.heap.size w w') : Ret2 zs true w (.returned (.tuple #[.slice A n c, .bool true])) w' := by
  subst hn; exact ⟨A, c, rfl, ho, hb⟩

/-! ### ComposeOrders, InverseOrder -/
def compOk (zs ys : List Int) : Bool := (isOrd zs && isOrd ys) && decide (zs.length = ys.length)
def compR (zs ys : List Int) : List Int := if compOk zs ys = true then compV zs ys else []
def invR2 (zs : List Int) : List Int := if isOrd zs = true then invL zs else []
theorem comp_none {zs ys : List Int} {w w' : World} (h : compOk zs ys = false) (hb : Below w.heap.size w w') : Ret2 (compR zs ys) (compOk zs ys) w (.returned (.tuple #[.slice none 0 0, .bool false])) w' := by
  have e : compR zs ys = [] := by simp [compR, h]
  rw [e, h]; exact ret2_none hb
theorem inv_none {zs : List Int} {w w' : World} (h : isOrd zs = false) (hb : Below w.heap.size w w') : Ret2 (invR2 zs) (isOrd zs) w (.returned (.tuple #[.slice none 0 0, .bool false])) w' := by
  have e : invR2 zs = [] := by simp [invR2, h]
  rw [e, h]; exact ret2_none hb

set_option maxHeartbeats 1000000 in
theorem implInverse2_any (A : Option Addr) (n c : Nat) (zs : List Int) (w : World) (h : Row .i64 w A n zs) :
    Calls Try.prog 18 #[.slice A n c] w (Ret2 (invR2 zs) (isOrd zs) w) := by
  rcases ho : isOrd zs with _ | _
  · have HO := Lib.hid ho
    have C : Calls Try.prog 22 #[.slice A n c] w fun e w' => e = .returned (.bool false) ∧ Below w.heap.size w w' := ho ▸ implIsOrder_any A n c zs w h
    clear ho
    go_enter Try.func18, Try.ntmps18
    go_wp2_with (go_at_call 22; (with_reducible refine (C).mono ?_); rintro e w' ⟨rfl, hb⟩)
    go_ret2
    have := inv_none HO.out hb
    rw [HO.out] at this
    exact this
  · have HO := Lib.hid ho
    have hl := h.len
    have hle := isOrd_le ho
    have hm := isOrd_mem ho
    rw [hl] at hle hm
    have HL := Lib.hid hl
    have C : Calls Try.prog 22 #[.slice A n c] w fun e w' => e = .returned (.bool true) ∧ Below w.heap.size w w' := ho ▸ implIsOrder_any A n c zs w h
    clear ho hl
    go_enter Try.func18, Try.ntmps18
    go_wp2_with fail
    (go_at_call 22; (with_reducible refine (C).mono ?_); rintro e w1 ⟨rfl, b1⟩)
    go_wp2_with fail
    have s1 := b1.size
    (go_at_call 40; (with_reducible refine (inverse_any _ _ _ _ _ ((RowB.below h b1).up s1) hle.2 hm).mono ?_); rintro e w2 ⟨A2, c2, rfl, o2, b2⟩)
    go_wp2_with fail
    go_ret2
    have e : invR2 zs = invL zs := by simp [invR2, HO.out]
    rw [e]
    exact ret2_some (by rw [invL, invPart_len, HL.out]) (o2.lower s1) (b1.trans (b2.mono s1))
theorem invR2_le (zs : List Int) : (invR2 zs).length ≤ 36 := by
  unfold invR2
  split
  · next h => rw [invL, invPart_len]; exact (isOrd_le h).2
  · simp
theorem compR_le (zs ys : List Int) : (compR zs ys).length ≤ 36 := by
  unfold compR
  split
  · next h =>
    rw [compV_len]
    simp only [compOk, Bool.and_eq_true] at h
    exact (isOrd_le h.1.2).2
  · simp
theorem comp_some {zs ys : List Int} {w w' : World} {A : Option Addr} {n c : Nat} (h : compOk zs ys = true) (hn : ys.length = n) (ho : Own w.heap.size w' A n c (compV zs ys)) (hb : Below w.heap.size w w') :
    Ret2 (compR zs ys) (compOk zs ys) w (.returned (.tuple #[.slice A n c, .bool true])) w' := by
  have e : compR zs ys = compV zs ys := by simp [compR, h]
  rw [e, h]
  exact ret2_some (by rw [compV_len, hn]) ho hb
set_option maxHeartbeats 2000000 in
theorem implCompose_any (A1 A2 : Option Addr) (n1 n2 c1 c2 : Nat) (zs ys : List Int) (w : World) (h1 : Row .i64 w A1 n1 zs) (h2 : Row .i64 w A2 n2 ys) :
    Calls Try.prog 19 #[.slice A1 n1 c1, .slice A2 n2 c2] w (Ret2 (compR zs ys) (compOk zs ys) w) := by
  have HL1 := Lib.hid h1.len
  have HL2 := Lib.hid h2.len
  have hle1 := h1.le
  have hle2 := h2.le
  by_cases hn : n1 = n2
  · subst hn
    rcases ho1 : isOrd zs with _ | _
    · have HO : Hid (compOk zs ys = false) := Lib.hid (by simp [compOk, ho1])
      have C1 : ∀ W, Row .i64 W A1 n1 zs → Calls Try.prog 22 #[.slice A1 n1 c1] W fun e w' => e = .returned (.bool false) ∧ Below W.heap.size W w' := fun W hW => ho1 ▸ implIsOrder_any A1 n1 c1 zs W hW
      clear ho1
      go_enter Try.func19, Try.ntmps19
      go_wp2_with fail
      (go_at_call 22; (with_reducible refine (C1 _ h1).mono ?_); rintro e w1 ⟨rfl, b1⟩)
      go_wp2_with fail
      go_ret2
      exact comp_none HO.out b1
    · have C1 : ∀ W, Row .i64 W A1 n1 zs → Calls Try.prog 22 #[.slice A1 n1 c1] W fun e w' => e = .returned (.bool true) ∧ Below W.heap.size W w' := fun W hW => ho1 ▸ implIsOrder_any A1 n1 c1 zs W hW
      rcases ho2 : isOrd ys with _ | _
      · have HO : Hid (compOk zs ys = false) := Lib.hid (by simp [compOk, ho2])
        have C2 : ∀ W, Row .i64 W A2 n1 ys → Calls Try.prog 22 #[.slice A2 n1 c2] W fun e w' => e = .returned (.bool false) ∧ Below W.heap.size W w' := fun W hW => ho2 ▸ implIsOrder_any A2 n1 c2 ys W hW
        clear ho1 ho2
        go_enter Try.func19, Try.ntmps19
        go_wp2_with fail
        (go_at_call 22; (with_reducible refine (C1 _ h1).mono ?_); rintro e w1 ⟨rfl, b1⟩)
        go_wp2_with fail
        have s1 := b1.size
        (go_at_call 22; (with_reducible refine (C2 _ ((RowB.below h2 b1).up s1)).mono ?_); rintro e w2 ⟨rfl, b2⟩)
        go_wp2_with fail
        go_ret2
        exact comp_none HO.out (b1.trans (b2.mono s1))
      · have HO : Hid (compOk zs ys = true) := Lib.hid (by simp [compOk, ho1, ho2, HL1.out, HL2.out])
        have C2 : ∀ W, Row .i64 W A2 n1 ys → Calls Try.prog 22 #[.slice A2 n1 c2] W fun e w' => e = .returned (.bool true) ∧ Below W.heap.size W w' := fun W hW => ho2 ▸ implIsOrder_any A2 n1 c2 ys W hW
        have hle := (isOrd_le ho2).2
        have hm := isOrd_mem ho2
        rw [HL2.out] at hle hm
        clear ho1 ho2
        go_enter Try.func19, Try.ntmps19
        go_wp2_with fail
        (go_at_call 22; (with_reducible refine (C1 _ h1).mono ?_); rintro e w1 ⟨rfl, b1⟩)
        go_wp2_with fail
        have s1 := b1.size
        (go_at_call 22; (with_reducible refine (C2 _ ((RowB.below h2 b1).up s1)).mono ?_); rintro e w2 ⟨rfl, b2⟩)
        go_wp2_with fail
        have b12 := b1.trans (b2.mono s1)
        have s2 := b12.size
        (go_at_call 41; (with_reducible refine (after_any _ _ _ _ _ _ _ _ _ ((RowB.below h1 b12).up s2) ((RowB.below h2 b12).up s2) hle hm).mono ?_); rintro e w3 ⟨A3, c3, rfl, o3, b3⟩)
        go_wp2_with fail
        go_ret2
        exact comp_some HO.out HL2.out (o3.lower s2) (b12.trans (b3.mono s2))
  · have HO : Hid (compOk zs ys = false) := Lib.hid (by simp [compOk, HL1.out, HL2.out, hn])
    have t1 : (n1 == n2) = false := by simp [hn]
    have t2 : (n1 != n2) = true := by simp [hn]
    have t3 : ((n1 : Int) == (n2 : Int)) = false := by simp; omega
    have t4 : ((n1 : Int) != (n2 : Int)) = true := by simp; omega
    go_enter Try.func19, Try.ntmps19
    go_wp2_with fail
    go_ret2
    exact comp_none HO.out (Below.refl _ _)
end Go.Proofs.Ytlgoopjbjamlmaa
