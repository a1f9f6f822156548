/-
  Drawn orders: each number from 0 on once.
-/
import Derived.Test.YtlgoopjbjamlmaaDraw
import Derived.Test.YtlgoopjbjamlmaaOrdMath
namespace Go.Proofs.Ytlgoopjbjamlmaa
open Go.RowKit

/-- Each number from 0 to n - 1 once. -/
def PermL (n : Nat) (zs : List Int) : Prop :=
  zs.length = n ∧ (∀ z ∈ zs, 0 ≤ z ∧ z < (n : Int)) ∧ ∀ (a b : Nat) (x : Int), zs[a]? = some x → zs[b]? = some x → a = b
def upTo (n : Nat) : List Int := (List.range n).map Int.ofNat
theorem upTo_next (n : Nat) : upTo (n + 1) = upTo n ++ [(n : Int)] := by simp [upTo, List.range_succ]
theorem upTo_perm (n : Nat) : PermL n (upTo n) := by
  refine ⟨by simp [upTo], fun z hz => ?_, fun a b x ha hb => ?_⟩
  · simp only [upTo, List.mem_map, List.mem_range] at hz
    obtain ⟨k, hk, rfl⟩ := hz
    simp; omega
  · simp only [upTo, List.getElem?_map] at ha hb
    obtain ⟨u, hu, rfl⟩ := Option.map_eq_some_iff.1 ha
    obtain ⟨v, hv, e⟩ := Option.map_eq_some_iff.1 hb
    obtain ⟨h1, rfl⟩ := List.getElem?_eq_some_iff.1 hu
    obtain ⟨h2, rfl⟩ := List.getElem?_eq_some_iff.1 hv
    simp at e
    omega
def swapI (i k j : Nat) : Nat := if j = k then i else if j = i then k else j
theorem swap_at {zs : List Int} {i k : Nat} {x y : Int} (hx : zs[i]? = some x) (hy : zs[k]? = some y) (j : Nat) : ((zs.set i y).set k x)[j]? = zs[swapI i k j]? := by
  have hi := (List.getElem?_eq_some_iff.1 hx).1
  have hk := (List.getElem?_eq_some_iff.1 hy).1
  unfold swapI
  by_cases h1 : j = k
  · subst h1
    rw [if_pos rfl, List.getElem?_set_self (by simpa using hk), hx]
  · rw [if_neg h1, List.getElem?_set_ne (fun e => h1 e.symm)]
    by_cases h2 : j = i
    · subst h2
      rw [if_pos rfl, List.getElem?_set_self hi, hy]
    · rw [if_neg h2, List.getElem?_set_ne (fun e => h2 e.symm)]
theorem swap_perm {n : Nat} {zs : List Int} (h : PermL n zs) {i k : Nat} {x y : Int} (hx : zs[i]? = some x) (hy : zs[k]? = some y) : PermL n ((zs.set i y).set k x) := by
  refine ⟨by simp [h.1], fun z hz => ?_, fun a b v ha hb => ?_⟩
  · obtain ⟨j, hj, e⟩ := List.getElem_of_mem hz
    have h1 : ((zs.set i y).set k x)[j]? = some z := by rw [List.getElem?_eq_getElem hj, e]
    rw [swap_at hx hy] at h1
    exact h.2.1 z (List.mem_of_getElem? h1)
  · rw [swap_at hx hy] at ha hb
    have := h.2.2 _ _ _ ha hb
    unfold swapI at this
    split at this <;> split at this <;> (try split at this) <;> (try split at this) <;> omega
theorem perm_ord {n : Nat} {zs : List Int} (h : PermL n zs) (h1 : 1 ≤ n) (h2 : n ≤ 36) : isOrd zs = true :=
  isOrd_of (by rw [h.1]; exact ⟨h1, h2⟩) (by rw [h.1]; exact h.2.1) (nodup_of_inj h.2.2)
theorem perm_wf {n : Nat} {zs : List Int} (h : PermL n zs) (hn : n ≤ 1000000) : ∀ z ∈ zs, (Lit.int .i64 z).wf = true := fun z hz => by
  have := h.2.1 z hz
  exact WalkArith.wf_i64 (by omega)
def DrawnOrd (n g : Nat) (A : Option Addr) (nA c k : Nat) (w : World) (e : Ending) (w' : World) : Prop :=
  ∃ L cc zs, e = .returned (.slice L n cc) ∧ Own w.heap.size w' L n cc zs ∧ PermL n zs ∧ SrcAt w' g A nA c k ∧ Bar w.heap.size g w w'
set_option maxRecDepth 100000 in
set_option maxHeartbeats 2000000 in
theorem drawOrder_any {B : Nat} (g : Nat) (A : Option Addr) (nA c k n : Nat) (zs : List Int) (w : World) (h : RowB .u8 B w A nA zs) (hB : B ≤ g) (hs : SrcAt w g A nA c k) (hk : k ≤ 10000) (hn1 : 1 ≤ n) (hn : n ≤ 10000) :
    Calls Try.prog 39 #[.pointer (some ⟨g, 0, none⟩), .int .i64 n] w (DrawnOrd n g A nA c (k + 2 * n) w) := by
  obtain ⟨i0, hi, hz0, hz1, hz2⟩ := info_parts info64
  go_enter Try.func39, Try.ntmps39
  go_wp2
  have hgw := hs.lt
  go_loopw [5, 6] (fun v i wr => ∃ (j : Nat), j ≤ n ∧ i = .int .i64 (j : Int) ∧ wr.ownsRow w.heap.size 2 1 v j (cells64 (upTo j)) ∧ SrcAt wr g A nA c k ∧ Bar w.heap.size g w wr) (fun _ i _ => n - (intOf i).toNat)
  case atStart => exact ⟨0, by omega, by go_num, World.ownsRow_made _ _ _ (Nat.le_refl _) (by unfold maxLen; omega) rfl, hs.keep (Below.heap_alloc _ _ _ hgw), below_bar ((Below.refl _ w).alloc (Nat.le_refl _) _) g⟩
  case round =>
    obtain ⟨j, hj, rfl, ho, hsj, hb⟩ := hrel
    have hgr := hsj.lt
    have hbs := hb.size
    by_cases hlt : j < n
    · go_wp2_with (at_builtin; refine wpList_append_own _ rfl _ _ 28 rfl w.heap.size 2 i0 (.int .i64 0) 1 8 Try.underlying28 hi hz0 hz1 hz2 rfl (by decide) _ _ _ rfl (ho.alloc _) ⟨wr.heap.size, 0, none⟩ 1 1 [.int .i64 j] rfl rfl (cell_one _ _ _) (fun u hu => by simp at hu; subst hu; rfl) ?c1 ?c2 ?c3 ?_)
      case c1 => unfold maxLen; omega
      case c2 => omega
      case c3 => simp; omega
      intro v3 w3 ho3 hg3 _
      have hbw3 : Bar w.heap.size g w w3 := hb.trans (below_bar (Below.grown ((Below.refl w.heap.size wr).alloc (by omega) _) hg3 (by simp; omega) (fun j hj => (ho.lt j hj).1)) g)
      have hs3 : SrcAt w3 g A nA c k := by
        have e : w3.heap[g]? = wr.heap[g]? := by
          rw [hg3.block g (by simp; omega) (fun e => by have := (ho.lt g e.symm).1; omega), Below.heap_alloc _ _ _ (by omega)]
        exact hsj.keep e
      have e3 : cells64 (upTo j) ++ [Value.int .i64 j] = cells64 (upTo (j + 1)) := by simp [cells64, upTo_next]
      rw [e3] at ho3
      have X : Hid (w3.ownsRow w.heap.size 2 1 v3 (j + 1) (cells64 (upTo (j + 1))) ∧ SrcAt w3 g A nA c k ∧ Bar w.heap.size g w w3) := Lib.hid ⟨ho3, hs3, hbw3⟩
      clear ho3 hbw3 e3 hg3 hs3
      go_wp2
      go_roundw
      case rel => exact ⟨j + 1, by omega, by go_num, X.out.1, X.out.2.1, X.out.2.2⟩
      case measure => simp [intOf]; omega
    · obtain rfl : j = n := by omega
      have hv : ∃ A c, u5 = .slice A j c := slice_of ho
      obtain ⟨L, cc, rfl⟩ := hv
      have hP := upTo_perm j
      obtain ⟨ys, hys⟩ : ∃ ys, ys = upTo j := ⟨_, rfl⟩
      rw [← hys] at ho hP
      clear hys
      obtain ⟨W0, hW0⟩ : ∃ W0, W0 = wr := ⟨_, rfl⟩
      go_wp2
      go_loopw [7, 8, 9] (fun i _ _ wr => ∃ (q : Nat) (ys : List Int), q < j ∧ i = .int .i64 (q : Int) ∧ wr.ownsRow w.heap.size 2 1 (.slice L j cc) j (cells64 ys) ∧ Hid (PermL j ys) ∧ SrcAt wr g A nA c (k + 2 * (j - 1 - q)) ∧ Bar w.heap.size g w wr) (fun i _ _ _ => (intOf i).toNat)
      case atStart => exact ⟨j - 1, ys, by omega, by go_num, ho, Lib.hid hP, hsj.mono (by omega), hb⟩
      case round =>
        obtain ⟨q, ys, hq, rfl, ho, hP, hsj, hb⟩ := hrel
        have hgr := hsj.lt
        have hbs := hb.size
        by_cases hq0 : 0 < q
        · go_wp2_with fail
          (go_at_call 55; (with_reducible refine (pick_any g A nA c (k + 2 * (j - 1 - q)) ((q : Int) + 1) zs wr (h.below (hb.below (B' := B) (by omega) hB)) hB hsj (by omega)).mono ?_); rintro e w1 ⟨x, rfl, hx0, hx1, hs1, ho1⟩)
          obtain ⟨p, rfl⟩ := Int.eq_ofNat_of_zero_le hx0
          have hpq : p ≤ q := by omega
          have ho2 : w1.ownsRow w.heap.size 2 1 (.slice L j cc) j (cells64 ys) := by
            rcases ho.2 with hn | ⟨g', cap, cur, hv, hb', hg', rest⟩
            · exact ⟨ho.1, .inl hn⟩
            · exact ⟨ho.1, .inr ⟨g', cap, cur, hv, hb', (ho1.block g' (fun e => by injection e with e; injection e with e; omega)).trans hg', rest⟩⟩
          have hb1 := hb.trans (ho1.bar w.heap.size)
          obtain ⟨gL, rfl, hgL⟩ : ∃ gL, L = some ⟨gL, 0, none⟩ ∧ w.heap.size ≤ gL := by
            rcases ownsRow_form ho2 with ⟨_, h0, _⟩ | ⟨gL, hA, hgL, _⟩
            · omega
            · exact ⟨gL, hA, hgL⟩
          have hyl := hP.out.1
          have hxq : ys[q]? = some (ys[q]'(by omega)) := List.getElem?_eq_getElem (by omega)
          have hxp : ys[p]? = some (ys[p]'(by omega)) := List.getElem?_eq_getElem (by omega)
          obtain ⟨a, ha⟩ : ∃ a, a = ys[q]'(by omega) := ⟨_, rfl⟩
          obtain ⟨b, hb2⟩ : ∃ b, b = ys[p]'(by omega) := ⟨_, rfl⟩
          rw [← ha] at hxq
          rw [← hb2] at hxp
          have c1 : w1.cell? ⟨gL, q, none⟩ = some (.int .i64 a) := by
            have := ho2.cellAt q (by omega)
            rw [this]; simp [hxq]
          have c2 : w1.cell? ⟨gL, p, none⟩ = some (.int .i64 b) := by
            have := ho2.cellAt p (by omega)
            rw [this]; simp [hxp]
          have f1 := ho2.frozenAt q
          have f2 := ho2.frozenAt p
          have st1 := (ho2.stored q (.int .i64 b)).1
          have st2 := (st1.stored p (.int .i64 a)).1
          have f3 := st1.frozenAt p
          have c3 : ∃ u, (w1.setCell ⟨gL, q, none⟩ (.int .i64 b)).cell? ⟨gL, p, none⟩ = some u := by
            have hc2 := st1.cellAt p (by omega)
            refine ⟨_, hc2.trans (List.getElem?_eq_getElem (by simp; omega))⟩
          obtain ⟨u3, c3⟩ := c3
          have HX : Hid (PermL j ((ys.set q b).set p a)) := Lib.hid (swap_perm hP.out hxq hxp)
          have eX : ((cells64 ys).set q (.int .i64 b)).set p (.int .i64 a) = cells64 ((ys.set q b).set p a) := by simp [cells64, List.map_set]
          rw [eX] at st2
          have HS := Lib.hid st2
          have HB := Lib.hid hb1
          have HQ := Lib.hid hs1
          clear st1 st2 eX hxq hxp ha hb2 hb1 hs1 ho1 ho2 ho hb
          go_wp2
          go_roundw
          case rel => 
            refine ⟨q - 1, _, by omega, by go_num, HS.out, HX, ?_, ?_⟩
            · refine SrcAt.mono (SrcAt.keep HQ.out ?_) (by omega)
              rw [Below.heap_setCell _ _ _ _ (by simp; omega), Below.heap_setCell _ _ _ _ (by simp; omega)]
            · exact ⟨HB.out.os, HB.out.tape, HB.out.output, by simpa [World.setCell] using HB.out.size, fun kk hkk hkg => by
                rw [Below.heap_setCell _ _ _ _ (by simp; omega), Below.heap_setCell _ _ _ _ (by simp; omega)]
                exact HB.out.block kk hkk hkg⟩
          case measure => simp [intOf]; omega
        · obtain rfl : q = 0 := by omega
          go_wp2
          go_ret
          exact ⟨_, _, ys, rfl, ⟨ho, perm_wf hP.out (by omega)⟩, hP.out, hsj.mono (by omega), hb⟩
/-- A drawn order. -/
def Ordered (n : Nat) (w : World) (e : Ending) (w' : World) : Prop :=
  ∃ L cc zs, e = .returned (.slice L n cc) ∧ Own w.heap.size w' L n cc zs ∧ PermL n zs ∧ Below w.heap.size w w'
set_option maxRecDepth 100000 in
set_option maxHeartbeats 1000000 in
theorem b10Order_any (A : Option Addr) (nA c n : Nat) (zs : List Int) (w : World) (h : Row .u8 w A nA zs) (hn1 : 1 ≤ n) (hn : n ≤ 10000) :
    Calls Try.prog 17 #[.slice A nA c, .int .i64 n] w (Ordered n w) := by
  go_enter Try.func17, Try.ntmps17
  go_wp2_with fail
  (go_at_call 38; (with_reducible refine (from_any A nA c w).mono ?_); rintro e w1 ⟨rfl, hs, hb, hsz⟩)
  have hs1 := hb.size
  go_wp2_with fail
  (go_at_call 39; (with_reducible refine (drawOrder_any _ A nA c 0 n zs w1 (RowB.below h hb) (Nat.le_refl _) hs (by omega) hn1 hn).mono ?_); rintro e w4 ⟨L, cc, ys, rfl, ho, hz, hs4, hb4⟩)
  go_wp2_with fail
  go_ret
  exact ⟨L, cc, ys, rfl, ho.lower hs1, hz, hb.trans (hb4.below hs1 (Nat.le_refl _))⟩
end Go.Proofs.Ytlgoopjbjamlmaa
