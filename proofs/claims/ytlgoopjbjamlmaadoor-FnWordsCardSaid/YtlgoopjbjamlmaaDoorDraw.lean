/-
  Drawn digits: a base, and some digits below it.
-/
import Derived.Test.YtlgoopjbjamlmaaDoorSrc
namespace Go.Proofs.YtlgoopjbjamlmaaDoor
open Go.RowKit

def From (A : Option Addr) (n c : Nat) (w : World) (e : Ending) (w' : World) : Prop :=
  e = .returned (.pointer (some ⟨w.heap.size, 0, none⟩)) ∧ SrcAt w' w.heap.size A n c 0 ∧ Below w.heap.size w w' ∧ w'.heap.size = w.heap.size + 1
set_option maxRecDepth 100000 in
set_option maxHeartbeats 1000000 in
theorem from_any (A : Option Addr) (n c : Nat) (w : World) :
    Calls Tryd.prog 23 #[.slice A n c] w (From A n c w) := by
  go_enter Tryd.func23, Tryd.ntmps23
  go_wp2
  go_ret
  refine ⟨rfl, ⟨0, 0, heap_alloc_new w _, by omega, by omega, by omega⟩, (Below.refl _ w).alloc (Nat.le_refl _) _, by simp only [World.alloc, Array.size_push]⟩
theorem own_lit (w : World) (cs : Array Value) (zs : List Int) (n : Nat) (hz : cs.toList = cells64 zs) (hn : zs.length = n) (hm : n ≤ maxLen) (hw : ∀ z ∈ zs, (Lit.int .i64 z).wf = true) :
    Own w.heap.size (w.alloc (.cells cs 2)) (some ⟨w.heap.size, 0, none⟩) n n zs := by
  have h := World.ownsRow_lit (size := 1) (e := 2) w cs n (Nat.le_refl _) hm (by have := congrArg List.length hz; simp at this; omega)
  rw [hz] at h
  exact ⟨h, hw⟩
/-- Of what lies below block B only block g may have turned. -/
structure Bar (B g : Nat) (w w' : World) : Prop where
  os : w'.os = w.os
  tape : w'.tape = w.tape
  output : w'.output = w.output
  size : w.heap.size ≤ w'.heap.size
  block : ∀ k, k < B → k ≠ g → w'.heap[k]? = w.heap[k]?
theorem Bar.refl (B g : Nat) (w : World) : Bar B g w w := ⟨rfl, rfl, rfl, Nat.le_refl _, fun _ _ _ => rfl⟩
theorem Bar.trans {B g : Nat} {a b c : World} (h : Bar B g a b) (k : Bar B g b c) : Bar B g a c :=
  ⟨k.os.trans h.os, k.tape.trans h.tape, k.output.trans h.output, Nat.le_trans h.size k.size, fun i hi hg => (k.block i hi hg).trans (h.block i hi hg)⟩
theorem Bar.mono {B B' g : Nat} {w w' : World} (h : Bar B g w w') (hB : B' ≤ B) : Bar B' g w w' := ⟨h.os, h.tape, h.output, h.size, fun k hk hg => h.block k (by omega) hg⟩
theorem Bar.below {B B' g : Nat} {w w' : World} (h : Bar B g w w') (hB : B' ≤ B) (hg : B' ≤ g) : Below B' w w' := ⟨h.os, h.tape, h.output, h.size, fun k hk => h.block k (by omega) (by omega)⟩
theorem Only.bar {g : Nat} {w w' : World} (h : Only (some ⟨g, 0, none⟩) w w') (B : Nat) : Bar B g w w' :=
  ⟨h.os, h.tape, h.output, by rw [h.size]; exact Nat.le_refl _, fun k _ hg => h.block k (fun e => by injection e with e; injection e with e; omega)⟩
theorem below_bar {B : Nat} {w w' : World} (h : Below B w w') (g : Nat) : Bar B g w w' := ⟨h.os, h.tape, h.output, h.size, fun k hk _ => h.block k hk⟩
theorem Bar.drewN {B g : Nat} {w w' : World} (h : Bar B g w w') (m : Nat) : Bar B g w (w'.drewN m) := ⟨h.os, h.tape, h.output, h.size, h.block⟩

def PickedOf (zs : List Int) (g : Nat) (A : Option Addr) (n c k : Nat) (w : World) (e : Ending) (w' : World) : Prop :=
  ∃ x : Int, e = .returned (.int .i64 x) ∧ x ∈ zs ∧ SrcAt w' g A n c k ∧ Only (some ⟨g, 0, none⟩) w w'
set_option maxRecDepth 100000 in
set_option maxHeartbeats 1000000 in
theorem among_any {B B2 : Nat} (g : Nat) (A L : Option Addr) (n c k n2 c2 : Nat) (zs ls : List Int) (w : World) (h : RowB .u8 B w A n zs) (hB : B ≤ g) (hs : SrcAt w g A n c k) (hk : k ≤ 100000000) (hL : Own B2 w L n2 c2 ls) (h2 : g < B2) (hn : 1 ≤ n2) :
    Calls Tryd.prog 24 #[.pointer (some ⟨g, 0, none⟩), .slice L n2 c2] w (PickedOf ls g A n c (k + 2) w) := by
  have hle := hL.row.le
  go_enter Tryd.func24, Tryd.ntmps24
  go_wp2_with fail
  (go_at_call 25; (with_reducible refine (pick_any g A n c k n2 zs w h hB hs hk).mono ?_); rintro e w1 ⟨x, rfl, hx0, hx1, hs1, ho1⟩)
  have hL1 := (hL.only_lt ho1 (fun g' e => by injection e with e; injection e with e; omega)).row
  obtain ⟨j, rfl⟩ := Int.eq_ofNat_of_zero_le hx0
  have hj : j < n2 := by omega
  obtain ⟨b, o, z, rfl, hb, hz, hc, _⟩ := hL1.at_ hj
  have HM := Lib.hid (List.mem_of_getElem? hz)
  clear hz
  go_wp2_with fail
  go_ret
  exact ⟨_, rfl, HM.out, hs1, ho1⟩

theorem cell_one1 (w : World) (x : Value) (t : TypeId) : ∀ j u, [x][j]? = some u → (w.alloc (.cells #[x] t)).cell? ((⟨w.heap.size, 0, none⟩ : Addr).add j) = some u := by
  intro j u hj
  match j, hj with
  | 0, hj => simp at hj; subst hj; simp [Addr.add]
  | j + 1, hj => simp at hj
def DrawnDigs (base : Int) (n g : Nat) (A : Option Addr) (nA c k : Nat) (w : World) (e : Ending) (w' : World) : Prop :=
  ∃ L cc zs, e = .returned (.slice L n cc) ∧ Own w.heap.size w' L n cc zs ∧ (∀ z ∈ zs, 0 ≤ z ∧ z < base) ∧ SrcAt w' g A nA c k ∧ Bar w.heap.size g w w'
set_option maxRecDepth 100000 in
set_option maxHeartbeats 1000000 in
theorem drawDigits_any {B : Nat} (g : Nat) (A : Option Addr) (nA c k n : Nat) (base : Int) (zs : List Int) (w : World) (h : RowB .u8 B w A nA zs) (hB : B ≤ g) (hs : SrcAt w g A nA c k) (hk : k ≤ 10000) (hn : n ≤ 10000) (hbase : 1 ≤ base) (hbw : base ≤ 9223372036854775807) :
    Calls Tryd.prog 26 #[.pointer (some ⟨g, 0, none⟩), .int .i64 base, .int .i64 n] w (DrawnDigs base n g A nA c (k + 2 * n) w) := by
  obtain ⟨i0, hi, hz0, hz1, hz2⟩ := info_parts info64
  go_enter Tryd.func26, Tryd.ntmps26
  go_wp2
  have hgw := hs.lt
  go_loopw [2, 7] (fun i v wr => ∃ (j : Nat) (ys : List Int), j ≤ n ∧ i = .int .i64 ((n : Int) - (j : Int)) ∧ wr.ownsRow w.heap.size 2 1 v j (cells64 ys) ∧ Hid ((∀ z ∈ ys, 0 ≤ z ∧ z < base) ∧ (∀ z ∈ ys, (Lit.int .i64 z).wf = true)) ∧ SrcAt wr g A nA c (k + 2 * j) ∧ Bar w.heap.size g w wr) (fun i _ _ => (intOf i).toNat)
  case atStart => exact ⟨0, [], by omega, by go_num, World.ownsRow_made _ _ _ (Nat.le_refl _) (by unfold maxLen; omega) rfl, Lib.hid ⟨by simp, by simp⟩, hs.keep (Below.heap_alloc _ _ _ hgw), below_bar ((Below.refl _ w).alloc (Nat.le_refl _) _) g⟩
  case round =>
    obtain ⟨j, ys, hj, rfl, ho, hz, hsj, hb⟩ := hrel
    have hgr := hsj.lt
    have hbs := hb.size
    by_cases hlt : j < n
    · go_wp2_with fail
      (go_at_call 25; (with_reducible refine (pick_any g A nA c (k + 2 * j) base zs wr (h.below (hb.below (B' := B) (by omega) hB)) hB hsj (by omega)).mono ?_); rintro e w1 ⟨x, rfl, hx0, hx1, hs1, ho1⟩)
      have hwx : (Lit.int .i64 x).wf = true := by have := hbw; exact WalkArith.wf_i64 (by omega)
      have ho2 : w1.ownsRow w.heap.size 2 1 u7 j (cells64 ys) := by
        rcases ho.2 with hn | ⟨g', cap, cur, hv, hb', hg', rest⟩
        · exact ⟨ho.1, .inl hn⟩
        · exact ⟨ho.1, .inr ⟨g', cap, cur, hv, hb', (ho1.block g' (fun e => by injection e with e; injection e with e; omega)).trans hg', rest⟩⟩
      have hb1 := hb.trans (ho1.bar w.heap.size)
      have HSZ : Hid (w1.heap.size = wr.heap.size) := Lib.hid ho1.size
      have hbs1 := hb1.size
      have hgr1 := hs1.lt
      have hwz := hz.out
      have HZ : Hid ((∀ z ∈ ys ++ [x], 0 ≤ z ∧ z < base) ∧ (∀ z ∈ ys ++ [x], (Lit.int .i64 z).wf = true)) := Lib.hid ⟨by
        intro z hm
        rcases List.mem_append.1 hm with hm | hm
        · exact hwz.1 z hm
        · rw [List.mem_singleton.1 hm]; omega, by
        intro z hm
        rcases List.mem_append.1 hm with hm | hm
        · exact hwz.2 z hm
        · rw [List.mem_singleton.1 hm]; exact hwx⟩
      clear hwz
      go_wp2_with (at_builtin; refine wpList_append_own _ rfl _ _ 24 rfl w.heap.size 2 i0 (.int .i64 0) 1 8 Tryd.underlying24 hi hz0 hz1 hz2 rfl (by decide) _ _ _ rfl (ho2.alloc _) ⟨w1.heap.size, 0, none⟩ 1 1 [.int .i64 x] rfl rfl (cell_one1 _ _ _) (fun u hu => by simp at hu; subst hu; rfl) ?c1 ?c2 ?c3 ?_)
      case c1 => unfold maxLen; omega
      case c2 => omega
      case c3 => simp; omega
      intro v3 w3 ho3 hg3 _
      have hbw3 : Bar w.heap.size g w w3 := hb1.trans (below_bar (Below.grown ((Below.refl w.heap.size w1).alloc (by omega) _) hg3 (by simp; omega) (fun j hj => (ho2.lt j hj).1)) g)
      have hs3 : SrcAt w3 g A nA c (k + 2 * (j + 1)) := by
        have e : w3.heap[g]? = w1.heap[g]? := by
          rw [hg3.block g (by simp; omega) (fun e => by have := (ho2.lt g e.symm).1; omega), Below.heap_alloc _ _ _ (by omega)]
        exact (hs1.keep e).mono (by omega)
      have e3 : cells64 ys ++ [Value.int .i64 x] = cells64 (ys ++ [x]) := by simp [cells64]
      rw [e3] at ho3
      have X : Hid (w3.ownsRow w.heap.size 2 1 v3 (j + 1) (cells64 (ys ++ [x])) ∧ SrcAt w3 g A nA c (k + 2 * (j + 1)) ∧ Bar w.heap.size g w w3) := Lib.hid ⟨ho3, hs3, hbw3⟩
      clear ho3 hbw3 e3 hg3 hs3
      go_wp2
      go_roundw
      case rel => exact ⟨j + 1, ys ++ [x], by omega, by go_num, X.out.1, HZ, X.out.2.1, X.out.2.2⟩
      case measure => simp [intOf]; omega
    · obtain rfl : j = n := by omega
      go_wp2
      go_ret
      have hv : ∃ A c, u7 = .slice A j c := by
        rcases ho.2 with ⟨hv, hn⟩ | ⟨g, cap, cur, hv, _⟩
        · exact ⟨none, 0, by rw [hv, hn]⟩
        · exact ⟨_, _, hv⟩
      obtain ⟨L, cc, rfl⟩ := hv
      exact ⟨L, cc, ys, rfl, ⟨ho, hz.out.2⟩, hz.out.1, hsj, hb⟩
/-- What is drawn: a base, and some digits below it. -/
def DrawnWord (w : World) (e : Ending) (w' : World) : Prop :=
  ∃ (base : Int) (n : Nat) (L : Option Addr) (cc : Nat) (zs : List Int), e = .returned (.tuple #[.int .i64 base, .slice L n cc]) ∧ 2 ≤ base ∧ base ≤ 36 ∧ n ≤ 11 ∧ Own w.heap.size w' L n cc zs ∧ (∀ z ∈ zs, 0 ≤ z ∧ z < base) ∧ Below w.heap.size w w'
set_option maxRecDepth 100000 in
set_option maxHeartbeats 1000000 in
theorem b10Digits_any (A : Option Addr) (n c : Nat) (zs : List Int) (w : World) (h : Row .u8 w A n zs) :
    Calls Tryd.prog 8 #[.slice A n c] w (DrawnWord w) := by
  go_enter Tryd.func8, Tryd.ntmps8
  go_wp2_with fail
  (go_at_call 23; (with_reducible refine (from_any A n c w).mono ?_); rintro e w1 ⟨rfl, hs, hb, hsz⟩)
  have HSZ := Lib.hid hsz
  clear hsz
  go_wp2_with fail
  have hL := own_lit w1 #[.int .i64 10, .int .i64 2, .int .i64 11, .int .i64 16, .int .i64 36, .int .i64 7] [10, 2, 11, 16, 36, 7] 6 rfl rfl (by unfold maxLen; omega) (fun z hz => by
    simp only [List.mem_cons, List.not_mem_nil, or_false] at hz
    exact WalkArith.wf_i64 (by omega))
  have hs1 : SrcAt (w1.alloc (.cells #[.int .i64 10, .int .i64 2, .int .i64 11, .int .i64 16, .int .i64 36, .int .i64 7] 2)) w.heap.size A n c 0 := hs.keep (Below.heap_alloc _ _ _ hs.lt)
  have h1 := RowB.below h (hb.alloc hb.size (.cells #[.int .i64 10, .int .i64 2, .int .i64 11, .int .i64 16, .int .i64 36, .int .i64 7] 2))
  have hb1 := hb.alloc hb.size (.cells #[.int .i64 10, .int .i64 2, .int .i64 11, .int .i64 16, .int .i64 36, .int .i64 7] 2)
  (go_at_call 24; (with_reducible refine (among_any _ A _ n c 0 6 6 zs _ _ h1 (Nat.le_refl _) hs1 (by omega) hL hs.lt (by omega)).mono ?_); rintro e w2 ⟨base, rfl, hbase, hs2, ho2⟩)
  have hbb : 2 ≤ base ∧ base ≤ 36 := by
    simp only [List.mem_cons, List.not_mem_nil, or_false] at hbase
    omega
  clear hbase
  have h2 := h1.only (Nat.le_refl _) ho2
  have hb2 := hb1.trans (ho2.below (B := w.heap.size) (fun g' e => by injection e with e; injection e with e; omega))
  clear hL hs1 h1 hs hb hb1 ho2
  go_wp2_with fail
  (go_at_call 25; (with_reducible refine (pick_any _ A n c _ 12 zs w2 h2 (Nat.le_refl _) hs2 (by omega)).mono ?_); rintro e w3 ⟨x, rfl, hx0, hx1, hs3, ho3⟩)
  obtain ⟨m, rfl⟩ := Int.eq_ofNat_of_zero_le hx0
  have h3 := h2.only (Nat.le_refl _) ho3
  have hb3 := hb2.trans (ho3.below (B := w.heap.size) (fun g' e => by injection e with e; injection e with e; omega))
  clear h2 hs2 hb2 ho3
  go_wp2_with fail
  (go_at_call 26; (with_reducible refine (drawDigits_any _ A n c _ m base zs w3 h3 (Nat.le_refl _) hs3 (by omega) (by omega) (by omega) (by omega)).mono ?_); rintro e w4 ⟨L, cc, ys, rfl, ho, hz, hs4, hb4⟩)
  have HZ := Lib.hid hz
  have hs34 := hb3.size
  clear hz
  go_wp2_with fail
  go_ret2
  exact ⟨base, m, L, cc, ys, rfl, by omega, by omega, by omega, ho.lower hs34, HZ.out, hb3.trans (hb4.below hs34 (Nat.le_refl _))⟩
end Go.Proofs.YtlgoopjbjamlmaaDoor
