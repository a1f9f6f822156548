/-
  Contracts of the functions that make the cycles of an order, of the program and of the model.
-/
import Derived.Test.YtlgoopjbjamlmaaCyc
import Derived.Test.YtlgoopjbjamlmaaOwn2
import Derived.Test.YtlgoopjbjamlmaaBar
namespace Go.Proofs.Ytlgoopjbjamlmaa
open Go.RowKit

def lenOf : Value → Nat | .slice _ n _ => n | _ => 0
theorem slice_at {w : World} {B : Nat} {t : TypeId} {v : Value} {k : Nat} {xs : List Value} (h : w.ownsRow B t 1 v k xs) : ∃ A c, v = .slice A k c := by
  rcases h.2 with ⟨hv, hn⟩ | ⟨g, cap, cur, hv, _⟩
  · exact ⟨none, 0, by rw [hv, hn]⟩
  · exact ⟨_, _, hv⟩
theorem cell_one2 (w : World) (x : Value) (t : TypeId) : ∀ j u, [x][j]? = some u → (w.alloc (.cells #[x] t)).cell? ((⟨w.heap.size, 0, none⟩ : Addr).add j) = some u := by
  intro j u hj
  match j, hj with
  | 0, hj => simp at hj; subst hj; simp [Addr.add]
  | j + 1, hj => simp at hj
def ints (l : List Nat) : List Int := l.map Int.ofNat
theorem ints_wf {l : List Nat} (h : ∀ x ∈ l, x ≤ 1000000) : ∀ z ∈ ints l, (Lit.int .i64 z).wf = true := by
  intro z hz
  obtain ⟨x, hx, rfl⟩ := List.mem_map.1 hz
  have := h x hx
  exact WalkArith.wf_i64 (by simp; omega)
/-- The number at place x of an order. -/
theorem RowB.fn {B : Nat} {w : World} {A : Option Addr} {n : Nat} {zs : List Int} (h : RowB .i64 B w A n zs) (ho : isOrd zs = true) {x : Nat} (hx : x < n) :
    ∃ b off, A = some ⟨b, off, none⟩ ∧ b < B ∧ w.cell? ⟨b, off + x, none⟩ = some (.int .i64 (fnOf zs x : Int)) ∧ fnOf zs x < n := by
  obtain ⟨b, off, z, hA, hb, hz, hc, _⟩ := h.at_ hx
  have hl := h.1
  rw [ord_at ho (by omega)] at hz
  have hp := (ord_perm ho).lt x (by omega)
  rw [← Option.some.inj hz] at hc
  exact ⟨b, off, hA, hb, hc, by omega⟩

set_option maxHeartbeats 1000000 in
theorem cycleFrom_any (A : Option Addr) (n c i : Nat) (zs : List Int) (w : World) (h : Row .i64 w A n zs) (ho : isOrd zs = true) (hi : i < n) :
    Calls Try.prog 56 #[.slice A n c, .int .i64 i] w (Made w.heap.size (per (fnOf zs) n i) (ints (cyc (fnOf zs) n i)) w) := by
  have hl := h.1
  have hn36 : n ≤ 36 := by have := (ord_len ho).2; omega
  obtain ⟨f, hf⟩ : ∃ f, f = fnOf zs := ⟨_, rfl⟩
  have hperm : Perm n f := by rw [hf, ← hl]; exact ord_perm ho
  have hrd : ∀ (W : World) (x : Nat), Below w.heap.size w W → x < n → ∃ b off, A = some ⟨b, off, none⟩ ∧ b < w.heap.size ∧ W.cell? ⟨b, off + x, none⟩ = some (.int .i64 (f x : Int)) ∧ f x < n := by
    intro W x hb hx
    rw [hf]; exact (RowB.below h hb).fn ho hx
  rw [← hf]
  have hps := hperm.per_spec hi
  obtain ⟨p, hp⟩ : ∃ p, p = per f n i := ⟨_, rfl⟩
  rw [← hp] at hps
  have hp1 : 1 ≤ p := by rw [hp]; unfold per; omega
  obtain ⟨b, off, rfl, hb, hc, hfx⟩ := hrd w i (Below.refl _ _) hi
  have HP := Lib.hid hp
  have HPS := Lib.hid hps
  have HPERM := Lib.hid hperm
  have HRD := Lib.hid hrd
  have hpn := hps.1
  rw [← hp]
  obtain ⟨i0, hin, hz0, hz1, hz2⟩ := info_parts info64
  obtain ⟨y, hy⟩ : ∃ y, y = f i := ⟨_, rfl⟩
  rw [← hy] at hc hfx
  have HY := Lib.hid hy
  clear hp hps hperm hrd hl ho hf hy
  go_enter Try.func56, Try.ntmps56
  go_wp2
  go_loopw [5, 6] (fun v x wr => ∃ (k X : Nat), 1 ≤ k ∧ k ≤ p ∧ x = .int .i64 X ∧ X < n ∧ Hid (X = it f k i) ∧ (∃ L cc, v = .slice L k cc) ∧ wr.ownsRow w.heap.size 2 1 v k (cells64 (ints ((cyc f n i).take k))) ∧ Below w.heap.size w wr) (fun v _ _ => p - lenOf v)
  case atStart =>
    refine ⟨1, y, by omega, by omega, rfl, hfx, Lib.hid (by rw [HY.out]; rfl), ⟨_, _, rfl⟩, ?_, (Below.refl _ _).alloc (Nat.le_refl _) _⟩
    have e : (cyc f n i).take 1 = [i] := by
      have := cyc_take (f := f) (n := n) (i := i) (k := 0) (by rw [← HP.out]; omega)
      simpa [it] using this
    rw [e]
    exact World.ownsRow_lit (size := 1) w #[.int .i64 (i : Int)] 1 (Nat.le_refl _) (by unfold maxLen; omega) rfl
  case round =>
    obtain ⟨k, X, hk1, hk, rfl, hX, hXe, ⟨L, cc, rfl⟩, hown, hbel⟩ := hrel
    have hbs := hbel.size
    by_cases hlt : k < p
    · have hne : ¬ ((X : Int) = (i : Int)) := by
        have := HPS.out.2.2 k hk1 hlt
        rw [← hXe.out] at this
        omega
      have hne2 : ((X : Int) == (i : Int)) = false := by simpa using hne
      have HD : Hid (cells64 (ints ((cyc f n i).take k)) ++ [Value.int .i64 (X : Int)] = cells64 (ints ((cyc f n i).take (k + 1)))) := Lib.hid (by
        rw [cyc_take (by rw [← HP.out]; exact hlt), ← hXe.out]; simp [ints, cells64])
      have HXN : Hid (f X = it f (k + 1) i) := Lib.hid (by rw [hXe.out]; rfl)
      clear hc hb hne hXe
      go_wp2_with (at_builtin; refine wpList_append_own _ rfl _ _ 28 rfl w.heap.size 2 i0 (.int .i64 0) 1 8 Try.underlying28 hin hz0 hz1 hz2 rfl (by decide) _ _ _ rfl (hown.alloc _) ⟨wr.heap.size, 0, none⟩ 1 1 [.int .i64 (X : Int)] rfl rfl (cell_one2 _ _ _) (fun u hu => by simp at hu; subst hu; rfl) ?c1 ?c2 ?c3 ?_)
      case c1 => unfold maxLen; omega
      case c2 => omega
      case c3 => simp; omega
      intro v3 w3 ho3 hg3 _
      have hbw3 : Below w.heap.size w w3 := Below.grown (hbel.alloc (by omega) _) hg3 (by simp; omega) (fun j hj => (hown.lt j hj).1)
      rw [HD.out] at ho3
      obtain ⟨L3, c3, rfl⟩ := slice_at ho3
      obtain ⟨b3, off3, e3, _, hc3, hf3⟩ := HRD.out w3 X hbw3 hX
      injection e3 with e3
      injection e3 with e3 e4
      subst e3; subst e4
      have HO := Lib.hid ho3
      have HB := Lib.hid hbw3
      obtain ⟨Y, hY⟩ : ∃ Y, Y = f X := ⟨_, rfl⟩
      rw [← hY] at hc3 hf3 HXN
      clear ho3 hbw3 hg3 hY
      go_wp2
      go_roundw
      case rel => exact ⟨k + 1, Y, by omega, by omega, rfl, hf3, HXN, ⟨_, _, rfl⟩, HO.out, HB.out⟩
      case measure => simp [lenOf]; omega
    · obtain rfl : k = p := by omega
      have he : X = i := hXe.out.trans HPS.out.2.1
      subst he
      go_wp2
      go_ret
      have e : (cyc f n X).take k = cyc f n X := List.take_of_length_le (by rw [cyc_len, ← HP.out]; exact Nat.le_refl _)
      rw [e] at hown
      exact ⟨_, _, rfl, ⟨hown, ints_wf fun x hx => by have := HPERM.out.cyc_lt hi hx; omega⟩, hbel⟩

/-- The cells of m marks. -/
def boolArr (m : Nat) (P : Nat → Bool) : Array Value := ((List.range m).map fun j : Nat => Value.bool (P j)).toArray
theorem boolArr_at {m : Nat} (P : Nat → Bool) {j : Nat} (h : j < m) : (boolArr m P)[j]? = some (.bool (P j)) := by
  simp [boolArr, h]
theorem boolArr_set (m : Nat) (P : Nat → Bool) (j : Nat) : (boolArr m P).setIfInBounds j (.bool true) = boolArr m (fun x => P x || decide (x = j)) := by
  apply Array.ext_getElem?
  intro i
  rw [Array.getElem?_setIfInBounds]
  have hs1 : (boolArr m P).size = m := by simp [boolArr]
  have hs2 : (boolArr m (fun x => P x || decide (x = j))).size = m := by simp [boolArr]
  by_cases hi : i < m
  · rw [boolArr_at _ hi, boolArr_at _ hi]
    by_cases he : j = i
    · subst he
      simp [hs1, hi]
    · rw [if_neg he]
      have h2 : ¬ (i = j) := fun e => he e.symm
      simp [h2]
  · rw [Array.getElem?_eq_none (by omega : (boolArr m (fun x => P x || decide (x = j))).size ≤ i)]
    split
    · next he => rw [if_neg (by omega)]
    · rw [Array.getElem?_eq_none (by omega)]
theorem boolArr_congr {m : Nat} {P Q : Nat → Bool} (h : ∀ x, P x = Q x) : boolArr m P = boolArr m Q := by
  have : P = Q := funext h
  rw [this]
theorem infoS : (Try.prog.info? 28).map (fun i => (i.zero, i.size, i.bytes)) = some (some (.slice none 0 0), 1, 24) := by kernel_rfl
/-- What the functions that make the cycles leave: the cycles, in slices of their own. -/
def MadeC (B m : Nat) (zss : List (List Int)) (w : World) (e : Ending) (w' : World) : Prop :=
  ∃ A c L, e = .returned (.slice A m c) ∧ Own2 B w' A m c L zss ∧ Below w.heap.size w w'
def cycsZ (f : Nat → Nat) (n i : Nat) : List (List Int) := (cycs f n i).map ints

set_option maxRecDepth 100000 in
set_option maxHeartbeats 2000000 in
theorem implCycles_any (A : Option Addr) (n c : Nat) (zs : List Int) (w : World) (h : Row .i64 w A n zs) (ho : isOrd zs = true) :
    Calls Try.prog 42 #[.slice A n c] w (MadeC (w.heap.size + 1) (cycs (fnOf zs) n n).length (cycsZ (fnOf zs) n n) w) := by
  have hl := h.1
  have hn36 : n ≤ 36 := by have := (ord_len ho).2; omega
  have hperm : Perm n (fnOf zs) := by rw [← hl]; exact ord_perm ho
  have CF : ∀ (W : World) (i : Nat), Below w.heap.size w W → i < n → Calls Try.prog 56 #[.slice A n c, .int .i64 i] W (Made W.heap.size (per (fnOf zs) n i) (ints (cyc (fnOf zs) n i)) W) := by
    intro W i hb hi
    exact cycleFrom_any A n c i zs W ((RowB.below h hb).up hb.size) ho hi
  obtain ⟨f, hf⟩ : ∃ f, f = fnOf zs := ⟨_, rfl⟩
  rw [← hf] at hperm CF
  rw [← hf]
  have HPERM := Lib.hid hperm
  have HCF := Lib.hid CF
  clear hl ho hf h hperm CF
  obtain ⟨i0, hin, hz0, hz1, hz2⟩ := info_parts infoS
  go_enter Try.func42, Try.ntmps42
  go_wp2
  go_loopw [3, 5, 6, 8, 11] (fun v _ _ _ i wr => ∃ (k : Nat) (A' : Option Addr) (m c' : Nat) (L : List SL), k ≤ n ∧ i = .int .i64 k ∧ v = .slice A' m c' ∧ Hid (Own2 (w.heap.size + 1) wr A' m c' L (cycsZ f n k)) ∧ Hid (wr.heap[w.heap.size]? = some (.cells (boolArr 36 (seenB f n k)) 66)) ∧ Below w.heap.size w wr) (fun _ _ _ _ i _ => n - (intOf i).toNat)
  case atStart => exact ⟨0, none, 0, 0, [], by omega, rfl, rfl, Lib.hid (Own2.nil _ _), Lib.hid (heap_alloc_new w _), (Below.refl _ _).alloc (Nat.le_refl _) _⟩
  case round =>
    obtain ⟨k, A', m, c', L, hk, rfl, rfl, hown, hseen, hbel⟩ := hrel
    obtain ⟨W0, rfl⟩ : ∃ W0, W0 = wr := ⟨_, rfl⟩
    have hbs := hbel.size
    have hlt0 : w.heap.size < W0.heap.size := (Array.getElem?_eq_some_iff.1 hseen.out).1
    by_cases hlt : k < n
    · have hcell : W0.cell? ⟨w.heap.size, k, none⟩ = some (.bool (seenB f n k k)) :=
        (cell_of_row W0 w.heap.size k _ _ (0, 0) hseen.out).trans (boolArr_at _ (by omega))
      rcases hs : seenB f n k k with _ | _
      · rw [hs] at hcell
        have HS := Lib.hid hs
        clear hs
        go_wp2_with fail
        (go_at_call 56; (with_reducible refine (HCF.out W0 k hbel hlt).mono ?_); rintro e w1 ⟨A1, c1, rfl, o1, b1⟩)
        have hpn := (HPERM.out.per_spec hlt).1
        obtain ⟨p, hp⟩ : ∃ p, p = per f n k := ⟨_, rfl⟩
        rw [← hp] at o1 hpn
        rw [← hp]
        have HP := Lib.hid hp
        have hs1 : w1.heap[w.heap.size]? = some (.cells (boolArr 36 (seenB f n k)) 66) := (b1.block _ hlt0).trans hseen.out
        have HS1 := Lib.hid hs1
        have hclen : (ints (cyc f n k)).length = p := by simp [ints, cyc_len, hp]
        clear hp hs1 hcell hclen
        have hA : ∀ g, A1 = some ⟨g, 0, none⟩ → W0.heap.size ≤ g := o1.from
        go_wp2_with fail
        go_loopw [8, 22] (fun _ q wq => ∃ j : Nat, j ≤ p ∧ q = .int .i64 j ∧ Hid (wq.heap[w.heap.size]? = some (.cells (boolArr 36 (fun x => seenB f n k x || decide (x ∈ (cyc f n k).take j))) 66)) ∧ Only (some ⟨w.heap.size, 0, none⟩) w1 wq) (fun _ q _ => p - (intOf q).toNat)
        case atStart =>
          refine ⟨0, by omega, rfl, Lib.hid ?_, Only.refl _ _⟩
          rw [HS1.out, boolArr_congr (Q := fun x => seenB f n k x || decide (x ∈ (cyc f n k).take 0)) (fun x => by simp)]
        case round =>
          obtain ⟨j, hj, rfl, hsq, hon⟩ := hrel
          by_cases hjp : j < p
          · have rowr := (o1.only_lt hon (fun g e => by injection e with e; injection e with e; omega)).row
            obtain ⟨b, o, z, rfl, _, hz, hc, _⟩ := rowr.at_ hjp
            have hzz : z = ((it f j k : Nat) : Int) := by
              have : (ints (cyc f n k))[j]? = some ((it f j k : Nat) : Int) := by
                unfold ints
                rw [List.getElem?_map, cyc_at (by rw [← HP.out]; exact hjp)]; rfl
              rw [this] at hz
              exact (Option.some.inj hz).symm
            have hX : it f j k < n := HPERM.out.it_lt hlt j
            have hT := Lib.hid (cyc_take (f := f) (n := n) (i := k) (k := j) (by rw [← HP.out]; exact hjp))
            obtain ⟨X, hXe⟩ : ∃ X, X = it f j k := ⟨_, rfl⟩
            rw [← hXe] at hzz hX hT
            subst hzz
            have hcell := (cell_of_row wr w.heap.size X _ _ (0, 0) hsq.out).trans (boolArr_at _ (show X < 36 by omega))
            have hfr : wr.frozen? ⟨w.heap.size, X, none⟩ = false := frozen_of_row wr w.heap.size X _ _ hsq.out
            clear hz hXe
            go_wp2_with fail
            go_roundw
            case rel =>
              refine ⟨j + 1, by omega, by go_num, Lib.hid ?_, hon.set _ _⟩
              have e := heap_setCell_same wr w.heap.size X _ _ (.bool true) hsq.out
              rw [boolArr_set] at e
              rw [e, boolArr_congr (Q := fun x => seenB f n k x || decide (x ∈ (cyc f n k).take (j + 1))) (fun x => by rw [hT.out]; simp [Bool.or_assoc])]
            case measure => simp [intOf]; omega
          · obtain rfl : j = p := by omega
            have HSZ : Hid (wr.heap.size = w1.heap.size) := Lib.hid hon.size
            have b1s := b1.size
            have ownq : Own2 (w.heap.size + 1) wr A' m c' L (cycsZ f n k) :=
              (hown.out.below b1).keep fun g hg _ => hon.block g (fun e => by injection e with e; injection e with e; omega)
            have o1q := o1.only_lt hon (fun g e => by injection e with e; injection e with e; omega)
            have hwb : Below w.heap.size w wr := (hbel.trans (b1.mono hbs)).trans (hon.below fun g e => by injection e with e; injection e with e; omega)
            have hwrs : W0.heap.size ≤ wr.heap.size := by have := HSZ.out; omega
            have hmk : m ≤ k := by
              have h1 := ownq.n_eq
              have h2 := ownq.len
              have h3 := cycs_len_le f n k
              simp only [cycsZ, List.length_map] at h2
              omega
            have hLlt : ∀ (q : Nat) (s : SL) (g : Nat), L[q]? = some s → s.1 = some ⟨g, 0, none⟩ → g < W0.heap.size := by
              intro q s g hs hg
              have h2 := hown.out.len
              have hq : q < L.length := (List.getElem?_eq_some_iff.1 hs).1
              exact (hown.out.inner q s _ hs (List.getElem?_eq_getElem (show q < (cycsZ f n k).length by omega))).lt g hg
            have hA'lt : ∀ g, A' = some ⟨g, 0, none⟩ → g < W0.heap.size := by
              intro g hg
              rcases ownsRow_form hown.out.outer with ⟨h0, _⟩ | ⟨g', h0, _, h1, _⟩
              · rw [hg] at h0; cases h0
              · rw [hg] at h0; injection h0 with h0; injection h0 with h0; omega
            have HE1 : Hid (cycs f n (k + 1) = cycs f n k ++ [cyc f n k]) := Lib.hid (by simp [cycs, HS.out])
            have HLL := Lib.hid hLlt
            have HAL := Lib.hid hA'lt
            have HAA := Lib.hid hA
            have HOC := Lib.hid hown.out.outer
            clear hLlt hA'lt hA
            go_wp2_with (at_builtin; refine wpList_append_own _ rfl _ _ 33 rfl (w.heap.size + 1) 28 i0 (.slice none 0 0) 1 24 Try.underlying33 hin hz0 hz1 hz2 rfl (by decide) _ _ _ rfl (ownq.outer.alloc _) ⟨wr.heap.size, 0, none⟩ 1 1 [.slice A1 j c1] rfl rfl (cell_one2 _ _ _) (fun u hu => by simp at hu; subst hu; rfl) ?c1 ?c2 ?c3 ?_)
            case c1 => unfold maxLen; omega
            case c2 => omega
            case c3 => simp; omega
            intro v3 w3 ho3 hg3 _
            obtain ⟨A3, c3, rfl⟩ := slice_at ho3
            have hkeep : ∀ g, g < wr.heap.size → A' ≠ some ⟨g, 0, none⟩ → w3.heap[g]? = wr.heap[g]? := by
              intro g hg hne
              rw [hg3.block g (by simp; omega) (fun e => ?_), Below.heap_alloc _ _ _ hg]
              rcases ownsRow_form HOC.out with ⟨h0, _⟩ | ⟨g', h0, _⟩
              · rw [h0] at e; simp [Value.ownBlock] at e
              · rw [h0] at e
                simp [Value.ownBlock] at e
                exact hne (by rw [h0, e])
            have X : Own2 (w.heap.size + 1) w3 A3 (m + 1) c3 (L ++ [(A1, j, c1)]) (cycsZ f n k ++ [ints (cyc f n k)]) := by
              refine Own2.snoc ownq ho3 ?_ ?_ ?_
              · refine (o1q.lower (by omega)).keep fun g hg => hkeep g ((o1q.lt g hg)) (fun e => ?_)
                have h1 := HAL.out g e
                have h2 := HAA.out g hg
                omega
              · intro q s g hs hg
                have h1 := HLL.out q s g hs hg
                exact hkeep g (by omega) (fun e => ownq.out q s g hs hg e)
              · intro q s g hs hg e
                have h1 := HLL.out q s g hs hg
                have h2 := HAA.out g e
                omega
            have hS0 : w3.heap[w.heap.size]? = wr.heap[w.heap.size]? := hkeep _ (by omega) (fun e => by
              rcases ownsRow_form HOC.out with ⟨h0, _⟩ | ⟨g', h0, h1, _⟩
              · rw [e] at h0; cases h0
              · rw [e] at h0; injection h0 with h0; injection h0 with h0; omega)
            have Y : w3.heap[w.heap.size]? = some (.cells (boolArr 36 (seenB f n (k + 1))) 66) := by
              rw [hS0, hsq.out, boolArr_congr (Q := seenB f n (k + 1)) (fun x => by
                rw [List.take_of_length_le (by rw [cyc_len, ← HP.out]; exact Nat.le_refl _)]; rfl)]
            have Z : Below w.heap.size w w3 := Below.grown (hwb.alloc (by omega) _) hg3 (by simp; omega) (fun q hq => by have := ((ownq.outer.lt q hq)).1; omega)
            have e3 : cycsZ f n k ++ [ints (cyc f n k)] = cycsZ f n (k + 1) := by unfold cycsZ; rw [HE1.out]; simp
            rw [e3] at X
            have HX := Lib.hid X
            have HY := Lib.hid Y
            have HZ := Lib.hid Z
            clear X Y Z e3 hS0 hkeep ho3 hg3 ownq o1q hwb
            go_wp2_with fail
            go_roundw
            case rel => exact ⟨k + 1, A3, m + 1, c3, _, by omega, by go_num, rfl, HX, HY, HZ.out⟩
            case measure => simp [intOf]; omega
      · rw [hs] at hcell
        have HS := Lib.hid hs
        clear hs
        go_wp2_with fail
        go_roundw
        case rel =>
          have e1 : cycs f n (k + 1) = cycs f n k := by simp [cycs, HS.out]
          have e2 : cycsZ f n (k + 1) = cycsZ f n k := by unfold cycsZ; rw [e1]
          refine ⟨k + 1, A', m, c', L, by omega, by go_num, rfl, by rw [e2]; exact hown, Lib.hid ?_, hbel⟩
          rw [hseen.out, boolArr_congr (fun x => (HPERM.out.seen_skip hlt HS.out x).symm)]
        case measure => simp [intOf]; omega
    · obtain rfl : k = n := by omega
      go_wp2
      go_ret
      have hm : m = (cycs f k k).length := by
        have h1 := hown.out.n_eq
        have h2 := hown.out.len
        simp only [cycsZ, List.length_map] at h2
        omega
      subst hm
      exact ⟨A', c', L, rfl, hown.out, hbel⟩

theorem row_exact {w : World} {B g n : Nat} {e : TypeId} {xs : List Value} (h : w.ownsRow B e 1 (.slice (some ⟨g, 0, none⟩) n n) n xs) : w.heap[g]? = some (.cells xs.toArray e) := by
  rcases h.2 with ⟨hv, _⟩ | ⟨g', cap, cur, hv, _, hg, _, _, hs, ht⟩
  · cases hv
  · injection hv with h1 h2 h3
    injection h1 with h1
    injection h1 with h1
    subst h1; subst h3
    rw [hg, ← ht, List.take_of_length_le (by rw [Array.length_toList]; omega)]
end Go.Proofs.Ytlgoopjbjamlmaa
