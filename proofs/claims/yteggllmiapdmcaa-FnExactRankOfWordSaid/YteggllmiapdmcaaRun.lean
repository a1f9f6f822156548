/-
  Where words lead in a chain: the numbers, and the contracts of the model and of the program.
-/
import Derived.Test.YteggllmiapdmcaaOk
import Derived.Test.YteggllmiapdmcaaChEq
import Derived.Deep.RegionWith
namespace Go.Proofs.Yteggllmiapdmcaa
open Go.RowKit

def Ch.tb (c : Ch) (i : Nat) : List (List Int) := c.T.getD (c.P.getD i 0).toNat []
def Ch.nx (c : Ch) (i x d : Nat) : Nat := (((c.tb i).getD x []).getD d 0).toNat
def Ch.run (c : Ch) (i x : Nat) : List Nat → Nat
  | [] => x
  | d :: r => c.run (i + 1) (c.nx i x d) r
theorem Ch.run_snoc (c : Ch) (i x : Nat) (l : List Nat) (d : Nat) : c.run i x (l ++ [d]) = c.nx (i + l.length) (c.run i x l) d := by
  induction l generalizing i x with
  | nil => rfl
  | cons a r ih =>
    show c.run (i + 1) (c.nx i x a) (r ++ [d]) = _
    rw [ih]
    show c.nx (i + 1 + r.length) (c.run (i + 1) (c.nx i x a) r) d = c.nx (i + (a :: r).length) (c.run (i + 1) (c.nx i x a) r) d
    congr 1
    simp; omega

/-- What a valid chain is, in natural numbers. -/
structure Ch.Fine (c : Ch) (b s n : Nat) : Prop where
  base : c.base = b
  states : c.states = s
  len : c.P.length = n
  b2 : 2 ≤ b
  b36 : b ≤ 36
  s1 : 1 ≤ s
  s36 : s ≤ 36
  n1 : 1 ≤ n
  n20 : n ≤ 20
  start0 : 0 ≤ c.start
  start : c.start < s
  stop0 : 0 ≤ c.stop
  stop : c.stop < s
  lim : b ^ n ≤ 1000000000000000
  t1 : 1 ≤ c.T.length
  t20 : c.T.length ≤ 20
  tabs : ∀ (j : Nat) (t : List (List Int)), c.T[j]? = some t → tabOk b s t = true
  places : ∀ (j : Nat) (p : Int), c.P[j]? = some p → 0 ≤ p ∧ p < c.T.length

theorem Ch.fine {c : Ch} (h : c.ok = true) : ∃ b s n, c.Fine b s n := by
  unfold Ch.ok headOk limOk at h
  simp only [Bool.and_eq_true, inB_true, decide_eq_true_eq] at h
  obtain ⟨⟨hb, hs, hst, hsp, hT, hP⟩, hTa, hPa, hl⟩ := h
  refine ⟨c.base.toNat, c.states.toNat, c.P.length, ⟨by omega, by omega, rfl, by omega, by omega, by omega, by omega, by omega, by omega, by omega, by omega, by omega, by omega, ?_, by omega, by omega, ?_, ?_⟩⟩
  · have e : c.base = ((c.base.toNat : Nat) : Int) := by omega
    rw [e] at hl
    have : (((c.base.toNat ^ c.P.length : Nat)) : Int) ≤ 1000000000000000 := by rw [Int.natCast_pow]; exact hl
    omega
  · intro j t ht
    rw [show ((c.base.toNat : Nat) : Int) = c.base by omega, show ((c.states.toNat : Nat) : Int) = c.states by omega]
    exact List.all_eq_true.1 hTa t (List.mem_of_getElem? ht)
  · intro j p hp
    have := List.all_eq_true.1 hPa p (List.mem_of_getElem? hp)
    rw [inB_true] at this
    omega

theorem tab_row {b s : Nat} {t : List (List Int)} {x : Nat} (h : tabOk b s t = true) (hx : x < s) : t.length = s ∧ ∃ r, t[x]? = some r ∧ r.length = b ∧ ∀ d, d < b → ∃ z, r[d]? = some z ∧ 0 ≤ z ∧ z < s := by
  unfold tabOk at h
  simp only [Bool.and_eq_true, decide_eq_true_eq] at h
  obtain ⟨hl, ha⟩ := h
  have hl' : t.length = s := by omega
  have hr : t[x]? = some (t[x]'(by omega)) := List.getElem?_eq_getElem (by omega)
  have h2 := List.all_eq_true.1 ha _ (List.mem_of_getElem? hr)
  unfold lineOk rowOk at h2
  simp only [Bool.and_eq_true, decide_eq_true_eq] at h2
  refine ⟨hl', _, hr, by omega, fun d hd => ?_⟩
  have hz : (t[x]'(by omega))[d]? = some ((t[x]'(by omega))[d]'(by omega)) := List.getElem?_eq_getElem (by omega)
  have h3 := List.all_eq_true.1 h2.2 _ (List.mem_of_getElem? hz)
  rw [inB_true] at h3
  exact ⟨_, hz, by omega, by omega⟩

theorem Ch.Fine.tab {c : Ch} {b s n : Nat} (f : c.Fine b s n) {i : Nat} (hi : i < n) : ∃ p : Nat, c.P[i]? = some (p : Int) ∧ p < c.T.length ∧ c.T[p]? = some (c.tb i) ∧ tabOk b s (c.tb i) = true := by
  have hp : c.P[i]? = some (c.P[i]'(by have := f.len; omega)) := List.getElem?_eq_getElem _
  obtain ⟨h0, h1⟩ := f.places i _ hp
  obtain ⟨p, hpp⟩ : ∃ p : Nat, c.P[i]'(by have := f.len; omega) = p := ⟨(c.P[i]'(by have := f.len; omega)).toNat, by omega⟩
  rw [hpp] at hp h0 h1
  have ht : c.T[p]? = some (c.T[p]'(by omega)) := List.getElem?_eq_getElem (by omega)
  have e : c.tb i = c.T[p]'(by omega) := by
    unfold Ch.tb
    simp [List.getD, hp, ht]
  refine ⟨p, hp, by omega, by rw [e]; exact ht, ?_⟩
  rw [e]; exact f.tabs p _ ht
theorem Ch.Fine.nx {c : Ch} {b s n : Nat} (f : c.Fine b s n) {i x d : Nat} (hi : i < n) (hx : x < s) (hd : d < b) : (c.tb i).length = s ∧ ∃ r, (c.tb i)[x]? = some r ∧ r.length = b ∧ r[d]? = some ((c.nx i x d : Nat) : Int) ∧ c.nx i x d < s := by
  obtain ⟨p, _, _, _, hok⟩ := f.tab hi
  obtain ⟨hl, r, hr, hrl, hz⟩ := tab_row hok hx
  obtain ⟨z, hz, h0, h1⟩ := hz d hd
  have e : c.nx i x d = z.toNat := by unfold Ch.nx; simp [List.getD, hr, hz]
  refine ⟨hl, r, hr, hrl, ?_, by omega⟩
  rw [e, hz]; congr 1; omega
theorem Ch.Fine.run_lt {c : Ch} {b s n : Nat} (f : c.Fine b s n) (l : List Nat) : ∀ {i x : Nat}, i + l.length ≤ n → x < s → (∀ d ∈ l, d < b) → c.run i x l < s := by
  induction l with
  | nil => intro i x _ hx _; exact hx
  | cons d r ih =>
    intro i x hi hx hd
    simp at hi
    obtain ⟨_, _, _, _, _, h⟩ := f.nx (i := i) (by omega) hx (hd d (by simp))
    exact ih (by omega) h fun e he => hd e (by simp [he])

section
variable {B b : Nat} {c : Ch} {AT AP : Option Addr} {nT cT nP cP : Nat} {w : World} {bs s n : Nat}
/-- The cells on the way to a state's row and to the state behind a symbol. -/
theorem ChRows.table (hr : ChRows B w c AT nT AP nP) (f : c.Fine bs s n) {i : Nat} (hi : i < n) :
    ∃ bP oP p bT oT A2 c2, AP = some ⟨bP, oP, none⟩ ∧ w.cell? ⟨bP, oP + i, none⟩ = some (.int .i64 (p : Nat)) ∧ p < nT ∧ AT = some ⟨bT, oT, none⟩ ∧ w.cell? ⟨bT, oT + p, none⟩ = some (.slice A2 s c2) ∧ s ≤ c2 ∧ Rows2 B w A2 s (c.tb i) := by
  obtain ⟨p, hp, hpl, ht, hok⟩ := f.tab hi
  have hlT := hr.1.len
  have hlP := hr.2.len
  obtain ⟨bP, oP, z, e1, _, hz, hc, _⟩ := hr.2.at_ (j := i) (by have := f.len; omega)
  rw [hp] at hz
  have hz := Option.some.inj hz
  subst hz
  obtain ⟨bT, oT, A2, n2, c2, t, e2, _, hz2, hc2, hcap, hr2⟩ := hr.1.2.2 p (by omega)
  rw [ht] at hz2
  have hz2 := Option.some.inj hz2
  subst hz2
  have hl2 := hr2.len
  obtain ⟨hl3, _⟩ := tab_row (x := 0) hok (by have := f.s1; omega)
  obtain rfl : n2 = s := by omega
  exact ⟨bP, oP, p, bT, oT, A2, c2, e1, hc, by omega, e2, hc2, hcap, hr2⟩
theorem Rows2.entry {A2 : Option Addr} {i x d : Nat} (hr : Rows2 B w A2 s (c.tb i)) (f : c.Fine bs s n) (hi : i < n) (hx : x < s) (hd : d < bs) :
    ∃ b2 o2 A1 c1 b1 o1, A2 = some ⟨b2, o2, none⟩ ∧ w.cell? ⟨b2, o2 + x, none⟩ = some (.slice A1 bs c1) ∧ A1 = some ⟨b1, o1, none⟩ ∧ w.cell? ⟨b1, o1 + d, none⟩ = some (.int .i64 (c.nx i x d : Nat)) := by
  obtain ⟨hl, r, hr1, hrl, hz, hlt⟩ := f.nx hi hx hd
  obtain ⟨b2, o2, A1, n1, c1, r', e2, _, hz2, hc2, _, hrow⟩ := hr.2.2 x hx
  rw [hr1] at hz2
  have hz2 := Option.some.inj hz2
  subst hz2
  have hl1 := hrow.len
  obtain rfl : n1 = bs := by omega
  obtain ⟨b1, o1, z, e1, _, hz1, hc1, _⟩ := hrow.at_ hd
  rw [hz] at hz1
  have hz1 := Option.some.inj hz1
  subst hz1
  exact ⟨b2, o2, A1, c1, b1, o1, e2, hc2, e1, hc1⟩
end

set_option maxHeartbeats 1000000 in
theorem l02Next_any {B b : Nat} (c : Ch) (AT AP : Option Addr) (nT cT nP cP : Nat) (w : World) (hb : Blk w b (chCells c AT nT cT AP nP cP) 48) (hr : ChRows B w c AT nT AP nP) {bs s n : Nat} (f : c.Fine bs s n) (i x d : Nat) (hi : i < n) (hx : x < s) (hd : d < bs) :
    Calls Try.prog 86 #[.pointer (some ⟨b, 0, none⟩), .int .i64 i, .int .i64 x, .int .i64 d] w fun e w' => e = .returned (.int .i64 (c.nx i x d : Nat)) ∧ ∃ m, w' = w.drewN m := by
  obtain ⟨bP, oP, p, bT, oT, A2, c2, rfl, k1, hp, rfl, k2, _, hr2⟩ := hr.table f hi
  obtain ⟨b2, o2, A1, c1, b1, o1, rfl, k3, rfl, k4⟩ := hr2.entry f hi hx hd
  have c4 := hb.cell 4
  have c5 := hb.cell 5
  have hn := f.len
  have hnP : nP = n := by have := hr.2.len; omega
  subst hnP
  have := f.n20; have := f.s36; have := f.b36
  have hnT := hr.1.le
  clear hb hr hr2 f
  go_enter Try.func86, Try.ntmps86
  go_wp2
  go_quiet (fail)
  go_wp2
  go_ret
  exact ⟨rfl, _, rfl⟩
set_option maxHeartbeats 1000000 in
theorem tableAt_any {B : Nat} (c : Ch) (AT AP : Option Addr) (nT cT nP cP : Nat) (w : World) (hr : ChRows B w c AT nT AP nP) (hB : B ≤ w.heap.size) {bs s n : Nat} (f : c.Fine bs s n) (i : Nat) (hi : i < n) :
    Calls Try.prog 90 #[chV c AT nT cT AP nP cP, .int .i64 i] w fun e w' => ∃ A2 c2, e = .returned (.slice A2 s c2) ∧ Rows2 B w' A2 s (c.tb i) ∧ Below w.heap.size w w' := by
  obtain ⟨w1, hw1⟩ : ∃ w1, w1 = w.alloc (.cells (chCells c AT nT cT AP nP cP) 48) := ⟨_, rfl⟩
  have bel : Below w.heap.size w w1 := by rw [hw1]; exact (Below.refl _ w).alloc (Nat.le_refl _) _
  have b1 : Blk w1 w.heap.size (chCells c AT nT cT AP nP cP) 48 := by rw [hw1]; exact Blk.new _ _ _
  obtain ⟨bP, oP, p, bT, oT, A2, c2, rfl, k1, hp, rfl, k2, _, hr2⟩ := (hr.below (bel.mono hB)).table f hi
  have c4 := b1.cell 4
  have c5 := b1.cell 5
  have hn := f.len
  have hnP : nP = n := by have := hr.2.len; omega
  subst hnP
  have := f.n20; have := f.s36; have := f.b36
  have hnT := hr.1.le
  have HR2 := Lib.hid hr2
  have BEL := Lib.hid bel
  clear b1 hr hr2 bel
  go_enter Try.func90, Try.ntmps90
  go_wp2_with fail
  rw [← hw1]
  have HW1 := Lib.hid hw1
  clear hw1
  go_quiet (fail)
  go_wp2
  go_ret
  exact ⟨A2, c2, rfl, HR2.out.drewN _, below_drewN BEL.out _⟩

abbrev ints (ds : List Nat) : List Int := ds.map fun d : Nat => (d : Int)
theorem ints_at {ds : List Nat} {k : Nat} {z : Int} (h : (ints ds)[k]? = some z) : ∃ d, ds[k]? = some d ∧ z = (d : Int) := by
  rw [List.getElem?_map] at h
  cases hd : ds[k]? with
  | none => rw [hd] at h; cases h
  | some d => rw [hd] at h; exact ⟨d, rfl, (Option.some.inj h).symm⟩
theorem take_snoc {ds : List Nat} {k d : Nat} (h : ds[k]? = some d) : ds.take (k + 1) = ds.take k ++ [d] := by
  rw [List.take_add_one, h]; rfl

set_option maxHeartbeats 1000000 in
theorem l02Run_any {B D b : Nat} (c : Ch) (AT AP : Option Addr) (nT cT nP cP : Nat) (w : World) (hb : Blk w b (chCells c AT nT cT AP nP cP) 48) (hr : ChRows B w c AT nT AP nP) {bs s n : Nat} (f : c.Fine bs s n)
    (Ad : Option Addr) (m cd : Nat) (ds : List Nat) (pl x : Nat) (hd : RowB .i64 D w Ad m (ints ds)) (hpl : pl + m ≤ n) (hx : x < s) (hds : ∀ d ∈ ds, d < bs) :
    Calls Try.prog 133 #[.pointer (some ⟨b, 0, none⟩), .int .i64 pl, .int .i64 x, .slice Ad m cd] w fun e w' => e = .returned (.int .i64 (c.run pl x ds : Nat)) ∧ ∃ q, w' = w.drewN q := by
  have hl : ds.length = m := by have := hd.len; simpa using this
  have hn20 := f.n20
  have hs36 := f.s36
  go_enter Try.func133, Try.ntmps133
  go_wp2
  go_loopw [2, 9] (fun v i wr => ∃ k : Nat, k ≤ m ∧ i = .int .i64 k ∧ (∃ y : Nat, v = .int .i64 y ∧ Hid (y = c.run pl x (ds.take k))) ∧ ∃ q, wr = w.drewN q) (fun _ i _ => m - (intOf i).toNat)
  case atStart => exact ⟨0, by omega, rfl, ⟨x, rfl, Lib.hid (by simp [Ch.run])⟩, 0, rfl⟩
  case round =>
    obtain ⟨k, hk, rfl, ⟨y, rfl, hy⟩, q, rfl⟩ := hrel
    by_cases hlt : k < m
    · obtain ⟨bd, od, z, rfl, _, hz, hc, _⟩ := hd.at_ hlt
      obtain ⟨d, hdk, rfl⟩ := ints_at hz
      have hys : y < s := by rw [hy.out]; exact f.run_lt _ (by simp; omega) hx fun e he => hds e (List.mem_of_mem_take he)
      have CN := l02Next_any c AT AP nT cT nP cP (w.drewN q) (hb.drewN q) (hr.drewN q) f (pl + k) y d (by omega) hys (hds d (List.mem_of_getElem? hdk))
      have HDK := Lib.hid hdk
      have HL : Hid (c.nx (pl + k) y d = c.run pl x (ds.take (k + 1))) := Lib.hid (by
        rw [take_snoc hdk, Ch.run_snoc, ← hy.out]; congr 1; simp; omega)
      clear hz hdk
      go_wp2_with fail
      rw [show (pl : Int) + (k : Int) = ((pl + k : Nat) : Int) by omega]
      (go_at_call 86; (with_reducible refine (CN).mono ?_); rintro e w2 ⟨rfl, q2, rfl⟩)
      clear CN
      go_wp2_with fail
      go_roundw
      case rel => exact ⟨k + 1, by omega, by go_num, ⟨_, rfl, HL⟩, _, rfl⟩
      case measure => simp [intOf]; omega
    · obtain rfl : m = k := by omega
      go_wp2
      go_ret
      exact ⟨ret_int (by rw [hy.out, List.take_of_length_le (by omega)]), q, rfl⟩
set_option maxHeartbeats 2000000 in
theorem lead_any {B D : Nat} (c : Ch) (AT AP : Option Addr) (nT cT nP cP : Nat) (w : World) (hr : ChRows B w c AT nT AP nP) (hB : B ≤ w.heap.size) {bs s n : Nat} (f : c.Fine bs s n)
    (Ad : Option Addr) (m cd : Nat) (ds : List Nat) (pl x : Nat) (hd : RowB .i64 D w Ad m (ints ds)) (hD : D ≤ w.heap.size) (hpl : pl + m ≤ n) (hx : x < s) (hds : ∀ d ∈ ds, d < bs) :
    Calls Try.prog 88 #[chV c AT nT cT AP nP cP, .int .i64 x, .int .i64 pl, .slice Ad m cd] w fun e w' => e = .returned (.int .i64 (c.run pl x ds : Nat)) ∧ Below w.heap.size w w' := by
  have hl : ds.length = m := by have := hd.len; simpa using this
  have hn20 := f.n20
  have hs36 := f.s36
  have hb36 := f.b36
  obtain ⟨w1, hw1⟩ : ∃ w1, w1 = w.alloc (.cells (chCells c AT nT cT AP nP cP) 48) := ⟨_, rfl⟩
  have bel : Below w.heap.size w w1 := by rw [hw1]; exact (Below.refl _ w).alloc (Nat.le_refl _) _
  have b1 : Blk w1 w.heap.size (chCells c AT nT cT AP nP cP) 48 := by rw [hw1]; exact Blk.new _ _ _
  have lt1 := b1.lt
  have BEL := Lib.hid bel
  have BLK := Lib.hid b1
  have LT1 := Lib.hid lt1
  clear bel b1 lt1
  go_enter Try.func88, Try.ntmps88
  go_wp2_with fail
  rw [← hw1]
  have HW1 := Lib.hid hw1
  clear hw1
  go_loopw [1, 9, 10, 13] (fun v _ _ i wr => ∃ k : Nat, k ≤ m ∧ i = .int .i64 k ∧ (∃ y : Nat, v = .int .i64 y ∧ Hid (y = c.run pl x (ds.take k))) ∧ Below w1.heap.size w1 wr) (fun _ _ _ i _ => m - (intOf i).toNat)
  case atStart => exact ⟨0, by omega, rfl, ⟨x, rfl, Lib.hid (by simp [Ch.run])⟩, Below.refl _ _⟩
  case round =>
    obtain ⟨k, hk, rfl, ⟨y, rfl, hy⟩, hbw⟩ := hrel
    have belr : Below w.heap.size w wr := BEL.out.trans (hbw.mono (Nat.le_of_lt LT1.out))
    by_cases hlt : k < m
    · obtain ⟨bd, od, z, rfl, _, hz, hc, _⟩ := (RowB.below hd (belr.mono hD)).at_ hlt
      obtain ⟨d, hdk, rfl⟩ := ints_at hz
      have hdb := hds d (List.mem_of_getElem? hdk)
      have hys : y < s := by rw [hy.out]; exact f.run_lt _ (by simp; omega) hx fun e he => hds e (List.mem_of_mem_take he)
      have br := BLK.out.below hbw LT1.out
      have q0 := br.cell 0
      have q1 := br.cell 1
      have q2 := br.cell 2
      have q3 := br.cell 3
      have q4 := br.cell 4
      have q5 := br.cell 5
      have CA := tableAt_any c AT AP nT cT nP cP wr (hr.below (belr.mono hB)) (Nat.le_trans hB belr.size) f (pl + k) (by omega)
      have HDK := Lib.hid hdk
      have HL : Hid (c.nx (pl + k) y d = c.run pl x (ds.take (k + 1))) := Lib.hid (by
        rw [take_snoc hdk, Ch.run_snoc, ← hy.out]; congr 1; simp; omega)
      have BW := Lib.hid hbw
      have BR := Lib.hid belr
      clear hz hdk br hbw belr
      go_wp2_with fail
      rw [show (pl : Int) + (k : Int) = ((pl + k : Nat) : Int) by omega]
      (go_at_call 90; (with_reducible refine (CA).mono ?_); rintro e w2 ⟨A2, c2, rfl, hr2, be2⟩)
      obtain ⟨b2, o2, A1, c1, b1, o1, rfl, k3, rfl, k4⟩ := hr2.entry f (by omega) hys hdb
      have BE2 := Lib.hid be2
      clear CA hr2 be2 q0 q1 q2 q3 q4 q5
      go_wp2_with fail
      go_roundw
      case rel => exact ⟨k + 1, by omega, by go_num, ⟨_, rfl, HL⟩, BW.out.trans (BE2.out.mono BW.out.size)⟩
      case measure => simp [intOf]; omega
    · obtain rfl : m = k := by omega
      have BR := Lib.hid belr
      clear belr hbw
      go_wp2_with fail
      go_ret
      exact ⟨ret_int (by rw [hy.out, List.take_of_length_le (by omega)]), BR.out⟩
end Go.Proofs.Yteggllmiapdmcaa
