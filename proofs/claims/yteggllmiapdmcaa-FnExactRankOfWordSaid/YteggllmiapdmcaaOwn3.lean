/-
  Copies of slices of slices of integers, two and three deep, that a call makes itself.
-/
import Derived.Test.YteggllmiapdmcaaOwn2
import Derived.Test.YteggllmiapdmcaaBlk
namespace Go.Proofs.Yteggllmiapdmcaa
open Go.RowKit

theorem infoS : (Try.prog.info? 34).map (fun i => (i.zero, i.size, i.bytes)) = some (some (.slice none 0 0), 1, 24) := by kernel_rfl
theorem infoSS : (Try.prog.info? 24).map (fun i => (i.zero, i.size, i.bytes)) = some (some (.slice none 0 0), 1, 24) := by kernel_rfl

/-- The slice at A of n slices of slices reads as the lists, and all of it lies below block B. -/
def Rows3 (B : Nat) (w : World) (A : Option Addr) (n : Nat) (z3 : List (List (List Int))) : Prop :=
  z3.length = n ∧ n ≤ maxLen ∧ ∀ j, j < n → ∃ b off Aj nj cj zss, A = some ⟨b, off, none⟩ ∧ b < B ∧ z3[j]? = some zss ∧ w.cell? ⟨b, off + j, none⟩ = some (.slice Aj nj cj) ∧ nj ≤ cj ∧ Rows2 B w Aj nj zss
section
variable {B B' : Nat} {w w' : World} {A : Option Addr} {n c : Nat} {z3 : List (List (List Int))}
theorem Rows3.below (h : Rows3 B w A n z3) (hb : Below B w w') : Rows3 B w' A n z3 :=
  ⟨h.1, h.2.1, fun j hj => by
    obtain ⟨b, off, Aj, nj, cj, zs, e, hlt, hz, hc, hn, hr⟩ := h.2.2 j hj
    exact ⟨b, off, Aj, nj, cj, zs, e, hlt, hz, (hb.cell (p := ⟨b, off + j, none⟩) hlt).trans hc, hn, Rows2.below hr hb⟩⟩
theorem Rows3.more (h : Rows3 B w A n z3) (hB : B ≤ B') : Rows3 B' w A n z3 :=
  ⟨h.1, h.2.1, fun j hj => by
    obtain ⟨b, off, Aj, nj, cj, zs, e, hlt, hz, hc, hn, hr⟩ := h.2.2 j hj
    exact ⟨b, off, Aj, nj, cj, zs, e, by omega, hz, hc, hn, Rows2.more hr hB⟩⟩
theorem Rows3.drewN (h : Rows3 B w A n z3) (m : Nat) : Rows3 B (w.drewN m) A n z3 := h
theorem Rows3.le (h : Rows3 B w A n z3) : n ≤ 9223372036854775807 := h.2.1
theorem Rows3.len (h : Rows3 B w A n z3) : z3.length = n := h.1
theorem Rows3.up (h : Rows3 B w A n z3) (hB : B ≤ w.heap.size) : Rows3 w.heap.size w A n z3 := h.more hB
end

theorem rep_set {L : List Value} {n k : Nat} {v u : Value} (hl : L.length = k) (hk : k < n) :
    (L ++ List.replicate (n - k) u).set k v = (L ++ [v]) ++ List.replicate (n - (k + 1)) u := by
  rw [List.set_append_right _ _ (by omega), hl, Nat.sub_self, show n - k = (n - (k + 1)) + 1 by omega, List.replicate_succ]
  simp

def Made2 (B : Nat) (n : Nat) (zss : List (List Int)) (w : World) (e : Ending) (w' : World) : Prop :=
  ∃ A c L, e = .returned (.slice A n c) ∧ Own2 B w' A n c L zss ∧ Below B w w'

/-- What stands after k rounds of the copying loop. -/
structure Part2 (B G : Nat) (w : World) (n k : Nat) (L : List SL) (zss : List (List Int)) : Prop where
  outer : w.ownsRow B 34 1 (.slice (some ⟨G, 0, none⟩) n n) n (L.map sliceV ++ List.replicate (n - k) nilV)
  len : L.length = k
  inner : ∀ (j : Nat) (t : SL) (zs : List Int), L[j]? = some t → zss[j]? = some zs → Own B w t.1 t.2.1 t.2.2 zs
  apart : ∀ (i j : Nat) (s t : SL) (g : Nat), L[i]? = some s → L[j]? = some t → i ≠ j → s.1 = some ⟨g, 0, none⟩ → t.1 ≠ some ⟨g, 0, none⟩

set_option maxHeartbeats 1000000 in
theorem toInt64SS_any {B0 : Nat} (A : Option Addr) (n c : Nat) (zss : List (List Int)) (w : World) (hr : Rows2 B0 w A n zss) (hB0 : B0 ≤ w.heap.size) (hn : n ≤ 1048576) (hs : ∀ zs ∈ zss, zs.length ≤ 1048576) :
    Calls Try.prog 93 #[.slice A n c] w (Made2 w.heap.size n zss w) := by
  obtain ⟨i0, hi, hz0, hz1, hz2⟩ := info_parts infoS
  have hle := hr.le
  go_enter Try.func93, Try.ntmps93
  go_wp2_with (refine wpList_make_full _ rfl _ _ 24 rfl w.heap.size 34 i0 nilV 1 Try.underlying24 hi hz0 hz1 .i64 .i64 n n n rfl rfl rfl rfl ?c1 ?c2 (Nat.le_refl _) ?_)
  case c1 => rw [hz2]; omega
  case c2 => unfold maxLen; omega
  intro w1 hown hg
  have hbel : Below w.heap.size w w1 := (Below.refl _ w).grown hg (Nat.le_refl _) (fun k hk => by cases hk)
  have hpart : Part2 w.heap.size w.heap.size w1 n 0 [] zss := by
    refine ⟨?_, rfl, fun j t zs h => by simp at h, fun i j s t g h => by simp at h⟩
    have e : ([] : List SL).map sliceV ++ List.replicate (n - 0) nilV = (madeCells #[nilV] n).toList := by
      simp [toList_madeCells_one]
    rw [e]; exact hown
  clear hown
  go_wp2
  go_loopw [4] (fun i wr => ∃ k : Nat, k ≤ n ∧ i = .int .i64 k ∧ ∃ L, Part2 w.heap.size w.heap.size wr n k L zss ∧ Below w.heap.size w wr) (fun i _ => n - (intOf i).toNat)
  case atStart => exact ⟨0, by omega, rfl, [], hpart, hbel⟩
  case round =>
    obtain ⟨k, hk, rfl, L, hp, hb⟩ := hrel
    by_cases hlt : k < n
    · obtain ⟨b, off, Aj, nj, cj, zs, rfl, hbb, hz, hc, hcap, hrow⟩ := (Rows2.below (hr.more hB0) hb).2.2 k hlt
      have hnj : nj ≤ 1048576 := by rw [← hrow.len]; exact hs _ (List.mem_of_getElem? hz)
      have CT : Calls Try.prog 78 #[.slice Aj nj cj] wr (Made wr.heap.size nj zs wr) := toInt64S_any Aj nj cj zs wr (hrow.up hb.size) hnj
      have HP := Lib.hid hp
      have HZ := Lib.hid hz
      have HR := Lib.hid hrow
      have hG : w.heap.size < wr.heap.size := by
        rcases ownsRow_form hp.outer with ⟨h0, _⟩ | ⟨g, hA, _, hl, _⟩
        · cases h0
        · injection hA with hA; injection hA with hA; omega
      clear hp hz hrow hpart
      go_wp2_with fail
      (go_at_call 78; (with_reducible refine (CT).mono ?_); rintro e w2 ⟨A', c', rfl, ho, hb2⟩)
      have hb2' : Below w.heap.size wr w2 := hb2.mono hb.size
      have hout : w2.ownsRow w.heap.size 34 1 (.slice (some ⟨w.heap.size, 0, none⟩) n n) n (L.map sliceV ++ List.replicate (n - k) nilV) :=
        ownsRow_keep HP.out.outer fun g hg => hb2.block g (by injection hg with hg; injection hg with hg; omega)
      have hlen := HP.out.len
      have hc2 : w2.cell? ⟨w.heap.size, k, none⟩ = some nilV := by
        rw [hout.cellAt k (by omega), List.getElem?_append_right (by simp [hlen])]
        simp [hlen, List.getElem?_replicate]; omega
      have hfr := hout.frozenAt k
      have hst := hout.stored k (.slice A' nj c')
      have HO := Lib.hid ho
      have hown_ne : ∀ g, A' = some ⟨g, 0, none⟩ → wr.heap.size ≤ g := ho.from
      clear ho
      go_wp2
      go_roundw
      case rel =>
        refine ⟨k + 1, by omega, by go_num, L ++ [(A', nj, c')], ?_, (hb.trans hb2').setCell (Nat.le_refl _) _⟩
        have hkeep : ∀ g, g ≠ w.heap.size → (w2.setCell ⟨w.heap.size, k, none⟩ (.slice A' nj c')).heap[g]? = w2.heap[g]? := fun g hg => Below.heap_setCell w2 ⟨w.heap.size, k, none⟩ _ g (fun e => hg e)
        have hnew : ∀ (j : Nat) (t : SL) (g : Nat), L[j]? = some t → t.1 = some ⟨g, 0, none⟩ → g < wr.heap.size ∧ g ≠ w.heap.size := by
          intro j t g ht hg
          have hj := (List.getElem?_eq_some_iff.1 ht).1
          have hzj : zss[j]? = some (zss[j]'(by have := hr.len; omega)) := List.getElem?_eq_getElem _
          have hi1 := HP.out.inner j t _ ht hzj
          refine ⟨hi1.lt g hg, fun e => ?_⟩
          subst e
          exact own_ne hi1.1 HP.out.outer (by decide) _ hg rfl
        refine ⟨?_, by simp [hlen], ?_, ?_⟩
        · have := hst.1
          rw [rep_set (by simp [hlen]) hlt] at this
          simpa using this
        · intro j t zs' ht hz'
          by_cases hj : j < L.length
          · rw [List.getElem?_append_left hj] at ht
            refine (HP.out.inner j t zs' ht hz').keep fun g hg => ?_
            have h2 := hnew j t g ht hg
            rw [hkeep g h2.2, hb2.block g h2.1]
          · have hj2 := (List.getElem?_eq_some_iff.1 ht).1
            simp at hj2
            obtain rfl : j = L.length := by omega
            simp at ht
            subst ht
            have e : zs' = zs := by have := HZ.out; rw [← hlen, hz'] at this; exact Option.some.inj this
            subst e
            exact (HO.out.lower hb.size).keep fun g hg => hkeep g (by have := hown_ne g hg; omega)
        · intro i j s t g hs ht hij hg
          have cases1 : ∀ (i : Nat) (s : SL), (L ++ [(A', nj, c')])[i]? = some s → L[i]? = some s ∧ i < L.length ∨ i = L.length ∧ s = (A', nj, c') := by
            intro i s hs
            by_cases hj : i < L.length
            · rw [List.getElem?_append_left hj] at hs; exact .inl ⟨hs, hj⟩
            · have hj2 := (List.getElem?_eq_some_iff.1 hs).1
              simp at hj2
              obtain rfl : i = L.length := by omega
              simp at hs
              exact .inr ⟨rfl, hs.symm⟩
          rcases cases1 i s hs with ⟨h1, _⟩ | ⟨rfl, rfl⟩ <;> rcases cases1 j t ht with ⟨h2, _⟩ | ⟨rfl, rfl⟩
          · exact HP.out.apart i j s t g h1 h2 hij hg
          · intro e
            have := hnew i s g h1 hg; have := hown_ne g e; omega
          · intro e
            have := hnew j t g h2 e; have := hown_ne g hg; omega
          · exact absurd rfl hij
      case measure => simp [intOf]; omega
    · obtain rfl : k = n := by omega
      have hl := hp.len
      go_wp2
      go_ret
      refine ⟨_, _, L, rfl, ⟨?_, by rw [hl]; exact hr.len.symm, hp.inner, hp.apart, ?_⟩, hb⟩
      · have := hp.outer
        simpa using this
      · intro j t g ht hg
        have hj := (List.getElem?_eq_some_iff.1 ht).1
        have hzj : zss[j]? = some (zss[j]'(by have := hr.len; omega)) := List.getElem?_eq_getElem _
        exact own_ne (hp.inner j t _ ht hzj).1 hp.outer (by decide) g hg

/-- The slice of slices of slices is the call's own; no two of its innermost slices share a block. -/
structure Own3 (B : Nat) (w : World) (A : Option Addr) (n c : Nat) (M : List SL) (LL : List (List SL)) (z3 : List (List (List Int))) : Prop where
  outer : w.ownsRow B 24 1 (.slice A n c) n (M.map sliceV)
  lenM : M.length = z3.length
  lenL : LL.length = z3.length
  inner : ∀ (j : Nat) (t : SL) (L : List SL) (zss : List (List Int)), M[j]? = some t → LL[j]? = some L → z3[j]? = some zss → Own2 B w t.1 t.2.1 t.2.2 L zss
  apart : ∀ (i j : Nat) (L L' : List SL) (s t : SL) (g : Nat), LL[i]? = some L → LL[j]? = some L' → i ≠ j → s ∈ L → t ∈ L' → s.1 = some ⟨g, 0, none⟩ → t.1 ≠ some ⟨g, 0, none⟩

section
variable {B B' : Nat} {w w' : World} {A : Option Addr} {n c : Nat} {z3 : List (List (List Int))} {M : List SL} {LL : List (List SL)}
theorem Own3.n_eq (h : Own3 B w A n c M LL z3) : M.length = n := by have := h.outer.1; simpa using this
theorem Own3.row (h : Own3 B w A n c M LL z3) : Rows3 w.heap.size w A n z3 := by
  have hn := h.n_eq
  have hl := h.lenM
  have hL := h.lenL
  have hf := ownsRow_form h.outer
  refine ⟨by omega, by rcases hf with ⟨_, h0, _⟩ | ⟨_, _, _, _, h1, h2⟩ <;> unfold maxLen at * <;> omega, fun j hj => ?_⟩
  rcases hf with ⟨_, h0, _⟩ | ⟨g, rfl, hb, hg, hnc, hcm⟩
  · omega
  · have ht : M[j]? = some (M[j]'(by omega)) := List.getElem?_eq_getElem (by omega)
    have hLj : LL[j]? = some (LL[j]'(by omega)) := List.getElem?_eq_getElem (by omega)
    have hz : z3[j]? = some (z3[j]'(by omega)) := List.getElem?_eq_getElem (by omega)
    have hi := h.inner j _ _ _ ht hLj hz
    have hc := h.outer.cellAt j (by omega)
    refine ⟨g, 0, _, _, _, _, rfl, hg, hz, ?_, hi.cap, hi.row⟩
    rw [Nat.zero_add, hc, List.getElem?_map, ht]; rfl
theorem Own3.keep (h : Own3 B w A n c M LL z3) (hk : ∀ g, B ≤ g → g < w.heap.size → w'.heap[g]? = w.heap[g]?) : Own3 B w' A n c M LL z3 :=
  ⟨ownsRow_keep h.outer fun g hg => by
    rcases ownsRow_form h.outer with ⟨hA, _⟩ | ⟨g', hA, hb, hl, _⟩
    · rw [hg] at hA; cases hA
    · rw [hg] at hA
      injection hA with hA
      injection hA with hA
      subst hA
      exact hk _ hb hl, h.lenM, h.lenL, fun j t L zss ht hL hz => (h.inner j t L zss ht hL hz).keep hk, h.apart⟩
theorem Own3.below (h : Own3 B w A n c M LL z3) (hb : Below w.heap.size w w') : Own3 B w' A n c M LL z3 :=
  h.keep fun g _ hg => hb.block g hg
theorem Own3.lower (h : Own3 B w A n c M LL z3) (hB : B' ≤ B) : Own3 B' w A n c M LL z3 :=
  ⟨ownsRow_lower h.outer hB, h.lenM, h.lenL, fun j t L zss ht hL hz => (h.inner j t L zss ht hL hz).lower hB, h.apart⟩
theorem Own3.cap (h : Own3 B w A n c M LL z3) : n ≤ c := by
  rcases ownsRow_form h.outer with ⟨_, h0, _⟩ | ⟨_, _, _, _, h1, _⟩ <;> omega
theorem Own2.lts {L : List SL} {zss : List (List Int)} (h : Own2 B w A n c L zss) : ∀ t ∈ L, ∀ g, t.1 = some ⟨g, 0, none⟩ → g < w.heap.size := by
  intro t ht g hg
  obtain ⟨j, hj, e⟩ := List.getElem_of_mem ht
  have h1 : L[j]? = some t := by rw [List.getElem?_eq_getElem hj, e]
  have hl := h.len
  have h2 : zss[j]? = some (zss[j]'(by omega)) := List.getElem?_eq_getElem (by omega)
  exact (h.inner j t _ h1 h2).lt g hg
end

def Made3 (B : Nat) (n : Nat) (z3 : List (List (List Int))) (w : World) (e : Ending) (w' : World) : Prop :=
  ∃ A c M LL, e = .returned (.slice A n c) ∧ Own3 B w' A n c M LL z3 ∧ Below B w w'

structure Part3 (B G : Nat) (w : World) (n k : Nat) (M : List SL) (LL : List (List SL)) (z3 : List (List (List Int))) : Prop where
  outer : w.ownsRow B 24 1 (.slice (some ⟨G, 0, none⟩) n n) n (M.map sliceV ++ List.replicate (n - k) nilV)
  len : M.length = k
  lenL : LL.length = k
  inner : ∀ (j : Nat) (t : SL) (L : List SL) (zss : List (List Int)), M[j]? = some t → LL[j]? = some L → z3[j]? = some zss → Own2 (G + 1) w t.1 t.2.1 t.2.2 L zss
  apart : ∀ (i j : Nat) (L L' : List SL) (s t : SL) (g : Nat), LL[i]? = some L → LL[j]? = some L' → i ≠ j → s ∈ L → t ∈ L' → s.1 = some ⟨g, 0, none⟩ → t.1 ≠ some ⟨g, 0, none⟩

theorem snoc_cases {α : Type} {L : List α} {x s : α} {i : Nat} (hs : (L ++ [x])[i]? = some s) : (L[i]? = some s ∧ i < L.length) ∨ (i = L.length ∧ s = x) := by
  by_cases hj : i < L.length
  · rw [List.getElem?_append_left hj] at hs; exact .inl ⟨hs, hj⟩
  · have hj2 := (List.getElem?_eq_some_iff.1 hs).1
    simp at hj2
    obtain rfl : i = L.length := by omega
    simp at hs
    exact .inr ⟨rfl, hs.symm⟩

set_option maxHeartbeats 1000000 in
theorem toInt64SSS_any {B0 : Nat} (A : Option Addr) (n c : Nat) (z3 : List (List (List Int))) (w : World) (hr : Rows3 B0 w A n z3) (hB0 : B0 ≤ w.heap.size) (hn : n ≤ 1048576) (hs : ∀ zss ∈ z3, zss.length ≤ 1048576 ∧ ∀ zs ∈ zss, zs.length ≤ 1048576) :
    Calls Try.prog 77 #[.slice A n c] w (Made3 w.heap.size n z3 w) := by
  obtain ⟨i0, hi, hz0, hz1, hz2⟩ := info_parts infoSS
  have hle := hr.le
  go_enter Try.func77, Try.ntmps77
  go_wp2_with (refine wpList_make_full _ rfl _ _ 43 rfl w.heap.size 24 i0 nilV 1 Try.underlying43 hi hz0 hz1 .i64 .i64 n n n rfl rfl rfl rfl ?c1 ?c2 (Nat.le_refl _) ?_)
  case c1 => rw [hz2]; omega
  case c2 => unfold maxLen; omega
  intro w1 hown hg
  have hbel : Below w.heap.size w w1 := (Below.refl _ w).grown hg (Nat.le_refl _) (fun k hk => by cases hk)
  have hpart : Part3 w.heap.size w.heap.size w1 n 0 [] [] z3 := by
    refine ⟨?_, rfl, rfl, fun j t L zs h => by simp at h, fun i j L L' s t g h => by simp at h⟩
    have e : ([] : List SL).map sliceV ++ List.replicate (n - 0) nilV = (madeCells #[nilV] n).toList := by
      simp [toList_madeCells_one]
    rw [e]; exact hown
  clear hown
  go_wp2
  go_loopw [4] (fun i wr => ∃ k : Nat, k ≤ n ∧ i = .int .i64 k ∧ ∃ M LL, Part3 w.heap.size w.heap.size wr n k M LL z3 ∧ Below w.heap.size w wr) (fun i _ => n - (intOf i).toNat)
  case atStart => exact ⟨0, by omega, rfl, [], [], hpart, hbel⟩
  case round =>
    obtain ⟨k, hk, rfl, M, LL, hp, hb⟩ := hrel
    by_cases hlt : k < n
    · obtain ⟨b, off, Aj, nj, cj, zss, rfl, hbb, hz, hc, hcap, hrow⟩ := (Rows3.below (hr.more hB0) hb).2.2 k hlt
      have hsz := hs _ (List.mem_of_getElem? hz)
      have hnj : nj ≤ 1048576 := by rw [← hrow.len]; exact hsz.1
      have CT : Calls Try.prog 93 #[.slice Aj nj cj] wr (Made2 wr.heap.size nj zss wr) := toInt64SS_any Aj nj cj zss wr hrow hb.size hnj hsz.2
      have HP := Lib.hid hp
      have HZ := Lib.hid hz
      have HR := Lib.hid hrow
      have hG : w.heap.size < wr.heap.size := by
        rcases ownsRow_form hp.outer with ⟨h0, _⟩ | ⟨g, hA, _, hl, _⟩
        · cases h0
        · injection hA with hA; injection hA with hA; omega
      clear hp hz hrow hpart hsz
      go_wp2_with fail
      (go_at_call 93; (with_reducible refine (CT).mono ?_); rintro e w2 ⟨A', c', L', rfl, ho, hb2⟩)
      have hb2' : Below w.heap.size wr w2 := hb2.mono hb.size
      have hout : w2.ownsRow w.heap.size 24 1 (.slice (some ⟨w.heap.size, 0, none⟩) n n) n (M.map sliceV ++ List.replicate (n - k) nilV) :=
        ownsRow_keep HP.out.outer fun g hg => hb2.block g (by injection hg with hg; injection hg with hg; omega)
      have hlen := HP.out.len
      have hlenL := HP.out.lenL
      have hc2 : w2.cell? ⟨w.heap.size, k, none⟩ = some nilV := by
        rw [hout.cellAt k (by omega), List.getElem?_append_right (by simp [hlen])]
        simp [hlen, List.getElem?_replicate]; omega
      have hfr := hout.frozenAt k
      have hst := hout.stored k (.slice A' nj c')
      have HO := Lib.hid ho
      clear ho
      go_wp2
      go_roundw
      case rel =>
        refine ⟨k + 1, by omega, by go_num, M ++ [(A', nj, c')], LL ++ [L'], ?_, (hb.trans hb2').setCell (Nat.le_refl _) _⟩
        have hkeep : ∀ g, g ≠ w.heap.size → (w2.setCell ⟨w.heap.size, k, none⟩ (.slice A' nj c')).heap[g]? = w2.heap[g]? := fun g hg => Below.heap_setCell w2 ⟨w.heap.size, k, none⟩ _ g (fun e => hg e)
        have hold : ∀ (j : Nat) (t : SL) (L : List SL) (zss' : List (List Int)), M[j]? = some t → LL[j]? = some L → z3[j]? = some zss' → Own2 (w.heap.size + 1) (w2.setCell ⟨w.heap.size, k, none⟩ (.slice A' nj c')) t.1 t.2.1 t.2.2 L zss' :=
          fun j t L zss' h1 h2 h3 => (HP.out.inner j t L zss' h1 h2 h3).keep fun g hg1 hg2 => by rw [hkeep g (by omega), hb2.block g hg2]
        have hlow : ∀ (j : Nat) (L : List SL), LL[j]? = some L → ∀ s ∈ L, ∀ g, s.1 = some ⟨g, 0, none⟩ → g < wr.heap.size := by
          intro j L hL
          have hj := (List.getElem?_eq_some_iff.1 hL).1
          have h1 : M[j]? = some (M[j]'(by omega)) := List.getElem?_eq_getElem _
          have h3 : z3[j]? = some (z3[j]'(by have := hr.len; omega)) := List.getElem?_eq_getElem _
          exact (HP.out.inner j _ L _ h1 hL h3).lts
        refine ⟨?_, by simp [hlen], by simp [hlenL], ?_, ?_⟩
        · have := hst.1
          rw [rep_set (by simp [hlen]) hlt] at this
          simpa using this
        · intro j t L zss' ht hL hz'
          rcases snoc_cases ht with ⟨h1, hj⟩ | ⟨rfl, rfl⟩
          · rw [List.getElem?_append_left (by omega)] at hL
            exact hold j t L zss' h1 hL hz'
          · have e1 : L = L' := by
              rcases snoc_cases hL with ⟨_, h2⟩ | ⟨_, h2⟩
              · omega
              · exact h2
            subst e1
            have e : zss' = zss := by have := HZ.out; rw [← hlen, hz'] at this; exact Option.some.inj this
            subst e
            exact (HO.out.lower (by omega : w.heap.size + 1 ≤ wr.heap.size)).keep fun g hg _ => hkeep g (by omega)
        · intro i j L1 L2 s t g hL1 hL2 hij hs1 ht1 hg
          rcases snoc_cases hL1 with ⟨h1, _⟩ | ⟨rfl, rfl⟩ <;> rcases snoc_cases hL2 with ⟨h2, _⟩ | ⟨rfl, rfl⟩
          · exact HP.out.apart i j L1 L2 s t g h1 h2 hij hs1 ht1 hg
          · intro e
            have := hlow i L1 h1 s hs1 g hg; have := HO.out.from t ht1 g e; omega
          · intro e
            have := hlow j L2 h2 t ht1 g e; have := HO.out.from s hs1 g hg; omega
          · exact absurd rfl hij
      case measure => simp [intOf]; omega
    · obtain rfl : k = n := by omega
      have hl := hp.len
      have hlL := hp.lenL
      go_wp2
      go_ret
      refine ⟨_, _, M, LL, rfl, ⟨?_, by rw [hl]; exact hr.len.symm, by rw [hlL]; exact hr.len.symm, fun j t L zss h1 h2 h3 => (hp.inner j t L zss h1 h2 h3).lower (by omega), hp.apart⟩, hb⟩
      have := hp.outer
      simpa using this
end Go.Proofs.Yteggllmiapdmcaa
