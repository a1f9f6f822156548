/-
  Slices of slices of integers that a call makes itself, and the contracts of the laws' helpers over them.
-/
import Derived.Test.YteggllmiapdmcaaOwnK
namespace Go.Proofs.Yteggllmiapdmcaa
open Go.RowKit

abbrev SL := Option Addr × Nat × Nat
abbrev sliceV (t : SL) : Value := .slice t.1 t.2.1 t.2.2
abbrev lens (L : List SL) : List Nat := L.map (·.2.1)

/-- The slice at A of n slices reads as the lists zss, and all of it lies below block B. -/
def Rows2 (B : Nat) (w : World) (A : Option Addr) (n : Nat) (zss : List (List Int)) : Prop :=
  zss.length = n ∧ n ≤ maxLen ∧ ∀ j, j < n → ∃ b off Aj nj cj zs, A = some ⟨b, off, none⟩ ∧ b < B ∧ zss[j]? = some zs ∧ w.cell? ⟨b, off + j, none⟩ = some (.slice Aj nj cj) ∧ nj ≤ cj ∧ RowB .i64 B w Aj nj zs

section
variable {B B' : Nat} {w w' : World} {A : Option Addr} {n c : Nat} {zss : List (List Int)} {L : List SL}
theorem Rows2.below (h : Rows2 B w A n zss) (hb : Below B w w') : Rows2 B w' A n zss :=
  ⟨h.1, h.2.1, fun j hj => by
    obtain ⟨b, off, Aj, nj, cj, zs, e, hlt, hz, hc, hn, hr⟩ := h.2.2 j hj
    exact ⟨b, off, Aj, nj, cj, zs, e, hlt, hz, (hb.cell (p := ⟨b, off + j, none⟩) hlt).trans hc, hn, RowB.below hr hb⟩⟩
theorem Rows2.more (h : Rows2 B w A n zss) (hB : B ≤ B') : Rows2 B' w A n zss :=
  ⟨h.1, h.2.1, fun j hj => by
    obtain ⟨b, off, Aj, nj, cj, zs, e, hlt, hz, hc, hn, hr⟩ := h.2.2 j hj
    exact ⟨b, off, Aj, nj, cj, zs, e, by omega, hz, hc, hn, RowB.more hr hB⟩⟩
theorem Rows2.drewN (h : Rows2 B w A n zss) (m : Nat) : Rows2 B (w.drewN m) A n zss := h
theorem Rows2.le (h : Rows2 B w A n zss) : n ≤ 9223372036854775807 := h.2.1
theorem Rows2.len (h : Rows2 B w A n zss) : zss.length = n := h.1
theorem Rows2.up (h : Rows2 B w A n zss) (hB : B ≤ w.heap.size) : Rows2 w.heap.size w A n zss := h.more hB

/-- The slice of slices is the call's own: the outer one and all inner ones, in blocks from B on, each in its own block. -/
structure Own2 (B : Nat) (w : World) (A : Option Addr) (n c : Nat) (L : List SL) (zss : List (List Int)) : Prop where
  outer : w.ownsRow B 34 1 (.slice A n c) n (L.map sliceV)
  len : L.length = zss.length
  inner : ∀ (j : Nat) (t : SL) (zs : List Int), L[j]? = some t → zss[j]? = some zs → Own B w t.1 t.2.1 t.2.2 zs
  apart : ∀ (i j : Nat) (s t : SL) (g : Nat), L[i]? = some s → L[j]? = some t → i ≠ j → s.1 = some ⟨g, 0, none⟩ → t.1 ≠ some ⟨g, 0, none⟩
  out : ∀ (j : Nat) (t : SL) (g : Nat), L[j]? = some t → t.1 = some ⟨g, 0, none⟩ → A ≠ some ⟨g, 0, none⟩

theorem Own2.n_eq (h : Own2 B w A n c L zss) : L.length = n := by have := h.outer.1; simpa using this
theorem Own2.row (h : Own2 B w A n c L zss) : Rows2 w.heap.size w A n zss := by
  have hn := h.n_eq
  have hl := h.len
  have hf := ownsRow_form h.outer
  refine ⟨by omega, by rcases hf with ⟨_, h0, _⟩ | ⟨_, _, _, _, h1, h2⟩ <;> unfold maxLen at * <;> omega, fun j hj => ?_⟩
  rcases hf with ⟨_, h0, _⟩ | ⟨g, rfl, hb, hg, hnc, hcm⟩
  · omega
  · have ht : L[j]? = some (L[j]'(by omega)) := List.getElem?_eq_getElem (by omega)
    have hz : zss[j]? = some (zss[j]'(by omega)) := List.getElem?_eq_getElem (by omega)
    have hi := h.inner j _ _ ht hz
    have hc := h.outer.cellAt j (by omega)
    refine ⟨g, 0, _, _, _, _, rfl, hg, hz, ?_, hi.cap, hi.row⟩
    rw [Nat.zero_add, hc, List.getElem?_map, ht]; rfl
/-- It stays where its blocks stay. -/
theorem Own2.keep (h : Own2 B w A n c L zss) (hk : ∀ g, B ≤ g → g < w.heap.size → w'.heap[g]? = w.heap[g]?) : Own2 B w' A n c L zss :=
  ⟨ownsRow_keep h.outer fun g hg => by
    rcases ownsRow_form h.outer with ⟨hA, _⟩ | ⟨g', hA, hb, hl, _⟩
    · rw [hg] at hA; cases hA
    · rw [hg] at hA
      injection hA with hA
      injection hA with hA
      subst hA
      exact hk _ hb hl, h.len, fun j t zs ht hz => (h.inner j t zs ht hz).keep fun g hg => hk g ((h.inner j t zs ht hz).from g hg) ((h.inner j t zs ht hz).lt g hg), h.apart, h.out⟩
theorem Own2.below (h : Own2 B w A n c L zss) (hb : Below w.heap.size w w') : Own2 B w' A n c L zss :=
  h.keep fun g _ hg => hb.block g hg
theorem Own2.drewN (h : Own2 B w A n c L zss) (m : Nat) : Own2 B (w.drewN m) A n c L zss := h.keep fun _ _ _ => rfl
theorem Own2.lower (h : Own2 B w A n c L zss) (hB : B' ≤ B) : Own2 B' w A n c L zss :=
  ⟨ownsRow_lower h.outer hB, h.len, fun j t zs ht hz => (h.inner j t zs ht hz).lower hB, h.apart, h.out⟩
theorem Own2.cap (h : Own2 B w A n c L zss) : n ≤ c := by
  rcases ownsRow_form h.outer with ⟨_, h0, _⟩ | ⟨_, _, _, _, h1, _⟩ <;> omega
/-- None of them all. -/
theorem Own2.nil (w : World) (B : Nat) : Own2 B w none 0 0 [] [] :=
  ⟨⟨rfl, .inl ⟨rfl, rfl⟩⟩, rfl, fun j t zs ht _ => by simp at ht, fun i j s t g hs => by simp at hs, fun j t g ht => by simp at ht⟩
/-- Slices of different kinds of elements lie in different blocks. -/
theorem own_ne {B1 B2 : Nat} {t1 t2 : TypeId} {A1 A2 : Option Addr} {n1 n2 c1 c2 m1 m2 : Nat} {x1 x2 : List Value} (h1 : w.ownsRow B1 t1 m1 (.slice A1 n1 c1) n1 x1) (h2 : w.ownsRow B2 t2 m2 (.slice A2 n2 c2) n2 x2) (ht : t1 ≠ t2) (g : Nat) (e1 : A1 = some ⟨g, 0, none⟩) : A2 ≠ some ⟨g, 0, none⟩ := by
  intro e2
  rcases h1.2 with ⟨hv, _⟩ | ⟨g1, cap, cur, hv, _, hg, _⟩
  · injection hv with h _ _; rw [e1] at h; cases h
  · rcases h2.2 with ⟨hv2, _⟩ | ⟨g2, cap2, cur2, hv2, _, hg2, _⟩
    · injection hv2 with h _ _; rw [e2] at h; cases h
    · injection hv with h _ _
      injection hv2 with h' _ _
      rw [e1] at h
      rw [e2] at h'
      injection h with h
      injection h with h
      injection h' with h'
      injection h' with h'
      subst h; subst h'
      rw [hg] at hg2
      injection hg2 with hg2
      injection hg2 with _ hg2
      exact ht hg2
/-- Behind an append of an inner slice that the call has made. -/
theorem Own2.snoc {A' : Option Addr} {c' : Nat} {t : SL} {zs : List Int} (h : Own2 B w A n c L zss) (ho : w'.ownsRow B 34 1 (.slice A' (n + 1) c') (n + 1) (L.map sliceV ++ [sliceV t]))
    (hi : Own B w' t.1 t.2.1 t.2.2 zs) (hk : ∀ (j : Nat) (s : SL) (g : Nat), L[j]? = some s → s.1 = some ⟨g, 0, none⟩ → w'.heap[g]? = w.heap[g]?)
    (ha : ∀ (j : Nat) (s : SL) (g : Nat), L[j]? = some s → s.1 = some ⟨g, 0, none⟩ → t.1 ≠ some ⟨g, 0, none⟩) :
    Own2 B w' A' (n + 1) c' (L ++ [t]) (zss ++ [zs]) := by
  have hl := h.len
  have split : ∀ (j : Nat) (s : SL), (L ++ [t])[j]? = some s → L[j]? = some s ∧ j < L.length ∨ j = L.length ∧ s = t := by
    intro j s hs
    by_cases hj : j < L.length
    · rw [List.getElem?_append_left hj] at hs; exact .inl ⟨hs, hj⟩
    · have hj2 : j < (L ++ [t]).length := (List.getElem?_eq_some_iff.1 hs).1
      simp at hj2
      obtain rfl : j = L.length := by omega
      simp at hs
      exact .inr ⟨rfl, hs.symm⟩
  refine ⟨by simpa using ho, by simp [hl], ?_, ?_, ?_⟩
  · intro j s ys hs hy
    rcases split j s hs with ⟨h1, hj⟩ | ⟨rfl, rfl⟩
    · rw [List.getElem?_append_left (by omega)] at hy
      exact (h.inner j s ys h1 hy).keep fun g hg => hk j s g h1 hg
    · rw [hl] at hy
      simp at hy
      subst hy; exact hi
  · intro i j s u g hs hu hij hg
    rcases split i s hs with ⟨h1, hi1⟩ | ⟨rfl, rfl⟩
    · rcases split j u hu with ⟨h2, hj1⟩ | ⟨rfl, rfl⟩
      · exact h.apart i j s u g h1 h2 hij hg
      · exact ha i s g h1 hg
    · rcases split j u hu with ⟨h2, hj1⟩ | ⟨rfl, rfl⟩
      · intro hu2
        exact ha j u g h2 hu2 hg
      · exact absurd rfl hij
  · intro j s g hs hg
    rcases split j s hs with ⟨h1, hj⟩ | ⟨rfl, rfl⟩
    · have hz : zss[j]? = some (zss[j]'(by omega)) := List.getElem?_eq_getElem (by omega)
      exact own_ne ((h.inner j s _ h1 hz).keep fun g hg => hk j s g h1 hg).1 ho (by decide) g hg
    · exact own_ne hi.1 ho (by decide) g hg
end

/-- Of what was there only the blocks of the slices of L may have turned. -/
structure OnlyL (L : List SL) (w w' : World) : Prop where
  os : w'.os = w.os
  tape : w'.tape = w.tape
  output : w'.output = w.output
  size : w'.heap.size = w.heap.size
  block : ∀ g, (∀ t ∈ L, t.1 ≠ some ⟨g, 0, none⟩) → w'.heap[g]? = w.heap[g]?
theorem OnlyL.refl (L : List SL) (w : World) : OnlyL L w w := ⟨rfl, rfl, rfl, rfl, fun _ _ => rfl⟩
theorem OnlyL.step {L : List SL} {a b c : World} {t : SL} (h : OnlyL L a b) (ht : t ∈ L) (k : Only t.1 b c) : OnlyL L a c :=
  ⟨k.os.trans h.os, k.tape.trans h.tape, k.output.trans h.output, k.size.trans h.size, fun g hg => (k.block g (hg t ht)).trans (h.block g hg)⟩
theorem OnlyL.below {L : List SL} {B : Nat} {w w' : World} (h : OnlyL L w w') (hB : ∀ t ∈ L, ∀ g, t.1 = some ⟨g, 0, none⟩ → B ≤ g) : Below B w w' :=
  ⟨h.os, h.tape, h.output, by rw [h.size]; exact Nat.le_refl _, fun k hk => h.block k fun t ht e => by have := hB t ht k e; omega⟩
theorem Own2.from {B : Nat} {w : World} {A : Option Addr} {n c : Nat} {zss : List (List Int)} {L : List SL} (h : Own2 B w A n c L zss) : ∀ t ∈ L, ∀ g, t.1 = some ⟨g, 0, none⟩ → B ≤ g := by
  intro t ht g hg
  obtain ⟨j, hj, e⟩ := List.getElem_of_mem ht
  have h1 : L[j]? = some t := by rw [List.getElem?_eq_getElem hj, e]
  have hl := h.len
  have h2 : zss[j]? = some (zss[j]'(by omega)) := List.getElem?_eq_getElem (by omega)
  exact (h.inner j t _ h1 h2).from g hg

def marks2 (k : Nat) : List Nat → List (List Int)
  | [] => []
  | n :: r => marks k n :: marks2 (k + n) r
theorem marks2_len (k : Nat) (ns : List Nat) : (marks2 k ns).length = ns.length := by
  induction ns generalizing k with
  | nil => rfl
  | cons n r ih => simp [marks2, ih]
theorem marks2_at (k : Nat) (ns : List Nat) (j n : Nat) (h : ns[j]? = some n) : (marks2 k ns)[j]? = some (marks (k + (ns.take j).sum) n) := by
  induction ns generalizing k j with
  | nil => simp at h
  | cons m r ih =>
    cases j with
    | zero => simp at h; subst h; simp [marks2]
    | succ j =>
      simp at h
      simp only [marks2, List.getElem?_cons_succ, List.take_succ_cons, List.sum_cons]
      rw [ih (k + m) j h, Nat.add_assoc]
theorem sum_take_succ {ns : List Nat} {j n : Nat} (h : ns[j]? = some n) : (ns.take (j + 1)).sum = (ns.take j).sum + n := by
  rw [List.take_add_one, h]; simp
theorem sum_take_le (ns : List Nat) (j : Nat) : (ns.take j).sum ≤ ns.sum := by
  have := congrArg List.sum (List.take_append_drop j ns)
  rw [List.sum_append] at this
  omega
/-- The lists with marks in the first j of them. -/
def half (k j : Nat) (ns : List Nat) (zss : List (List Int)) : List (List Int) := (marks2 k ns).take j ++ zss.drop j
theorem half_len {k j : Nat} {ns : List Nat} {zss : List (List Int)} (h : ns.length = zss.length) (hj : j ≤ ns.length) : (half k j ns zss).length = zss.length := by
  simp [half, marks2_len]; omega
theorem half_lo {k j i : Nat} {ns : List Nat} {zss : List (List Int)} (h : i < j) (hj : j ≤ ns.length) : (half k j ns zss)[i]? = (marks2 k ns)[i]? := by
  unfold half
  rw [List.getElem?_append_left (by simp [marks2_len]; omega), List.getElem?_take, if_pos h]
theorem half_hi {k j i : Nat} {ns : List Nat} {zss : List (List Int)} (h : j ≤ i) (hj : j ≤ ns.length) : (half k j ns zss)[i]? = zss[i]? := by
  unfold half
  have hl : ((marks2 k ns).take j).length = j := by simp [marks2_len]; omega
  rw [List.getElem?_append_right (by omega), List.getElem?_drop, hl]
  congr 1; omega

set_option maxHeartbeats 400000 in
theorem eqInt64SS_any {B1 B2 : Nat} (A1 A2 : Option Addr) (n c1 c2 : Nat) (zss : List (List Int)) (w : World) (h1 : Rows2 B1 w A1 n zss) (h2 : Rows2 B2 w A2 n zss) :
    Calls Try.prog 94 #[.slice A1 n c1, .slice A2 n c2] w fun e w' => e = .returned (.bool true) ∧ ∃ m, w' = w.drewN m := by
  have hle := h1.le
  go_enter Try.func94, Try.ntmps94
  go_wp2
  go_loopw [5] (fun i wr => ∃ k : Nat, k ≤ n ∧ i = .int .i64 k ∧ ∃ m, wr = w.drewN m) (fun i _ => n - (intOf i).toNat)
  case atStart => exact ⟨0, by omega, rfl, 0, rfl⟩
  case round =>
    obtain ⟨k, hk, rfl, m, rfl⟩ := hrel
    by_cases hlt : k < n
    · obtain ⟨b1, o1, A1j, n1, c1j, zs, rfl, _, hz1, hc1, hn1, r1⟩ := h1.2.2 k hlt
      obtain ⟨b2, o2, A2j, n2, c2j, zs2, rfl, _, hz2, hc2, hn2, r2⟩ := h2.2.2 k hlt
      obtain rfl : zs = zs2 := by rw [hz1] at hz2; exact Option.some.inj hz2
      obtain rfl : n1 = n2 := r1.1.symm.trans r2.1
      have hc1' : (w.drewN m).cell? ⟨b1, o1 + k, none⟩ = some (.slice A1j n1 c1j) := hc1
      have hc2' : (w.drewN m).cell? ⟨b2, o2 + k, none⟩ = some (.slice A2j n1 c2j) := hc2
      have CE : ∀ q, Calls Try.prog 83 #[.slice A1j n1 c1j, .slice A2j n1 c2j] (w.drewN q) fun e w' => e = .returned (.bool true) ∧ ∃ m, w' = (w.drewN q).drewN m := fun q => eqInt64S_any A1j A2j n1 c1j c2j zs (w.drewN q) (r1.drewN q) (r2.drewN q)
      clear hz1 hz2 h1 h2
      go_wp2
      go_quiet ((go_at_call 83; exact (CE _).mono fun _ _ ⟨he, _, hm⟩ => ⟨he, _, hm.trans ((World.drewN_drewN _ _ _).trans (by rw [Nat.add_assoc]))⟩))
      go_wp2
      go_roundw
      case rel => exact ⟨k + 1, by omega, by go_num, _, rfl⟩
      case measure => simp [intOf]; omega
    · obtain rfl : k = n := by omega
      go_wp2
      go_ret
      exact ⟨rfl, m, rfl⟩
def Marked2 (B : Nat) (A : Option Addr) (n c k : Nat) (K : Int) (L : List SL) (w : World) (e : Ending) (w' : World) : Prop :=
  e = .returned (.int .i64 (K + ((lens L).sum : Nat))) ∧ Own2 B w' A n c L (marks2 k (lens L)) ∧ OnlyL L w w'
set_option maxHeartbeats 1000000 in
theorem mark2_any {B : Nat} (A : Option Addr) (n c : Nat) (K : Int) (k : Nat) (hK : K = k) (L : List SL) (zss : List (List Int)) (w : World) (h : Own2 B w A n c L zss) (hk0 : k + (lens L).sum ≤ 1000000000000) :
    Calls Try.prog 97 #[.slice A n c, .int .i64 K] w (Marked2 B A n c k K L w) := by
  subst hK
  have hn := h.n_eq
  have hl := h.len
  have hle := h.row.le
  go_enter Try.func97, Try.ntmps97
  go_wp2
  go_loopw [1, 5] (fun q i wr => ∃ j : Nat, j ≤ n ∧ i = .int .i64 j ∧ q = .int .i64 ((k : Int) + (((lens L).take j).sum : Nat)) ∧ Own2 B wr A n c L (half k j (lens L) zss) ∧ OnlyL L w wr) (fun _ i _ => n - (intOf i).toNat)
  case atStart => exact ⟨0, by omega, rfl, by simp, by simpa [half] using h, OnlyL.refl _ _⟩
  case round =>
    obtain ⟨j, hj, rfl, rfl, ho, hon⟩ := hrel
    have hlenL : (lens L).length = n := by simp [hn]
    by_cases hlt : j < n
    · have hLj : L[j]? = some (L[j]'(by omega)) := List.getElem?_eq_getElem (by omega)
      obtain ⟨t, ht⟩ : ∃ t, t = L[j]'(by omega) := ⟨_, rfl⟩
      rw [← ht] at hLj
      have hzj : zss[j]? = some (zss[j]'(by omega)) := List.getElem?_eq_getElem (by omega)
      obtain ⟨zs, hzs⟩ : ∃ zs, zs = zss[j]'(by omega) := ⟨_, rfl⟩
      rw [← hzs] at hzj
      have hlj : (lens L)[j]? = some t.2.1 := by simp [hLj]
      have hi := ho.inner j t zs hLj (by rw [half_hi (Nat.le_refl _) (by omega)]; exact hzj)
      obtain ⟨g, rfl⟩ : ∃ g, A = some ⟨g, 0, none⟩ := by
        rcases ownsRow_form ho.outer with ⟨_, h0, _⟩ | ⟨g, hA, _⟩
        · omega
        · exact ⟨g, hA⟩
      have hc : wr.cell? ⟨g, j, none⟩ = some (.slice t.1 t.2.1 t.2.2) := by
        rw [ho.outer.cellAt j (by omega), List.getElem?_map, hLj]; rfl
      have hs1 := sum_take_succ hlj
      have hs2 := sum_take_le (lens L) (j + 1)
      obtain ⟨S, hS⟩ : ∃ S, S = ((lens L).take j).sum := ⟨_, rfl⟩
      rw [← hS] at hs1
      have hcap := hi.cap
      obtain ⟨At, nt, ct⟩ := t
      have CM : Calls Try.prog 136 #[.slice At nt ct, .int .i64 ((k : Int) + (S : Int))] wr (MarkedI B At nt ct (k + S) ((k : Int) + (S : Int)) wr) := mark_any At nt ct _ (k + S) (by omega) zs wr hi (by simp at hs1; omega)
      have HLJ := Lib.hid hLj
      have HLJ2 := Lib.hid hlj
      have HHI := Lib.hid hi
      have HS1 := Lib.hid hs1
      have HS := Lib.hid hS
      have HZJ := Lib.hid hzj
      rw [← hS]
      clear hLj hlj ht hzs hi hs1 hs2 hS hzj
      go_wp2_with fail
      (go_at_call 136; (with_reducible refine (CM).mono ?_); rintro e w1 ⟨rfl, hm, hk1⟩)
      have X : Own2 B w1 (some ⟨g, 0, none⟩) n c L (half k (j + 1) (lens L) zss) := by
        have hlj := HLJ2.out
        refine ⟨ownsRow_keep ho.outer fun g' hg' => hk1.block g' fun e => ho.out j _ g' HLJ.out e hg', by rw [half_len (by omega) (by omega)]; exact hl, ?_, ho.apart, ho.out⟩
        intro i s ys hs hy
        rcases Nat.lt_trichotomy i j with hij | rfl | hij
        · have hy2 : (half k j (lens L) zss)[i]? = some ys := by
            rw [half_lo (by omega) (by omega)] at hy ⊢; exact hy
          exact (ho.inner i s ys hs hy2).keep fun g' hg' => hk1.block g' fun e => ho.apart i j s _ g' hs HLJ.out (by omega) hg' e
        · have e1 : s = (At, nt, ct) := by have := HLJ.out; rw [hs] at this; exact Option.some.inj this
          subst e1
          rw [half_lo (by omega) (by omega), marks2_at k (lens L) i _ hlj] at hy
          have e2 := Option.some.inj hy
          rw [← e2, ← HS.out]
          exact hm
        · have hy2 : (half k j (lens L) zss)[i]? = some ys := by
            rw [half_hi (by omega) (by omega)] at hy ⊢; exact hy
          exact (ho.inner i s ys hs hy2).keep fun g' hg' => hk1.block g' fun e => ho.apart i j s _ g' hs HLJ.out (by omega) hg' e
      have Y : OnlyL L w w1 := hon.step (List.mem_of_getElem? HLJ.out) hk1
      clear ho hon hm hk1
      have HX := Lib.hid X
      clear X
      go_wp2_with fail
      go_roundw
      case rel =>
        have := HS1.out
        exact ⟨j + 1, by omega, by go_num, by rw [this]; go_num, HX.out, Y⟩
      case measure => simp [intOf]; omega
    · obtain rfl : j = n := by omega
      go_wp2
      go_ret
      have e1 : (lens L).take j = lens L := List.take_of_length_le (by omega)
      have e2 : half k j (lens L) zss = marks2 k (lens L) := by
        unfold half
        rw [List.take_of_length_le (by rw [marks2_len]; omega), List.drop_eq_nil_of_le (by omega)]; simp
      rw [e2] at ho
      exact ⟨by rw [e1]; rfl, ho, hon⟩
set_option maxHeartbeats 1000000 in
theorem held2_any {B : Nat} (A : Option Addr) (n c : Nat) (K : Int) (k : Nat) (hK : K = k) (ns : List Nat) (w : World) (h : Rows2 B w A n (marks2 k ns)) (hk0 : k + ns.sum ≤ 1000000000000) :
    Calls Try.prog 98 #[.slice A n c, .int .i64 K] w fun e w' => e = .returned (.int .i64 (K + (ns.sum : Nat))) ∧ w = w' := by
  subst hK
  have hn : ns.length = n := by have := h.1; rwa [marks2_len] at this
  have hle := h.le
  go_enter Try.func98, Try.ntmps98
  go_wp2
  go_loop [1, 5] (fun q i => ∃ j : Nat, j ≤ n ∧ i = .int .i64 j ∧ q = .int .i64 ((k : Int) + ((ns.take j).sum : Nat))) (fun _ i => n - (intOf i).toNat)
  case atStart => exact ⟨0, by omega, rfl, by simp⟩
  case round =>
    obtain ⟨j, hj, rfl, rfl⟩ := hrel
    by_cases hlt : j < n
    · obtain ⟨b, o, Aj, nj, cj, zs, rfl, _, hz, hc, hcap, hr⟩ := h.2.2 j hlt
      have hlj : ns[j]? = some (ns[j]'(by omega)) := List.getElem?_eq_getElem (by omega)
      obtain ⟨m, hm⟩ : ∃ m, m = ns[j]'(by omega) := ⟨_, rfl⟩
      rw [← hm] at hlj
      rw [marks2_at k ns j m hlj] at hz
      have hz2 := Option.some.inj hz
      subst hz2
      have hnm : m = nj := by have := hr.1; rw [marks_len] at this; exact this
      subst hnm
      have hs1 := sum_take_succ hlj
      have hs2 := sum_take_le ns (j + 1)
      obtain ⟨S, hS⟩ : ∃ S, S = (ns.take j).sum := ⟨_, rfl⟩
      rw [← hS] at hs1 hr
      rw [← hS]
      have HS1 := Lib.hid hs1
      have CM : Calls Try.prog 137 #[.slice Aj m cj, .int .i64 ((k : Int) + (S : Int))] w fun e w' => e = .returned (.int .i64 ((k : Int) + (S : Int) + (m : Int))) ∧ w = w' := held_any Aj m cj _ (k + S) (by omega) w hr (by omega)
      have t1 : 0 ≤ (k : Int) + (S : Int) + (m : Int) := by omega
      clear hz hlj hm hs1 hs2 hS hr
      go_wp2_with (go_at_call 137; (with_reducible refine (CM).mono ?_); rintro e w' ⟨rfl, rfl⟩)
      go_round
      case rel => exact ⟨j + 1, by omega, by go_num, by rw [HS1.out]; go_num⟩
      case measure => simp [intOf]; omega
    · obtain rfl : j = n := by omega
      go_wp2
      go_ret
      have e1 : ns.take j = ns := List.take_of_length_le (by omega)
      exact ⟨by rw [e1]; rfl, rfl⟩
end Go.Proofs.Yteggllmiapdmcaa
