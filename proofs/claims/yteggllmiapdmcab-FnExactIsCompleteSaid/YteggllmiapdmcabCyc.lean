/-
  Orders and their cycles, as numbers: no program here.
-/
import Derived.Test.YteggllmiapdmcabOrd
namespace Go.Proofs.Yteggllmiapdmcab
open Go.RowKit

theorem nodup_le : ∀ (n : Nat) (l : List Nat), l.Nodup → (∀ x ∈ l, x < n) → l.length ≤ n := by
  intro n
  induction n with
  | zero =>
    intro l _ h
    cases l with
    | nil => simp
    | cons a r => exact absurd (h a (by simp)) (by omega)
  | succ n ih =>
    intro l hn h
    have h1 : (l.erase n).Nodup := hn.erase n
    have h2 : ∀ x ∈ l.erase n, x < n := by
      intro x hx
      have hx1 := h x (List.mem_of_mem_erase hx)
      have hx2 : x ≠ n := fun e => by
        subst e
        exact (List.Nodup.not_mem_erase hn) hx
      omega
    have h3 := ih _ h1 h2
    have h4 := List.le_length_erase (a := n) (l := l)
    omega

/-- What k steps do. -/
def it (f : Nat → Nat) : Nat → Nat → Nat
  | 0, x => x
  | k + 1, x => f (it f k x)
theorem it_add (f : Nat → Nat) (a b x : Nat) : it f (a + b) x = it f a (it f b x) := by
  induction a with
  | zero => simp [it]
  | succ a ih => rw [Nat.succ_add]; simp [it, ih]
structure Perm (n : Nat) (f : Nat → Nat) : Prop where
  lt : ∀ x, x < n → f x < n
  inj : ∀ x y, x < n → y < n → f x = f y → x = y
theorem Perm.it_lt {n : Nat} {f : Nat → Nat} (h : Perm n f) {x : Nat} (hx : x < n) (k : Nat) : it f k x < n := by
  induction k with
  | zero => exact hx
  | succ k ih => exact h.lt _ ih
theorem Perm.it_inj {n : Nat} {f : Nat → Nat} (h : Perm n f) (k : Nat) : ∀ {x y : Nat}, x < n → y < n → it f k x = it f k y → x = y := by
  induction k with
  | zero => intro x y _ _ e; exact e
  | succ k ih => intro x y hx hy e; exact ih hx hy (h.inj _ _ (h.it_lt hx k) (h.it_lt hy k) e)
theorem Perm.cancel {n : Nat} {f : Nat → Nat} (h : Perm n f) {x a b : Nat} (hx : x < n) (hab : a ≤ b) (e : it f a x = it f b x) : it f (b - a) x = x := by
  have h1 : it f b x = it f a (it f (b - a) x) := by
    have := it_add f a (b - a) x
    rwa [Nat.add_sub_of_le hab] at this
  exact (h.it_inj a hx (h.it_lt hx _) (e.trans h1)).symm
def retB (f : Nat → Nat) (x k : Nat) : Bool := it f (k + 1) x == x
/-- How many steps lead back. -/
def per (f : Nat → Nat) (n x : Nat) : Nat := ((List.range n).find? (retB f x)).getD 0 + 1
theorem Perm.per_spec {n : Nat} {f : Nat → Nat} (h : Perm n f) {x : Nat} (hx : x < n) : per f n x ≤ n ∧ it f (per f n x) x = x ∧ ∀ j, 1 ≤ j → j < per f n x → it f j x ≠ x := by
  unfold per
  rcases hf : (List.range n).find? (retB f x) with _ | p
  · exfalso
    rw [List.find?_eq_none] at hf
    have hno : ∀ j, 1 ≤ j → j ≤ n → it f j x ≠ x := by
      intro j h1 h2 e
      have := hf (j - 1) (List.mem_range.2 (by omega))
      unfold retB at this
      rw [Nat.sub_add_cancel h1, e] at this
      simp at this
    have hnd : ((List.range (n + 1)).map fun k => it f k x).Nodup := by
      unfold List.Nodup
      rw [List.pairwise_map]
      refine List.Pairwise.imp_of_mem ?_ (List.pairwise_lt_range (n := n + 1))
      intro a b ha hb hab e
      have ha2 := List.mem_range.1 ha
      have hb2 := List.mem_range.1 hb
      exact hno (b - a) (by omega) (by omega) (h.cancel hx (by omega) e)
    have := nodup_le n _ hnd (by
      intro y hy
      obtain ⟨k, _, rfl⟩ := List.mem_map.1 hy
      exact h.it_lt hx k)
    simp at this
    omega
  · rw [List.find?_range_eq_some] at hf
    simp only [Option.getD_some]
    have hp := List.mem_range.1 hf.2.1
    refine ⟨by omega, by simpa [retB] using hf.1, fun j h1 h2 e => ?_⟩
    have := hf.2.2 (j - 1) (by omega)
    unfold retB at this
    rw [Nat.sub_add_cancel h1, e] at this
    simp at this
/-- The cycle of a number. -/
def cyc (f : Nat → Nat) (n x : Nat) : List Nat := (List.range (per f n x)).map fun k => it f k x
theorem cyc_len (f : Nat → Nat) (n x : Nat) : (cyc f n x).length = per f n x := by simp [cyc]
theorem cyc_at {f : Nat → Nat} {n x k : Nat} (h : k < per f n x) : (cyc f n x)[k]? = some (it f k x) := by
  simp [cyc, h]
theorem Perm.it_mod {n : Nat} {f : Nat → Nat} (h : Perm n f) {x : Nat} (hx : x < n) (k : Nat) : it f (k % per f n x) x = it f k x := by
  have hs := h.per_spec hx
  have hmul : ∀ q, it f (per f n x * q) x = x := by
    intro q
    induction q with
    | zero => rfl
    | succ q ih => rw [Nat.mul_succ, it_add, hs.2.1, ih]
  have e := Nat.mod_add_div k (per f n x)
  have : it f k x = it f (k % per f n x) (it f (per f n x * (k / per f n x)) x) := by
    rw [← it_add, e]
  rw [this, hmul]
theorem mem_cyc {f : Nat → Nat} {n x y : Nat} : y ∈ cyc f n x ↔ ∃ k, k < per f n x ∧ it f k x = y := by
  simp [cyc]
theorem Perm.mem_cyc {n : Nat} {f : Nat → Nat} (h : Perm n f) {x : Nat} (hx : x < n) (k : Nat) : it f k x ∈ cyc f n x := by
  rw [Go.Proofs.Yteggllmiapdmcab.mem_cyc]
  exact ⟨k % per f n x, Nat.mod_lt _ (by unfold per; omega), h.it_mod hx k⟩
theorem Perm.cyc_lt {n : Nat} {f : Nat → Nat} (h : Perm n f) {x y : Nat} (hx : x < n) (hy : y ∈ cyc f n x) : y < n := by
  obtain ⟨k, _, rfl⟩ := Go.Proofs.Yteggllmiapdmcab.mem_cyc.1 hy
  exact h.it_lt hx k
theorem Perm.cyc_step {n : Nat} {f : Nat → Nat} (h : Perm n f) {x y : Nat} (hx : x < n) (hy : y < n) : f y ∈ cyc f n x ↔ y ∈ cyc f n x := by
  have hs := h.per_spec hx
  constructor
  · intro hm
    obtain ⟨k, hk, e⟩ := Go.Proofs.Yteggllmiapdmcab.mem_cyc.1 hm
    cases k with
    | zero =>
      have e2 : f y = f (it f (per f n x - 1) x) := by
        have : it f (per f n x - 1 + 1) x = x := by
          rw [Nat.sub_add_cancel (by unfold per; omega)]; exact hs.2.1
        exact e.symm.trans this.symm
      rw [h.inj _ _ hy (h.it_lt hx _) e2]
      exact h.mem_cyc hx _
    | succ k =>
      rw [← h.inj _ _ (h.it_lt hx k) hy e]
      exact h.mem_cyc hx _
  · intro hm
    obtain ⟨k, hk, rfl⟩ := Go.Proofs.Yteggllmiapdmcab.mem_cyc.1 hm
    exact h.mem_cyc hx (k + 1)

/-- The numbers in the cycles of the first i numbers. -/
def seenB (f : Nat → Nat) (n : Nat) : Nat → Nat → Bool
  | 0, _ => false
  | i + 1, x => seenB f n i x || decide (x ∈ cyc f n i)
/-- The cycles of the first i numbers. -/
def cycs (f : Nat → Nat) (n : Nat) : Nat → List (List Nat)
  | 0 => []
  | i + 1 => if seenB f n i i = true then cycs f n i else cycs f n i ++ [cyc f n i]
theorem Perm.seen_step {n : Nat} {f : Nat → Nat} (h : Perm n f) {i : Nat} (hi : i ≤ n) {y : Nat} (hy : y < n) : seenB f n i (f y) = seenB f n i y := by
  induction i with
  | zero => rfl
  | succ i ih =>
    simp only [seenB]
    rw [ih (by omega)]
    congr 1
    rw [decide_eq_decide]
    exact h.cyc_step (by omega) hy
theorem Perm.seen_it {n : Nat} {f : Nat → Nat} (h : Perm n f) {i : Nat} (hi : i ≤ n) {y : Nat} (hy : y < n) (k : Nat) : seenB f n i (it f k y) = seenB f n i y := by
  induction k with
  | zero => rfl
  | succ k ih => exact (h.seen_step hi (h.it_lt hy k)).trans ih
theorem Perm.seen_skip {n : Nat} {f : Nat → Nat} (h : Perm n f) {i : Nat} (hi : i < n) (hs : seenB f n i i = true) (x : Nat) : seenB f n (i + 1) x = seenB f n i x := by
  simp only [seenB]
  by_cases hm : x ∈ cyc f n i
  · obtain ⟨k, _, rfl⟩ := Go.Proofs.Yteggllmiapdmcab.mem_cyc.1 hm
    rw [h.seen_it (by omega) hi k, hs]; rfl
  · simp [hm]
/-- A number that stands in the cycle of an unseen number, at place k, has not been seen before this place; behind the last place the first one stands again. -/
theorem Perm.seen_at {n : Nat} {f : Nat → Nat} (h : Perm n f) {i k : Nat} (hi : i < n) (hs : seenB f n i i = false) (hk : k < per f n i) : (seenB f n i (it f k i) || decide (it f k i ∈ (cyc f n i).take k)) = false := by
  rw [h.seen_it (by omega) hi k, hs]
  simp only [Bool.false_or, decide_eq_false_iff_not]
  intro hm
  obtain ⟨j, hj, e⟩ := List.getElem_of_mem hm
  simp [cyc] at hj
  simp [cyc] at e
  have := h.cancel hi (by omega : j ≤ k) e
  exact (h.per_spec hi).2.2 (k - j) (by omega) (by omega) this
theorem Perm.seen_end {n : Nat} {f : Nat → Nat} (h : Perm n f) {i : Nat} (hi : i < n) : (seenB f n i (it f (per f n i) i) || decide (it f (per f n i) i ∈ (cyc f n i).take (per f n i))) = true := by
  rw [(h.per_spec hi).2.1, List.take_of_length_le (by rw [cyc_len]; exact Nat.le_refl _)]
  have : i ∈ cyc f n i := h.mem_cyc hi 0
  simp [this]
theorem cyc_take {f : Nat → Nat} {n i k : Nat} (hk : k < per f n i) : (cyc f n i).take (k + 1) = (cyc f n i).take k ++ [it f k i] := by
  rw [List.take_add_one, cyc_at hk]; rfl

theorem cycs_len_le (f : Nat → Nat) (n i : Nat) : (cycs f n i).length ≤ i := by
  induction i with
  | zero => simp [cycs]
  | succ i ih =>
    unfold cycs
    split
    · omega
    · simp; omega

/-! Lists of integers that are orders. -/
theorem ordGo_spec {n : Int} : ∀ (zs pre : List Int), ordGo n pre zs = true → (∀ z ∈ zs, 0 ≤ z ∧ z < n) ∧ zs.Nodup ∧ ∀ z ∈ zs, z ∉ pre := by
  intro zs
  induction zs with
  | nil => intro pre _; simp
  | cons x r ih =>
    intro pre h
    simp only [ordGo, Bool.and_eq_true, Bool.not_eq_true'] at h
    obtain ⟨⟨h1, h2⟩, h3⟩ := h
    have hx := inB_true.1 h1
    have hx2 : x ∉ pre := by simpa [hasB] using h2
    obtain ⟨i1, i2, i3⟩ := ih _ h3
    refine ⟨?_, ?_, ?_⟩
    · intro z hz
      rcases List.mem_cons.1 hz with rfl | hz
      · omega
      · exact i1 z hz
    · rw [List.nodup_cons]
      exact ⟨fun hm => i3 x hm (by simp), i2⟩
    · intro z hz
      rcases List.mem_cons.1 hz with rfl | hz
      · exact hx2
      · intro hp
        exact i3 z hz (by simp [hp])
def fnOf (zs : List Int) (x : Nat) : Nat := (zs.getD x 0).toNat
theorem ord_len {zs : List Int} (h : isOrd zs = true) : 1 ≤ zs.length ∧ zs.length ≤ 36 := by
  simp only [isOrd, Bool.and_eq_true, decide_eq_true_eq] at h
  exact h.1
theorem ord_bd {zs : List Int} (h : isOrd zs = true) : (∀ z ∈ zs, 0 ≤ z ∧ z < (zs.length : Int)) ∧ zs.Nodup := by
  simp only [isOrd, Bool.and_eq_true, decide_eq_true_eq] at h
  have := ordGo_spec _ _ h.2
  exact ⟨this.1, this.2.1⟩
theorem ord_at {zs : List Int} (h : isOrd zs = true) {x : Nat} (hx : x < zs.length) : zs[x]? = some (fnOf zs x : Int) := by
  have hz : zs[x]? = some (zs[x]'hx) := List.getElem?_eq_getElem hx
  have hb := (ord_bd h).1 _ (List.getElem_mem hx)
  rw [hz]
  congr 1
  unfold fnOf
  simp [List.getD, hz]
  omega
theorem ord_perm {zs : List Int} (h : isOrd zs = true) : Perm zs.length (fnOf zs) := by
  have hb := ord_bd h
  refine ⟨fun x hx => ?_, fun x y hx hy e => ?_⟩
  · have h1 := ord_at h hx
    have h2 := hb.1 _ (List.mem_of_getElem? h1)
    omega
  · have h1 := ord_at h hx
    have h2 := ord_at h hy
    rw [e] at h1
    have h3 : zs[x]? = zs[y]? := h1.trans h2.symm
    exact (List.getElem?_inj hx hb.2).1 h3
end Go.Proofs.Yteggllmiapdmcab
