/-
  The grid of the ways to the end as one flat list, and what a round over the places makes of it.
-/
import Derived.Test.YteggllmiapdmcaaWays
import Derived.Test.YteggllmiapdmcaaBack
import Derived.IntWalk
namespace Go.Proofs.Yteggllmiapdmcaa
open Go.RowKit

def flatE (s N : Nat) (F : Nat → Nat → Nat) : List Int := (List.range N).map fun j => ((F (j / s) (j % s) : Nat) : Int)
theorem flatE_len (s N : Nat) (F : Nat → Nat → Nat) : (flatE s N F).length = N := by simp [flatE]
theorem dm_split {s j x : Nat} (hx : x < s) : (j * s + x) / s = j ∧ (j * s + x) % s = x := by
  have hs : 0 < s := by omega
  constructor
  · rw [Nat.mul_comm, Nat.mul_add_div hs, Nat.div_eq_of_lt hx, Nat.add_zero]
  · rw [Nat.mul_comm, Nat.mul_add_mod, Nat.mod_eq_of_lt hx]
theorem flatE_get {s N j x : Nat} (F : Nat → Nat → Nat) (hx : x < s) (h : j * s + x < N) : (flatE s N F)[j * s + x]? = some ((F j x : Nat) : Int) := by
  unfold flatE
  rw [List.getElem?_map, List.getElem?_range h]
  simp only [Option.map_some]
  rw [(dm_split hx).1, (dm_split hx).2]
theorem dm_join (s q : Nat) : q / s * s + q % s = q := by rw [Nat.mul_comm]; exact Nat.div_add_mod q s
theorem flatE_congr {s N : Nat} {F G : Nat → Nat → Nat} (hs : 0 < s) (h : ∀ j y, y < s → j * s + y < N → F j y = G j y) : flatE s N F = flatE s N G := by
  unfold flatE
  apply List.map_congr_left
  intro q hq
  have hq := List.mem_range.1 hq
  rw [h _ _ (Nat.mod_lt _ hs) (by rw [dm_join]; exact hq)]
theorem flatE_set {s N i x v : Nat} {F G : Nat → Nat → Nat} (hs : 0 < s) (hx : x < s) (hG : ∀ j y, y < s → j * s + y < N → G j y = if j = i ∧ y = x then v else F j y) :
    (flatE s N F).set (i * s + x) ((v : Nat) : Int) = flatE s N G := by
  apply List.ext_getElem?
  intro q
  rw [List.getElem?_set]
  by_cases hq : q < N
  · have hg := hG (q / s) (q % s) (Nat.mod_lt _ hs) (by rw [dm_join]; exact hq)
    have e1 := flatE_get (N := N) F (j := q / s) (x := q % s) (Nat.mod_lt _ hs) (by rw [dm_join]; exact hq)
    have e2 := flatE_get (N := N) G (j := q / s) (x := q % s) (Nat.mod_lt _ hs) (by rw [dm_join]; exact hq)
    rw [dm_join] at e1 e2
    rw [e1, e2, hg, flatE_len]
    by_cases he : i * s + x = q
    · subst he
      rw [if_pos rfl, if_pos hq, (dm_split hx).1, (dm_split hx).2, if_pos ⟨rfl, rfl⟩]
    · rw [if_neg he, if_neg]
      rintro ⟨h1, h2⟩
      exact he (by rw [← h1, ← h2]; exact dm_join s q)
  · have e1 : (flatE s N F)[q]? = none := List.getElem?_eq_none (by rw [flatE_len]; omega)
    have e2 : (flatE s N G)[q]? = none := List.getElem?_eq_none (by rw [flatE_len]; omega)
    rw [e1, e2, flatE_len]
    split
    · rw [if_neg (by omega)]
    · rfl
theorem flatE_zero (s N : Nat) : flatE s N (fun _ _ => 0) = List.replicate N 0 := by
  apply List.ext_getElem?
  intro q
  by_cases h : q < N
  · simp [flatE, h]
  · rw [List.getElem?_eq_none (by rw [flatE_len]; omega), List.getElem?_eq_none (by simp; omega)]

/-- What a symbol, a state, the places that have come make of the list; at any list, in the machine's numbers. -/
def stE (c : Ch) (s i x d : Nat) (L : List Int) : List Int := L.set (i * s + x) (IntKind.i64.wrap (L[i * s + x]?.getD 0 + L[(i + 1) * s + c.nx i x d]?.getD 0))
def rowE (c : Ch) (s i x : Nat) : Nat → List Int → List Int
  | 0, L => L
  | d + 1, L => stE c s i x d (rowE c s i x d L)
def colE (c : Ch) (s bs i : Nat) : Nat → List Int → List Int
  | 0, L => L
  | x + 1, L => rowE c s i x bs (colE c s bs i x L)
def datE (c : Ch) (s bs n : Nat) (pre : List (Fin n)) (L : List Int) : List Int := pre.foldl (fun L i => colE c s bs i.val s L) L
theorem datE_snoc (c : Ch) (s bs n : Nat) (pre : List (Fin n)) (x : Fin n) (L : List Int) : datE c s bs n (pre ++ [x]) L = colE c s bs x.val s (datE c s bs n pre L) := by
  unfold datE; rw [List.foldl_append]; rfl

theorem cell_in {s n i x : Nat} (hi : i ≤ n) (hx : x < s) : i * s + x < (n + 1) * s := by
  have : (i + 1) * s ≤ (n + 1) * s := Nat.mul_le_mul_right _ (by omega)
  rw [Nat.add_mul, Nat.one_mul] at this
  omega
theorem row_in {s n i : Nat} (hi : i ≤ n) : (i + 1) * s ≤ (n + 1) * s := Nat.mul_le_mul_right _ (by omega)
theorem le_of_cell {s n j y : Nat} (h : j * s + y < (n + 1) * s) : j ≤ n := by
  by_cases hj : j ≤ n
  · exact hj
  · have : (n + 1) * s ≤ j * s := Nat.mul_le_mul_right _ (by omega)
    omega

section
variable {c : Ch} {b s n : Nat}
theorem full_startE {e : Nat} (hes : e < s) (he : c.stop = e) : (List.replicate ((n + 1) * s) (0 : Int)).set (n * s + e) 1 = flatE s ((n + 1) * s) (c.full b n n) := by
  rw [← flatE_zero s]
  refine flatE_set (v := 1) (by omega) hes fun j y _ hj => ?_
  have hjn := le_of_cell hj
  unfold Ch.full
  by_cases h : n ≤ j
  · obtain rfl : j = n := by omega
    rw [if_pos h, Nat.sub_self]
    unfold Ch.ways
    by_cases h2 : y = e
    · rw [if_pos (by omega), if_pos ⟨rfl, h2⟩]
    · rw [if_neg (by omega), if_neg (fun q => h2 q.2)]
  · rw [if_neg h, if_neg (by omega)]
theorem rowE_fill (f : c.Fine b s n) {i x : Nat} (hi : i < n) (hx : x < s) : ∀ d, d ≤ b → rowE c s i x d (flatE s ((n + 1) * s) (c.fill b n i x 0)) = flatE s ((n + 1) * s) (c.fill b n i x d)
  | 0, _ => rfl
  | d + 1, hd => by
    have hnx : c.nx i x d < s := (f.nx hi hx (show d < b by omega)).2.choose_spec.2.2.2
    show stE c s i x d (rowE c s i x d _) = _
    rw [rowE_fill f hi hx d (by omega)]
    unfold stE
    rw [flatE_get _ hx (cell_in (by omega) hx), flatE_get _ hnx (cell_in (by omega) hnx)]
    have ev : c.fill b n i x d i x = c.wsum b n (n - (i + 1)) x d := by unfold Ch.fill; rw [if_neg (by omega), if_pos rfl, if_neg (by omega), if_pos rfl]
    have ew : c.fill b n i x d (i + 1) (c.nx i x d) = c.ways b n (n - (i + 1)) (c.nx i x d) := by unfold Ch.fill; rw [if_pos (by omega)]
    rw [ev, ew]
    simp only [Option.getD_some]
    have hsum : c.wsum b n (n - (i + 1)) x d + c.ways b n (n - (i + 1)) (c.nx i x d) ≤ 1000000000000000 := by
      have h1 := c.wsum_le b n (n - (i + 1)) x (show d + 1 ≤ b by omega)
      rw [Ch.wsum_succ, show n - (n - (i + 1) + 1) = i by omega] at h1
      have h2 := f.pow_le (k := n - (i + 1) + 1) (by omega)
      omega
    rw [show ((c.wsum b n (n - (i + 1)) x d : Nat) : Int) + ((c.ways b n (n - (i + 1)) (c.nx i x d) : Nat) : Int) = ((c.wsum b n (n - (i + 1)) x d + c.ways b n (n - (i + 1)) (c.nx i x d) : Nat) : Int) by omega, IntWalk.i64_in _ (by omega)]
    exact flatE_set (by omega) hx fun j y _ _ => by rw [fill_step, show n - (n - (i + 1) + 1) = i by omega]
theorem colE_fill (f : c.Fine b s n) {i : Nat} (hi : i < n) : ∀ x, x ≤ s → colE c s b i x (flatE s ((n + 1) * s) (c.fill b n i 0 0)) = flatE s ((n + 1) * s) (c.fill b n i x 0)
  | 0, _ => rfl
  | x + 1, hx => by
    show rowE c s i x b (colE c s b i x _) = _
    rw [colE_fill f hi x (by omega), rowE_fill f hi (by omega) b (Nat.le_refl _)]
    exact flatE_congr (by omega) fun j y _ _ => fill_next hi j y
theorem colE_full (f : c.Fine b s n) {i : Nat} (hi : i < n) : colE c s b i s (flatE s ((n + 1) * s) (c.full b n (i + 1))) = flatE s ((n + 1) * s) (c.full b n i) := by
  have hs := f.s1
  rw [flatE_congr (by omega) (fun j y _ _ => fill_start c b n i j y), colE_fill f hi s (Nat.le_refl _)]
  exact flatE_congr (by omega) fun j y hy _ => fill_end j y hy
theorem datE_full (f : c.Fine b s n) : ∀ k, k ≤ n → datE c s b n (backs n k) (flatE s ((n + 1) * s) (c.full b n n)) = flatE s ((n + 1) * s) (c.full b n (n - k))
  | 0, _ => by simp [backs, datE]
  | k + 1, hk => by
    rw [backs_succ (show k < n by omega), datE_snoc, datE_full f k (by omega)]
    show colE c s b (n - 1 - k) s _ = _
    rw [show n - k = (n - 1 - k) + 1 by omega, colE_full f (by omega), show n - 1 - k = n - (k + 1) by omega]
theorem stE_len (i x d : Nat) (L : List Int) : (stE c s i x d L).length = L.length := by simp [stE]
theorem rowE_len (i x : Nat) : ∀ d (L : List Int), (rowE c s i x d L).length = L.length
  | 0, _ => rfl
  | d + 1, L => by show (stE c s i x d _).length = _; rw [stE_len, rowE_len i x d]
theorem colE_len (bs i : Nat) : ∀ x (L : List Int), (colE c s bs i x L).length = L.length
  | 0, _ => rfl
  | x + 1, L => by show (rowE c s i x bs _).length = _; rw [rowE_len, colE_len bs i x]
end
end Go.Proofs.Yteggllmiapdmcaa
