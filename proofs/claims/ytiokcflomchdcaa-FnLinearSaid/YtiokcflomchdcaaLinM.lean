/-
  When a linear table is a quasigroup, and when it is totally antisymmetric.
-/
import Derived.Test.YtiokcflomchdcaaTot
import Derived.Test.YtiokcflomchdcaaLin
namespace Go.Proofs.Ytiokcflomchdcaa
open Go.RowKit

theorem mod_dvd {n : Int} {u v : Int} : u % n = v % n ↔ n ∣ u - v := by
  rw [Int.emod_eq_emod_iff_emod_sub_eq_zero]
  exact ⟨Int.dvd_of_emod_eq_zero, Int.emod_eq_zero_of_dvd⟩
/-- No multiple below n. -/
theorem cop_iff {b n : Nat} (hn : 1 ≤ n) : (∀ d, 1 ≤ d → d < n → ¬ n ∣ b * d) ↔ Nat.gcd b n = 1 := by
  constructor
  · intro h
    refine Classical.byContradiction fun hg => ?_
    have hg0 : 0 < Nat.gcd b n := Nat.gcd_pos_of_pos_right b (by omega)
    obtain ⟨b', hb'⟩ := Nat.gcd_dvd_left b n
    obtain ⟨d, hd⟩ := Nat.gcd_dvd_right b n
    generalize Nat.gcd b n = g at *
    have hd1 : 1 ≤ d := by
      rcases Nat.eq_zero_or_pos d with h0 | h0
      · rw [h0, Nat.mul_zero] at hd; omega
      · exact h0
    have hdn : d < n := by
      have : 2 * d ≤ g * d := Nat.mul_le_mul_right _ (by omega)
      omega
    refine h d hd1 hdn ⟨b', ?_⟩
    rw [hb', hd, Nat.mul_right_comm]
  · intro hg d hd1 hdn hdiv
    have h1 : Nat.Coprime n b := by rw [Nat.coprime_comm]; exact hg
    have h2 := h1.dvd_of_dvd_mul_left hdiv
    have := Nat.le_of_dvd (by omega) h2
    omega
theorem dvd_cast {n m : Nat} : (n : Int) ∣ (m : Int) ↔ n ∣ m := Int.natCast_dvd_natCast

theorem cell_grid {n x y : Nat} {F : Nat → Nat → Nat} (hx : x < n) (hy : y < n) : cellZ (gridOf n n F) x y = F x y := by
  rw [tab_at (grid_row hx) (row_cell hy)]; simp
theorem grid_tab {n : Nat} {F : Nat → Nat → Nat} (h : ∀ x y, x < n → y < n → F x y < n) : tabOk n n (gridOf n n F) = true := by
  unfold tabOk
  rw [grid_len, Bool.and_eq_true]
  refine ⟨by simp, List.all_eq_true.2 fun r hr => ?_⟩
  obtain ⟨x, hx, rfl⟩ := List.mem_map.1 hr
  unfold lineOk rowOk
  rw [Bool.and_eq_true]
  refine ⟨by simp, List.all_eq_true.2 fun z hz => ?_⟩
  obtain ⟨y, hy, rfl⟩ := List.mem_map.1 hz
  have := h x y (List.mem_range.1 hx) (List.mem_range.1 hy)
  exact inB_true.2 ⟨by omega, by omega⟩
theorem isQ_grid {n : Nat} {F : Nat → Nat → Nat} (hn : 1 ≤ n ∧ n ≤ 36) (h : ∀ x y, x < n → y < n → F x y < n) :
    isQ (gridOf n n F) = true ↔ ∀ x y, x < n → y < n → (∀ y', y' < y → F x y' ≠ F x y) ∧ (∀ x', x' < x → F x' y ≠ F x y) := by
  unfold isQ
  rw [grid_len, grid_tab h, show inB n 1 36 = true from inB_true.2 (by omega), Bool.true_and, Bool.true_and, freshAll_iff, grid_len]
  constructor
  · intro hf x y hx hy
    have h1 := of_decide_eq_true (hf x y hx hy).1
    have h2 := of_decide_eq_true (hf x y hx hy).2
    refine ⟨fun y' hy' e => h1 y' hy' ?_, fun x' hx' e => h2 x' hx' ?_⟩
    · rw [cell_grid hx (by omega), cell_grid hx hy]; exact e
    · rw [cell_grid (by omega) hy, cell_grid hx hy]; exact e
  · intro hf x y hx hy
    have h1 := hf x y hx hy
    refine ⟨decide_eq_true fun y' hy' e => h1.1 y' hy' ?_, decide_eq_true fun x' hx' e => h1.2 x' hx' ?_⟩
    · rw [cell_grid hx (by omega), cell_grid hx hy] at e; exact e
    · rw [cell_grid (by omega) hy, cell_grid hx hy] at e; exact e
theorem lin_eq {n a b c x y x' y' : Nat} : linF n a b c x y = linF n a b c x' y' ↔ (n : Int) ∣ ((a : Int) * x + b * y + c) - ((a : Int) * x' + b * y' + c) := by
  rw [← mod_dvd]
  unfold linF
  constructor
  · intro h
    have := congrArg (fun q : Nat => (q : Int)) h
    simpa using this
  · intro h
    have h2 : (((a * x + b * y + c) % n : Nat) : Int) = (((a * x' + b * y' + c) % n : Nat) : Int) := by simpa using h
    omega
theorem lin_row {n a b c x y y' : Nat} (h : y' < y) : linF n a b c x y' = linF n a b c x y ↔ n ∣ b * (y - y') := by
  rw [lin_eq, ← dvd_cast, ← Int.dvd_neg]
  have e : -(((a : Int) * x + b * y' + c) - ((a : Int) * x + b * y + c)) = ((b * (y - y') : Nat) : Int) := by
    rw [Int.natCast_mul, Int.natCast_sub (by omega), Int.mul_sub]
    omega
  rw [e]
theorem lin_col {n a b c x x' y : Nat} (h : x' < x) : linF n a b c x' y = linF n a b c x y ↔ n ∣ a * (x - x') := by
  rw [lin_eq, ← dvd_cast, ← Int.dvd_neg]
  have e : -(((a : Int) * x' + b * y + c) - ((a : Int) * x + b * y + c)) = ((a * (x - x') : Nat) : Int) := by
    rw [Int.natCast_mul, Int.natCast_sub (by omega), Int.mul_sub]
    omega
  rw [e]
theorem lin_isQ {n a b c : Nat} (hn : 1 ≤ n ∧ n ≤ 36) : isQ (gridOf n n (linF n a b c)) = (decide (Nat.gcd a n = 1) && decide (Nat.gcd b n = 1)) := by
  rw [Bool.eq_iff_iff, isQ_grid hn (fun x y _ _ => linF_lt hn.1), Bool.and_eq_true, decide_eq_true_eq, decide_eq_true_eq, ← cop_iff hn.1, ← cop_iff hn.1]
  constructor
  · intro h
    refine ⟨fun d hd1 hdn hdiv => ?_, fun d hd1 hdn hdiv => ?_⟩
    · exact (h d 0 hdn (by omega)).2 0 (by omega) ((lin_col (by omega)).2 (by rw [Nat.sub_zero]; exact hdiv))
    · exact (h 0 d (by omega) hdn).1 0 (by omega) ((lin_row (by omega)).2 (by rw [Nat.sub_zero]; exact hdiv))
  · rintro ⟨h1, h2⟩ x y hx hy
    exact ⟨fun y' hy' e => h2 (y - y') (by omega) (by omega) ((lin_row hy').1 e), fun x' hx' e => h1 (x - x') (by omega) (by omega) ((lin_col hx').1 e)⟩

theorem sumN_eq_zero {f : Nat → Nat} : ∀ {k : Nat}, sumN f k = 0 ↔ ∀ i, i < k → f i = 0
  | 0 => ⟨fun _ i hi => by omega, fun _ => rfl⟩
  | k + 1 => by
    rw [sumN_succ]
    constructor
    · intro h i hi
      by_cases e : i = k
      · subst e; omega
      · exact sumN_eq_zero.1 (show sumN f k = 0 by omega) i (by omega)
    · intro h
      rw [sumN_eq_zero.2 (fun i hi => h i (by omega)), h k (by omega)]
theorem pairsX_zero {cl : Nat → Nat → Bool} {n : Nat} : pairsX cl n = 0 ↔ ∀ x y, x < y → y < n → cl x y = false := by
  unfold pairsX
  rw [sumN_eq_zero]
  constructor
  · intro h x y hxy hy
    have h1 := sumN_eq_zero.1 (h x (by omega)) y hy
    unfold pairX at h1
    rw [if_pos hxy] at h1
    cases hc : cl x y with
    | false => rfl
    | true => rw [hc] at h1; cases h1
  · intro h x hx
    refine sumN_eq_zero.2 fun y hy => ?_
    unfold pairX
    by_cases hxy : x < y
    · rw [if_pos hxy, h x y hxy hy]; rfl
    · rw [if_neg hxy]
theorem lin_swap {n a b c x y : Nat} (hb : b < n) (h : x < y) : linF n a b c x y = linF n a b c y x ↔ n ∣ (a + n - b) * (y - x) := by
  rw [lin_eq, ← dvd_cast]
  have e : ((((a + n - b) * (y - x) : Nat)) : Int) = (n : Int) * ((y : Int) - x) - (((a : Int) * x + b * y + c) - ((a : Int) * y + b * x + c)) := by
    rw [Int.natCast_mul, Int.natCast_sub (by omega), Int.natCast_sub (by omega), Int.natCast_add, Int.sub_mul, Int.add_mul, Int.mul_sub, Int.mul_sub, Int.mul_sub]
    omega
  rw [e]
  constructor
  · intro h; exact Int.dvd_sub (Int.dvd_mul_right _ _) h
  · intro h
    have := Int.dvd_sub (Int.dvd_mul_right (n : Int) ((y : Int) - x)) h
    rwa [Int.sub_sub_self] at this
theorem lin_chain {n a b c i x y : Nat} (hn : 1 ≤ n) (hg : Nat.gcd b n = 1) (h : x < y) : linF n a b c (linF n a b c i x) y = linF n a b c (linF n a b c i y) x ↔ n ∣ (a + n - 1) * (y - x) := by
  rw [lin_eq]
  have m1 : ((linF n a b c i x : Nat) : Int) = ((a : Int) * i + b * x + c) - n * (((a : Int) * i + b * x + c) / n) := by
    unfold linF
    have := Int.emod_def ((a : Int) * i + b * x + c) n
    rw [← this]; simp
  have m2 : ((linF n a b c i y : Nat) : Int) = ((a : Int) * i + b * y + c) - n * (((a : Int) * i + b * y + c) / n) := by
    unfold linF
    have := Int.emod_def ((a : Int) * i + b * y + c) n
    rw [← this]; simp
  rw [m1, m2]
  generalize ((a : Int) * i + b * x + c) / n = p
  generalize ((a : Int) * i + b * y + c) / n = q
  have e : (n : Int) * ((a : Int) * (q - p) + (b : Int) * ((y : Int) - x)) - (((a : Int) * (((a : Int) * i + b * x + c) - n * p) + b * y + c) - ((a : Int) * (((a : Int) * i + b * y + c) - n * q) + b * x + c)) = ((b * ((a + n - 1) * (y - x)) : Nat) : Int) := by
    rw [Int.natCast_mul, Int.natCast_mul, Int.natCast_sub (by omega), Int.natCast_sub (by omega), Int.natCast_add]
    simp only [Int.mul_add, Int.mul_sub, Int.add_mul, Int.sub_mul, Int.natCast_one, Int.mul_one, Int.mul_assoc, Int.mul_comm, Int.mul_left_comm]
    omega
  have h1 : (n : Int) ∣ (((a : Int) * (((a : Int) * i + b * x + c) - n * p) + b * y + c) - ((a : Int) * (((a : Int) * i + b * y + c) - n * q) + b * x + c)) ↔ (n : Int) ∣ ((b * ((a + n - 1) * (y - x)) : Nat) : Int) := by
    rw [← e]
    constructor
    · intro h; exact Int.dvd_sub (Int.dvd_mul_right _ _) h
    · intro h
      have := Int.dvd_sub (Int.dvd_mul_right (n : Int) ((a : Int) * (q - p) + (b : Int) * ((y : Int) - x))) h
      rwa [Int.sub_sub_self] at this
  rw [h1, dvd_cast]
  constructor
  · intro h
    have h2 : Nat.Coprime n b := by rw [Nat.coprime_comm]; exact hg
    exact h2.dvd_of_dvd_mul_left h
  · intro h; exact Nat.dvd_trans h (Nat.dvd_mul_left _ _)
theorem lin_tot {n a b c : Nat} (hn : 1 ≤ n ∧ n ≤ 36) (hb : b < n) (hq : isQ (gridOf n n (linF n a b c)) = true) : totQ (gridOf n n (linF n a b c)) = (decide (Nat.gcd (a + n - 1) n = 1) && decide (Nat.gcd (a + n - b) n = 1)) := by
  have hg : Nat.gcd b n = 1 := by
    rw [lin_isQ hn, Bool.and_eq_true, decide_eq_true_eq, decide_eq_true_eq] at hq
    exact hq.2
  unfold totQ totB
  rw [hq, Bool.true_and, Bool.eq_iff_iff, Bool.and_eq_true, Bool.and_eq_true, decide_eq_true_eq, decide_eq_true_eq, decide_eq_true_eq, decide_eq_true_eq, ← cop_iff hn.1, ← cop_iff hn.1]
  have hlt : ∀ x y, linF n a b c x y < n := fun x y => linF_lt hn.1
  have hs : swapsQ (gridOf n n (linF n a b c)) = 0 ↔ ∀ d, 1 ≤ d → d < n → ¬ n ∣ (a + n - b) * d := by
    unfold swapsQ
    rw [grid_len, pairsX_zero]
    constructor
    · intro h d hd1 hdn hdiv
      have h1 := of_decide_eq_false (h 0 d (by omega) hdn)
      rw [cell_grid (by omega) hdn, cell_grid hdn (by omega)] at h1
      exact h1 ((lin_swap hb (by omega)).2 (by rw [Nat.sub_zero]; exact hdiv))
    · intro h x y hxy hy
      refine decide_eq_false fun e => ?_
      rw [cell_grid (by omega) hy, cell_grid hy (by omega)] at e
      exact h (y - x) (by omega) (by omega) ((lin_swap hb hxy).1 e)
  have hc : chainsQ (gridOf n n (linF n a b c)) = 0 ↔ ∀ d, 1 ≤ d → d < n → ¬ n ∣ (a + n - 1) * d := by
    unfold chainsQ
    rw [grid_len, sumN_eq_zero]
    constructor
    · intro h d hd1 hdn hdiv
      have h1 := of_decide_eq_false (pairsX_zero.1 (h 0 (by omega)) 0 d (by omega) hdn)
      rw [cell_grid (show 0 < n by omega) (show 0 < n by omega), cell_grid (show 0 < n by omega) hdn, cell_grid (hlt _ _) hdn, cell_grid (hlt _ _) (by omega)] at h1
      exact h1 ((lin_chain hn.1 hg (by omega)).2 (by rw [Nat.sub_zero]; exact hdiv))
    · intro h i hi
      refine pairsX_zero.2 fun x y hxy hy => decide_eq_false fun e => ?_
      rw [cell_grid hi (show x < n by omega), cell_grid hi hy, cell_grid (hlt _ _) hy, cell_grid (hlt _ _) (by omega)] at e
      exact h (y - x) (by omega) (by omega) ((lin_chain hn.1 hg hxy).1 e)
  rw [hs, hc]
  exact ⟨fun h => ⟨h.2, h.1⟩, fun h => ⟨h.2, h.1⟩⟩
theorem lin_isQ2 {n a b c ga gb : Nat} (hn : 1 ≤ n ∧ n ≤ 36) (h1 : ga = Nat.gcd a n) (h2 : gb = Nat.gcd b n) : isQ (gridOf n n (linF n a b c)) = (decide (ga = 1) && decide (gb = 1)) := by
  rw [Bool.eq_iff_iff, lin_isQ hn, h1, h2]
theorem lin_tot2 {n a b c g3 g4 : Nat} (hn : 1 ≤ n ∧ n ≤ 36) (hb : b < n) (hq : isQ (gridOf n n (linF n a b c)) = true) (h1 : g3 = Nat.gcd (a + n - 1) n) (h2 : g4 = Nat.gcd (a + n - b) n) : totQ (gridOf n n (linF n a b c)) = (decide (g3 = 1) && decide (g4 = 1)) := by
  rw [Bool.eq_iff_iff, lin_tot hn hb hq, h1, h2]
end Go.Proofs.Ytiokcflomchdcaa
