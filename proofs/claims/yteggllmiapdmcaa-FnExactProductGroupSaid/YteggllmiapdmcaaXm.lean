/-
  Masks of lines: the sum of bits, without carry, of n numbers below n is the full mask exactly if no number comes twice.
-/
import Derived.Test.YteggllmiapdmcaaBasic
namespace Go.Proofs.Yteggllmiapdmcaa
open Go.RowKit

/-- The mask of the first k numbers. -/
def xmF (f : Nat → Nat) : Nat → Nat
  | 0 => 0
  | k + 1 => xmF f k ^^^ 2 ^ f k

theorem xmF_congr {f g : Nat → Nat} : ∀ k, (∀ y, y < k → f y = g y) → xmF f k = xmF g k
  | 0, _ => rfl
  | k + 1, h => by
    show xmF f k ^^^ 2 ^ f k = xmF g k ^^^ 2 ^ g k
    rw [xmF_congr k (fun y hy => h y (by omega)), h k (by omega)]

theorem xmF_lt {f : Nat → Nat} {n : Nat} : ∀ k, (∀ y, y < k → f y < n) → xmF f k < 2 ^ n
  | 0, _ => Nat.two_pow_pos n
  | k + 1, h => Nat.xor_lt_two_pow (xmF_lt k (fun y hy => h y (by omega))) (Nat.pow_lt_pow_of_lt (by omega) (h k (by omega)))

theorem xmF_none {f : Nat → Nat} {z : Nat} : ∀ k, (∀ y, y < k → f y ≠ z) → (xmF f k).testBit z = false
  | 0, _ => by simp [xmF]
  | k + 1, h => by
    show (xmF f k ^^^ 2 ^ f k).testBit z = false
    rw [Nat.testBit_xor, xmF_none k (fun y hy => h y (by omega)), Nat.testBit_two_pow]
    simp [h k (by omega)]

theorem xmF_one {f : Nat → Nat} {z y0 : Nat} : ∀ k, y0 < k → f y0 = z → (∀ y, y < k → y ≠ y0 → f y ≠ z) → (xmF f k).testBit z = true
  | 0, h, _, _ => by omega
  | k + 1, h, e, hu => by
    show (xmF f k ^^^ 2 ^ f k).testBit z = true
    rw [Nat.testBit_xor, Nat.testBit_two_pow]
    by_cases hk : y0 = k
    · subst hk
      rw [xmF_none y0 (fun y hy => hu y (by omega) (by omega))]
      simp [e]
    · rw [xmF_one k (by omega) e (fun y hy hne => hu y (by omega) hne)]
      simp [hu k (by omega) (fun h => hk h.symm)]

theorem nodup_len : ∀ (n : Nat) (l : List Nat), l.Nodup → (∀ x ∈ l, x < n) → l.length ≤ n
  | 0, l, _, h => by
    cases l with
    | nil => simp
    | cons a r => exact absurd (h a (by simp)) (by omega)
  | n + 1, l, hd, h => by
    by_cases hm : n ∈ l
    · have h2 := nodup_len n (l.erase n) (hd.erase n) (fun x hx => by
        have := (hd.mem_erase_iff).1 hx
        have := h x this.2
        omega)
      rw [List.length_erase_of_mem hm] at h2
      omega
    · have h2 := nodup_len n l hd (fun x hx => by
        have h3 := h x hx
        have : x ≠ n := fun e => hm (e ▸ hx)
        omega)
      omega

theorem xm_le_of_all : ∀ (n : Nat) (l : List Nat), (∀ x, x < n → x ∈ l) → n ≤ l.length
  | 0, _, _ => Nat.zero_le _
  | n + 1, l, h => by
    have hm : n ∈ l := h n (by omega)
    have h2 := xm_le_of_all n (l.erase n) (fun x hx => (List.mem_erase_of_ne (by omega)).2 (h x (by omega)))
    rw [List.length_erase_of_mem hm] at h2
    have := List.length_pos_of_mem hm
    omega

theorem xm_full {f : Nat → Nat} {n : Nat} (h : ∀ y, y < n → f y < n) : xmF f n = 2 ^ n - 1 ↔ ∀ y, y < n → ∀ y', y' < y → f y' ≠ f y := by
  constructor
  · intro e y hy y' hy' he
    have hall : ∀ x, x < n → x ∈ ((List.range n).erase y).map f := by
      intro x hx
      have hb : (xmF f n).testBit x = true := by rw [e, Nat.testBit_two_pow_sub_one]; simp [hx]
      have hex : ∃ i, i < n ∧ f i = x := by
        refine Classical.byContradiction fun hn => ?_
        rw [xmF_none n (fun i hi hf => hn ⟨i, hi, hf⟩)] at hb
        exact Bool.noConfusion hb
      obtain ⟨i, hi, rfl⟩ := hex
      by_cases hiy : i = y
      · rw [hiy, ← he]
        exact List.mem_map.2 ⟨y', (List.mem_erase_of_ne (by omega)).2 (List.mem_range.2 (by omega)), rfl⟩
      · exact List.mem_map.2 ⟨i, (List.mem_erase_of_ne hiy).2 (List.mem_range.2 hi), rfl⟩
    have := xm_le_of_all n _ hall
    rw [List.length_map, List.length_erase_of_mem (List.mem_range.2 hy), List.length_range] at this
    omega
  · intro hinj
    have hi : ∀ a b, a < n → b < n → f a = f b → a = b := by
      intro a b ha hb hab
      rcases Nat.lt_trichotomy a b with h1 | h1 | h1
      · exact absurd hab (hinj b hb a h1)
      · exact h1
      · exact absurd hab.symm (hinj a ha b h1)
    apply Nat.eq_of_testBit_eq
    intro z
    rw [Nat.testBit_two_pow_sub_one]
    by_cases hz : z < n
    · have hex : ∃ i, i < n ∧ f i = z := by
        refine Classical.byContradiction fun hn => ?_
        have hnd : (z :: (List.range n).map f).Nodup := by
          refine List.nodup_cons.2 ⟨fun hm => ?_, ?_⟩
          · obtain ⟨i, hi1, hi2⟩ := List.mem_map.1 hm
            exact hn ⟨i, List.mem_range.1 hi1, hi2⟩
          · unfold List.Nodup
            rw [List.pairwise_map]
            refine List.Pairwise.imp_of_mem ?_ List.nodup_range
            intro a b ha hb hab hf
            exact hab (hi a b (List.mem_range.1 ha) (List.mem_range.1 hb) hf)
        have := nodup_len n _ hnd (fun x hx => by
          rcases List.mem_cons.1 hx with rfl | hx
          · exact hz
          · obtain ⟨i, hi1, rfl⟩ := List.mem_map.1 hx
            exact h i (List.mem_range.1 hi1))
        simp at this
        omega
      obtain ⟨i, hi1, hi2⟩ := hex
      rw [xmF_one n hi1 hi2 (fun y hy hne he => hne (hi y i hy hi1 (he.trans hi2.symm)))]
      simp [hz]
    · rw [xmF_none n (fun y hy he => by have := h y hy; omega)]
      simp [hz]
end Go.Proofs.Yteggllmiapdmcaa
