/-
  Whether a pair is unseen: numbers.
-/
import Derived.Test.YtiokcflomchdcaaUn1
import Derived.Test.YtiokcflomchdcaaUn2
namespace Go.Proofs.Ytiokcflomchdcaa
open Go Go.RowKit

def pF (k : Nat) (a b : Int) : List Int := match k with
  | 0 => [a, 0, 0] | 1 => [a, b, 0] | 2 => [a, 0, b] | 3 => [a, a, 0] | 4 => [a, 0, a] | _ => if b = 0 then [a, 0, 0] else [a, b, 0]
def pT (k : Nat) (a b : Int) : List Int := match k with
  | 0 => [b, 0, 0] | 1 => [b, a, 0] | 2 => [b, 0, a] | 3 => [b, b, 0] | 4 => [b, 0, b] | _ => if b = 0 then [1, a, 0] else [b, 0, 0]
theorem pF5 (a b : Int) : pF 5 a b = if b = 0 then [a, 0, 0] else [a, b, 0] := rfl
theorem pT5 (a b : Int) : pT 5 a b = if b = 0 then [1, a, 0] else [b, 0, 0] := rfl
theorem change_any (k : Nat) (hk : k < 6) (a b : Int) (w : World) : ∃ x0 x1 x2 y0 y1 y2, pF k a b = [x0, x1, x2] ∧ pT k a b = [y0, y1, y2] ∧
    Calls Try.prog (fnOf k) #[.agg #[.int .i64 a, .int .i64 b, .int .i64 0]] w fun e w' => e = .returned (.tuple #[.agg #[.int .i64 x0, .int .i64 x1, .int .i64 x2], .agg #[.int .i64 y0, .int .i64 y1, .int .i64 y2]]) ∧ Below w.heap.size w w' := by
  match k, hk with
  | 0, _ => exact ⟨_, _, _, _, _, _, rfl, rfl, single_any a b w⟩
  | 1, _ => exact ⟨_, _, _, _, _, _, rfl, rfl, swap_any a b w⟩
  | 2, _ => exact ⟨_, _, _, _, _, _, rfl, rfl, jump_any a b w⟩
  | 3, _ => exact ⟨_, _, _, _, _, _, rfl, rfl, twin_any a b w⟩
  | 4, _ => exact ⟨_, _, _, _, _, _, rfl, rfl, jumpTwin_any a b w⟩
  | 5, _ =>
    by_cases hb : b = 0
    · exact ⟨_, _, _, _, _, _, by rw [pF5, if_pos hb], by rw [pT5, if_pos hb], phonetic0_any a b w hb⟩
    · exact ⟨_, _, _, _, _, _, by rw [pF5, if_neg hb], by rw [pT5, if_neg hb], phonetic1_any a b w hb⟩
theorem pF_mem {k : Nat} {a b : Int} (ha : 0 ≤ a ∧ a ≤ 35) (hb : 0 ≤ b ∧ b ≤ 35) : ∀ d ∈ pF k a b, 0 ≤ d ∧ d ≤ 35 := by
  intro d hd
  unfold pF at hd
  split at hd <;> (try split at hd) <;> simp at hd <;> omega
theorem pT_mem {k : Nat} {a b : Int} (ha : 0 ≤ a ∧ a ≤ 35) (hb : 0 ≤ b ∧ b ≤ 35) : ∀ d ∈ pT k a b, 0 ≤ d ∧ d ≤ 35 := by
  intro d hd
  unfold pT at hd
  split at hd <;> (try split at hd) <;> simp at hd <;> omega
/-- The sums are equal. -/
def same (W : List Int) (m p k : Nat) (a b : Int) : Bool := decide (dot (W.drop p) ((pF k a b).take (sizeK k)) % (m : Int) = dot (W.drop p) ((pT k a b).take (sizeK k)) % (m : Int))
def wg (W : List Int) (i : Nat) : Int := W.getD i 0
theorem drop_wg {W : List Int} {p : Nat} (h : p < W.length) : W.drop p = wg W p :: W.drop (p + 1) := by
  rw [List.drop_eq_getElem_cons h]
  unfold wg
  rw [List.getD_eq_getElem?_getD, List.getElem?_eq_getElem h]
  rfl
theorem dot1 {W : List Int} {p : Nat} (h : p + 1 ≤ W.length) (x : Int) : dot (W.drop p) [x] = wg W p * x := by
  rw [drop_wg (by omega)]; simp [dot, dot_nil]
theorem dot2 {W : List Int} {p : Nat} (h : p + 2 ≤ W.length) (x y : Int) : dot (W.drop p) [x, y] = wg W p * x + wg W (p + 1) * y := by
  rw [drop_wg (by omega)]
  show _ + dot (W.drop (p + 1)) [y] = _
  rw [dot1 (by omega)]
theorem dot3 {W : List Int} {p : Nat} (h : p + 3 ≤ W.length) (x y z : Int) : dot (W.drop p) [x, y, z] = wg W p * x + (wg W (p + 1) * y + wg W (p + 2) * z) := by
  rw [drop_wg (by omega)]
  show _ + dot (W.drop (p + 1)) [y, z] = _
  rw [dot2 (by omega)]
theorem modZ_zero {a m : Int} (h : 1 ≤ m) : (modZ a m = 0) ↔ a % m = 0 := by
  have hb := tmod_bd a m h
  have e : modZ a m = 0 ↔ a.tmod m = 0 := by
    unfold modZ
    split <;> omega
  rw [e]
  constructor
  · intro h1; exact Int.emod_eq_zero_of_dvd (Int.dvd_of_tmod_eq_zero h1)
  · intro h1; exact Int.tmod_eq_zero_of_dvd (Int.dvd_of_emod_eq_zero h1)
theorem same_mod {u v m : Int} : (u % m = v % m) ↔ (u - v) % m = 0 := Int.emod_eq_emod_iff_emod_sub_eq_zero
/-- By how much a pair's sums part. -/
def byK (W : List Int) (p k : Nat) : Int := match k with
  | 1 => wg W p - wg W (p + 1) | 2 => wg W p - wg W (p + 2) | 3 => wg W p + wg W (p + 1) | 4 => wg W p + wg W (p + 2) | _ => wg W p
theorem same_by {W : List Int} {m p k : Nat} {a b : Int} (hk : k < 5) (hm : 1 ≤ m) (h : p + sizeK k ≤ W.length) : same W m p k a b = decide (modZ (byK W p k * (a - b)) m = 0) := by
  unfold same
  apply decide_eq_decide.2
  rw [modZ_zero (by omega), same_mod]
  have : dot (W.drop p) ((pF k a b).take (sizeK k)) - dot (W.drop p) ((pT k a b).take (sizeK k)) = byK W p k * (a - b) := by
    match k, hk, h with
    | 0, _, h =>
      show dot (W.drop p) [a] - dot (W.drop p) [b] = wg W p * (a - b)
      rw [dot1 h, dot1 h, Int.mul_sub]
    | 1, _, h =>
      show dot (W.drop p) [a, b] - dot (W.drop p) [b, a] = (wg W p - wg W (p + 1)) * (a - b)
      rw [dot2 h, dot2 h]
      simp only [Int.mul_sub, Int.sub_mul]; (try omega)
    | 2, _, h =>
      show dot (W.drop p) [a, 0, b] - dot (W.drop p) [b, 0, a] = (wg W p - wg W (p + 2)) * (a - b)
      rw [dot3 h, dot3 h]
      simp only [Int.mul_sub, Int.sub_mul, Int.mul_zero]; (try omega)
    | 3, _, h =>
      show dot (W.drop p) [a, a] - dot (W.drop p) [b, b] = (wg W p + wg W (p + 1)) * (a - b)
      rw [dot2 h, dot2 h]
      simp only [Int.mul_sub, Int.add_mul]; (try omega)
    | 4, _, h =>
      show dot (W.drop p) [a, 0, a] - dot (W.drop p) [b, 0, b] = (wg W p + wg W (p + 2)) * (a - b)
      rw [dot3 h, dot3 h]
      simp only [Int.mul_sub, Int.add_mul, Int.mul_zero]; (try omega)
  rw [this]
def phW (W : List Int) (p : Nat) (d : Int) : Int := wg W p * d - wg W p - wg W (p + 1) * d
theorem same_ph {W : List Int} {m p : Nat} {a b : Int} (hm : 1 ≤ m) (h : p + 2 ≤ W.length) : (b = 0 → same W m p 5 a b = decide (modZ (phW W p a) m = 0)) ∧ (a = 1 → ¬ b = 0 → same W m p 5 a b = decide (modZ (phW W p b) m = 0)) := by
  refine ⟨fun hb => ?_, fun ha hb => ?_⟩
  · unfold same
    apply decide_eq_decide.2
    rw [modZ_zero (by omega), same_mod]
    have e1 : (pF 5 a b).take (sizeK 5) = [a, 0] := by rw [pF5, if_pos hb]; rfl
    have e2 : (pT 5 a b).take (sizeK 5) = [1, a] := by rw [pT5, if_pos hb]; rfl
    rw [e1, e2, dot2 h, dot2 h]
    unfold phW
    rw [show wg W p * a + wg W (p + 1) * 0 - (wg W p * 1 + wg W (p + 1) * a) = wg W p * a - wg W p - wg W (p + 1) * a by simp only [Int.mul_zero, Int.mul_one]; (try omega)]
  · unfold same
    apply decide_eq_decide.2
    rw [modZ_zero (by omega), same_mod]
    have e1 : (pF 5 a b).take (sizeK 5) = [a, b] := by rw [pF5, if_neg hb]; rfl
    have e2 : (pT 5 a b).take (sizeK 5) = [b, 0] := by rw [pT5, if_neg hb]; rfl
    rw [e1, e2, dot2 h, dot2 h]
    unfold phW
    subst ha
    rw [show wg W p * 1 + wg W (p + 1) * b - (wg W p * b + wg W (p + 1) * 0) = -(wg W p * b - wg W p - wg W (p + 1) * b) by simp only [Int.mul_zero, Int.mul_one]; (try omega)]
    constructor
    · intro h1
      have := Int.dvd_of_emod_eq_zero h1
      exact Int.emod_eq_zero_of_dvd ((Int.dvd_neg).1 this)
    · intro h1
      have := Int.dvd_of_emod_eq_zero h1
      exact Int.emod_eq_zero_of_dvd ((Int.dvd_neg).2 this)
/-- How many pairs are unseen, as the program counts. -/
def unC (W : List Int) (m base p k : Nat) : Nat := sumN (fun a => sumN (fun b => b1 (pairK k a b && same W m p k a b)) base) base
/-- How many, as the model counts. -/
def unM (W : List Int) (m base p k : Nat) : Nat := if k = 5 then sumN (fun d => 2 * b1 (decide (modZ (phW W p ((d + 2 : Nat) : Int)) m = 0))) 8 else sumN (fun a => sumN (fun b => b1 (decide ((a : Int) ≠ b) && decide (modZ (byK W p k * ((a : Int) - b)) m = 0))) base) base
theorem sumN_single {f : Nat → Nat} {n i : Nat} (hi : i < n) (h : ∀ j, j < n → j ≠ i → f j = 0) : sumN f n = f i := by
  induction n with
  | zero => omega
  | succ n ih =>
    rw [sumN_succ]
    by_cases e : i = n
    · subst e
      rw [sumN_zero i (fun j hj => h j (by omega) (by omega)), Nat.zero_add]
    · rw [ih (by omega) (fun j hj hne => h j (by omega) hne), h n (by omega) (by omega), Nat.add_zero]
theorem sumN_addf (f g : Nat → Nat) : ∀ n, sumN (fun i => f i + g i) n = sumN f n + sumN g n
  | 0 => rfl
  | n + 1 => by rw [sumN_succ, sumN_succ, sumN_succ, sumN_addf f g n]; omega
theorem sumN_shift (f : Nat → Nat) (h0 : f 0 = 0) (h1 : f 1 = 0) : ∀ n, sumN f (n + 2) = sumN (fun d => f (d + 2)) n
  | 0 => by rw [sumN_succ, sumN_succ]; show 0 + f 0 + f 1 = 0; omega
  | n + 1 => by rw [sumN_succ, sumN_shift f h0 h1 n, sumN_succ]
theorem sumN_cut {f : Nat → Nat} {m : Nat} : ∀ n, m ≤ n → (∀ i, m ≤ i → i < n → f i = 0) → sumN f n = sumN f m
  | 0, h, _ => by rw [show m = 0 by omega]
  | n + 1, h, hz => by
    by_cases e : m = n + 1
    · rw [e]
    · rw [sumN_succ, sumN_cut n (by omega) (fun i h1 h2 => hz i h1 (by omega)), hz n (by omega) (by omega)]
      rfl
theorem unC_unM {W : List Int} {m base p k : Nat} (hk : k < 6) (hm : 1 ≤ m) (h : p + sizeK k ≤ W.length) (hb : k = 5 → 10 ≤ base) : unC W m base p k = unM W m base p k := by
  unfold unC unM
  by_cases h5 : k = 5
  · subst h5
    rw [if_pos rfl]
    have hb := hb rfl
    obtain ⟨g, hg⟩ : ∃ g : Nat → Bool, g = fun d : Nat => decide (modZ (phW W p (d : Int)) m = 0) := ⟨_, rfl⟩
    have e : ∀ a b : Nat, a < base → b < base → b1 (pairK 5 (a : Int) b && same W m p 5 a b) = (if b = 0 then b1 (inB a 2 9 && g a) else 0) + (if a = 1 then b1 (inB b 2 9 && g b) else 0) := by
      intro a b _ _
      have hp : pairK 5 (a : Int) b = ((decide ((b : Int) = 0) && inB a 2 9) || (decide ((a : Int) = 1) && inB b 2 9)) := rfl
      rw [hp]
      by_cases b0 : b = 0
      · subst b0
        have hs := (same_ph (a := (a : Int)) (b := ((0 : Nat) : Int)) hm h).1 (by simp)
        rw [hs, if_pos rfl]
        have i0 : inB ((0 : Nat) : Int) 2 9 = false := by decide
        rw [i0, hg]
        simp [b1]
      · rw [if_neg b0]
        have nb : ¬ (b : Int) = 0 := by omega
        by_cases a1 : a = 1
        · subst a1
          have hs := (same_ph (a := ((1 : Nat) : Int)) (b := (b : Int)) hm h).2 rfl nb
          rw [hs, hg]
          simp [b0, b1]
        · have na : ¬ (a : Int) = 1 := by omega
          rw [if_neg a1]
          simp [b0, na, b1]
    rw [sumN_congr base (g := fun a => b1 (inB a 2 9 && g a) + (if a = 1 then sumN (fun b => b1 (inB b 2 9 && g b)) base else 0)) (fun a ha => by
      show sumN _ base = _
      rw [sumN_congr base (fun b hb' => e a b ha hb'), sumN_addf]
      congr 1
      · rw [sumN_single (i := 0) (by omega) (fun j _ hj => by rw [if_neg hj]), if_pos rfl]
      · by_cases a1 : a = 1
        · simp only [a1, if_pos]
        · simp only [if_neg a1]
          exact sumN_zero base (fun _ _ => rfl)), sumN_addf, sumN_single (i := 1) (f := fun a => if a = 1 then sumN (fun b => b1 (inB b 2 9 && g b)) base else 0) (by omega) (fun j _ hj => by rw [if_neg hj])]
    rw [if_pos rfl]
    have hc : sumN (fun b => b1 (inB (b : Int) 2 9 && g b)) base = sumN (fun d => b1 (g (d + 2))) 8 := by
      rw [sumN_cut (m := 10) base hb (fun i h1 _ => by
        have : inB (i : Int) 2 9 = false := by
          rcases hi : inB (i : Int) 2 9 with _ | _
          · rfl
          · have := inB_true.1 hi; omega
        rw [this]; rfl)]
      rw [sumN_shift (fun b => b1 (inB (b : Int) 2 9 && g b)) (by rfl) (by rfl) 8]
      refine sumN_congr 8 (fun d hd => ?_)
      have : inB ((d + 2 : Nat) : Int) 2 9 = true := inB_true.2 ⟨by omega, by omega⟩
      show b1 (inB ((d + 2 : Nat) : Int) 2 9 && g (d + 2)) = _
      rw [this]; rfl
    rw [hc, ← sumN_addf]
    refine sumN_congr 8 (fun d _ => ?_)
    rw [hg]
    show b1 (decide (modZ (phW W p ((d + 2 : Nat) : Int)) m = 0)) + b1 (decide (modZ (phW W p ((d + 2 : Nat) : Int)) m = 0)) = 2 * b1 (decide (modZ (phW W p ((d + 2 : Nat) : Int)) m = 0))
    omega
  · rw [if_neg h5]
    refine sumN_congr base (fun a _ => sumN_congr base (fun b _ => ?_))
    rw [same_by (by omega) hm h]
    unfold pairK
    rw [if_neg h5]
end Go.Proofs.Ytiokcflomchdcaa
