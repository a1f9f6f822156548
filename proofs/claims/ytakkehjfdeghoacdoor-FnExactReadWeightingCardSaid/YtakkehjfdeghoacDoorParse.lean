/-
  Numerals: a text that is a number's numeral is parsed to that number, and by no other way.
-/
import Derived.Lib.ItoaNum
import Derived.Lib.ParseIntBTie
import Derived.Lib.AtoiTie
import Derived.Test.YtakkehjfdeghoacDoorBasic
namespace Go.Proofs.YtakkehjfdeghoacDoor
open Go.Lib

theorem decFrom_app : ∀ (l : List UInt8) (acc : Nat) (r : List UInt8), decFrom acc (l ++ r) = (decFrom acc l).bind fun m => decFrom m r
  | [], acc, r => by simp [decFrom]
  | b :: l, acc, r => by
    simp only [List.cons_append, decFrom]
    cases digitVal b with
    | none => rfl
    | some d => exact decFrom_app l _ r
theorem digitVal_of (d : Nat) (h : d < 10) : digitVal (UInt8.ofNat (48 + d)) = some d := by
  have : ∀ d : Nat, d < 10 → digitVal (UInt8.ofNat (48 + d)) = some d := by decide
  exact this d h
theorem decFrom_digits (m : Nat) : decFrom 0 (decDigits m) = some m := by
  induction m using Nat.strongRecOn with
  | _ m ih =>
    by_cases h : m < 10
    · rw [decDigits, dif_pos h]
      simp only [decFrom, digitVal_of m h, Nat.zero_mul, Nat.zero_add]
    · rw [decDigits, dif_neg h, decFrom_app, ih (m / 10) (by omega)]
      simp only [Option.bind_some, decFrom, digitVal_of (m % 10) (by omega)]
      congr 1
      omega
theorem decDigits_ne (m : Nat) : decDigits m ≠ [] := by
  rw [decDigits]
  split <;> simp
theorem decDigits_digit (m : Nat) : ∀ c ∈ decDigits m, 48 ≤ c.toNat ∧ c.toNat ≤ 57 := by
  induction m using Nat.strongRecOn with
  | _ m ih =>
    intro c hc
    have hd : ∀ d : Nat, d < 10 → 48 ≤ (UInt8.ofNat (48 + d)).toNat ∧ (UInt8.ofNat (48 + d)).toNat ≤ 57 := by decide
    by_cases h : m < 10
    · rw [decDigits, dif_pos h] at hc
      simp only [List.mem_singleton] at hc
      subst hc
      exact hd m h
    · rw [decDigits, dif_neg h] at hc
      rcases List.mem_append.1 hc with hc | hc
      · exact ih (m / 10) (by omega) c hc
      · simp only [List.mem_singleton] at hc
        subst hc
        exact hd (m % 10) (by omega)
theorem decDigits_len : ∀ (k u : Nat), u < 10 ^ (k + 1) → (decDigits u).length ≤ k + 1
  | 0, u, h => by rw [decDigits, dif_pos (by simpa using h)]; simp
  | k + 1, u, h => by
    by_cases hu : u < 10
    · rw [decDigits, dif_pos hu]; simp
    · rw [decDigits, dif_neg hu]
      have := decDigits_len k (u / 10) (by rw [Nat.pow_succ] at h; omega)
      simp; omega

/-- A number's numeral, within the bounds. -/
def numB (l : List UInt8) (v : Int) : Bool := inB v (-1000000000000000) 1000000000000000 && decide (itoa v = l)
/-- What the program's ReadDecimal gives. -/
def implP (l : List UInt8) : Option Int :=
  match parseIntB 64 l with
  | .ok v => if numB l v = true then some v else none
  | _ => none
def isNeg (l : List UInt8) : Bool := l.head? == some 45
def restOf (l : List UInt8) : List UInt8 := if isNeg l = true then l.tail else l
def signed (l : List UInt8) (n : Nat) : Int := if isNeg l = true then -(n : Int) else n
/-- What the model's gives. -/
def specP (l : List UInt8) : Option Int :=
  if (restOf l).length < 1 ∨ 16 < (restOf l).length then none
  else match decFrom 0 (restOf l) with
    | some n => if numB l (signed l n) = true then some (signed l n) else none
    | none => none

theorem numB_iff {l : List UInt8} {v : Int} : numB l v = true ↔ (-1000000000000000 ≤ v ∧ v ≤ 1000000000000000) ∧ itoa v = l := by
  simp [numB, inB_true]
theorem itoa_nonneg (m : Nat) : itoa (m : Int) = decDigits m := by
  unfold itoa; rw [if_neg (by omega)]; simp
theorem itoa_minus (m : Nat) (h : 1 ≤ m) : itoa (-(m : Int)) = 45 :: decDigits m := by
  unfold itoa; rw [if_pos (by omega)]; simp
theorem head_digit (m : Nat) : ∃ c r, decDigits m = c :: r ∧ 48 ≤ c.toNat ∧ c.toNat ≤ 57 := by
  cases h : decDigits m with
  | nil => exact absurd h (decDigits_ne m)
  | cons c r => exact ⟨c, r, rfl, decDigits_digit m c (by rw [h]; simp)⟩
theorem ne_of_digit {c : UInt8} (h : 48 ≤ c.toNat) : c ≠ 45 ∧ c ≠ 43 := by
  constructor <;> (intro e; subst e; revert h; decide)
/-- The numeral of v: its sign, its digits, its value. -/
theorem num_parts {v : Int} (h : -1000000000000000 ≤ v ∧ v ≤ 1000000000000000) :
    isNeg (itoa v) = decide (v < 0) ∧ restOf (itoa v) = decDigits v.natAbs ∧ signed (itoa v) v.natAbs = v := by
  have key : isNeg (itoa v) = decide (v < 0) ∧ restOf (itoa v) = decDigits v.natAbs := by
    by_cases hv : 0 ≤ v
    · obtain ⟨m, rfl⟩ := Int.eq_ofNat_of_zero_le hv
      obtain ⟨c, r, hd, hc, _⟩ := head_digit m
      have hne := (ne_of_digit hc).1
      rw [itoa_nonneg]
      have e1 : isNeg (decDigits m) = false := by simp [isNeg, hd, hne]
      refine ⟨by rw [e1]; simp, ?_⟩
      simp [restOf, e1]
    · obtain ⟨m, hm⟩ := Int.eq_ofNat_of_zero_le (show 0 ≤ -v by omega)
      obtain rfl : v = -(m : Int) := by omega
      rw [itoa_minus m (by omega)]
      have e1 : isNeg (45 :: decDigits m) = true := by simp [isNeg]
      refine ⟨by rw [e1]; simp; omega, ?_⟩
      simp [restOf, e1]
  refine ⟨key.1, key.2, ?_⟩
  unfold signed
  rw [key.1]
  simp only [decide_eq_true_eq]
  split <;> omega
theorem abs_len {v : Int} (h : -1000000000000000 ≤ v ∧ v ≤ 1000000000000000) : 1 ≤ (decDigits v.natAbs).length ∧ (decDigits v.natAbs).length ≤ 16 := by
  refine ⟨?_, decDigits_len 15 _ (by omega)⟩
  have := decDigits_ne v.natAbs
  exact List.length_pos_iff.2 this
theorem specP_iff (l : List UInt8) (v : Int) : specP l = some v ↔ numB l v = true := by
  constructor
  · intro h
    unfold specP at h
    split at h
    · cases h
    · split at h
      · split at h
        · next hn => cases h; exact hn
        · cases h
      · cases h
  · intro h
    obtain ⟨hb, he⟩ := numB_iff.1 h
    obtain ⟨h1, h2, h3⟩ := num_parts hb
    have hl := abs_len hb
    rw [he] at h2 h3
    unfold specP
    rw [h2, if_neg (by omega), decFrom_digits]
    simp only [h3, h, if_true]
theorem atoi_num {v : Int} (h : -1000000000000000 ≤ v ∧ v ≤ 1000000000000000) : atoi (itoa v) = some v := by
  by_cases hv : 0 ≤ v
  · obtain ⟨m, rfl⟩ := Int.eq_ofNat_of_zero_le hv
    obtain ⟨c, r, hd, hc, _⟩ := head_digit m
    have hne := ne_of_digit hc
    have hf := decFrom_digits m
    rw [itoa_nonneg, hd]
    rw [hd] at hf
    simp [atoi, hne.1, hne.2, decNat, hf]
  · obtain ⟨m, hm⟩ := Int.eq_ofNat_of_zero_le (show 0 ≤ -v by omega)
    obtain rfl : v = -(m : Int) := by omega
    rw [itoa_minus m (by omega)]
    have hf := decFrom_digits m
    have hne := decDigits_ne m
    simp [atoi, decNat, hf, hne]
theorem itoa_len {v : Int} (h : -1000000000000000 ≤ v ∧ v ≤ 1000000000000000) : (itoa v).length ≤ 18 := by
  have hl := abs_len h
  by_cases hv : 0 ≤ v
  · obtain ⟨m, rfl⟩ := Int.eq_ofNat_of_zero_le hv
    rw [itoa_nonneg]
    simp at hl; omega
  · obtain ⟨m, hm⟩ := Int.eq_ofNat_of_zero_le (show 0 ≤ -v by omega)
    obtain rfl : v = -(m : Int) := by omega
    rw [itoa_minus m (by omega)]
    simp at hl ⊢; omega
theorem implP_iff (l : List UInt8) (v : Int) : implP l = some v ↔ numB l v = true := by
  constructor
  · intro h
    unfold implP at h
    split at h
    · split at h
      · next hn => cases h; exact hn
      · cases h
    · cases h
  · intro h
    obtain ⟨hb, he⟩ := numB_iff.1 h
    have e : parseIntB 64 l = .ok v := by
      rw [← he, parseIntB_64, atoiAll_short _ (itoa_len hb), atoi_num hb]
      rfl
    unfold implP
    rw [e]
    simp [h]
theorem implP_eq (l : List UInt8) : implP l = specP l := by
  cases h : specP l with
  | none =>
    cases h2 : implP l with
    | none => rfl
    | some v => rw [(specP_iff l v).2 ((implP_iff l v).1 h2)] at h; cases h
  | some v => exact (implP_iff l v).2 ((specP_iff l v).1 h)
end Go.Proofs.YtakkehjfdeghoacDoor
