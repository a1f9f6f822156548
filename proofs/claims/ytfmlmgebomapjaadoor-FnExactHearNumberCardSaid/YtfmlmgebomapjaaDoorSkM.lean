/-
  Spoken numbers: syllables of digits.
-/
import Derived.Test.YtfmlmgebomapjaaDoorSpM
import Derived.Lib.Join
namespace Go.Proofs.YtfmlmgebomapjaaDoor
open Go Go.RowKit

/-- The digit with an index, from the least one on. -/
def dgt (n b i : Nat) : Nat := n / b ^ i % b
/-- The syllable of a number. -/
def syl (F S : ByteArray) (d : Nat) : ByteArray := ⟨#[F.data.getD (d / S.size) 0, S.data.getD (d % S.size) 0]⟩
def sylL (F S : ByteArray) (n b k : Nat) : List ByteArray := (List.range k).map fun j => syl F S (dgt n b (k - 1 - j))
def jnD (xs : List ByteArray) : ByteArray := ⟨(Lib.join (xs.map (·.data.toList)) [45]).toArray⟩
theorem bytes_eqD {a b : ByteArray} (h : a.data.toList = b.data.toList) : a = b := ByteArray.ext (Array.toList_inj.1 h)
theorem jnD_one (x : ByteArray) : jnD [x] = x := by apply bytes_eqD; simp [jnD, Lib.join_one]
theorem jnD_cons (x : ByteArray) {xs : List ByteArray} (h : xs ≠ []) : jnD (x :: xs) = (x ++ ⟨#[45]⟩) ++ jnD xs := by
  rcases xs with _ | ⟨y, xs⟩
  · exact absurd rfl h
  · apply bytes_eqD
    simp [jnD, Lib.join_cons, Lib.joinTail]
theorem sylL_len (F S : ByteArray) (n b k : Nat) : (sylL F S n b k).length = k := by simp [sylL]
theorem sylL_at (F S : ByteArray) (n b : Nat) {k j : Nat} (h : j < k) : (sylL F S n b k)[j]? = some (syl F S (dgt n b (k - 1 - j))) := by simp [sylL, h]
theorem syl_size (F S : ByteArray) (d : Nat) : (syl F S d).size = 2 := rfl
theorem jn_sylL (F S : ByteArray) (n b k : Nat) : ∀ i, i ≤ k → (jnD ((sylL F S n b k).drop (k - i))).size ≤ 3 * i := by
  intro i
  induction i with
  | zero => intro _; rw [List.drop_of_length_le (by rw [sylL_len]; omega)]; exact Nat.le_refl 0
  | succ i ih =>
    intro hi
    have h1 := ih (by omega)
    have hk : k - (i + 1) < (sylL F S n b k).length := by rw [sylL_len]; omega
    rw [List.drop_eq_getElem_cons hk, show k - (i + 1) + 1 = k - i by omega]
    by_cases h0 : i = 0
    · subst h0
      rw [List.drop_of_length_le (by rw [sylL_len]; omega), jnD_one]
      have e : (sylL F S n b k)[k - (0 + 1)] = syl F S (dgt n b (k - 1 - (k - (0 + 1)))) := by
        have h3 := sylL_at F S n b (show k - (0 + 1) < k by omega)
        rw [List.getElem?_eq_getElem hk] at h3
        injection h3
      rw [e, syl_size]; omega
    · rw [jnD_cons _ (by
        intro e
        have := congrArg List.length e
        rw [List.length_drop, sylL_len] at this
        simp at this
        omega)]
      have e : (sylL F S n b k)[k - (i + 1)] = syl F S (dgt n b (k - 1 - (k - (i + 1)))) := by
        have h3 := sylL_at F S n b (show k - (i + 1) < k by omega)
        rw [List.getElem?_eq_getElem hk] at h3
        injection h3
      rw [ByteArray.size_append, ByteArray.size_append, e, syl_size]
      have : (⟨#[45]⟩ : ByteArray).size = 1 := rfl
      omega
theorem drop_step (F S : ByteArray) (n b : Nat) {k i : Nat} (hi : i < k) : (sylL F S n b k).drop (k - (i + 1)) = syl F S (dgt n b i) :: (sylL F S n b k).drop (k - i) := by
  have hk : k - (i + 1) < (sylL F S n b k).length := by rw [sylL_len]; omega
  rw [List.drop_eq_getElem_cons hk, show k - (i + 1) + 1 = k - i by omega]
  have h3 := sylL_at F S n b (show k - (i + 1) < k by omega)
  rw [List.getElem?_eq_getElem hk] at h3
  injection h3 with h3
  rw [h3, show k - 1 - (k - (i + 1)) = i by omega]
theorem dgt_div (n b i : Nat) : n / b ^ i / b = n / b ^ (i + 1) := by rw [Nat.div_div_eq_div_mul, Nat.pow_succ]
/-- Whether a number is spoken with so many syllables. -/
def skOk (F S : ByteArray) (n k : Int) : Bool := spB F S && (inB k 1 8 && (decide ((F.size * S.size) ^ k.toNat ≤ 1000000000000000) && inB n 0 (((F.size * S.size) ^ k.toNat : Nat) - 1 : Int)))
def skT (F S : ByteArray) (n k : Int) : ByteArray := if skOk F S n k = true then jnD (sylL F S n.toNat (F.size * S.size) k.toNat) else ByteArray.empty
def skE (F S : ByteArray) (n k : Int) : Ending := .returned (.tuple #[.string (skT F S n k), .bool (skOk F S n k)])
theorem sk_no {F S : ByteArray} {n k : Int} (h : skOk F S n k = false) : Ending.returned (.tuple #[.string ⟨#[]⟩, .bool false]) = skE F S n k := by unfold skE skT; rw [h]; rfl
theorem sk_yes {F S : ByteArray} {n k : Int} {u : ByteArray} (h : skOk F S n k = true) (hu : u = jnD (sylL F S n.toNat (F.size * S.size) k.toNat)) : Ending.returned (.tuple #[.string u, .bool true]) = skE F S n k := by unfold skE skT; rw [if_pos h, h, hu]
/-- Powers up to a limit. -/
def pwOk (b k : Nat) : Bool := decide (b ^ k ≤ 1000000000000000)
theorem pw_mono {b j k : Nat} (hb : 1 ≤ b) (h : j ≤ k) : b ^ j ≤ b ^ k := Nat.pow_le_pow_right hb h
theorem sp_parts {F S : ByteArray} (h : spB F S = true) : (1 ≤ F.size ∧ F.size ≤ 20) ∧ (1 ≤ S.size ∧ S.size ≤ 6) := by
  unfold spB at h
  simp only [Bool.and_eq_true, decide_eq_true_eq] at h
  exact ⟨h.1.1, h.2.1.1⟩
theorem base_bd {F S : ByteArray} (h : spB F S = true) : 1 ≤ F.size * S.size ∧ F.size * S.size ≤ 120 := by
  obtain ⟨⟨h1, h2⟩, h3, h4⟩ := sp_parts h
  exact ⟨Nat.mul_le_mul h1 h3, Nat.le_trans (Nat.mul_le_mul h2 h4) (by decide)⟩
end Go.Proofs.YtfmlmgebomapjaaDoor
