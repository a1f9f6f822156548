/-
  Heard numbers: the parts of a text as syllables.
-/
import Derived.Test.YtfmlmgebomapjaaDoorSkP
import Derived.Test.YtfmlmgebomapjaaDoorSpS
import Derived.Test.YtfmlmgebomapjaaDoorCutWN
namespace Go.Proofs.YtfmlmgebomapjaaDoor
open Go Go.RowKit

/-- The number of a syllable. -/
def nmO (F S : ByteArray) : List UInt8 → Option Nat
  | [x, y] => match ixO F.data.toList x, ixO S.data.toList y with
    | some a, some b => some (a * S.size + b)
    | _, _ => none
  | _ => none
def hearN (F S : ByteArray) : List (List UInt8) → Nat → Option Nat
  | [], n => some n
  | p :: ps, n => match nmO F S p with
    | none => none
    | some d => hearN F S ps (n * (F.size * S.size) + d)
theorem hearN_cons (F S : ByteArray) (p : List UInt8) (ps : List (List UInt8)) (n : Nat) : hearN F S (p :: ps) n = match nmO F S p with
    | none => none
    | some d => hearN F S ps (n * (F.size * S.size) + d) := rfl
theorem nmO_lt {F S : ByteArray} {p : List UInt8} {d : Nat} (h : nmO F S p = some d) : d < F.size * S.size := by
  match p, h with
  | [x, y], h =>
    simp only [nmO] at h
    cases hx : ixO F.data.toList x with
    | none => rw [hx] at h; cases h
    | some a =>
      cases hy : ixO S.data.toList y with
      | none => rw [hx, hy] at h; cases h
      | some b =>
        rw [hx, hy] at h
        injection h with h
        subst h
        have h1 := ixO_lt hx
        have h2 := ixO_lt hy
        simp only [Array.length_toList] at h1 h2
        have e1 : F.data.size = F.size := rfl
        have e2 : S.data.size = S.size := rfl
        rw [e1] at h1
        rw [e2] at h2
        have h3 : (a + 1) * S.size ≤ F.size * S.size := Nat.mul_le_mul_right _ h1
        rw [Nat.add_mul, Nat.one_mul] at h3
        omega
  | [], h => cases h
  | [x], h => cases h
  | x :: y :: z :: r, h => cases h
/-- What is left to be heard behind the first parts. -/
def HnIn (F S : ByteArray) (P : List (List UInt8)) (k n : Nat) : Prop := hearN F S P 0 = hearN F S (P.drop k) n ∧ n < (F.size * S.size) ^ k
theorem HnIn.zero (F S : ByteArray) (P : List (List UInt8)) : HnIn F S P 0 0 := ⟨rfl, by simp⟩
theorem HnIn.next {F S : ByteArray} {P : List (List UInt8)} {k n d : Nat} {p : List UInt8} (h : HnIn F S P k n) (hp : P[k]? = some p) (hd : nmO F S p = some d) : HnIn F S P (k + 1) (n * (F.size * S.size) + d) := by
  obtain ⟨h1, h2⟩ := h
  obtain ⟨hk, e⟩ := List.getElem?_eq_some_iff.1 hp
  constructor
  · rw [h1, List.drop_eq_getElem_cons hk, e, hearN_cons, hd]
  · have hl := nmO_lt hd
    rw [Nat.pow_succ]
    have : (n + 1) * (F.size * S.size) ≤ (F.size * S.size) ^ k * (F.size * S.size) := Nat.mul_le_mul_right _ h2
    rw [Nat.add_mul, Nat.one_mul] at this
    omega
theorem HnIn.bad {F S : ByteArray} {P : List (List UInt8)} {k n : Nat} {p : List UInt8} (h : HnIn F S P k n) (hp : P[k]? = some p) (hd : nmO F S p = none) : hearN F S P 0 = none := by
  obtain ⟨hk, e⟩ := List.getElem?_eq_some_iff.1 hp
  rw [h.1, List.drop_eq_getElem_cons hk, e, hearN_cons, hd]
theorem HnIn.done {F S : ByteArray} {P : List (List UInt8)} {k n : Nat} (h : HnIn F S P k n) (hk : P.length ≤ k) : hearN F S P 0 = some n := by
  rw [h.1, List.drop_of_length_le hk]; rfl
/-- What HearNumber returns. -/
def hnO (F S : ByteArray) (P : List (List UInt8)) : Option Nat := if nmOk F S (P.length : Int) = true then hearN F S P 0 else none
def hnE (o : Option Nat) : Ending := two ((o.getD 0 : Nat) : Int) o.isSome
theorem hn_no {F S : ByteArray} {P : List (List UInt8)} (h : hnO F S P = none) : two 0 false = hnE (hnO F S P) := by rw [h]; rfl
theorem hn_yes {F S : ByteArray} {P : List (List UInt8)} {n : Nat} (h : hnO F S P = some n) : two (n : Int) true = hnE (hnO F S P) := by rw [h]; rfl
theorem hnO_no {F S : ByteArray} {P : List (List UInt8)} (h : nmOk F S (P.length : Int) = false) : hnO F S P = none := by unfold hnO; rw [h]; rfl
theorem hnO_yes {F S : ByteArray} {P : List (List UInt8)} (h : nmOk F S (P.length : Int) = true) : hnO F S P = hearN F S P 0 := by unfold hnO; rw [if_pos h]
theorem nm_long {F S : ByteArray} {k : Nat} (h : 8 < k) : nmOk F S (k : Int) = false := by
  unfold nmOk
  have : inB (k : Int) 1 8 = false := by rw [inB_false]; omega
  rw [this]; simp
theorem nmO_two {F S p : ByteArray} (h : p.size = 2) : nmO F S p.data.toList = match ixO F.data.toList (p[0]'(by omega)), ixO S.data.toList (p[1]'(by omega)) with
    | some a, some b => some (a * S.size + b)
    | _, _ => none := by
  have e : p.data.toList = [p[0]'(by omega), p[1]'(by omega)] := by
    apply List.ext_getElem?
    intro j
    match j with
    | 0 => rw [byte_atX (by omega)]; rfl
    | 1 => rw [byte_atX (by omega)]; rfl
    | j + 2 => rw [List.getElem?_eq_none (by simp; omega), List.getElem?_eq_none (by simp)]
  conv => lhs; rw [e]
  rfl
theorem nmO_bad {F S p : ByteArray} (h : ¬ p.size = 2) : nmO F S p.data.toList = none := by
  have hl : p.data.toList.length = p.size := by simp
  match hp : p.data.toList with
  | [] => rfl
  | [x] => rfl
  | [x, y] => rw [hp] at hl; simp at hl; omega
  | x :: y :: z :: r => rfl

/-- The parts of a text, or too many of them. -/
def SplitP9 (l : List UInt8) (w : World) (e : Ending) (w' : World) : Prop :=
  ∃ cc ps, e = .returned (.slice (some ⟨w.heap.size, 0, none⟩) ps.length cc) ∧ (∀ (j : Nat) p, ps[j]? = some p → w'.cell? ⟨w.heap.size, j, none⟩ = some (.string p)) ∧ ps.length ≤ 9 ∧ ((8 < (cut 45 l).length ∧ 8 < ps.length) ∨ (ps.length ≤ 8 ∧ textsOf ps = cut 45 l)) ∧ w.heap.size < w'.heap.size ∧ Below w.heap.size w w'
theorem splitN9_any (s : ByteArray) (m : Int) (w : World) (hs : s.size ≤ 1048576) (hm : w.cell? ⟨4, 0, none⟩ = some (.int .i64 m)) :
    Calls Tryd.prog 64 #[.string s, .string ⟨#[45]⟩, .int .i64 9] w (SplitP9 s.data.toList w) := by
  refine (Tryd.strings_SplitN s ⟨#[45]⟩ 9 m w (by omega) hm (by decide) (by omega) (by omega)).mono ?_
  rintro e w' ⟨rfl, rfl⟩
  have hl : s.data.toList.length = s.size := by simp
  have hk : min 9 (s.size + 1) - 1 ≤ 8 := by omega
  obtain ⟨K, hK⟩ : ∃ K, K = min 9 (s.size + 1) - 1 := ⟨_, rfl⟩
  have hN : min 9 (s.size + 1) = K + 1 := by omega
  rw [← hK]
  have hlen := Lib.splitB_length_le ⟨#[45]⟩ 0 K s
  have hdata := Lib.splitB_data ⟨#[45]⟩ 0 K s
  obtain ⟨ps, hps⟩ : ∃ ps, ps = Lib.splitB ⟨#[45]⟩ 0 K s := ⟨_, rfl⟩
  rw [← hps] at hlen hdata ⊢
  have hT : textsOf ps = Lib.splitK [45] 0 K s.data.toList := hdata
  have hL : ps.length = (Lib.splitK [45] 0 K s.data.toList).length := by rw [← hT]; simp
  have hc := split_cut 45 K s.data.toList
  have hcl := cut_len 45 s.data.toList
  refine ⟨_, ps, rfl, ?_, by omega, ?_, by simp, (Below.refl _ _).alloc (Nat.le_refl _) _⟩
  · intro j p hp
    have hj := (List.getElem?_eq_some_iff.1 hp).1
    rw [World.cell?_alloc_new]
    simp only [Lib.cellsOf, List.getElem?_toArray]
    rw [List.getElem?_append_left (by simpa using hj)]
    simp [hp]
  · rcases Nat.lt_or_ge 8 (cut 45 s.data.toList).length with h1 | h1
    · refine .inl ⟨h1, ?_⟩
      have hK8 : K = 8 := by omega
      have := hc.2 (by omega)
      omega
    · refine .inr ?_
      have h2 : (cut 45 s.data.toList).length ≤ K + 1 := by omega
      have := hc.1 h2
      exact ⟨by rw [hL, this]; exact h1, hT.trans this⟩
end Go.Proofs.YtfmlmgebomapjaaDoor
