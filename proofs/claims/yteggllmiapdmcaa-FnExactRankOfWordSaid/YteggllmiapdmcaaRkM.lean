/-
  The rank of a word.
-/
import Derived.Test.YteggllmiapdmcaaWays
import Derived.Test.YteggllmiapdmcaaRunF
namespace Go.Proofs.Yteggllmiapdmcaa
open Go Go.RowKit

/-- How many checked words come before the ones that go on with these digits. -/
def Ch.rank (c : Ch) (b n : Nat) : Nat → Nat → List Nat → Nat
  | _, _, [] => 0
  | i, x, d :: r => c.wsum b n (n - (i + 1)) x d + c.rank b n (i + 1) (c.nx i x d) r
section
variable {c : Ch} {b s n : Nat}
theorem rank_snoc (i x : Nat) (l : List Nat) (d : Nat) : c.rank b n i x (l ++ [d]) = c.rank b n i x l + c.wsum b n (n - (i + l.length + 1)) (c.run i x l) d := by
  induction l generalizing i x with
  | nil => simp [Ch.rank, Ch.run]
  | cons a r ih =>
    show c.wsum b n (n - (i + 1)) x a + c.rank b n (i + 1) (c.nx i x a) (r ++ [d]) = (c.wsum b n (n - (i + 1)) x a + c.rank b n (i + 1) (c.nx i x a) r) + c.wsum b n (n - (i + (a :: r).length + 1)) (c.run (i + 1) (c.nx i x a) r) d
    rw [ih, show i + (a :: r).length + 1 = i + 1 + r.length + 1 from (by simp; omega)]
    exact (Nat.add_assoc _ _ _).symm
theorem wsum_mono (k x : Nat) {d e : Nat} (h : d ≤ e) : c.wsum b n k x d ≤ c.wsum b n k x e := by
  induction e with
  | zero => obtain rfl : d = 0 := by omega
            exact Nat.le_refl _
  | succ e ih =>
    by_cases h2 : d = e + 1
    · rw [h2]; exact Nat.le_refl _
    · rw [Ch.wsum_succ]; exact Nat.le_trans (ih (by omega)) (Nat.le_add_right _ _)
theorem rank_le (l : List Nat) : ∀ {i x : Nat}, i + l.length ≤ n → (∀ d ∈ l, d < b) → c.rank b n i x l ≤ c.ways b n (n - i) x := by
  induction l with
  | nil => intro i x _ _; exact Nat.zero_le _
  | cons d r ih =>
    intro i x hi hd
    simp at hi
    have h1 := ih (i := i + 1) (x := c.nx i x d) (by omega) fun e he => hd e (by simp [he])
    have h2 := wsum_mono (c := c) (b := b) (n := n) (n - (i + 1)) x (show d + 1 ≤ b by have := hd d (by simp); omega)
    rw [Ch.wsum_succ, Ch.wsum_all, show n - (n - (i + 1) + 1) = i by omega, show n - (i + 1) + 1 = n - i by omega] at h2
    show c.wsum b n (n - (i + 1)) x d + c.rank b n (i + 1) (c.nx i x d) r ≤ _
    omega
theorem rank_lim (f : c.Fine b s n) (l : List Nat) {x : Nat} (hl : l.length ≤ n) (hd : ∀ d ∈ l, d < b) : c.rank b n 0 x l ≤ 1000000000000000 :=
  Nat.le_trans (rank_le l (by omega) hd) (Nat.le_trans (Ch.ways_le c b n _ x) (f.pow_le (by omega)))
/-- Within a digit. -/
theorem rank_part (f : c.Fine b s n) {ds : List Nat} (hl : ds.length ≤ n) (hd : ∀ d ∈ ds, d < b) {x k d e : Nat} (hk : ds[k]? = some e) (he : d ≤ e) : c.rank b n 0 x (ds.take k) + c.wsum b n (n - (k + 1)) (c.run 0 x (ds.take k)) d ≤ 1000000000000000 := by
  have hkl := (List.getElem?_eq_some_iff.1 hk).1
  have h := rank_snoc (c := c) (b := b) (n := n) 0 x (ds.take k) d
  rw [List.length_take, Nat.min_eq_left (by omega), Nat.zero_add] at h
  rw [← h]
  have heb := hd e (List.mem_of_getElem? hk)
  refine rank_lim f _ (by simp; omega) fun a ha => ?_
  rcases List.mem_append.1 ha with h1 | h1
  · exact hd a (List.mem_of_mem_take h1)
  · simp at h1; omega
theorem rank_next {ds : List Nat} {x k e : Nat} (hk : ds[k]? = some e) : c.rank b n 0 x (ds.take k) + c.wsum b n (n - (k + 1)) (c.run 0 x (ds.take k)) e = c.rank b n 0 x (ds.take (k + 1)) ∧ c.nx k (c.run 0 x (ds.take k)) e = c.run 0 x (ds.take (k + 1)) := by
  have hkl := (List.getElem?_eq_some_iff.1 hk).1
  rw [take_snoc hk, rank_snoc, Ch.run_snoc, List.length_take, Nat.min_eq_left (by omega), Nat.zero_add]
  exact ⟨rfl, rfl⟩
end
def rkV (c : Ch) (t : ByteArray) : Int := match c.chk t with | true => ((c.rank c.base.toNat c.P.length 0 c.start.toNat (dn t) : Nat) : Int) | false => 0
theorem rkV_no {c : Ch} {t : ByteArray} (h : c.chk t = false) : rkV c t = 0 := by unfold rkV; rw [h]
theorem rkV_yes {c : Ch} {t : ByteArray} {b s n x0 : Nat} (h : c.chk t = true) (f : c.Fine b s n) (hx : c.start = x0) : rkV c t = ((c.rank b n 0 x0 (dn t) : Nat) : Int) := by
  unfold rkV; rw [h, f.base, f.len, hx]; rfl
theorem chk_both {c : Ch} {t : ByteArray} (h : c.chk t = true) : c.both t = true := by unfold Ch.chk at h; simp at h; exact h.1
end Go.Proofs.Yteggllmiapdmcaa
