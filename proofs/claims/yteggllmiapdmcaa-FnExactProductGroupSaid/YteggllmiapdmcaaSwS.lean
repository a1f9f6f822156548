/-
  Pairs that commute, counted by the model.
-/
import Derived.Test.YteggllmiapdmcaaSumN
import Derived.Test.YteggllmiapdmcaaQS
import Derived.BigQuiet
namespace Go.Proofs.Yteggllmiapdmcaa
open Go.RowKit


def swapC (t : List (List Int)) (x y : Nat) : Bool := decide (cellZ t x y = cellZ t y x)
def chainC (t : List (List Int)) (c x y : Nat) : Bool := decide (cellZ t (cellZ t c x) y = cellZ t (cellZ t c y) x)
def swapsQ (t : List (List Int)) : Nat := pairsX (swapC t) t.length
def chainsQ (t : List (List Int)) : Nat := sumN (fun c => pairsX (chainC t c) t.length) t.length
theorem isQ_parts {t : List (List Int)} {n : Nat} (h : isQ t = true) (hl : t.length = n) : (1 ≤ n ∧ n ≤ 36) ∧ tabOk n n t = true := by
  unfold isQ at h
  rw [hl] at h
  simp only [Bool.and_eq_true] at h
  have := inB_true.1 h.1
  exact ⟨by omega, h.2.1⟩
/-- Where a cell of a table of n rows of n numbers below n lies. -/
theorem cell_lies {B n : Nat} {A : Option Addr} {t : List (List Int)} {w : World} (h : Rows2 B w A n t) (ht : tabOk n n t = true) {x y : Nat} (hx : x < n) (hy : y < n) :
    ∃ b o b2 o2 c2, A = some ⟨b, o, none⟩ ∧ b < B ∧ w.cell? ⟨b, o + x, none⟩ = some (.slice (some ⟨b2, o2, none⟩) n c2) ∧ n ≤ c2 ∧ b2 < B ∧ w.cell? ⟨b2, o2 + y, none⟩ = some (.int .i64 (cellZ t x y : Int)) := by
  obtain ⟨b, o, A1, n1, c1, r, rfl, hb, hz, hc, hn, hr⟩ := h.2.2 x hx
  obtain ⟨r', h1, h2, h3⟩ := tabOk_row ht hx
  rw [hz] at h1
  injection h1 with h1
  subst h1
  have hn1 : n1 = n := by have := hr.len; omega
  subst hn1
  obtain ⟨b3, o3, z, rfl, hb3, hz3, hc3, _⟩ := hr.at_ hy
  have := h3 y z hz3
  have e := tab_at hz hz3
  refine ⟨b, o, b3, o3, c1, rfl, hb, hc, hn, hb3, ?_⟩
  rw [e, hc3]
  congr 2
  omega



/-- What the functions return that ask for a quasigroup. -/
def valQ (v : Int) (t : List (List Int)) : Int := if isQ t then v else 0
end Go.Proofs.Yteggllmiapdmcaa
