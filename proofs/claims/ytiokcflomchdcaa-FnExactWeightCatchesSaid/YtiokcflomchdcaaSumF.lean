/-
  Sums of digits times weights: the program's, where no digits are read.
-/
import Derived.Test.YtiokcflomchdcaaWIs
import Derived.IntWalk
namespace Go.Proofs.Ytiokcflomchdcaa
open Go.RowKit

def dot : List Int → List Int → Int
  | a :: r, b :: s => a * b + dot r s
  | _, _ => 0
theorem dot_nil (u : List Int) : dot u [] = 0 := by cases u <;> rfl
theorem dot_snoc {l : List Int} : ∀ {u : List Int} {z d : Int}, u[l.length]? = some z → dot u (l ++ [d]) = dot u l + z * d := by
  induction l with
  | nil =>
    intro u z d h
    cases u with
    | nil => simp at h
    | cons a r =>
      simp at h
      subst h
      show a * d + dot r [] = dot (a :: r) [] + a * d
      rw [dot_nil, dot_nil]; omega
  | cons b s ih =>
    intro u z d h
    cases u with
    | nil => simp at h
    | cons a r =>
      simp at h
      show a * b + dot r (s ++ [d]) = a * b + dot r s + z * d
      rw [ih h]; omega
theorem dot_bd {l : List Int} : ∀ {u : List Int}, (∀ z ∈ u, 0 ≤ z ∧ z ≤ 35) → (∀ d ∈ l, 0 ≤ d ∧ d ≤ 35) → 0 ≤ dot u l ∧ dot u l ≤ 1225 * (l.length : Int) := by
  induction l with
  | nil => intro u _ _; rw [dot_nil]; simp
  | cons b s ih =>
    intro u hu hl
    cases u with
    | nil => simp [dot]; omega
    | cons a r =>
      have h1 := ih (u := r) (fun z hz => hu z (List.mem_cons_of_mem _ hz)) (fun d hd => hl d (List.mem_cons_of_mem _ hd))
      have ha := hu a (by simp)
      have hb := hl b (by simp)
      have m1 : 0 ≤ a * b := Int.mul_nonneg ha.1 hb.1
      have m2 : a * b ≤ 35 * 35 := Int.mul_le_mul ha.2 hb.2 hb.1 (by omega)
      show 0 ≤ a * b + dot r s ∧ a * b + dot r s ≤ 1225 * ((b :: s).length : Int)
      simp only [List.length_cons]
      omega
theorem mul_bd {a b : Int} (ha : 0 ≤ a ∧ a ≤ 35) (hb : 0 ≤ b ∧ b ≤ 35) : 0 ≤ a * b ∧ a * b ≤ 1225 :=
  ⟨Int.mul_nonneg ha.1 hb.1, Int.mul_le_mul ha.2 hb.2 hb.1 (by omega : (0:Int) ≤ 35)⟩
theorem take_snocI {ds : List Int} {k : Nat} {d : Int} (h : ds[k]? = some d) : ds.take (k + 1) = ds.take k ++ [d] := by
  rw [List.take_add_one, h]; rfl
theorem dot_step {W ds : List Int} {p k : Nat} {z d : Int} (hz : W[p + k]? = some z) (hd : ds[k]? = some d) : dot (W.drop p) (ds.take (k + 1)) = dot (W.drop p) (ds.take k) + z * d := by
  have hk := (List.getElem?_eq_some_iff.1 hd).1
  rw [take_snocI hd]
  refine dot_snoc ?_
  have e : (ds.take k).length = k := by simp; omega
  rw [e, List.getElem?_drop]
  exact hz

/-- What a weighting's numbers are when it is valid. -/
structure Wt.Fine (x : Wt) (b m n : Nat) : Prop where
  base : x.base = b
  modulus : x.modulus = m
  len : x.W.length = n
  b2 : 2 ≤ b
  b36 : b ≤ 36
  m2 : 2 ≤ m
  m36 : m ≤ 36
  n1 : 1 ≤ n
  n20 : n ≤ 20
  t0 : 0 ≤ x.target
  tm : x.target < m
  lim : limOk b n = true
  ws : ∀ z ∈ x.W, 0 ≤ z ∧ z < m
theorem Wt.fine {x : Wt} (h : wOk x = true) : ∃ b m n, x.Fine b m n := by
  unfold wOk manyB at h
  simp only [Bool.and_eq_true, inB_true, List.all_eq_true] at h
  obtain ⟨⟨hb, hn, hl⟩, hm, ht, hw⟩ := h
  refine ⟨x.base.toNat, x.modulus.toNat, x.W.length, ⟨by omega, by omega, rfl, by omega, by omega, by omega, by omega, by omega, by omega, by omega, by omega, ?_, fun z hz => ?_⟩⟩
  · rw [show ((x.base.toNat : Nat) : Int) = x.base by omega]; exact hl
  · have := hw z hz; omega
theorem Wt.Fine.w35 {x : Wt} {b m n : Nat} (f : x.Fine b m n) : ∀ z ∈ x.W, 0 ≤ z ∧ z ≤ 35 := fun z hz => by have := f.ws z hz; have := f.m36; omega

set_option maxRecDepth 100000 in
set_option maxHeartbeats 2000000 in
theorem sumFrom_any {B D : Nat} (x : Wt) (A : Option Addr) (n c : Nat) (w : World) (hr : RowB .i64 B w A n x.W) (hB : B ≤ w.heap.size) {bs m : Nat} (f : x.Fine bs m n)
    (p : Nat) (Ad : Option Addr) (md cd : Nat) (ds : List Int) (hd : RowB .i64 D w Ad md ds) (hD : D ≤ w.heap.size) (hpm : p + md ≤ n) (hds : ∀ d ∈ ds, 0 ≤ d ∧ d ≤ 35) :
    Calls Try.prog 152 #[wtV x A n c, .int .i64 p, .slice Ad md cd] w fun e w' => e = .returned (.int .i64 (dot (x.W.drop p) ds % (m : Int))) ∧ Below w.heap.size w w' := by
  have hw35 := f.w35
  have hn20 := f.n20
  have hm2 := f.m2
  have hm36 := f.m36
  have hld := hd.len
  have hfm := f.modulus
  clear f
  obtain ⟨base, modulus, target, W⟩ := x
  dsimp only at hr hw35 hfm ⊢
  subst hfm
  obtain ⟨w1, hw1⟩ : ∃ w1, w1 = w.alloc (.cells #[.int .i64 base, .int .i64 m, .int .i64 target, .slice A n c] 26) := ⟨_, rfl⟩
  have bel : Below w.heap.size w w1 := by rw [hw1]; exact (Below.refl _ w).alloc (Nat.le_refl _) _
  have b1 : Blk w1 w.heap.size #[.int .i64 base, .int .i64 m, .int .i64 target, .slice A n c] 26 := by rw [hw1]; exact Blk.new _ _ _
  have c1 : w1.cell? ⟨w.heap.size, 1, none⟩ = some (.int .i64 m) := b1.cell 1
  have c3 : w1.cell? ⟨w.heap.size, 3, none⟩ = some (.slice A n c) := b1.cell 3
  have r1 := RowB.below hr (bel.mono hB)
  have d1 := RowB.below hd (bel.mono hD)
  have BEL := Lib.hid bel
  clear bel b1 hr hd
  go_enter Try.func152, Try.ntmps152
  go_wp2_with fail
  rw [← hw1]
  have HW1 := Lib.hid hw1
  clear hw1
  go_loop [7, 8, 9, 12] (fun v _ _ i => ∃ k : Nat, k ≤ md ∧ i = .int .i64 k ∧ (∃ S : Int, v = .int .i64 S ∧ Hid (S = dot (W.drop p) (ds.take k)) ∧ 0 ≤ S ∧ S ≤ 1225 * (k : Int))) (fun _ _ _ i => md - (intOf i).toNat)
  case atStart => exact ⟨0, by omega, rfl, ⟨0, rfl, Lib.hid (by simp [dot_nil]), by omega, by omega⟩⟩
  case round =>
    obtain ⟨k, hk, rfl, ⟨S, rfl, hS, hS0, hS1⟩⟩ := hrel
    by_cases hlt : k < md
    · obtain ⟨bW, oW, z, rfl, _, hz, hcz, _⟩ := r1.at_ (show p + k < n by omega)
      obtain ⟨bD, oD, d, rfl, _, hdk, hcd, _⟩ := d1.at_ hlt
      have hzb := hw35 z (List.mem_of_getElem? hz)
      have hdb := hds d (List.mem_of_getElem? hdk)
      have hm := mul_bd hzb hdb
      have HN : Hid (S + z * d = dot (W.drop p) (ds.take (k + 1))) := Lib.hid (by
        rw [dot_step (W := W) (p := p) hz hdk, hS.out])
      have hlt2 : (p : Int) + (k : Int) < n := by omega
      have hcz' : w1.cell? ⟨bW, oW + ((p : Int) + (k : Int)).toNat, none⟩ = some (.int .i64 z) := by rw [show ((p : Int) + (k : Int)).toNat = p + k by omega]; exact hcz
      have e3 : ((p : Int) + (k : Int)).toNat = p + k := by omega
      clear hz hdk hzb hdb hds hw35 hld r1 d1
      go_wp2
      go_round
      case rel => exact ⟨k + 1, by omega, by go_num, ⟨_, rfl, HN, by omega, by push_cast; omega⟩⟩
      case measure => simp [intOf]; omega
    · obtain rfl : md = k := by omega
      have HE : Hid (S % (m : Int) = dot (W.drop p) ds % (m : Int)) := Lib.hid (by rw [hS.out, List.take_of_length_le (by omega)])
      clear hds hw35 hld r1 d1
      go_wp2
      go_ret
      exact ⟨ret_int HE.out, BEL.out⟩
end Go.Proofs.Ytiokcflomchdcaa
