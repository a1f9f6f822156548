/-
  Cells of two rows of 36 masks, and what comparing them answers.
-/
import Derived.Test.YtiokcflomchdcabBasic
import Derived.ChangeKeysEq
namespace Go.Proofs.Ytiokcflomchdcab
open Go.RowKit

theorem run_eqItems_u64 {P : Program} {d : Nat} {e : TypeId} (he : P.plainKey e = true) (hu : P.underlying e = some (.int .u64)) (xs ys : Array Value) (f g : Nat → Nat) (w : World) :
    ∀ is : List Nat, (∀ i ∈ is, xs[i]? = some (.int .u64 (f i : Int)) ∧ ys[i]? = some (.int .u64 (g i : Int))) → (Op.eqItems (d + 1) e 1 xs ys is).run P w = .ok (is.all fun i => f i == g i) w
  | [], _ => by simp [Op.eqItems]
  | i :: is, h => by
    have hi := h i (by simp)
    have ih := run_eqItems_u64 (d := d) he hu xs ys f g w is (fun j hj => h j (by simp [hj]))
    have p1 := run_part_plain (P := P) w he (off := i * 1) (by rw [Nat.mul_one]; exact hi.1)
    have p2 := run_part_plain (P := P) w he (off := i * 1) (by rw [Nat.mul_one]; exact hi.2)
    have p3 := run_equalIn_int (P := P) w d e .u64 .u64 (f i) (g i) hu
    simp only [Op.eqItems, Sem.run_bind, p1, p2, p3, Result.andThen_ok, List.all_cons]
    by_cases hb : f i = g i
    · rw [hb]
      simp only [BEq.rfl, Bool.not_true, Bool.false_eq_true, if_false, Bool.true_and]
      exact ih
    · have e1 : ((f i : Int) == (g i : Int)) = false := by simp; omega
      have e2 : (f i == g i) = false := by simp [hb]
      rw [e1, e2]
      simp

/-- The cells of two rows of 36 masks. -/
def maskArr (f g : Nat → Nat) : Array Value := ((List.range 72).map fun i : Nat => Value.int .u64 ((if i < 36 then f i else g (i - 36) : Nat) : Int)).toArray
theorem maskArr_size (f g : Nat → Nat) : (maskArr f g).size = 72 := by simp [maskArr]
theorem maskArr_at (f g : Nat → Nat) {i : Nat} (h : i < 72) : (maskArr f g)[i]? = some (.int .u64 ((if i < 36 then f i else g (i - 36) : Nat) : Int)) := by
  simp [maskArr, h]
theorem maskArr_row (f g : Nat → Nat) {i : Nat} (h : i < 36) : (maskArr f g)[i]? = some (.int .u64 (f i : Int)) := by
  rw [maskArr_at f g (by omega), if_pos h]
theorem maskArr_col (f g : Nat → Nat) {i : Nat} (h : i < 36) : (maskArr f g)[36 + i]? = some (.int .u64 (g i : Int)) := by
  rw [maskArr_at f g (by omega), if_neg (by omega), Nat.add_sub_cancel_left]
theorem maskArr_congr {f g f' g' : Nat → Nat} (h1 : ∀ i, i < 36 → f i = f' i) (h2 : ∀ i, i < 36 → g i = g' i) : maskArr f g = maskArr f' g' := by
  unfold maskArr
  congr 1
  apply List.map_congr_left
  intro i hi
  have := List.mem_range.1 hi
  by_cases h : i < 36
  · rw [if_pos h, if_pos h, h1 i h]
  · rw [if_neg h, if_neg h, h2 (i - 36) (by omega)]
theorem maskArr_setRow (f g : Nat → Nat) {x v : Nat} (hx : x < 36) : (maskArr f g).setIfInBounds x (.int .u64 (v : Int)) = maskArr (fun i => if i = x then v else f i) g := by
  apply Array.ext_getElem?
  intro i
  rw [Array.getElem?_setIfInBounds]
  by_cases hi : i < 72
  · rw [maskArr_at _ _ hi, maskArr_at _ _ hi]
    by_cases he : x = i
    · subst he
      rw [if_pos rfl, maskArr_size, if_pos (by omega), if_pos hx, if_pos rfl]
    · rw [if_neg he]
      have h2 : ¬ i = x := fun e => he e.symm
      rw [if_neg h2]
  · rw [Array.getElem?_eq_none (by rw [maskArr_size]; omega), if_neg (by omega), Array.getElem?_eq_none (by rw [maskArr_size]; omega)]
theorem maskArr_setCol (f g : Nat → Nat) {x v : Nat} (hx : x < 36) : (maskArr f g).setIfInBounds (36 + x) (.int .u64 (v : Int)) = maskArr f (fun i => if i = x then v else g i) := by
  apply Array.ext_getElem?
  intro i
  rw [Array.getElem?_setIfInBounds]
  by_cases hi : i < 72
  · rw [maskArr_at _ _ hi, maskArr_at _ _ hi]
    by_cases he : 36 + x = i
    · subst he
      rw [if_pos rfl, maskArr_size, if_pos (by omega), if_neg (by omega), if_pos (by omega)]
    · rw [if_neg he]
      by_cases h36 : i < 36
      · rw [if_pos h36, if_pos h36]
      · have h2 : ¬ i - 36 = x := fun e => he (by omega)
        rw [if_neg h36, if_neg h36, if_neg h2]
  · rw [Array.getElem?_eq_none (by rw [maskArr_size]; omega), if_neg (by omega), Array.getElem?_eq_none (by rw [maskArr_size]; omega)]
end Go.Proofs.Ytiokcflomchdcab
