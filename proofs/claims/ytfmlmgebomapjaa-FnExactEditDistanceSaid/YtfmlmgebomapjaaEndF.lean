/-
  Rows of the same length as one flat list, by a function.
-/
import Derived.Test.YtfmlmgebomapjaaBasic
import Derived.IntWalk
namespace Go.Proofs.Ytfmlmgebomapjaa

def flatE (s N : Nat) (F : Nat → Nat → Nat) : List Int := (List.range N).map fun j => ((F (j / s) (j % s) : Nat) : Int)
theorem flatE_len (s N : Nat) (F : Nat → Nat → Nat) : (flatE s N F).length = N := by simp [flatE]
theorem dm_split {s j x : Nat} (hx : x < s) : (j * s + x) / s = j ∧ (j * s + x) % s = x := by
  have hs : 0 < s := by omega
  constructor
  · rw [Nat.mul_comm, Nat.mul_add_div hs, Nat.div_eq_of_lt hx, Nat.add_zero]
  · rw [Nat.mul_comm, Nat.mul_add_mod, Nat.mod_eq_of_lt hx]
theorem flatE_get {s N j x : Nat} (F : Nat → Nat → Nat) (hx : x < s) (h : j * s + x < N) : (flatE s N F)[j * s + x]? = some ((F j x : Nat) : Int) := by
  unfold flatE
  rw [List.getElem?_map, List.getElem?_range h]
  simp only [Option.map_some]
  rw [(dm_split hx).1, (dm_split hx).2]
theorem dm_join (s q : Nat) : q / s * s + q % s = q := by rw [Nat.mul_comm]; exact Nat.div_add_mod q s
theorem flatE_congr {s N : Nat} {F G : Nat → Nat → Nat} (hs : 0 < s) (h : ∀ j y, y < s → j * s + y < N → F j y = G j y) : flatE s N F = flatE s N G := by
  unfold flatE
  apply List.map_congr_left
  intro q hq
  have hq := List.mem_range.1 hq
  rw [h _ _ (Nat.mod_lt _ hs) (by rw [dm_join]; exact hq)]
theorem flatE_set {s N i x v : Nat} {F G : Nat → Nat → Nat} (hs : 0 < s) (hx : x < s) (hG : ∀ j y, y < s → j * s + y < N → G j y = if j = i ∧ y = x then v else F j y) :
    (flatE s N F).set (i * s + x) ((v : Nat) : Int) = flatE s N G := by
  apply List.ext_getElem?
  intro q
  rw [List.getElem?_set]
  by_cases hq : q < N
  · have hg := hG (q / s) (q % s) (Nat.mod_lt _ hs) (by rw [dm_join]; exact hq)
    have e1 := flatE_get (N := N) F (j := q / s) (x := q % s) (Nat.mod_lt _ hs) (by rw [dm_join]; exact hq)
    have e2 := flatE_get (N := N) G (j := q / s) (x := q % s) (Nat.mod_lt _ hs) (by rw [dm_join]; exact hq)
    rw [dm_join] at e1 e2
    rw [e1, e2, hg, flatE_len]
    by_cases he : i * s + x = q
    · subst he
      rw [if_pos rfl, if_pos hq, (dm_split hx).1, (dm_split hx).2, if_pos ⟨rfl, rfl⟩]
    · rw [if_neg he, if_neg]
      rintro ⟨h1, h2⟩
      exact he (by rw [← h1, ← h2]; exact dm_join s q)
  · have e1 : (flatE s N F)[q]? = none := List.getElem?_eq_none (by rw [flatE_len]; omega)
    have e2 : (flatE s N G)[q]? = none := List.getElem?_eq_none (by rw [flatE_len]; omega)
    rw [e1, e2, flatE_len]
    split
    · rw [if_neg (by omega)]
    · rfl
theorem flatE_zero (s N : Nat) : flatE s N (fun _ _ => 0) = List.replicate N 0 := by
  apply List.ext_getElem?
  intro q
  by_cases h : q < N
  · simp [flatE, h]
  · rw [List.getElem?_eq_none (by rw [flatE_len]; omega), List.getElem?_eq_none (by simp; omega)]

end Go.Proofs.Ytfmlmgebomapjaa
