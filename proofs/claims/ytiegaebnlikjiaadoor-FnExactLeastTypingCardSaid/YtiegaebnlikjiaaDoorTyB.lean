/-
  The block of two words and the costs of their ends.
-/
import Derived.Test.YtiegaebnlikjiaaDoorTyM
import Derived.Test.YtiegaebnlikjiaaDoorBlk
namespace Go.Proofs.YtiegaebnlikjiaaDoor
open Go.RowKit

def tyL (a b : ByteArray) (F : Nat → Nat → Nat) : List Value := .string a :: .string b :: (List.range 441).map fun q => Value.int .i64 ((F (q / 21) (q % 21) : Nat) : Int)
def tyA (a b : ByteArray) (F : Nat → Nat → Nat) : Array Value := (tyL a b F).toArray
theorem tyL_len (a b : ByteArray) (F : Nat → Nat → Nat) : (tyL a b F).length = 443 := by simp [tyL]
theorem tyA_0 (a b : ByteArray) (F : Nat → Nat → Nat) : (tyA a b F)[0]? = some (.string a) := by simp [tyA, tyL]
theorem tyA_1 (a b : ByteArray) (F : Nat → Nat → Nat) : (tyA a b F)[1]? = some (.string b) := by simp [tyA, tyL]
theorem tyL_q (a b : ByteArray) (F : Nat → Nat → Nat) {q : Nat} (h : q < 441) : (tyL a b F)[q + 2]? = some (.int .i64 ((F (q / 21) (q % 21) : Nat) : Int)) := by
  simp [tyL, h]
theorem ty_split {i j : Nat} (hj : j < 21) : (i * 21 + j) / 21 = i ∧ (i * 21 + j) % 21 = j := by omega
theorem tyA_at (a b : ByteArray) (F : Nat → Nat → Nat) {i j : Nat} (hi : i < 21) (hj : j < 21) : (tyA a b F)[i * 21 + j + 2]? = some (.int .i64 ((F i j : Nat) : Int)) := by
  rw [tyA, List.getElem?_toArray, tyL_q a b F (by omega), (ty_split hj).1, (ty_split hj).2]
def tyPut (F : Nat → Nat → Nat) (i j v : Nat) (x y : Nat) : Nat := if x = i ∧ y = j then v else F x y
theorem tyPut_same (F : Nat → Nat → Nat) (i j v : Nat) : tyPut F i j v i j = v := by simp [tyPut]
theorem tyPut_ne (F : Nat → Nat → Nat) {i j v x y : Nat} (h : ¬ (x = i ∧ y = j)) : tyPut F i j v x y = F x y := by
  unfold tyPut; rw [if_neg h]
theorem tyA_set (a b : ByteArray) (F : Nat → Nat → Nat) {i j : Nat} (v : Nat) (hi : i < 21) (hj : j < 21) :
    (tyA a b F).setIfInBounds (i * 21 + j + 2) (.int .i64 ((v : Nat) : Int)) = tyA a b (tyPut F i j v) := by
  unfold tyA
  rw [List.setIfInBounds_toArray]
  congr 1
  apply List.ext_getElem?
  intro q
  rw [List.getElem?_set]
  by_cases hq : q < 443
  · match q, hq with
    | 0, _ => rw [if_neg (by omega)]; simp [tyL]
    | 1, _ => rw [if_neg (by omega)]; simp [tyL]
    | q + 2, hq =>
      rw [tyL_q a b F (by omega), tyL_q a b _ (by omega), tyL_len]
      by_cases he : i * 21 + j + 2 = q + 2
      · have hq2 : q = i * 21 + j := by omega
        subst hq2
        rw [if_pos rfl, if_pos (by omega), (ty_split hj).1, (ty_split hj).2, tyPut_same]
      · rw [if_neg he, tyPut_ne]
        rintro ⟨h1, h2⟩
        omega
  · have e1 : ∀ G, (tyL a b G)[q]? = none := fun G => List.getElem?_eq_none (by rw [tyL_len]; omega)
    rw [e1, e1, tyL_len, if_neg (by omega)]
theorem zeroTy (a b : ByteArray) : (Tryd.zeroCells46.setIfInBounds 0 (.string a)).setIfInBounds 1 (.string b) = tyA a b (fun _ _ => 0) := by kernel_rfl
/-- The block of a typing. -/
def TyB (w : World) (g : Nat) (a b : ByteArray) (F : Nat → Nat → Nat) : Prop := Blk w g (tyA a b F) 46
section
variable {w w' : World} {g : Nat} {a b : ByteArray} {F : Nat → Nat → Nat}
theorem TyB.fa (h : TyB w g a b F) : w.cell? ⟨g, 0, none⟩ = some (.string a) := (Blk.cell h 0).trans (tyA_0 a b F)
theorem TyB.fb (h : TyB w g a b F) : w.cell? ⟨g, 1, none⟩ = some (.string b) := (Blk.cell h 1).trans (tyA_1 a b F)
theorem TyB.at_ (h : TyB w g a b F) {i j : Nat} (hi : i < 21) (hj : j < 21) : w.cell? ⟨g, i * 21 + j + 2, none⟩ = some (.int .i64 ((F i j : Nat) : Int)) := (Blk.cell h _).trans (tyA_at a b F hi hj)
theorem TyB.put (h : TyB w g a b F) {i j : Nat} (v : Nat) (hi : i < 21) (hj : j < 21) : TyB (w.setCell ⟨g, i * 21 + j + 2, none⟩ (.int .i64 ((v : Nat) : Int))) g a b (tyPut F i j v) := by
  have := Blk.set h (i * 21 + j + 2) (.int .i64 ((v : Nat) : Int))
  rw [tyA_set a b F v hi hj] at this
  exact this
theorem TyB.drewN (h : TyB w g a b F) (m : Nat) : TyB (w.drewN m) g a b F := h
theorem TyB.below (h : TyB w g a b F) (hb : Below w.heap.size w w') : TyB w' g a b F := Blk.below h hb (Blk.lt h)
end
end Go.Proofs.YtiegaebnlikjiaaDoor
