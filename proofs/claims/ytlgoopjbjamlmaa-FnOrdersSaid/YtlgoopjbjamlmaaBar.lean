/-
  Of what lay below a block only one block may have turned.
-/
import Derived.Test.YtlgoopjbjamlmaaOwn
namespace Go.Proofs.Ytlgoopjbjamlmaa
open Go.RowKit

/-- Of what lies below block B only block g may have turned. -/
structure Bar (B g : Nat) (w w' : World) : Prop where
  os : w'.os = w.os
  tape : w'.tape = w.tape
  output : w'.output = w.output
  size : w.heap.size ≤ w'.heap.size
  block : ∀ k, k < B → k ≠ g → w'.heap[k]? = w.heap[k]?
theorem Bar.refl (B g : Nat) (w : World) : Bar B g w w := ⟨rfl, rfl, rfl, Nat.le_refl _, fun _ _ _ => rfl⟩
theorem Bar.trans {B g : Nat} {a b c : World} (h : Bar B g a b) (k : Bar B g b c) : Bar B g a c :=
  ⟨k.os.trans h.os, k.tape.trans h.tape, k.output.trans h.output, Nat.le_trans h.size k.size, fun i hi hg => (k.block i hi hg).trans (h.block i hi hg)⟩
theorem Bar.mono {B B' g : Nat} {w w' : World} (h : Bar B g w w') (hB : B' ≤ B) : Bar B' g w w' := ⟨h.os, h.tape, h.output, h.size, fun k hk hg => h.block k (by omega) hg⟩
theorem Bar.below {B B' g : Nat} {w w' : World} (h : Bar B g w w') (hB : B' ≤ B) (hg : B' ≤ g) : Below B' w w' := ⟨h.os, h.tape, h.output, h.size, fun k hk => h.block k (by omega) (by omega)⟩
theorem Only.bar {g : Nat} {w w' : World} (h : Only (some ⟨g, 0, none⟩) w w') (B : Nat) : Bar B g w w' :=
  ⟨h.os, h.tape, h.output, by rw [h.size]; exact Nat.le_refl _, fun k _ hg => h.block k (fun e => by injection e with e; injection e with e; omega)⟩
theorem below_bar {B : Nat} {w w' : World} (h : Below B w w') (g : Nat) : Bar B g w w' := ⟨h.os, h.tape, h.output, h.size, fun k hk _ => h.block k hk⟩
theorem Bar.drewN {B g : Nat} {w w' : World} (h : Bar B g w w') (m : Nat) : Bar B g w (w'.drewN m) := ⟨h.os, h.tape, h.output, h.size, h.block⟩
theorem Bar.of_set {B g : Nat} {w w' : World} (h : Bar B g w w') (k : Nat) (v : Value) : Bar B g w (w'.setCell ⟨g, k, none⟩ v) :=
  ⟨h.os, h.tape, h.output, by simpa [World.setCell] using h.size, fun b hb hg => by
    rw [Below.heap_setCell w' ⟨g, k, none⟩ v b hg]
    exact h.block b hb hg⟩
end Go.Proofs.Ytlgoopjbjamlmaa
