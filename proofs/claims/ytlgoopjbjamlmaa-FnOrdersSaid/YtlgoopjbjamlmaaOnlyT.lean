/-
  Steps that turn one block only, one after another.
-/
import Derived.Test.YtlgoopjbjamlmaaOwn
namespace Go.Proofs.Ytlgoopjbjamlmaa
open Go.RowKit

theorem Only.drew' {A : Option Addr} {w w' : World} (h : Only A w w') (m : Nat) : Only A w (w'.drewN m) := ⟨h.os, h.tape, h.output, h.size, h.block⟩
theorem Only.trans' {A : Option Addr} {a b c : World} (h : Only A a b) (k : Only A b c) : Only A a c :=
  ⟨k.os.trans h.os, k.tape.trans h.tape, k.output.trans h.output, k.size.trans h.size, fun g hg => (k.block g hg).trans (h.block g hg)⟩
end Go.Proofs.Ytlgoopjbjamlmaa
