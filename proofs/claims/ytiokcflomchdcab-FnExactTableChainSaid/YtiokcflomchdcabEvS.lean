/-
  EvenChain, of the model.
-/
import Derived.Test.YtiokcflomchdcabEven
import Derived.Test.YtiokcflomchdcabIs2
namespace Go.Proofs.Ytiokcflomchdcab
open Go.RowKit

def evenOk (t : List (List Int)) (pl start stop : Int) : Bool := inB pl 1 20 && (inB t.length 1 36 && (EvenC t pl.toNat start stop).ok)
def evenR (t : List (List Int)) (pl start stop : Int) : Ch := if evenOk t pl start stop = true then EvenC t pl.toNat start stop else zeroC
theorem evenR_yes {t : List (List Int)} {pl start stop : Int} (h : evenOk t pl start stop = true) : evenR t pl start stop = EvenC t pl.toNat start stop := by simp [evenR, h]
theorem evenR_no {t : List (List Int)} {pl start stop : Int} (h : evenOk t pl start stop = false) : evenR t pl start stop = zeroC := by simp [evenR, h]

end Go.Proofs.Ytiokcflomchdcab
