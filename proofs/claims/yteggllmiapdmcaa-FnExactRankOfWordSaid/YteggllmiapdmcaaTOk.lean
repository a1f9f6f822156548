/-
  When a table of states is one, as a sum of tests.
-/
import Derived.Test.YteggllmiapdmcaaLim
namespace Go.Proofs.Yteggllmiapdmcaa
open Go.RowKit

def rowOk (st : Int) (r : List Int) : Bool := r.all fun z => inB z 0 (st - 1)
def lineOk (base st : Int) (r : List Int) : Bool := decide ((r.length : Int) = base) && rowOk st r
def tabOk (base st : Int) (t : List (List Int)) : Bool := decide ((t.length : Int) = st) && t.all (lineOk base st)

end Go.Proofs.Yteggllmiapdmcaa
