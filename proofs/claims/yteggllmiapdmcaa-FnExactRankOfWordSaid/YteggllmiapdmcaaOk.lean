/-
  When a chain is valid, as a sum of tests, and how the tests go row by row.
-/
import Derived.Test.YteggllmiapdmcaaCh2
import Derived.Test.YteggllmiapdmcaaTOk
namespace Go.Proofs.Yteggllmiapdmcaa
open Go.RowKit

def headOk (c : Ch) : Bool := inB c.base 2 36 && (inB c.states 1 36 && (inB c.start 0 (c.states - 1) && (inB c.stop 0 (c.states - 1) && (inB c.T.length 1 20 && inB c.P.length 1 20))))
def Ch.ok (c : Ch) : Bool := headOk c && (c.T.all (tabOk c.base c.states) && (c.P.all (fun p => inB p 0 ((c.T.length : Int) - 1)) && limOk c.base c.P.length))

end Go.Proofs.Yteggllmiapdmcaa
