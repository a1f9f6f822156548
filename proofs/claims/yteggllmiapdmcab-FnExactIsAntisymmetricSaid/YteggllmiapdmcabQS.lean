/-
  The model's test of a quasigroup.
-/
import Derived.Test.YteggllmiapdmcabQM
import Derived.Test.YteggllmiapdmcabOwn2
import Derived.Test.YteggllmiapdmcabBoolA
namespace Go.Proofs.Yteggllmiapdmcab
open Go.RowKit

end Go.Proofs.Yteggllmiapdmcab
