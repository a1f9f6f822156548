/-
  The model's test of a quasigroup.
-/
import Derived.Test.YteggllmiapdmcaaQM
import Derived.Test.YteggllmiapdmcaaOwn2
import Derived.Test.YteggllmiapdmcaaBoolA
namespace Go.Proofs.Yteggllmiapdmcaa
open Go.RowKit

end Go.Proofs.Yteggllmiapdmcaa
