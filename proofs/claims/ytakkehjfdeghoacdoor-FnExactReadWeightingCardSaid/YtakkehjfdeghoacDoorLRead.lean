/-
  The walk of the law of ReadDecimal.
-/
import Derived.Test.YtakkehjfdeghoacDoorValue
import Derived.LaidLaws
namespace Go.Proofs.YtakkehjfdeghoacDoor
open Go.RowKit

theorem star_name : "*" ++ "errors.errorString" = "*errors.errorString" := by decide
theorem row_err (u : TypeId) (h : Tryd.prog.typeName? 3 u = some "*errors.errorString") : u = 129 :=
  typeName_ptr_named (nm := "errors.errorString") (by rw [star_name]; kernel_rfl) (by kernel_rfl) (by decide) u (by rw [star_name]; exact h)
theorem held_err {W : World} {n : String} {text : List UInt8} {r : List (String × DataW Unit)} {g : Nat} (h : laidMet Tryd.prog ((n, .iface "*errors.errorString" (.ptr (.agg [.lit (.string text)]))) :: r) W)
    (hg : Tryd.prog.globalNamed n = some g) (ht : (Tryd.prog.globals[g]?).map (·.type) = some 66) : (∃ t p, W.cell? ⟨g, 0, none⟩ = some (.iface t p)) ∧ g < W.heap.size := by
  obtain ⟨a0, s0, hv0, _⟩ := laid_sentinel h hg ht Tryd.underlying66 row_err Tryd.underlying129 Tryd.underlying131 rfl rfl Tryd.underlying9 (by kernel_rfl) (by kernel_rfl)
  have h0 : W.cell? ⟨g, 0, none⟩ = some (.iface 129 (.pointer (some a0))) := by
    have := World.var?_cell hg hv0 0; simpa using this
  refine ⟨⟨_, _, h0⟩, ?_⟩
  by_cases hb : g < W.heap.size
  · exact hb
  · have : W.heap[g]? = none := Array.getElem?_eq_none (by omega)
    simp [World.cell?, this] at h0

theorem l01Value_any (s : ByteArray) (w : World) (hs : s.size ≤ 1048576) :
    Calls Tryd.prog 47 #[.string s] w fun e w' => e = optTwo (specP s.data.toList) ∧ Below w.heap.size w w' := by
  rcases h : isNeg s.data.toList with _ | _
  · exact value_pos s w hs h
  · exact value_neg s w hs h
end Go.Proofs.YtakkehjfdeghoacDoor
