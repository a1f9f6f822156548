/-
  The walk of the law of ApplyScript.
-/
import Derived.Test.YtiegaebnlikjiaaDoorApS
import Derived.Test.YtiegaebnlikjiaaDoorApI
namespace Go.Proofs.YtiegaebnlikjiaaDoor
open Go Go.RowKit

theorem apply_held {W : World} (hL : laidMetH Tryd.prog Rows.fnExactApplyScriptRow.laid W) : HeldM W := by
  rw [MakeChecks.laidMetH_plain _ _ _ (by kernel_rfl)] at hL
  exact moves_held (rest := []) hL
set_option maxHeartbeats 1000000 in
theorem apply_walkL (s a b : ByteArray) (w : World) (hss : s.size ≤ maxLen) (hsa : a.size ≤ maxLen) (hsb : b.size ≤ maxLen) (hL : laidMetH Tryd.prog Rows.fnExactApplyScriptRow.laid w) :
    Calls Tryd.prog 6 #[.string s, .string a, .string b] w fun e w' => e = .returned (.bool true) ∧ Below w.heap.size w w' := by
  have hM := apply_held hL
  have hs' := hss
  have ha' := hsa
  have hb' := hsb
  unfold maxLen at hs' ha' hb'
  by_cases hls : 1048576 < s.size
  · go_enter Tryd.func6, Tryd.ntmps6
    go_wp2
    go_ret
    exact ⟨rfl, Below.refl _ _⟩
  · by_cases hla : 1048576 < a.size
    · go_enter Tryd.func6, Tryd.ntmps6
      go_wp2
      go_ret
      exact ⟨rfl, Below.refl _ _⟩
    · by_cases hlb : 1048576 < b.size
      · go_enter Tryd.func6, Tryd.ntmps6
        go_wp2
        go_ret
        exact ⟨rfl, Below.refl _ _⟩
      · go_enter Tryd.func6, Tryd.ntmps6
        go_wp2_with fail
        (go_at_call 16; (with_reducible refine (specApply_any _ _ _ _ hss hsa hsb).mono ?_); rintro e w1 ⟨rfl, m1, rfl⟩)
        go_wp2_with fail
        (go_at_call 13; (with_reducible refine (implApply_any _ _ _ _ (hM.drewN m1) hsa hsb).mono ?_); rintro e w2 ⟨rfl, b2⟩)
        have hbel := Lib.hid (b2)
        go_wp2_with fail
        go_ret
        exact ⟨rfl, (below_drewN (Below.refl _ w) m1).trans hbel.out⟩
end Go.Proofs.YtiegaebnlikjiaaDoor
