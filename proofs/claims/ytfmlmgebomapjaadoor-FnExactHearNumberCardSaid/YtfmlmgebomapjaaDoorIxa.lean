/-
  IndexRune over a text of plain bytes, at a rune that is none of them.
-/
import Derived.Test.YtfmlmgebomapjaaDoorIxr
namespace Go.Proofs.YtfmlmgebomapjaaDoor
open Go Go.RowKit

set_option maxRecDepth 1000000 in
set_option maxHeartbeats 4000000 in
theorem ixr_in (s rs : ByteArray) (r m : Nat) (w : World) (hmr' : m < rs.size) (hin : m < s.size) (t4 : (m : Int) < (s.size : Int)) (t3 : ((s[m].toNat : Int) != ((rs[m]'hmr').toNat : Int)) = true) (X : ∀ W (i j : Nat), Calls Tryd.prog 93 #[.string (s.extract i j), .int .u8 ((rs[m]'hmr').toNat : Int)] W fun e w' => e = .returned (.int .i64 (-1)) ∧ w' = W) (hr128 : ¬ (r : Int) < 128) (t1 : ((r : Int) == 65533) = false) (hrs : Utf8.encode (r : Int) = rs) (e8 : (rs.size : Int) - 1 = (m : Int)) (hm3 : m ≤ 3) (hri : (m : Int) < (rs.size : Int))
    (V : Calls Tryd.prog 105 #[.int .i32 r] w fun e w' => e = .returned (.bool true) ∧ w = w') :
    Calls Tryd.prog 87 #[.string s, .int .i32 r] w fun e w' => e = .returned (.int .i64 (-1)) ∧ Below w.heap.size w w' := by
  go_enter Tryd.func87, Tryd.ntmps87
  go_wp2_with (go_at_call 105; (with_reducible refine (V).mono ?_); rintro e w' ⟨rfl, rfl⟩)
  go_step3
  go_wp2
  go_loop [9, 10, 11, 12] (fun i f _ _ => i = .int .i64 (m : Int) ∧ f = .int .i64 0) (fun _ _ _ _ => 0)
  case atStart => exact ⟨rfl, rfl⟩
  case round =>
    obtain ⟨rfl, rfl⟩ := hrel
    go_wp2
    go_step3
    go_wp2
    go_quiet (fail)
    go_wp2
    go_quiet ((go_at_call 93; exact (X _ _ _).mono fun _ _ ⟨he, hm⟩ => ⟨he, _, hm⟩))
    go_wp2
    rw [Exit.noGoto_ret]
    go_wp2
    rw [Exit.noGoto_ret]
    go_ret
    exact ⟨rfl, (Below.refl w.heap.size w).trans ⟨rfl, rfl, rfl, Nat.le_refl _, fun _ _ => rfl⟩⟩
end Go.Proofs.YtfmlmgebomapjaaDoor
