/-
  Contracts of RemainderOf, of the program and of the model: both return the same number, for every input.
-/
import Derived.Test.YteggllmiapdmcaaBasic
namespace Go.Proofs.Yteggllmiapdmcaa
open Go.RowKit


def modZ (a m : Int) : Int := if a.tmod m < 0 then a.tmod m + m else a.tmod m

theorem tmod_bd (a m : Int) (h : 1 ≤ m) : -m < a.tmod m ∧ a.tmod m < m := by
  constructor
  · have := Int.tmod_lt_of_pos (-a) (b := m) (by omega)
    rw [Int.neg_tmod] at this; omega
  · exact Int.tmod_lt_of_pos a (by omega)

set_option maxHeartbeats 400000 in
theorem l01Mod_any (a m : Int) (w : World) (h1 : 1 ≤ m) (h2 : m ≤ 1000000000000000) :
    Calls Try.prog 138 #[.int .i64 a, .int .i64 m] w fun e w' => e = .returned (.int .i64 (modZ a m)) ∧ w = w' := by
  have hb := tmod_bd a m h1
  by_cases hn : a.tmod m < 0
  · have H : Hid (modZ a m = a.tmod m + m) := Lib.hid (by simp [modZ, hn])
    go_enter Try.func138, Try.ntmps138
    go_wp2
    go_ret
    exact ⟨ret_int (by rw [H.out]), rfl⟩
  · have H : Hid (modZ a m = a.tmod m) := Lib.hid (by simp [modZ, hn])
    go_enter Try.func138, Try.ntmps138
    go_wp2
    go_ret
    exact ⟨ret_int (by rw [H.out]), rfl⟩

def remOk (a m : Int) : Bool := inB a (-1000000000000000) 1000000000000000 && inB m 1 1000000000000000
def remV (a m : Int) : Int := if remOk a m = true then modZ a m else 0

end Go.Proofs.Yteggllmiapdmcaa
