/-
  Contracts of RemainderOf, of the program and of the model: both return the same number, for every input.
-/
import Derived.Test.YtlgoopjbjamlmaaBasic
namespace Go.Proofs.Ytlgoopjbjamlmaa
open Go.RowKit


def modZ (a m : Int) : Int := if a.tmod m < 0 then a.tmod m + m else a.tmod m

theorem tmod_bd (a m : Int) (h : 1 ≤ m) : -m < a.tmod m ∧ a.tmod m < m := by
  constructor
  · have := Int.tmod_lt_of_pos (-a) (b := m) (by omega)
    rw [Int.neg_tmod] at this; omega
  · exact Int.tmod_lt_of_pos a (by omega)

set_option maxHeartbeats 400000 in
theorem l01Mod_any (a m : Int) (w : World) (h1 : 1 ≤ m) (h2 : m ≤ 1000000000000000) :
    Calls Try.prog 53 #[.int .i64 a, .int .i64 m] w fun e w' => e = .returned (.int .i64 (modZ a m)) ∧ w = w' := by
  have hb := tmod_bd a m h1
  by_cases hn : a.tmod m < 0
  · have H : Hid (modZ a m = a.tmod m + m) := Lib.hid (by simp [modZ, hn])
    go_enter Try.func53, Try.ntmps53
    go_wp2
    go_ret
    exact ⟨ret_int (by rw [H.out]), rfl⟩
  · have H : Hid (modZ a m = a.tmod m) := Lib.hid (by simp [modZ, hn])
    go_enter Try.func53, Try.ntmps53
    go_wp2
    go_ret
    exact ⟨ret_int (by rw [H.out]), rfl⟩

def remOk (a m : Int) : Bool := inB a (-1000000000000000) 1000000000000000 && inB m 1 1000000000000000
def remV (a m : Int) : Int := if remOk a m = true then modZ a m else 0

set_option maxHeartbeats 400000 in
theorem specRemainder_any (a m : Int) (w : World) :
    Calls Try.prog 34 #[.int .i64 a, .int .i64 m] w fun e w' => e = two (remV a m) (remOk a m) ∧ w = w' := by
  rcases h1 : inB a (-1000000000000000) 1000000000000000 with _ | _
  · have H : Hid (remOk a m = false) := Lib.hid (by simp [remOk, h1])
    have H1 := Lib.hid h1
    go_enter Try.func34, Try.ntmps34
    go_wp2_with (go_at_call 47; (with_reducible refine (l00In_any _ _ _ _).mono ?_); rintro e w' ⟨rfl, rfl⟩)
    go_ret2
    exact ⟨two_eq (by simp [remV, H.out]) H.out.symm, rfl⟩
  · rcases h2 : inB m 1 1000000000000000 with _ | _
    · have H : Hid (remOk a m = false) := Lib.hid (by simp [remOk, h1, h2])
      go_enter Try.func34, Try.ntmps34
      go_wp2_with (go_at_call 47; (with_reducible refine (l00In_any _ _ _ _).mono ?_); rintro e w' ⟨rfl, rfl⟩)
      go_ret2
      exact ⟨two_eq (by simp [remV, H.out]) H.out.symm, rfl⟩
    · have H : Hid (remOk a m = true) := Lib.hid (by simp [remOk, h1, h2])
      have b2 := inB_true.1 h2
      go_enter Try.func34, Try.ntmps34
      go_wp2_with (first | (go_at_call 47; (with_reducible refine (l00In_any _ _ _ _).mono ?_); rintro e w' ⟨rfl, rfl⟩) | (go_at_call 53; (with_reducible refine (l01Mod_any _ _ _ (by omega) (by omega)).mono ?_); rintro e w' ⟨rfl, rfl⟩))
      go_ret2
      exact ⟨two_eq (by simp [remV, H.out]) H.out.symm, rfl⟩

set_option maxHeartbeats 400000 in
theorem implRemainder_any (a m : Int) (w : World) :
    Calls Try.prog 15 #[.int .i64 a, .int .i64 m] w fun e w' => e = two (remV a m) (remOk a m) ∧ w = w' := by
  rcases h1 : inB a (-1000000000000000) 1000000000000000 with _ | _
  · have H : Hid (remOk a m = false) := Lib.hid (by simp [remOk, h1])
    have H1 := Lib.hid h1
    go_enter Try.func15, Try.ntmps15
    go_wp2_with (go_at_call 37; (with_reducible refine (isValue_any _ _).mono ?_); rintro e w' ⟨rfl, rfl⟩)
    go_ret2
    exact ⟨two_eq (by simp [remV, H.out]) H.out.symm, rfl⟩
  · rcases h2 : inB m 1 1000000000000000 with _ | _
    · have H : Hid (remOk a m = false) := Lib.hid (by simp [remOk, h1, h2])
      go_enter Try.func15, Try.ntmps15
      go_wp2_with (first | (go_at_call 37; (with_reducible refine (isValue_any _ _).mono ?_); rintro e w' ⟨rfl, rfl⟩) | (go_at_call 36; (with_reducible refine (within_any _ _ _ _).mono ?_); rintro e w' ⟨rfl, rfl⟩))
      go_ret2
      exact ⟨two_eq (by simp [remV, H.out]) H.out.symm, rfl⟩
    · have H : Hid (remOk a m = true) := Lib.hid (by simp [remOk, h1, h2])
      have b2 := inB_true.1 h2
      have hb := tmod_bd a m b2.1
      by_cases hn : a.tmod m < 0
      · have H3 : Hid (remV a m = a.tmod m + m) := Lib.hid (by simp [remV, H.out, modZ, hn])
        go_enter Try.func15, Try.ntmps15
        go_wp2_with (first | (go_at_call 37; (with_reducible refine (isValue_any _ _).mono ?_); rintro e w' ⟨rfl, rfl⟩) | (go_at_call 36; (with_reducible refine (within_any _ _ _ _).mono ?_); rintro e w' ⟨rfl, rfl⟩))
        go_ret2
        exact ⟨two_eq H3.out.symm H.out.symm, rfl⟩
      · have H3 : Hid (remV a m = a.tmod m) := Lib.hid (by simp [remV, H.out, modZ, hn])
        go_enter Try.func15, Try.ntmps15
        go_wp2_with (first | (go_at_call 37; (with_reducible refine (isValue_any _ _).mono ?_); rintro e w' ⟨rfl, rfl⟩) | (go_at_call 36; (with_reducible refine (within_any _ _ _ _).mono ?_); rintro e w' ⟨rfl, rfl⟩))
        go_ret2
        exact ⟨two_eq H3.out.symm H.out.symm, rfl⟩

set_option maxHeartbeats 400000 in
theorem remainder_walk (a m : Int) (w : World) :
    Calls Try.prog 9 #[.int .i64 a, .int .i64 m] w fun e w' => e = .returned (.bool true) ∧ w = w' := by
  go_enter Try.func9, Try.ntmps9
  go_wp2_with (first | (go_at_call 34; (with_reducible refine (specRemainder_any _ _ _).mono ?_); rintro e w' ⟨rfl, rfl⟩) | (go_at_call 15; (with_reducible refine (implRemainder_any _ _ _).mono ?_); rintro e w' ⟨rfl, rfl⟩))
  go_ret
  exact ⟨rfl, rfl⟩
end Go.Proofs.Ytlgoopjbjamlmaa
