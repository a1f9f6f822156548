/-
  Contracts of RemainderOf, GcdOf and InverseOf, of the program and of the model: both return the same numbers, for every input.
-/
import Derived.Test.YtlgoopjbjamlmaaBasic
namespace Go.Proofs.Ytlgoopjbjamlmaa
open Go.RowKit

abbrev two (n : Int) (b : Bool) : Ending := .returned (.tuple #[.int .i64 n, .bool b])
theorem two_eq {n n' : Int} {b b' : Bool} (h : n = n') (hb : b = b') : Ending.returned (.tuple #[.int .i64 n, .bool b]) = two n' b' := by rw [h, hb]

abbrev big : Int := 1000000000000000
def remOk (a m : Int) : Bool := inB a (-1000000000000000) 1000000000000000 && inB m 1 1000000000000000
def remV (a m : Int) : Int := if remOk a m = true then modZ a m else 0

set_option maxHeartbeats 400000 in
theorem specRemainder_any (a m : Int) (w : World) :
    Calls Try.prog 34 #[.int .i64 a, .int .i64 m] w fun e w' => e = two (remV a m) (remOk a m) ∧ w = w' := by
  rcases h1 : inB a (-1000000000000000) 1000000000000000 with _ | _
  · have H : Hid (remOk a m = false) := Lib.hid (by simp [remOk, h1])
    have H1 := Lib.hid h1
    go_enter Try.func34, Try.ntmps34
    go_wp2_with (go_at_call 47; refine (l00In_any _ _ _ _).mono ?_; rintro e w' ⟨rfl, rfl⟩)
    go_ret2
    exact ⟨two_eq (by simp [remV, H.out]) H.out.symm, rfl⟩
  · rcases h2 : inB m 1 1000000000000000 with _ | _
    · have H : Hid (remOk a m = false) := Lib.hid (by simp [remOk, h1, h2])
      go_enter Try.func34, Try.ntmps34
      go_wp2_with (go_at_call 47; refine (l00In_any _ _ _ _).mono ?_; rintro e w' ⟨rfl, rfl⟩)
      go_ret2
      exact ⟨two_eq (by simp [remV, H.out]) H.out.symm, rfl⟩
    · have H : Hid (remOk a m = true) := Lib.hid (by simp [remOk, h1, h2])
      have b2 := inB_true.1 h2
      go_enter Try.func34, Try.ntmps34
      go_wp2_with (first | (go_at_call 47; refine (l00In_any _ _ _ _).mono ?_; rintro e w' ⟨rfl, rfl⟩) | (go_at_call 53; refine (l01Mod_any _ _ _ (by omega) (by omega)).mono ?_; rintro e w' ⟨rfl, rfl⟩))
      go_ret2
      exact ⟨two_eq (by simp [remV, H.out]) H.out.symm, rfl⟩

set_option maxHeartbeats 400000 in
theorem implRemainder_any (a m : Int) (w : World) :
    Calls Try.prog 15 #[.int .i64 a, .int .i64 m] w fun e w' => e = two (remV a m) (remOk a m) ∧ w = w' := by
  rcases h1 : inB a (-1000000000000000) 1000000000000000 with _ | _
  · have H : Hid (remOk a m = false) := Lib.hid (by simp [remOk, h1])
    have H1 := Lib.hid h1
    go_enter Try.func15, Try.ntmps15
    go_wp2_with (go_at_call 37; refine (isValue_any _ _).mono ?_; rintro e w' ⟨rfl, rfl⟩)
    go_ret2
    exact ⟨two_eq (by simp [remV, H.out]) H.out.symm, rfl⟩
  · rcases h2 : inB m 1 1000000000000000 with _ | _
    · have H : Hid (remOk a m = false) := Lib.hid (by simp [remOk, h1, h2])
      go_enter Try.func15, Try.ntmps15
      go_wp2_with (first | (go_at_call 37; refine (isValue_any _ _).mono ?_; rintro e w' ⟨rfl, rfl⟩) | (go_at_call 36; refine (within_any _ _ _ _).mono ?_; rintro e w' ⟨rfl, rfl⟩))
      go_ret2
      exact ⟨two_eq (by simp [remV, H.out]) H.out.symm, rfl⟩
    · have H : Hid (remOk a m = true) := Lib.hid (by simp [remOk, h1, h2])
      have b2 := inB_true.1 h2
      have hb := tmod_bd a m b2.1
      by_cases hn : a.tmod m < 0
      · have H3 : Hid (remV a m = a.tmod m + m) := Lib.hid (by simp [remV, H.out, modZ, hn])
        go_enter Try.func15, Try.ntmps15
        go_wp2_with (first | (go_at_call 37; refine (isValue_any _ _).mono ?_; rintro e w' ⟨rfl, rfl⟩) | (go_at_call 36; refine (within_any _ _ _ _).mono ?_; rintro e w' ⟨rfl, rfl⟩))
        go_ret2
        exact ⟨two_eq H3.out.symm H.out.symm, rfl⟩
      · have H3 : Hid (remV a m = a.tmod m) := Lib.hid (by simp [remV, H.out, modZ, hn])
        go_enter Try.func15, Try.ntmps15
        go_wp2_with (first | (go_at_call 37; refine (isValue_any _ _).mono ?_; rintro e w' ⟨rfl, rfl⟩) | (go_at_call 36; refine (within_any _ _ _ _).mono ?_; rintro e w' ⟨rfl, rfl⟩))
        go_ret2
        exact ⟨two_eq H3.out.symm H.out.symm, rfl⟩

set_option maxHeartbeats 400000 in
theorem remainder_walk (a m : Int) (w : World) :
    Calls Try.prog 9 #[.int .i64 a, .int .i64 m] w fun e w' => e = .returned (.bool true) ∧ w = w' := by
  go_enter Try.func9, Try.ntmps9
  go_wp2_with (first | (go_at_call 34; refine (specRemainder_any _ _ _).mono ?_; rintro e w' ⟨rfl, rfl⟩) | (go_at_call 15; refine (implRemainder_any _ _ _).mono ?_; rintro e w' ⟨rfl, rfl⟩))
  go_ret
  exact ⟨rfl, rfl⟩
end Go.Proofs.Ytlgoopjbjamlmaa
