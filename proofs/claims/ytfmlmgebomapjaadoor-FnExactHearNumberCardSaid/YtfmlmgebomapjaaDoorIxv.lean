/-
  IndexRune over a text of plain bytes: -1 at every rune that is no byte.
-/
import Derived.Test.YtfmlmgebomapjaaDoorIxa
import Derived.Test.YtfmlmgebomapjaaDoorIxb
namespace Go.Proofs.YtfmlmgebomapjaaDoor
open Go Go.RowKit

theorem ixr_valid (s : ByteArray) (r : Nat) (w : World) (hp : plainB s) (h1 : 128 ≤ r) (h2 : r ≠ 65533) (hv : Lib.validRune r = true) :
    Calls Tryd.prog 87 #[.string s, .int .i32 r] w fun e w' => e = .returned (.int .i64 (-1)) ∧ Below w.heap.size w w' := by
  have V : Calls Tryd.prog 105 #[.int .i32 r] w fun e w' => e = .returned (.bool true) ∧ w = w' := by
    refine (Tryd.utf8_ValidRune r w).mono ?_
    rintro e w' ⟨rfl, rfl⟩
    exact ⟨by rw [hv], rfl⟩
  have t1 : ((r : Int) == 65533) = false := by simp; omega
  have huv : Utf8.valid (r : Int) = true := by
    unfold Lib.validRune at hv
    simp only [decide_eq_true_eq] at hv
    unfold Utf8.valid
    simp
    omega
  obtain ⟨f1, f2, f3⟩ := encode_facts (r : Int) huv (by omega)
  obtain ⟨rs, hrs⟩ : ∃ rs, Utf8.encode (r : Int) = rs := ⟨_, rfl⟩
  rw [hrs] at f1 f2
  simp only [hrs] at f3
  obtain ⟨m, hm⟩ : ∃ m, rs.size = m + 1 := ⟨rs.size - 1, by omega⟩
  have hmr : m < rs.size := by omega
  have f4 : 128 ≤ (rs[m]'hmr).toNat := by
    have e : rs.size - 1 = m := by omega
    have h5 := f3 (by omega)
    simp only [e] at h5
    exact h5
  by_cases hin : m < s.size
  · have hsm := plain_at hp m hin
    refine ixr_in s rs r m w hmr hin (by omega) (by simp; omega) (fun W i j => ?_) (by omega) t1 hrs (by omega) (by omega) (by omega) V
    refine (Tryd.strings_IndexByte (s.extract i j) (rs[m]'hmr).toNat W).mono ?_
    rintro e w' ⟨rfl, rfl⟩
    refine ⟨ret_int ?_, rfl⟩
    have e1 : (((rs[m]'hmr).toNat : Int)).toNat.toUInt8 = rs[m]'hmr := by simp
    rw [e1]
    exact none_atI _ _ (plain_cut hp i j) f4
  · exact ixr_out s rs r m w (by omega) (by omega) t1 hrs (by omega) (by omega) V
theorem ixr_high (s : ByteArray) (r : Nat) (w : World) (hp : plainB s) (hs : s.size ≤ 1000) (h1 : 128 ≤ r) :
    Calls Tryd.prog 87 #[.string s, .int .i32 r] w fun e w' => e = .returned (.int .i64 (-1)) ∧ Below w.heap.size w w' := by
  by_cases h2 : r = 65533
  · subst h2; exact ixr_bad s w hp hs
  · rcases hv : Lib.validRune r with _ | _
    · exact ixr_invalid s r w h1 h2 hv
    · exact ixr_valid s r w hp h1 h2 hv
end Go.Proofs.YtfmlmgebomapjaaDoor
