/-
  Steps between keys, by the model and by the program.
-/
import Derived.Test.YtiegaebnlikjiaaEdW
import Derived.Lib.MinMax
namespace Go.Proofs.Ytiegaebnlikjiaa
open Go.RowKit

def keyR (d : Int) : Int := if d = 0 then 3 else 2 - (d - 1) / 3
def keyC (d : Int) : Int := if d = 0 then 0 else (d - 1) % 3
def absD (x y : Int) : Int := max (x - y) (y - x)
def keyS (d e : Int) : Int := absD (keyR d) (keyR e) + absD (keyC d) (keyC e)
def keySum (u v : List Int) : Nat → Int
  | 0 => 0
  | k + 1 => keySum u v k + keyS (u.getD k 0) (v.getD k 0)
theorem ten {d : Int} (h : 0 ≤ d ∧ d ≤ 9) : d = 0 ∨ d = 1 ∨ d = 2 ∨ d = 3 ∨ d = 4 ∨ d = 5 ∨ d = 6 ∨ d = 7 ∨ d = 8 ∨ d = 9 := by omega
theorem key_bd {d : Int} (h : 0 ≤ d ∧ d ≤ 9) : 0 ≤ keyR d ∧ keyR d ≤ 3 ∧ 0 ≤ keyC d ∧ keyC d ≤ 2 := by
  unfold keyR keyC
  split <;> omega
theorem keyS_bd {d e : Int} (hd : 0 ≤ d ∧ d ≤ 9) (he : 0 ≤ e ∧ e ≤ 9) : 0 ≤ keyS d e ∧ keyS d e ≤ 5 := by
  have h1 := key_bd hd
  have h2 := key_bd he
  unfold keyS absD
  omega
theorem keySum_bd {u v : List Int} (hu : ∀ k, 0 ≤ u.getD k 0 ∧ u.getD k 0 ≤ 9) (hv : ∀ k, 0 ≤ v.getD k 0 ∧ v.getD k 0 ≤ 9) : ∀ k : Nat, 0 ≤ keySum u v k ∧ keySum u v k ≤ 5 * (k : Int)
  | 0 => by simp [keySum]
  | k + 1 => by
    have h1 := keySum_bd hu hv k
    have h2 := keyS_bd (hu k) (hv k)
    simp only [keySum]
    omega

/-- The sum of steps of two words of ten digits; whether they are ones of the same length. -/
def keyOk (a b : ByteArray) : Bool := wordB a 10 && (wordB b 10 && decide (a.size = b.size))
def keyV (a b : ByteArray) : Int := if keyOk a b = true then keySum (digs a.data.toList) (digs b.data.toList) a.size else 0
theorem digs_at {s : ByteArray} {k : Nat} (h : k < s.size) : (digs s.data.toList).getD k 0 = digN s[k].toNat := by
  unfold digs
  rw [List.getD_eq_getElem?_getD, List.getElem?_map, List.getElem?_eq_getElem (by simpa using h)]
  rfl
theorem digs_ten {s : ByteArray} (h : wordB s 10 = true) (k : Nat) : 0 ≤ (digs s.data.toList).getD k 0 ∧ (digs s.data.toList).getD k 0 ≤ 9 := by
  by_cases hk : k < s.size
  · rw [digs_at hk]
    simp only [wordB, Bool.and_eq_true, List.all_eq_true] at h
    have := inB_true.1 (h.2.2 s[k] (by simp [ByteArray.getElem_eq_getElem_data]))
    omega
  · rw [List.getD_eq_getElem?_getD, List.getElem?_eq_none (by rw [digs_len]; simpa using hk)]
    simp
theorem byte_ten {s : ByteArray} (h : wordB s 10 = true) {k : Nat} (hk : k < s.size) : 48 ≤ s[k].toNat ∧ s[k].toNat ≤ 57 ∧ digN s[k].toNat = (s[k].toNat : Int) - 48 := by
  have h1 := digs_ten h k
  rw [digs_at hk] at h1
  unfold digN at h1 ⊢
  split at h1 <;> (try split at h1) <;> simp_all <;> omega
theorem digits_is {s : ByteArray} : (decide (s.size ≤ 20) && wordB s 10) = wordB s 10 := by
  unfold wordB
  by_cases h : s.size ≤ 20 <;> simp [h]

set_option maxHeartbeats 1000000 in
theorem l06Key_any (c : Nat) (w : World) (h : 48 ≤ c ∧ c ≤ 57) :
    Calls Try.prog 114 #[.int .u8 c] w fun e w' => e = .returned (.tuple #[.int .i64 (keyC ((c : Int) - 48)), .int .i64 (keyR ((c : Int) - 48))]) ∧ w = w' := by
  have h10 : c = 48 ∨ c = 49 ∨ c = 50 ∨ c = 51 ∨ c = 52 ∨ c = 53 ∨ c = 54 ∨ c = 55 ∨ c = 56 ∨ c = 57 := by omega
  rcases h10 with rfl | rfl | rfl | rfl | rfl | rfl | rfl | rfl | rfl | rfl <;>
  · go_enter Try.func114, Try.ntmps114
    go_wp2
    go_ret2
    exact ⟨rfl, rfl⟩
set_option maxHeartbeats 1000000 in
theorem keyOf_any (d : Int) (w : World) (h : 0 ≤ d ∧ d ≤ 9) :
    Calls Try.prog 84 #[.int .i64 d] w fun e w' => e = .returned (.tuple #[.int .i64 (keyR d), .int .i64 (keyC d)]) ∧ w = w' := by
  rcases ten h with rfl | rfl | rfl | rfl | rfl | rfl | rfl | rfl | rfl | rfl <;>
  · go_enter Try.func84, Try.ntmps84
    go_wp2
    go_ret2
    exact ⟨rfl, rfl⟩
set_option maxHeartbeats 1000000 in
theorem gapOf_any (x y : Int) (w : World) (hx : -100 ≤ x ∧ x ≤ 100) (hy : -100 ≤ y ∧ y ≤ 100) :
    Calls Try.prog 85 #[.int .i64 x, .int .i64 y] w fun e w' => e = .returned (.int .i64 (absD x y)) ∧ w = w' := by
  go_enter Try.func85, Try.ntmps85
  go_wp2
  go_ret
  exact ⟨ret_int rfl, rfl⟩
set_option maxHeartbeats 400000 in
theorem l00Max_any (a b : Int) (w : World) :
    Calls Try.prog 115 #[.int .i64 a, .int .i64 b] w fun e w' => e = .returned (.int .i64 (max a b)) ∧ w = w' := by
  by_cases h : b < a
  · go_enter Try.func115, Try.ntmps115
    go_wp2
    go_ret
    exact ⟨ret_int (by omega), rfl⟩
  · go_enter Try.func115, Try.ntmps115
    go_wp2
    go_ret
    exact ⟨ret_int (by omega), rfl⟩
set_option maxHeartbeats 1000000 in
theorem l06Digits_any (s : ByteArray) (w : World) (hs : s.size ≤ maxLen) :
    Calls Try.prog 81 #[.string s] w fun e w' => e = .returned (.bool (wordB s 10)) ∧ w = w' := by
  have hs' := hs
  unfold maxLen at hs'
  by_cases hl : s.size ≤ 20
  · by_cases he : s.size = 0
    · have te := toList_nil he
      have H : Hid (wordB s 10 = true) := Lib.hid (by
        have e : s.data.toList = [] := List.eq_nil_of_length_eq_zero (by simpa using he)
        unfold wordB
        rw [e, he]
        simp [inB])
      go_enter Try.func81, Try.ntmps81
      go_wp2
      go_ret
      exact ⟨ret_bool H.out.symm, rfl⟩
    · have te := toList_some he
      go_enter Try.func81, Try.ntmps81
      go_wp2_with (go_at_call 112; (with_reducible refine (l01Word_any _ _ _ hs).mono ?_); rintro e w' ⟨rfl, rfl⟩)
      go_ret
      exact ⟨rfl, rfl⟩
  · have H : Hid (wordB s 10 = false) := Lib.hid (by unfold wordB; simp; intros; omega)
    go_enter Try.func81, Try.ntmps81
    go_wp2
    go_ret
    exact ⟨ret_bool H.out.symm, rfl⟩
end Go.Proofs.Ytiegaebnlikjiaa
