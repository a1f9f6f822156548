/-
  Contracts of WordRemainder, of the program and of the model: both return the same remainder, for every input.
-/
import Derived.Test.YtlgoopjbjamlmaaDoorDigits
namespace Go.Proofs.YtlgoopjbjamlmaaDoor
open Go.RowKit

def wstep (base m : Int) (n d : Int) : Int := (n * base + d) % m
def wrem (base m : Int) (ds : List Int) : Int := ds.foldl (wstep base m) 0
theorem wrem_bd {base m : Int} (hm : 1 ≤ m) (ds : List Int) : 0 ≤ wrem base m ds ∧ wrem base m ds < m := by
  have h : ∀ (ds : List Int) (n : Int), (0 ≤ n ∧ n < m) → (0 ≤ ds.foldl (wstep base m) n ∧ ds.foldl (wstep base m) n < m) := by
    intro ds
    induction ds with
    | nil => intro n hn; exact hn
    | cons d ds ih => intro n _; exact ih _ ⟨Int.emod_nonneg _ (by omega), Int.emod_lt_of_pos _ (by omega)⟩
  exact h ds 0 (by omega)
theorem wrem_next (base m : Int) (ds : List Int) (d : Int) : wrem base m (ds ++ [d]) = (wrem base m ds * base + d) % m := by
  simp [wrem, wstep]
theorem mul_bd {v base : Int} (h1 : 0 ≤ v) (h2 : v ≤ 1000) (h3 : 2 ≤ base) (h4 : base ≤ 36) : 0 ≤ v * base ∧ v * base ≤ 36000 :=
  ⟨Int.mul_nonneg h1 (by omega), Int.le_trans (Int.mul_le_mul h2 h4 (by omega) (by omega)) (by decide)⟩
def wrOk (s : ByteArray) (base m : Int) : Bool := wordB s base && inB m 1 1000
def wrR (s : ByteArray) (base m : Int) : Int := if wrOk s base m = true then wrem base m (digs s.data.toList) else 0
theorem word_dig {s : ByteArray} {base : Int} {k : Nat} (h : wordB s base = true) (hk : k < s.size) : 0 ≤ digN s[k].toNat ∧ digN s[k].toNat ≤ 35 := by
  simp only [wordB, Bool.and_eq_true, List.all_eq_true] at h
  have := inB_true.1 (h.2.2 s[k] (by simp [ByteArray.getElem_eq_getElem_data]))
  have := digN_bd s[k].toNat
  omega
theorem word_bd {s : ByteArray} {base : Int} (h : wordB s base = true) : 2 ≤ base ∧ base ≤ 36 := by
  simp only [wordB, Bool.and_eq_true] at h
  exact inB_true.1 h.1
theorem digs_next {s : ByteArray} {k : Nat} (h : k < s.size) : digs (s.data.toList.take (k + 1)) = digs (s.data.toList.take k) ++ [digN s[k].toNat] := by
  rw [take_one s k h]; simp [digs]

set_option maxHeartbeats 1000000 in
theorem implWRem_any (s : ByteArray) (base m : Int) (w : World) (hs : s.size ≤ maxLen) :
    Calls Tryd.prog 12 #[.string s, .int .i64 base, .int .i64 m] w fun e w' => e = two (wrR s base m) (wrOk s base m) ∧ Below w.heap.size w w' := by
  have hs' := hs
  unfold maxLen at hs'
  rcases hw : wordB s base with _ | _
  · have H : Hid (wrOk s base m = false) := Lib.hid (by simp [wrOk, hw])
    have HW := Lib.hid hw
    clear hw
    go_enter Tryd.func12, Tryd.ntmps12
    go_wp2_with fail
    (go_at_call 10; (with_reducible refine (implDigits_any _ _ _ hs).mono ?_); rintro e w1 ⟨A1, c1, rfl, o1, b1⟩)
    have hw := HW.out
    go_wp2
    go_ret2
    exact ⟨two_eq (by simp [wrR, H.out]) H.out.symm, b1⟩
  · have HW := Lib.hid hw
    have hbb := word_bd hw
    have hR : Hid (digR s base = digs s.data.toList) := Lib.hid (by simp [digR, hw])
    clear hw
    rcases hm : inB m 1 1000 with _ | _
    · have H : Hid (wrOk s base m = false) := Lib.hid (by simp [wrOk, hm])
      go_enter Tryd.func12, Tryd.ntmps12
      go_wp2_with fail
      (go_at_call 10; (with_reducible refine (implDigits_any _ _ _ hs).mono ?_); rintro e w1 ⟨A1, c1, rfl, o1, b1⟩)
      have hw := HW.out
      go_wp2_with (go_at_call 28; (with_reducible refine (within_any _ _ _ _).mono ?_); rintro e w' ⟨rfl, rfl⟩)
      go_ret2
      exact ⟨two_eq (by simp [wrR, H.out]) H.out.symm, b1⟩
    · have H : Hid (wrOk s base m = true) := Lib.hid (by simp [wrOk, hm, HW.out])
      have hmb := inB_true.1 hm
      have hle := digR_le s base
      go_enter Tryd.func12, Tryd.ntmps12
      go_wp2_with fail
      (go_at_call 10; (with_reducible refine (implDigits_any _ _ _ hs).mono ?_); rintro e w1 ⟨A1, c1, rfl, o1, b1⟩)
      have row := o1.row
      obtain ⟨N, hN⟩ : ∃ N, N = (digR s base).length := ⟨_, rfl⟩
      obtain ⟨Z, hZ⟩ : ∃ Z, Z = digR s base := ⟨_, rfl⟩
      rw [← hZ] at hN row hR hle
      rw [← hN] at row
      have hw := HW.out
      rw [← hZ, ← hN]
      have HN2 := Lib.hid hN
      rw [← hN] at hle
      clear hZ hN o1
      go_wp2_with (go_at_call 28; (with_reducible refine (within_any _ _ _ _).mono ?_); rintro e w' ⟨rfl, rfl⟩)
      go_loop [10, 12, 28] (fun n _ i => ∃ (k : Nat) (v : Int), k ≤ N ∧ i = .int .i64 k ∧ n = .int .i64 v ∧ 0 ≤ v ∧ v < m ∧ Hid (v = wrem base m (Z.take k))) (fun _ _ i => N - (intOf i).toNat)
      case atStart => exact ⟨0, 0, by omega, rfl, rfl, by omega, by omega, Lib.hid rfl⟩
      case round =>
        obtain ⟨k, v, hk, rfl, rfl, hv0, hv1, hg⟩ := hrel
        by_cases hlt : k < N
        · obtain ⟨b, o, d, rfl, _, hz, hc, _⟩ := row.at_ hlt
          have hmul := mul_bd (v := v) hv0 (by omega) hbb.1 hbb.2
          have HN : Hid (Z.take (k + 1) = Z.take k ++ [d]) := Lib.hid (by rw [List.take_add_one, hz]; rfl)
          have hd : 0 ≤ d ∧ d ≤ 35 := by
            have hmem : d ∈ digs s.data.toList := by
              rw [← hR.out]; exact List.mem_of_getElem? hz
            simp only [digs, List.mem_map] at hmem
            obtain ⟨c, hc2, rfl⟩ := hmem
            have h2 := HW.out
            simp only [wordB, Bool.and_eq_true, List.all_eq_true] at h2
            have h3 := inB_true.1 (h2.2.2 c hc2)
            omega
          clear hz
          go_wp2
          go_round
          case rel =>
            have e : (v * base + d) % m = wrem base m (Z.take (k + 1)) := by
              rw [HN.out, wrem_next, ← hg.out]
            exact ⟨k + 1, _, by omega, by go_num, rfl, Int.emod_nonneg _ (by omega), Int.emod_lt_of_pos _ (by omega), Lib.hid e⟩
          case measure => simp [intOf]; omega
        · obtain rfl : k = N := by omega
          go_wp2
          go_ret2
          exact ⟨two_eq (by rw [wrR, if_pos H.out, hg.out, List.take_of_length_le (by rw [HN2.out]; exact Nat.le_refl _), hR.out]) H.out.symm, b1⟩

end Go.Proofs.YtlgoopjbjamlmaaDoor
