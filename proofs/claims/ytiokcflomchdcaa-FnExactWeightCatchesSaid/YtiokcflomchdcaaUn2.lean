/-
  What the errors of each kind change: which of the program's functions, and its small tests.
-/
import Derived.Test.YtiokcflomchdcaaSumF
import Derived.Test.YtiokcflomchdcaaSumN
namespace Go.Proofs.Ytiokcflomchdcaa
open Go Go.RowKit

def fnOf : Nat → Nat
  | 0 => 164 | 1 => 165 | 2 => 166 | 3 => 167 | 4 => 168 | _ => 169
def sizeK (k : Nat) : Nat := if k = 0 then 1 else if k = 2 ∨ k = 4 then 3 else 2
theorem sizeK_le (k : Nat) : 1 ≤ sizeK k ∧ sizeK k ≤ 3 := by
  unfold sizeK
  split
  · omega
  · split <;> omega
set_option maxRecDepth 100000 in
set_option maxHeartbeats 1000000 in
theorem partsOf_any (k : Nat) (hk : k < 6) (w : World) : Calls Try.prog 151 #[.int .i64 k] w fun e w' => e = .returned (.func (.func (fnOf k)) #[] #[]) ∧ w = w' := by
  have x : ∀ (j : Nat), j < 6 → ∀ w : World, (Instr.index 182 (.agg #[.func (.func 164) #[] #[], .func (.func 165) #[] #[], .func (.func 166) #[] #[], .func (.func 167) #[] #[], .func (.func 168) #[] #[], .func (.func 169) #[] #[]]) (.int .i64 (j : Int))).run Try.prog w = .ok (.func (.func (fnOf j)) #[] #[]) w := by
    intro j hj w
    match j, hj with
    | 0, _ => rfl
    | 1, _ => rfl
    | 2, _ => rfl
    | 3, _ => rfl
    | 4, _ => rfl
    | 5, _ => rfl
  have h := x k hk
  clear x
  generalize fnOf k = f at *
  go_enter Try.func151, Try.ntmps151
  go_wp2_with fail
  go_ret
  exact ⟨rfl, rfl⟩
set_option maxHeartbeats 1000000 in
theorem sizeOf_any (k : Nat) (w : World) : Calls Try.prog 69 #[.int .i64 k] w fun e w' => e = .returned (.int .i64 (sizeK k : Nat)) ∧ w = w' := by
  by_cases h0 : k = 0
  · subst h0
    go_enter Try.func69, Try.ntmps69
    go_wp2
    go_ret
    exact ⟨rfl, rfl⟩
  · have n0 : ¬ (k : Int) = 0 := by omega
    by_cases h2 : k = 2
    · subst h2
      go_enter Try.func69, Try.ntmps69
      go_wp2
      go_ret
      exact ⟨rfl, rfl⟩
    · have n2 : ¬ (k : Int) = 2 := by omega
      by_cases h4 : k = 4
      · subst h4
        go_enter Try.func69, Try.ntmps69
        go_wp2
        go_ret
        exact ⟨rfl, rfl⟩
      · have n4 : ¬ (k : Int) = 4 := by omega
        have e : Hid (sizeK k = 2) := Lib.hid (by unfold sizeK; rw [if_neg h0, if_neg (by omega)])
        clear h0 h2 h4
        go_enter Try.func69, Try.ntmps69
        go_wp2
        go_ret
        exact ⟨by rw [e.out]; rfl, rfl⟩
def kindOk (kind base : Int) : Bool := inB kind 0 5 && (decide (kind ≠ 5) || decide (10 ≤ base))
set_option maxHeartbeats 1000000 in
theorem isKind_any (kind base : Int) (w : World) : Calls Try.prog 67 #[.int .i64 kind, .int .i64 base] w fun e w' => e = .returned (.bool (kindOk kind base)) ∧ w = w' := by
  rcases h : inB kind 0 5 with _ | _
  · have H : Hid (kindOk kind base = false) := Lib.hid (by simp [kindOk, h])
    have C : Calls Try.prog 72 #[.int .i64 kind, .int .i64 0, .int .i64 5] w fun e w' => e = .returned (.bool false) ∧ w = w' := by rw [← h]; exact within_any _ _ _ _
    clear h
    go_enter Try.func67, Try.ntmps67
    go_wp2_with (go_at_call 72; (with_reducible refine (C).mono ?_); rintro e w' ⟨rfl, rfl⟩)
    go_ret
    exact ⟨ret_bool (by rw [H.out]), rfl⟩
  · have C : Calls Try.prog 72 #[.int .i64 kind, .int .i64 0, .int .i64 5] w fun e w' => e = .returned (.bool true) ∧ w = w' := by rw [← h]; exact within_any _ _ _ _
    by_cases h5 : kind = 5
    · by_cases hb : 10 ≤ base
      · have H : Hid (kindOk kind base = true) := Lib.hid (by simp [kindOk, h, hb])
        have n5 : (kind != 5) = false := by simp [h5]
        clear h
        subst h5
        go_enter Try.func67, Try.ntmps67
        go_wp2_with (go_at_call 72; (with_reducible refine (C).mono ?_); rintro e w' ⟨rfl, rfl⟩)
        go_ret
        exact ⟨ret_bool (by rw [H.out]), rfl⟩
      · have H : Hid (kindOk kind base = false) := Lib.hid (by simp [kindOk, h5, hb])
        have n5 : (kind != 5) = false := by simp [h5]
        clear h
        subst h5
        go_enter Try.func67, Try.ntmps67
        go_wp2_with (go_at_call 72; (with_reducible refine (C).mono ?_); rintro e w' ⟨rfl, rfl⟩)
        go_ret
        exact ⟨ret_bool (by rw [H.out]; simp; omega), rfl⟩
    · have H : Hid (kindOk kind base = true) := Lib.hid (by simp [kindOk, h, h5])
      have n5 : (kind != 5) = true := by simp [h5]
      clear h
      go_enter Try.func67, Try.ntmps67
      go_wp2_with (go_at_call 72; (with_reducible refine (C).mono ?_); rintro e w' ⟨rfl, rfl⟩)
      go_ret
      exact ⟨ret_bool (by rw [H.out]), rfl⟩
def pairK (k : Nat) (a b : Int) : Bool := if k = 5 then ((decide (b = 0) && inB a 2 9) || (decide (a = 1) && inB b 2 9)) else decide (a ≠ b)
set_option maxHeartbeats 2000000 in
theorem isPair_any (k : Nat) (a b : Int) (w : World) : Calls Try.prog 121 #[.int .i64 k, .int .i64 a, .int .i64 b] w fun e w' => e = .returned (.bool (pairK k a b)) ∧ w = w' := by
  by_cases hk : k = 5
  · subst hk
    have CA := within_any a 2 9 w
    have CB := within_any b 2 9 w
    have HP : Hid (pairK 5 a b = ((decide (b = 0) && inB a 2 9) || (decide (a = 1) && inB b 2 9))) := Lib.hid rfl
    generalize inB a 2 9 = x at CA HP
    generalize inB b 2 9 = y at CB HP
    generalize pairK 5 a b = z at HP ⊢
    by_cases hb : b = 0
    · have hbb : (b == 0) = true := by simp [hb]
      by_cases ha : a = 1
      · have haa : (a == 1) = true := by simp [ha]
        have HZ : Hid (z = (x || y)) := Lib.hid (by rw [HP.out]; simp [hb, ha])
        clear HP hbb
        (try clear haa)
        subst hb
        (try subst ha)
        rcases x with _ | _
        · go_enter Try.func121, Try.ntmps121
          go_wp2_with (first | (go_at_call 72; (with_reducible refine (CA).mono ?_); rintro e w' ⟨rfl, rfl⟩) | (go_at_call 72; (with_reducible refine (CB).mono ?_); rintro e w' ⟨rfl, rfl⟩))
          go_ret
          exact ⟨ret_bool (by rw [HZ.out]; simp), rfl⟩
        · go_enter Try.func121, Try.ntmps121
          go_wp2_with (first | (go_at_call 72; (with_reducible refine (CA).mono ?_); rintro e w' ⟨rfl, rfl⟩) | (go_at_call 72; (with_reducible refine (CB).mono ?_); rintro e w' ⟨rfl, rfl⟩))
          go_ret
          exact ⟨ret_bool (by rw [HZ.out]; simp), rfl⟩
      · have haa : (a == 1) = false := by simp [ha]
        have HZ : Hid (z = x) := Lib.hid (by rw [HP.out]; simp [hb, ha])
        clear HP hbb
        subst hb
        rcases x with _ | _
        · go_enter Try.func121, Try.ntmps121
          go_wp2_with (first | (go_at_call 72; (with_reducible refine (CA).mono ?_); rintro e w' ⟨rfl, rfl⟩) | (go_at_call 72; (with_reducible refine (CB).mono ?_); rintro e w' ⟨rfl, rfl⟩))
          go_ret
          exact ⟨ret_bool (by rw [HZ.out]), rfl⟩
        · go_enter Try.func121, Try.ntmps121
          go_wp2_with (first | (go_at_call 72; (with_reducible refine (CA).mono ?_); rintro e w' ⟨rfl, rfl⟩) | (go_at_call 72; (with_reducible refine (CB).mono ?_); rintro e w' ⟨rfl, rfl⟩))
          go_ret
          exact ⟨ret_bool (by rw [HZ.out]), rfl⟩
    · have hbb : (b == 0) = false := by simp [hb]
      by_cases ha : a = 1
      · have haa : (a == 1) = true := by simp [ha]
        have HZ : Hid (z = y) := Lib.hid (by rw [HP.out]; simp [hb, ha])
        clear HP haa
        subst ha
        go_enter Try.func121, Try.ntmps121
        go_wp2_with (first | (go_at_call 72; (with_reducible refine (CA).mono ?_); rintro e w' ⟨rfl, rfl⟩) | (go_at_call 72; (with_reducible refine (CB).mono ?_); rintro e w' ⟨rfl, rfl⟩))
        go_ret
        exact ⟨ret_bool (by rw [HZ.out]), rfl⟩
      · have haa : (a == 1) = false := by simp [ha]
        have HZ : Hid (z = false) := Lib.hid (by rw [HP.out]; simp [hb, ha])
        clear HP
        go_enter Try.func121, Try.ntmps121
        go_wp2_with (first | (go_at_call 72; (with_reducible refine (CA).mono ?_); rintro e w' ⟨rfl, rfl⟩) | (go_at_call 72; (with_reducible refine (CB).mono ?_); rintro e w' ⟨rfl, rfl⟩))
        go_ret
        exact ⟨ret_bool (by rw [HZ.out]), rfl⟩
  · have n5 : ((k : Int) == 5) = false := by simp; omega
    have n5' : ¬ (k : Int) = 5 := by omega
    have HP : Hid (pairK k a b = decide (a ≠ b)) := Lib.hid (by unfold pairK; rw [if_neg hk])
    by_cases hab : a = b
    · have hn : (a != b) = false := by simp [hab]
      have HZ : Hid (pairK k a b = false) := Lib.hid (by rw [HP.out]; simp [hab])
      go_enter Try.func121, Try.ntmps121
      go_wp2_with fail
      go_ret
      exact ⟨ret_bool (by rw [HZ.out]), rfl⟩
    · have hn : (a != b) = true := by simp [hab]
      have HZ : Hid (pairK k a b = true) := Lib.hid (by rw [HP.out]; simp [hab])
      go_enter Try.func121, Try.ntmps121
      go_wp2_with fail
      go_ret
      exact ⟨ret_bool (by rw [HZ.out]), rfl⟩
end Go.Proofs.Ytiokcflomchdcaa
