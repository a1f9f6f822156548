/-
  When a weighting is valid: the tests of the model and of the program.
-/
import Derived.Test.YtiokcflomchdcaaWt
import Derived.Test.YtiokcflomchdcaaLim
import Derived.Test.YtiokcflomchdcaaWLim
import Derived.Deep.RegionHeld3
import Derived.IntWalk
import Derived.Test.YtiokcflomchdcaaLast
namespace Go.Proofs.Ytiokcflomchdcaa
open Go.RowKit

def manyB (base : Int) (n : Nat) : Bool := inB base 2 36 && (inB n 1 20 && limOk base n)
def wOk (x : Wt) : Bool := manyB x.base x.W.length && (inB x.modulus 2 36 && (inB x.target 0 (x.modulus - 1) && x.W.all fun z => inB z 0 (x.modulus - 1)))

set_option maxHeartbeats 400000 in
theorem l01BaseW_any (base : Int) (w : World) :
    Calls Try.prog 163 #[.int .i64 base] w fun e w' => e = .returned (.bool (inB base 2 36)) ∧ w = w' := by
  go_enter Try.func163, Try.ntmps163
  go_wp2_with (go_at_call 80; (with_reducible refine (l00In_any _ _ _ _).mono ?_); rintro e w' ⟨rfl, rfl⟩)
  go_ret
  exact ⟨rfl, rfl⟩
set_option maxHeartbeats 2000000 in
theorem l03Many_any (base : Int) (n : Nat) (w : World) (hn : n ≤ maxLen) :
    Calls Try.prog 144 #[.int .i64 base, .int .i64 n] w fun e w' => e = .returned (.bool (manyB base n)) ∧ w = w' := by
  unfold maxLen at hn
  unfold manyB
  rcases h1 : inB base 2 36 with _ | _
  · have CB : Calls Try.prog 163 #[.int .i64 base] w fun e w' => e = .returned (.bool false) ∧ w = w' := by rw [← h1]; exact l01BaseW_any _ _
    go_enter Try.func144, Try.ntmps144
    go_wp2_with (go_at_call 163; (with_reducible refine (CB).mono ?_); rintro e w' ⟨rfl, rfl⟩)
    go_ret
    exact ⟨rfl, rfl⟩
  · have CB : Calls Try.prog 163 #[.int .i64 base] w fun e w' => e = .returned (.bool true) ∧ w = w' := by rw [← h1]; exact l01BaseW_any _ _
    have hb := inB_true.1 h1
    clear h1
    by_cases h2 : n < 1
    · have e2 : inB n 1 20 = false := inB_false.2 (by omega)
      rw [e2]
      clear e2
      have h2' : (n : Int) < 1 := by omega
      go_enter Try.func144, Try.ntmps144
      go_wp2_with (go_at_call 163; (with_reducible refine (CB).mono ?_); rintro e w' ⟨rfl, rfl⟩)
      go_ret
      exact ⟨rfl, rfl⟩
    · by_cases h3 : 20 < n
      · have e2 : inB n 1 20 = false := inB_false.2 (by omega)
        rw [e2]
        clear e2
        have h2' : ¬ (n : Int) < 1 := by omega
        have h3' : (20 : Int) < n := by omega
        go_enter Try.func144, Try.ntmps144
        go_wp2_with (go_at_call 163; (with_reducible refine (CB).mono ?_); rintro e w' ⟨rfl, rfl⟩)
        go_ret
        exact ⟨rfl, rfl⟩
      · have e2 : inB n 1 20 = true := inB_true.2 (by omega)
        rw [e2]
        clear e2
        have h2' : ¬ (n : Int) < 1 := by omega
        have h3' : ¬ (20 : Int) < n := by omega
        go_enter Try.func144, Try.ntmps144
        go_wp2_with (go_at_call 163; (with_reducible refine (CB).mono ?_); rintro e w' ⟨rfl, rfl⟩)
        clear CB
        go_loop [5, 6] (fun v i => ∃ k : Nat, k ≤ n ∧ i = .int .i64 k ∧ v = .int .i64 (base ^ k) ∧ base ^ k ≤ 1000000000000000) (fun _ i => n - (intOf i).toNat)
        case atStart => exact ⟨0, by omega, rfl, by simp, by simp⟩
        case round =>
          obtain ⟨k, hk, rfl, rfl, hle⟩ := hrel
          have hpos := pow_pos' hb.1 k
          have hsucc : base ^ k * base = base ^ (k + 1) := (Int.pow_succ base k).symm
          have hm1 : 0 ≤ base ^ k * base := Int.mul_nonneg (by omega) (by omega)
          have hm2 : base ^ k * base ≤ 1000000000000000 * 36 := Int.mul_le_mul hle (by omega) (by omega) (by omega)
          have hlimk : limOk base k = true := by unfold limOk; simpa using hle
          obtain ⟨V, hV⟩ : ∃ V, V = base ^ k := ⟨_, rfl⟩
          rw [← hV] at hpos hsucc hm1 hm2 hle ⊢
          have hdv : 1000000000000000 / base < V ↔ 1000000000000000 < V * base := Int.ediv_lt_iff_lt_mul (by omega)
          have HS := Lib.hid hsucc
          have HLK := Lib.hid hlimk
          clear hV hsucc hlimk
          by_cases hlt : k < n
          · by_cases hbig : 1000000000000000 < V * base
            · have hq : 1000000000000000 / base < V := hdv.2 hbig
              clear hdv
              go_wp2
              go_ret
              refine ⟨ret_bool ?_, rfl⟩
              rw [lim_bad hb.1 (show k + 1 ≤ n by omega) (by rw [← HS.out]; exact hbig)]
            · have hq : ¬ 1000000000000000 / base < V := fun h => hbig (hdv.1 h)
              clear hdv
              go_wp2
              go_round
              case rel => exact ⟨k + 1, by omega, by go_num, by rw [HS.out], by rw [← HS.out]; omega⟩
              case measure => simp [intOf]; omega
          · obtain rfl : n = k := by omega
            clear hdv
            go_wp2
            go_ret
            exact ⟨ret_bool (by rw [HLK.out]), rfl⟩
set_option maxHeartbeats 400000 in
theorem l01BelowW_any {B : Nat} (A : Option Addr) (n c : Nat) (m : Int) (zs : List Int) (w : World) (h : RowB .i64 B w A n zs) (h1 : -1000000 ≤ m) (h2 : m ≤ 1000000) :
    Calls Try.prog 145 #[.slice A n c, .int .i64 m] w fun e w' => e = .returned (.bool (zs.all fun z => inB z 0 (m - 1))) ∧ w = w' := by
  have hle := h.le
  have hl := h.len
  go_enter Try.func145, Try.ntmps145
  go_wp2
  go_loop [5] (fun i => ∃ k : Nat, k ≤ n ∧ i = .int .i64 k ∧ Hid ((zs.take k).all (fun z => inB z 0 (m - 1)) = true)) (fun i => n - (intOf i).toNat)
  case atStart => exact ⟨0, by omega, rfl, Lib.hid (by simp)⟩
  case round =>
    obtain ⟨k, hk, rfl, hall⟩ := hrel
    by_cases hlt : k < n
    · obtain ⟨b, o, z, rfl, _, hz, hc, _⟩ := h.at_ hlt
      have HZ := Lib.hid hz
      clear hz
      rcases hin : inB z 0 (m - 1) with _ | _
      · have CI : Calls Try.prog 80 #[.int .i64 z, .int .i64 0, .int .i64 (m - 1)] w fun e w' => e = .returned (.bool false) ∧ w = w' := by rw [← hin]; exact l00In_any _ _ _ _
        have HIN := Lib.hid hin
        clear hin
        go_wp2_with (go_at_call 80; (with_reducible refine (CI).mono ?_); rintro e w' ⟨rfl, rfl⟩)
        go_ret
        exact ⟨ret_bool (all_bad (p := fun z => inB z 0 (m - 1)) HZ.out HIN.out).symm, rfl⟩
      · have CI : Calls Try.prog 80 #[.int .i64 z, .int .i64 0, .int .i64 (m - 1)] w fun e w' => e = .returned (.bool true) ∧ w = w' := by rw [← hin]; exact l00In_any _ _ _ _
        have HIN := Lib.hid hin
        clear hin
        go_wp2_with (go_at_call 80; (with_reducible refine (CI).mono ?_); rintro e w' ⟨rfl, rfl⟩)
        go_round
        case rel => exact ⟨k + 1, by omega, by go_num, Lib.hid (all_step HZ.out hall.out HIN.out)⟩
        case measure => simp [intOf]; omega
    · obtain rfl : n = k := by omega
      go_wp2
      go_ret
      exact ⟨ret_bool (all_end (by omega) hall.out).symm, rfl⟩
set_option maxRecDepth 100000 in
set_option maxHeartbeats 4000000 in
theorem l03Is_any {B b : Nat} (x : Wt) (A : Option Addr) (n c : Nat) (w : World) (hb : Blk w b (wtCells x A n c) 26) (hr : RowB .i64 B w A n x.W) :
    Calls Try.prog 105 #[.pointer (some ⟨b, 0, none⟩)] w fun e w' => e = .returned (.bool (wOk x)) ∧ ∃ m, w' = w.drewN m := by
  have hl := hr.len
  have hn := hr.le
  obtain ⟨base, modulus, target, W⟩ := x
  dsimp only at hl hr
  have HOK : Hid (wOk ⟨base, modulus, target, W⟩ = (manyB base n && (inB modulus 2 36 && (inB target 0 (modulus - 1) && W.all fun z => inB z 0 (modulus - 1))))) := Lib.hid (by unfold wOk; dsimp only; rw [hl])
  have c0 := hb.cell 0
  have c1 := hb.cell 1
  have c2 := hb.cell 2
  have c3 := hb.cell 3
  have C1 : ∀ Y, Calls Try.prog 144 #[.int .i64 base, .int .i64 n] Y fun e w' => e = .returned (.bool (manyB base n)) ∧ Y = w' := fun Y => l03Many_any _ _ Y (by unfold maxLen; omega)
  have C2 : ∀ Y, Calls Try.prog 80 #[.int .i64 modulus, .int .i64 2, .int .i64 36] Y fun e w' => e = .returned (.bool (inB modulus 2 36)) ∧ Y = w' := fun Y => l00In_any _ _ _ Y
  have C3 : ∀ Y, Calls Try.prog 80 #[.int .i64 target, .int .i64 0, .int .i64 (modulus - 1)] Y fun e w' => e = .returned (.bool (inB target 0 (modulus - 1))) ∧ Y = w' := fun Y => l00In_any _ _ _ Y
  clear hb hl
  rcases h1 : manyB base n with _ | _
  · rw [h1] at C1 HOK
    clear h1 C2 C3 hr
    go_enter Try.func105, Try.ntmps105
    go_wp2
    go_quiet ((go_at_call 144; first | ((with_reducible refine (C1 _).mono ?_); exact fun _ _ ⟨he, hm⟩ => ⟨he, _, hm.symm⟩)))
    go_wp2
    go_ret
    exact ⟨ret_bool (by rw [HOK.out]; rfl), _, rfl⟩
  · rw [h1] at C1 HOK
    clear h1
    rcases h2 : inB modulus 2 36 with _ | _
    · rw [h2] at C2 HOK
      clear h2 C3 hr
      go_enter Try.func105, Try.ntmps105
      go_wp2
      go_quiet ((first | (go_at_call 144; first | ((with_reducible refine (C1 _).mono ?_); exact fun _ _ ⟨he, hm⟩ => ⟨he, _, hm.symm⟩)) | (go_at_call 80; first | ((with_reducible refine (C2 _).mono ?_); exact fun _ _ ⟨he, hm⟩ => ⟨he, _, hm.symm⟩))))
      go_wp2
      go_ret
      exact ⟨ret_bool (by rw [HOK.out]; rfl), _, rfl⟩
    · have hm := inB_true.1 h2
      have hs1 : IntKind.i64.wrap (modulus - 1) = modulus - 1 := IntWalk.i64_in _ (by omega)
      rw [h2] at C2 HOK
      clear h2
      rcases h3 : inB target 0 (modulus - 1) with _ | _
      · rw [h3] at C3 HOK
        clear h3 hr
        go_enter Try.func105, Try.ntmps105
        go_wp2
        go_quiet ((first | (go_at_call 144; first | ((with_reducible refine (C1 _).mono ?_); exact fun _ _ ⟨he, hm⟩ => ⟨he, _, hm.symm⟩)) | (go_at_call 80; first | ((with_reducible refine (C2 _).mono ?_); exact fun _ _ ⟨he, hm⟩ => ⟨he, _, hm.symm⟩) | ((with_reducible refine (C3 _).mono ?_); exact fun _ _ ⟨he, hm⟩ => ⟨he, _, hm.symm⟩))))
        go_wp2
        go_ret
        exact ⟨ret_bool (by rw [HOK.out]; rfl), _, rfl⟩
      · rw [h3] at C3 HOK
        have C4 : ∀ q, Calls Try.prog 145 #[.slice A n c, .int .i64 modulus] (w.drewN q) fun e w' => e = .returned (.bool (W.all fun z => inB z 0 (modulus - 1))) ∧ w.drewN q = w' := fun q => l01BelowW_any A n c modulus W (w.drewN q) (hr.drewN q) (by omega) (by omega)
        clear h3 hr
        go_enter Try.func105, Try.ntmps105
        go_wp2
        go_quiet ((first | (go_at_call 144; first | ((with_reducible refine (C1 _).mono ?_); exact fun _ _ ⟨he, hm⟩ => ⟨he, _, hm.symm⟩)) | (go_at_call 80; first | ((with_reducible refine (C2 _).mono ?_); exact fun _ _ ⟨he, hm⟩ => ⟨he, _, hm.symm⟩) | ((with_reducible refine (C3 _).mono ?_); exact fun _ _ ⟨he, hm⟩ => ⟨he, _, hm.symm⟩)) | (go_at_call 145; first | ((with_reducible refine (C4 _).mono ?_); exact fun _ _ ⟨he, hm⟩ => ⟨he, _, hm.symm⟩))))
        go_wp2
        go_ret
        exact ⟨ret_bool (by rw [HOK.out]; rfl), _, rfl⟩
set_option maxHeartbeats 400000 in
theorem wlen_any (x : Wt) (A : Option Addr) (n c : Nat) (w : World) (_ : n ≤ 9223372036854775807) :
    Calls Try.prog 68 #[wtV x A n c] w fun e w' => e = .returned (.int .i64 n) ∧ Below w.heap.size w w' := by
  go_enter Try.func68, Try.ntmps68
  go_wp2_with fail
  go_ret
  exact ⟨rfl, (Below.refl _ w).alloc (Nat.le_refl _) _⟩
set_option maxRecDepth 100000 in
set_option maxHeartbeats 4000000 in
theorem validW_any {B : Nat} (x : Wt) (A : Option Addr) (n c : Nat) (w : World) (hr : RowB .i64 B w A n x.W) (hB : B ≤ w.heap.size) :
    Calls Try.prog 66 #[wtV x A n c] w fun e w' => e = .returned (.bool (wOk x)) ∧ Below w.heap.size w w' := by
  have hl := hr.len
  have hn := hr.le
  obtain ⟨base, modulus, target, W⟩ := x
  dsimp only at hl hr
  have HOK : Hid (wOk ⟨base, modulus, target, W⟩ = ((inB base 2 36 && (inB n 1 20 && limOk base n)) && (inB modulus 2 36 && (inB target 0 (modulus - 1) && W.all fun z => inB z 0 (modulus - 1))))) := Lib.hid (by unfold wOk manyB; dsimp only; rw [hl])
  obtain ⟨w1, hw1⟩ : ∃ w1, w1 = w.alloc (.cells #[.int .i64 base, .int .i64 modulus, .int .i64 target, .slice A n c] 26) := ⟨_, rfl⟩
  have bel : Below w.heap.size w w1 := by rw [hw1]; exact (Below.refl _ w).alloc (Nat.le_refl _) _
  have b1 : Blk w1 w.heap.size #[.int .i64 base, .int .i64 modulus, .int .i64 target, .slice A n c] 26 := by rw [hw1]; exact Blk.new _ _ _
  have HR1 := Lib.hid (RowB.below hr (bel.mono hB))
  have c0 : w1.cell? ⟨w.heap.size, 0, none⟩ = some (.int .i64 base) := b1.cell 0
  have c1 : w1.cell? ⟨w.heap.size, 1, none⟩ = some (.int .i64 modulus) := b1.cell 1
  have c2 : w1.cell? ⟨w.heap.size, 2, none⟩ = some (.int .i64 target) := b1.cell 2
  have c3 : w1.cell? ⟨w.heap.size, 3, none⟩ = some (.slice A n c) := b1.cell 3
  have CL : Calls Try.prog 68 #[.agg #[.int .i64 base, .int .i64 modulus, .int .i64 target, .slice A n c]] w1.drew fun e w' => e = .returned (.int .i64 n) ∧ Below w1.drew.heap.size w1.drew w' := wlen_any ⟨base, modulus, target, W⟩ A n c w1.drew hn
  have C1 : ∀ Y, Calls Try.prog 120 #[.int .i64 base, .int .i64 n] Y fun e w' => e = .returned (.bool (inB base 2 36 && (inB n 1 20 && limOk base n))) ∧ Y = w' := fun Y => wordLimit_any _ _ Y (by unfold maxLen; omega)
  have C2 : ∀ Y, Calls Try.prog 72 #[.int .i64 modulus, .int .i64 2, .int .i64 36] Y fun e w' => e = .returned (.bool (inB modulus 2 36)) ∧ Y = w' := fun Y => within_any _ _ _ Y
  have C3 : ∀ Y, Calls Try.prog 72 #[.int .i64 target, .int .i64 0, .int .i64 (modulus - 1)] Y fun e w' => e = .returned (.bool (inB target 0 (modulus - 1))) ∧ Y = w' := fun Y => within_any _ _ _ Y
  have lt1 := b1.lt
  have BEL := Lib.hid bel
  have LT1 := Lib.hid lt1
  clear bel b1 hr hl lt1
  generalize hL : (inB base 2 36 && (inB n 1 20 && limOk base n)) = L at C1 HOK
  clear hL
  rcases L with _ | _
  · clear C2 C3
    go_enter Try.func66, Try.ntmps66
    go_wp2_with fail
    rw [← hw1]
    have HW1 := Lib.hid hw1
    clear hw1
    refine region_held_n 27 (fun w' => w'.cell? ⟨w.heap.size, 0, none⟩ = some (.int .i64 base) ∧ w'.cell? ⟨w.heap.size, 1, none⟩ = some (.int .i64 modulus) ∧ w'.cell? ⟨w.heap.size, 2, none⟩ = some (.int .i64 target) ∧ w'.cell? ⟨w.heap.size, 3, none⟩ = some (.slice A n c)) (by kernel_rfl) (by kernel_rfl) ⟨c0, c1, c2, c3⟩ (fun hS => ?_)
    refine takeD 0 (some 3) (v := ?_) rfl (by kernel_rfl) (by kernel_rfl) (by kernel_rfl) (fun _ _ _ h => h) hS (fun o ho => Or.inl ⟨by cases ho; rfl, ?_⟩) ?_
    rotate_left
    · cases ho
      intro w' hw'
      (try dsimp only at hw')
      go_simp
      (try with_reducible rfl)
    (try simp only [Act.put, List.setIfInBounds_toArray, List.set_cons_zero, List.set_cons_succ])
    refine takeD 1 (some 4) (v := ?_) rfl (by kernel_rfl) (by kernel_rfl) (by kernel_rfl) (fun _ _ _ h => h) hS (fun o ho => Or.inl ⟨by cases ho; rfl, ?_⟩) ?_
    rotate_left
    · cases ho
      intro w' hw'
      (try dsimp only at hw')
      go_simp
      (try with_reducible rfl)
    (try simp only [Act.put, List.setIfInBounds_toArray, List.set_cons_zero, List.set_cons_succ])
    refine takeD 2 (some 5) (v := ?_) rfl (by kernel_rfl) (by kernel_rfl) (by kernel_rfl) (fun _ _ _ h => h) hS (fun o ho => Or.inl ⟨by cases ho; rfl, ?_⟩) ?_
    rotate_left
    · cases ho
      intro w' hw'
      (try dsimp only at hw')
      go_simp
      (try with_reducible rfl)
    (try simp only [Act.put, List.setIfInBounds_toArray, List.set_cons_zero, List.set_cons_succ])
    refine oneD 3 (some 6) (by kernel_rfl) rfl (fun o ho K hK hdo => ?_)
    simp only [List.getElem?_toArray, List.getElem?_cons_succ, List.getElem?_cons_zero, Option.some.injEq] at ho
    subst ho
    clear hdo
    rw [if_pos (by rfl)]
    go_wp2_with ((go_at_call 68; (with_reducible refine (CL).mono ?_); rintro e w2 ⟨rfl, be2⟩))
    have be2 := below_of_drew be2
    have k0 := (be2.cell (p := ⟨w.heap.size, 0, none⟩) LT1.out).trans c0
    have k1 := (be2.cell (p := ⟨w.heap.size, 1, none⟩) LT1.out).trans c1
    have k2 := (be2.cell (p := ⟨w.heap.size, 2, none⟩) LT1.out).trans c2
    have k3 := (be2.cell (p := ⟨w.heap.size, 3, none⟩) LT1.out).trans c3
    have BE2 := Lib.hid be2
    clear be2 CL
    refine hK.out _ _ ?_ (fun hS => ?_)
    · exact ⟨k0, k1, k2, k3⟩
    clear hK K
    (try simp only [Act.put, List.setIfInBounds_toArray, List.set_cons_zero, List.set_cons_succ])
    refine oneD 4 (some 7) (by kernel_rfl) rfl (fun o ho K hK hdo => ?_)
    simp only [List.getElem?_toArray, List.getElem?_cons_succ, List.getElem?_cons_zero, Option.some.injEq] at ho
    subst ho
    clear hdo
    rw [if_pos (by rfl)]
    go_wp2_with ((go_at_call 120; (with_reducible refine (C1 _).mono ?_); rintro e w' ⟨rfl, rfl⟩))
    refine hK.out _ _ ?_ (fun hS => ?_)
    · exact ⟨k0, k1, k2, k3⟩
    clear hK K
    (try simp only [Act.put, List.setIfInBounds_toArray, List.set_cons_zero, List.set_cons_succ])
    refine takeD 5 (some 8) (v := ?_) rfl (by kernel_rfl) (by kernel_rfl) (by kernel_rfl) (fun _ _ _ h => h) hS (fun o ho => Or.inl ⟨by cases ho; rfl, ?_⟩) ?_
    rotate_left
    · cases ho
      intro w' hw'
      (try dsimp only at hw')
      go_simp
      (try with_reducible rfl)
    (try simp only [Act.put, List.setIfInBounds_toArray, List.set_cons_zero, List.set_cons_succ])
    refine takeD 6 (some 9) (v := undef) rfl (by kernel_rfl) (by kernel_rfl) (by kernel_rfl) (fun _ _ _ h => h) hS (fun o ho => Or.inr ⟨by cases ho; rfl, rfl⟩) ?_
    (try simp only [Act.put, List.setIfInBounds_toArray, List.set_cons_zero, List.set_cons_succ])
    refine takeD 7 (some 10) (v := undef) rfl (by kernel_rfl) (by kernel_rfl) (by kernel_rfl) (fun _ _ _ h => h) hS (fun o ho => Or.inr ⟨by cases ho; rfl, rfl⟩) ?_
    (try simp only [Act.put, List.setIfInBounds_toArray, List.set_cons_zero, List.set_cons_succ])
    refine takeD 8 (some 11) (v := undef) rfl (by kernel_rfl) (by kernel_rfl) (by kernel_rfl) (fun _ _ _ h => h) hS (fun o ho => Or.inr ⟨by cases ho; rfl, rfl⟩) ?_
    (try simp only [Act.put, List.setIfInBounds_toArray, List.set_cons_zero, List.set_cons_succ])
    refine takeD 9 (some 12) (v := ?_) rfl (by kernel_rfl) (by kernel_rfl) (by kernel_rfl) (fun _ _ _ h => h) hS (fun o ho => Or.inl ⟨by cases ho; rfl, ?_⟩) ?_
    rotate_left
    · cases ho
      intro w' hw'
      (try dsimp only at hw')
      go_simp
      (try with_reducible rfl)
    (try simp only [Act.put, List.setIfInBounds_toArray, List.set_cons_zero, List.set_cons_succ])
    refine takeD 10 (some 13) (v := ?_) rfl (by kernel_rfl) (by kernel_rfl) (by kernel_rfl) (fun _ _ _ h => h) hS (fun o ho => Or.inl ⟨by cases ho; rfl, ?_⟩) ?_
    rotate_left
    · cases ho
      intro w' hw'
      (try dsimp only at hw')
      go_simp
      (try with_reducible rfl)
    (try simp only [Act.put, List.setIfInBounds_toArray, List.set_cons_zero, List.set_cons_succ])
    refine takeD 11 (some 14) (v := undef) rfl (by kernel_rfl) (by kernel_rfl) (by kernel_rfl) (fun _ _ _ h => h) hS (fun o ho => Or.inr ⟨by cases ho; rfl, rfl⟩) ?_
    (try simp only [Act.put, List.setIfInBounds_toArray, List.set_cons_zero, List.set_cons_succ])
    refine takeD 12 (some 15) (v := undef) rfl (by kernel_rfl) (by kernel_rfl) (by kernel_rfl) (fun _ _ _ h => h) hS (fun o ho => Or.inr ⟨by cases ho; rfl, rfl⟩) ?_
    (try simp only [Act.put, List.setIfInBounds_toArray, List.set_cons_zero, List.set_cons_succ])
    refine takeD 13 (some 16) (v := undef) rfl (by kernel_rfl) (by kernel_rfl) (by kernel_rfl) (fun _ _ _ h => h) hS (fun o ho => Or.inr ⟨by cases ho; rfl, rfl⟩) ?_
    (try simp only [Act.put, List.setIfInBounds_toArray, List.set_cons_zero, List.set_cons_succ])
    refine takeD 14 (some 17) (v := undef) rfl (by kernel_rfl) (by kernel_rfl) (by kernel_rfl) (fun _ _ _ h => h) hS (fun o ho => Or.inr ⟨by cases ho; rfl, rfl⟩) ?_
    (try simp only [Act.put, List.setIfInBounds_toArray, List.set_cons_zero, List.set_cons_succ])
    refine takeD 15 (some 18) (v := undef) rfl (by kernel_rfl) (by kernel_rfl) (by kernel_rfl) (fun _ _ _ h => h) hS (fun o ho => Or.inr ⟨by cases ho; rfl, rfl⟩) ?_
    (try simp only [Act.put, List.setIfInBounds_toArray, List.set_cons_zero, List.set_cons_succ])
    refine takeD 16 (some 19) (v := undef) rfl (by kernel_rfl) (by kernel_rfl) (by kernel_rfl) (fun _ _ _ h => h) hS (fun o ho => Or.inr ⟨by cases ho; rfl, rfl⟩) ?_
    (try simp only [Act.put, List.setIfInBounds_toArray, List.set_cons_zero, List.set_cons_succ])
    refine takeD 17 (some 20) (v := ?_) rfl (by kernel_rfl) (by kernel_rfl) (by kernel_rfl) (fun _ _ _ h => h) hS (fun o ho => Or.inl ⟨by cases ho; rfl, ?_⟩) ?_
    rotate_left
    · cases ho
      intro w' hw'
      (try dsimp only at hw')
      go_simp
      (try with_reducible rfl)
    (try simp only [Act.put, List.setIfInBounds_toArray, List.set_cons_zero, List.set_cons_succ])
    refine takeD 18 (some 21) (v := ?_) rfl (by kernel_rfl) (by kernel_rfl) (by kernel_rfl) (fun _ _ _ h => h) hS (fun o ho => Or.inl ⟨by cases ho; rfl, ?_⟩) ?_
    rotate_left
    · cases ho
      intro w' hw'
      (try dsimp only at hw')
      go_simp
      (try with_reducible rfl)
    (try simp only [Act.put, List.setIfInBounds_toArray, List.set_cons_zero, List.set_cons_succ])
    refine takeD 19 (some 22) (v := undef) rfl (by kernel_rfl) (by kernel_rfl) (by kernel_rfl) (fun _ _ _ h => h) hS (fun o ho => Or.inr ⟨by cases ho; rfl, rfl⟩) ?_
    (try simp only [Act.put, List.setIfInBounds_toArray, List.set_cons_zero, List.set_cons_succ])
    refine takeD 20 (some 23) (v := undef) rfl (by kernel_rfl) (by kernel_rfl) (by kernel_rfl) (fun _ _ _ h => h) hS (fun o ho => Or.inr ⟨by cases ho; rfl, rfl⟩) ?_
    (try simp only [Act.put, List.setIfInBounds_toArray, List.set_cons_zero, List.set_cons_succ])
    refine takeD 21 (some 24) (v := undef) rfl (by kernel_rfl) (by kernel_rfl) (by kernel_rfl) (fun _ _ _ h => h) hS (fun o ho => Or.inr ⟨by cases ho; rfl, rfl⟩) ?_
    (try simp only [Act.put, List.setIfInBounds_toArray, List.set_cons_zero, List.set_cons_succ])
    refine takeD 22 (some 25) (v := undef) rfl (by kernel_rfl) (by kernel_rfl) (by kernel_rfl) (fun _ _ _ h => h) hS (fun o ho => Or.inr ⟨by cases ho; rfl, rfl⟩) ?_
    (try simp only [Act.put, List.setIfInBounds_toArray, List.set_cons_zero, List.set_cons_succ])
    refine takeD 23 (some 26) (v := undef) rfl (by kernel_rfl) (by kernel_rfl) (by kernel_rfl) (fun _ _ _ h => h) hS (fun o ho => Or.inr ⟨by cases ho; rfl, rfl⟩) ?_
    (try simp only [Act.put, List.setIfInBounds_toArray, List.set_cons_zero, List.set_cons_succ])
    refine takeD 24 (some 27) (v := undef) rfl (by kernel_rfl) (by kernel_rfl) (by kernel_rfl) (fun _ _ _ h => h) hS (fun o ho => Or.inr ⟨by cases ho; rfl, rfl⟩) ?_
    (try simp only [Act.put, List.setIfInBounds_toArray, List.set_cons_zero, List.set_cons_succ])
    refine takeD 25 (some 28) (v := ?_) rfl (by kernel_rfl) (by kernel_rfl) (by kernel_rfl) (fun _ _ _ h => h) hS (fun o ho => Or.inl ⟨by cases ho; rfl, ?_⟩) ?_
    rotate_left
    · cases ho
      intro w' hw'
      (try dsimp only at hw')
      go_simp
      (try with_reducible rfl)
    (try simp only [Act.put, List.setIfInBounds_toArray, List.set_cons_zero, List.set_cons_succ])
    refine takeD 26 (some 2) (v := ?_) rfl (by kernel_rfl) (by kernel_rfl) (by kernel_rfl) (fun _ _ _ h => h) hS (fun o ho => Or.inl ⟨by cases ho; rfl, ?_⟩) ?_
    rotate_left
    · cases ho
      intro w' hw'
      (try dsimp only at hw')
      go_simp
      (try with_reducible rfl)
    (try simp only [Act.put, List.setIfInBounds_toArray, List.set_cons_zero, List.set_cons_succ])
    refine wpAnyH_done (by kernel_rfl) ?_ _
    clear hS
    go_wp2_with fail
    go_ret
    exact ⟨ret_bool (by rw [HOK.out]; rfl), BEL.out.trans (BE2.out.mono (Nat.le_of_lt LT1.out))⟩
  · rcases h2 : inB modulus 2 36 with _ | _
    · rw [h2] at C2 HOK
      clear h2 C3
      go_enter Try.func66, Try.ntmps66
      go_wp2_with fail
      rw [← hw1]
      have HW1 := Lib.hid hw1
      clear hw1
      refine region_held_n 27 (fun w' => w'.cell? ⟨w.heap.size, 0, none⟩ = some (.int .i64 base) ∧ w'.cell? ⟨w.heap.size, 1, none⟩ = some (.int .i64 modulus) ∧ w'.cell? ⟨w.heap.size, 2, none⟩ = some (.int .i64 target) ∧ w'.cell? ⟨w.heap.size, 3, none⟩ = some (.slice A n c)) (by kernel_rfl) (by kernel_rfl) ⟨c0, c1, c2, c3⟩ (fun hS => ?_)
      refine takeD 0 (some 3) (v := ?_) rfl (by kernel_rfl) (by kernel_rfl) (by kernel_rfl) (fun _ _ _ h => h) hS (fun o ho => Or.inl ⟨by cases ho; rfl, ?_⟩) ?_
      rotate_left
      · cases ho
        intro w' hw'
        (try dsimp only at hw')
        go_simp
        (try with_reducible rfl)
      (try simp only [Act.put, List.setIfInBounds_toArray, List.set_cons_zero, List.set_cons_succ])
      refine takeD 1 (some 4) (v := ?_) rfl (by kernel_rfl) (by kernel_rfl) (by kernel_rfl) (fun _ _ _ h => h) hS (fun o ho => Or.inl ⟨by cases ho; rfl, ?_⟩) ?_
      rotate_left
      · cases ho
        intro w' hw'
        (try dsimp only at hw')
        go_simp
        (try with_reducible rfl)
      (try simp only [Act.put, List.setIfInBounds_toArray, List.set_cons_zero, List.set_cons_succ])
      refine takeD 2 (some 5) (v := ?_) rfl (by kernel_rfl) (by kernel_rfl) (by kernel_rfl) (fun _ _ _ h => h) hS (fun o ho => Or.inl ⟨by cases ho; rfl, ?_⟩) ?_
      rotate_left
      · cases ho
        intro w' hw'
        (try dsimp only at hw')
        go_simp
        (try with_reducible rfl)
      (try simp only [Act.put, List.setIfInBounds_toArray, List.set_cons_zero, List.set_cons_succ])
      refine oneD 3 (some 6) (by kernel_rfl) rfl (fun o ho K hK hdo => ?_)
      simp only [List.getElem?_toArray, List.getElem?_cons_succ, List.getElem?_cons_zero, Option.some.injEq] at ho
      subst ho
      clear hdo
      rw [if_pos (by rfl)]
      go_wp2_with ((go_at_call 68; (with_reducible refine (CL).mono ?_); rintro e w2 ⟨rfl, be2⟩))
      have be2 := below_of_drew be2
      have k0 := (be2.cell (p := ⟨w.heap.size, 0, none⟩) LT1.out).trans c0
      have k1 := (be2.cell (p := ⟨w.heap.size, 1, none⟩) LT1.out).trans c1
      have k2 := (be2.cell (p := ⟨w.heap.size, 2, none⟩) LT1.out).trans c2
      have k3 := (be2.cell (p := ⟨w.heap.size, 3, none⟩) LT1.out).trans c3
      have BE2 := Lib.hid be2
      clear be2 CL
      refine hK.out _ _ ?_ (fun hS => ?_)
      · exact ⟨k0, k1, k2, k3⟩
      clear hK K
      (try simp only [Act.put, List.setIfInBounds_toArray, List.set_cons_zero, List.set_cons_succ])
      refine oneD 4 (some 7) (by kernel_rfl) rfl (fun o ho K hK hdo => ?_)
      simp only [List.getElem?_toArray, List.getElem?_cons_succ, List.getElem?_cons_zero, Option.some.injEq] at ho
      subst ho
      clear hdo
      rw [if_pos (by rfl)]
      go_wp2_with ((go_at_call 120; (with_reducible refine (C1 _).mono ?_); rintro e w' ⟨rfl, rfl⟩))
      refine hK.out _ _ ?_ (fun hS => ?_)
      · exact ⟨k0, k1, k2, k3⟩
      clear hK K
      (try simp only [Act.put, List.setIfInBounds_toArray, List.set_cons_zero, List.set_cons_succ])
      refine takeD 5 (some 8) (v := ?_) rfl (by kernel_rfl) (by kernel_rfl) (by kernel_rfl) (fun _ _ _ h => h) hS (fun o ho => Or.inl ⟨by cases ho; rfl, ?_⟩) ?_
      rotate_left
      · cases ho
        intro w' hw'
        (try dsimp only at hw')
        go_simp
        (try with_reducible rfl)
      (try simp only [Act.put, List.setIfInBounds_toArray, List.set_cons_zero, List.set_cons_succ])
      refine takeD 6 (some 9) (v := ?_) rfl (by kernel_rfl) (by kernel_rfl) (by kernel_rfl) (fun _ _ _ h => h) hS (fun o ho => Or.inl ⟨by cases ho; rfl, ?_⟩) ?_
      rotate_left
      · cases ho
        intro w' hw'
        (try dsimp only at hw')
        go_simp
        (try with_reducible rfl)
      (try simp only [Act.put, List.setIfInBounds_toArray, List.set_cons_zero, List.set_cons_succ])
      refine takeD 7 (some 10) (v := ?_) rfl (by kernel_rfl) (by kernel_rfl) (by kernel_rfl) (fun _ _ _ h => h) hS (fun o ho => Or.inl ⟨by cases ho; rfl, ?_⟩) ?_
      rotate_left
      · cases ho
        intro w' hw'
        (try dsimp only at hw')
        go_simp
        (try with_reducible rfl)
      (try simp only [Act.put, List.setIfInBounds_toArray, List.set_cons_zero, List.set_cons_succ])
      refine oneD 8 (some 11) (by kernel_rfl) rfl (fun o ho K hK hdo => ?_)
      simp only [List.getElem?_toArray, List.getElem?_cons_succ, List.getElem?_cons_zero, Option.some.injEq] at ho
      subst ho
      clear hdo
      rw [if_pos (by rfl)]
      go_wp2_with ((go_at_call 72; (with_reducible refine (C2 _).mono ?_); rintro e w' ⟨rfl, rfl⟩))
      refine hK.out _ _ ?_ (fun hS => ?_)
      · exact ⟨k0, k1, k2, k3⟩
      clear hK K
      (try simp only [Act.put, List.setIfInBounds_toArray, List.set_cons_zero, List.set_cons_succ])
      refine takeD 9 (some 12) (v := ?_) rfl (by kernel_rfl) (by kernel_rfl) (by kernel_rfl) (fun _ _ _ h => h) hS (fun o ho => Or.inl ⟨by cases ho; rfl, ?_⟩) ?_
      rotate_left
      · cases ho
        intro w' hw'
        (try dsimp only at hw')
        go_simp
        (try with_reducible rfl)
      (try simp only [Act.put, List.setIfInBounds_toArray, List.set_cons_zero, List.set_cons_succ])
      refine takeD 10 (some 13) (v := ?_) rfl (by kernel_rfl) (by kernel_rfl) (by kernel_rfl) (fun _ _ _ h => h) hS (fun o ho => Or.inl ⟨by cases ho; rfl, ?_⟩) ?_
      rotate_left
      · cases ho
        intro w' hw'
        (try dsimp only at hw')
        go_simp
        (try with_reducible rfl)
      (try simp only [Act.put, List.setIfInBounds_toArray, List.set_cons_zero, List.set_cons_succ])
      refine takeD 11 (some 14) (v := undef) rfl (by kernel_rfl) (by kernel_rfl) (by kernel_rfl) (fun _ _ _ h => h) hS (fun o ho => Or.inr ⟨by cases ho; rfl, rfl⟩) ?_
      (try simp only [Act.put, List.setIfInBounds_toArray, List.set_cons_zero, List.set_cons_succ])
      refine takeD 12 (some 15) (v := undef) rfl (by kernel_rfl) (by kernel_rfl) (by kernel_rfl) (fun _ _ _ h => h) hS (fun o ho => Or.inr ⟨by cases ho; rfl, rfl⟩) ?_
      (try simp only [Act.put, List.setIfInBounds_toArray, List.set_cons_zero, List.set_cons_succ])
      refine takeD 13 (some 16) (v := undef) rfl (by kernel_rfl) (by kernel_rfl) (by kernel_rfl) (fun _ _ _ h => h) hS (fun o ho => Or.inr ⟨by cases ho; rfl, rfl⟩) ?_
      (try simp only [Act.put, List.setIfInBounds_toArray, List.set_cons_zero, List.set_cons_succ])
      refine takeD 14 (some 17) (v := undef) rfl (by kernel_rfl) (by kernel_rfl) (by kernel_rfl) (fun _ _ _ h => h) hS (fun o ho => Or.inr ⟨by cases ho; rfl, rfl⟩) ?_
      (try simp only [Act.put, List.setIfInBounds_toArray, List.set_cons_zero, List.set_cons_succ])
      refine takeD 15 (some 18) (v := undef) rfl (by kernel_rfl) (by kernel_rfl) (by kernel_rfl) (fun _ _ _ h => h) hS (fun o ho => Or.inr ⟨by cases ho; rfl, rfl⟩) ?_
      (try simp only [Act.put, List.setIfInBounds_toArray, List.set_cons_zero, List.set_cons_succ])
      refine takeD 16 (some 19) (v := undef) rfl (by kernel_rfl) (by kernel_rfl) (by kernel_rfl) (fun _ _ _ h => h) hS (fun o ho => Or.inr ⟨by cases ho; rfl, rfl⟩) ?_
      (try simp only [Act.put, List.setIfInBounds_toArray, List.set_cons_zero, List.set_cons_succ])
      refine takeD 17 (some 20) (v := ?_) rfl (by kernel_rfl) (by kernel_rfl) (by kernel_rfl) (fun _ _ _ h => h) hS (fun o ho => Or.inl ⟨by cases ho; rfl, ?_⟩) ?_
      rotate_left
      · cases ho
        intro w' hw'
        (try dsimp only at hw')
        go_simp
        (try with_reducible rfl)
      (try simp only [Act.put, List.setIfInBounds_toArray, List.set_cons_zero, List.set_cons_succ])
      refine takeD 18 (some 21) (v := ?_) rfl (by kernel_rfl) (by kernel_rfl) (by kernel_rfl) (fun _ _ _ h => h) hS (fun o ho => Or.inl ⟨by cases ho; rfl, ?_⟩) ?_
      rotate_left
      · cases ho
        intro w' hw'
        (try dsimp only at hw')
        go_simp
        (try with_reducible rfl)
      (try simp only [Act.put, List.setIfInBounds_toArray, List.set_cons_zero, List.set_cons_succ])
      refine takeD 19 (some 22) (v := undef) rfl (by kernel_rfl) (by kernel_rfl) (by kernel_rfl) (fun _ _ _ h => h) hS (fun o ho => Or.inr ⟨by cases ho; rfl, rfl⟩) ?_
      (try simp only [Act.put, List.setIfInBounds_toArray, List.set_cons_zero, List.set_cons_succ])
      refine takeD 20 (some 23) (v := undef) rfl (by kernel_rfl) (by kernel_rfl) (by kernel_rfl) (fun _ _ _ h => h) hS (fun o ho => Or.inr ⟨by cases ho; rfl, rfl⟩) ?_
      (try simp only [Act.put, List.setIfInBounds_toArray, List.set_cons_zero, List.set_cons_succ])
      refine takeD 21 (some 24) (v := undef) rfl (by kernel_rfl) (by kernel_rfl) (by kernel_rfl) (fun _ _ _ h => h) hS (fun o ho => Or.inr ⟨by cases ho; rfl, rfl⟩) ?_
      (try simp only [Act.put, List.setIfInBounds_toArray, List.set_cons_zero, List.set_cons_succ])
      refine takeD 22 (some 25) (v := undef) rfl (by kernel_rfl) (by kernel_rfl) (by kernel_rfl) (fun _ _ _ h => h) hS (fun o ho => Or.inr ⟨by cases ho; rfl, rfl⟩) ?_
      (try simp only [Act.put, List.setIfInBounds_toArray, List.set_cons_zero, List.set_cons_succ])
      refine takeD 23 (some 26) (v := undef) rfl (by kernel_rfl) (by kernel_rfl) (by kernel_rfl) (fun _ _ _ h => h) hS (fun o ho => Or.inr ⟨by cases ho; rfl, rfl⟩) ?_
      (try simp only [Act.put, List.setIfInBounds_toArray, List.set_cons_zero, List.set_cons_succ])
      refine takeD 24 (some 27) (v := undef) rfl (by kernel_rfl) (by kernel_rfl) (by kernel_rfl) (fun _ _ _ h => h) hS (fun o ho => Or.inr ⟨by cases ho; rfl, rfl⟩) ?_
      (try simp only [Act.put, List.setIfInBounds_toArray, List.set_cons_zero, List.set_cons_succ])
      refine takeD 25 (some 28) (v := ?_) rfl (by kernel_rfl) (by kernel_rfl) (by kernel_rfl) (fun _ _ _ h => h) hS (fun o ho => Or.inl ⟨by cases ho; rfl, ?_⟩) ?_
      rotate_left
      · cases ho
        intro w' hw'
        (try dsimp only at hw')
        go_simp
        (try with_reducible rfl)
      (try simp only [Act.put, List.setIfInBounds_toArray, List.set_cons_zero, List.set_cons_succ])
      refine takeD 26 (some 2) (v := ?_) rfl (by kernel_rfl) (by kernel_rfl) (by kernel_rfl) (fun _ _ _ h => h) hS (fun o ho => Or.inl ⟨by cases ho; rfl, ?_⟩) ?_
      rotate_left
      · cases ho
        intro w' hw'
        (try dsimp only at hw')
        go_simp
        (try with_reducible rfl)
      (try simp only [Act.put, List.setIfInBounds_toArray, List.set_cons_zero, List.set_cons_succ])
      refine wpAnyH_done (by kernel_rfl) ?_ _
      clear hS
      go_wp2_with fail
      go_ret
      exact ⟨ret_bool (by rw [HOK.out]; rfl), BEL.out.trans (BE2.out.mono (Nat.le_of_lt LT1.out))⟩
    · have hm := inB_true.1 h2
      rw [h2] at C2 HOK
      clear h2
      rcases h3 : inB target 0 (modulus - 1) with _ | _
      · rw [h3] at C3 HOK
        clear h3
        go_enter Try.func66, Try.ntmps66
        go_wp2_with fail
        rw [← hw1]
        have HW1 := Lib.hid hw1
        clear hw1
        refine region_held_n 27 (fun w' => w'.cell? ⟨w.heap.size, 0, none⟩ = some (.int .i64 base) ∧ w'.cell? ⟨w.heap.size, 1, none⟩ = some (.int .i64 modulus) ∧ w'.cell? ⟨w.heap.size, 2, none⟩ = some (.int .i64 target) ∧ w'.cell? ⟨w.heap.size, 3, none⟩ = some (.slice A n c)) (by kernel_rfl) (by kernel_rfl) ⟨c0, c1, c2, c3⟩ (fun hS => ?_)
        refine takeD 0 (some 3) (v := ?_) rfl (by kernel_rfl) (by kernel_rfl) (by kernel_rfl) (fun _ _ _ h => h) hS (fun o ho => Or.inl ⟨by cases ho; rfl, ?_⟩) ?_
        rotate_left
        · cases ho
          intro w' hw'
          (try dsimp only at hw')
          go_simp
          (try with_reducible rfl)
        (try simp only [Act.put, List.setIfInBounds_toArray, List.set_cons_zero, List.set_cons_succ])
        refine takeD 1 (some 4) (v := ?_) rfl (by kernel_rfl) (by kernel_rfl) (by kernel_rfl) (fun _ _ _ h => h) hS (fun o ho => Or.inl ⟨by cases ho; rfl, ?_⟩) ?_
        rotate_left
        · cases ho
          intro w' hw'
          (try dsimp only at hw')
          go_simp
          (try with_reducible rfl)
        (try simp only [Act.put, List.setIfInBounds_toArray, List.set_cons_zero, List.set_cons_succ])
        refine takeD 2 (some 5) (v := ?_) rfl (by kernel_rfl) (by kernel_rfl) (by kernel_rfl) (fun _ _ _ h => h) hS (fun o ho => Or.inl ⟨by cases ho; rfl, ?_⟩) ?_
        rotate_left
        · cases ho
          intro w' hw'
          (try dsimp only at hw')
          go_simp
          (try with_reducible rfl)
        (try simp only [Act.put, List.setIfInBounds_toArray, List.set_cons_zero, List.set_cons_succ])
        refine oneD 3 (some 6) (by kernel_rfl) rfl (fun o ho K hK hdo => ?_)
        simp only [List.getElem?_toArray, List.getElem?_cons_succ, List.getElem?_cons_zero, Option.some.injEq] at ho
        subst ho
        clear hdo
        rw [if_pos (by rfl)]
        go_wp2_with ((go_at_call 68; (with_reducible refine (CL).mono ?_); rintro e w2 ⟨rfl, be2⟩))
        have be2 := below_of_drew be2
        have k0 := (be2.cell (p := ⟨w.heap.size, 0, none⟩) LT1.out).trans c0
        have k1 := (be2.cell (p := ⟨w.heap.size, 1, none⟩) LT1.out).trans c1
        have k2 := (be2.cell (p := ⟨w.heap.size, 2, none⟩) LT1.out).trans c2
        have k3 := (be2.cell (p := ⟨w.heap.size, 3, none⟩) LT1.out).trans c3
        have BE2 := Lib.hid be2
        clear be2 CL
        refine hK.out _ _ ?_ (fun hS => ?_)
        · exact ⟨k0, k1, k2, k3⟩
        clear hK K
        (try simp only [Act.put, List.setIfInBounds_toArray, List.set_cons_zero, List.set_cons_succ])
        refine oneD 4 (some 7) (by kernel_rfl) rfl (fun o ho K hK hdo => ?_)
        simp only [List.getElem?_toArray, List.getElem?_cons_succ, List.getElem?_cons_zero, Option.some.injEq] at ho
        subst ho
        clear hdo
        rw [if_pos (by rfl)]
        go_wp2_with ((go_at_call 120; (with_reducible refine (C1 _).mono ?_); rintro e w' ⟨rfl, rfl⟩))
        refine hK.out _ _ ?_ (fun hS => ?_)
        · exact ⟨k0, k1, k2, k3⟩
        clear hK K
        (try simp only [Act.put, List.setIfInBounds_toArray, List.set_cons_zero, List.set_cons_succ])
        refine takeD 5 (some 8) (v := ?_) rfl (by kernel_rfl) (by kernel_rfl) (by kernel_rfl) (fun _ _ _ h => h) hS (fun o ho => Or.inl ⟨by cases ho; rfl, ?_⟩) ?_
        rotate_left
        · cases ho
          intro w' hw'
          (try dsimp only at hw')
          go_simp
          (try with_reducible rfl)
        (try simp only [Act.put, List.setIfInBounds_toArray, List.set_cons_zero, List.set_cons_succ])
        refine takeD 6 (some 9) (v := ?_) rfl (by kernel_rfl) (by kernel_rfl) (by kernel_rfl) (fun _ _ _ h => h) hS (fun o ho => Or.inl ⟨by cases ho; rfl, ?_⟩) ?_
        rotate_left
        · cases ho
          intro w' hw'
          (try dsimp only at hw')
          go_simp
          (try with_reducible rfl)
        (try simp only [Act.put, List.setIfInBounds_toArray, List.set_cons_zero, List.set_cons_succ])
        refine takeD 7 (some 10) (v := ?_) rfl (by kernel_rfl) (by kernel_rfl) (by kernel_rfl) (fun _ _ _ h => h) hS (fun o ho => Or.inl ⟨by cases ho; rfl, ?_⟩) ?_
        rotate_left
        · cases ho
          intro w' hw'
          (try dsimp only at hw')
          go_simp
          (try with_reducible rfl)
        (try simp only [Act.put, List.setIfInBounds_toArray, List.set_cons_zero, List.set_cons_succ])
        refine oneD 8 (some 11) (by kernel_rfl) rfl (fun o ho K hK hdo => ?_)
        simp only [List.getElem?_toArray, List.getElem?_cons_succ, List.getElem?_cons_zero, Option.some.injEq] at ho
        subst ho
        clear hdo
        rw [if_pos (by rfl)]
        go_wp2_with ((go_at_call 72; (with_reducible refine (C2 _).mono ?_); rintro e w' ⟨rfl, rfl⟩))
        refine hK.out _ _ ?_ (fun hS => ?_)
        · exact ⟨k0, k1, k2, k3⟩
        clear hK K
        (try simp only [Act.put, List.setIfInBounds_toArray, List.set_cons_zero, List.set_cons_succ])
        refine takeD 9 (some 12) (v := ?_) rfl (by kernel_rfl) (by kernel_rfl) (by kernel_rfl) (fun _ _ _ h => h) hS (fun o ho => Or.inl ⟨by cases ho; rfl, ?_⟩) ?_
        rotate_left
        · cases ho
          intro w' hw'
          (try dsimp only at hw')
          go_simp
          (try with_reducible rfl)
        (try simp only [Act.put, List.setIfInBounds_toArray, List.set_cons_zero, List.set_cons_succ])
        refine takeD 10 (some 13) (v := ?_) rfl (by kernel_rfl) (by kernel_rfl) (by kernel_rfl) (fun _ _ _ h => h) hS (fun o ho => Or.inl ⟨by cases ho; rfl, ?_⟩) ?_
        rotate_left
        · cases ho
          intro w' hw'
          (try dsimp only at hw')
          go_simp
          (try with_reducible rfl)
        (try simp only [Act.put, List.setIfInBounds_toArray, List.set_cons_zero, List.set_cons_succ])
        refine takeD 11 (some 14) (v := ?_) rfl (by kernel_rfl) (by kernel_rfl) (by kernel_rfl) (fun _ _ _ h => h) hS (fun o ho => Or.inl ⟨by cases ho; rfl, ?_⟩) ?_
        rotate_left
        · cases ho
          intro w' hw'
          (try dsimp only at hw')
          go_simp
          (try with_reducible rfl)
        (try simp only [Act.put, List.setIfInBounds_toArray, List.set_cons_zero, List.set_cons_succ])
        refine takeD 12 (some 15) (v := ?_) rfl (by kernel_rfl) (by kernel_rfl) (by kernel_rfl) (fun _ _ _ h => h) hS (fun o ho => Or.inl ⟨by cases ho; rfl, ?_⟩) ?_
        rotate_left
        · cases ho
          intro w' hw'
          (try dsimp only at hw')
          go_simp
          (try with_reducible rfl)
        (try simp only [Act.put, List.setIfInBounds_toArray, List.set_cons_zero, List.set_cons_succ])
        refine takeD 13 (some 16) (v := ?_) rfl (by kernel_rfl) (by kernel_rfl) (by kernel_rfl) (fun _ _ _ h => h) hS (fun o ho => Or.inl ⟨by cases ho; rfl, ?_⟩) ?_
        rotate_left
        · cases ho
          intro w' hw'
          (try dsimp only at hw')
          go_simp
          (try with_reducible rfl)
        (try simp only [Act.put, List.setIfInBounds_toArray, List.set_cons_zero, List.set_cons_succ])
        refine takeD 14 (some 17) (v := ?_) rfl (by kernel_rfl) (by kernel_rfl) (by kernel_rfl) (fun _ _ _ h => h) hS (fun o ho => Or.inl ⟨by cases ho; rfl, ?_⟩) ?_
        rotate_left
        · cases ho
          intro w' hw'
          (try dsimp only at hw')
          go_simp
          (try with_reducible rfl)
        (try simp only [Act.put, List.setIfInBounds_toArray, List.set_cons_zero, List.set_cons_succ])
        refine takeD 15 (some 18) (v := ?_) rfl (by kernel_rfl) (by kernel_rfl) (by kernel_rfl) (fun _ _ _ h => h) hS (fun o ho => Or.inl ⟨by cases ho; rfl, ?_⟩) ?_
        rotate_left
        · cases ho
          intro w' hw'
          (try dsimp only at hw')
          go_simp
          (try with_reducible rfl)
        (try simp only [Act.put, List.setIfInBounds_toArray, List.set_cons_zero, List.set_cons_succ])
        refine oneD 16 (some 19) (by kernel_rfl) rfl (fun o ho K hK hdo => ?_)
        simp only [List.getElem?_toArray, List.getElem?_cons_succ, List.getElem?_cons_zero, Option.some.injEq] at ho
        subst ho
        clear hdo
        rw [if_pos (by rfl)]
        go_wp2_with ((go_at_call 72; (with_reducible refine (C3 _).mono ?_); rintro e w' ⟨rfl, rfl⟩))
        refine hK.out _ _ ?_ (fun hS => ?_)
        · exact ⟨k0, k1, k2, k3⟩
        clear hK K
        (try simp only [Act.put, List.setIfInBounds_toArray, List.set_cons_zero, List.set_cons_succ])
        refine takeD 17 (some 20) (v := ?_) rfl (by kernel_rfl) (by kernel_rfl) (by kernel_rfl) (fun _ _ _ h => h) hS (fun o ho => Or.inl ⟨by cases ho; rfl, ?_⟩) ?_
        rotate_left
        · cases ho
          intro w' hw'
          (try dsimp only at hw')
          go_simp
          (try with_reducible rfl)
        (try simp only [Act.put, List.setIfInBounds_toArray, List.set_cons_zero, List.set_cons_succ])
        refine takeD 18 (some 21) (v := ?_) rfl (by kernel_rfl) (by kernel_rfl) (by kernel_rfl) (fun _ _ _ h => h) hS (fun o ho => Or.inl ⟨by cases ho; rfl, ?_⟩) ?_
        rotate_left
        · cases ho
          intro w' hw'
          (try dsimp only at hw')
          go_simp
          (try with_reducible rfl)
        (try simp only [Act.put, List.setIfInBounds_toArray, List.set_cons_zero, List.set_cons_succ])
        refine takeD 19 (some 22) (v := undef) rfl (by kernel_rfl) (by kernel_rfl) (by kernel_rfl) (fun _ _ _ h => h) hS (fun o ho => Or.inr ⟨by cases ho; rfl, rfl⟩) ?_
        (try simp only [Act.put, List.setIfInBounds_toArray, List.set_cons_zero, List.set_cons_succ])
        refine takeD 20 (some 23) (v := undef) rfl (by kernel_rfl) (by kernel_rfl) (by kernel_rfl) (fun _ _ _ h => h) hS (fun o ho => Or.inr ⟨by cases ho; rfl, rfl⟩) ?_
        (try simp only [Act.put, List.setIfInBounds_toArray, List.set_cons_zero, List.set_cons_succ])
        refine takeD 21 (some 24) (v := undef) rfl (by kernel_rfl) (by kernel_rfl) (by kernel_rfl) (fun _ _ _ h => h) hS (fun o ho => Or.inr ⟨by cases ho; rfl, rfl⟩) ?_
        (try simp only [Act.put, List.setIfInBounds_toArray, List.set_cons_zero, List.set_cons_succ])
        refine takeD 22 (some 25) (v := undef) rfl (by kernel_rfl) (by kernel_rfl) (by kernel_rfl) (fun _ _ _ h => h) hS (fun o ho => Or.inr ⟨by cases ho; rfl, rfl⟩) ?_
        (try simp only [Act.put, List.setIfInBounds_toArray, List.set_cons_zero, List.set_cons_succ])
        refine takeD 23 (some 26) (v := undef) rfl (by kernel_rfl) (by kernel_rfl) (by kernel_rfl) (fun _ _ _ h => h) hS (fun o ho => Or.inr ⟨by cases ho; rfl, rfl⟩) ?_
        (try simp only [Act.put, List.setIfInBounds_toArray, List.set_cons_zero, List.set_cons_succ])
        refine takeD 24 (some 27) (v := undef) rfl (by kernel_rfl) (by kernel_rfl) (by kernel_rfl) (fun _ _ _ h => h) hS (fun o ho => Or.inr ⟨by cases ho; rfl, rfl⟩) ?_
        (try simp only [Act.put, List.setIfInBounds_toArray, List.set_cons_zero, List.set_cons_succ])
        refine takeD 25 (some 28) (v := ?_) rfl (by kernel_rfl) (by kernel_rfl) (by kernel_rfl) (fun _ _ _ h => h) hS (fun o ho => Or.inl ⟨by cases ho; rfl, ?_⟩) ?_
        rotate_left
        · cases ho
          intro w' hw'
          (try dsimp only at hw')
          go_simp
          (try with_reducible rfl)
        (try simp only [Act.put, List.setIfInBounds_toArray, List.set_cons_zero, List.set_cons_succ])
        refine takeD 26 (some 2) (v := ?_) rfl (by kernel_rfl) (by kernel_rfl) (by kernel_rfl) (fun _ _ _ h => h) hS (fun o ho => Or.inl ⟨by cases ho; rfl, ?_⟩) ?_
        rotate_left
        · cases ho
          intro w' hw'
          (try dsimp only at hw')
          go_simp
          (try with_reducible rfl)
        (try simp only [Act.put, List.setIfInBounds_toArray, List.set_cons_zero, List.set_cons_succ])
        refine wpAnyH_done (by kernel_rfl) ?_ _
        clear hS
        go_wp2_with fail
        go_ret
        exact ⟨ret_bool (by rw [HOK.out]; rfl), BEL.out.trans (BE2.out.mono (Nat.le_of_lt LT1.out))⟩
      · rw [h3] at C3 HOK
        clear h3
        go_enter Try.func66, Try.ntmps66
        go_wp2_with fail
        rw [← hw1]
        have HW1 := Lib.hid hw1
        clear hw1
        refine region_held_n 27 (fun w' => w'.cell? ⟨w.heap.size, 0, none⟩ = some (.int .i64 base) ∧ w'.cell? ⟨w.heap.size, 1, none⟩ = some (.int .i64 modulus) ∧ w'.cell? ⟨w.heap.size, 2, none⟩ = some (.int .i64 target) ∧ w'.cell? ⟨w.heap.size, 3, none⟩ = some (.slice A n c)) (by kernel_rfl) (by kernel_rfl) ⟨c0, c1, c2, c3⟩ (fun hS => ?_)
        refine takeD 0 (some 3) (v := ?_) rfl (by kernel_rfl) (by kernel_rfl) (by kernel_rfl) (fun _ _ _ h => h) hS (fun o ho => Or.inl ⟨by cases ho; rfl, ?_⟩) ?_
        rotate_left
        · cases ho
          intro w' hw'
          (try dsimp only at hw')
          go_simp
          (try with_reducible rfl)
        (try simp only [Act.put, List.setIfInBounds_toArray, List.set_cons_zero, List.set_cons_succ])
        refine takeD 1 (some 4) (v := ?_) rfl (by kernel_rfl) (by kernel_rfl) (by kernel_rfl) (fun _ _ _ h => h) hS (fun o ho => Or.inl ⟨by cases ho; rfl, ?_⟩) ?_
        rotate_left
        · cases ho
          intro w' hw'
          (try dsimp only at hw')
          go_simp
          (try with_reducible rfl)
        (try simp only [Act.put, List.setIfInBounds_toArray, List.set_cons_zero, List.set_cons_succ])
        refine takeD 2 (some 5) (v := ?_) rfl (by kernel_rfl) (by kernel_rfl) (by kernel_rfl) (fun _ _ _ h => h) hS (fun o ho => Or.inl ⟨by cases ho; rfl, ?_⟩) ?_
        rotate_left
        · cases ho
          intro w' hw'
          (try dsimp only at hw')
          go_simp
          (try with_reducible rfl)
        (try simp only [Act.put, List.setIfInBounds_toArray, List.set_cons_zero, List.set_cons_succ])
        refine oneD 3 (some 6) (by kernel_rfl) rfl (fun o ho K hK hdo => ?_)
        simp only [List.getElem?_toArray, List.getElem?_cons_succ, List.getElem?_cons_zero, Option.some.injEq] at ho
        subst ho
        clear hdo
        rw [if_pos (by rfl)]
        go_wp2_with ((go_at_call 68; (with_reducible refine (CL).mono ?_); rintro e w2 ⟨rfl, be2⟩))
        have be2 := below_of_drew be2
        have k0 := (be2.cell (p := ⟨w.heap.size, 0, none⟩) LT1.out).trans c0
        have k1 := (be2.cell (p := ⟨w.heap.size, 1, none⟩) LT1.out).trans c1
        have k2 := (be2.cell (p := ⟨w.heap.size, 2, none⟩) LT1.out).trans c2
        have k3 := (be2.cell (p := ⟨w.heap.size, 3, none⟩) LT1.out).trans c3
        have C4 : Calls Try.prog 76 #[.slice A n c, .int .i64 0, .int .i64 (modulus - 1)] w2 fun e w' => e = .returned (.bool (W.all fun z => inB z 0 (modulus - 1))) ∧ w2 = w' := allWithin_any A n c 0 (modulus - 1) W w2 (HR1.out.below (Below.mono be2 (Nat.le_trans hB BEL.out.size)))
        have BE2 := Lib.hid be2
        clear be2 CL
        refine hK.out _ _ ?_ (fun hS => ?_)
        · exact ⟨k0, k1, k2, k3⟩
        clear hK K
        (try simp only [Act.put, List.setIfInBounds_toArray, List.set_cons_zero, List.set_cons_succ])
        refine oneD 4 (some 7) (by kernel_rfl) rfl (fun o ho K hK hdo => ?_)
        simp only [List.getElem?_toArray, List.getElem?_cons_succ, List.getElem?_cons_zero, Option.some.injEq] at ho
        subst ho
        clear hdo
        rw [if_pos (by rfl)]
        go_wp2_with ((go_at_call 120; (with_reducible refine (C1 _).mono ?_); rintro e w' ⟨rfl, rfl⟩))
        refine hK.out _ _ ?_ (fun hS => ?_)
        · exact ⟨k0, k1, k2, k3⟩
        clear hK K
        (try simp only [Act.put, List.setIfInBounds_toArray, List.set_cons_zero, List.set_cons_succ])
        refine takeD 5 (some 8) (v := ?_) rfl (by kernel_rfl) (by kernel_rfl) (by kernel_rfl) (fun _ _ _ h => h) hS (fun o ho => Or.inl ⟨by cases ho; rfl, ?_⟩) ?_
        rotate_left
        · cases ho
          intro w' hw'
          (try dsimp only at hw')
          go_simp
          (try with_reducible rfl)
        (try simp only [Act.put, List.setIfInBounds_toArray, List.set_cons_zero, List.set_cons_succ])
        refine takeD 6 (some 9) (v := ?_) rfl (by kernel_rfl) (by kernel_rfl) (by kernel_rfl) (fun _ _ _ h => h) hS (fun o ho => Or.inl ⟨by cases ho; rfl, ?_⟩) ?_
        rotate_left
        · cases ho
          intro w' hw'
          (try dsimp only at hw')
          go_simp
          (try with_reducible rfl)
        (try simp only [Act.put, List.setIfInBounds_toArray, List.set_cons_zero, List.set_cons_succ])
        refine takeD 7 (some 10) (v := ?_) rfl (by kernel_rfl) (by kernel_rfl) (by kernel_rfl) (fun _ _ _ h => h) hS (fun o ho => Or.inl ⟨by cases ho; rfl, ?_⟩) ?_
        rotate_left
        · cases ho
          intro w' hw'
          (try dsimp only at hw')
          go_simp
          (try with_reducible rfl)
        (try simp only [Act.put, List.setIfInBounds_toArray, List.set_cons_zero, List.set_cons_succ])
        refine oneD 8 (some 11) (by kernel_rfl) rfl (fun o ho K hK hdo => ?_)
        simp only [List.getElem?_toArray, List.getElem?_cons_succ, List.getElem?_cons_zero, Option.some.injEq] at ho
        subst ho
        clear hdo
        rw [if_pos (by rfl)]
        go_wp2_with ((go_at_call 72; (with_reducible refine (C2 _).mono ?_); rintro e w' ⟨rfl, rfl⟩))
        refine hK.out _ _ ?_ (fun hS => ?_)
        · exact ⟨k0, k1, k2, k3⟩
        clear hK K
        (try simp only [Act.put, List.setIfInBounds_toArray, List.set_cons_zero, List.set_cons_succ])
        refine takeD 9 (some 12) (v := ?_) rfl (by kernel_rfl) (by kernel_rfl) (by kernel_rfl) (fun _ _ _ h => h) hS (fun o ho => Or.inl ⟨by cases ho; rfl, ?_⟩) ?_
        rotate_left
        · cases ho
          intro w' hw'
          (try dsimp only at hw')
          go_simp
          (try with_reducible rfl)
        (try simp only [Act.put, List.setIfInBounds_toArray, List.set_cons_zero, List.set_cons_succ])
        refine takeD 10 (some 13) (v := ?_) rfl (by kernel_rfl) (by kernel_rfl) (by kernel_rfl) (fun _ _ _ h => h) hS (fun o ho => Or.inl ⟨by cases ho; rfl, ?_⟩) ?_
        rotate_left
        · cases ho
          intro w' hw'
          (try dsimp only at hw')
          go_simp
          (try with_reducible rfl)
        (try simp only [Act.put, List.setIfInBounds_toArray, List.set_cons_zero, List.set_cons_succ])
        refine takeD 11 (some 14) (v := ?_) rfl (by kernel_rfl) (by kernel_rfl) (by kernel_rfl) (fun _ _ _ h => h) hS (fun o ho => Or.inl ⟨by cases ho; rfl, ?_⟩) ?_
        rotate_left
        · cases ho
          intro w' hw'
          (try dsimp only at hw')
          go_simp
          (try with_reducible rfl)
        (try simp only [Act.put, List.setIfInBounds_toArray, List.set_cons_zero, List.set_cons_succ])
        refine takeD 12 (some 15) (v := ?_) rfl (by kernel_rfl) (by kernel_rfl) (by kernel_rfl) (fun _ _ _ h => h) hS (fun o ho => Or.inl ⟨by cases ho; rfl, ?_⟩) ?_
        rotate_left
        · cases ho
          intro w' hw'
          (try dsimp only at hw')
          go_simp
          (try with_reducible rfl)
        (try simp only [Act.put, List.setIfInBounds_toArray, List.set_cons_zero, List.set_cons_succ])
        refine takeD 13 (some 16) (v := ?_) rfl (by kernel_rfl) (by kernel_rfl) (by kernel_rfl) (fun _ _ _ h => h) hS (fun o ho => Or.inl ⟨by cases ho; rfl, ?_⟩) ?_
        rotate_left
        · cases ho
          intro w' hw'
          (try dsimp only at hw')
          go_simp
          (try with_reducible rfl)
        (try simp only [Act.put, List.setIfInBounds_toArray, List.set_cons_zero, List.set_cons_succ])
        refine takeD 14 (some 17) (v := ?_) rfl (by kernel_rfl) (by kernel_rfl) (by kernel_rfl) (fun _ _ _ h => h) hS (fun o ho => Or.inl ⟨by cases ho; rfl, ?_⟩) ?_
        rotate_left
        · cases ho
          intro w' hw'
          (try dsimp only at hw')
          go_simp
          (try with_reducible rfl)
        (try simp only [Act.put, List.setIfInBounds_toArray, List.set_cons_zero, List.set_cons_succ])
        refine takeD 15 (some 18) (v := ?_) rfl (by kernel_rfl) (by kernel_rfl) (by kernel_rfl) (fun _ _ _ h => h) hS (fun o ho => Or.inl ⟨by cases ho; rfl, ?_⟩) ?_
        rotate_left
        · cases ho
          intro w' hw'
          (try dsimp only at hw')
          go_simp
          (try with_reducible rfl)
        (try simp only [Act.put, List.setIfInBounds_toArray, List.set_cons_zero, List.set_cons_succ])
        refine oneD 16 (some 19) (by kernel_rfl) rfl (fun o ho K hK hdo => ?_)
        simp only [List.getElem?_toArray, List.getElem?_cons_succ, List.getElem?_cons_zero, Option.some.injEq] at ho
        subst ho
        clear hdo
        rw [if_pos (by rfl)]
        go_wp2_with ((go_at_call 72; (with_reducible refine (C3 _).mono ?_); rintro e w' ⟨rfl, rfl⟩))
        refine hK.out _ _ ?_ (fun hS => ?_)
        · exact ⟨k0, k1, k2, k3⟩
        clear hK K
        (try simp only [Act.put, List.setIfInBounds_toArray, List.set_cons_zero, List.set_cons_succ])
        refine takeD 17 (some 20) (v := ?_) rfl (by kernel_rfl) (by kernel_rfl) (by kernel_rfl) (fun _ _ _ h => h) hS (fun o ho => Or.inl ⟨by cases ho; rfl, ?_⟩) ?_
        rotate_left
        · cases ho
          intro w' hw'
          (try dsimp only at hw')
          go_simp
          (try with_reducible rfl)
        (try simp only [Act.put, List.setIfInBounds_toArray, List.set_cons_zero, List.set_cons_succ])
        refine takeD 18 (some 21) (v := ?_) rfl (by kernel_rfl) (by kernel_rfl) (by kernel_rfl) (fun _ _ _ h => h) hS (fun o ho => Or.inl ⟨by cases ho; rfl, ?_⟩) ?_
        rotate_left
        · cases ho
          intro w' hw'
          (try dsimp only at hw')
          go_simp
          (try with_reducible rfl)
        (try simp only [Act.put, List.setIfInBounds_toArray, List.set_cons_zero, List.set_cons_succ])
        refine takeD 19 (some 22) (v := ?_) rfl (by kernel_rfl) (by kernel_rfl) (by kernel_rfl) (fun _ _ _ h => h) hS (fun o ho => Or.inl ⟨by cases ho; rfl, ?_⟩) ?_
        rotate_left
        · cases ho
          intro w' hw'
          (try dsimp only at hw')
          go_simp
          (try with_reducible rfl)
        (try simp only [Act.put, List.setIfInBounds_toArray, List.set_cons_zero, List.set_cons_succ])
        refine takeD 20 (some 23) (v := ?_) rfl (by kernel_rfl) (by kernel_rfl) (by kernel_rfl) (fun _ _ _ h => h) hS (fun o ho => Or.inl ⟨by cases ho; rfl, ?_⟩) ?_
        rotate_left
        · cases ho
          intro w' hw'
          (try dsimp only at hw')
          go_simp
          (try with_reducible rfl)
        (try simp only [Act.put, List.setIfInBounds_toArray, List.set_cons_zero, List.set_cons_succ])
        refine takeD 21 (some 24) (v := ?_) rfl (by kernel_rfl) (by kernel_rfl) (by kernel_rfl) (fun _ _ _ h => h) hS (fun o ho => Or.inl ⟨by cases ho; rfl, ?_⟩) ?_
        rotate_left
        · cases ho
          intro w' hw'
          (try dsimp only at hw')
          go_simp
          (try with_reducible rfl)
        (try simp only [Act.put, List.setIfInBounds_toArray, List.set_cons_zero, List.set_cons_succ])
        refine takeD 22 (some 25) (v := ?_) rfl (by kernel_rfl) (by kernel_rfl) (by kernel_rfl) (fun _ _ _ h => h) hS (fun o ho => Or.inl ⟨by cases ho; rfl, ?_⟩) ?_
        rotate_left
        · cases ho
          intro w' hw'
          (try dsimp only at hw')
          go_simp
          (try with_reducible rfl)
        (try simp only [Act.put, List.setIfInBounds_toArray, List.set_cons_zero, List.set_cons_succ])
        refine takeD 23 (some 26) (v := ?_) rfl (by kernel_rfl) (by kernel_rfl) (by kernel_rfl) (fun _ _ _ h => h) hS (fun o ho => Or.inl ⟨by cases ho; rfl, ?_⟩) ?_
        rotate_left
        · cases ho
          intro w' hw'
          (try dsimp only at hw')
          go_simp
          (try with_reducible rfl)
        (try simp only [Act.put, List.setIfInBounds_toArray, List.set_cons_zero, List.set_cons_succ])
        refine oneD 24 (some 27) (by kernel_rfl) rfl (fun o ho K hK hdo => ?_)
        simp only [List.getElem?_toArray, List.getElem?_cons_succ, List.getElem?_cons_zero, Option.some.injEq] at ho
        subst ho
        clear hdo
        rw [if_pos (by rfl)]
        go_wp2_with ((go_at_call 76; (with_reducible refine C4.mono ?_); rintro e w' ⟨rfl, rfl⟩))
        refine hK.out _ _ ?_ (fun hS => ?_)
        · exact ⟨k0, k1, k2, k3⟩
        clear hK K
        (try simp only [Act.put, List.setIfInBounds_toArray, List.set_cons_zero, List.set_cons_succ])
        refine takeD 25 (some 28) (v := ?_) rfl (by kernel_rfl) (by kernel_rfl) (by kernel_rfl) (fun _ _ _ h => h) hS (fun o ho => Or.inl ⟨by cases ho; rfl, ?_⟩) ?_
        rotate_left
        · cases ho
          intro w' hw'
          (try dsimp only at hw')
          go_simp
          (try with_reducible rfl)
        (try simp only [Act.put, List.setIfInBounds_toArray, List.set_cons_zero, List.set_cons_succ])
        refine takeD 26 (some 2) (v := ?_) rfl (by kernel_rfl) (by kernel_rfl) (by kernel_rfl) (fun _ _ _ h => h) hS (fun o ho => Or.inl ⟨by cases ho; rfl, ?_⟩) ?_
        rotate_left
        · cases ho
          intro w' hw'
          (try dsimp only at hw')
          go_simp
          (try with_reducible rfl)
        (try simp only [Act.put, List.setIfInBounds_toArray, List.set_cons_zero, List.set_cons_succ])
        refine wpAnyH_done (by kernel_rfl) ?_ _
        clear hS
        go_wp2_with fail
        go_ret
        exact ⟨ret_bool (by rw [HOK.out]; rfl), BEL.out.trans (BE2.out.mono (Nat.le_of_lt LT1.out))⟩
end Go.Proofs.Ytiokcflomchdcaa
