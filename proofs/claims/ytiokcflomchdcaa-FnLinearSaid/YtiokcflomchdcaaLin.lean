/-
  Linear tables, made by the model and by the program.
-/
import Derived.Test.YtiokcflomchdcaaStepT
import Derived.Test.YtiokcflomchdcaaGot
import Derived.Test.YtiokcflomchdcaaQS
import Derived.Test.YtiokcflomchdcaaQI
import Derived.Test.YtiokcflomchdcaaWLim
import Derived.RegionTactic
namespace Go.Proofs.Ytiokcflomchdcaa
open Go.RowKit

def linF (n a b c x y : Nat) : Nat := (a * x + b * y + c) % n
/-- The linear table, if there is one. -/
def linO (n a b c : Int) : Option (List (List Int)) :=
  if inB n 1 36 && (inB a 0 (n - 1) && (inB b 0 (n - 1) && inB c 0 (n - 1))) then
    (if isQ (gridOf n.toNat n.toNat (linF n.toNat a.toNat b.toNat c.toNat)) then some (gridOf n.toNat n.toNat (linF n.toNat a.toNat b.toNat c.toNat)) else none)
  else none
theorem linO_sum (n a b c : Int) : (((linO n a b c).getD []).map List.length).sum ≤ 1000000 := by
  unfold linO
  split
  · next h =>
    simp only [Bool.and_eq_true] at h
    have := inB_true.1 h.1
    split
    · exact Nat.le_trans (grid_sum _ _ (by omega)) (by decide)
    · simp
  · simp
theorem linF_lt {n a b c x y : Nat} (hn : 1 ≤ n) : linF n a b c x y < n := Nat.mod_lt _ (by omega)
theorem lin_mul {a x n : Nat} (ha : a < n) (hx : x < n) (hn : n ≤ 36) : a * x ≤ 1296 := Nat.le_trans (Nat.mul_le_mul (by omega : a ≤ 36) (by omega : x ≤ 36)) (by decide)


set_option maxHeartbeats 1000000 in
theorem linClo_any {g1 g2 g3 g4 : Nat} (n a b c x y : Nat) (w : World) (h1 : w.cell? ⟨g1, 0, none⟩ = some (.int .i64 (a : Int))) (h2 : w.cell? ⟨g2, 0, none⟩ = some (.int .i64 (b : Int))) (h3 : w.cell? ⟨g3, 0, none⟩ = some (.int .i64 (c : Int))) (h4 : w.cell? ⟨g4, 0, none⟩ = some (.int .i64 (n : Int)))
    (hn : n ≤ 36) (ha : a < n) (hb : b < n) (hc : c < n) (hx : x < n) (hy : y < n) :
    Calls Try.prog 77 #[.int .i64 x, .int .i64 y, .pointer (some ⟨g1, 0, none⟩), .pointer (some ⟨g2, 0, none⟩), .pointer (some ⟨g3, 0, none⟩), .pointer (some ⟨g4, 0, none⟩)] w fun e w' => e = .returned (.int .i64 ((linF n a b c x y : Nat) : Int)) ∧ ∃ m, w' = w.drewN m := by
  obtain ⟨p, hp⟩ : ∃ p, p = a * x := ⟨_, rfl⟩
  obtain ⟨q, hq⟩ : ∃ q, q = b * y := ⟨_, rfl⟩
  have hpI : (a : Int) * (x : Int) = (p : Int) := by rw [hp]; simp
  have hqI : (b : Int) * (y : Int) = (q : Int) := by rw [hq]; simp
  have hpb : p ≤ 1296 := by rw [hp]; exact lin_mul (n := n) (by omega) hx (by omega)
  have hqb : q ≤ 1296 := by rw [hq]; exact lin_mul (n := n) (by omega) hy (by omega)
  obtain ⟨v, hv⟩ : ∃ v, v = linF n a b c x y := ⟨_, rfl⟩
  have hrI : ((p : Int) + (q : Int) + (c : Int)).tmod (n : Int) = (v : Int) := by
    rw [hv, hp, hq]
    unfold linF
    rw [Int.tmod_eq_emod_of_nonneg (by omega)]
    simp
  rw [← hv]
  have hn0 : ¬ (n : Int) = 0 := by omega
  clear hp hq hv
  go_enter Try.func77, Try.ntmps77
  go_wp2
  go_ret
  exact ⟨rfl, 0, rfl⟩

set_option maxRecDepth 100000 in
set_option maxHeartbeats 4000000 in
theorem implLin_any (n a b c : Int) (w : World) (hwa : (Lit.int .i64 a).wf = true) (hwb : (Lit.int .i64 b).wf = true) (hwc : (Lit.int .i64 c).wf = true) :
    Calls Try.prog 28 #[.int .i64 n, .int .i64 a, .int .i64 b, .int .i64 c] w (GotT (linO n a b c) w) := by
  have HO : Hid (linO n a b c = if inB n 1 36 && (inB a 0 (n - 1) && (inB b 0 (n - 1) && inB c 0 (n - 1))) then (if isQ (gridOf n.toNat n.toNat (linF n.toNat a.toNat b.toNat c.toNat)) then some (gridOf n.toNat n.toNat (linF n.toNat a.toNat b.toNat c.toNat)) else none) else none) := Lib.hid rfl
  generalize linO n a b c = o at HO ⊢
  obtain ⟨w4, hw4⟩ : ∃ w4, w4 = (((w.alloc (.cells #[.int .i64 n] 2)).alloc (.cells #[.int .i64 a] 2)).alloc (.cells #[.int .i64 b] 2)).alloc (.cells #[.int .i64 c] 2) := ⟨_, rfl⟩
  have bel4 : Below w.heap.size w w4 := by rw [hw4]; exact ((((Below.refl _ w).alloc (Nat.le_refl _) _).alloc (by simp) _).alloc (by simp; omega) _).alloc (by simp; omega) _
  have s4 : w4.heap.size = w.heap.size + 1 + 1 + 1 + 1 := by rw [hw4]; simp
  have k1 : Blk w4 w.heap.size #[.int .i64 n] 2 := by rw [hw4]; exact (((Blk.new _ _ _).alloc _).alloc _).alloc _
  have k2 : Blk w4 (w.heap.size + 1) #[.int .i64 a] 2 := by
    rw [hw4]
    have := (((Blk.new (w.alloc (.cells #[.int .i64 n] 2)) #[.int .i64 a] 2).alloc (.cells #[.int .i64 b] 2)).alloc (.cells #[.int .i64 c] 2))
    simpa using this
  have k3 : Blk w4 (w.heap.size + 1 + 1) #[.int .i64 b] 2 := by
    rw [hw4]
    have := ((Blk.new ((w.alloc (.cells #[.int .i64 n] 2)).alloc (.cells #[.int .i64 a] 2)) #[.int .i64 b] 2).alloc (.cells #[.int .i64 c] 2))
    simpa using this
  have k4 : Blk w4 (w.heap.size + 1 + 1 + 1) #[.int .i64 c] 2 := by
    rw [hw4]
    have := (Blk.new (((w.alloc (.cells #[.int .i64 n] 2)).alloc (.cells #[.int .i64 a] 2)).alloc (.cells #[.int .i64 b] 2)) #[.int .i64 c] 2)
    simpa using this
  have d1 := k1.cell 0
  have d2 := k2.cell 0
  have d3 := k3.cell 0
  have d4 := k4.cell 0
  have BEL := Lib.hid bel4
  have S4 := Lib.hid s4
  have HK := Lib.hid (And.intro k1 (And.intro k2 (And.intro k3 k4)))
  clear bel4 k1 k2 k3 k4
  have C1 : ∀ W, Calls Try.prog 72 #[.int .i64 n, .int .i64 1, .int .i64 36] W fun e w' => e = .returned (.bool (inB n 1 36)) ∧ W = w' := fun W => within_any _ _ _ W
  rcases h1 : inB n 1 36 with _ | _
  · rw [h1] at C1 HO
    clear h1
    obtain rfl : o = none := HO.out
    go_enter Try.func28, Try.ntmps28
    go_wp2_with fail
    rw [← hw4]
    have HW4 := Lib.hid hw4
    clear hw4
    go_wp2_with (go_at_call 72; (with_reducible refine (C1 _).mono ?_); rintro e w' ⟨rfl, rfl⟩)
    go_ret2
    exact gotT_none BEL.out
  · have hn := inB_true.1 h1
    rw [h1] at C1 HO
    clear h1
    obtain ⟨w5, hw5⟩ : ∃ w5, w5 = w4.alloc (.cells #[.int .i64 a, .int .i64 b, .int .i64 c] 2) := ⟨_, rfl⟩
    have k5 : Blk w5 w4.heap.size #[.int .i64 a, .int .i64 b, .int .i64 c] 2 := by rw [hw5]; exact Blk.new _ _ _
    have bel5 : Below w4.heap.size w4 w5 := by rw [hw5]; exact (Below.refl _ _).alloc (Nat.le_refl _) _
    have r5 : RowB .i64 w5.heap.size w5 (some ⟨w.heap.size + 1 + 1 + 1 + 1, 0, none⟩) 3 [a, b, c] := by
      rw [← s4]
      refine ⟨rfl, by unfold maxLen; omega, fun z hz => ?_, fun _ => ⟨_, _, rfl, k5.lt, fun j hj => ?_⟩⟩
      · simp only [List.mem_cons, List.not_mem_nil, or_false] at hz
        rcases hz with rfl | rfl | rfl
        · exact hwa
        · exact hwb
        · exact hwc
      · match j, hj with
        | 0, _ => exact k5.cell 0
        | 1, _ => exact k5.cell 1
        | 2, _ => exact k5.cell 2
    have CA := allWithin_any _ 3 3 0 (n - 1) [a, b, c] w5 r5
    have hall : ([a, b, c].all fun z => inB z 0 (n - 1)) = (inB a 0 (n - 1) && (inB b 0 (n - 1) && inB c 0 (n - 1))) := by simp
    rw [hall] at CA
    have BEL5 : Hid (Below w.heap.size w w5) := Lib.hid (BEL.out.trans (bel5.mono BEL.out.size))
    have e1 := (bel5.cell (p := ⟨w.heap.size, 0, none⟩) (show w.heap.size < w4.heap.size by omega)).trans d1
    have e2 := (bel5.cell (p := ⟨w.heap.size + 1, 0, none⟩) (show w.heap.size + 1 < w4.heap.size by omega)).trans d2
    have e3 := (bel5.cell (p := ⟨w.heap.size + 1 + 1, 0, none⟩) (show w.heap.size + 1 + 1 < w4.heap.size by omega)).trans d3
    have e4 := (bel5.cell (p := ⟨w.heap.size + 1 + 1 + 1, 0, none⟩) (show w.heap.size + 1 + 1 + 1 < w4.heap.size by omega)).trans d4
    have s5 : w.heap.size + 1 + 1 + 1 + 1 < w5.heap.size := by have := k5.lt; omega
    clear k5 bel5 r5 hall hwa hwb hwc
    rcases hal : (inB a 0 (n - 1) && (inB b 0 (n - 1) && inB c 0 (n - 1))) with _ | _
    · rw [hal] at CA HO
      clear hal
      obtain rfl : o = none := HO.out
      go_enter Try.func28, Try.ntmps28
      go_wp2_with fail
      rw [← hw4]
      have HW4 := Lib.hid hw4
      clear hw4
      go_wp2_with (go_at_call 72; (with_reducible refine (C1 _).mono ?_); rintro e w' ⟨rfl, rfl⟩)
      rw [← hw5]
      have HW5 := Lib.hid hw5
      clear hw5
      go_wp2_with (go_at_call 76; (with_reducible refine (CA).mono ?_); rintro e w' ⟨rfl, rfl⟩)
      go_ret2
      exact gotT_none BEL5.out
    · rw [hal] at CA HO
      simp only [Bool.and_eq_true] at hal
      have ha := inB_true.1 hal.1
      have hb := inB_true.1 hal.2.1
      have hc := inB_true.1 hal.2.2
      clear hal
      obtain ⟨n, rfl⟩ := Int.eq_ofNat_of_zero_le (show 0 ≤ n by omega)
      obtain ⟨a, rfl⟩ := Int.eq_ofNat_of_zero_le ha.1
      obtain ⟨b, rfl⟩ := Int.eq_ofNat_of_zero_le hb.1
      obtain ⟨c, rfl⟩ := Int.eq_ofNat_of_zero_le hc.1
      have HO2 : Hid (o = if isQ (gridOf n n (linF n a b c)) then some (gridOf n n (linF n a b c)) else none) := Lib.hid HO.out
      clear HO
      have CT := tabLinear_any n (linF n a b c) (.pointer (some ⟨w.heap.size + 1, 0, none⟩)) (.pointer (some ⟨w.heap.size + 1 + 1, 0, none⟩)) (.pointer (some ⟨w.heap.size + 1 + 1 + 1, 0, none⟩)) (.pointer (some ⟨w.heap.size, 0, none⟩)) w5 (by omega) (fun x y _ _ => by have := linF_lt (n := n) (a := a) (b := b) (c := c) (x := x) (y := y) (by omega); omega)
        (fun W hW x y hx hy => linClo_any n a b c x y W ((hW.cell (p := ⟨w.heap.size + 1, 0, none⟩) (show w.heap.size + 1 < w5.heap.size by omega)).trans e2) ((hW.cell (p := ⟨w.heap.size + 1 + 1, 0, none⟩) (show w.heap.size + 1 + 1 < w5.heap.size by omega)).trans e3) ((hW.cell (p := ⟨w.heap.size + 1 + 1 + 1, 0, none⟩) (show w.heap.size + 1 + 1 + 1 < w5.heap.size by omega)).trans e4) ((hW.cell (p := ⟨w.heap.size, 0, none⟩) (show w.heap.size < w5.heap.size by omega)).trans e1) (by omega) (by omega) (by omega) (by omega) hx hy)
      go_enter Try.func28, Try.ntmps28
      go_wp2_with fail
      rw [← hw4]
      have HW4 := Lib.hid hw4
      clear hw4
      go_wp2_with (go_at_call 72; (with_reducible refine (C1 _).mono ?_); rintro e w' ⟨rfl, rfl⟩)
      rw [← hw5]
      have HW5 := Lib.hid hw5
      clear hw5
      go_wp2_with (go_at_call 76; (with_reducible refine (CA).mono ?_); rintro e w' ⟨rfl, rfl⟩)
      (go_at_call 78; (with_reducible refine (CT).mono ?_); rintro e w6 ⟨A, cc, L, rfl, hown, hbel⟩)
      have B6 : Hid (Below w.heap.size w w6) := Lib.hid (BEL5.out.trans (hbel.mono BEL5.out.size))
      have CQ := implIsQ_any A n cc (gridOf n n (linF n a b c)) w6 hown.row (Nat.le_refl _)
      have HOWN := Lib.hid (hown.lower BEL5.out.size)
      clear hown hbel
      rcases hq : isQ (gridOf n n (linF n a b c)) with _ | _
      · rw [hq] at CQ HO2
        obtain rfl : o = none := HO2.out
        clear hq
        go_wp2_with (go_at_call 54; (with_reducible refine (CQ).mono ?_); rintro e w' ⟨rfl, hb5⟩)
        go_ret2
        exact gotT_none (B6.out.trans (hb5.mono B6.out.size))
      · rw [hq] at CQ HO2
        obtain rfl : o = some (gridOf n n (linF n a b c)) := HO2.out
        clear hq
        go_wp2_with (go_at_call 54; (with_reducible refine (CQ).mono ?_); rintro e w' ⟨rfl, hb5⟩)
        go_ret2
        exact ⟨A, cc, L, by simp [grid_len], by simpa [grid_len] using HOWN.out.below hb5, B6.out.trans (hb5.mono B6.out.size)⟩
end Go.Proofs.Ytiokcflomchdcaa
