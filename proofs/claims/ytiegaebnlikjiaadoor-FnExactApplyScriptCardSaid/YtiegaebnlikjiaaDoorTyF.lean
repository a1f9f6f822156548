/-
  Whether a script of two words can begin with a move.
-/
import Derived.Test.YtiegaebnlikjiaaDoorMv
import Derived.BigRegion
namespace Go.Proofs.YtiegaebnlikjiaaDoor
open Go.RowKit

set_option maxRecDepth 100000 in
set_option maxHeartbeats 2000000 in
theorem fits0_any (u v : ByteArray) (w : World) (hu : u.size ≤ 20) (hv : v.size ≤ 20) :
    Calls Tryd.prog 28 #[.agg #[.int .i32 61, .int .i64 0, .int .i64 1, .int .i64 1], .string u, .string v] w fun e w' => e = .returned (.bool (fitM u v 0 0 0)) ∧ Below w.heap.size w w' := by
  have BEL : Hid (Below w.heap.size w (w.alloc (.cells #[.int .i32 61, .int .i64 0, .int .i64 1, .int .i64 1] 51))) := Lib.hid ((Below.refl _ w).alloc (Nat.le_refl _) _)
  by_cases hu0 : u.size = 0
  · have k1 : (u.size : Int) < 1 := by omega
    have HF : Hid (fitM u v 0 0 0 = false) := Lib.hid (by
      rcases h : fitM u v 0 0 0 with _ | _
      · rfl
      · have := fit_in (a := u) (b := v) (i := 0) (j := 0) (by omega) (by omega) h
        simp only [mvA, mvB] at this
        omega)
    go_enter Tryd.func28, Tryd.ntmps28
    go_wp2_with fail
    go_ret
    exact ⟨ret_bool HF.out.symm, BEL.out⟩
  · have k1 : ¬ (u.size : Int) < 1 := by omega
    by_cases hv0 : v.size = 0
    · have k2 : (v.size : Int) < 1 := by omega
      have HF : Hid (fitM u v 0 0 0 = false) := Lib.hid (by
        rcases h : fitM u v 0 0 0 with _ | _
        · rfl
        · have := fit_in (a := u) (b := v) (i := 0) (j := 0) (by omega) (by omega) h
          simp only [mvA, mvB] at this
          omega)
      go_enter Tryd.func28, Tryd.ntmps28
      go_wp2_with fail
      go_ret
      exact ⟨ret_bool HF.out.symm, BEL.out⟩
    · have k2 : ¬ (v.size : Int) < 1 := by omega
      have u0 : 0 < u.size := by omega
      have v0 : 0 < v.size := by omega
      by_cases hc : u[0].toNat = v[0].toNat
      · have bb : ((u[0].toNat : Int) == (v[0].toNat : Int)) = true := by rw [hc]; simp
        have HF : Hid (fitM u v 0 0 0 = true) := Lib.hid (by rw [fit0 u0 v0, UInt8.toNat_inj.1 hc]; simp)
        go_enter Tryd.func28, Tryd.ntmps28
        go_wp2_with fail
        go_quiet (fail)
        go_wp2_with fail
        go_ret
        exact ⟨ret_bool HF.out.symm, below_drewN BEL.out _⟩
      · have bb : ((u[0].toNat : Int) == (v[0].toNat : Int)) = false := by simp; omega
        have hc2 : ¬ u[0] = v[0] := fun e => hc (by rw [e])
        have HF : Hid (fitM u v 0 0 0 = false) := Lib.hid (by rw [fit0 u0 v0]; simp [hc2])
        go_enter Tryd.func28, Tryd.ntmps28
        go_wp2_with fail
        go_quiet (fail)
        go_wp2_with fail
        go_ret
        exact ⟨ret_bool HF.out.symm, below_drewN BEL.out _⟩

set_option maxRecDepth 100000 in
set_option maxHeartbeats 2000000 in
theorem fits3_any (u v : ByteArray) (w : World) (hu : u.size ≤ 20) (hv : v.size ≤ 20) :
    Calls Tryd.prog 28 #[.agg #[.int .i32 83, .int .i64 1, .int .i64 1, .int .i64 1], .string u, .string v] w fun e w' => e = .returned (.bool (fitM u v 0 0 3)) ∧ Below w.heap.size w w' := by
  have BEL : Hid (Below w.heap.size w (w.alloc (.cells #[.int .i32 83, .int .i64 1, .int .i64 1, .int .i64 1] 51))) := Lib.hid ((Below.refl _ w).alloc (Nat.le_refl _) _)
  by_cases hu0 : u.size = 0
  · have k1 : (u.size : Int) < 1 := by omega
    have HF : Hid (fitM u v 0 0 3 = false) := Lib.hid (by
      rcases h : fitM u v 0 0 3 with _ | _
      · rfl
      · have := fit_in (a := u) (b := v) (i := 0) (j := 0) (by omega) (by omega) h
        simp only [mvA, mvB] at this
        omega)
    go_enter Tryd.func28, Tryd.ntmps28
    go_wp2_with fail
    go_ret
    exact ⟨ret_bool HF.out.symm, BEL.out⟩
  · have k1 : ¬ (u.size : Int) < 1 := by omega
    by_cases hv0 : v.size = 0
    · have k2 : (v.size : Int) < 1 := by omega
      have HF : Hid (fitM u v 0 0 3 = false) := Lib.hid (by
        rcases h : fitM u v 0 0 3 with _ | _
        · rfl
        · have := fit_in (a := u) (b := v) (i := 0) (j := 0) (by omega) (by omega) h
          simp only [mvA, mvB] at this
          omega)
      go_enter Tryd.func28, Tryd.ntmps28
      go_wp2_with fail
      go_ret
      exact ⟨ret_bool HF.out.symm, BEL.out⟩
    · have k2 : ¬ (v.size : Int) < 1 := by omega
      have u0 : 0 < u.size := by omega
      have v0 : 0 < v.size := by omega
      by_cases hc : u[0].toNat = v[0].toNat
      · have bb : ((u[0].toNat : Int) != (v[0].toNat : Int)) = false := by rw [hc]; simp
        have HF : Hid (fitM u v 0 0 3 = false) := Lib.hid (by rw [fit3 u0 v0, UInt8.toNat_inj.1 hc]; simp)
        go_enter Tryd.func28, Tryd.ntmps28
        go_wp2_with fail
        go_quiet (fail)
        go_wp2_with fail
        go_ret
        exact ⟨ret_bool HF.out.symm, below_drewN BEL.out _⟩
      · have bb : ((u[0].toNat : Int) != (v[0].toNat : Int)) = true := by simp; omega
        have hc2 : ¬ u[0] = v[0] := fun e => hc (by rw [e])
        have HF : Hid (fitM u v 0 0 3 = true) := Lib.hid (by rw [fit3 u0 v0]; simp [hc2])
        go_enter Tryd.func28, Tryd.ntmps28
        go_wp2_with fail
        go_quiet (fail)
        go_wp2_with fail
        go_ret
        exact ⟨ret_bool HF.out.symm, below_drewN BEL.out _⟩

set_option maxRecDepth 100000 in
set_option maxHeartbeats 2000000 in
theorem fits1_any (u v : ByteArray) (w : World) (hu : u.size ≤ 20) (hv : v.size ≤ 20) :
    Calls Tryd.prog 28 #[.agg #[.int .i32 68, .int .i64 1, .int .i64 1, .int .i64 0], .string u, .string v] w fun e w' => e = .returned (.bool (fitM u v 0 0 1)) ∧ Below w.heap.size w w' := by
  have BEL : Hid (Below w.heap.size w (w.alloc (.cells #[.int .i32 68, .int .i64 1, .int .i64 1, .int .i64 0] 51))) := Lib.hid ((Below.refl _ w).alloc (Nat.le_refl _) _)
  by_cases h0 : u.size = 0
  · have k1 : (u.size : Int) < 1 := by omega
    have k0 : ¬ (u.size : Int) < 0 := by omega
    have k3 : ¬ (v.size : Int) < 0 := by omega
    have HF : Hid (fitM u v 0 0 1 = false) := Lib.hid (by rw [fit1]; simp [h0])
    go_enter Tryd.func28, Tryd.ntmps28
    go_wp2_with fail
    go_ret
    exact ⟨ret_bool HF.out.symm, BEL.out⟩
  · have k1 : ¬ (u.size : Int) < 1 := by omega
    have k0 : ¬ (u.size : Int) < 0 := by omega
    have k3 : ¬ (v.size : Int) < 0 := by omega
    have HF : Hid (fitM u v 0 0 1 = true) := Lib.hid (by rw [fit1]; simp; omega)
    go_enter Tryd.func28, Tryd.ntmps28
    go_wp2_with fail
    go_ret
    exact ⟨ret_bool HF.out.symm, BEL.out⟩

set_option maxRecDepth 100000 in
set_option maxHeartbeats 2000000 in
theorem fits2_any (u v : ByteArray) (w : World) (hu : u.size ≤ 20) (hv : v.size ≤ 20) :
    Calls Tryd.prog 28 #[.agg #[.int .i32 73, .int .i64 1, .int .i64 0, .int .i64 1], .string u, .string v] w fun e w' => e = .returned (.bool (fitM u v 0 0 2)) ∧ Below w.heap.size w w' := by
  have BEL : Hid (Below w.heap.size w (w.alloc (.cells #[.int .i32 73, .int .i64 1, .int .i64 0, .int .i64 1] 51))) := Lib.hid ((Below.refl _ w).alloc (Nat.le_refl _) _)
  by_cases h0 : v.size = 0
  · have k1 : (v.size : Int) < 1 := by omega
    have k0 : ¬ (u.size : Int) < 0 := by omega
    have k3 : ¬ (v.size : Int) < 0 := by omega
    have HF : Hid (fitM u v 0 0 2 = false) := Lib.hid (by rw [fit2]; simp [h0])
    go_enter Tryd.func28, Tryd.ntmps28
    go_wp2_with fail
    go_ret
    exact ⟨ret_bool HF.out.symm, BEL.out⟩
  · have k1 : ¬ (v.size : Int) < 1 := by omega
    have k0 : ¬ (u.size : Int) < 0 := by omega
    have k3 : ¬ (v.size : Int) < 0 := by omega
    have HF : Hid (fitM u v 0 0 2 = true) := Lib.hid (by rw [fit2]; simp; omega)
    go_enter Tryd.func28, Tryd.ntmps28
    go_wp2_with fail
    go_ret
    exact ⟨ret_bool HF.out.symm, BEL.out⟩

set_option maxRecDepth 100000 in
set_option maxHeartbeats 2000000 in
theorem fits4_any (u v : ByteArray) (w : World) (hu : u.size ≤ 20) (hv : v.size ≤ 20) :
    Calls Tryd.prog 28 #[.agg #[.int .i32 88, .int .i64 1, .int .i64 2, .int .i64 2], .string u, .string v] w fun e w' => e = .returned (.bool (fitM u v 0 0 4)) ∧ Below w.heap.size w w' := by
  have BEL : Hid (Below w.heap.size w (w.alloc (.cells #[.int .i32 88, .int .i64 1, .int .i64 2, .int .i64 2] 51))) := Lib.hid ((Below.refl _ w).alloc (Nat.le_refl _) _)
  by_cases hu0 : u.size < 2
  · have k1 : (u.size : Int) < 2 := by omega
    have HF : Hid (fitM u v 0 0 4 = false) := Lib.hid (by rw [fit4]; exact xchB_out (by omega))
    go_enter Tryd.func28, Tryd.ntmps28
    go_wp2_with fail
    go_ret
    exact ⟨ret_bool HF.out.symm, BEL.out⟩
  · have k1 : ¬ (u.size : Int) < 2 := by omega
    by_cases hv0 : v.size < 2
    · have k2 : (v.size : Int) < 2 := by omega
      have HF : Hid (fitM u v 0 0 4 = false) := Lib.hid (by rw [fit4]; exact xchB_out (by omega))
      go_enter Tryd.func28, Tryd.ntmps28
      go_wp2_with fail
      go_ret
      exact ⟨ret_bool HF.out.symm, BEL.out⟩
    · have k2 : ¬ (v.size : Int) < 2 := by omega
      have u1 : 0 + 1 < u.size := by omega
      have v1 : 0 + 1 < v.size := by omega
      have u11 : 1 < u.size := by omega
      have v11 : 1 < v.size := by omega
      have u00 : 0 < u.size := by omega
      have v00 : 0 < v.size := by omega
      have U1 : (1 : Int) < (u.size : Int) := by omega
      have V1 : (1 : Int) < (v.size : Int) := by omega
      have U0 : (0 : Int) < (u.size : Int) := by omega
      have V0 : (0 : Int) < (v.size : Int) := by omega
      have hx : fitM u v 0 0 4 = (decide (u[0] ≠ u[1]) && (decide (u[0] = v[1]) && decide (u[1] = v[0]))) := by rw [fit4]; exact xchB_in u1 v1
      by_cases h3 : u[0].toNat = u[1].toNat
      · have b3 : ((u[0].toNat : Int) != (u[1].toNat : Int)) = false := by rw [h3]; simp
        have HF : Hid (fitM u v 0 0 4 = false) := Lib.hid (by rw [hx, UInt8.toNat_inj.1 h3]; simp)
        clear hx
        go_enter Tryd.func28, Tryd.ntmps28
        go_wp2_with fail
        go_quiet (fail)
        go_wp2_with fail
        go_ret
        exact ⟨ret_bool HF.out.symm, below_drewN BEL.out _⟩
      · have b3 : ((u[0].toNat : Int) != (u[1].toNat : Int)) = true := by simp; omega
        have g3 : ¬ u[0] = u[1] := fun e => h3 (by rw [e])
        by_cases h4 : u[0].toNat = v[1].toNat
        · have b4 : ((u[0].toNat : Int) == (v[1].toNat : Int)) = true := by rw [h4]; simp
          by_cases h5 : u[1].toNat = v[0].toNat
          · have b5 : ((u[1].toNat : Int) == (v[0].toNat : Int)) = true := by rw [h5]; simp
            have HF : Hid (fitM u v 0 0 4 = true) := Lib.hid (by
              have e4 := UInt8.toNat_inj.1 h4
              have e5 := UInt8.toNat_inj.1 h5
              rw [hx]
              simp only [Bool.and_eq_true, decide_eq_true_eq]
              exact ⟨g3, e4, e5⟩)
            clear hx h4 h5
            go_enter Tryd.func28, Tryd.ntmps28
            go_wp2_with fail
            go_quiet (fail)
            go_wp2_with fail
            go_ret
            exact ⟨ret_bool HF.out.symm, below_drewN BEL.out _⟩
          · have b5 : ((u[1].toNat : Int) == (v[0].toNat : Int)) = false := by simp; omega
            have HF : Hid (fitM u v 0 0 4 = false) := Lib.hid (by
              have e5 : ¬ u[1] = v[0] := fun e => h5 (by rw [e])
              rw [hx]; simp [e5])
            clear hx h4
            go_enter Tryd.func28, Tryd.ntmps28
            go_wp2_with fail
            go_quiet (fail)
            go_wp2_with fail
            go_ret
            exact ⟨ret_bool HF.out.symm, below_drewN BEL.out _⟩
        · have b4 : ((u[0].toNat : Int) == (v[1].toNat : Int)) = false := by simp; omega
          have HF : Hid (fitM u v 0 0 4 = false) := Lib.hid (by
            have e4 : ¬ u[0] = v[1] := fun e => h4 (by rw [e])
            rw [hx]; simp [e4])
          clear hx
          go_enter Tryd.func28, Tryd.ntmps28
          go_wp2_with fail
          go_quiet (fail)
          go_wp2_with fail
          go_ret
          exact ⟨ret_bool HF.out.symm, below_drewN BEL.out _⟩

theorem fits_any (m : Nat) (hm : m < 5) (u v : ByteArray) (w : World) (hu : u.size ≤ 20) (hv : v.size ≤ 20) :
    Calls Tryd.prog 28 #[.agg (mvCs m), .string u, .string v] w fun e w' => e = .returned (.bool (fitM u v 0 0 m)) ∧ Below w.heap.size w w' := by
  match m, hm with
  | 0, _ => exact fits0_any u v w hu hv
  | 1, _ => exact fits1_any u v w hu hv
  | 2, _ => exact fits2_any u v w hu hv
  | 3, _ => exact fits3_any u v w hu hv
  | 4, _ => exact fits4_any u v w hu hv
/-- Of what is left of two words behind places. -/
theorem fit_rest (a b : ByteArray) (i j m : Nat) : fitM (a.extract i a.size) (b.extract j b.size) 0 0 m = fitM a b i j m := by
  have h : ∀ (s : ByteArray) (k : Nat), (s.extract k s.size).data.toList = s.data.toList.drop k := by
    intro s k
    simp only [ByteArray.data_extract, Array.toList_extract, List.extract_eq_take_drop]
    exact List.take_of_length_le (by simp)
  unfold fitM
  rw [h, h, List.drop_zero, List.drop_zero]
end Go.Proofs.YtiegaebnlikjiaaDoor
