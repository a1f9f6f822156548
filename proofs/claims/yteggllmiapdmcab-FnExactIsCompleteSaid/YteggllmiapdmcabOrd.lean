/-
  Contracts of the functions that ask whether a list is an order, of the program and of the model.
-/
import Derived.Test.YteggllmiapdmcabOwn
namespace Go.Proofs.Yteggllmiapdmcab
open Go.RowKit

theorem RowB.take_ {k : IntKind} {B : Nat} {w : World} {A : Option Addr} {n i : Nat} {zs : List Int} (h : RowB k B w A n zs) (hi : i ≤ n) : RowB k B w A i (zs.take i) := by
  have hl := h.1
  refine ⟨by simp; omega, by have := h.2.1; omega, fun z hz => h.2.2.1 z (List.mem_of_mem_take hz), fun h0 => ?_⟩
  obtain ⟨b, off, e, hb, hc⟩ := h.2.2.2 (by omega)
  refine ⟨b, off, e, hb, fun j hj => ?_⟩
  have e2 : (zs.take i).getD j 0 = zs.getD j 0 := by simp [List.getD, hj]
  rw [e2]; exact hc j (by omega)

def hasB (zs : List Int) (x : Int) : Bool := decide (x ∈ zs)
theorem drew2 (w : World) (a b : Nat) : ∃ m, (w.drewN a).drewN b = w.drewN m := ⟨_, World.drewN_drewN _ _ _⟩
/-- Whether the numbers of a list, behind those that came before, are below n and none comes twice. -/
def ordGo (n : Int) (pre : List Int) : List Int → Bool
  | [] => true
  | x :: r => (inB x 0 (n - 1) && !hasB pre x) && ordGo n (pre ++ [x]) r
/-- Whether a list is an order. -/
def isOrd (zs : List Int) : Bool := decide (1 ≤ zs.length ∧ zs.length ≤ 36) && ordGo zs.length [] zs
theorem drop_at {zs : List Int} {k : Nat} {z : Int} (h : zs[k]? = some z) : zs.drop k = z :: zs.drop (k + 1) := by
  have hlt : k < zs.length := (List.getElem?_eq_some_iff.1 h).1
  rw [List.drop_eq_getElem_cons hlt]
  rw [List.getElem?_eq_getElem hlt] at h
  rw [Option.some.inj h]
theorem take_at {zs : List Int} {k : Nat} {z : Int} (h : zs[k]? = some z) : zs.take (k + 1) = zs.take k ++ [z] := by
  rw [List.take_add_one, h]; rfl

set_option maxHeartbeats 400000 in
theorem l00Has_any {B : Nat} (A : Option Addr) (n c : Nat) (x : Int) (zs : List Int) (w : World) (h : RowB .i64 B w A n zs) :
    Calls Try.prog 64 #[.slice A n c, .int .i64 x] w fun e w' => e = .returned (.bool (hasB zs x)) ∧ w = w' := by
  have hle := h.le
  go_enter Try.func64, Try.ntmps64
  go_wp2
  go_loop [5] (fun i => ∃ k : Nat, k ≤ n ∧ i = .int .i64 k ∧ Hid (hasB (zs.take k) x = false)) (fun i => n - (intOf i).toNat)
  case atStart => exact ⟨0, by omega, rfl, Lib.hid rfl⟩
  case round =>
    obtain ⟨k, hk, rfl, hg⟩ := hrel
    by_cases hlt : k < n
    · obtain ⟨b, o, z, rfl, _, hz, hc, _⟩ := h.at_ hlt
      by_cases he : z = x
      · subst he
        have HC : Hid (hasB zs z = true) := Lib.hid (by simp only [hasB, decide_eq_true_eq]; exact List.mem_of_getElem? hz)
        clear hz
        go_wp2
        go_ret
        exact ⟨ret_bool HC.out.symm, rfl⟩
      · have HC : Hid (hasB (zs.take (k + 1)) x = false) := Lib.hid (by
          have := hg.out
          rw [take_at hz]
          simp only [hasB, List.mem_append, List.mem_singleton, decide_eq_false_iff_not, not_or] at this ⊢
          exact ⟨this, fun e => he e.symm⟩)
        have t1 : (z == x) = false := by simp [he]
        clear hz he
        go_wp2
        go_round
        case rel => exact ⟨k + 1, by omega, by go_num, HC⟩
        case measure => simp [intOf]; omega
    · obtain rfl : k = n := by omega
      go_wp2
      go_ret
      exact ⟨ret_bool (by have := hg.out; rw [List.take_of_length_le (by have := h.len; omega)] at this; exact this.symm), rfl⟩

set_option maxRecDepth 100000 in
set_option maxHeartbeats 1000000 in
theorem l01Order_any {B : Nat} (A : Option Addr) (n c : Nat) (N : Int) (zs : List Int) (w : World) (h : RowB .i64 B w A n zs) (hc0 : n ≤ c) (hN1 : -1000000 ≤ N) (hN2 : N ≤ 1000000) :
    Calls Try.prog 74 #[.slice A n c, .int .i64 N] w fun e w' => e = .returned (.bool (ordGo N [] zs && decide ((n : Int) = N))) ∧ ∃ m, w' = w.drewN m := by
  have hle := h.le
  go_enter Try.func74, Try.ntmps74
  go_wp2
  go_loopw [5] (fun i wr => ∃ k : Nat, k ≤ n ∧ i = .int .i64 k ∧ Hid (ordGo N [] zs = ordGo N (zs.take k) (zs.drop k)) ∧ ∃ m, wr = w.drewN m) (fun i _ => n - (intOf i).toNat)
  case atStart => exact ⟨0, by omega, rfl, Lib.hid rfl, 0, rfl⟩
  case round =>
    obtain ⟨k, hk, rfl, hg, m, rfl⟩ := hrel
    by_cases hlt : k < n
    · have hpre := (RowB.take_ h (show k ≤ n by omega))
      obtain ⟨b, o, z, rfl, _, hz, hc, _⟩ := h.at_ hlt
      have hc' : (w.drewN m).cell? ⟨b, o + k, none⟩ = some (.int .i64 z) := hc
      have HS : Hid (ordGo N [] zs = ((inB z 0 (N - 1) && !hasB (zs.take k) z) && ordGo N (zs.take (k + 1)) (zs.drop (k + 1)))) := Lib.hid (by
        rw [hg.out, drop_at hz, take_at hz]; rfl)
      clear hz
      have CI : ∀ W, Calls Try.prog 52 #[.int .i64 z, .int .i64 0, .int .i64 (N - 1)] W fun e w' => e = .returned (.bool (inB z 0 (N - 1))) ∧ W = w' := fun W => l00In_any _ _ _ W
      have CH : ∀ q, Calls Try.prog 64 #[.slice (some ⟨b, o, none⟩) k c, .int .i64 z] (w.drewN q) fun e w' => e = .returned (.bool (hasB (zs.take k) z)) ∧ (w.drewN q) = w' := fun q => l00Has_any _ k c z _ (w.drewN q) (hpre.drewN q)
      rcases h1 : inB z 0 (N - 1) with _ | _
      · rw [h1] at CI HS
        clear h1
        go_wp2
        go_quiet ((first | (go_at_call 52; exact (CI _).mono fun _ _ ⟨he, hm⟩ => ⟨he, _, hm.symm⟩) | (go_at_call 64; exact (CH _).mono fun _ _ ⟨he, hm⟩ => ⟨he, _, hm.symm⟩)))
        go_wp2
        go_ret
        exact ⟨ret_bool (by rw [HS.out]; simp), drew2 _ _ _⟩
      · rcases h2 : hasB (zs.take k) z with _ | _
        · rw [h1, h2] at HS
          rw [h1] at CI
          rw [h2] at CH
          clear h1 h2
          go_wp2
          go_quiet ((first | (go_at_call 52; exact (CI _).mono fun _ _ ⟨he, hm⟩ => ⟨he, _, hm.symm⟩) | (go_at_call 64; exact (CH _).mono fun _ _ ⟨he, hm⟩ => ⟨he, _, hm.symm⟩)))
          go_wp2
          go_roundw
          case rel => exact ⟨k + 1, by omega, by go_num, Lib.hid (by rw [HS.out]; simp), _, rfl⟩
          case measure => simp [intOf]; omega
        · rw [h1, h2] at HS
          rw [h1] at CI
          rw [h2] at CH
          clear h1 h2
          go_wp2
          go_quiet ((first | (go_at_call 52; exact (CI _).mono fun _ _ ⟨he, hm⟩ => ⟨he, _, hm.symm⟩) | (go_at_call 64; exact (CH _).mono fun _ _ ⟨he, hm⟩ => ⟨he, _, hm.symm⟩)))
          go_wp2
          go_ret
          exact ⟨ret_bool (by rw [HS.out]; simp), drew2 _ _ _⟩
    · obtain rfl : k = n := by omega
      go_wp2
      go_ret
      have e := hg.out
      rw [List.drop_eq_nil_of_le (by have := h.len; omega)] at e
      exact ⟨ret_bool (by rw [e]; simp [ordGo]; rfl), m, rfl⟩

theorem isOrd_len {zs : List Int} {n : Nat} (hl : zs.length = n) : isOrd zs = (decide (1 ≤ n ∧ n ≤ 36) && ordGo n [] zs) := by
  unfold isOrd; rw [hl]

/-- The cells of an array of 36 marks: those of the numbers of a list are set. -/
def seenArr (zs : List Int) : Array Value := ((List.range 36).map fun j : Nat => Value.bool (decide ((j : Int) ∈ zs))).toArray
theorem seenArr_at (zs : List Int) {j : Nat} (h : j < 36) : (seenArr zs)[j]? = some (.bool (hasB zs j)) := by
  simp [seenArr, h, hasB]
theorem seenArr_set (zs : List Int) (j : Nat) : (seenArr zs).setIfInBounds j (.bool true) = seenArr (zs ++ [(j : Int)]) := by
  apply Array.ext_getElem?
  intro i
  rw [Array.getElem?_setIfInBounds]
  by_cases hi : i < 36
  · rw [seenArr_at _ hi, seenArr_at _ hi]
    by_cases he : j = i
    · subst he
      have : j < (seenArr zs).size := by simp [seenArr]; omega
      simp [this, hasB]
    · rw [if_neg he]
      have h2 : ¬ ((i : Int) = (j : Int)) := by omega
      simp [hasB, h2]
  · have h1 : (seenArr zs).size = 36 := by simp [seenArr]
    have h2 : (seenArr (zs ++ [(j : Int)])).size = 36 := by simp [seenArr]
    rw [Array.getElem?_eq_none (by omega : (seenArr (zs ++ [(j : Int)])).size ≤ i)]
    split
    · next he => rw [if_neg (by omega)]
    · rw [Array.getElem?_eq_none (by omega)]

set_option maxRecDepth 100000 in
set_option maxHeartbeats 1000000 in
theorem valid_any (A : Option Addr) (n c : Nat) (zs : List Int) (w : World) (h : Row .i64 w A n zs) :
    Calls Try.prog 119 #[.slice A n c] w fun e w' => e = .returned (.bool (isOrd zs)) ∧ Below w.heap.size w w' := by
  have hle := h.le
  have HL := Lib.hid (isOrd_len h.len)
  rcases hin : inB n 1 36 with _ | _
  · have e : Hid (isOrd zs = false) := Lib.hid (by have := inB_false.1 hin; rw [HL.out]; simp; intros; omega)
    go_enter Try.func119, Try.ntmps119
    go_wp2_with (go_at_call 125; (with_reducible refine (withinInt_any _ _ _ _).mono ?_); rintro e w' ⟨rfl, rfl⟩)
    go_ret
    exact ⟨ret_bool e.out.symm, Below.refl _ _⟩
  · have hn := inB_true.1 hin
    have HG : Hid (isOrd zs = ordGo n [] zs) := Lib.hid (by
      rw [HL.out]
      have e1 : decide (1 ≤ n ∧ n ≤ 36) = true := by simp; omega
      simp [e1])
    go_enter Try.func119, Try.ntmps119
    go_wp2_with (go_at_call 125; (with_reducible refine (withinInt_any _ _ _ _).mono ?_); rintro e w' ⟨rfl, rfl⟩)
    go_loopw [5, 12] (fun _ i wr => ∃ k : Nat, k ≤ n ∧ i = .int .i64 k ∧ Hid (ordGo n [] zs = ordGo n (zs.take k) (zs.drop k)) ∧ Hid (wr.heap[w.heap.size]? = some (.cells (seenArr (zs.take k)) 128)) ∧ Below w.heap.size w wr) (fun _ i _ => n - (intOf i).toNat)
    case atStart => exact ⟨0, by omega, rfl, Lib.hid rfl, Lib.hid (heap_alloc_new w _), (Below.refl _ _).alloc (Nat.le_refl _) _⟩
    case round =>
      obtain ⟨k, hk, rfl, hg, hs, hb⟩ := hrel
      by_cases hlt : k < n
      · obtain ⟨b, o, z, rfl, _, hz, hc, _⟩ := (RowB.below h hb).at_ hlt
        have HS : Hid (ordGo n [] zs = ((inB z 0 ((n : Int) - 1) && !hasB (zs.take k) z) && ordGo n (zs.take (k + 1)) (zs.drop (k + 1)))) := Lib.hid (by
          rw [hg.out, drop_at hz, take_at hz]; rfl)
        rcases h1 : inB z 0 ((n : Int) - 1) with _ | _
        · rw [h1] at HS
          clear hz
          go_wp2_with (go_at_call 57; (with_reducible refine (within_any _ _ _ _).mono ?_); rintro e w' ⟨rfl, rfl⟩)
          go_ret
          exact ⟨ret_bool (by rw [HG.out, HS.out]; simp), hb⟩
        · have hzb := inB_true.1 h1
          rw [h1] at HS
          obtain ⟨j, rfl⟩ := Int.eq_ofNat_of_zero_le hzb.1
          have hcell : wr.cell? ⟨w.heap.size, j, none⟩ = some (.bool (hasB (zs.take k) j)) :=
            (cell_of_row wr w.heap.size j _ _ (0, 0) hs.out).trans (seenArr_at _ (by omega))
          have hfr : wr.frozen? ⟨w.heap.size, j, none⟩ = false := frozen_of_row wr w.heap.size j _ _ hs.out
          have HT := Lib.hid (take_at hz)
          clear hz
          rcases h2 : hasB (zs.take k) j with _ | _
          · rw [h2] at HS hcell
            clear h2
            go_wp2_with (go_at_call 57; (with_reducible refine (within_any _ _ _ _).mono ?_); rintro e w' ⟨rfl, rfl⟩)
            go_roundw
            case rel =>
              refine ⟨k + 1, by omega, by go_num, Lib.hid (by rw [HS.out]; simp), Lib.hid ?_, hb.setCell (Nat.le_refl _) _⟩
              have := heap_setCell_same wr w.heap.size j _ _ (.bool true) hs.out
              rw [seenArr_set, ← HT.out] at this
              exact this
            case measure => simp [intOf]; omega
          · rw [h2] at HS hcell
            clear h2
            go_wp2_with (go_at_call 57; (with_reducible refine (within_any _ _ _ _).mono ?_); rintro e w' ⟨rfl, rfl⟩)
            go_ret
            exact ⟨ret_bool (by rw [HG.out, HS.out]; simp), hb⟩
      · obtain rfl : k = n := by omega
        go_wp2
        go_ret
        have e := hg.out
        rw [List.drop_eq_nil_of_le (by have := h.len; omega)] at e
        exact ⟨ret_bool (by rw [HG.out, e]; rfl), hb⟩
set_option maxHeartbeats 400000 in
theorem implIsOrder_any (A : Option Addr) (n c : Nat) (zs : List Int) (w : World) (h : Row .i64 w A n zs) :
    Calls Try.prog 107 #[.slice A n c] w fun e w' => e = .returned (.bool (isOrd zs)) ∧ Below w.heap.size w w' := by
  go_enter Try.func107, Try.ntmps107
  go_wp2_with (go_at_call 119; (with_reducible refine (valid_any _ _ _ _ _ h).mono ?_); rintro e w' ⟨rfl, hb⟩)
  go_ret
  exact ⟨rfl, hb⟩
end Go.Proofs.Yteggllmiapdmcab
