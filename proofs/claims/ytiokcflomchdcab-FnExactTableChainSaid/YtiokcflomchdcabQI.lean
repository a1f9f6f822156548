/-
  The program's test of a quasigroup.
-/
import Derived.Test.YtiokcflomchdcabMark1
import Derived.Test.YtiokcflomchdcabTab
import Derived.Test.YtiokcflomchdcabLast
import Derived.Test.YtiokcflomchdcabEqR
namespace Go.Proofs.Ytiokcflomchdcab
open Go.RowKit

/-! The masks on their way. -/
def rF (t : List (List Int)) (n k j i : Nat) : Nat := if i < k then rowM t i n else if i = k then rowM t k j else 0
def cF (t : List (List Int)) (n k j i : Nat) : Nat := if i < j then colM t i (k + 1) else if i < n then colM t i k else 0
theorem rF_start (t : List (List Int)) (n i : Nat) : 0 = rF t n 0 0 i := by
  unfold rF
  rw [if_neg (by omega)]
  split <;> rfl
theorem cF_start (t : List (List Int)) (n i : Nat) : 0 = cF t n 0 0 i := by
  unfold cF
  rw [if_neg (by omega)]
  split <;> rfl
theorem rF_row (t : List (List Int)) (n k i : Nat) : rF t n k n i = rF t n (k + 1) 0 i := by
  unfold rF
  by_cases h : i < k
  · rw [if_pos h, if_pos (by omega)]
  · by_cases h2 : i = k
    · subst h2; rw [if_neg h, if_pos rfl, if_pos (by omega)]
    · rw [if_neg h, if_neg h2, if_neg (by omega)]
      split <;> rfl
theorem cF_row (t : List (List Int)) (n k i : Nat) : cF t n k n i = cF t n (k + 1) 0 i := by
  unfold cF
  by_cases h : i < n
  · rw [if_pos h, if_neg (by omega), if_pos h]
  · rw [if_neg h, if_neg h, if_neg (by omega), if_neg h]
theorem rF_cell (t : List (List Int)) (n k j i : Nat) : (if i = k then rF t n k j k ^^^ 2 ^ cellZ t k j else rF t n k j i) = rF t n k (j + 1) i := by
  unfold rF
  by_cases h : i = k
  · subst h
    rw [if_pos rfl, if_neg (by omega), if_pos rfl, if_neg (by omega), if_pos rfl]
    rfl
  · rw [if_neg h, if_neg h, if_neg h]
theorem cF_cell (t : List (List Int)) (n k j i : Nat) (hj : j < n) : (if i = j then cF t n k j j ^^^ 2 ^ cellZ t k j else cF t n k j i) = cF t n k (j + 1) i := by
  unfold cF
  by_cases h : i = j
  · subst h
    rw [if_pos rfl, if_neg (by omega), if_pos hj, if_pos (by omega)]
    rfl
  · by_cases h2 : i < j
    · rw [if_neg h, if_pos h2, if_pos (by omega)]
    · rw [if_neg h, if_neg h2, if_neg (show ¬ i < j + 1 by omega)]
theorem pow_le36 {n : Nat} (hn : n ≤ 36) : 2 ^ n ≤ 68719476736 := Nat.pow_le_pow_right (by decide) hn
theorem rF_lt {t : List (List Int)} {n k j i : Nat} (h : tabOk n n t = true) (hn : n ≤ 36) (hk : k < n) (hj : j ≤ n) : rF t n k j i < 18446744073709551616 := by
  have := pow_le36 hn
  unfold rF
  split
  · have := rowM_lt h (show i < n by omega) (Nat.le_refl n); omega
  · split
    · have := rowM_lt h hk hj; omega
    · omega
theorem cF_lt {t : List (List Int)} {n k j i : Nat} (h : tabOk n n t = true) (hn : n ≤ 36) (hk : k < n) (hj : j ≤ n) : cF t n k j i < 18446744073709551616 := by
  have := pow_le36 hn
  unfold cF
  split
  · have := colM_lt h (show i < n by omega) (show k + 1 ≤ n by omega); omega
  · split
    · have := colM_lt h (show i < n by omega) (show k ≤ n by omega); omega
    · omega
/-- Whether the masks of all lines are full. -/
def masksB (t : List (List Int)) (n : Nat) : Bool := ((List.range 36).all fun i => rF t n n 0 i == fullF n n i) && ((List.range 36).all fun i => cF t n n 0 i == fullF n n i)
theorem masksB_eq {t : List (List Int)} {n : Nat} (h : tabOk n n t = true) (hn : n ≤ 36) : masksB t n = freshAll t := by
  rw [Bool.eq_iff_iff, fresh_masks h]
  unfold masksB
  simp only [Bool.and_eq_true, List.all_eq_true, List.mem_range, beq_iff_eq]
  constructor
  · rintro ⟨h1, h2⟩ i hi
    have a := h1 i (by omega)
    have b := h2 i (by omega)
    unfold rF fullF at a
    unfold cF fullF at b
    rw [if_pos hi, if_pos hi] at a
    rw [if_neg (by omega), if_pos hi, if_pos hi] at b
    exact ⟨a, b⟩
  · intro h1
    refine ⟨fun i _ => ?_, fun i _ => ?_⟩
    · unfold rF fullF
      by_cases hi : i < n
      · rw [if_pos hi, if_pos hi]; exact (h1 i hi).1
      · rw [if_neg hi, if_neg hi]
        split
        · rfl
        · rfl
    · unfold cF fullF
      rw [if_neg (by omega)]
      by_cases hi : i < n
      · rw [if_pos hi, if_pos hi]; exact (h1 i hi).2
      · rw [if_neg hi, if_neg hi]

set_option maxRecDepth 100000 in
set_option maxHeartbeats 4000000 in
theorem implIsQ_any {B : Nat} (A : Option Addr) (n c : Nat) (t : List (List Int)) (w : World) (h : Rows2 B w A n t) (hB : B ≤ w.heap.size) :
    Calls Try.prog 45 #[.slice A n c] w fun e w' => e = .returned (.bool (isQ t)) ∧ Below w.heap.size w w' := by
  have hl := h.len
  have hle := h.le
  have CV := tableValid_any A n c n n t w h
  have hQ : Hid (isQ t = (inB n 1 36 && (tabOk n n t && freshAll t))) := Lib.hid (by unfold isQ; rw [hl])
  obtain ⟨hz, hi⟩ := zero_of_info (P := Try.prog) (t := 87) (v := .agg (Array.replicate 72 (Value.int .u64 0))) (n := 72) (by kernel_rfl)
  have HR : Hid (Rows2 B w A n t) := Lib.hid h
  have HL := Lib.hid hl
  rcases hin : inB n 1 36 with _ | _
  · have C1 : ∀ W, Calls Try.prog 58 #[.int .i64 n, .int .i64 1, .int .i64 36] W fun e w' => e = .returned (.bool false) ∧ W = w' := fun W => by rw [← hin]; exact within_any _ _ _ W
    rw [hin] at hQ
    clear hin
    go_enter Try.func45, Try.ntmps45
    go_wp2_with (go_at_call 58; (with_reducible refine (C1 _).mono ?_); rintro e w' ⟨rfl, rfl⟩)
    go_ret
    exact ⟨ret_bool (by rw [hQ.out]; rfl), Below.refl _ _⟩
  · have hn := inB_true.1 hin
    have hn36 : n ≤ 36 := by omega
    have C1 : ∀ W, Calls Try.prog 58 #[.int .i64 n, .int .i64 1, .int .i64 36] W fun e w' => e = .returned (.bool true) ∧ W = w' := fun W => by rw [← hin]; exact within_any _ _ _ W
    rw [hin] at hQ
    clear hin
    rcases htab : tabOk n n t with _ | _
    · rw [htab] at CV hQ
      clear htab
      go_enter Try.func45, Try.ntmps45
      go_wp2_with first | (go_at_call 58; (with_reducible refine (C1 _).mono ?_); rintro e w' ⟨rfl, rfl⟩) | (go_at_call 75; (with_reducible refine (CV).mono ?_); rintro e w' ⟨rfl, rfl⟩)
      go_ret
      exact ⟨ret_bool (by rw [hQ.out]; rfl), Below.refl _ _⟩
    · rw [htab] at CV hQ
      have HT := Lib.hid htab
      clear htab
      go_enter Try.func45, Try.ntmps45
      go_wp2_with first | (go_at_call 58; (with_reducible refine (C1 _).mono ?_); rintro e w' ⟨rfl, rfl⟩) | (go_at_call 75; (with_reducible refine (CV).mono ?_); rintro e w' ⟨rfl, rfl⟩)
      go_loopw [5, 6, 7, 8, 23] (fun _ _ _ _ i wr => ∃ k : Nat, k ≤ n ∧ i = .int .i64 k ∧ Hid (wr.heap[w.heap.size]? = some (.cells (maskArr (rF t n k 0) (cF t n k 0)) 87)) ∧ Below w.heap.size w wr) (fun _ _ _ _ i _ => n - (intOf i).toNat)
      case atStart =>
        refine ⟨0, by omega, rfl, Lib.hid ?_, (Below.refl _ _).alloc (Nat.le_refl _) _⟩
        rw [heap_alloc_last, zeroMasks, maskArr_congr (f := fun _ => 0) (g := fun _ => 0) (fun i _ => rF_start t n i) (fun i _ => cF_start t n i)]
      case round =>
        obtain ⟨k, hk, rfl, hm, hb⟩ := hrel
        clear CV C1 hz
        by_cases hlt : k < n
        · obtain ⟨b, o, A1, n1, c1, r, rfl, hbB, hz, hc0, _, hr⟩ := HR.out.2.2 k hlt
          have hc := (hb.cell (p := ⟨b, o + k, none⟩) (show b < w.heap.size by omega)).trans hc0
          have HZ := Lib.hid hz
          have HRW := Lib.hid hr
          clear hc0
          have hn1 : n1 = n := by
            obtain ⟨r', h1, h2, _⟩ := tabOk_row HT.out hlt
            rw [hz] at h1
            injection h1 with h1
            subst h1
            have := hr.len
            omega
          subst hn1
          clear hz hr
          go_wp2
          go_loopw [7, 8, 30] (fun _ _ q wq => ∃ j : Nat, j ≤ n1 ∧ q = .int .i64 j ∧ Hid (wq.heap[w.heap.size]? = some (.cells (maskArr (rF t n1 k j) (cF t n1 k j)) 87)) ∧ Below w.heap.size w wq) (fun _ _ q _ => n1 - (intOf q).toNat)
          case atStart => exact ⟨0, by omega, rfl, hm, hb⟩
          case round =>
            obtain ⟨j, hj, rfl, hm2, hb2⟩ := hrel
            by_cases hjn : j < n1
            · obtain ⟨b3, o3, z, rfl, _, hz3, hc3, _⟩ := (RowB.below HRW.out (hb2.mono hB)).at_ hjn
              have hzb : 0 ≤ z ∧ z < (n1 : Int) := by
                obtain ⟨r', h1, _, h3⟩ := tabOk_row HT.out hlt
                rw [HZ.out] at h1
                injection h1 with h1
                subst h1
                exact h3 j z hz3
              obtain ⟨zz, rfl⟩ := Int.eq_ofNat_of_zero_le hzb.1
              have HCZ : Hid (cellZ t k j = zz) := Lib.hid (by rw [tab_at HZ.out hz3]; simp)
              have CM := lineMark_any w.heap.size (rF t n1 k j) (cF t n1 k j) k j zz wr hm2.out (by omega) (by omega) (by omega) (rF_lt HT.out hn36 hlt hj) (cF_lt HT.out hn36 hlt hj)
              clear hz3
              go_wp2_with (go_at_call 76; (with_reducible refine (CM).mono ?_); rintro e w3 ⟨rfl, hm3, hb3⟩)
              have HM3 : Hid (w3.heap[w.heap.size]? = some (.cells (maskArr (rF t n1 k (j + 1)) (cF t n1 k (j + 1))) 87)) := Lib.hid (by
                rw [hm3, ← HCZ.out, maskArr_congr (fun i _ => rF_cell t n1 k j i) (fun i _ => cF_cell t n1 k j i hjn)])
              have HB3 := Lib.hid (hb2.trans hb3)
              clear hm3 hb3
              go_wp2
              go_roundw
              case rel => exact ⟨j + 1, by omega, by go_num, HM3, HB3.out⟩
              case measure => simp [intOf]; omega
            · obtain rfl : n1 = j := by omega
              go_wp2
              go_roundw
              case rel => exact ⟨k + 1, by omega, by go_num, Lib.hid (by rw [hm2.out, maskArr_congr (fun i _ => rF_row t _ k i) (fun i _ => cF_row t _ k i)]), hb2⟩
              case measure => simp [intOf]; omega
        · obtain rfl : n = k := by omega
          obtain ⟨c1, hc1⟩ : ∃ c1, c1 = maskArr (rF t n n 0) (cF t n n 0) := ⟨_, rfl⟩
          have hsz : (Try.prog.info? 87).map (·.size) = some c1.size := by rw [hc1, maskArr_size]; exact hi
          rw [← hc1] at hm
          have HSZ := Lib.hid hsz
          have HC1 := Lib.hid hc1
          have HSW : Hid (∀ W, Below wr.heap.size wr W → W.heap[w.heap.size]? = some (.cells c1 87)) := Lib.hid (fun W hW => (hW.block _ (Array.getElem?_eq_some_iff.1 hm.out).1).trans hm.out)
          clear hsz hc1 hi
          go_wp2_with fail
          refine region_held_n 5 (fun w' => w'.heap[w.heap.size]? = some (.cells c1 87)) (by kernel_rfl) (by kernel_rfl) (hm.out) (fun hS => ?_)
          refine takeD 0 (some 41) (v := .agg c1) rfl (by kernel_rfl) (by kernel_rfl) (by kernel_rfl) (fun _ _ _ h => h) hS (fun o ho => Or.inl ⟨by cases ho; rfl, ?_⟩) ?_
          · cases ho
            intro w' hw'
            exact exec_load_agg 87 (.tmp 4) rfl w.heap.size rfl 87 c1 (0, 0) _ hw' Try.underlying87 rfl HSZ.out
          (try simp only [Act.put, List.setIfInBounds_toArray, List.set_cons_zero, List.set_cons_succ])
          refine takeD 1 (some 42) (v := ?_) rfl (by kernel_rfl) (by kernel_rfl) (by kernel_rfl) (fun _ _ _ h => h) hS (fun o ho => Or.inl ⟨by cases ho; rfl, ?_⟩) ?_
          rotate_left
          · cases ho
            intro w' hw'
            (try dsimp only at hw')
            go_simp
            (try with_reducible rfl)
          (try simp only [Act.put, List.setIfInBounds_toArray, List.set_cons_zero, List.set_cons_succ])
          refine oneD 2 (some 43) (by kernel_rfl) rfl (fun o ho K hK hdo => ?_)
          simp only [List.getElem?_toArray, List.getElem?_cons_succ, List.getElem?_cons_zero, Option.some.injEq] at ho
          subst ho
          clear hdo
          rw [if_pos (by rfl)]
          go_wp2_with ((go_at_call 77; (with_reducible refine (fullMasks_any n _ hn36).mono ?_); rintro e w1 ⟨rfl, be1⟩))
          have BB1 : Hid (Below wr.heap.size wr w1) := Lib.hid (below_of_drew be1)
          clear be1
          refine hK.out _ _ ?_ (fun hS => ?_)
          · exact HSW.out _ BB1.out
          clear hK K
          (try simp only [Act.put, List.setIfInBounds_toArray, List.set_cons_zero, List.set_cons_succ])
          refine takeD 3 (some 44) (v := .bool (masksB t n)) rfl (by kernel_rfl) (by kernel_rfl) (by kernel_rfl) (fun _ _ _ h => h) hS (fun o ho => Or.inl ⟨by cases ho; rfl, ?_⟩) ?_
          · cases ho
            intro w' hw'
            refine exec_eql_agg 87 _ (.tmp 41) (.tmp 43) rfl c1 (maskArr (fullF n n) (fullF n n)) rfl rfl (by kernel_rfl) _ ?_
            rw [HC1.out]
            exact run_equal_masks (t := 85) (e := 84) _ _ _ _ Try.underlying87 (by kernel_rfl) (by kernel_rfl) Try.underlying85 (by kernel_rfl) Try.underlying84 (by kernel_rfl) (by kernel_rfl)
          (try simp only [Act.put, List.setIfInBounds_toArray, List.set_cons_zero, List.set_cons_succ])
          refine takeD 4 (some 2) (v := ?_) rfl (by kernel_rfl) (by kernel_rfl) (by kernel_rfl) (fun _ _ _ h => h) hS (fun o ho => Or.inl ⟨by cases ho; rfl, ?_⟩) ?_
          rotate_left
          · cases ho
            intro w' hw'
            (try dsimp only at hw')
            go_simp
            (try with_reducible rfl)
          (try simp only [Act.put, List.setIfInBounds_toArray, List.set_cons_zero, List.set_cons_succ])
          refine wpAnyH_done (by kernel_rfl) ?_ _
          clear hS
          go_wp2_with fail
          go_ret
          exact ⟨ret_bool (by rw [hQ.out, masksB_eq HT.out hn36]; rfl), hb.trans (BB1.out.mono hb.size)⟩
end Go.Proofs.Ytiokcflomchdcab
