/-
  A slice of integers of the call's own is put into the opposite order, and copied.
-/
import Derived.Test.YtakkehjfdeghoabOwn
import Derived.Test.YtakkehjfdeghoabShelf
import Derived.Test.YtakkehjfdeghoabLast
import Derived.RegionTactic
namespace Go.Proofs.Ytakkehjfdeghoab
open Go.RowKit

/-- The list in which the first k and the last k numbers have changed places. -/
def revK (zs : List Int) (k : Nat) : List Int := (List.range zs.length).map fun i => if i < k ∨ zs.length - 1 - i < k then zs.getD (zs.length - 1 - i) 0 else zs.getD i 0
theorem revK_len (zs : List Int) (k : Nat) : (revK zs k).length = zs.length := by simp [revK]
theorem revK_at {zs : List Int} {k i : Nat} (h : i < zs.length) : (revK zs k)[i]? = some (if i < k ∨ zs.length - 1 - i < k then zs.getD (zs.length - 1 - i) 0 else zs.getD i 0) := by
  simp [revK, h]
theorem revK_zero (zs : List Int) : revK zs 0 = zs := by
  apply List.ext_getElem?
  intro i
  by_cases h : i < zs.length
  · rw [revK_at h, if_neg (by omega)]
    simp [List.getD, h]
  · rw [List.getElem?_eq_none (by rw [revK_len]; omega), List.getElem?_eq_none (by omega)]
theorem revK_end {zs : List Int} {k : Nat} (h : zs.length ≤ 2 * k + 1) : revK zs k = zs.reverse := by
  apply List.ext_getElem?
  intro i
  by_cases hi : i < zs.length
  · rw [revK_at hi, List.getElem?_reverse hi]
    have e1 : zs[zs.length - 1 - i]? = some (zs.getD (zs.length - 1 - i) 0) := by
      rw [List.getElem?_eq_getElem (by omega)]; simp [List.getD, show zs.length - 1 - i < zs.length by omega]
    rw [e1]
    by_cases h2 : i < k ∨ zs.length - 1 - i < k
    · rw [if_pos h2]
    · rw [if_neg h2]
      have : zs.length - 1 - i = i := by omega
      rw [this]
  · rw [List.getElem?_eq_none (by rw [revK_len]; omega), List.getElem?_eq_none (by simp; omega)]
theorem revK_step {zs : List Int} {k : Nat} (h : 2 * k + 1 < zs.length) : ((revK zs k).set k (zs.getD (zs.length - 1 - k) 0)).set (zs.length - 1 - k) (zs.getD k 0) = revK zs (k + 1) := by
  apply List.ext_getElem?
  intro i
  have hl := revK_len zs k
  by_cases hi : i < zs.length
  · rw [revK_at hi]
    by_cases h1 : i = zs.length - 1 - k
    · rw [h1, List.getElem?_set_self (by simp; omega), if_pos (by omega)]
      congr 2
      omega
    · rw [List.getElem?_set_ne (by omega)]
      by_cases h2 : i = k
      · rw [h2, List.getElem?_set_self (by omega), if_pos (by omega)]
      · rw [List.getElem?_set_ne (by omega), revK_at hi]
        congr 1
        by_cases h3 : i < k ∨ zs.length - 1 - i < k
        · rw [if_pos h3, if_pos (by omega)]
        · rw [if_neg h3, if_neg (by omega)]
  · rw [List.getElem?_eq_none (by simp; omega), List.getElem?_eq_none (by rw [revK_len]; omega)]

def RevPost (B : Nat) (A : Option Addr) (n c : Nat) (zs : List Int) (w : World) (e : Ending) (w' : World) : Prop :=
  e = .returned (.tuple #[]) ∧ Own B w' A n c zs.reverse ∧ ∃ w0 m, w' = World.drewN w0 m ∧ Only A w w0
set_option maxRecDepth 100000 in
set_option maxHeartbeats 4000000 in
theorem reverse_any {B : Nat} (A : Option Addr) (n c : Nat) (zs : List Int) (w : World) (h : Own B w A n c zs) :
    Calls Try.prog 97 #[.slice A n c] w (RevPost B A n c zs w) := by
  have hl := h.len
  have hle := h.row.le
  have HWF := Lib.hid h.2
  by_cases hn : n ≤ 1
  · have e1 : zs.reverse = zs := by
      match zs, hl with
      | [], _ => rfl
      | [a], _ => rfl
      | a :: b :: r, hl => simp at hl; omega
    have E1 := Lib.hid e1
    have HH := Lib.hid h
    clear h hl e1
    have h0 : (n : Int) - 1 ≤ 0 := by omega
    go_enter Try.func97, Try.ntmps97
    go_wp2
    go_loop [2, 3] (fun i j => i = .int .i64 0 ∧ j = .int .i64 ((n : Int) - 1)) (fun _ _ => 0)
    case atStart => exact ⟨rfl, rfl⟩
    case round =>
      obtain ⟨rfl, rfl⟩ := hrel
      go_wp2
      go_end0
      exact ⟨rfl, by rw [E1.out]; exact HH.out, w, 0, rfl, Only.refl _ _⟩
  · obtain ⟨g, rfl⟩ : ∃ g, A = some ⟨g, 0, none⟩ := by
      rcases h.form with ⟨_, h0, _⟩ | ⟨g, hA, _⟩
      · omega
      · exact ⟨g, hA⟩
    have h1 : (1 : Int) ≤ n := by omega
    go_enter Try.func97, Try.ntmps97
    go_wp2
    go_loopw [2, 3] (fun i j wr => ∃ k : Nat, 2 * k ≤ n ∧ i = .int .i64 k ∧ j = .int .i64 ((n : Int) - 1 - (k : Int)) ∧ ∃ w0 m, wr = World.drewN w0 m ∧ w0.ownsRow B 2 1 (.slice (some ⟨g, 0, none⟩) n c) n (cells64 (revK zs k)) ∧ Only (some ⟨g, 0, none⟩) w w0) (fun i _ _ => n - (intOf i).toNat)
    case atStart => exact ⟨0, by omega, rfl, by simp, w, 0, rfl, by rw [revK_zero]; exact h.1, Only.refl _ _⟩
    case round =>
      obtain ⟨k, hk, rfl, rfl, w0, m, rfl, ho, hon⟩ := hrel
      by_cases hlt : 2 * k + 1 < n
      · have hlt' : (k : Int) < (n : Int) - 1 - (k : Int) := by omega
        obtain ⟨q, hq⟩ : ∃ q : Nat, q = n - 1 - k := ⟨_, rfl⟩
        have hqi : (n : Int) - 1 - (k : Int) = (q : Int) := by omega
        have hqn : q < n := by omega
        have hkq : k < q := by omega
        have hkn : k < n := by omega
        have e1 : (cells64 (revK zs k))[k]? = some (.int .i64 (zs.getD k 0)) := by
          rw [cells64, List.getElem?_map, revK_at (by omega), if_neg (by omega)]; rfl
        have e2 : (cells64 (revK zs k))[q]? = some (.int .i64 (zs.getD q 0)) := by
          rw [cells64, List.getElem?_map, revK_at (by omega), if_neg (by omega)]; rfl
        have c1 : w0.cell? ⟨g, k, none⟩ = some (.int .i64 (zs.getD k 0)) := (ho.cellAt k (by omega)).trans e1
        have c2 : w0.cell? ⟨g, q, none⟩ = some (.int .i64 (zs.getD q 0)) := (ho.cellAt q (by omega)).trans e2
        have f1 : w0.frozen? ⟨g, k, none⟩ = false := ho.frozenAt k
        have f2 : w0.frozen? ⟨g, q, none⟩ = false := ho.frozenAt q
        have hs1 := (ho.stored k (.int .i64 (zs.getD q 0))).1
        have hs2 := (hs1.stored q (.int .i64 (zs.getD k 0))).1
        have X : Hid (((w0.setCell ⟨g, k, none⟩ (.int .i64 (zs.getD q 0))).setCell ⟨g, q, none⟩ (.int .i64 (zs.getD k 0))).ownsRow B 2 1 (.slice (some ⟨g, 0, none⟩) n c) n (cells64 (revK zs (k + 1))) ∧ Only (some ⟨g, 0, none⟩) w ((w0.setCell ⟨g, k, none⟩ (.int .i64 (zs.getD q 0))).setCell ⟨g, q, none⟩ (.int .i64 (zs.getD k 0)))) := Lib.hid (by
          refine ⟨?_, (hon.set _ _).set _ _⟩
          have e : ((cells64 (revK zs k)).set k (.int .i64 (zs.getD q 0))).set q (.int .i64 (zs.getD k 0)) = cells64 (revK zs (k + 1)) := by
            rw [cells64, ← List.map_set, ← List.map_set, hq, ← hl, revK_step (by omega)]
          rw [← e]
          exact hs2)
        have t1 : (0 : Int) ≤ (k : Int) := by omega
        have t2 : (k : Int) < (n : Int) := by omega
        have t3 : (0 : Int) ≤ (q : Int) := by omega
        have t4 : (q : Int) < (n : Int) := by omega
        have t5 : k ≠ q := by omega
        have t6 : q ≠ k := by omega
        obtain ⟨zk, hzk⟩ : ∃ zk, zk = zs.getD k 0 := ⟨_, rfl⟩
        obtain ⟨zq, hzq⟩ : ∃ zq, zq = zs.getD q 0 := ⟨_, rfl⟩
        rw [← hzk] at c1 X
        rw [← hzq] at c2 X
        rw [hqi] at hlt' ⊢
        have HQ := Lib.hid hq
        have HQI := Lib.hid hqi
        clear hq hqi ho hon e1 e2 hs1 hs2 hzk hzq h hl
        go_wp2
        go_region
        all_goals
          go_wp2
          go_roundw
          case rel =>
            have := HQI.out
            exact ⟨k + 1, by omega, by go_num, by rw [← HQI.out]; go_num, _, m + 1, rfl, X.out⟩
          case measure => simp [intOf]; omega
      · have hlt' : ¬ (k : Int) < (n : Int) - 1 - (k : Int) := by omega
        have hE : Hid (revK zs k = zs.reverse) := Lib.hid (revK_end (by omega))
        clear h hl
        go_wp2
        go_end0
        rw [hE.out] at ho
        exact ⟨rfl, ⟨ho, fun z hz => HWF.out z (List.mem_reverse.1 hz)⟩, w0, m, rfl, hon⟩
theorem clone_any {B : Nat} (A : Option Addr) (n c : Nat) (zs : List Int) (w : World) (hr : RowB .i64 B w A n zs) (hn0 : 0 < n) (hn : n ≤ 1048576) :
    Calls Try.prog 96 #[.slice A n c] w (Made w.heap.size n zs w) := by
  obtain ⟨i0, hi, hz0, hz1, hz2⟩ := info_parts info64
  have hl := hr.len
  obtain ⟨b, off, rfl, _, hc1⟩ := hr.2.2.2 hn0
  refine (Try.slices_Clone i0 (.int .i64 0) 1 8 hi hz0 hz1 hz2 rfl (by decide) (fun w => by kernel_rfl) b off n c (cells64 zs) w (by simp [cells64, hl]) (by unfold maxLen; omega) (by omega) ?_ ?_).mono ?_
  · intro j u hu
    have hj := (List.getElem?_eq_some_iff.1 hu).1
    have hj : j < zs.length := by simpa [cells64] using hj
    have h3 := hc1 j (by omega)
    rw [h3, ← hu]
    simp [cells64, List.getElem?_eq_getElem hj, List.getD]
  · intro u hu
    obtain ⟨z, _, rfl⟩ := List.mem_map.1 hu
    rfl
  · rintro e w' ⟨v', rfl, ho, _, hb⟩
    obtain ⟨A', c', rfl⟩ : ∃ A' c', v' = .slice A' n c' := by
      rcases ho.2 with ⟨hv, hn⟩ | ⟨g, cap, cur, hv, _⟩
      · exact ⟨_, _, by rw [hv, hn]⟩
      · exact ⟨_, _, hv⟩
    exact ⟨_, _, rfl, ⟨ho, hr.2.2.1⟩, hb⟩
end Go.Proofs.Ytakkehjfdeghoab
