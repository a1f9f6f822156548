/-
  The program's copy of a table.
-/
import Derived.Test.YtiokcflomchdcabOwn3
import Derived.Laws.CopyOwn
namespace Go.Proofs.Ytiokcflomchdcab
open Go.RowKit

theorem Part2.step {B G n k nj c' : Nat} {w w' : World} {L : List SL} {zss : List (List Int)} {zs : List Int} {A' : Option Addr} (hp : Part2 B G w n k L zss) (hlt : k < n) (hl : zss.length = n) (hG : G < w.heap.size) (hB : B ≤ w.heap.size)
    (hz : zss[k]? = some zs) (ho : Own w.heap.size w' A' nj c' zs) (hout : w'.ownsRow B 38 1 (.slice (some ⟨G, 0, none⟩) n n) n ((L.map sliceV ++ List.replicate (n - k) nilV).set k (.slice A' nj c')))
    (hkeep : ∀ g, g < w.heap.size → g ≠ G → w'.heap[g]? = w.heap[g]?) : Part2 B G w' n (k + 1) (L ++ [(A', nj, c')]) zss := by
  have hlen := hp.len
  have hnew : ∀ (j : Nat) (t : SL) (g : Nat), L[j]? = some t → t.1 = some ⟨g, 0, none⟩ → g < w.heap.size ∧ g ≠ G := by
    intro j t g ht hg
    have hj := (List.getElem?_eq_some_iff.1 ht).1
    have hzj : zss[j]? = some (zss[j]'(by omega)) := List.getElem?_eq_getElem _
    have hi1 := hp.inner j t _ ht hzj
    refine ⟨hi1.lt g hg, fun e => ?_⟩
    subst e
    exact own_ne hi1.1 hp.outer (by decide) _ hg rfl
  have hown_ne := ho.from
  refine ⟨?_, by simp [hlen], ?_, ?_⟩
  · rw [rep_set (by simp [hlen]) hlt] at hout
    simpa using hout
  · intro j t zs' ht hz'
    rcases snoc_cases ht with ⟨ht, _⟩ | ⟨rfl, rfl⟩
    · refine (hp.inner j t zs' ht hz').keep fun g hg => ?_
      have h2 := hnew j t g ht hg
      exact hkeep g h2.1 h2.2
    · have e : zs' = zs := by rw [← hlen, hz'] at hz; exact Option.some.inj hz
      subst e
      exact ho.lower hB
  · intro i j s t g hs ht hij hg
    rcases snoc_cases hs with ⟨h1, _⟩ | ⟨rfl, rfl⟩ <;> rcases snoc_cases ht with ⟨h2, _⟩ | ⟨rfl, rfl⟩
    · exact hp.apart i j s t g h1 h2 hij hg
    · intro e
      have := hnew i s g h1 hg; have := hown_ne g e; omega
    · intro e
      have := hnew j t g h2 e; have := hown_ne g hg; omega
    · exact absurd rfl hij
theorem Part2.done {B G n : Nat} {w : World} {L : List SL} {zss : List (List Int)} (hp : Part2 B G w n n L zss) (hl : zss.length = n) : Own2 B w (some ⟨G, 0, none⟩) n n L zss := by
  have hlen := hp.len
  refine ⟨?_, by omega, hp.inner, hp.apart, ?_⟩
  · have := hp.outer
    simpa using this
  · intro j t g ht hg
    have hj := (List.getElem?_eq_some_iff.1 ht).1
    have hzj : zss[j]? = some (zss[j]'(by omega)) := List.getElem?_eq_getElem _
    exact own_ne (hp.inner j t _ ht hzj).1 hp.outer (by decide) g hg
/-- A row of full capacity is its block. -/
theorem own_block {B g n : Nat} {w : World} {t : TypeId} {xs : List Value} (h : w.ownsRow B t 1 (.slice (some ⟨g, 0, none⟩) n n) n xs) : w.heap[g]? = some (.cells xs.toArray t (0, 0)) := by
  rcases h.2 with ⟨hv, _⟩ | ⟨g', cap, cur, hv, _, hg, _, _, hs, ht⟩
  · cases hv
  · injection hv with h1 h2 h3
    injection h1 with h1
    injection h1 with h1
    subst h1; subst h3
    rw [List.take_of_length_le (by rw [Array.length_toList]; omega)] at ht
    rw [hg, ← ht]

set_option maxRecDepth 100000 in
set_option maxHeartbeats 2000000 in
theorem copied_any {B0 : Nat} (A : Option Addr) (n c : Nat) (zss : List (List Int)) (w : World) (hr : Rows2 B0 w A n zss) (hB0 : B0 ≤ w.heap.size) (hn : n ≤ 1048576) (hs : ∀ zs ∈ zss, zs.length ≤ 1048576) :
    Calls Try.prog 78 #[.slice A n c] w (Made2 w.heap.size n zss w) := by
  obtain ⟨i0, hi, hz0, hz1, hz2⟩ := info_parts infoS
  obtain ⟨iZ, hiZ, hzZ0, hzZ1, hzZ2⟩ := info_parts info64
  have hle := hr.le
  go_enter Try.func78, Try.ntmps78
  go_wp2_with (refine wpList_make_full _ rfl _ _ 82 rfl w.heap.size 38 i0 nilV 1 Try.underlying82 hi hz0 hz1 .i64 .i64 n n n rfl rfl rfl rfl ?c1 ?c2 (Nat.le_refl _) ?_)
  case c1 => rw [hz2]; omega
  case c2 => unfold maxLen; omega
  intro w1 hown hg
  have hbel : Below w.heap.size w w1 := (Below.refl _ w).grown hg (Nat.le_refl _) (fun k hk => by cases hk)
  have hpart : Part2 w.heap.size w.heap.size w1 n 0 [] zss := by
    refine ⟨?_, rfl, fun j t zs h => by simp at h, fun i j s t g h => by simp at h⟩
    have e : ([] : List SL).map sliceV ++ List.replicate (n - 0) nilV = (madeCells #[nilV] n).toList := by
      simp [toList_madeCells_one]
    rw [e]; exact hown
  clear hown
  go_wp2
  go_loopw [4, 5, 11] (fun _ _ i wr => ∃ k : Nat, k ≤ n ∧ i = .int .i64 k ∧ ∃ L, Hid (Part2 w.heap.size w.heap.size wr n k L zss) ∧ Below w.heap.size w wr) (fun _ _ i _ => n - (intOf i).toNat)
  case atStart => exact ⟨0, by omega, rfl, [], Lib.hid hpart, hbel⟩
  case round =>
    obtain ⟨k, hk, rfl, L, hp, hb⟩ := hrel
    obtain ⟨W, rfl⟩ : ∃ W, W = wr := ⟨_, rfl⟩
    by_cases hlt : k < n
    · obtain ⟨b, off, Aj, nj, cj, zs, rfl, hbb, hz, hc, hcap, hrow⟩ := (Rows2.below (hr.more hB0) hb).2.2 k hlt
      have hnj : nj ≤ 1048576 := by rw [← hrow.len]; exact hs _ (List.mem_of_getElem? hz)
      have HZ := Lib.hid hz
      have HR := Lib.hid hrow
      have hG : w.heap.size < W.heap.size := by
        rcases ownsRow_form hp.out.outer with ⟨h0, _⟩ | ⟨g, hA, _, hl, _⟩
        · cases h0
        · injection hA with hA; injection hA with hA; omega
      clear hz hrow hpart
      go_wp2_with (refine wpList_make_full _ rfl _ _ 38 rfl W.heap.size 2 iZ (.int .i64 0) 1 Try.underlying38 hiZ hzZ0 hzZ1 .i64 .i64 nj nj nj rfl rfl rfl rfl ?m1 ?m2 (Nat.le_refl _) ?_)
      case m1 => rw [hzZ2]; omega
      case m2 => unfold maxLen; omega
      intro w2 hrow hg2
      have hb2 : Below W.heap.size W w2 := (Below.refl _ W).grown hg2 (Nat.le_refl _) (fun k hk => by cases hk)
      have e2 : (madeCells #[Value.int .i64 0] nj).toList = cells64 (List.replicate nj 0) := by simp [cells64, toList_madeCells_one]
      rw [e2] at hrow
      have hout : w2.ownsRow w.heap.size 38 1 (.slice (some ⟨w.heap.size, 0, none⟩) n n) n (L.map sliceV ++ List.replicate (n - k) nilV) :=
        ownsRow_keep hp.out.outer fun g hg => hb2.block g (by injection hg with hg; injection hg with hg; omega)
      have hlen := hp.out.len
      have hc2 : w2.cell? ⟨w.heap.size, k, none⟩ = some nilV := by
        rw [hout.cellAt k (by omega), List.getElem?_append_right (by simp [hlen])]
        simp [hlen, List.getElem?_replicate]; omega
      have hfr := hout.frozenAt k
      have HST := Lib.hid (hout.stored k (.slice (some ⟨W.heap.size, 0, none⟩) nj nj))
      have HROW := Lib.hid hrow
      have HB2 := Lib.hid hb2
      clear hrow hg2 e2 hb2 hout
      obtain ⟨WS, hWS⟩ : ∃ WS, WS = w2.setCell ⟨w.heap.size, k, none⟩ (.slice (some ⟨W.heap.size, 0, none⟩) nj nj) := ⟨_, rfl⟩
      have HS : Own W.heap.size WS (some ⟨W.heap.size, 0, none⟩) nj nj (List.replicate nj 0) := by
        refine (show Own W.heap.size w2 (some ⟨W.heap.size, 0, none⟩) nj nj (List.replicate nj 0) from ⟨HROW.out, fun z hz => by rw [List.eq_of_mem_replicate hz]; rfl⟩).keep fun g hg => ?_
        rw [hWS]
        exact Below.heap_setCell w2 _ _ g (by injection hg with hg; injection hg with hg; show g ≠ w.heap.size; omega)
      have hcell : WS.heap[W.heap.size]? = some (.cells (cells64 (List.replicate nj 0)).toArray 2 (0, 0)) := own_block HS.1
      have hrs : RowB .i64 w.heap.size WS Aj nj zs := HR.out.below (by rw [hWS]; exact (HB2.out.mono hb.size).setCell (Nat.le_refl _) _)
      have hzl := HR.out.len
      rw [hWS] at hcell hrs
      have HWS := Lib.hid hWS
      clear hWS HS
      go_wp2_with (refine wpList_copy_splice (o := ⟨some 27, _, _, _, _, _⟩) rfl (.tmp 25) (.tmp 26) 38 38 rfl 2 Try.underlying38 ?k0 (some ⟨W.heap.size, 0, none⟩) Aj nj nj nj cj rfl rfl W.heap.size 0 (cells64 (List.replicate nj 0)) 2 hcell (cells64 zs) ?k1 ?k2 ?k3 ?k4 W.heap.size (w2.setCell ⟨w.heap.size, k, none⟩ (.slice (some ⟨W.heap.size, 0, none⟩) nj nj)) (Below.refl _ _) (Nat.le_refl _) ?_)
      case k0 => rw [hiZ]; simp [hzZ1]
      case k1 => simp [cells64, hzl]
      case k2 =>
        intro h0
        have h0 : 0 < nj := by simpa [cells64, hzl] using h0
        obtain ⟨b1, o1, e1, _, hc1⟩ := hrs.2.2.2 h0
        refine ⟨_, e1, fun j v hv => ?_⟩
        have hj := (List.getElem?_eq_some_iff.1 hv).1
        have hj : j < zs.length := by simpa [cells64] using hj
        have h3 := hc1 j (by omega)
        rw [show (⟨b1, o1, none⟩ : Addr).add j = ⟨b1, o1 + j, none⟩ by simp [Addr.add], h3]
        simp [List.getElem?_eq_getElem hj, List.getD] at hv ⊢
        exact hv
      case k3 => simp [cells64, hzl]
      case k4 =>
        intro v hv
        obtain ⟨z, _, rfl⟩ := List.mem_map.1 hv
        rfl
      intro w3 HG3 hb3
      go_wp2_with fail
      go_roundw
      case rel =>
        have hw3 : w3.heap.size = w3.heap.size := rfl
        have hbw : Below w.heap.size W w3 := ((HB2.out.mono hb.size).setCell (Nat.le_refl _) _).trans (hb3.mono hb.size)
        have eS : splice (List.replicate nj (Value.int .i64 0)) 0 (cells64 zs) = cells64 zs := by
          unfold splice
          rw [List.take_zero, List.nil_append, List.drop_of_length_le (by simp [cells64, hzl]), List.append_nil]
        have ho : Own W.heap.size w3 (some ⟨W.heap.size, 0, none⟩) nj nj zs := by
          have h4 := HG3.out
          rw [eS] at h4
          refine ⟨⟨by simp [cells64, hzl], .inr ⟨W.heap.size, nj, _, rfl, Nat.le_refl _, h4, Nat.le_refl _, by unfold maxLen; omega, by simp [cells64, hzl], ?_⟩⟩, hrs.2.2.1⟩
          rw [List.take_of_length_le (by simp [cells64, hzl])]
        refine ⟨k + 1, by omega, by go_num, L ++ [(some ⟨W.heap.size, 0, none⟩, nj, nj)], Lib.hid (hp.out.step hlt hr.len hG hb.size HZ.out ho ?_ ?_), hb.trans hbw⟩
        · refine ownsRow_keep HST.out.1 fun g hg => hb3.block g ?_
          injection hg with hg; injection hg with hg; omega
        · intro g h1 h2
          rw [hb3.block g h1, Below.heap_setCell w2 ⟨w.heap.size, k, none⟩ _ g (fun e => h2 e), HB2.out.block g h1]
      case measure => simp [intOf]; omega
    · obtain rfl : k = n := by omega
      go_wp2
      go_ret
      exact ⟨_, _, L, rfl, hp.out.done hr.len, hb⟩
end Go.Proofs.Ytiokcflomchdcab
