/-
  What a script makes of two words, by the program, and the law's walk.
-/
import Derived.Test.YtiegaebnlikjiaaDoorApM
import Derived.BigRegion
import Derived.Deep.CutRange
import Derived.Test.YtiegaebnlikjiaaDoorEdI
import Derived.Test.YtiegaebnlikjiaaDoorDigits
namespace Go.Proofs.YtiegaebnlikjiaaDoor
open Go Go.RowKit

theorem cut_cut (a : ByteArray) {i A : Nat} : (a.extract i a.size).extract A (a.extract i a.size).size = a.extract (i + A) a.size := by
  have h : ∀ (s : ByteArray) (k : Nat), (s.extract k s.size).data.toList = s.data.toList.drop k := by
    intro s k
    simp only [ByteArray.data_extract, Array.toList_extract, List.extract_eq_take_drop]
    exact List.take_of_length_le (by simp)
  have e : ∀ (u v : ByteArray), u.data.toList = v.data.toList → u = v := by
    intro u v hh
    obtain ⟨⟨u⟩⟩ := u
    obtain ⟨⟨v⟩⟩ := v
    simp at hh
    rw [hh]
  apply e
  rw [h, h, h, List.drop_drop]
theorem cut_all (a : ByteArray) : a = a.extract 0 a.size := by simp
theorem cut_size (a : ByteArray) (i : Nat) : (a.extract i a.size).size = a.size - i := by simp
theorem ed_20' {a b : ByteArray} (h : (wordB a 36 && wordB b 36) = true) : a.size ≤ 20 ∧ b.size ≤ 20 := by
  unfold wordB at h
  simp only [Bool.and_eq_true, decide_eq_true_eq] at h
  exact ⟨h.1.2.1, h.2.2.1⟩
set_option maxRecDepth 1000000 in
set_option maxHeartbeats 8000000 in
theorem implApply_any (s a b : ByteArray) (w : World) (hM : HeldM w) (ha : a.size ≤ maxLen) (hb : b.size ≤ maxLen) :
    Calls Tryd.prog 13 #[.string s, .string a, .string b] w fun e w' => e = twoS (apV s a b) (apOk s a b) ∧ Below w.heap.size w w' := by
  have CW := fun W g h0 h1 => areWords_any a b g W ha hb h0 h1
  rcases hok : (wordB a 36 && wordB b 36) with _ | _
  · rw [hok] at CW
    have H := Lib.hid hok
    clear hok
    go_enter Tryd.func13, Tryd.ntmps13
    go_wp2_with (go_at_call 24; (with_reducible refine (CW _ _ (by simp) (by simp)).mono ?_); rintro e w1 ⟨rfl, b1⟩)
    go_ret2
    exact ⟨twoS_bad H.out, ((Below.refl _ w).alloc (Nat.le_refl _) _).trans (b1.mono (by simp))⟩
  · have HW := Lib.hid hok
    rw [hok] at CW
    obtain ⟨ha20, hb20⟩ := ed_20' hok
    obtain ⟨AP, hAP⟩ : ∃ AP, AP = apS a b s.data.toList 0 0 := ⟨_, rfl⟩
    have HAP := Lib.hid hAP
    have hap0 : Hid (AP = apS a b (s.data.toList.drop 0) 0 0) := Lib.hid (by rw [List.drop_zero]; exact hAP)
    have HM := Lib.hid hM
    clear hok ha hb hAP hM
    go_enter Tryd.func13, Tryd.ntmps13
    go_wp2_with (go_at_call 24; (with_reducible refine (CW _ _ (by simp) (by simp)).mono ?_); rintro e w1 ⟨rfl, b1⟩)
    have bel1 : Below w.heap.size w w1 := ((Below.refl _ w).alloc (Nat.le_refl _) _).trans (b1.mono (by simp))
    have HB1 := Lib.hid bel1
    clear b1 CW
    go_wp2_with fail
    go_loopw [8, 9, 11, 12, 13] (fun s8 s9 _ _ _ wr => ∃ (p i k : Nat) (u v : ByteArray), p ≤ s.size ∧ s8 = .string u ∧ s9 = .string v ∧ Hid (u = a.extract i a.size ∧ v = b.extract k b.size) ∧ i ≤ a.size ∧ k ≤ b.size ∧ wr.heap[w1.heap.size]? = some (.stringIter s p) ∧ Hid (AP = apS a b (s.data.toList.drop p) i k) ∧ Below w.heap.size w wr) (fun _ _ _ _ _ wr => s.size - wr.iterPos w1.heap.size)
    case atStart => exact ⟨0, 0, 0, a, b, by omega, rfl, rfl, Lib.hid ⟨cut_all a, cut_all b⟩, by omega, by omega, World.iter_heap w1 s 0, hap0, bel1.alloc bel1.size _⟩
    case round =>
      obtain ⟨p, i, k, u, v, hp, rfl, rfl, huv, hi, hk, hit, hap, hbel⟩ := hrel
      have hus : u.size = a.size - i := by rw [huv.out.1]; exact cut_size a i
      have hvs : v.size = b.size - k := by rw [huv.out.2]; exact cut_size b k
      have hpos0 := Lib.hid (iterPos_of hit)
      have hitl : w1.heap.size < wr.heap.size := (Array.getElem?_eq_some_iff.1 hit).1
      by_cases hlt : p < s.size
      · by_cases hasc : s[p].toNat < 128
        · have hnx : ∀ ty, (Instr.next (.pointer (some ⟨w1.heap.size, 0, none⟩)) true ty).run Tryd.prog wr = _ := fun ty => Lib.run_next_ascii_at wr w1.heap.size s p ty hit hlt hasc
          have hit2 := Lib.iterAt_heap wr w1.heap.size s p (p + 1) hit
          have hbw2 := Lib.below_iterAt hbel (k := w1.heap.size) HB1.out.size s (p + 1)
          obtain ⟨W1, hW1⟩ : ∃ W1, W1 = wr.iterAt w1.heap.size s (p + 1) := ⟨_, rfl⟩
          rw [← hW1] at hnx hbw2 hit2
          have CM := moveFor_any s[p].toNat W1 (HM.out.below hbw2 HM.out.lt)
          rcases hlm : ltN s[p].toNat with _ | m
          · have HN : Hid (AP = false) := Lib.hid (by rw [hap.out, aps_none hlt hlm])
            unfold mvOr at CM
            rw [hlm] at CM
            unfold zeroM at CM
            obtain ⟨q, hq⟩ : ∃ q, q = s[p].toNat := ⟨_, rfl⟩
            rw [← hq] at hnx CM hasc
            have HB2 := Lib.hid hbw2
            clear hW1 hlm hap hq hit hbel hbw2 hit2
            go_wp2_with fail
            (go_at_call 27; (with_reducible refine (CM).mono ?_); rintro e w2 ⟨rfl, b2⟩)
            have HB3 := Lib.hid (HB2.out.trans (b2.mono HB2.out.size))
            have HB4 := Lib.hid (HB3.out.alloc HB3.out.size (.cells #[.int .i32 0, .int .i64 0, .int .i64 0, .int .i64 0] 51))
            clear b2
            go_wp2_with fail
            go_ret2
            exact ⟨twoS_no HW.out (by rw [← HAP.out]; exact HN.out), HB4.out⟩
          · obtain ⟨hm5, _⟩ := ltN_5 hlm
            have hfr := fit_rest a b i k m
            rw [← huv.out.1, ← huv.out.2] at hfr
            have CF0 := fun W => fits_any m hm5 u v W (by omega) (by omega)
            rw [hfr] at CF0
            have HIN := fun hf => fit_in (m := m) hi hk hf
            have HAS := Lib.hid (aps_some (a := a) (b := b) (i := i) (k := k) hlt hlm)
            unfold mvOr at CM
            rw [hlm] at CM
            dsimp only at CM
            unfold mvCs at CM CF0
            obtain ⟨q, hq⟩ : ∃ q, q = s[p].toNat := ⟨_, rfl⟩
            rw [← hq] at hnx CM hasc
            have HB2 := Lib.hid hbw2
            have HIT2 := Lib.hid hit2
            have lit2 : w1.heap.size < W1.heap.size := (Array.getElem?_eq_some_iff.1 hit2).1
            generalize mvL m = L at *
            generalize mvC m = C at *
            generalize mvA m = A at *
            generalize mvB m = B at *
            clear hW1 hlm hq hit hbel hbw2 hit2 hfr
            have CF := CF0
            clear CF0
            go_wp2_with fail
            (go_at_call 27; (with_reducible refine (CM).mono ?_); rintro e w2 ⟨rfl, b2⟩)
            have HB3 := Lib.hid (HB2.out.trans (b2.mono HB2.out.size))
            have HIT3 : Hid (w2.heap[w1.heap.size]? = some (.stringIter s (p + 1))) := Lib.hid ((b2.block _ lit2).trans HIT2.out)
            have lit3 : w1.heap.size < w2.heap.size := by have := b2.size; omega
            obtain ⟨w3, hw3⟩ : ∃ w3, w3 = w2.alloc (.cells #[.int .i32 (L : Int), .int .i64 (C : Int), .int .i64 (A : Int), .int .i64 (B : Int)] 51) := ⟨_, rfl⟩
            have bm : Blk w3 w2.heap.size #[.int .i32 (L : Int), .int .i64 (C : Int), .int .i64 (A : Int), .int .i64 (B : Int)] 51 := by rw [hw3]; exact Blk.new _ _ _
            have bel3 : Below w2.heap.size w2 w3 := by rw [hw3]; exact (Below.refl _ w2).alloc (Nat.le_refl _) _
            obtain ⟨gm, hgm⟩ : ∃ gm, gm = w2.heap.size := ⟨_, rfl⟩
            have HB4 := Lib.hid (HB3.out.trans (bel3.mono HB3.out.size))
            have HIT4 : Hid (w3.heap[w1.heap.size]? = some (.stringIter s (p + 1))) := Lib.hid ((bel3.block _ lit3).trans HIT3.out)
            have lit4 : w1.heap.size < w3.heap.size := by have := bel3.size; omega
            rw [← hgm] at bm
            have m0 := bm.cell 0
            have m1 := bm.cell 1
            have m2 := bm.cell 2
            have m3 := bm.cell 3
            have lm := bm.lt
            clear b2 bel3
            go_upto_region 8 with fail
            rw [← hw3, ← hgm]
            clear hw3 hgm
            rcases hfit : fitM a b i k m with _ | _
            · have HN : Hid (AP = false) := Lib.hid (by rw [hap.out, HAS.out, hfit, Bool.false_and])
              rw [hfit] at CF
              clear hfit hap HIN
              go_wp2_with (go_at_call 28; (with_reducible refine (CF _).mono ?_); rintro e w5 ⟨rfl, b5⟩)
              go_ret2
              exact ⟨twoS_no HW.out (by rw [← HAP.out]; exact HN.out), HB4.out.trans (b5.mono HB4.out.size)⟩
            · obtain ⟨hiA, hkB⟩ := HIN hfit
              rw [hfit] at CF
              have HN : Hid (AP = apS a b (s.data.toList.drop (p + 1)) (i + A) (k + B)) := Lib.hid (by rw [hap.out, HAS.out, hfit, Bool.true_and])
              clear hfit hap HIN
              go_wp2_with fail
              (go_at_call 28; (with_reducible refine (CF _).mono ?_); rintro e w5 ⟨rfl, b5⟩)
              have n2 := (b5.cell (p := ⟨gm, 2, none⟩) lm).trans m2
              have n3 := (b5.cell (p := ⟨gm, 3, none⟩) lm).trans m3
              have HB5 := Lib.hid (HB4.out.trans (b5.mono HB4.out.size))
              have HIT5 : Hid (w5.heap[w1.heap.size]? = some (.stringIter s (p + 1))) := Lib.hid ((b5.block _ lit4).trans HIT4.out)
              have hA : A ≤ u.size := by omega
              have hBv : B ≤ v.size := by omega
              have HUV : Hid (u.extract A (a.size - i) = a.extract (i + A) a.size ∧ v.extract B (b.size - k) = b.extract (k + B) b.size) := Lib.hid (by
                rw [← hus, ← hvs, huv.out.1, huv.out.2]
                exact ⟨cut_cut a, cut_cut b⟩)
              have HPX : Hid (w5.iterPos w1.heap.size = p + 1) := Lib.hid (iterPos_of HIT5.out)
              clear b5 m0 m1 m2 m3
              go_wp2_with fail
              go_quiet (fail)
              go_wp2_with fail
              go_roundw
              case rel => exact ⟨p + 1, i + A, k + B, _, _, by omega, rfl, rfl, HUV, hiA, hkB, HIT5.out, HN, below_drewN HB5.out _⟩
              case measure =>
                have h1 := HPX.out
                have h2 := hpos0.out
                show s.size - w5.iterPos w1.heap.size < _
                omega
        · have hd := decode_high s p hlt (by omega)
          have hnx : ∀ ty, (Instr.next (.pointer (some ⟨w1.heap.size, 0, none⟩)) true ty).run Tryd.prog wr = _ := fun ty => Lib.run_next_any_at wr w1.heap.size s p ty hit hlt
          have hbw2 := Lib.below_iterAt hbel (k := w1.heap.size) HB1.out.size s (p + (Utf8.decode s p).2)
          obtain ⟨W1, hW1⟩ : ∃ W1, W1 = wr.iterAt w1.heap.size s (p + (Utf8.decode s p).2) := ⟨_, rfl⟩
          rw [← hW1] at hnx hbw2
          obtain ⟨q, hq⟩ : ∃ q, q = (Utf8.decode s p).1 := ⟨_, rfl⟩
          rw [← hq] at hnx hd
          have CM := moveFor_any q W1 (HM.out.below hbw2 HM.out.lt)
          have hlq := ltN_high hd.1
          have HN : Hid (AP = false) := Lib.hid (by rw [hap.out, aps_none hlt (ltN_high (by omega))])
          unfold mvOr at CM
          rw [hlq] at CM
          unfold zeroM at CM
          have HB2 := Lib.hid hbw2
          clear hW1 hap hq hit hbel hbw2 hlq hd hasc
          go_wp2_with fail
          (go_at_call 27; (with_reducible refine (CM).mono ?_); rintro e w2 ⟨rfl, b2⟩)
          have HB3 := Lib.hid (HB2.out.trans (b2.mono HB2.out.size))
          have HB4 := Lib.hid (HB3.out.alloc HB3.out.size (.cells #[.int .i32 0, .int .i64 0, .int .i64 0, .int .i64 0] 51))
          clear b2
          go_wp2_with fail
          go_ret2
          exact ⟨twoS_no HW.out (by rw [← HAP.out]; exact HN.out), HB4.out⟩
      · have HE : Hid (AP = decide (i = a.size ∧ k = b.size)) := Lib.hid (by rw [hap.out, aps_end hlt])
        have hnx : ∀ ty, (Instr.next (.pointer (some ⟨w1.heap.size, 0, none⟩)) true ty).run Tryd.prog wr = _ := fun ty => Lib.run_next_end_at wr w1.heap.size s p ty hit hlt
        clear hap
        by_cases h1 : u.size = 0
        · have t1 := toList_nil h1
          by_cases h2 : v.size = 0
          · have t2 := toList_nil h2
            have HN : Hid (AP = true) := Lib.hid (by rw [HE.out]; simp; omega)
            go_wp2_with fail
            go_ret2
            exact ⟨twoS_yes HW.out (by rw [← HAP.out]; exact HN.out), hbel⟩
          · have t2 := toList_some h2
            have HN : Hid (AP = false) := Lib.hid (by rw [HE.out]; simp; omega)
            go_wp2_with fail
            go_ret2
            exact ⟨twoS_no HW.out (by rw [← HAP.out]; exact HN.out), hbel⟩
        · have t1 := toList_some h1
          have HN : Hid (AP = false) := Lib.hid (by rw [HE.out]; simp; omega)
          go_wp2_with fail
          go_ret2
          exact ⟨twoS_no HW.out (by rw [← HAP.out]; exact HN.out), hbel⟩
end Go.Proofs.YtiegaebnlikjiaaDoor
