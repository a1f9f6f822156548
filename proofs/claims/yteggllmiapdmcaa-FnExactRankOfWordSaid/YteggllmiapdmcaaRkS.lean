/-
  RankOfWord, of the model.
-/
import Derived.Test.YteggllmiapdmcaaRkM
import Derived.Test.YteggllmiapdmcaaEnds
namespace Go.Proofs.Yteggllmiapdmcaa
open Go Go.RowKit

set_option maxRecDepth 100000 in
set_option maxHeartbeats 4000000 in
theorem specRank_any {B : Nat} (c : Ch) (AT AP : Option Addr) (nT cT nP cP : Nat) (t : ByteArray) (w : World) (hr : ChRows B w c AT nT AP nP) (hB : B ≤ w.heap.size) (ht : t.size ≤ maxLen) :
    Calls Try.prog 40 #[chV c AT nT cT AP nP cP, .string t] w fun e w' => e = two (rkV c t) (c.chk t) ∧ Below w.heap.size w w' := by
  obtain ⟨w1, hw1⟩ : ∃ w1, w1 = w.alloc (.cells (chCells c AT nT cT AP nP cP) 48) := ⟨_, rfl⟩
  have bel : Below w.heap.size w w1 := by rw [hw1]; exact (Below.refl _ w).alloc (Nat.le_refl _) _
  have b1 : Blk w1 w.heap.size (chCells c AT nT cT AP nP cP) 48 := by rw [hw1]; exact Blk.new _ _ _
  have r1 := hr.below (bel.mono hB)
  have CC := l02Checked_any c AT AP nT cT nP cP t w1 b1 r1 (Nat.le_trans hB bel.size) ht
  have BEL := Lib.hid bel
  have B1 := Lib.hid b1
  have R1 := Lib.hid r1
  clear bel b1 r1 hr
  rcases hq : c.chk t with _ | _
  · rw [hq] at CC
    have HO := Lib.hid (rkV_no hq)
    clear hq
    go_enter Try.func40, Try.ntmps40
    go_wp2_with fail
    rw [← hw1]
    have HW1 := Lib.hid hw1
    clear hw1
    (go_at_call 84; (with_reducible refine (CC).mono ?_); rintro e w2 ⟨rfl, be2⟩)
    have HB2 := Lib.hid (BEL.out.trans (be2.mono BEL.out.size))
    clear CC be2
    go_wp2_with fail
    go_ret2
    exact ⟨two_eq HO.out.symm rfl, HB2.out⟩
  · rw [hq] at CC
    obtain ⟨hok, hsz, hwd⟩ := both_ok (chk_both hq)
    obtain ⟨bs, s, n, f⟩ := Ch.fine hok
    obtain ⟨x0, hx0⟩ : ∃ x0 : Nat, c.start = x0 := ⟨c.start.toNat, by have := f.start0; omega⟩
    have hxs : x0 < s := by have := f.start; omega
    have htn : t.size = n := by rw [hsz, f.len]
    have hn20 := f.n20
    have hs36 := f.s36
    have hb36 := f.b36
    have ht20 : t.size ≤ 1048576 := by omega
    have HO := Lib.hid (rkV_yes hq f hx0)
    rw [f.base] at hwd
    have HDS := Lib.hid (dn_lt hwd)
    have HDI := Lib.hid (digs_ints hwd)
    have HDL : Hid ((dn t).length = n) := Lib.hid (by rw [dn_len, htn])
    have CD : ∀ W, Calls Try.prog 85 #[.string t] W (Made W.heap.size t.size (digs t.data.toList) W) := fun W => l01Digits_any t W ht20
    rw [htn] at CD
    have HX0 := Lib.hid hx0
    have F := Lib.hid f
    clear hq hok hsz hwd f hx0 htn ht20
    go_enter Try.func40, Try.ntmps40
    go_wp2_with fail
    rw [← hw1]
    have HW1 := Lib.hid hw1
    clear hw1
    (go_at_call 84; (with_reducible refine (CC).mono ?_); rintro e w2 ⟨rfl, be2⟩)
    have B2 := Lib.hid (B1.out.below be2 B1.out.lt)
    have BEL2 := Lib.hid (BEL.out.trans (be2.mono BEL.out.size))
    have R2 := Lib.hid (R1.out.below (be2.mono (Nat.le_trans hB BEL.out.size)))
    have CE := l02Ends_any c AT AP nT cT nP cP w2 B2.out R2.out (Nat.le_trans hB BEL2.out.size) F.out
    unfold EndsPost at CE
    clear CC be2
    go_wp2_with fail
    (go_at_call 76; (with_reducible refine (CE).mono ?_); rintro e w3 ⟨A1, c1, LL, rfl, ho1, be3⟩)
    have B3 := Lib.hid (B2.out.below be3 B2.out.lt)
    have BEL3 := Lib.hid (BEL2.out.trans (be3.mono BEL2.out.size))
    have R3 := Lib.hid (R2.out.below (be3.mono (Nat.le_trans hB BEL2.out.size)))
    have O3 := Lib.hid ho1
    clear CE be3 ho1
    go_wp2_with fail
    (go_at_call 85; (with_reducible refine (CD _).mono ?_); rintro e w4 ⟨A3, c3, rfl, ho4, be4⟩)
    rw [HDI.out] at ho4
    have B4 := Lib.hid (B3.out.below be4 B3.out.lt)
    have BEL4 := Lib.hid (BEL3.out.trans (be4.mono BEL3.out.size))
    have R4 := Lib.hid (R3.out.below (be4.mono (Nat.le_trans hB BEL3.out.size)))
    have O4 := Lib.hid (O3.out.below be4)
    have D4 := Lib.hid ho4
    have k2 : w4.cell? ⟨w.heap.size, 2, none⟩ = some (.int .i64 (x0 : Int)) := by rw [B4.out.cell 2, ← HX0.out]; rfl
    clear CD be4 ho4
    go_wp2_with fail
    clear k2
    go_loopw [8, 9, 10, 11] (fun rk x i _ wr => ∃ k : Nat, k ≤ n ∧ i = .int .i64 k ∧ (∃ R y : Nat, rk = .int .i64 (R : Int) ∧ x = .int .i64 (y : Int) ∧ Hid (R = c.rank bs n 0 x0 ((dn t).take k)) ∧ Hid (y = c.run 0 x0 ((dn t).take k))) ∧ ∃ q, wr = w4.drewN q) (fun _ _ i _ _ => n - (intOf i).toNat)
    case atStart => exact ⟨0, by omega, rfl, ⟨0, x0, rfl, rfl, Lib.hid (by simp [Ch.rank]), Lib.hid (by simp [Ch.run])⟩, 0, rfl⟩
    case round =>
      obtain ⟨k, hk, rfl, ⟨R, y, rfl, rfl, hR, hy⟩, q, rfl⟩ := hrel
      by_cases hlt : k < n
      · obtain ⟨bd, od, z, rfl, _, hz, hc, _⟩ := (D4.out.row).at_ hlt
        obtain ⟨e, hek, rfl⟩ := ints_at hz
        have heb := HDS.out e (List.mem_of_getElem? hek)
        have hys : y < s := by rw [hy.out]; exact F.out.run_lt _ (by simp; omega) hxs fun a ha => HDS.out a (List.mem_of_mem_take ha)
        have hc : (w4.drewN q).cell? ⟨bd, od + k, none⟩ = some (.int .i64 (e : Int)) := hc
        have HEK := Lib.hid hek
        clear hz hek
        go_wp2_with fail
        go_loopw [8, 11] (fun rk dd wr => ∃ d : Nat, d ≤ e ∧ dd = .int .i64 d ∧ (∃ S : Nat, rk = .int .i64 (S : Int) ∧ Hid (S = R + c.wsum bs n (n - (k + 1)) y d)) ∧ ∃ q, wr = w4.drewN q) (fun _ dd _ => e - (intOf dd).toNat)
        case atStart => exact ⟨0, by omega, rfl, ⟨R, rfl, Lib.hid (by rw [Ch.wsum_zero]; rfl)⟩, q, rfl⟩
        case round =>
          obtain ⟨d, hd, rfl, ⟨S, rfl, hS⟩, q2, rfl⟩ := hrel
          have hc : (w4.drewN q2).cell? ⟨bd, od + k, none⟩ = some (.int .i64 (e : Int)) := hc
          by_cases hltd : d < e
          · have hnx : c.nx k y d < s := (F.out.nx hlt hys (show d < bs by omega)).2.choose_spec.2.2.2
            obtain ⟨g0, g, cr, rfl, _, z1, z2, _, _, _, _, _⟩ := (O4.out.drewN q2).cells (grid_row (F := c.full bs n 0) (show k + 1 < n + 1 by omega)) (row_cell hnx)
            rw [row_len] at z1
            have ew : c.full bs n 0 (k + 1) (c.nx k y d) = c.ways bs n (n - (k + 1)) (c.nx k y d) := by unfold Ch.full; rw [if_pos (by omega)]
            rw [ew] at z2
            have hlim : S + c.ways bs n (n - (k + 1)) (c.nx k y d) ≤ 1000000000000000 := by
              have h := rank_part F.out (x := x0) (by have := HDL.out; omega) HDS.out HEK.out (show d + 1 ≤ e by omega)
              rw [← hR.out, ← hy.out, Ch.wsum_succ, show n - (n - (k + 1) + 1) = k by omega] at h
              have := hS.out
              omega
            have hS2 : Hid (S + c.ways bs n (n - (k + 1)) (c.nx k y d) = R + c.wsum bs n (n - (k + 1)) y (d + 1)) := Lib.hid (by
              rw [Ch.wsum_succ, show n - (n - (k + 1) + 1) = k by omega, hS.out, Nat.add_assoc])
            have CN : ∀ W, W = w4.drewN (q2 + 1) → Calls Try.prog 86 #[.pointer (some ⟨w.heap.size, 0, none⟩), .int .i64 k, .int .i64 y, .int .i64 d] W fun e w' => e = .returned (.int .i64 (c.nx k y d : Nat)) ∧ ∃ m, w' = w4.drewN m := by
              rintro W rfl
              have := l02Next_any c AT AP nT cT nP cP (w4.drewN (q2 + 1)) (B4.out.drewN _) (R4.out.drewN _) F.out k y d hlt hys (by omega)
              exact this.mono fun e w' ⟨he, m, hm⟩ => ⟨he, _, hm.trans (World.drewN_drewN _ _ _)⟩
            generalize c.ways bs n (n - (k + 1)) (c.nx k y d) = V2 at z2 hlim hS2
            obtain ⟨nx, hnxe⟩ : ∃ nx, nx = c.nx k y d := ⟨_, rfl⟩
            rw [← hnxe] at hnx z2 CN
            have f5 : (k : Int) + 1 < ((n + 1 : Nat) : Int) := by omega
            have f4 : (0 : Int) ≤ (k : Int) + 1 := by omega
            have f6 : (0 : Int) ≤ (nx : Int) := by omega
            have f7 : (nx : Int) < (s : Int) := by omega
            have a1 : IntKind.i64.wrap ((k : Int) + 1) = (k : Int) + 1 := IntWalk.i64_in _ (by omega)
            have a2 : ((k : Int) + 1).toNat = k + 1 := by omega
            have a4 : IntKind.i64.wrap ((S : Int) + (V2 : Int)) = (S : Int) + (V2 : Int) := IntWalk.i64_in _ (by omega)
            generalize n + 1 = n1 at f5
            clear ew hnxe
            go_wp2_with fail
-- REG
            refine region_held_n 14 (fun w' => w'.cell? ⟨g0, k + 1, none⟩ = some (.slice (some ⟨g, 0, none⟩) s cr) ∧ w'.cell? ⟨g, nx, none⟩ = some (.int .i64 (V2 : Int))) (by kernel_rfl) (by kernel_rfl) ⟨z1, z2⟩ (fun hS => ?_)
            refine takeD 0 (some 34) (v := ?_) rfl (by kernel_rfl) (by kernel_rfl) (by kernel_rfl) (fun _ _ _ h => h) hS (fun o ho => Or.inl ⟨by cases ho; rfl, ?_⟩) ?_
            rotate_left
            · cases ho
              intro w' hw'
              (try dsimp only at hw')
              go_simp
              (try with_reducible rfl)
            (try simp only [Act.put, List.setIfInBounds_toArray, List.set_cons_zero, List.set_cons_succ])
            refine takeD 1 (some 35) (v := ?_) rfl (by kernel_rfl) (by kernel_rfl) (by kernel_rfl) (fun _ _ _ h => h) hS (fun o ho => Or.inl ⟨by cases ho; rfl, ?_⟩) ?_
            rotate_left
            · cases ho
              intro w' hw'
              (try dsimp only at hw')
              go_simp
              (try with_reducible rfl)
            (try simp only [Act.put, List.setIfInBounds_toArray, List.set_cons_zero, List.set_cons_succ])
            refine takeD 2 (some 36) (v := ?_) rfl (by kernel_rfl) (by kernel_rfl) (by kernel_rfl) (fun _ _ _ h => h) hS (fun o ho => Or.inl ⟨by cases ho; rfl, ?_⟩) ?_
            rotate_left
            · cases ho
              intro w' hw'
              (try dsimp only at hw')
              go_simp
              (try with_reducible rfl)
            (try simp only [Act.put, List.setIfInBounds_toArray, List.set_cons_zero, List.set_cons_succ])
            refine takeD 3 (some 37) (v := ?_) rfl (by kernel_rfl) (by kernel_rfl) (by kernel_rfl) (fun _ _ _ h => h) hS (fun o ho => Or.inl ⟨by cases ho; rfl, ?_⟩) ?_
            rotate_left
            · cases ho
              intro w' hw'
              (try dsimp only at hw')
              go_simp
              (try with_reducible rfl)
            (try simp only [Act.put, List.setIfInBounds_toArray, List.set_cons_zero, List.set_cons_succ])
            refine takeD 4 (some 38) (v := ?_) rfl (by kernel_rfl) (by kernel_rfl) (by kernel_rfl) (fun _ _ _ h => h) hS (fun o ho => Or.inl ⟨by cases ho; rfl, ?_⟩) ?_
            rotate_left
            · cases ho
              intro w' hw'
              (try dsimp only at hw')
              go_simp
              (try with_reducible rfl)
            (try simp only [Act.put, List.setIfInBounds_toArray, List.set_cons_zero, List.set_cons_succ])
            refine takeD 5 (some 39) (v := ?_) rfl (by kernel_rfl) (by kernel_rfl) (by kernel_rfl) (fun _ _ _ h => h) hS (fun o ho => Or.inl ⟨by cases ho; rfl, ?_⟩) ?_
            rotate_left
            · cases ho
              intro w' hw'
              (try dsimp only at hw')
              go_simp
              (try with_reducible rfl)
            (try simp only [Act.put, List.setIfInBounds_toArray, List.set_cons_zero, List.set_cons_succ])
            refine takeD 6 (some 40) (v := ?_) rfl (by kernel_rfl) (by kernel_rfl) (by kernel_rfl) (fun _ _ _ h => h) hS (fun o ho => Or.inl ⟨by cases ho; rfl, ?_⟩) ?_
            rotate_left
            · cases ho
              intro w' hw'
              (try dsimp only at hw')
              go_simp
              (try with_reducible rfl)
            (try simp only [Act.put, List.setIfInBounds_toArray, List.set_cons_zero, List.set_cons_succ])
            refine takeD 7 (some 41) (v := ?_) rfl (by kernel_rfl) (by kernel_rfl) (by kernel_rfl) (fun _ _ _ h => h) hS (fun o ho => Or.inl ⟨by cases ho; rfl, ?_⟩) ?_
            rotate_left
            · cases ho
              intro w' hw'
              (try dsimp only at hw')
              go_simp
              (try with_reducible rfl)
            (try simp only [Act.put, List.setIfInBounds_toArray, List.set_cons_zero, List.set_cons_succ])
            refine takeD 8 (some 42) (v := ?_) rfl (by kernel_rfl) (by kernel_rfl) (by kernel_rfl) (fun _ _ _ h => h) hS (fun o ho => Or.inl ⟨by cases ho; rfl, ?_⟩) ?_
            rotate_left
            · cases ho
              intro w' hw'
              (try dsimp only at hw')
              go_simp
              (try with_reducible rfl)
            (try simp only [Act.put, List.setIfInBounds_toArray, List.set_cons_zero, List.set_cons_succ])
            refine oneD 9 (some 43) (by kernel_rfl) rfl (fun o ho K hK hdo => ?_)
            simp only [List.getElem?_toArray, List.getElem?_cons_succ, List.getElem?_cons_zero, Option.some.injEq] at ho
            subst ho
            clear hdo
            rw [if_pos (by rfl)]
            go_wp2_with fail
            (go_at_call 86; (with_reducible refine (CN _ rfl).mono ?_); rintro e w5 ⟨rfl, m, rfl⟩)
            refine hK.out _ _ ?_ (fun hS => ?_)
            · exact hS
            clear hK K
            (try simp only [Act.put, List.setIfInBounds_toArray, List.set_cons_zero, List.set_cons_succ])
            refine takeD 10 (some 44) (v := ?_) rfl (by kernel_rfl) (by kernel_rfl) (by kernel_rfl) (fun _ _ _ h => h) hS (fun o ho => Or.inl ⟨by cases ho; rfl, ?_⟩) ?_
            rotate_left
            · cases ho
              intro w' hw'
              (try dsimp only at hw')
              go_simp
              (try with_reducible rfl)
            (try simp only [Act.put, List.setIfInBounds_toArray, List.set_cons_zero, List.set_cons_succ])
            refine takeD 11 (some 45) (v := ?_) rfl (by kernel_rfl) (by kernel_rfl) (by kernel_rfl) (fun _ _ _ h => h) hS (fun o ho => Or.inl ⟨by cases ho; rfl, ?_⟩) ?_
            rotate_left
            · cases ho
              intro w' hw'
              (try dsimp only at hw')
              go_simp
              (try with_reducible rfl)
            (try simp only [Act.put, List.setIfInBounds_toArray, List.set_cons_zero, List.set_cons_succ])
            refine takeD 12 (some 46) (v := ?_) rfl (by kernel_rfl) (by kernel_rfl) (by kernel_rfl) (fun _ _ _ h => h) hS (fun o ho => Or.inl ⟨by cases ho; rfl, ?_⟩) ?_
            rotate_left
            · cases ho
              intro w' hw'
              (try dsimp only at hw')
              go_simp
              (try with_reducible rfl)
            (try simp only [Act.put, List.setIfInBounds_toArray, List.set_cons_zero, List.set_cons_succ])
            refine takeD 13 (some 8) (v := ?_) rfl (by kernel_rfl) (by kernel_rfl) (by kernel_rfl) (fun _ _ _ h => h) hS (fun o ho => Or.inl ⟨by cases ho; rfl, ?_⟩) ?_
            rotate_left
            · cases ho
              intro w' hw'
              (try dsimp only at hw')
              go_simp
              (try with_reducible rfl)
            (try simp only [Act.put, List.setIfInBounds_toArray, List.set_cons_zero, List.set_cons_succ])
            refine wpAnyH_done (by kernel_rfl) ?_ _
            clear hS
-- GER
            go_wp2_with fail
            go_roundw
            case rel => exact ⟨d + 1, by omega, by go_num, ⟨S + V2, by go_num, hS2⟩, _, rfl⟩
            case measure => simp [intOf]; omega
          · obtain rfl : e = d := by omega
            obtain ⟨h1, h2⟩ := rank_next (c := c) (b := bs) (n := n) (x := x0) HEK.out
            rw [← hR.out, ← hy.out] at h1
            rw [← hy.out] at h2
            have HR1 : Hid (S = c.rank bs n 0 x0 ((dn t).take (k + 1))) := Lib.hid (by rw [← h1]; exact hS.out)
            have HY1 : Hid (c.nx k y e = c.run 0 x0 ((dn t).take (k + 1))) := Lib.hid h2
            have CN : ∀ q, Calls Try.prog 86 #[.pointer (some ⟨w.heap.size, 0, none⟩), .int .i64 k, .int .i64 y, .int .i64 e] (w4.drewN q) fun e' w' => e' = .returned (.int .i64 (c.nx k y e : Nat)) ∧ ∃ m, w' = (w4.drewN q).drewN m :=
              fun q => l02Next_any c AT AP nT cT nP cP (w4.drewN q) (B4.out.drewN q) (R4.out.drewN q) F.out k y e hlt hys (by omega)
            clear h1 h2
            go_wp2_with fail
            (go_at_call 86; (with_reducible refine (CN _).mono ?_); rintro e w6 ⟨rfl, q5, rfl⟩)
            go_wp2_with fail
            go_roundw
            case rel => exact ⟨k + 1, by omega, by go_num, ⟨S, _, rfl, rfl, HR1, HY1⟩, _, rfl⟩
            case measure => simp [intOf]; omega
      · obtain rfl : n = k := by omega
        have HRF : Hid (R = c.rank bs n 0 x0 (dn t)) := Lib.hid (by rw [hR.out, List.take_of_length_le (by have := HDL.out; omega)])
        go_wp2_with fail
        go_ret2
        exact ⟨two_eq (by rw [HO.out, HRF.out]) rfl, below_drewN BEL4.out q⟩
end Go.Proofs.Yteggllmiapdmcaa
