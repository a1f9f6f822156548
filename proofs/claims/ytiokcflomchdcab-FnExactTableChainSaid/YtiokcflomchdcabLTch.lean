/-
  The walk of the law of TableChain.
-/
import Derived.Test.YtiokcflomchdcabMarkC2
import Derived.Test.YtiokcflomchdcabTch
import Derived.Test.YtiokcflomchdcabChEq
import Derived.Test.YtiokcflomchdcabT2
import Derived.Test.YtiokcflomchdcabHChain
import Derived.Test.YtiokcflomchdcabLast
import Derived.Deep.RegionHeld3
namespace Go.Proofs.Ytiokcflomchdcab
open Go.RowKit

set_option maxRecDepth 1000000 in
set_option maxHeartbeats 4000000 in
theorem tch_walk (A_aTable : Option Addr) (n_aTable c_aTable : Nat) (z_aTable : List (List Int)) (i_aPlaces : Int) (w : World) (h_aTable : Rows2 w.heap.size w A_aTable n_aTable z_aTable) :
    Calls Try.prog 11 #[.slice A_aTable n_aTable c_aTable, .int .i64 i_aPlaces] w fun e w' => e = .returned (.bool true) ∧ Below w.heap.size w w' := by
  obtain ⟨r, hr⟩ : ∃ r, r = tchR z_aTable i_aPlaces := ⟨_, rfl⟩
  obtain ⟨ok, hok⟩ : ∃ ok, ok = tchOk z_aTable i_aPlaces := ⟨_, rfl⟩
  have hT : tot2 z_aTable ≤ 1048576 → totC r ≤ 2000000 := fun h => by rw [hr]; exact tchR_tot _ _ h
  have CS : ∀ {B : Nat} (A : Option Addr) (c : Nat) (W : World), Rows2 B W A n_aTable z_aTable → B ≤ W.heap.size → (∀ zs ∈ z_aTable, zs.length ≤ 1048576) → Calls Try.prog 34 #[.slice A n_aTable c, .int .i64 i_aPlaces] W (MadeCB W.heap.size r ok W) := fun A c W h hB hs => by rw [hr, hok]; exact specTch_any A _ c _ _ W h hB hs
  have CI : ∀ {B : Nat} (A : Option Addr) (c : Nat) (W : World), Rows2 B W A n_aTable z_aTable → B ≤ W.heap.size → (∀ zs ∈ z_aTable, zs.length ≤ 1048576) → n_aTable ≤ c → n_aTable ≤ 1048576 → Calls Try.prog 35 #[.slice A n_aTable c, .int .i64 i_aPlaces] W (MadeCB W.heap.size r ok W) := fun A c W h hB hs hc hn => by rw [hr, hok]; exact implTch_any A _ c _ _ W h hB hs hc hn
  unfold MadeCB at CS CI
  have HT := Lib.hid hT
  clear hr hok hT
  have H_aTable := held_row2 h_aTable
  have L_aTable := h_aTable.len
  have t0 : Hid (w.heap.size ≤ w.heap.size) := Lib.hid (Nat.le_refl _)
  have bel0 : Below w.heap.size w w := Below.refl _ _
  go_enter Try.func11, Try.ntmps11
  go_wp2_with fail
  (go_at_call 13; (with_reducible refine (szInt64SS_any _ _ _ z_aTable 1048576 _ (Rows2.up (Held.now H_aTable) (Nat.le_refl _)) (by omega) (by omega)).mono ?_); rintro e w' ⟨rfl, rfl⟩)
  by_cases big1 : (1048576 : Int) < ((tot2 z_aTable) : Nat)
  · rw [szF_big big1]
    go_wp2_with fail
    go_ret
    exact ⟨rfl, bel0⟩
  have e2 := szF_ok big1
  have H3 : Hid ((tot2 z_aTable) ≤ 1048576) := Lib.hid (by omega)
  have hbd_aTable : (tot2 z_aTable) ≤ 1048576 := H3.out
  have hz6 : 0 ≤ szF 1048576 (tot2 z_aTable) ∧ szF 1048576 (tot2 z_aTable) ≤ 1048576 := by rw [e2]; omega
  generalize szF 1048576 (tot2 z_aTable) = LEFT4 at hz6 ⊢
  clear e2 big1
  have HL5 := Lib.hid hz6
  have hz6a := hz6.1
  clear hz6
  go_wp2_with fail
  (go_at_call 15; (with_reducible refine (toInt64SS_any _ _ _ _ _ (Rows2.up (Held.now H_aTable) (Nat.le_refl _)) (Nat.le_refl _) (small2_len L_aTable H3.out) (small2 H3.out)).mono ?_); rintro e W8 ⟨A11, c12, L13, rfl, o10, b9⟩)
  have h17 := Held.ran H_aTable (ran_below b9 _) (Nat.le_refl _) (.inr (Nat.le_refl _))
  have bel18 : Below w.heap.size w W8 := Below.trans bel0 (Below.mono b9 (Nat.le_refl _))
  have t19 : Hid (w.heap.size ≤ W8.heap.size) := Lib.hid (Nat.le_trans t0.out (Below.size b9))
  clear H_aTable bel0
  have le20 : Hid (w.heap.size ≤ W8.heap.size) := t19
  have t21 : Hid (W8.heap.size ≤ W8.heap.size) := Lib.hid (Nat.le_refl _)
  have fr22 := Own2.from o10
  have lt23 := Own2.lt o10
  have olt24 := Own2.olt o10
  have h25 := held_own2 o10 lt23 olt24
  have ln26 : (lens L13).sum ≤ 2000000 := by rw [Own2.lens o10]; exact Nat.le_trans (sum_le_tot2' _) (Nat.le_trans H3.out (by omega))
  clear o10 b9
  go_wp2_with fail
  (go_at_call 34; (with_reducible refine (CS _ _ _ (Own2.row (Held.now h25)) (Nat.le_refl _) (small2 hbd_aTable)).mono ?_); rintro e W27 ⟨A30, c31, A33, c34, M35, L32, rfl, o29, b28⟩)
  have h36 := Held.ran h17 (ran_below b28 _) (Nat.le_trans (le20.out) t21.out) (.inr (Nat.le_refl _))
  have h37 := Held.ran h25 (ran_below b28 _) (Nat.le_refl _) (.inr (Nat.le_refl _))
  have bel38 : Below w.heap.size w W27 := Below.trans bel18 (Below.mono b28 (Nat.le_trans (le20.out) t21.out))
  have t39 : Hid (W8.heap.size ≤ W27.heap.size) := Lib.hid (Nat.le_trans t21.out (Below.size b28))
  clear h17 h25 bel18
  have le40 : Hid (W8.heap.size ≤ W27.heap.size) := t39
  have t41 : Hid (W27.heap.size ≤ W27.heap.size) := Lib.hid (Nat.le_refl _)
  have lt42 := OwnC.lts o29
  have plt43 := OwnC.plt o29
  have h44 := heldC o29 rfl
  have ln45 : slots L32 (r).P.length ≤ 2000000 := Nat.le_trans (OwnC.slots o29) (HT.out hbd_aTable)
  clear o29 b28
  obtain ⟨W46, hW47⟩ : ∃ W46, W46 = W27.alloc (.cells #[.int .i64 r.base, .int .i64 r.states, .int .i64 r.start, .int .i64 r.stop, .slice A30 r.T.length c31, .slice A33 r.P.length c34] 40) := ⟨_, rfl⟩
  have be48 : Below W27.heap.size W27 W46 := by rw [hW47]; exact (Below.refl _ _).alloc (Nat.le_refl _) _
  have bk49 : Blk W46 W27.heap.size #[.int .i64 r.base, .int .i64 r.states, .int .i64 r.start, .int .i64 r.stop, .slice A30 r.T.length c31, .slice A33 r.P.length c34] 40 := by rw [hW47]; exact Blk.new _ _ _
  have lt50 : Hid (W27.heap.size < W46.heap.size) := Lib.hid (Blk.lt bk49)
  have h51 := Held.ran h36 (ran_below be48 _) (Nat.le_trans (Nat.le_trans (le20.out) le40.out) t41.out) (.inr (Nat.le_refl _))
  have h52 := Held.ran h37 (ran_below be48 _) (Nat.le_trans (le40.out) t41.out) (.inr (Nat.le_refl _))
  have h53 := Held.ran h44 (ran_below be48 _) (Nat.le_refl _) (.inr (Nat.le_refl _))
  have bel54 : Below w.heap.size w W46 := Below.trans bel38 (Below.mono be48 (Nat.le_trans (Nat.le_trans (le20.out) le40.out) t41.out))
  have t55 : Hid (W27.heap.size ≤ W46.heap.size) := Lib.hid (Nat.le_trans t41.out (Below.size be48))
  clear h36 h37 h44 bel38
  have le56 : Hid (W27.heap.size ≤ W46.heap.size) := t55
  have t57 : Hid (W46.heap.size ≤ W46.heap.size) := Lib.hid (Nat.le_refl _)
  have h58 := held_blk bk49 (Nat.le_refl _) lt50.out
  clear bk49 be48
  go_wp2_with fail
  rw [show W27.alloc (.cells #[.int .i64 r.base, .int .i64 r.states, .int .i64 r.start, .int .i64 r.stop, .slice A30 r.T.length c31, .slice A33 r.P.length c34] 40) = W46 from hW47.symm]
  clear hW47
  (go_at_call 15; (with_reducible refine (toInt64SS_any _ _ _ _ _ (Rows2.up (Held.now h51) (Nat.le_trans (Nat.le_trans (Nat.le_trans (le20.out) le40.out) le56.out) t57.out)) (Nat.le_refl _) (small2_len L_aTable H3.out) (small2 H3.out)).mono ?_); rintro e W59 ⟨A62, c63, L64, rfl, o61, b60⟩)
  have h68 := Held.ran h51 (ran_below b60 _) (Nat.le_trans (Nat.le_trans (Nat.le_trans (le20.out) le40.out) le56.out) t57.out) (.inr (Nat.le_refl _))
  have h69 := Held.ran h52 (ran_below b60 _) (Nat.le_trans (Nat.le_trans (le40.out) le56.out) t57.out) (.inr (Nat.le_refl _))
  have h70 := Held.ran h53 (ran_below b60 _) (Nat.le_trans (le56.out) t57.out) (.inr (Nat.le_refl _))
  have h71 := Held.ran h58 (ran_below b60 _) (Nat.le_refl _) (.inr (Nat.le_refl _))
  have bel72 : Below w.heap.size w W59 := Below.trans bel54 (Below.mono b60 (Nat.le_trans (Nat.le_trans (Nat.le_trans (le20.out) le40.out) le56.out) t57.out))
  have t73 : Hid (W46.heap.size ≤ W59.heap.size) := Lib.hid (Nat.le_trans t57.out (Below.size b60))
  clear h51 h52 h53 h58 bel54
  have le74 : Hid (W46.heap.size ≤ W59.heap.size) := t73
  have t75 : Hid (W59.heap.size ≤ W59.heap.size) := Lib.hid (Nat.le_refl _)
  have fr76 := Own2.from o61
  have lt77 := Own2.lt o61
  have olt78 := Own2.olt o61
  have h79 := held_own2 o61 lt77 olt78
  have ln80 : (lens L64).sum ≤ 2000000 := by rw [Own2.lens o61]; exact Nat.le_trans (sum_le_tot2' _) (Nat.le_trans H3.out (by omega))
  clear o61 b60
  go_wp2_with fail
  (go_at_call 35; (with_reducible refine (CI _ _ _ (Own2.row (Held.now h79)) (Nat.le_refl _) (small2 hbd_aTable) (Own2.cap (Held.now h79)) (small2_len L_aTable hbd_aTable)).mono ?_); rintro e W81 ⟨A84, c85, A87, c88, M89, L86, rfl, o83, b82⟩)
  have h90 := Held.ran h68 (ran_below b82 _) (Nat.le_trans (Nat.le_trans (Nat.le_trans (Nat.le_trans (le20.out) le40.out) le56.out) le74.out) t75.out) (.inr (Nat.le_refl _))
  have h91 := Held.ran h69 (ran_below b82 _) (Nat.le_trans (Nat.le_trans (Nat.le_trans (le40.out) le56.out) le74.out) t75.out) (.inr (Nat.le_refl _))
  have h92 := Held.ran h70 (ran_below b82 _) (Nat.le_trans (Nat.le_trans (le56.out) le74.out) t75.out) (.inr (Nat.le_refl _))
  have h93 := Held.ran h71 (ran_below b82 _) (Nat.le_trans (le74.out) t75.out) (.inr (Nat.le_refl _))
  have h94 := Held.ran h79 (ran_below b82 _) (Nat.le_refl _) (.inr (Nat.le_refl _))
  have bel95 : Below w.heap.size w W81 := Below.trans bel72 (Below.mono b82 (Nat.le_trans (Nat.le_trans (Nat.le_trans (Nat.le_trans (le20.out) le40.out) le56.out) le74.out) t75.out))
  have t96 : Hid (W59.heap.size ≤ W81.heap.size) := Lib.hid (Nat.le_trans t75.out (Below.size b82))
  clear h68 h69 h70 h71 h79 bel72
  have le97 : Hid (W59.heap.size ≤ W81.heap.size) := t96
  have t98 : Hid (W81.heap.size ≤ W81.heap.size) := Lib.hid (Nat.le_refl _)
  have lt99 := OwnC.lts o83
  have plt100 := OwnC.plt o83
  have h101 := heldC o83 rfl
  have ln102 : slots L86 (r).P.length ≤ 2000000 := Nat.le_trans (OwnC.slots o83) (HT.out hbd_aTable)
  clear o83 b82
  have bk107 := Held.now h93
  have q108 : W81.cell? ⟨W27.heap.size, 0, none⟩ = some (.int .i64 r.base) := Blk.cell bk107 0
  have q109 : W81.cell? ⟨W27.heap.size, 1, none⟩ = some (.int .i64 r.states) := Blk.cell bk107 1
  have q110 : W81.cell? ⟨W27.heap.size, 2, none⟩ = some (.int .i64 r.start) := Blk.cell bk107 2
  have q111 : W81.cell? ⟨W27.heap.size, 3, none⟩ = some (.int .i64 r.stop) := Blk.cell bk107 3
  have q112 : W81.cell? ⟨W27.heap.size, 4, none⟩ = some (.slice A30 r.T.length c31) := Blk.cell bk107 4
  have q113 : W81.cell? ⟨W27.heap.size, 5, none⟩ = some (.slice A33 r.P.length c34) := Blk.cell bk107 5
  clear bk107
  have lt114 : W27.heap.size < W81.heap.size := Nat.lt_of_lt_of_le lt50.out (Nat.le_trans (Nat.le_trans (le74.out) le97.out) t98.out)
  have ne115 : W27.heap.size ≠ W81.heap.size := Nat.ne_of_lt lt114
  obtain ⟨W103, hW104⟩ : ∃ W103, W103 = W81.alloc (.cells #[.int .i64 r.base, .int .i64 r.states, .int .i64 r.start, .int .i64 r.stop, .slice A84 r.T.length c85, .slice A87 r.P.length c88] 40) := ⟨_, rfl⟩
  have be105 : Below W81.heap.size W81 W103 := by rw [hW104]; exact (Below.refl _ _).alloc (Nat.le_refl _) _
  have bk106 : Blk W103 W81.heap.size #[.int .i64 r.base, .int .i64 r.states, .int .i64 r.start, .int .i64 r.stop, .slice A84 r.T.length c85, .slice A87 r.P.length c88] 40 := by rw [hW104]; exact Blk.new _ _ _
  have lt116 : Hid (W81.heap.size < W103.heap.size) := Lib.hid (Blk.lt bk106)
  have h117 := Held.ran h90 (ran_below be105 _) (Nat.le_trans (Nat.le_trans (Nat.le_trans (Nat.le_trans (Nat.le_trans (le20.out) le40.out) le56.out) le74.out) le97.out) t98.out) (.inr (Nat.le_refl _))
  have h118 := Held.ran h91 (ran_below be105 _) (Nat.le_trans (Nat.le_trans (Nat.le_trans (Nat.le_trans (le40.out) le56.out) le74.out) le97.out) t98.out) (.inr (Nat.le_refl _))
  have h119 := Held.ran h92 (ran_below be105 _) (Nat.le_trans (Nat.le_trans (Nat.le_trans (le56.out) le74.out) le97.out) t98.out) (.inr (Nat.le_refl _))
  have h120 := Held.ran h93 (ran_below be105 _) (Nat.le_trans (Nat.le_trans (le74.out) le97.out) t98.out) (.inr (Nat.le_refl _))
  have h121 := Held.ran h94 (ran_below be105 _) (Nat.le_trans (le97.out) t98.out) (.inr (Nat.le_refl _))
  have h122 := Held.ran h101 (ran_below be105 _) (Nat.le_refl _) (.inr (Nat.le_refl _))
  have bel123 : Below w.heap.size w W103 := Below.trans bel95 (Below.mono be105 (Nat.le_trans (Nat.le_trans (Nat.le_trans (Nat.le_trans (Nat.le_trans (le20.out) le40.out) le56.out) le74.out) le97.out) t98.out))
  have t124 : Hid (W81.heap.size ≤ W103.heap.size) := Lib.hid (Nat.le_trans t98.out (Below.size be105))
  clear h90 h91 h92 h93 h94 h101 bel95
  have le125 : Hid (W81.heap.size ≤ W103.heap.size) := t124
  have t126 : Hid (W103.heap.size ≤ W103.heap.size) := Lib.hid (Nat.le_refl _)
  have h127 := held_blk bk106 (Nat.le_refl _) lt116.out
  clear bk106 be105
  have bk128 := Held.now h120
  have q129 := Blk.cell bk128 0
  have q130 := Blk.cell bk128 1
  have q131 := Blk.cell bk128 2
  have q132 := Blk.cell bk128 3
  have q133 := Blk.cell bk128 4
  have q134 := Blk.cell bk128 5
  clear bk128
  go_wp2_with fail
  rw [show W81.alloc (.cells #[.int .i64 r.base, .int .i64 r.states, .int .i64 r.start, .int .i64 r.stop, .slice A84 r.T.length c85, .slice A87 r.P.length c88] 40) = W103 from hW104.symm]
  clear hW104
  clear q108 q109 q110 q111 q112 q113 lt114 ne115
  (go_at_call 36; (with_reducible refine (eqChain_any r _ _ _ _ _ _ _ _ _ _ _ (OwnC.rows (Held.now h122)) (OwnC.rows (Held.now h119)) (Nat.le_refl _) (Nat.le_refl _)).mono ?_); rintro e W136 ⟨rfl, b135⟩)
  have h137 := Held.ran h117 (ran_below b135 _) (Nat.le_trans (Nat.le_trans (Nat.le_trans (Nat.le_trans (Nat.le_trans (Nat.le_trans (le20.out) le40.out) le56.out) le74.out) le97.out) le125.out) t126.out) (.inr (Nat.le_refl _))
  have h138 := Held.ran h118 (ran_below b135 _) (Nat.le_trans (Nat.le_trans (Nat.le_trans (Nat.le_trans (Nat.le_trans (le40.out) le56.out) le74.out) le97.out) le125.out) t126.out) (.inr (Nat.le_refl _))
  have h139 := Held.ran h119 (ran_below b135 _) (Nat.le_trans (Nat.le_trans (Nat.le_trans (Nat.le_trans (le56.out) le74.out) le97.out) le125.out) t126.out) (.inr (Nat.le_refl _))
  have h140 := Held.ran h120 (ran_below b135 _) (Nat.le_trans (Nat.le_trans (Nat.le_trans (le74.out) le97.out) le125.out) t126.out) (.inr (Nat.le_refl _))
  have h141 := Held.ran h121 (ran_below b135 _) (Nat.le_trans (Nat.le_trans (le97.out) le125.out) t126.out) (.inr (Nat.le_refl _))
  have h142 := Held.ran h122 (ran_below b135 _) (Nat.le_trans (le125.out) t126.out) (.inr (Nat.le_refl _))
  have h143 := Held.ran h127 (ran_below b135 _) (Nat.le_refl _) (.inr (Nat.le_refl _))
  have bel144 : Below w.heap.size w W136 := Below.trans bel123 (Below.mono b135 (Nat.le_trans (Nat.le_trans (Nat.le_trans (Nat.le_trans (Nat.le_trans (Nat.le_trans (le20.out) le40.out) le56.out) le74.out) le97.out) le125.out) t126.out))
  have t145 : Hid (W103.heap.size ≤ W136.heap.size) := Lib.hid (Nat.le_trans t126.out (Below.size b135))
  clear h117 h118 h119 h120 h121 h122 h127 bel123
  clear b135
  clear q129
  clear q130
  clear q131
  clear q132
  clear q133
  clear q134
  go_wp2_with fail
  have le147 : Hid (W103.heap.size ≤ W136.heap.size) := t145
  have t148 : Hid (W136.heap.size ≤ W136.heap.size) := Lib.hid (Nat.le_refl _)
  (go_at_call 15; (with_reducible refine (toInt64SS_any _ _ _ _ _ (Rows2.up (Held.now h137) (Nat.le_trans (Nat.le_trans (Nat.le_trans (Nat.le_trans (Nat.le_trans (Nat.le_trans (le20.out) le40.out) le56.out) le74.out) le97.out) le125.out) t145.out)) (Nat.le_refl _) (small2_len L_aTable H3.out) (small2 H3.out)).mono ?_); rintro e W149 ⟨A152, c153, L154, rfl, o151, b150⟩)
  have h158 := Held.ran h137 (ran_below b150 _) (Nat.le_trans (Nat.le_trans (Nat.le_trans (Nat.le_trans (Nat.le_trans (Nat.le_trans (Nat.le_trans (le20.out) le40.out) le56.out) le74.out) le97.out) le125.out) le147.out) t148.out) (.inr (Nat.le_refl _))
  have h159 := Held.ran h138 (ran_below b150 _) (Nat.le_trans (Nat.le_trans (Nat.le_trans (Nat.le_trans (Nat.le_trans (Nat.le_trans (le40.out) le56.out) le74.out) le97.out) le125.out) le147.out) t148.out) (.inr (Nat.le_refl _))
  have h160 := Held.ran h139 (ran_below b150 _) (Nat.le_trans (Nat.le_trans (Nat.le_trans (Nat.le_trans (Nat.le_trans (le56.out) le74.out) le97.out) le125.out) le147.out) t148.out) (.inr (Nat.le_refl _))
  have h161 := Held.ran h140 (ran_below b150 _) (Nat.le_trans (Nat.le_trans (Nat.le_trans (Nat.le_trans (le74.out) le97.out) le125.out) le147.out) t148.out) (.inr (Nat.le_refl _))
  have h162 := Held.ran h141 (ran_below b150 _) (Nat.le_trans (Nat.le_trans (Nat.le_trans (le97.out) le125.out) le147.out) t148.out) (.inr (Nat.le_refl _))
  have h163 := Held.ran h142 (ran_below b150 _) (Nat.le_trans (Nat.le_trans (le125.out) le147.out) t148.out) (.inr (Nat.le_refl _))
  have h164 := Held.ran h143 (ran_below b150 _) (Nat.le_trans (le147.out) t148.out) (.inr (Nat.le_refl _))
  have bel165 : Below w.heap.size w W149 := Below.trans bel144 (Below.mono b150 (Nat.le_trans (Nat.le_trans (Nat.le_trans (Nat.le_trans (Nat.le_trans (Nat.le_trans (Nat.le_trans (le20.out) le40.out) le56.out) le74.out) le97.out) le125.out) le147.out) t148.out))
  have t166 : Hid (W136.heap.size ≤ W149.heap.size) := Lib.hid (Nat.le_trans t148.out (Below.size b150))
  clear h137 h138 h139 h140 h141 h142 h143 bel144
  have le167 : Hid (W136.heap.size ≤ W149.heap.size) := t166
  have t168 : Hid (W149.heap.size ≤ W149.heap.size) := Lib.hid (Nat.le_refl _)
  have fr169 := Own2.from o151
  have lt170 := Own2.lt o151
  have olt171 := Own2.olt o151
  have h172 := held_own2 o151 lt170 olt171
  have ln173 : (lens L154).sum ≤ 2000000 := by rw [Own2.lens o151]; exact Nat.le_trans (sum_le_tot2' _) (Nat.le_trans H3.out (by omega))
  clear o151 b150
  go_wp2_with fail
  (go_at_call 17; (with_reducible refine (eqInt64SS_any _ _ _ _ _ _ _ (Own2.row (Held.now h162)) (Own2.row (Held.now h172))).mono ?_); rintro e w' ⟨rfl, m174, rfl⟩)
  have h175 := Held.ran h158 (ran_drewN W149 m174 _) (Nat.le_trans (Nat.le_trans (Nat.le_trans (Nat.le_trans (Nat.le_trans (Nat.le_trans (Nat.le_trans (Nat.le_trans (le20.out) le40.out) le56.out) le74.out) le97.out) le125.out) le147.out) le167.out) t168.out) (.inr (Nat.le_refl _))
  have h176 := Held.ran h159 (ran_drewN W149 m174 _) (Nat.le_trans (Nat.le_trans (Nat.le_trans (Nat.le_trans (Nat.le_trans (Nat.le_trans (Nat.le_trans (le40.out) le56.out) le74.out) le97.out) le125.out) le147.out) le167.out) t168.out) (.inr (Nat.le_refl _))
  have h177 := Held.ran h160 (ran_drewN W149 m174 _) (Nat.le_trans (Nat.le_trans (Nat.le_trans (Nat.le_trans (Nat.le_trans (Nat.le_trans (le56.out) le74.out) le97.out) le125.out) le147.out) le167.out) t168.out) (.inr (Nat.le_refl _))
  have h178 := Held.ran h161 (ran_drewN W149 m174 _) (Nat.le_trans (Nat.le_trans (Nat.le_trans (Nat.le_trans (Nat.le_trans (le74.out) le97.out) le125.out) le147.out) le167.out) t168.out) (.inr (Nat.le_refl _))
  have h179 := Held.ran h162 (ran_drewN W149 m174 _) (Nat.le_trans (Nat.le_trans (Nat.le_trans (Nat.le_trans (le97.out) le125.out) le147.out) le167.out) t168.out) (.inr (Nat.le_refl _))
  have h180 := Held.ran h163 (ran_drewN W149 m174 _) (Nat.le_trans (Nat.le_trans (Nat.le_trans (le125.out) le147.out) le167.out) t168.out) (.inr (Nat.le_refl _))
  have h181 := Held.ran h164 (ran_drewN W149 m174 _) (Nat.le_trans (Nat.le_trans (le147.out) le167.out) t168.out) (.inr (Nat.le_refl _))
  have h182 := Held.ran h172 (ran_drewN W149 m174 _) (Nat.le_refl _) (.inr (Nat.le_refl _))
  have bel183 : Below w.heap.size w (World.drewN W149 m174) := below_drewN bel165 m174
  have t184 : Hid (W149.heap.size ≤ ((World.drewN W149 m174)).heap.size) := t168
  clear h158 h159 h160 h161 h162 h163 h164 h172 bel165
  go_wp2_with fail
  (go_at_call 18; (with_reducible refine (mark2_any _ _ _ 1 1 (by omega) _ _ _ (Held.now h179) (by omega)).mono ?_); rintro e W187 ⟨rfl, o185, k186⟩)
  have r188 := ran_onlyL k186 fr76 lt77
  have h189 := Held.ran h175 (r188) (Nat.le_trans (Nat.le_trans (Nat.le_trans (Nat.le_trans (Nat.le_trans (Nat.le_trans (Nat.le_trans (Nat.le_trans (le20.out) le40.out) le56.out) le74.out) le97.out) le125.out) le147.out) le167.out) t184.out) (.inr (Nat.le_trans (Nat.le_trans (le20.out) le40.out) le56.out))
  have h190 := Held.ran h176 (r188) (Nat.le_trans (Nat.le_trans (Nat.le_trans (Nat.le_trans (Nat.le_trans (Nat.le_trans (Nat.le_trans (le40.out) le56.out) le74.out) le97.out) le125.out) le147.out) le167.out) t184.out) (.inr (Nat.le_trans (le40.out) le56.out))
  have h191 := Held.ran h177 (r188) (Nat.le_trans (Nat.le_trans (Nat.le_trans (Nat.le_trans (Nat.le_trans (Nat.le_trans (le56.out) le74.out) le97.out) le125.out) le147.out) le167.out) t184.out) (.inr (le56.out))
  have h192 := Held.ran h178 (r188) (Nat.le_trans (Nat.le_trans (Nat.le_trans (Nat.le_trans (Nat.le_trans (le74.out) le97.out) le125.out) le147.out) le167.out) t184.out) (.inr (Nat.le_refl _))
  have h193 := Held.ran h180 (r188) (Nat.le_trans (Nat.le_trans (Nat.le_trans (le125.out) le147.out) le167.out) t184.out) (.inl (Nat.le_refl _))
  have h194 := Held.ran h181 (r188) (Nat.le_trans (Nat.le_trans (le147.out) le167.out) t184.out) (.inl (le97.out))
  have h195 := Held.ran h182 (r188) (Nat.le_trans (Nat.le_refl _) t184.out) (.inl (Nat.le_trans (Nat.le_trans (le97.out) le125.out) le147.out))
  have bel196 : Below w.heap.size w W187 := Below.trans bel183 (Ran.below r188 (Nat.le_trans (Nat.le_trans (le20.out) le40.out) le56.out) (Nat.le_trans (Nat.le_trans (Nat.le_trans (Nat.le_trans (Nat.le_trans (Nat.le_trans (Nat.le_trans (Nat.le_trans (le20.out) le40.out) le56.out) le74.out) le97.out) le125.out) le147.out) le167.out) t184.out))
  have t197 : Hid (W149.heap.size ≤ W187.heap.size) := Lib.hid (Nat.le_trans t184.out (Ran.size r188))
  clear h175 h176 h177 h178 h180 h181 h182 bel183
  have h198 := held_own2 o185 lt77 olt78
  clear o185 h179 r188
  have bk199 := Held.now h194
  have q200 := Blk.cell bk199 0
  have q201 := Blk.cell bk199 1
  have q202 := Blk.cell bk199 2
  have q203 := Blk.cell bk199 3
  have q204 := Blk.cell bk199 4
  have q205 := Blk.cell bk199 5
  clear bk199
  have bk206 := Held.now h192
  have q207 := Blk.cell bk206 0
  have q208 := Blk.cell bk206 1
  have q209 := Blk.cell bk206 2
  have q210 := Blk.cell bk206 3
  have q211 := Blk.cell bk206 4
  have q212 := Blk.cell bk206 5
  clear bk206
  go_wp2_with fail
  (go_at_call 36; (with_reducible refine (eqChain_any r _ _ _ _ _ _ _ _ _ _ _ (OwnC.rows (Held.now h193)) (OwnC.rows (Held.now h191)) (Nat.le_refl _) (Nat.le_refl _)).mono ?_); rintro e W214 ⟨rfl, b213⟩)
  have h215 := Held.ran h189 (ran_below b213 _) (Nat.le_trans (Nat.le_trans (Nat.le_trans (Nat.le_trans (Nat.le_trans (Nat.le_trans (Nat.le_trans (Nat.le_trans (le20.out) le40.out) le56.out) le74.out) le97.out) le125.out) le147.out) le167.out) t197.out) (.inr (Nat.le_refl _))
  have h216 := Held.ran h190 (ran_below b213 _) (Nat.le_trans (Nat.le_trans (Nat.le_trans (Nat.le_trans (Nat.le_trans (Nat.le_trans (Nat.le_trans (le40.out) le56.out) le74.out) le97.out) le125.out) le147.out) le167.out) t197.out) (.inr (Nat.le_refl _))
  have h217 := Held.ran h191 (ran_below b213 _) (Nat.le_trans (Nat.le_trans (Nat.le_trans (Nat.le_trans (Nat.le_trans (Nat.le_trans (le56.out) le74.out) le97.out) le125.out) le147.out) le167.out) t197.out) (.inr (Nat.le_refl _))
  have h218 := Held.ran h192 (ran_below b213 _) (Nat.le_trans (Nat.le_trans (Nat.le_trans (Nat.le_trans (Nat.le_trans (le74.out) le97.out) le125.out) le147.out) le167.out) t197.out) (.inr (Nat.le_refl _))
  have h219 := Held.ran h198 (ran_below b213 _) (Nat.le_trans (Nat.le_trans (Nat.le_trans (Nat.le_trans (le97.out) le125.out) le147.out) le167.out) t197.out) (.inr (Nat.le_refl _))
  have h220 := Held.ran h193 (ran_below b213 _) (Nat.le_trans (Nat.le_trans (Nat.le_trans (le125.out) le147.out) le167.out) t197.out) (.inr (Nat.le_refl _))
  have h221 := Held.ran h194 (ran_below b213 _) (Nat.le_trans (Nat.le_trans (le147.out) le167.out) t197.out) (.inr (Nat.le_refl _))
  have h222 := Held.ran h195 (ran_below b213 _) (Nat.le_trans (Nat.le_refl _) t197.out) (.inr (Nat.le_refl _))
  have bel223 : Below w.heap.size w W214 := Below.trans bel196 (Below.mono b213 (Nat.le_trans (Nat.le_trans (Nat.le_trans (Nat.le_trans (Nat.le_trans (Nat.le_trans (Nat.le_trans (Nat.le_trans (le20.out) le40.out) le56.out) le74.out) le97.out) le125.out) le147.out) le167.out) t197.out))
  have t224 : Hid (W149.heap.size ≤ W214.heap.size) := Lib.hid (Nat.le_trans t197.out (Below.size b213))
  clear h189 h190 h191 h192 h198 h193 h194 h195 bel196
  clear b213
  clear q200
  clear q201
  clear q202
  clear q203
  clear q204
  clear q205
  clear q207
  clear q208
  clear q209
  clear q210
  clear q211
  clear q212
  have bk228 := Held.now h221
  have q229 := Blk.cell bk228 0
  have q230 := Blk.cell bk228 1
  have q231 := Blk.cell bk228 2
  have q232 := Blk.cell bk228 3
  have q233 := Blk.cell bk228 4
  have q234 := Blk.cell bk228 5
  clear bk228
  go_wp2_with fail
  (go_at_call 37; (with_reducible refine (markChain_any r _ _ _ _ 1 1 (by omega) _ (Held.now h220) (Nat.le_trans (Nat.le_trans (Nat.le_trans (Nat.le_trans (le97.out) le125.out) le147.out) le167.out) t224.out) (by omega)).mono ?_); rintro e W227 ⟨rfl, o225, k226, k235⟩)
  have r236 := k235 _ lt99 plt100
  clear k226 k235
  have h237 := Held.ran h215 (r236) (Nat.le_trans (Nat.le_trans (Nat.le_trans (Nat.le_trans (Nat.le_trans (Nat.le_trans (Nat.le_trans (Nat.le_trans (le20.out) le40.out) le56.out) le74.out) le97.out) le125.out) le147.out) le167.out) t224.out) (.inr (Nat.le_trans (Nat.le_trans (Nat.le_trans (le20.out) le40.out) le56.out) le74.out))
  have h238 := Held.ran h216 (r236) (Nat.le_trans (Nat.le_trans (Nat.le_trans (Nat.le_trans (Nat.le_trans (Nat.le_trans (Nat.le_trans (le40.out) le56.out) le74.out) le97.out) le125.out) le147.out) le167.out) t224.out) (.inr (Nat.le_trans (Nat.le_trans (le40.out) le56.out) le74.out))
  have h239 := Held.ran h217 (r236) (Nat.le_trans (Nat.le_trans (Nat.le_trans (Nat.le_trans (Nat.le_trans (Nat.le_trans (le56.out) le74.out) le97.out) le125.out) le147.out) le167.out) t224.out) (.inr (Nat.le_trans (le56.out) le74.out))
  have h240 := Held.ran h218 (r236) (Nat.le_trans (Nat.le_trans (Nat.le_trans (Nat.le_trans (Nat.le_trans (le74.out) le97.out) le125.out) le147.out) le167.out) t224.out) (.inr (le74.out))
  have h241 := Held.ran h219 (r236) (Nat.le_trans (Nat.le_trans (Nat.le_trans (Nat.le_trans (le97.out) le125.out) le147.out) le167.out) t224.out) (.inr (Nat.le_refl _))
  have h242 := Held.ran h221 (r236) (Nat.le_trans (Nat.le_trans (le147.out) le167.out) t224.out) (.inl (Nat.le_refl _))
  have h243 := Held.ran h222 (r236) (Nat.le_trans (Nat.le_refl _) t224.out) (.inl (Nat.le_trans (le125.out) le147.out))
  have bel244 : Below w.heap.size w W227 := Below.trans bel223 (Ran.below r236 (Nat.le_trans (Nat.le_trans (Nat.le_trans (le20.out) le40.out) le56.out) le74.out) (Nat.le_trans (Nat.le_trans (Nat.le_trans (Nat.le_trans (Nat.le_trans (Nat.le_trans (Nat.le_trans (Nat.le_trans (le20.out) le40.out) le56.out) le74.out) le97.out) le125.out) le147.out) le167.out) t224.out))
  have t245 : Hid (W149.heap.size ≤ W227.heap.size) := Lib.hid (Nat.le_trans t224.out (Ran.size r236))
  clear h215 h216 h217 h218 h219 h221 h222 bel223
  have h246 := heldC o225 rfl
  have le247 : Hid (W149.heap.size ≤ W227.heap.size) := t245
  have t248 : Hid (W227.heap.size ≤ W227.heap.size) := Lib.hid (Nat.le_refl _)
  clear o225 h220 r236
  clear q229
  clear q230
  clear q231
  clear q232
  clear q233
  clear q234
  have bk249 := Held.now h242
  have q250 := Blk.cell bk249 0
  have q251 := Blk.cell bk249 1
  have q252 := Blk.cell bk249 2
  have q253 := Blk.cell bk249 3
  have q254 := Blk.cell bk249 4
  have q255 := Blk.cell bk249 5
  clear bk249
  go_wp2_with fail
  (go_at_call 38; (with_reducible refine (heldChain_any r _ _ L86 1 1 (by omega) _ (OwnC.rows (Held.now h246)) (Nat.le_refl _) (by omega)).mono ?_); rintro e W257 ⟨rfl, b256⟩)
  have h258 := Held.ran h237 (ran_below b256 _) (Nat.le_trans (Nat.le_trans (Nat.le_trans (Nat.le_trans (Nat.le_trans (Nat.le_trans (Nat.le_trans (Nat.le_trans (Nat.le_trans (le20.out) le40.out) le56.out) le74.out) le97.out) le125.out) le147.out) le167.out) le247.out) t248.out) (.inr (Nat.le_refl _))
  have h259 := Held.ran h238 (ran_below b256 _) (Nat.le_trans (Nat.le_trans (Nat.le_trans (Nat.le_trans (Nat.le_trans (Nat.le_trans (Nat.le_trans (Nat.le_trans (le40.out) le56.out) le74.out) le97.out) le125.out) le147.out) le167.out) le247.out) t248.out) (.inr (Nat.le_refl _))
  have h260 := Held.ran h239 (ran_below b256 _) (Nat.le_trans (Nat.le_trans (Nat.le_trans (Nat.le_trans (Nat.le_trans (Nat.le_trans (Nat.le_trans (le56.out) le74.out) le97.out) le125.out) le147.out) le167.out) le247.out) t248.out) (.inr (Nat.le_refl _))
  have h261 := Held.ran h240 (ran_below b256 _) (Nat.le_trans (Nat.le_trans (Nat.le_trans (Nat.le_trans (Nat.le_trans (Nat.le_trans (le74.out) le97.out) le125.out) le147.out) le167.out) le247.out) t248.out) (.inr (Nat.le_refl _))
  have h262 := Held.ran h241 (ran_below b256 _) (Nat.le_trans (Nat.le_trans (Nat.le_trans (Nat.le_trans (Nat.le_trans (le97.out) le125.out) le147.out) le167.out) le247.out) t248.out) (.inr (Nat.le_refl _))
  have h263 := Held.ran h246 (ran_below b256 _) (Nat.le_refl _) (.inr (Nat.le_refl _))
  have h264 := Held.ran h242 (ran_below b256 _) (Nat.le_trans (Nat.le_trans (Nat.le_trans (le147.out) le167.out) le247.out) t248.out) (.inr (Nat.le_refl _))
  have h265 := Held.ran h243 (ran_below b256 _) (Nat.le_trans (le247.out) t248.out) (.inr (Nat.le_refl _))
  have bel266 : Below w.heap.size w W257 := Below.trans bel244 (Below.mono b256 (Nat.le_trans (Nat.le_trans (Nat.le_trans (Nat.le_trans (Nat.le_trans (Nat.le_trans (Nat.le_trans (Nat.le_trans (Nat.le_trans (le20.out) le40.out) le56.out) le74.out) le97.out) le125.out) le147.out) le167.out) le247.out) t248.out))
  have t267 : Hid (W227.heap.size ≤ W257.heap.size) := Lib.hid (Nat.le_trans t248.out (Below.size b256))
  clear h237 h238 h239 h240 h241 h246 h242 h243 bel244
  clear b256
  clear q250
  clear q251
  clear q252
  clear q253
  clear q254
  clear q255
  go_wp2_with fail
  have le269 : Hid (W227.heap.size ≤ W257.heap.size) := t267
  have t270 : Hid (W257.heap.size ≤ W257.heap.size) := Lib.hid (Nat.le_refl _)
  (go_at_call 15; (with_reducible refine (toInt64SS_any _ _ _ _ _ (Rows2.up (Held.now h258) (Nat.le_trans (Nat.le_trans (Nat.le_trans (Nat.le_trans (Nat.le_trans (Nat.le_trans (Nat.le_trans (Nat.le_trans (Nat.le_trans (le20.out) le40.out) le56.out) le74.out) le97.out) le125.out) le147.out) le167.out) le247.out) t267.out)) (Nat.le_refl _) (small2_len L_aTable H3.out) (small2 H3.out)).mono ?_); rintro e W271 ⟨A274, c275, L276, rfl, o273, b272⟩)
  have h280 := Held.ran h258 (ran_below b272 _) (Nat.le_trans (Nat.le_trans (Nat.le_trans (Nat.le_trans (Nat.le_trans (Nat.le_trans (Nat.le_trans (Nat.le_trans (Nat.le_trans (Nat.le_trans (le20.out) le40.out) le56.out) le74.out) le97.out) le125.out) le147.out) le167.out) le247.out) le269.out) t270.out) (.inr (Nat.le_refl _))
  have h281 := Held.ran h259 (ran_below b272 _) (Nat.le_trans (Nat.le_trans (Nat.le_trans (Nat.le_trans (Nat.le_trans (Nat.le_trans (Nat.le_trans (Nat.le_trans (Nat.le_trans (le40.out) le56.out) le74.out) le97.out) le125.out) le147.out) le167.out) le247.out) le269.out) t270.out) (.inr (Nat.le_refl _))
  have h282 := Held.ran h260 (ran_below b272 _) (Nat.le_trans (Nat.le_trans (Nat.le_trans (Nat.le_trans (Nat.le_trans (Nat.le_trans (Nat.le_trans (Nat.le_trans (le56.out) le74.out) le97.out) le125.out) le147.out) le167.out) le247.out) le269.out) t270.out) (.inr (Nat.le_refl _))
  have h283 := Held.ran h261 (ran_below b272 _) (Nat.le_trans (Nat.le_trans (Nat.le_trans (Nat.le_trans (Nat.le_trans (Nat.le_trans (Nat.le_trans (le74.out) le97.out) le125.out) le147.out) le167.out) le247.out) le269.out) t270.out) (.inr (Nat.le_refl _))
  have h284 := Held.ran h262 (ran_below b272 _) (Nat.le_trans (Nat.le_trans (Nat.le_trans (Nat.le_trans (Nat.le_trans (Nat.le_trans (le97.out) le125.out) le147.out) le167.out) le247.out) le269.out) t270.out) (.inr (Nat.le_refl _))
  have h285 := Held.ran h263 (ran_below b272 _) (Nat.le_trans (le269.out) t270.out) (.inr (Nat.le_refl _))
  have h286 := Held.ran h264 (ran_below b272 _) (Nat.le_trans (Nat.le_trans (Nat.le_trans (Nat.le_trans (le147.out) le167.out) le247.out) le269.out) t270.out) (.inr (Nat.le_refl _))
  have h287 := Held.ran h265 (ran_below b272 _) (Nat.le_trans (Nat.le_trans (le247.out) le269.out) t270.out) (.inr (Nat.le_refl _))
  have bel288 : Below w.heap.size w W271 := Below.trans bel266 (Below.mono b272 (Nat.le_trans (Nat.le_trans (Nat.le_trans (Nat.le_trans (Nat.le_trans (Nat.le_trans (Nat.le_trans (Nat.le_trans (Nat.le_trans (Nat.le_trans (le20.out) le40.out) le56.out) le74.out) le97.out) le125.out) le147.out) le167.out) le247.out) le269.out) t270.out))
  have t289 : Hid (W257.heap.size ≤ W271.heap.size) := Lib.hid (Nat.le_trans t270.out (Below.size b272))
  clear h258 h259 h260 h261 h262 h263 h264 h265 bel266
  have le290 : Hid (W257.heap.size ≤ W271.heap.size) := t289
  have t291 : Hid (W271.heap.size ≤ W271.heap.size) := Lib.hid (Nat.le_refl _)
  have fr292 := Own2.from o273
  have lt293 := Own2.lt o273
  have olt294 := Own2.olt o273
  have h295 := held_own2 o273 lt293 olt294
  have ln296 : (lens L276).sum ≤ 2000000 := by rw [Own2.lens o273]; exact Nat.le_trans (sum_le_tot2' _) (Nat.le_trans H3.out (by omega))
  clear o273 b272
  go_wp2_with fail
  (go_at_call 35; (with_reducible refine (CI _ _ _ (Own2.row (Held.now h295)) (Nat.le_refl _) (small2 hbd_aTable) (Own2.cap (Held.now h295)) (small2_len L_aTable hbd_aTable)).mono ?_); rintro e W297 ⟨A300, c301, A303, c304, M305, L302, rfl, o299, b298⟩)
  have h306 := Held.ran h280 (ran_below b298 _) (Nat.le_trans (Nat.le_trans (Nat.le_trans (Nat.le_trans (Nat.le_trans (Nat.le_trans (Nat.le_trans (Nat.le_trans (Nat.le_trans (Nat.le_trans (Nat.le_trans (le20.out) le40.out) le56.out) le74.out) le97.out) le125.out) le147.out) le167.out) le247.out) le269.out) le290.out) t291.out) (.inr (Nat.le_refl _))
  have h307 := Held.ran h281 (ran_below b298 _) (Nat.le_trans (Nat.le_trans (Nat.le_trans (Nat.le_trans (Nat.le_trans (Nat.le_trans (Nat.le_trans (Nat.le_trans (Nat.le_trans (Nat.le_trans (le40.out) le56.out) le74.out) le97.out) le125.out) le147.out) le167.out) le247.out) le269.out) le290.out) t291.out) (.inr (Nat.le_refl _))
  have h308 := Held.ran h282 (ran_below b298 _) (Nat.le_trans (Nat.le_trans (Nat.le_trans (Nat.le_trans (Nat.le_trans (Nat.le_trans (Nat.le_trans (Nat.le_trans (Nat.le_trans (le56.out) le74.out) le97.out) le125.out) le147.out) le167.out) le247.out) le269.out) le290.out) t291.out) (.inr (Nat.le_refl _))
  have h309 := Held.ran h283 (ran_below b298 _) (Nat.le_trans (Nat.le_trans (Nat.le_trans (Nat.le_trans (Nat.le_trans (Nat.le_trans (Nat.le_trans (Nat.le_trans (le74.out) le97.out) le125.out) le147.out) le167.out) le247.out) le269.out) le290.out) t291.out) (.inr (Nat.le_refl _))
  have h310 := Held.ran h284 (ran_below b298 _) (Nat.le_trans (Nat.le_trans (Nat.le_trans (Nat.le_trans (Nat.le_trans (Nat.le_trans (Nat.le_trans (le97.out) le125.out) le147.out) le167.out) le247.out) le269.out) le290.out) t291.out) (.inr (Nat.le_refl _))
  have h311 := Held.ran h285 (ran_below b298 _) (Nat.le_trans (Nat.le_trans (le269.out) le290.out) t291.out) (.inr (Nat.le_refl _))
  have h312 := Held.ran h286 (ran_below b298 _) (Nat.le_trans (Nat.le_trans (Nat.le_trans (Nat.le_trans (Nat.le_trans (le147.out) le167.out) le247.out) le269.out) le290.out) t291.out) (.inr (Nat.le_refl _))
  have h313 := Held.ran h287 (ran_below b298 _) (Nat.le_trans (Nat.le_trans (Nat.le_trans (le247.out) le269.out) le290.out) t291.out) (.inr (Nat.le_refl _))
  have h314 := Held.ran h295 (ran_below b298 _) (Nat.le_refl _) (.inr (Nat.le_refl _))
  have bel315 : Below w.heap.size w W297 := Below.trans bel288 (Below.mono b298 (Nat.le_trans (Nat.le_trans (Nat.le_trans (Nat.le_trans (Nat.le_trans (Nat.le_trans (Nat.le_trans (Nat.le_trans (Nat.le_trans (Nat.le_trans (Nat.le_trans (le20.out) le40.out) le56.out) le74.out) le97.out) le125.out) le147.out) le167.out) le247.out) le269.out) le290.out) t291.out))
  have t316 : Hid (W271.heap.size ≤ W297.heap.size) := Lib.hid (Nat.le_trans t291.out (Below.size b298))
  clear h280 h281 h282 h283 h284 h285 h286 h287 h295 bel288
  have le317 : Hid (W271.heap.size ≤ W297.heap.size) := t316
  have t318 : Hid (W297.heap.size ≤ W297.heap.size) := Lib.hid (Nat.le_refl _)
  have lt319 := OwnC.lts o299
  have plt320 := OwnC.plt o299
  have h321 := heldC o299 rfl
  have ln322 : slots L302 (r).P.length ≤ 2000000 := Nat.le_trans (OwnC.slots o299) (HT.out hbd_aTable)
  clear o299 b298
  have bk327 := Held.now h309
  have q328 : W297.cell? ⟨W27.heap.size, 0, none⟩ = some (.int .i64 r.base) := Blk.cell bk327 0
  have q329 : W297.cell? ⟨W27.heap.size, 1, none⟩ = some (.int .i64 r.states) := Blk.cell bk327 1
  have q330 : W297.cell? ⟨W27.heap.size, 2, none⟩ = some (.int .i64 r.start) := Blk.cell bk327 2
  have q331 : W297.cell? ⟨W27.heap.size, 3, none⟩ = some (.int .i64 r.stop) := Blk.cell bk327 3
  have q332 : W297.cell? ⟨W27.heap.size, 4, none⟩ = some (.slice A30 r.T.length c31) := Blk.cell bk327 4
  have q333 : W297.cell? ⟨W27.heap.size, 5, none⟩ = some (.slice A33 r.P.length c34) := Blk.cell bk327 5
  clear bk327
  have lt334 : W27.heap.size < W297.heap.size := Nat.lt_of_lt_of_le lt50.out (Nat.le_trans (Nat.le_trans (Nat.le_trans (Nat.le_trans (Nat.le_trans (Nat.le_trans (Nat.le_trans (Nat.le_trans (Nat.le_trans (le74.out) le97.out) le125.out) le147.out) le167.out) le247.out) le269.out) le290.out) le317.out) t318.out)
  have ne335 : W27.heap.size ≠ W297.heap.size := Nat.ne_of_lt lt334
  have bk336 := Held.now h312
  have q337 : W297.cell? ⟨W81.heap.size, 0, none⟩ = some (.int .i64 r.base) := Blk.cell bk336 0
  have q338 : W297.cell? ⟨W81.heap.size, 1, none⟩ = some (.int .i64 r.states) := Blk.cell bk336 1
  have q339 : W297.cell? ⟨W81.heap.size, 2, none⟩ = some (.int .i64 r.start) := Blk.cell bk336 2
  have q340 : W297.cell? ⟨W81.heap.size, 3, none⟩ = some (.int .i64 r.stop) := Blk.cell bk336 3
  have q341 : W297.cell? ⟨W81.heap.size, 4, none⟩ = some (.slice A84 r.T.length c85) := Blk.cell bk336 4
  have q342 : W297.cell? ⟨W81.heap.size, 5, none⟩ = some (.slice A87 r.P.length c88) := Blk.cell bk336 5
  clear bk336
  have lt343 : W81.heap.size < W297.heap.size := Nat.lt_of_lt_of_le lt116.out (Nat.le_trans (Nat.le_trans (Nat.le_trans (Nat.le_trans (Nat.le_trans (Nat.le_trans (le147.out) le167.out) le247.out) le269.out) le290.out) le317.out) t318.out)
  have ne344 : W81.heap.size ≠ W297.heap.size := Nat.ne_of_lt lt343
  obtain ⟨W323, hW324⟩ : ∃ W323, W323 = W297.alloc (.cells #[.int .i64 r.base, .int .i64 r.states, .int .i64 r.start, .int .i64 r.stop, .slice A300 r.T.length c301, .slice A303 r.P.length c304] 40) := ⟨_, rfl⟩
  have be325 : Below W297.heap.size W297 W323 := by rw [hW324]; exact (Below.refl _ _).alloc (Nat.le_refl _) _
  have bk326 : Blk W323 W297.heap.size #[.int .i64 r.base, .int .i64 r.states, .int .i64 r.start, .int .i64 r.stop, .slice A300 r.T.length c301, .slice A303 r.P.length c304] 40 := by rw [hW324]; exact Blk.new _ _ _
  have lt345 : Hid (W297.heap.size < W323.heap.size) := Lib.hid (Blk.lt bk326)
  have h346 := Held.ran h306 (ran_below be325 _) (Nat.le_trans (Nat.le_trans (Nat.le_trans (Nat.le_trans (Nat.le_trans (Nat.le_trans (Nat.le_trans (Nat.le_trans (Nat.le_trans (Nat.le_trans (Nat.le_trans (Nat.le_trans (le20.out) le40.out) le56.out) le74.out) le97.out) le125.out) le147.out) le167.out) le247.out) le269.out) le290.out) le317.out) t318.out) (.inr (Nat.le_refl _))
  have h347 := Held.ran h307 (ran_below be325 _) (Nat.le_trans (Nat.le_trans (Nat.le_trans (Nat.le_trans (Nat.le_trans (Nat.le_trans (Nat.le_trans (Nat.le_trans (Nat.le_trans (Nat.le_trans (Nat.le_trans (le40.out) le56.out) le74.out) le97.out) le125.out) le147.out) le167.out) le247.out) le269.out) le290.out) le317.out) t318.out) (.inr (Nat.le_refl _))
  have h348 := Held.ran h308 (ran_below be325 _) (Nat.le_trans (Nat.le_trans (Nat.le_trans (Nat.le_trans (Nat.le_trans (Nat.le_trans (Nat.le_trans (Nat.le_trans (Nat.le_trans (Nat.le_trans (le56.out) le74.out) le97.out) le125.out) le147.out) le167.out) le247.out) le269.out) le290.out) le317.out) t318.out) (.inr (Nat.le_refl _))
  have h349 := Held.ran h309 (ran_below be325 _) (Nat.le_trans (Nat.le_trans (Nat.le_trans (Nat.le_trans (Nat.le_trans (Nat.le_trans (Nat.le_trans (Nat.le_trans (Nat.le_trans (le74.out) le97.out) le125.out) le147.out) le167.out) le247.out) le269.out) le290.out) le317.out) t318.out) (.inr (Nat.le_refl _))
  have h350 := Held.ran h310 (ran_below be325 _) (Nat.le_trans (Nat.le_trans (Nat.le_trans (Nat.le_trans (Nat.le_trans (Nat.le_trans (Nat.le_trans (Nat.le_trans (le97.out) le125.out) le147.out) le167.out) le247.out) le269.out) le290.out) le317.out) t318.out) (.inr (Nat.le_refl _))
  have h351 := Held.ran h311 (ran_below be325 _) (Nat.le_trans (Nat.le_trans (Nat.le_trans (le269.out) le290.out) le317.out) t318.out) (.inr (Nat.le_refl _))
  have h352 := Held.ran h312 (ran_below be325 _) (Nat.le_trans (Nat.le_trans (Nat.le_trans (Nat.le_trans (Nat.le_trans (Nat.le_trans (le147.out) le167.out) le247.out) le269.out) le290.out) le317.out) t318.out) (.inr (Nat.le_refl _))
  have h353 := Held.ran h313 (ran_below be325 _) (Nat.le_trans (Nat.le_trans (Nat.le_trans (Nat.le_trans (le247.out) le269.out) le290.out) le317.out) t318.out) (.inr (Nat.le_refl _))
  have h354 := Held.ran h314 (ran_below be325 _) (Nat.le_trans (le317.out) t318.out) (.inr (Nat.le_refl _))
  have h355 := Held.ran h321 (ran_below be325 _) (Nat.le_refl _) (.inr (Nat.le_refl _))
  have bel356 : Below w.heap.size w W323 := Below.trans bel315 (Below.mono be325 (Nat.le_trans (Nat.le_trans (Nat.le_trans (Nat.le_trans (Nat.le_trans (Nat.le_trans (Nat.le_trans (Nat.le_trans (Nat.le_trans (Nat.le_trans (Nat.le_trans (Nat.le_trans (le20.out) le40.out) le56.out) le74.out) le97.out) le125.out) le147.out) le167.out) le247.out) le269.out) le290.out) le317.out) t318.out))
  have t357 : Hid (W297.heap.size ≤ W323.heap.size) := Lib.hid (Nat.le_trans t318.out (Below.size be325))
  clear h306 h307 h308 h309 h310 h311 h312 h313 h314 h321 bel315
  have le358 : Hid (W297.heap.size ≤ W323.heap.size) := t357
  have t359 : Hid (W323.heap.size ≤ W323.heap.size) := Lib.hid (Nat.le_refl _)
  have h360 := held_blk bk326 (Nat.le_refl _) lt345.out
  clear bk326 be325
  have bk361 := Held.now h349
  have q362 := Blk.cell bk361 0
  have q363 := Blk.cell bk361 1
  have q364 := Blk.cell bk361 2
  have q365 := Blk.cell bk361 3
  have q366 := Blk.cell bk361 4
  have q367 := Blk.cell bk361 5
  clear bk361
  go_wp2_with fail
  rw [show W297.alloc (.cells #[.int .i64 r.base, .int .i64 r.states, .int .i64 r.start, .int .i64 r.stop, .slice A300 r.T.length c301, .slice A303 r.P.length c304] 40) = W323 from hW324.symm]
  clear hW324
  clear q328 q329 q330 q331 q332 q333 lt334 ne335 q337 q338 q339 q340 q341 q342 lt343 ne344
  (go_at_call 36; (with_reducible refine (eqChain_any r _ _ _ _ _ _ _ _ _ _ _ (OwnC.rows (Held.now h355)) (OwnC.rows (Held.now h348)) (Nat.le_refl _) (Nat.le_refl _)).mono ?_); rintro e W369 ⟨rfl, b368⟩)
  have h370 := Held.ran h346 (ran_below b368 _) (Nat.le_trans (Nat.le_trans (Nat.le_trans (Nat.le_trans (Nat.le_trans (Nat.le_trans (Nat.le_trans (Nat.le_trans (Nat.le_trans (Nat.le_trans (Nat.le_trans (Nat.le_trans (Nat.le_trans (le20.out) le40.out) le56.out) le74.out) le97.out) le125.out) le147.out) le167.out) le247.out) le269.out) le290.out) le317.out) le358.out) t359.out) (.inr (Nat.le_refl _))
  have h371 := Held.ran h347 (ran_below b368 _) (Nat.le_trans (Nat.le_trans (Nat.le_trans (Nat.le_trans (Nat.le_trans (Nat.le_trans (Nat.le_trans (Nat.le_trans (Nat.le_trans (Nat.le_trans (Nat.le_trans (Nat.le_trans (le40.out) le56.out) le74.out) le97.out) le125.out) le147.out) le167.out) le247.out) le269.out) le290.out) le317.out) le358.out) t359.out) (.inr (Nat.le_refl _))
  have h372 := Held.ran h348 (ran_below b368 _) (Nat.le_trans (Nat.le_trans (Nat.le_trans (Nat.le_trans (Nat.le_trans (Nat.le_trans (Nat.le_trans (Nat.le_trans (Nat.le_trans (Nat.le_trans (Nat.le_trans (le56.out) le74.out) le97.out) le125.out) le147.out) le167.out) le247.out) le269.out) le290.out) le317.out) le358.out) t359.out) (.inr (Nat.le_refl _))
  have h373 := Held.ran h349 (ran_below b368 _) (Nat.le_trans (Nat.le_trans (Nat.le_trans (Nat.le_trans (Nat.le_trans (Nat.le_trans (Nat.le_trans (Nat.le_trans (Nat.le_trans (Nat.le_trans (le74.out) le97.out) le125.out) le147.out) le167.out) le247.out) le269.out) le290.out) le317.out) le358.out) t359.out) (.inr (Nat.le_refl _))
  have h374 := Held.ran h350 (ran_below b368 _) (Nat.le_trans (Nat.le_trans (Nat.le_trans (Nat.le_trans (Nat.le_trans (Nat.le_trans (Nat.le_trans (Nat.le_trans (Nat.le_trans (le97.out) le125.out) le147.out) le167.out) le247.out) le269.out) le290.out) le317.out) le358.out) t359.out) (.inr (Nat.le_refl _))
  have h375 := Held.ran h351 (ran_below b368 _) (Nat.le_trans (Nat.le_trans (Nat.le_trans (Nat.le_trans (le269.out) le290.out) le317.out) le358.out) t359.out) (.inr (Nat.le_refl _))
  have h376 := Held.ran h352 (ran_below b368 _) (Nat.le_trans (Nat.le_trans (Nat.le_trans (Nat.le_trans (Nat.le_trans (Nat.le_trans (Nat.le_trans (le147.out) le167.out) le247.out) le269.out) le290.out) le317.out) le358.out) t359.out) (.inr (Nat.le_refl _))
  have h377 := Held.ran h353 (ran_below b368 _) (Nat.le_trans (Nat.le_trans (Nat.le_trans (Nat.le_trans (Nat.le_trans (le247.out) le269.out) le290.out) le317.out) le358.out) t359.out) (.inr (Nat.le_refl _))
  have h378 := Held.ran h354 (ran_below b368 _) (Nat.le_trans (Nat.le_trans (le317.out) le358.out) t359.out) (.inr (Nat.le_refl _))
  have h379 := Held.ran h355 (ran_below b368 _) (Nat.le_trans (le358.out) t359.out) (.inr (Nat.le_refl _))
  have h380 := Held.ran h360 (ran_below b368 _) (Nat.le_refl _) (.inr (Nat.le_refl _))
  have bel381 : Below w.heap.size w W369 := Below.trans bel356 (Below.mono b368 (Nat.le_trans (Nat.le_trans (Nat.le_trans (Nat.le_trans (Nat.le_trans (Nat.le_trans (Nat.le_trans (Nat.le_trans (Nat.le_trans (Nat.le_trans (Nat.le_trans (Nat.le_trans (Nat.le_trans (le20.out) le40.out) le56.out) le74.out) le97.out) le125.out) le147.out) le167.out) le247.out) le269.out) le290.out) le317.out) le358.out) t359.out))
  have t382 : Hid (W323.heap.size ≤ W369.heap.size) := Lib.hid (Nat.le_trans t359.out (Below.size b368))
  clear h346 h347 h348 h349 h350 h351 h352 h353 h354 h355 h360 bel356
  clear b368
  clear q362
  clear q363
  clear q364
  clear q365
  clear q366
  clear q367
  have bk383 := Held.now h376
  have q384 := Blk.cell bk383 0
  have q385 := Blk.cell bk383 1
  have q386 := Blk.cell bk383 2
  have q387 := Blk.cell bk383 3
  have q388 := Blk.cell bk383 4
  have q389 := Blk.cell bk383 5
  clear bk383
  go_wp2_with fail
  (go_at_call 38; (with_reducible refine (heldChain_any r _ _ L86 1 1 (by omega) _ (OwnC.rows (Held.now h375)) (Nat.le_refl _) (by omega)).mono ?_); rintro e W391 ⟨rfl, b390⟩)
  have h392 := Held.ran h370 (ran_below b390 _) (Nat.le_trans (Nat.le_trans (Nat.le_trans (Nat.le_trans (Nat.le_trans (Nat.le_trans (Nat.le_trans (Nat.le_trans (Nat.le_trans (Nat.le_trans (Nat.le_trans (Nat.le_trans (Nat.le_trans (le20.out) le40.out) le56.out) le74.out) le97.out) le125.out) le147.out) le167.out) le247.out) le269.out) le290.out) le317.out) le358.out) t382.out) (.inr (Nat.le_refl _))
  have h393 := Held.ran h371 (ran_below b390 _) (Nat.le_trans (Nat.le_trans (Nat.le_trans (Nat.le_trans (Nat.le_trans (Nat.le_trans (Nat.le_trans (Nat.le_trans (Nat.le_trans (Nat.le_trans (Nat.le_trans (Nat.le_trans (le40.out) le56.out) le74.out) le97.out) le125.out) le147.out) le167.out) le247.out) le269.out) le290.out) le317.out) le358.out) t382.out) (.inr (Nat.le_refl _))
  have h394 := Held.ran h372 (ran_below b390 _) (Nat.le_trans (Nat.le_trans (Nat.le_trans (Nat.le_trans (Nat.le_trans (Nat.le_trans (Nat.le_trans (Nat.le_trans (Nat.le_trans (Nat.le_trans (Nat.le_trans (le56.out) le74.out) le97.out) le125.out) le147.out) le167.out) le247.out) le269.out) le290.out) le317.out) le358.out) t382.out) (.inr (Nat.le_refl _))
  have h395 := Held.ran h373 (ran_below b390 _) (Nat.le_trans (Nat.le_trans (Nat.le_trans (Nat.le_trans (Nat.le_trans (Nat.le_trans (Nat.le_trans (Nat.le_trans (Nat.le_trans (Nat.le_trans (le74.out) le97.out) le125.out) le147.out) le167.out) le247.out) le269.out) le290.out) le317.out) le358.out) t382.out) (.inr (Nat.le_refl _))
  have h396 := Held.ran h374 (ran_below b390 _) (Nat.le_trans (Nat.le_trans (Nat.le_trans (Nat.le_trans (Nat.le_trans (Nat.le_trans (Nat.le_trans (Nat.le_trans (Nat.le_trans (le97.out) le125.out) le147.out) le167.out) le247.out) le269.out) le290.out) le317.out) le358.out) t382.out) (.inr (Nat.le_refl _))
  have h397 := Held.ran h375 (ran_below b390 _) (Nat.le_trans (Nat.le_trans (Nat.le_trans (Nat.le_trans (le269.out) le290.out) le317.out) le358.out) t382.out) (.inr (Nat.le_refl _))
  have h398 := Held.ran h376 (ran_below b390 _) (Nat.le_trans (Nat.le_trans (Nat.le_trans (Nat.le_trans (Nat.le_trans (Nat.le_trans (Nat.le_trans (le147.out) le167.out) le247.out) le269.out) le290.out) le317.out) le358.out) t382.out) (.inr (Nat.le_refl _))
  have h399 := Held.ran h377 (ran_below b390 _) (Nat.le_trans (Nat.le_trans (Nat.le_trans (Nat.le_trans (Nat.le_trans (le247.out) le269.out) le290.out) le317.out) le358.out) t382.out) (.inr (Nat.le_refl _))
  have h400 := Held.ran h378 (ran_below b390 _) (Nat.le_trans (Nat.le_trans (le317.out) le358.out) t382.out) (.inr (Nat.le_refl _))
  have h401 := Held.ran h379 (ran_below b390 _) (Nat.le_trans (le358.out) t382.out) (.inr (Nat.le_refl _))
  have h402 := Held.ran h380 (ran_below b390 _) (Nat.le_trans (Nat.le_refl _) t382.out) (.inr (Nat.le_refl _))
  have bel403 : Below w.heap.size w W391 := Below.trans bel381 (Below.mono b390 (Nat.le_trans (Nat.le_trans (Nat.le_trans (Nat.le_trans (Nat.le_trans (Nat.le_trans (Nat.le_trans (Nat.le_trans (Nat.le_trans (Nat.le_trans (Nat.le_trans (Nat.le_trans (Nat.le_trans (le20.out) le40.out) le56.out) le74.out) le97.out) le125.out) le147.out) le167.out) le247.out) le269.out) le290.out) le317.out) le358.out) t382.out))
  have t404 : Hid (W323.heap.size ≤ W391.heap.size) := Lib.hid (Nat.le_trans t382.out (Below.size b390))
  clear h370 h371 h372 h373 h374 h375 h376 h377 h378 h379 h380 bel381
  clear b390
  clear q384
  clear q385
  clear q386
  clear q387
  clear q388
  clear q389
  go_wp2_with fail
  go_ret
  exact ⟨rfl, bel403⟩
end Go.Proofs.Ytiokcflomchdcab
