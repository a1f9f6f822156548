/-
  The walk of the law of ReadWeighting.
-/
import Derived.Test.YtakkehjfdeghoacDoorRwt
import Derived.Test.YtakkehjfdeghoacDoorHBlk
import Derived.Test.YtakkehjfdeghoacDoorLast
import Derived.Deep.RegionHeld3
namespace Go.Proofs.YtakkehjfdeghoacDoor
open Go.RowKit

theorem rwX_len (l : List UInt8) : ((rwO l).getD zeroW).W.length ≤ 1000000 := by
  unfold rwO
  split
  · rw [rw4_eq]
    split
    · exact Nat.le_trans (listR_le _) (by decide)
    · exact Nat.zero_le _
  · exact Nat.zero_le _
theorem rw_held {W : World} (hL : laidMetH Tryd.prog Rows.fnExactReadWeightingRow.laid W) (hS : W.ShapedOpen Tryd.prog) : HeldS W := by
  have hm : ∃ m, W.cell? ⟨1, 0, none⟩ = some (.int .i64 m) := cell_of_shapedOpen_int (zero := #[.int .i64 0]) (t := 3) hS (of_decide_eq_true (by kernel_rfl)) (by kernel_rfl) rfl (by kernel_rfl) (by kernel_rfl) Tryd.underlying3
  rw [MakeChecks.laidMetH_plain _ _ _ (by kernel_rfl)] at hL
  have h3 := laidMet.tail (laidMet.tail hL)
  obtain ⟨hr, lr⟩ := held_err (g := 4) (laidMet.tail (laidMet.tail h3)) (by kernel_rfl) (by kernel_rfl)
  obtain ⟨hs, ls⟩ := held_err (g := 3) (laidMet.tail (laidMet.tail (laidMet.tail h3))) (by kernel_rfl) (by kernel_rfl)
  obtain ⟨m, hm⟩ := hm
  refine ⟨⟨?_, hs, hr, ls, lr⟩, ⟨m, hm⟩, block_of_cell hm⟩
  exact Lib.tabIs_of_head (g := 2) (t := 112) (e := 95) (n := 20) (by kernel_rfl) (by kernel_rfl) Tryd.underlying112 Tryd.underlying95 (by kernel_rfl) (by kernel_rfl) h3


set_option maxRecDepth 1000000 in
set_option maxHeartbeats 4000000 in
theorem readW_walk (t_aS : ByteArray) (w : World) (h_aS : t_aS.size ≤ maxLen) (HS : Hid (HeldS w)) :
    Calls Tryd.prog 4 #[.string t_aS] w fun e w' => e = .returned (.bool true) ∧ Below w.heap.size w w' := by
  have le_aS := h_aS
  unfold maxLen at le_aS
  by_cases big_aS : 1048576 < t_aS.size
  · go_enter Tryd.func4, Tryd.ntmps4
    go_wp2
    go_ret
    exact ⟨rfl, Below.refl _ _⟩
  have hrl0 := rwX_len t_aS.data.toList
  have CS : ∀ W, Calls Tryd.prog 10 #[.string t_aS] W (MadeWB W.heap.size ((rwO t_aS.data.toList).getD zeroW) (rwO t_aS.data.toList).isSome W) := fun W => specRW_any t_aS W (by omega)
  have CI : ∀ W, HeldS W → Calls Tryd.prog 11 #[.string t_aS] W (MadeWB W.heap.size ((rwO t_aS.data.toList).getD zeroW) (rwO t_aS.data.toList).isSome W) := fun W h => implRW_any t_aS W (by omega) h
  obtain ⟨r, hr⟩ : ∃ r, r = (rwO t_aS.data.toList).getD zeroW := ⟨_, rfl⟩
  obtain ⟨k, hk⟩ : ∃ k, k = (rwO t_aS.data.toList).isSome := ⟨_, rfl⟩
  rw [← hr, ← hk] at CS CI
  rw [← hr] at hrl0
  have hrl := hrl0
  clear hr hk hrl0
  have t0 : Hid (w.heap.size ≤ w.heap.size) := Lib.hid (Nat.le_refl _)
  have bel0 : Below w.heap.size w w := Below.refl _ _
  go_enter Tryd.func4, Tryd.ntmps4
  go_wp2_with fail
  (go_at_call 10; (with_reducible refine (CS _).mono ?_); rintro e W1 ⟨A4, c5, rfl, o3, b2⟩)
  have bel10 : Below w.heap.size w W1 := Below.trans bel0 (Below.mono b2 (Nat.le_refl _))
  have t11 : Hid (w.heap.size ≤ W1.heap.size) := Lib.hid (Nat.le_trans t0.out (Below.size b2))
  clear bel0
  have le12 : Hid (w.heap.size ≤ W1.heap.size) := t11
  have t13 : Hid (W1.heap.size ≤ W1.heap.size) := Lib.hid (Nat.le_refl _)
  have fr14 := Own.from o3
  have lt15 := Own.lt o3
  have h16 := held_own o3 lt15
  clear o3 b2
  obtain ⟨W17, hW18⟩ : ∃ W17, W17 = W1.alloc (.cells #[.int .i64 r.base, .int .i64 r.modulus, .int .i64 r.target, .slice A4 r.W.length c5] 28) := ⟨_, rfl⟩
  have be19 : Below W1.heap.size W1 W17 := by rw [hW18]; exact (Below.refl _ _).alloc (Nat.le_refl _) _
  have bk20 : Blk W17 W1.heap.size #[.int .i64 r.base, .int .i64 r.modulus, .int .i64 r.target, .slice A4 r.W.length c5] 28 := by rw [hW18]; exact Blk.new _ _ _
  have lt21 : Hid (W1.heap.size < W17.heap.size) := Lib.hid (Blk.lt bk20)
  have h22 := Held.ran h16 (ran_below be19 _) (Nat.le_refl _) (.inr (Nat.le_refl _))
  have bel23 : Below w.heap.size w W17 := Below.trans bel10 (Below.mono be19 (Nat.le_trans (le12.out) t13.out))
  have t24 : Hid (W1.heap.size ≤ W17.heap.size) := Lib.hid (Nat.le_trans t13.out (Below.size be19))
  clear h16 bel10
  have le25 : Hid (W1.heap.size ≤ W17.heap.size) := t24
  have t26 : Hid (W17.heap.size ≤ W17.heap.size) := Lib.hid (Nat.le_refl _)
  have h27 := held_blk bk20 (Nat.le_refl _) lt21.out
  clear bk20 be19
  go_wp2_with fail
  rw [show W1.alloc (.cells #[.int .i64 r.base, .int .i64 r.modulus, .int .i64 r.target, .slice A4 r.W.length c5] 28) = W17 from hW18.symm]
  clear hW18
  (go_at_call 11; (with_reducible refine (CI _ (heldS_below HS.out bel23)).mono ?_); rintro e W28 ⟨A31, c32, rfl, o30, b29⟩)
  have h37 := Held.ran h22 (ran_below b29 _) (Nat.le_trans (le25.out) t26.out) (.inr (Nat.le_refl _))
  have h38 := Held.ran h27 (ran_below b29 _) (Nat.le_refl _) (.inr (Nat.le_refl _))
  have bel39 : Below w.heap.size w W28 := Below.trans bel23 (Below.mono b29 (Nat.le_trans (Nat.le_trans (le12.out) le25.out) t26.out))
  have t40 : Hid (W17.heap.size ≤ W28.heap.size) := Lib.hid (Nat.le_trans t26.out (Below.size b29))
  clear h22 h27 bel23
  have le41 : Hid (W17.heap.size ≤ W28.heap.size) := t40
  have t42 : Hid (W28.heap.size ≤ W28.heap.size) := Lib.hid (Nat.le_refl _)
  have fr43 := Own.from o30
  have lt44 := Own.lt o30
  have h45 := held_own o30 lt44
  clear o30 b29
  have bk50 := Held.now h38
  have q51 : W28.cell? ⟨W1.heap.size, 0, none⟩ = some (.int .i64 r.base) := Blk.cell bk50 0
  have q52 : W28.cell? ⟨W1.heap.size, 1, none⟩ = some (.int .i64 r.modulus) := Blk.cell bk50 1
  have q53 : W28.cell? ⟨W1.heap.size, 2, none⟩ = some (.int .i64 r.target) := Blk.cell bk50 2
  have q54 : W28.cell? ⟨W1.heap.size, 3, none⟩ = some (.slice A4 r.W.length c5) := Blk.cell bk50 3
  clear bk50
  have lt55 : W1.heap.size < W28.heap.size := Nat.lt_of_lt_of_le lt21.out (Nat.le_trans (le41.out) t42.out)
  have ne56 : W1.heap.size ≠ W28.heap.size := Nat.ne_of_lt lt55
  obtain ⟨W46, hW47⟩ : ∃ W46, W46 = W28.alloc (.cells #[.int .i64 r.base, .int .i64 r.modulus, .int .i64 r.target, .slice A31 r.W.length c32] 28) := ⟨_, rfl⟩
  have be48 : Below W28.heap.size W28 W46 := by rw [hW47]; exact (Below.refl _ _).alloc (Nat.le_refl _) _
  have bk49 : Blk W46 W28.heap.size #[.int .i64 r.base, .int .i64 r.modulus, .int .i64 r.target, .slice A31 r.W.length c32] 28 := by rw [hW47]; exact Blk.new _ _ _
  have lt57 : Hid (W28.heap.size < W46.heap.size) := Lib.hid (Blk.lt bk49)
  have h58 := Held.ran h37 (ran_below be48 _) (Nat.le_trans (Nat.le_trans (le25.out) le41.out) t42.out) (.inr (Nat.le_refl _))
  have h59 := Held.ran h38 (ran_below be48 _) (Nat.le_trans (le41.out) t42.out) (.inr (Nat.le_refl _))
  have h60 := Held.ran h45 (ran_below be48 _) (Nat.le_refl _) (.inr (Nat.le_refl _))
  have bel61 : Below w.heap.size w W46 := Below.trans bel39 (Below.mono be48 (Nat.le_trans (Nat.le_trans (Nat.le_trans (le12.out) le25.out) le41.out) t42.out))
  have t62 : Hid (W28.heap.size ≤ W46.heap.size) := Lib.hid (Nat.le_trans t42.out (Below.size be48))
  clear h37 h38 h45 bel39
  have le63 : Hid (W28.heap.size ≤ W46.heap.size) := t62
  have t64 : Hid (W46.heap.size ≤ W46.heap.size) := Lib.hid (Nat.le_refl _)
  have h65 := held_blk bk49 (Nat.le_refl _) lt57.out
  clear bk49 be48
  have bk66 := Held.now h59
  have q67 := Blk.cell bk66 0
  have q68 := Blk.cell bk66 1
  have q69 := Blk.cell bk66 2
  have q70 := Blk.cell bk66 3
  clear bk66
  go_wp2_with fail
  rw [show W28.alloc (.cells #[.int .i64 r.base, .int .i64 r.modulus, .int .i64 r.target, .slice A31 r.W.length c32] 28) = W46 from hW47.symm]
  clear hW47
  clear q51 q52 q53 q54 lt55 ne56
  (go_at_call 9; (with_reducible refine (eqWeighting_any r _ _ _ _ _ _ (Own.row (Held.now h60)) (Own.row (Held.now h58)) (Nat.le_refl _) (Nat.le_refl _)).mono ?_); rintro e W72 ⟨rfl, b71⟩)
  have h73 := Held.ran h58 (ran_below b71 _) (Nat.le_trans (Nat.le_trans (Nat.le_trans (le25.out) le41.out) le63.out) t64.out) (.inr (Nat.le_refl _))
  have h74 := Held.ran h59 (ran_below b71 _) (Nat.le_trans (Nat.le_trans (le41.out) le63.out) t64.out) (.inr (Nat.le_refl _))
  have h75 := Held.ran h60 (ran_below b71 _) (Nat.le_trans (le63.out) t64.out) (.inr (Nat.le_refl _))
  have h76 := Held.ran h65 (ran_below b71 _) (Nat.le_refl _) (.inr (Nat.le_refl _))
  have bel77 : Below w.heap.size w W72 := Below.trans bel61 (Below.mono b71 (Nat.le_trans (Nat.le_trans (Nat.le_trans (Nat.le_trans (le12.out) le25.out) le41.out) le63.out) t64.out))
  have t78 : Hid (W46.heap.size ≤ W72.heap.size) := Lib.hid (Nat.le_trans t64.out (Below.size b71))
  clear h58 h59 h60 h65 bel61
  clear b71
  clear q67
  clear q68
  clear q69
  clear q70
  have bk82 := Held.now h76
  have q83 := Blk.cell bk82 0
  have q84 := Blk.cell bk82 1
  have q85 := Blk.cell bk82 2
  have q86 := Blk.cell bk82 3
  clear bk82
  go_wp2_with fail
  (go_at_call 12; (with_reducible refine (markWeighting_any r _ _ _ 1 1 (by omega) _ _ (Held.now h75) (Nat.le_trans (Nat.le_trans (le41.out) le63.out) t78.out) (by omega)).mono ?_); rintro e W81 ⟨rfl, o79, k80, k87⟩)
  have r88 := k87 _ lt44
  clear k80 k87
  have h89 := Held.ran h73 (r88) (Nat.le_trans (Nat.le_trans (Nat.le_trans (le25.out) le41.out) le63.out) t78.out) (.inr (le25.out))
  have h90 := Held.ran h74 (r88) (Nat.le_trans (Nat.le_trans (le41.out) le63.out) t78.out) (.inr (Nat.le_refl _))
  have h91 := Held.ran h76 (r88) (Nat.le_trans (Nat.le_refl _) t78.out) (.inl (Nat.le_refl _))
  have bel92 : Below w.heap.size w W81 := Below.trans bel77 (Ran.below r88 (Nat.le_trans (le12.out) le25.out) (Nat.le_trans (Nat.le_trans (Nat.le_trans (Nat.le_trans (le12.out) le25.out) le41.out) le63.out) t78.out))
  have t93 : Hid (W46.heap.size ≤ W81.heap.size) := Lib.hid (Nat.le_trans t78.out (Ran.size r88))
  clear h73 h74 h76 bel77
  have h94 := held_own o79 lt44
  clear o79 h75 r88
  clear q83
  clear q84
  clear q85
  clear q86
  have bk95 := Held.now h91
  have q96 := Blk.cell bk95 0
  have q97 := Blk.cell bk95 1
  have q98 := Blk.cell bk95 2
  have q99 := Blk.cell bk95 3
  clear bk95
  go_wp2_with fail
  (go_at_call 13; (with_reducible refine (heldWeighting_any r _ _ _ 1 1 (by omega) _ (Own.row (Held.now h94)) (Nat.le_refl _) (by omega)).mono ?_); rintro e W101 ⟨rfl, b100⟩)
  have h102 := Held.ran h89 (ran_below b100 _) (Nat.le_trans (Nat.le_trans (Nat.le_trans (le25.out) le41.out) le63.out) t93.out) (.inr (Nat.le_refl _))
  have h103 := Held.ran h90 (ran_below b100 _) (Nat.le_trans (Nat.le_trans (le41.out) le63.out) t93.out) (.inr (Nat.le_refl _))
  have h104 := Held.ran h94 (ran_below b100 _) (Nat.le_trans (le63.out) t93.out) (.inr (Nat.le_refl _))
  have h105 := Held.ran h91 (ran_below b100 _) (Nat.le_trans (Nat.le_refl _) t93.out) (.inr (Nat.le_refl _))
  have bel106 : Below w.heap.size w W101 := Below.trans bel92 (Below.mono b100 (Nat.le_trans (Nat.le_trans (Nat.le_trans (Nat.le_trans (le12.out) le25.out) le41.out) le63.out) t93.out))
  have t107 : Hid (W46.heap.size ≤ W101.heap.size) := Lib.hid (Nat.le_trans t93.out (Below.size b100))
  clear h89 h90 h94 h91 bel92
  clear b100
  clear q96
  clear q97
  clear q98
  clear q99
  go_wp2_with fail
  have le108 : Hid (W46.heap.size ≤ W101.heap.size) := t107
  have t109 : Hid (W101.heap.size ≤ W101.heap.size) := Lib.hid (Nat.le_refl _)
  (go_at_call 11; (with_reducible refine (CI _ (heldS_below HS.out bel106)).mono ?_); rintro e W110 ⟨A113, c114, rfl, o112, b111⟩)
  have h119 := Held.ran h102 (ran_below b111 _) (Nat.le_trans (Nat.le_trans (Nat.le_trans (Nat.le_trans (le25.out) le41.out) le63.out) le108.out) t109.out) (.inr (Nat.le_refl _))
  have h120 := Held.ran h103 (ran_below b111 _) (Nat.le_trans (Nat.le_trans (Nat.le_trans (le41.out) le63.out) le108.out) t109.out) (.inr (Nat.le_refl _))
  have h121 := Held.ran h104 (ran_below b111 _) (Nat.le_trans (Nat.le_trans (le63.out) le108.out) t109.out) (.inr (Nat.le_refl _))
  have h122 := Held.ran h105 (ran_below b111 _) (Nat.le_trans (le108.out) t109.out) (.inr (Nat.le_refl _))
  have bel123 : Below w.heap.size w W110 := Below.trans bel106 (Below.mono b111 (Nat.le_trans (Nat.le_trans (Nat.le_trans (Nat.le_trans (Nat.le_trans (le12.out) le25.out) le41.out) le63.out) le108.out) t109.out))
  have t124 : Hid (W101.heap.size ≤ W110.heap.size) := Lib.hid (Nat.le_trans t109.out (Below.size b111))
  clear h102 h103 h104 h105 bel106
  have le125 : Hid (W101.heap.size ≤ W110.heap.size) := t124
  have t126 : Hid (W110.heap.size ≤ W110.heap.size) := Lib.hid (Nat.le_refl _)
  have fr127 := Own.from o112
  have lt128 := Own.lt o112
  have h129 := held_own o112 lt128
  clear o112 b111
  have bk134 := Held.now h120
  have q135 : W110.cell? ⟨W1.heap.size, 0, none⟩ = some (.int .i64 r.base) := Blk.cell bk134 0
  have q136 : W110.cell? ⟨W1.heap.size, 1, none⟩ = some (.int .i64 r.modulus) := Blk.cell bk134 1
  have q137 : W110.cell? ⟨W1.heap.size, 2, none⟩ = some (.int .i64 r.target) := Blk.cell bk134 2
  have q138 : W110.cell? ⟨W1.heap.size, 3, none⟩ = some (.slice A4 r.W.length c5) := Blk.cell bk134 3
  clear bk134
  have lt139 : W1.heap.size < W110.heap.size := Nat.lt_of_lt_of_le lt21.out (Nat.le_trans (Nat.le_trans (Nat.le_trans (Nat.le_trans (le41.out) le63.out) le108.out) le125.out) t126.out)
  have ne140 : W1.heap.size ≠ W110.heap.size := Nat.ne_of_lt lt139
  have bk141 := Held.now h122
  have q142 : W110.cell? ⟨W28.heap.size, 0, none⟩ = some (.int .i64 r.base) := Blk.cell bk141 0
  have q143 : W110.cell? ⟨W28.heap.size, 1, none⟩ = some (.int .i64 r.modulus) := Blk.cell bk141 1
  have q144 : W110.cell? ⟨W28.heap.size, 2, none⟩ = some (.int .i64 r.target) := Blk.cell bk141 2
  have q145 : W110.cell? ⟨W28.heap.size, 3, none⟩ = some (.slice A31 r.W.length c32) := Blk.cell bk141 3
  clear bk141
  have lt146 : W28.heap.size < W110.heap.size := Nat.lt_of_lt_of_le lt57.out (Nat.le_trans (Nat.le_trans (le108.out) le125.out) t126.out)
  have ne147 : W28.heap.size ≠ W110.heap.size := Nat.ne_of_lt lt146
  obtain ⟨W130, hW131⟩ : ∃ W130, W130 = W110.alloc (.cells #[.int .i64 r.base, .int .i64 r.modulus, .int .i64 r.target, .slice A113 r.W.length c114] 28) := ⟨_, rfl⟩
  have be132 : Below W110.heap.size W110 W130 := by rw [hW131]; exact (Below.refl _ _).alloc (Nat.le_refl _) _
  have bk133 : Blk W130 W110.heap.size #[.int .i64 r.base, .int .i64 r.modulus, .int .i64 r.target, .slice A113 r.W.length c114] 28 := by rw [hW131]; exact Blk.new _ _ _
  have lt148 : Hid (W110.heap.size < W130.heap.size) := Lib.hid (Blk.lt bk133)
  have h149 := Held.ran h119 (ran_below be132 _) (Nat.le_trans (Nat.le_trans (Nat.le_trans (Nat.le_trans (Nat.le_trans (le25.out) le41.out) le63.out) le108.out) le125.out) t126.out) (.inr (Nat.le_refl _))
  have h150 := Held.ran h120 (ran_below be132 _) (Nat.le_trans (Nat.le_trans (Nat.le_trans (Nat.le_trans (le41.out) le63.out) le108.out) le125.out) t126.out) (.inr (Nat.le_refl _))
  have h151 := Held.ran h121 (ran_below be132 _) (Nat.le_trans (Nat.le_trans (Nat.le_trans (le63.out) le108.out) le125.out) t126.out) (.inr (Nat.le_refl _))
  have h152 := Held.ran h122 (ran_below be132 _) (Nat.le_trans (Nat.le_trans (le108.out) le125.out) t126.out) (.inr (Nat.le_refl _))
  have h153 := Held.ran h129 (ran_below be132 _) (Nat.le_refl _) (.inr (Nat.le_refl _))
  have bel154 : Below w.heap.size w W130 := Below.trans bel123 (Below.mono be132 (Nat.le_trans (Nat.le_trans (Nat.le_trans (Nat.le_trans (Nat.le_trans (Nat.le_trans (le12.out) le25.out) le41.out) le63.out) le108.out) le125.out) t126.out))
  have t155 : Hid (W110.heap.size ≤ W130.heap.size) := Lib.hid (Nat.le_trans t126.out (Below.size be132))
  clear h119 h120 h121 h122 h129 bel123
  have le156 : Hid (W110.heap.size ≤ W130.heap.size) := t155
  have t157 : Hid (W130.heap.size ≤ W130.heap.size) := Lib.hid (Nat.le_refl _)
  have h158 := held_blk bk133 (Nat.le_refl _) lt148.out
  clear bk133 be132
  have bk159 := Held.now h150
  have q160 := Blk.cell bk159 0
  have q161 := Blk.cell bk159 1
  have q162 := Blk.cell bk159 2
  have q163 := Blk.cell bk159 3
  clear bk159
  go_wp2_with fail
  rw [show W110.alloc (.cells #[.int .i64 r.base, .int .i64 r.modulus, .int .i64 r.target, .slice A113 r.W.length c114] 28) = W130 from hW131.symm]
  clear hW131
  clear q135 q136 q137 q138 lt139 ne140 q142 q143 q144 q145 lt146 ne147
  (go_at_call 9; (with_reducible refine (eqWeighting_any r _ _ _ _ _ _ (Own.row (Held.now h153)) (Own.row (Held.now h149)) (Nat.le_refl _) (Nat.le_refl _)).mono ?_); rintro e W165 ⟨rfl, b164⟩)
  have h166 := Held.ran h149 (ran_below b164 _) (Nat.le_trans (Nat.le_trans (Nat.le_trans (Nat.le_trans (Nat.le_trans (Nat.le_trans (le25.out) le41.out) le63.out) le108.out) le125.out) le156.out) t157.out) (.inr (Nat.le_refl _))
  have h167 := Held.ran h150 (ran_below b164 _) (Nat.le_trans (Nat.le_trans (Nat.le_trans (Nat.le_trans (Nat.le_trans (le41.out) le63.out) le108.out) le125.out) le156.out) t157.out) (.inr (Nat.le_refl _))
  have h168 := Held.ran h151 (ran_below b164 _) (Nat.le_trans (Nat.le_trans (Nat.le_trans (Nat.le_trans (le63.out) le108.out) le125.out) le156.out) t157.out) (.inr (Nat.le_refl _))
  have h169 := Held.ran h152 (ran_below b164 _) (Nat.le_trans (Nat.le_trans (Nat.le_trans (le108.out) le125.out) le156.out) t157.out) (.inr (Nat.le_refl _))
  have h170 := Held.ran h153 (ran_below b164 _) (Nat.le_trans (le156.out) t157.out) (.inr (Nat.le_refl _))
  have h171 := Held.ran h158 (ran_below b164 _) (Nat.le_refl _) (.inr (Nat.le_refl _))
  have bel172 : Below w.heap.size w W165 := Below.trans bel154 (Below.mono b164 (Nat.le_trans (Nat.le_trans (Nat.le_trans (Nat.le_trans (Nat.le_trans (Nat.le_trans (Nat.le_trans (le12.out) le25.out) le41.out) le63.out) le108.out) le125.out) le156.out) t157.out))
  have t173 : Hid (W130.heap.size ≤ W165.heap.size) := Lib.hid (Nat.le_trans t157.out (Below.size b164))
  clear h149 h150 h151 h152 h153 h158 bel154
  clear b164
  clear q160
  clear q161
  clear q162
  clear q163
  have bk174 := Held.now h169
  have q175 := Blk.cell bk174 0
  have q176 := Blk.cell bk174 1
  have q177 := Blk.cell bk174 2
  have q178 := Blk.cell bk174 3
  clear bk174
  go_wp2_with fail
  (go_at_call 13; (with_reducible refine (heldWeighting_any r _ _ _ 1 1 (by omega) _ (Own.row (Held.now h168)) (Nat.le_refl _) (by omega)).mono ?_); rintro e W180 ⟨rfl, b179⟩)
  have h181 := Held.ran h166 (ran_below b179 _) (Nat.le_trans (Nat.le_trans (Nat.le_trans (Nat.le_trans (Nat.le_trans (Nat.le_trans (le25.out) le41.out) le63.out) le108.out) le125.out) le156.out) t173.out) (.inr (Nat.le_refl _))
  have h182 := Held.ran h167 (ran_below b179 _) (Nat.le_trans (Nat.le_trans (Nat.le_trans (Nat.le_trans (Nat.le_trans (le41.out) le63.out) le108.out) le125.out) le156.out) t173.out) (.inr (Nat.le_refl _))
  have h183 := Held.ran h168 (ran_below b179 _) (Nat.le_trans (Nat.le_trans (Nat.le_trans (Nat.le_trans (le63.out) le108.out) le125.out) le156.out) t173.out) (.inr (Nat.le_refl _))
  have h184 := Held.ran h169 (ran_below b179 _) (Nat.le_trans (Nat.le_trans (Nat.le_trans (le108.out) le125.out) le156.out) t173.out) (.inr (Nat.le_refl _))
  have h185 := Held.ran h170 (ran_below b179 _) (Nat.le_trans (le156.out) t173.out) (.inr (Nat.le_refl _))
  have h186 := Held.ran h171 (ran_below b179 _) (Nat.le_trans (Nat.le_refl _) t173.out) (.inr (Nat.le_refl _))
  have bel187 : Below w.heap.size w W180 := Below.trans bel172 (Below.mono b179 (Nat.le_trans (Nat.le_trans (Nat.le_trans (Nat.le_trans (Nat.le_trans (Nat.le_trans (Nat.le_trans (le12.out) le25.out) le41.out) le63.out) le108.out) le125.out) le156.out) t173.out))
  have t188 : Hid (W130.heap.size ≤ W180.heap.size) := Lib.hid (Nat.le_trans t173.out (Below.size b179))
  clear h166 h167 h168 h169 h170 h171 bel172
  clear b179
  clear q175
  clear q176
  clear q177
  clear q178
  go_wp2_with fail
  go_ret
  exact ⟨rfl, bel187⟩
end Go.Proofs.YtakkehjfdeghoacDoor
