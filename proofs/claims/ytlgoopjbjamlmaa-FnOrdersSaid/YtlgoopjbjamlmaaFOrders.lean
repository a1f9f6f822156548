/-
  The walk of the law FnOrders: an order and its inverse change nothing together, its cycles lead from each number to its element, and its power is that of its steps.
-/
import Derived.Test.YtlgoopjbjamlmaaDrawO
import Derived.Test.YtlgoopjbjamlmaaAt
import Derived.BigRegion
namespace Go.Proofs.Ytlgoopjbjamlmaa
open Go.RowKit

/-- What a function leaves that returns some numbers and yes. -/
def Give (n : Nat) (zs : List Int) (w : World) (e : Ending) (w' : World) : Prop :=
  ∃ A c, e = .returned (.tuple #[.slice A n c, .bool true]) ∧ Own w.heap.size w' A n c zs ∧ Below w.heap.size w w'
theorem give_of {n : Nat} {zs : List Int} {ok : Bool} {w w' : World} {e : Ending} (h : Ret2 zs ok w e w') (ho : ok = true) (hn : zs.length = n) : Give n zs w e w' := by
  subst ho; subst hn; exact h
def GiveC (css : List (List Nat)) (w : World) (e : Ending) (w' : World) : Prop :=
  ∃ A c L, e = .returned (.tuple #[.slice A css.length c, .bool true]) ∧ Own2 w.heap.size w' A css.length c L (css.map ints) ∧ Below w.heap.size w w'
theorem giveC_of {zs : List Int} {n : Nat} {w w' : World} {e : Ending} (h : CycPost zs w e w') (ho : isOrd zs = true) (hn : zs.length = n) : GiveC (cycs (fnOf zs) n n) w e w' := by
  subst hn
  obtain ⟨A, c, L, he, ow, hb⟩ := h
  have e1 : cycR zs = (cycs (fnOf zs) zs.length zs.length).map ints := by unfold cycR cycsZ; rw [if_pos ho]
  have e2 : (cycR zs).length = (cycs (fnOf zs) zs.length zs.length).length := by rw [e1]; simp
  rw [ho, e2] at he
  rw [e2, e1] at ow
  exact ⟨A, c, L, he, ow, hb⟩
/-- The cells of a slice of one's own that is not empty. -/
theorem Own.cells {B n c : Nat} {w : World} {A : Option Addr} {zs : List Int} (h : Own B w A n c zs) (hn : 1 ≤ n) :
    ∃ g, A = some ⟨g, 0, none⟩ ∧ g < w.heap.size ∧ ∀ (j : Nat) (z : Int), zs[j]? = some z → w.cell? ⟨g, j, none⟩ = some (.int .i64 z) := by
  have hl := h.len
  rcases h.form with ⟨_, h0, _⟩ | ⟨g, rfl, _, hg, _⟩
  · omega
  · refine ⟨g, rfl, hg, fun j z hz => ?_⟩
    have hj := (List.getElem?_eq_some_iff.1 hz).1
    rw [h.1.cellAt j (by omega)]
    simp [hz]
theorem take_sum {css : List (List Nat)} {q : Nat} {cs : List Nat} (h : css[q]? = some cs) : ((css.take (q + 1)).map List.length).sum = ((css.take q).map List.length).sum + cs.length := by
  rw [List.take_add_one, h]; simp
theorem fo_mul {css : List (List Nat)} (n : Nat) (h : (css.map List.length).sum = n) (q : Nat) : ((css.take q).map List.length).sum ≤ n := by
  have := List.take_append_drop q css
  rw [← this, List.map_append, List.sum_append] at h
  omega

set_option maxRecDepth 100000 in
set_option maxHeartbeats 4000000 in
theorem orders_walk (a0 a1 : Option Addr) (l0 c0 l1 c1 : Nat) (z0 z1 : List Int) (w : World) (r0 : Row .u8 w a0 l0 z0) (r1 : Row .u8 w a1 l1 z1) :
    Calls Try.prog 4 #[.slice a0 l0 c0, .slice a1 l1 c1] w fun e w' => e = .returned (.bool true) ∧ Below w.heap.size w w' := by
  rcases hl : decide (1048576 < l0 ∨ 1048576 < l1) with _ | _
  · have L : ∀ W, Calls Try.prog 11 #[.slice a0 l0 c0, .slice a1 l1 c1] W fun e w' => e = .returned (.bool false) ∧ W = w' := fun W => hl ▸ b10Long_any a0 a1 l0 c0 l1 c1 W r0.2.1 r1.2.1
    clear hl
    obtain ⟨N, hN, hN1, hN12⟩ : ∃ N : Nat, atV z1 (0 : Nat) 12 = (N : Int) - 1 ∧ 1 ≤ N ∧ N ≤ 12 := by
      have b := atV_bd z1 (0 : Nat) 12 (by omega)
      exact ⟨(atV z1 (0 : Nat) 12 + 1).toNat, by omega, by omega, by omega⟩
    obtain ⟨P, hP, hP30⟩ : ∃ P : Nat, atV z1 (1 : Nat) 30 = (P : Int) ∧ P ≤ 29 := by
      have b := atV_bd z1 (1 : Nat) 30 (by omega)
      exact ⟨(atV z1 (1 : Nat) 30).toNat, by omega, by omega⟩
    have A12 : ∀ W, Row .u8 W a1 l1 z1 → Calls Try.prog 12 #[.slice a1 l1 c1, .int .i64 0, .int .i64 12] W fun e w' => e = .returned (.int .i64 ((N : Int) - 1)) ∧ W = w' := fun W r => hN ▸ b10At_any a1 l1 c1 0 12 z1 W r (by omega) (by omega)
    have A30 : ∀ W, Row .u8 W a1 l1 z1 → Calls Try.prog 12 #[.slice a1 l1 c1, .int .i64 1, .int .i64 30] W fun e w' => e = .returned (.int .i64 P) ∧ W = w' := fun W r => hP ▸ b10At_any a1 l1 c1 1 30 z1 W r (by omega) (by omega)
    have eN : 1 + ((N : Int) - 1) = N := by omega
    clear hN hP
    go_enter Try.func4, Try.ntmps4
    go_wp2_with (go_at_call 11; (with_reducible refine (L _).mono ?_); rintro e w' ⟨rfl, rfl⟩)
    go_wp2_with (go_at_call 12; (with_reducible refine (A12 _ r1).mono ?_); rintro e w' ⟨rfl, rfl⟩)
    (go_at_call 17; (with_reducible refine (b10Order_any a0 l0 c0 N z0 _ r0 hN1 (by omega)).mono ?_); rintro e w1 ⟨A1, k1, f, rfl, o1, p1, b1⟩)
    have s1 := b1.size
    go_wp2_with fail
    (go_at_call 17; (with_reducible refine (b10Order_any a1 l1 c1 N z1 _ ((RowB.below r1 b1).up s1) hN1 (by omega)).mono ?_); rintro e w2 ⟨A2, k2, g, rfl, o2, p2, b2⟩)
    have s2 := b2.size
    have O1 := o1.below b2
    have B2 := b1.trans (b2.mono s1)
    have hf := perm_ord p1 hN1 (by omega)
    have hg := perm_ord p2 hN1 (by omega)
    have lf : f.length = N := p1.1
    have lg : g.length = N := p2.1
    have CI : ∀ W, Row .i64 W A1 N f → Calls Try.prog 18 #[.slice A1 N k1] W (Give N (invL f) W) := fun W r => (implInverse2_any A1 N k1 f W r).mono fun e w' h => by
      have e1 : invR2 f = invL f := by unfold invR2; rw [if_pos hf]
      rw [e1] at h
      exact give_of h hf (by rw [invL_len, lf])
    have CC : ∀ W, Row .i64 W A1 N f → Calls Try.prog 20 #[.slice A1 N k1] W (GiveC (cycs (fnOf f) N N) W) := fun W r => (implCyclesOf_any A1 N k1 f W r).mono fun e w' h => giveC_of h hf lf
    have CP : ∀ W, Row .i64 W A1 N f → Calls Try.prog 21 #[.slice A1 N k1, .int .i64 P] W (Give N (powL f P) W) := fun W r => (implPower_any A1 N k1 P f W r).mono fun e w' h => by
      have e0 : powOk f P = true := by simp [powOk, hf, inB]; omega
      have e1 : powR f P = powL f P := by unfold powR; rw [if_pos e0]; simp
      rw [e1] at h
      exact give_of h e0 (by rw [powL_len, lf])
    have CV : ∀ (A : Option Addr) (k : Nat) (y : List Int) W, Row .i64 W A1 N f → Row .i64 W A N y → isOrd y = true → y.length = N → Calls Try.prog 19 #[.slice A1 N k1, .slice A N k] W (Give N (compV f y) W) := fun A k y W r r' hy ly => (implCompose_any A1 A N N k1 k f y W r r').mono fun e w' h => by
      have e0 : compOk f y = true := by simp [compOk, hf, hy, lf, ly]
      have e1 : compR f y = compV f y := by unfold compR; rw [if_pos e0]
      rw [e1] at h
      exact give_of h e0 (by rw [compV_len, ly])
    have hp := ord_perm hf
    have hq := ord_perm hg
    rw [lf] at hp
    rw [lg] at hq
    -- what the numbers are
    have FN : Hid (∀ i, i < N → (compV f (invL f))[i]? = some (i : Int)) := Lib.hid fun i hi => compV_inv hf (by omega)
    have FB : Hid (∀ i, i < N → (compV f g)[i]? = some ((fnOf f (fnOf g i) : Nat) : Int)) := Lib.hid fun i hi => compV_get hf hg (by omega) (by omega)
    have FF : Hid (∀ i, i < N → f[i]? = some ((fnOf f i : Nat) : Int)) := Lib.hid fun i hi => ord_at hf (by omega)
    have FG : Hid (∀ i, i < N → g[i]? = some ((fnOf g i : Nat) : Int)) := Lib.hid fun i hi => ord_at hg (by omega)
    have FP : Hid (∀ i, i < N → (powL f P)[i]? = some ((it (fnOf f) P i : Nat) : Int)) := Lib.hid fun i hi => powL_at hf P (by omega)
    have HI := Lib.hid (invL_ord hf)
    have HIl : (invL f).length = N := by rw [invL_len, lf]
    have HB := Lib.hid (compV_ord hf hg (by omega))
    have HPF := Lib.hid hp
    have HPG := Lib.hid hq
    have HG := Lib.hid hg
    clear hf hg hp hq p1 p2 o1 b1 b2
    obtain ⟨F, hF⟩ : ∃ F, F = fnOf f := ⟨_, rfl⟩
    obtain ⟨G, hG⟩ : ∃ G, G = fnOf g := ⟨_, rfl⟩
    rw [← hF] at FB FF FP CC HPF
    rw [← hG] at FB FG HPG
    clear hF hG
    obtain ⟨css, hcss⟩ : ∃ css, css = cycs F N N := ⟨_, rfl⟩
    rw [← hcss] at CC
    have HC := Lib.hid hcss
    have hcl : css.length ≤ N := by rw [hcss]; exact cycs_len_le _ _ _
    clear hcss
    go_wp2_with fail
    (go_at_call 18; (with_reducible refine (CI _ O1.row).mono ?_); rintro e w3 ⟨A3, k3, rfl, o3, b3⟩)
    have B3 := B2.trans (b3.mono B2.size)
    have O1' := O1.below b3
    have O2' := o2.below b3
    clear O1 o2 B2 b3
    go_wp2_with fail
    (go_at_call 19; (with_reducible refine (CV A3 k3 (invL f) _ O1'.row o3.row HI.out HIl).mono ?_); rintro e w4 ⟨A4, k4, rfl, o4, b4⟩)
    have B4 := B3.trans (b4.mono B3.size)
    have O1 := O1'.below b4
    have O2 := O2'.below b4
    clear O1' O2' o3 b4 B3
    go_wp2_with fail
    (go_at_call 19; (with_reducible refine (CV A2 k2 g _ O1.row O2.row HG.out lg).mono ?_); rintro e w5 ⟨A5, k5, rfl, o5, b5⟩)
    have B5 := B4.trans (b5.mono B4.size)
    have O1' := O1.below b5
    have O2' := O2.below b5
    have O4 := o4.below b5
    clear O1 O2 o4 b5 B4
    go_wp2_with fail
    (go_at_call 20; (with_reducible refine (CC _ O1'.row).mono ?_); rintro e w6 ⟨A6, k6, L6, rfl, o6, b6⟩)
    have B6 := B5.trans (b6.mono B5.size)
    have O1 := O1'.below b6
    have O2 := O2'.below b6
    have O4' := O4.below b6
    have O5 := o5.below b6
    clear O1' O2' O4 o5 b6 B5
    go_wp2_with (go_at_call 12; (with_reducible refine (A30 _ ((RowB.below r1 B6).up B6.size)).mono ?_); rintro e w' ⟨rfl, rfl⟩)
    (go_at_call 21; (with_reducible refine (CP _ O1.row).mono ?_); rintro e w7 ⟨A7, k7, rfl, o7, b7⟩)
    have B7 := B6.trans (b7.mono B6.size)
    have O1' := O1.below b7
    have O2' := O2.below b7
    have O4 := O4'.below b7
    have O5' := O5.below b7
    have O6 := o6.below b7
    have CO := implIsOrder_any A5 N k5 (compV f g) w7 O5'.row
    rw [HB.out] at CO
    clear O1 O2 O4' O5 o6 b7 B6 CI CC CP CV
    go_wp2_with fail
    (go_at_call 22; (with_reducible refine (CO).mono ?_); rintro e w8 ⟨rfl, b8⟩)
    have B8 := B7.trans (b8.mono B7.size)
    obtain ⟨g1, rfl, _, X1⟩ := (O1'.below b8).cells hN1
    obtain ⟨g2, rfl, _, X2⟩ := (O2'.below b8).cells hN1
    obtain ⟨g4, rfl, _, X4⟩ := (O4.below b8).cells hN1
    obtain ⟨g5, rfl, _, X5⟩ := (O5'.below b8).cells hN1
    obtain ⟨g7, rfl, _, X7⟩ := (o7.below b8).cells hN1
    have H6 := Lib.hid (O6.below b8)
    have Y4 : Hid (∀ i, i < N → w8.cell? ⟨g4, i, none⟩ = some (.int .i64 (i : Int))) := Lib.hid fun i hi => X4 i _ (FN.out i hi)
    have Y5 : Hid (∀ i, i < N → w8.cell? ⟨g5, i, none⟩ = some (.int .i64 ((F (G i) : Nat) : Int))) := Lib.hid fun i hi => X5 i _ (FB.out i hi)
    have Y1 : Hid (∀ i, i < N → w8.cell? ⟨g1, i, none⟩ = some (.int .i64 ((F i : Nat) : Int))) := Lib.hid fun i hi => X1 i _ (FF.out i hi)
    have Y2 : Hid (∀ i, i < N → w8.cell? ⟨g2, i, none⟩ = some (.int .i64 ((G i : Nat) : Int))) := Lib.hid fun i hi => X2 i _ (FG.out i hi)
    have Y7 : Hid (∀ i, i < N → w8.cell? ⟨g7, i, none⟩ = some (.int .i64 ((it F P i : Nat) : Int))) := Lib.hid fun i hi => X7 i _ (FP.out i hi)
    clear X1 X2 X4 X5 X7 O1' O2' O4 O5' O6 o7 B7 b8 FN FB FF FG FP CO HI HB A12 A30 L r0 r1 HG
    go_wp2_with fail
    go_loopw [19, 20, 21] (fun i _ _ wr => ∃ (q m : Nat), q ≤ N ∧ i = .int .i64 (q : Int) ∧ wr = w8.drewN m) (fun i _ _ _ => N - (intOf i).toNat)
    case atStart => exact ⟨0, 0, by omega, rfl, rfl⟩
    case round =>
      obtain ⟨q, m, hq, rfl, rfl⟩ := hrel
      by_cases hlt : q < N
      · go_wp2_with fail
        go_loop [20, 21] (fun x k => ∃ (j : Nat), j ≤ P ∧ k = .int .i64 (j : Int) ∧ x = .int .i64 ((it F j q : Nat) : Int)) (fun _ k => P - (intOf k).toNat)
        case atStart => exact ⟨0, by omega, rfl, rfl⟩
        case round =>
          obtain ⟨j, hj, rfl, rfl⟩ := hrel
          by_cases hjp : j < P
          · have x1 := HPF.out.it_lt hlt j
            have x2 : (w8.drewN m).cell? ⟨g1, it F j q, none⟩ = some (.int .i64 ((it F (j + 1) q : Nat) : Int)) := Y1.out _ x1
            obtain ⟨y, hy⟩ : ∃ y, y = it F (j + 1) q := ⟨_, rfl⟩
            rw [← hy] at x2
            have HY := Lib.hid hy
            obtain ⟨x, hx⟩ : ∃ x, x = it F j q := ⟨_, rfl⟩
            rw [← hx] at x1 x2 ⊢
            clear hx hy
            go_wp2_with fail
            go_round
            case rel => exact ⟨j + 1, by omega, by go_num, by rw [← HY.out]⟩
            case measure => simp [intOf]; omega
          · obtain rfl : j = P := by omega
            have x1 : w8.cell? ⟨g4, q, none⟩ = some (.int .i64 (q : Int)) := Y4.out q hlt
            have x2 : w8.cell? ⟨g5, q, none⟩ = some (.int .i64 ((F (G q) : Nat) : Int)) := Y5.out q hlt
            have hGq := HPG.out.lt q hlt
            have x3 : w8.cell? ⟨g2, q, none⟩ = some (.int .i64 ((G q : Nat) : Int)) := Y2.out q hlt
            have x4 : w8.cell? ⟨g1, G q, none⟩ = some (.int .i64 ((F (G q) : Nat) : Int)) := Y1.out _ hGq
            have x5 : w8.cell? ⟨g7, q, none⟩ = some (.int .i64 ((it F j q : Nat) : Int)) := Y7.out q hlt
            obtain ⟨y, hy⟩ : ∃ y, y = F (G q) := ⟨_, rfl⟩
            rw [← hy] at x2 x4
            obtain ⟨u, hu⟩ : ∃ u, u = G q := ⟨_, rfl⟩
            rw [← hu] at x3 x4 hGq
            obtain ⟨v, hv⟩ : ∃ v, v = it F j q := ⟨_, rfl⟩
            rw [← hv] at x5 ⊢
            clear hy hu hv
            go_wp2_with fail
            go_quiet (fail)
            go_wp2_with fail
            go_roundw
            case rel => exact ⟨q + 1, _, by omega, by go_num, rfl⟩
            case measure => simp [intOf]; omega
      · obtain rfl : q = N := by omega
        obtain ⟨m0, hm0⟩ : ∃ m0, m0 = m := ⟨_, rfl⟩
        go_wp2_with fail
        go_loopw [22, 23, 24, 25] (fun cnt i _ _ wr => ∃ (k m : Nat), k ≤ css.length ∧ i = .int .i64 (k : Int) ∧ cnt = .int .i64 ((((css.take k).map List.length).sum : Nat) : Int) ∧ wr = w8.drewN m) (fun _ i _ _ _ => css.length - (intOf i).toNat)
        case atStart => exact ⟨0, m, by omega, rfl, by simp, rfl⟩
        case round =>
          obtain ⟨k, m, hk, rfl, rfl, rfl⟩ := hrel
          by_cases hlt : k < css.length
          · have hck : css[k]? = some (css[k]'hlt) := List.getElem?_eq_getElem hlt
            obtain ⟨cs, hcs⟩ : ∃ cs, cs = css[k]'hlt := ⟨_, rfl⟩
            rw [← hcs] at hck
            obtain ⟨s, hs, hcy, hun⟩ : ∃ s, s < q ∧ cs = cyc F q s ∧ seenB F q s s = false := by
              have := List.mem_of_getElem? hck
              rw [HC.out] at this
              exact cycs_mem this
            have hT := take_sum hck
            obtain ⟨g6, At, ct, rfl, _, hcell, hct⟩ := H6.out.cyc hck
            have hlen : cs.length = per F q s := by rw [hcy, cyc_len]
            have hp1 : 1 ≤ cs.length := by rw [hlen]; unfold per; omega
            have hpq : cs.length ≤ q := by rw [hlen]; exact (HPF.out.per_spec hs).1
            obtain ⟨ga, rfl, _, XA⟩ := hct.cells hp1
            have hs0 : cs[0]? = some s := by rw [hcy]; exact cyc_at (k := 0) (by omega)
            have ya0 : w8.cell? ⟨ga, 0, none⟩ = some (.int .i64 (s : Int)) := XA 0 _ (ints_at hs0)
            have YA : Hid (∀ j, j < cs.length → ∃ u v : Nat, u < q ∧ s ≤ u ∧ w8.cell? ⟨ga, j, none⟩ = some (.int .i64 (u : Int)) ∧ w8.cell? ⟨g1, u, none⟩ = some (.int .i64 (v : Int)) ∧ w8.cell? ⟨ga, (j + 1) % cs.length, none⟩ = some (.int .i64 (v : Int))) := Lib.hid fun j hj => by
              have hju : cs[j]? = some (it F j s) := by rw [hcy]; exact cyc_at (by omega)
              have hjv : cs[(j + 1) % cs.length]? = some (it F (j + 1) s) := by rw [hcy]; exact cyc_wrap HPF.out hs
              exact ⟨it F j s, it F (j + 1) s, HPF.out.it_lt hs j, cyc_least HPF.out hs hun (by rw [← hcy]; exact List.mem_of_getElem? hju), XA j _ (ints_at hju), Y1.out _ (HPF.out.it_lt hs j), XA _ _ (ints_at hjv)⟩
            obtain ⟨S, hS⟩ : ∃ S, S = ((css.take k).map List.length).sum := ⟨_, rfl⟩
            have hSle : S ≤ q := by rw [hS]; exact fo_mul q (by rw [HC.out]; exact cycs_sum HPF.out) k
            rw [← hS] at hT ⊢
            obtain ⟨p, hp⟩ : ∃ p, p = cs.length := ⟨_, rfl⟩
            rw [← hp] at hcell hp1 hpq hT YA
            have HT := Lib.hid hT
            clear hck hcs hcy hun hct XA hs0 hS hlen hp hT
            go_wp2_with fail
            go_loopw [24, 25] (fun i _ wr => ∃ (j m : Nat), j ≤ p ∧ i = .int .i64 (j : Int) ∧ wr = w8.drewN m) (fun i _ _ => p - (intOf i).toNat)
            case atStart => exact ⟨0, m, by omega, rfl, rfl⟩
            case round =>
              obtain ⟨j, m, hj, rfl, rfl⟩ := hrel
              by_cases hjp : j < p
              · obtain ⟨u, v, hu, hsu, x1, x2, x3⟩ := YA.out j hjp
                have hr : (j + 1) % p < p := Nat.mod_lt _ (by omega)
                obtain ⟨r, hr2⟩ : ∃ r, r = (j + 1) % p := ⟨_, rfl⟩
                have hmod : ((j : Int) + 1) % (p : Int) = (r : Int) := by rw [hr2]; simp
                rw [← hr2] at hr x3
                have d1 : decide ((u : Int) < 0) = false := decide_eq_false (by omega)
                have d2 : decide ((q : Int) ≤ (u : Int)) = false := decide_eq_false (by omega)
                have d3 : decide ((u : Int) < (s : Int)) = false := decide_eq_false (by omega)
                have d1n : ((u : Int) < 0) = False := by simp only [eq_iff_iff, iff_false]; omega
                have d2n : (q ≤ u) = False := by simp only [eq_iff_iff, iff_false]; omega
                have d3n : (u < s) = False := by simp only [eq_iff_iff, iff_false]; omega
                have d2b : decide (q ≤ u) = false := decide_eq_false (by omega)
                have d3b : decide (u < s) = false := decide_eq_false (by omega)
                have d4 : ¬ p = 0 := by omega
                have d5 : (r : Int) < (p : Int) := by omega
                have d6 : (0 : Int) < (p : Int) := by omega
                have d7 : (u : Int) < (q : Int) := by omega
                have d8 : (j : Int) < (p : Int) := by omega
                have d9 : (k : Int) < (css.length : Int) := by omega
                have d10 : (((j : Int) + 1).tmod (p : Int)) = (r : Int) := by rw [Int.tmod_eq_emod_of_nonneg (by omega)]; exact hmod
                have d12 : (j + 1) % p = r := hr2.symm
                have d13 : ((j : Int) + 1) % (p : Int) < (p : Int) := by rw [hmod]; exact d5
                clear hr2
                go_wp2_with fail
                go_quiet (fail)
                go_wp2_with fail
                go_roundw
                case rel => exact ⟨j + 1, _, by omega, by go_num, rfl⟩
                case measure => simp [intOf]; omega
              · obtain rfl : j = p := by omega
                go_wp2_with fail
                go_roundw
                case rel => exact ⟨k + 1, m, by omega, by go_num, by rw [HT.out]; go_num, rfl⟩
                case measure => simp [intOf]; omega
          · obtain rfl : k = css.length := by omega
            have e : ((css.take css.length).map List.length).sum = q := by
              rw [List.take_length, HC.out]; exact cycs_sum HPF.out
            rw [e]
            go_wp2_with fail
            go_ret
            exact ⟨ret_bool (by simp), below_drewN B8 _⟩
  · have L : ∀ W, Calls Try.prog 11 #[.slice a0 l0 c0, .slice a1 l1 c1] W fun e w' => e = .returned (.bool true) ∧ W = w' := fun W => hl ▸ b10Long_any a0 a1 l0 c0 l1 c1 W r0.2.1 r1.2.1
    clear hl
    go_enter Try.func4, Try.ntmps4
    go_wp2_with (go_at_call 11; (with_reducible refine (L _).mono ?_); rintro e w' ⟨rfl, rfl⟩)
    go_ret
    exact ⟨rfl, Below.refl _ _⟩
end Go.Proofs.Ytlgoopjbjamlmaa
