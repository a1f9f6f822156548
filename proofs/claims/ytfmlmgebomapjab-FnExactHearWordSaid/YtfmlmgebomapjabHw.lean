/-
  The word that is heard, of both sides, and the law's walk.
-/
import Derived.Test.YtfmlmgebomapjabNrI
import Derived.Test.YtfmlmgebomapjabTrS
import Derived.Test.YtfmlmgebomapjabWdS
namespace Go.Proofs.Ytfmlmgebomapjab
open Go Go.RowKit

def hwQ (ss : List ByteArray) (h : ByteArray) (most : Int) (i : Nat) : Bool := decide (((lev false (ss.getD i ByteArray.empty).data.toList h.data.toList : Nat) : Int) ≤ most)
/-- The indices of the words that are near. -/
def hws (ss : List ByteArray) (h : ByteArray) (most : Int) : List Nat := (List.range ss.length).filter (hwQ ss h most)
def hwE (l : List Nat) : Ending := match l with
  | [z] => two (z : Int) true
  | _ => two 0 false
def hwOk (ss : List ByteArray) (h : ByteArray) (most : Int) : Bool := lexB ss && (hearB h && inB most 0 20)
/-- What HearWord returns. -/
def hwV (ss : List ByteArray) (h : ByteArray) (most : Int) : Ending := if hwOk ss h most = true then hwE (hws ss h most) else two 0 false
theorem hw_no {ss : List ByteArray} {h : ByteArray} {most : Int} (hn : hwOk ss h most = false) : two 0 false = hwV ss h most := by unfold hwV; rw [hn]; rfl
theorem hw_yes {ss : List ByteArray} {h : ByteArray} {most : Int} (hy : hwOk ss h most = true) : hwV ss h most = hwE (hws ss h most) := by unfold hwV; rw [if_pos hy]
theorem hwE_not {l : List Nat} (h : l.length ≠ 1) : hwE l = two 0 false := by
  match l, h with
  | [], _ => rfl
  | [x], h => exact absurd rfl h
  | x :: y :: r, _ => rfl
theorem hwE_same {l m : List Nat} (h : ∀ z, l = [z] ↔ m = [z]) : hwE l = hwE m := by
  by_cases hl : l.length = 1
  · obtain ⟨z, rfl⟩ := List.length_eq_one_iff.1 hl
    rw [(h z).1 rfl]
  · rw [hwE_not hl]
    by_cases hm : m.length = 1
    · obtain ⟨z, rfl⟩ := List.length_eq_one_iff.1 hm
      exact absurd (by rw [(h z).2 rfl]; rfl) hl
    · rw [hwE_not hm]
theorem near_same {T : Tr} {ss : List ByteArray} {h : ByteArray} {most : Int} (ho : T.Ok) (hh : T.Has (wsOf ss)) (ha : ss.all wokB = true) : hwE (nearL T h most T.gs.length 0 []) = hwE (hws ss h most) := by
  have hlet : ∀ x t, ss[x]? = some t → letB t = true := fun x t hx => (wok_let (List.all_eq_true.1 ha t (List.mem_of_getElem? hx))).1
  refine hwE_same (same_one ?_ ?_ (fun x => ?_))
  · exact (all_nodup hh _ 0 [] rfl).sublist (near_sub _ _ _)
  · exact List.nodup_range.sublist (List.filter_sublist)
  · unfold hws
    rw [List.mem_filter, List.mem_range]
    constructor
    · intro hx
      obtain ⟨u, k, h1, h2, h3⟩ := near_mem _ _ _ _ hx
      have hacc : T.acc u = some x := by unfold Tr.acc; rw [h1]; exact h2
      have hw := (hh u x).1 hacc
      unfold wsOf at hw
      rw [List.getElem?_map] at hw
      cases ht : ss[x]? with
      | none => rw [ht] at hw; cases hw
      | some t =>
        rw [ht] at hw
        simp only [Option.map_some, Option.some.injEq] at hw
        rw [← hw, byts_lets (let_97 (hlet x t ht))] at h3
        refine ⟨(List.getElem?_eq_some_iff.1 ht).1, ?_⟩
        unfold hwQ
        simp [List.getD, ht]
        simpa using h3
    · rintro ⟨hx, hq⟩
      have ht : ss[x]? = some ss[x] := List.getElem?_eq_getElem hx
      have hw : (wsOf ss)[x]? = some (lets ss[x].data.toList) := by unfold wsOf; rw [List.getElem?_map, ht]; rfl
      have hacc := (hh _ x).2 hw
      unfold Tr.acc at hacc
      cases hg : T.go 0 (lets ss[x].data.toList) with
      | none => rw [hg] at hacc; cases hacc
      | some k =>
        rw [hg] at hacc
        refine mem_near ho _ 0 [] x _ k (Nat.le_refl _) ho.root (fun c hc => ?_) hg hacc ?_
        · obtain ⟨b, hb, rfl⟩ := List.mem_map.1 hc
          have := List.all_eq_true.1 (hlet x _ ht) b hb
          simp only [lowB, decide_eq_true_eq] at this
          omega
        · rw [byts_lets (let_97 (hlet x _ ht))]
          unfold hwQ at hq
          simpa [List.getD, ht] using hq

set_option maxRecDepth 100000 in
set_option maxHeartbeats 4000000 in
theorem implHear_any {B : Nat} (A : Option Addr) (n c : Nat) (ss : List ByteArray) (h : ByteArray) (most : Int) (w : World) (hr : SRow B w A n ss) (hB : B ≤ w.heap.size) (hs : h.size ≤ maxLen) :
    Calls Try.prog 18 #[.slice A n c, .string h, .int .i64 most] w fun e w' => e = hwV ss h most ∧ Below w.heap.size w w' := by
  have CT := trieOf_any A n c ss w hr hB
  have CH := fun W => isHeard_any h W hs
  have CI := fun W => within_any most 0 20 W
  go_enter Try.func18, Try.ntmps18
  go_wp2_with fail
  (go_at_call 28; (with_reducible refine (CT).mono ?_); rintro e w1 ⟨b1, hP⟩)
  rcases hP with ⟨hx, rfl⟩ | ⟨hx, rfl, hT⟩
  · have HX : Hid (hwOk ss h most = false) := Lib.hid (by unfold hwOk; rw [hx]; rfl)
    clear hx
    go_wp2_with fail
    go_ret2
    exact ⟨hw_no HX.out, b1⟩
  · rcases hh : hearB h with _ | _
    · have HX : Hid (hwOk ss h most = false) := Lib.hid (by unfold hwOk; rw [hh]; simp)
      rw [hh] at CH
      clear hx hh
      go_wp2_with (go_at_call 25; (with_reducible refine (CH _).mono ?_); rintro e w2 ⟨rfl, b2⟩)
      go_ret2
      exact ⟨hw_no HX.out, b1.trans (b2.mono b1.size)⟩
    · have hs20 := hear_size hh
      rcases hi : inB most 0 20 with _ | _
      · have HX : Hid (hwOk ss h most = false) := Lib.hid (by unfold hwOk; rw [hi]; simp)
        rw [hh] at CH
        rw [hi] at CI
        clear hx hh hi
        go_wp2_with (first | (go_at_call 25; (with_reducible refine (CH _).mono ?_); rintro e w2 ⟨rfl, b2⟩) | (go_at_call 30; (with_reducible refine (CI _).mono ?_); rintro e w' ⟨rfl, rfl⟩))
        go_ret2
        exact ⟨hw_no HX.out, b1.trans (b2.mono b1.size)⟩
      · have HX : Hid (hwOk ss h most = true) := Lib.hid (by unfold hwOk; rw [hx, hh, hi]; rfl)
        rw [hh] at CH
        rw [hi] at CI
        obtain ⟨T, t1, t2, t3, t4, t5, t6⟩ := hT
        rw [List.take_length] at t5 t6
        have hlen := all_len t5 T.gs.length
        obtain ⟨_, hl16, _⟩ := lex_parts hx
        have hlen2 : (allL T T.gs.length 0).length ≤ 1000 := by
          have : (wsOf ss).length = ss.length := by simp [wsOf]
          omega
        have HE := Lib.hid (near_same (h := h) (most := most) t2 t5 t6)
        have HT := Lib.hid t1
        have HLN := Lib.hid hlen2
        have HG := Lib.hid t4
        have HR := Lib.hid t2.root
        clear hx hh hi t1 t4 t5 t6 hlen hlen2
        go_wp2_with (first | (go_at_call 25; (with_reducible refine (CH _).mono ?_); rintro e w2 ⟨rfl, b2⟩) | (go_at_call 30; (with_reducible refine (CI _).mono ?_); rintro e w' ⟨rfl, rfl⟩))
        have B2 := Lib.hid (b1.trans (b2.mono b1.size))
        have T2 := Lib.hid (HT.out.below b2)
        clear b1 b2 HT
        (go_at_call 32; (with_reducible refine (nothing_any h _ hs20).mono ?_); rintro e w3 ⟨A3, c3, rfl, o3, b3⟩)
        have CN := near_any T h most hs20 t2 t3 T.gs.length 0 [] [] w3 A3 c3 _ _ (T2.out.below b3) HR.out (Nat.le_refl _) o3 rfl rfl HLN.out
        rw [HG.out] at CN
        have B3 := Lib.hid (B2.out.trans (b3.mono B2.out.size))
        clear o3 b3
        go_wp2_with fail
        (go_at_call 31; (with_reducible refine (CN).mono ?_); rintro e w4 ⟨A4, n4, c4, rfl, o4, b4⟩)
        have B4 := Lib.hid (B3.out.trans (b4.mono B3.out.size))
        have hl4 : (nearL T h most T.gs.length 0 []).length = n4 := by have := o4.1; simpa using this
        clear b4 CN
        by_cases h1 : n4 = 1
        · subst h1
          obtain ⟨z, hz⟩ := List.length_eq_one_iff.1 hl4
          have HV : Hid (hwV ss h most = two (z : Int) true) := Lib.hid (by rw [hw_yes HX.out, ← HE.out, hz]; rfl)
          rcases ownsRow_form o4 with ⟨_, h00, _⟩ | ⟨g4, rfl, _, _, _, _⟩
          · omega
          have hc4 : w4.cell? ⟨g4, 0, none⟩ = some (.int .i64 (z : Int)) := by
            rw [World.ownsRow.cellAt o4 0 (by omega), hz]; rfl
          clear o4 hz hl4
          go_wp2_with fail
          go_ret2
          exact ⟨HV.out.symm, B4.out⟩
        · have HV : Hid (hwV ss h most = two 0 false) := Lib.hid (by rw [hw_yes HX.out, ← HE.out]; exact hwE_not (by rw [hl4]; exact h1))
          have hne : ((n4 : Int) != 1) = true := by simp; omega
          clear o4 hl4 h1
          go_wp2_with fail
          go_ret2
          exact ⟨HV.out.symm, B4.out⟩

set_option maxRecDepth 100000 in
set_option maxHeartbeats 4000000 in
theorem specHear_any {B : Nat} (A : Option Addr) (n c : Nat) (ss : List ByteArray) (h : ByteArray) (most : Int) (w : World) (hr : SRow B w A n ss) (hB : B ≤ w.heap.size) (hn : n ≤ 1048576) (hs : h.size ≤ maxLen) :
    Calls Try.prog 17 #[.slice A n c, .string h, .int .i64 most] w fun e w' => e = hwV ss h most ∧ Below w.heap.size w w' := by
  have CL := l07Lexicon_any A n c ss w hr hn
  have CH := fun W => l07Letters_any h 20 20 rfl W hs
  have CI := fun W => l00In_any most 0 20 W
  simp only [lett_20] at CH
  have HN := Lib.hid hr.1
  rcases hx : lexB ss with _ | _
  · have HX : Hid (hwOk ss h most = false) := Lib.hid (by unfold hwOk; rw [hx]; rfl)
    rw [hx] at CL
    clear hx
    go_enter Try.func17, Try.ntmps17
    go_wp2_with (go_at_call 27; (with_reducible refine (CL).mono ?_); rintro e w' ⟨rfl, m, rfl⟩)
    go_ret2
    exact ⟨hw_no HX.out, below_drewN (Below.refl _ _) m⟩
  · rw [hx] at CL
    rcases hh : hearB h with _ | _
    · have HX : Hid (hwOk ss h most = false) := Lib.hid (by unfold hwOk; rw [hh]; simp)
      rw [hh] at CH
      clear hx hh
      go_enter Try.func17, Try.ntmps17
      go_wp2_with (first | (go_at_call 27; (with_reducible refine (CL).mono ?_); rintro e w' ⟨rfl, m, rfl⟩) | (go_at_call 23; (with_reducible refine (CH _).mono ?_); rintro e w' ⟨rfl, rfl⟩))
      go_ret2
      exact ⟨hw_no HX.out, below_drewN (Below.refl _ _) m⟩
    · have hs20 := hear_size hh
      rw [hh] at CH
      rcases hi : inB most 0 20 with _ | _
      · have HX : Hid (hwOk ss h most = false) := Lib.hid (by unfold hwOk; rw [hi]; simp)
        rw [hi] at CI
        clear hx hh hi
        go_enter Try.func17, Try.ntmps17
        go_wp2_with (first | (go_at_call 27; (with_reducible refine (CL).mono ?_); rintro e w' ⟨rfl, m, rfl⟩) | (go_at_call 23; (with_reducible refine (CH _).mono ?_); rintro e w' ⟨rfl, rfl⟩) | (go_at_call 29; (with_reducible refine (CI _).mono ?_); rintro e w' ⟨rfl, rfl⟩))
        go_ret2
        exact ⟨hw_no HX.out, below_drewN (Below.refl _ _) m⟩
      · have HX : Hid (hwOk ss h most = true) := Lib.hid (by unfold hwOk; rw [hx, hh, hi]; rfl)
        rw [hi] at CI
        obtain ⟨_, _, hall⟩ := lex_parts hx
        have HA := Lib.hid hall
        clear hx hh hi hall
        go_enter Try.func17, Try.ntmps17
        go_wp2_with (first | (go_at_call 27; (with_reducible refine (CL).mono ?_); rintro e w' ⟨rfl, m, rfl⟩) | (go_at_call 23; (with_reducible refine (CH _).mono ?_); rintro e w' ⟨rfl, rfl⟩) | (go_at_call 29; (with_reducible refine (CI _).mono ?_); rintro e w' ⟨rfl, rfl⟩))
        go_loopw [8, 9] (fun v y wr => ∃ (k : Nat) (z : Int), k ≤ n ∧ y = .int .i64 k ∧ v = .int .i64 z ∧ Hid (((List.range k).filter (hwQ ss h most) = [] ∧ z = -1) ∨ ∃ a : Nat, (List.range k).filter (hwQ ss h most) = [a] ∧ z = (a : Int)) ∧ Below w.heap.size w wr) (fun _ y _ => n - (intOf y).toNat)
        case atStart => exact ⟨0, -1, by omega, rfl, rfl, Lib.hid (.inl ⟨rfl, rfl⟩), below_drewN (Below.refl _ _) m⟩
        case round =>
          obtain ⟨k, z, hk, rfl, rfl, hZ, hbl⟩ := hrel
          obtain ⟨W, hW⟩ : ∃ W, W = wr := ⟨_, rfl⟩
          rw [← hW] at hbl ⊢
          clear hW
          have hsz := hbl.size
          by_cases hlt : k < n
          · obtain ⟨bk, o, t, rfl, _, ht, hc, _⟩ := (hr.below (hbl.mono hB)).at_ hlt
            have HTT := Lib.hid ht
            have ht20 : t.size ≤ 20 := (wok_let (List.all_eq_true.1 HA.out t (List.mem_of_getElem? ht))).2
            have CD := l07Distance_any t h W ht20 hs20
            obtain ⟨d, hd⟩ : ∃ d, d = lev false t.data.toList h.data.toList := ⟨_, rfl⟩
            have hdq : hwQ ss h most k = decide ((d : Int) ≤ most) := by
              unfold hwQ; simp [List.getD, ht, hd]
            rw [← hd] at CD
            have hfs : (List.range (k + 1)).filter (hwQ ss h most) = (List.range k).filter (hwQ ss h most) ++ (if hwQ ss h most k = true then [k] else []) := by
              rw [List.range_succ, List.filter_append]
              congr 1
              cases hq : hwQ ss h most k <;> simp [List.filter, hq]
            by_cases hm : (d : Int) ≤ most
            · have hdq2 : hwQ ss h most k = true := by rw [hdq]; simp [hm]
              rw [if_pos hdq2] at hfs
              by_cases hz0 : z = -1
              · have HZ : Hid (((List.range (k + 1)).filter (hwQ ss h most) = [] ∧ (k : Int) = -1) ∨ ∃ a : Nat, (List.range (k + 1)).filter (hwQ ss h most) = [a] ∧ (k : Int) = (a : Int)) := Lib.hid (.inr ⟨k, by
                  rcases hZ.out with ⟨e1, _⟩ | ⟨a, _, e2⟩
                  · rw [hfs, e1]; rfl
                  · omega, rfl⟩)
                subst hz0
                have hmn : ¬ most < (d : Int) := by omega
                clear ht hd hdq hdq2 hfs
                go_wp2_with (go_at_call 24; (with_reducible refine (CD).mono ?_); rintro e w2 ⟨rfl, b2⟩)
                go_roundw
                case rel => exact ⟨k + 1, (k : Int), by omega, by go_num, rfl, HZ, hbl.trans (b2.mono hsz)⟩
                case measure => simp [intOf]; omega
              · have HV : Hid (hwV ss h most = two 0 false) := Lib.hid (by
                  rcases hZ.out with ⟨_, e1⟩ | ⟨a, e1, _⟩
                  · exact absurd e1 hz0
                  · rw [hw_yes HX.out]
                    refine hwE_not ?_
                    have hsub : ((List.range (k + 1)).filter (hwQ ss h most)).Sublist (hws ss h most) := by
                      unfold hws
                      exact List.Sublist.filter _ (List.range_sublist.2 (by have := HN.out; omega))
                    have := hsub.length_le
                    rw [hfs, e1] at this
                    simp at this
                    omega)
                have hzp : 0 ≤ z := by
                  rcases hZ.out with ⟨_, e1⟩ | ⟨a, _, e2⟩
                  · exact absurd e1 hz0
                  · omega
                have hmn : ¬ most < (d : Int) := by omega
                clear ht hd hdq hdq2 hfs
                go_wp2_with (go_at_call 24; (with_reducible refine (CD).mono ?_); rintro e w2 ⟨rfl, b2⟩)
                go_ret2
                exact ⟨HV.out.symm, hbl.trans (b2.mono hsz)⟩
            · have hdq2 : hwQ ss h most k = false := by rw [hdq]; simp [hm]
              rw [hdq2] at hfs
              have HZ : Hid (((List.range (k + 1)).filter (hwQ ss h most) = [] ∧ z = -1) ∨ ∃ a : Nat, (List.range (k + 1)).filter (hwQ ss h most) = [a] ∧ z = (a : Int)) := Lib.hid (by
                rw [hfs]; simpa using hZ.out)
              have hmn : most < (d : Int) := by omega
              clear ht hd hdq hdq2 hfs
              go_wp2_with (go_at_call 24; (with_reducible refine (CD).mono ?_); rintro e w2 ⟨rfl, b2⟩)
              go_roundw
              case rel => exact ⟨k + 1, z, by omega, by go_num, rfl, HZ, hbl.trans (b2.mono hsz)⟩
              case measure => simp [intOf]; omega
          · obtain rfl : k = n := by omega
            have hws' : hws ss h most = (List.range k).filter (hwQ ss h most) := by unfold hws; rw [HN.out]
            rcases hZ.out with ⟨e1, e2⟩ | ⟨a, e1, e2⟩
            · have HV : Hid (hwV ss h most = two 0 false) := Lib.hid (by rw [hw_yes HX.out, hws', e1]; rfl)
              subst e2
              clear e1 hws'
              go_wp2_with fail
              go_ret2
              exact ⟨HV.out.symm, hbl⟩
            · have HV : Hid (hwV ss h most = two (a : Int) true) := Lib.hid (by rw [hw_yes HX.out, hws', e1]; rfl)
              subst e2
              have ha : ¬ (a : Int) < 0 := by omega
              clear e1 hws'
              go_wp2_with fail
              go_ret2
              exact ⟨HV.out.symm, hbl⟩

set_option maxRecDepth 100000 in
set_option maxHeartbeats 4000000 in
theorem hear_walk (A : Option Addr) (n c : Nat) (ss : List ByteArray) (s : ByteArray) (most : Int) (w : World) (h : SRow w.heap.size w A n ss) (hs : s.size ≤ maxLen) :
    Calls Try.prog 6 #[.slice A n c, .string s, .int .i64 most] w fun e w' => e = .returned (.bool true) ∧ Below w.heap.size w w' := by
  have hle := h.le
  have hs' := hs
  unfold maxLen at hs'
  have CZ := szStringS_any A n c ss 1048576 w h (by omega) (by omega)
  obtain ⟨z0, ok, hv⟩ : ∃ (z : Int) (ok : Bool), hwV ss s most = two z ok := by
    unfold hwV; split
    · unfold hwE; split
      · exact ⟨_, _, rfl⟩
      · exact ⟨_, _, rfl⟩
    · exact ⟨_, _, rfl⟩
  have HV := Lib.hid hv
  clear hv
  by_cases hla : 1048576 < s.size
  · go_enter Try.func6, Try.ntmps6
    go_wp2
    go_ret
    exact ⟨rfl, Below.refl _ _⟩
  · go_enter Try.func6, Try.ntmps6
    go_wp2_with fail
    (go_at_call 10; (with_reducible refine (CZ).mono ?_); rintro e w0 ⟨⟨z, rfl, hz⟩, rfl⟩)
    by_cases hneg : z < 0
    · go_wp2_with fail
      go_ret
      exact ⟨rfl, Below.refl _ _⟩
    · have hn := hz (by omega)
      have hnn : n ≤ 1048576 := by omega
      clear hz CZ
      go_wp2_with fail
      (go_at_call 12; (with_reducible refine (toStringS_any A n c ss _ h (Nat.le_refl _) hnn).mono ?_); rintro e w1 ⟨A1, c1, rfl, o1, b1⟩)
      have CS : Calls Try.prog 17 #[.slice A1 n c1, .string s, .int .i64 most] w1 fun e w' => e = two z0 ok ∧ Below w1.heap.size w1 w' := (specHear_any A1 n c1 ss s most w1 o1.row (Nat.le_refl _) hnn hs).mono fun e w' he => ⟨he.1.trans HV.out, he.2⟩
      go_wp2_with fail
      (go_at_call 17; (with_reducible refine (CS).mono ?_); rintro e w2 ⟨rfl, b2⟩)
      have B2 := Lib.hid (b1.trans (b2.mono b1.size))
      clear o1 b1 b2 CS
      go_wp2_with fail
      (go_at_call 12; (with_reducible refine (toStringS_any A n c ss _ (h.below B2.out) B2.out.size hnn).mono ?_); rintro e w3 ⟨A2, c2, rfl, o2, b3⟩)
      have B3 := Lib.hid (B2.out.trans (b3.mono B2.out.size))
      have R2 := Lib.hid o2.row
      clear o2 b3
      have CI : Calls Try.prog 18 #[.slice A2 n c2, .string s, .int .i64 most] w3 fun e w' => e = two z0 ok ∧ Below w3.heap.size w3 w' := (implHear_any A2 n c2 ss s most w3 R2.out (Nat.le_refl _) hs).mono fun e w' he => ⟨he.1.trans HV.out, he.2⟩
      go_wp2_with fail
      (go_at_call 18; (with_reducible refine (CI).mono ?_); rintro e w4 ⟨rfl, b4⟩)
      have B4 := Lib.hid (B3.out.trans (b4.mono B3.out.size))
      have R4 := Lib.hid (R2.out.below b4)
      have S34 := b4.size
      clear b4 CI
      have hbe : (ok != ok) = false := by simp
      have h1 : (z0 != z0) = false := by simp
      go_wp2_with fail
      (go_at_call 12; (with_reducible refine (toStringS_any A n c ss _ (h.below B4.out) B4.out.size hnn).mono ?_); rintro e w5 ⟨A3, c3, rfl, o3, b5⟩)
      have B5 := Lib.hid (B4.out.trans (b5.mono B4.out.size))
      have R5 := Lib.hid (R4.out.below (b5.mono S34))
      have R6 := Lib.hid o3.row
      clear o3 b5
      go_wp2_with fail
      (go_at_call 14; (with_reducible refine (eqStringS_any A2 A3 n c2 c3 ss _ R5.out R6.out).mono ?_); rintro e w' ⟨rfl, m, rfl⟩)
      go_wp2_with fail
      go_ret
      exact ⟨rfl, below_drewN B5.out m⟩
end Go.Proofs.Ytfmlmgebomapjab
