/-
  Contracts of PowerOrder, of the program and of the model: some steps along each cycle.
-/
import Derived.Test.YtlgoopjbjamlmaaCycLaw
import Derived.Test.YtlgoopjbjamlmaaComp
import Derived.Test.YtlgoopjbjamlmaaOnlyT
import Derived.BigRegion
namespace Go.Proofs.Ytlgoopjbjamlmaa
open Go.RowKit


/-- Place k of a cycle gets what stands M places behind it. -/
def powPut (cs : List Nat) (M : Nat) (out : List Int) (k : Nat) : List Int := out.set (cs.getD k 0) ((cs.getD ((k + M) % cs.length) 0 : Nat) : Int)
def powCyc (cs : List Nat) (M : Nat) (out : List Int) (k : Nat) : List Int := (List.range k).foldl (powPut cs M) out
def powAll (css : List (List Nat)) (M : Nat) (out : List Int) : List Int := css.foldl (fun o cs => powCyc cs M o cs.length) out
theorem powCyc_next (cs : List Nat) (M : Nat) (out : List Int) (k : Nat) : powCyc cs M out (k + 1) = powPut cs M (powCyc cs M out k) k := by
  simp [powCyc, List.range_succ]
theorem powCyc_len (cs : List Nat) (M : Nat) (out : List Int) : ∀ k, (powCyc cs M out k).length = out.length
  | 0 => by simp [powCyc]
  | k + 1 => by rw [powCyc_next, powPut, List.length_set]; exact powCyc_len cs M out k
theorem powAll_next (css : List (List Nat)) (M : Nat) (out : List Int) (cs : List Nat) : powAll (css ++ [cs]) M out = powCyc cs M (powAll css M out) cs.length := by
  simp [powAll]
theorem powAll_len (css : List (List Nat)) (M : Nat) : ∀ out : List Int, (powAll css M out).length = out.length := by
  induction css with
  | nil => intro out; rfl
  | cons cs r ih => intro out; exact (ih _).trans (powCyc_len _ _ _ _)
theorem powCyc_bd {cs : List Nat} {M n : Nat} {out : List Int} (hc : ∀ x ∈ cs, x < n) (hn : 1 ≤ n) (h : ∀ z ∈ out, 0 ≤ z ∧ z < (n : Int)) : ∀ k, ∀ z ∈ powCyc cs M out k, 0 ≤ z ∧ z < (n : Int)
  | 0 => h
  | k + 1 => by
    intro z hz
    rw [powCyc_next, powPut] at hz
    rcases List.mem_or_eq_of_mem_set hz with hz | rfl
    · exact powCyc_bd hc hn h k z hz
    · have : cs.getD ((k + M) % cs.length) 0 < n := by
        rw [List.getD_eq_getElem?_getD]
        rcases hq : cs[(k + M) % cs.length]? with _ | x
        · simp; omega
        · simp; exact hc x (List.mem_of_getElem? hq)
      omega
theorem powAll_bd {M n : Nat} (hn : 1 ≤ n) (css : List (List Nat)) : ∀ out : List Int, (∀ cs ∈ css, ∀ x ∈ cs, x < n) → (∀ z ∈ out, 0 ≤ z ∧ z < (n : Int)) → ∀ z ∈ powAll css M out, 0 ≤ z ∧ z < (n : Int) := by
  induction css with
  | nil => intro out _ h; exact h
  | cons cs r ih =>
    intro out hc h
    exact ih _ (fun c hm => hc c (by simp [hm])) (powCyc_bd (hc cs (by simp)) hn h _)
theorem cycs_mem {f : Nat → Nat} {n : Nat} : ∀ {i : Nat} {cs : List Nat}, cs ∈ cycs f n i → ∃ j, j < i ∧ cs = cyc f n j ∧ seenB f n j j = false := by
  intro i
  induction i with
  | zero => intro cs h; simp [cycs] at h
  | succ i ih =>
    intro cs h
    unfold cycs at h
    split at h
    · obtain ⟨j, hj, e⟩ := ih h
      exact ⟨j, by omega, e⟩
    · next hs =>
      rcases List.mem_append.1 h with h | h
      · obtain ⟨j, hj, e⟩ := ih h
        exact ⟨j, by omega, e⟩
      · exact ⟨i, by omega, List.mem_singleton.1 h, by simpa using hs⟩
def powL (zs : List Int) (M : Nat) : List Int := powAll (cycs (fnOf zs) zs.length zs.length) M (List.replicate zs.length 0)
theorem powL_len (zs : List Int) (M : Nat) : (powL zs M).length = zs.length := by simp [powL, powAll_len]
theorem powL_wf {zs : List Int} (h : isOrd zs = true) (M : Nat) : ∀ z ∈ powL zs M, (Lit.int .i64 z).wf = true := by
  intro z hz
  have h1 := ord_len h
  have := powAll_bd (M := M) h1.1 _ _ (fun cs hm x hx => by
    obtain ⟨j, hj, rfl, _⟩ := cycs_mem hm
    exact (ord_perm h).cyc_lt hj hx) (fun z hz => by
    have := List.eq_of_mem_replicate hz
    omega) z hz
  exact WalkArith.wf_i64 (by omega)
theorem ints_at {cs : List Nat} {j x : Nat} (h : cs[j]? = some x) : (ints cs)[j]? = some (x : Int) := by
  unfold ints; rw [List.getElem?_map, h]; rfl

/-- A row of the cycles, as a loop reads it. -/
theorem Own2.cyc {B n c : Nat} {w : World} {A : Option Addr} {L : List SL} {css : List (List Nat)} (h : Own2 B w A n c L (css.map ints)) {k : Nat} {cs : List Nat} (hk : css[k]? = some cs) :
    ∃ g At ct, A = some ⟨g, 0, none⟩ ∧ g < w.heap.size ∧ w.cell? ⟨g, k, none⟩ = some (.slice At cs.length ct) ∧ Own B w At cs.length ct (ints cs) := by
  have hl := h.len
  have hn := h.n_eq
  have hk2 : k < css.length := (List.getElem?_eq_some_iff.1 hk).1
  simp only [List.length_map] at hl
  have ht : L[k]? = some (L[k]'(by omega)) := List.getElem?_eq_getElem (by omega)
  have hi := h.inner k _ (ints cs) ht (by rw [List.getElem?_map, hk]; rfl)
  have hlen := hi.len
  have e : (ints cs).length = cs.length := by simp [ints]
  rw [e] at hlen
  rcases ownsRow_form h.outer with ⟨_, h0, _⟩ | ⟨g, hA, _, hg, _⟩
  · omega
  · subst hA
    have hc := h.outer.cellAt k (by omega)
    rw [List.getElem?_map, ht] at hc
    refine ⟨g, (L[k]'(by omega)).1, (L[k]'(by omega)).2.2, rfl, hg, ?_, ?_⟩
    · rw [hc, hlen]; rfl
    · rw [hlen]; exact hi

set_option maxRecDepth 100000 in
set_option maxHeartbeats 2000000 in
theorem power_any (A : Option Addr) (n c M : Nat) (zs : List Int) (w : World) (h : Row .i64 w A n zs) (ho : isOrd zs = true) (hM : M ≤ 1000000000000000) :
    Calls Try.prog 43 #[.slice A n c, .int .i64 M] w (Made w.heap.size n (powL zs M) w) := by
  have hl := h.1
  have hn36 : n ≤ 36 := by have := (ord_len ho).2; omega
  have HO := Lib.hid ho
  have hpw : powL zs M = powAll (cycs (fnOf zs) n n) M (List.replicate n 0) := by unfold powL; rw [hl]
  have hcl : ∀ cs ∈ cycs (fnOf zs) n n, 1 ≤ cs.length ∧ cs.length ≤ 36 ∧ ∀ x ∈ cs, x < n := by
    intro cs hm
    obtain ⟨j, hj, rfl, _⟩ := cycs_mem hm
    have hp := ord_perm ho
    rw [hl] at hp
    have := (hp.per_spec hj).1
    exact ⟨by rw [cyc_len]; unfold per; omega, by rw [cyc_len]; omega, fun x hx => hp.cyc_lt hj hx⟩
  have hwf : ∀ z ∈ powL zs M, (Lit.int .i64 z).wf = true := powL_wf ho M
  have CC : ∀ W : World, Row .i64 W A n zs → Calls Try.prog 42 #[.slice A n c] W (MadeC (W.heap.size + 1) (cycs (fnOf zs) n n).length (cycsZ (fnOf zs) n n) W) := fun W hr => implCycles_any A n c zs W hr ho
  have hcnt := cycs_len_le (fnOf zs) n n
  rw [hpw]
  rw [hpw] at hwf
  obtain ⟨css, hcss⟩ : ∃ css, css = cycs (fnOf zs) n n := ⟨_, rfl⟩
  rw [← hcss] at hcl hwf hcnt CC
  unfold cycsZ at CC
  rw [← hcss] at CC
  rw [← hcss]
  have HCL := Lib.hid hcl
  have HWF := Lib.hid hwf
  clear hcl hwf hpw hcss ho hl
  obtain ⟨i0, hi, hz0, hz1, hz2⟩ := info_parts info64
  go_enter Try.func43, Try.ntmps43
  go_wp2_with (refine wpList_make_full _ rfl _ _ 51 rfl w.heap.size 2 i0 (.int .i64 0) 1 Try.underlying51 hi hz0 hz1 .i64 .i64 n n n rfl rfl rfl rfl ?c1 ?c2 (Nat.le_refl _) ?_)
  case c1 => rw [hz2]; omega
  case c2 => unfold maxLen; omega
  intro w1 hown hg
  have hbel : Below w.heap.size w w1 := (Below.refl _ w).grown hg (Nat.le_refl _) (fun k hk => by cases hk)
  have hown0 : w1.ownsRow w.heap.size 2 1 (.slice (some ⟨w.heap.size, 0, none⟩) n n) n (cells64 (List.replicate n 0)) := by
    have e : cells64 (List.replicate n 0) = (madeCells #[Value.int .i64 0] n).toList := by
      simp [cells64, toList_madeCells_one]
    rw [e]; exact hown
  have hlt1 : w.heap.size < w1.heap.size := (hown.lt _ rfl).2
  clear hown hg
  go_wp2_with fail
  (go_at_call 42; (with_reducible refine (CC _ ((RowB.below h hbel).up hbel.size)).mono ?_); rintro e w2 ⟨Ac, cc, L, rfl, oc, bc⟩)
  have hown2 : w2.ownsRow w.heap.size 2 1 (.slice (some ⟨w.heap.size, 0, none⟩) n n) n (cells64 (List.replicate n 0)) := ownsRow_keep hown0 fun g hg => by injection hg with hg; injection hg with hg; subst hg; exact bc.block _ hlt1
  have bel2 := hbel.trans (bc.mono (by omega))
  have HOC := Lib.hid oc
  have HM := Lib.hid hM
  clear hown0 hbel bc oc CC
  go_wp2_with fail
  go_loopw [7, 8, 9, 16] (fun _ _ _ i wr => ∃ k : Nat, k ≤ css.length ∧ i = .int .i64 k ∧ wr.ownsRow w.heap.size 2 1 (.slice (some ⟨w.heap.size, 0, none⟩) n n) n (cells64 (powAll (css.take k) M (List.replicate n 0))) ∧ Only (some ⟨w.heap.size, 0, none⟩) w2 wr) (fun _ _ _ i _ => css.length - (intOf i).toNat)
  case atStart => exact ⟨0, by omega, rfl, by simpa [powAll] using hown2, Only.refl _ _⟩
  case round =>
    obtain ⟨k, hk, rfl, hout, hon⟩ := hrel
    obtain ⟨W0, rfl⟩ : ∃ W0, W0 = wr := ⟨_, rfl⟩
    by_cases hlt : k < css.length
    · have hck : css[k]? = some (css[k]'hlt) := List.getElem?_eq_getElem hlt
      obtain ⟨cs, hcs⟩ : ∃ cs, cs = css[k]'hlt := ⟨_, rfl⟩
      rw [← hcs] at hck
      obtain ⟨hp1, hp36, hpx⟩ := HCL.out cs (List.mem_of_getElem? hck)
      have oc0 := HOC.out.keep (w' := W0) fun g hg _ => hon.block g (fun e => by injection e with e; injection e with e; omega)
      obtain ⟨g, At, ct, rfl, hgs, hcell, hct⟩ := oc0.cyc hck
      have HT : Hid (powAll (css.take (k + 1)) M (List.replicate n 0) = powCyc cs M (powAll (css.take k) M (List.replicate n 0)) cs.length) := Lib.hid (by
        rw [List.take_add_one, hck]; exact powAll_next _ _ _ _)
      obtain ⟨base, hbase⟩ : ∃ base, base = powAll (css.take k) M (List.replicate n 0) := ⟨_, rfl⟩
      have hbl : base.length = n := by rw [hbase, powAll_len]; simp
      rw [← hbase] at hout HT
      obtain ⟨p, hp⟩ : ∃ p, p = cs.length := ⟨_, rfl⟩
      rw [← hp] at hcell hct hp1 hp36 HT
      have HPX := Lib.hid hpx
      have HP := Lib.hid hp
      have HCT := Lib.hid hct
      have HON := Lib.hid hon
      clear hbase hcs hck hp hct oc0 hon
      go_wp2_with fail
      go_loopw [8, 9, 22] (fun _ _ i wr => ∃ j : Nat, j ≤ p ∧ i = .int .i64 j ∧ wr.ownsRow w.heap.size 2 1 (.slice (some ⟨w.heap.size, 0, none⟩) n n) n (cells64 (powCyc cs M base j)) ∧ Only (some ⟨w.heap.size, 0, none⟩) W0 wr) (fun _ _ i _ => p - (intOf i).toNat)
      case atStart => exact ⟨0, by omega, rfl, hout, Only.refl _ _⟩
      case round =>
        obtain ⟨j, hj, rfl, hou, hon⟩ := hrel
        by_cases hjp : j < p
        · have hPe := HP.out
          have row := (HCT.out.keep (w' := wr) fun g hg => hon.block g (fun e => by
            have := HCT.out.from g hg
            injection e with e; injection e with e; omega)).row
          have hxj : cs[j]? = some (cs[j]'(by omega)) := List.getElem?_eq_getElem (by omega)
          obtain ⟨x, hx⟩ : ∃ x, x = cs[j]'(by omega) := ⟨_, rfl⟩
          rw [← hx] at hxj
          have hq : (j + M) % p < p := Nat.mod_lt _ (by omega)
          obtain ⟨q, hqe⟩ : ∃ q, q = (j + M) % p := ⟨_, rfl⟩
          rw [← hqe] at hq
          have hyq : cs[q]? = some (cs[q]'(by omega)) := List.getElem?_eq_getElem (by omega)
          obtain ⟨y, hy⟩ : ∃ y, y = cs[q]'(by omega) := ⟨_, rfl⟩
          rw [← hy] at hyq
          have hxn := HPX.out x (List.mem_of_getElem? hxj)
          obtain ⟨b, off, z, rfl, _, hz, hc, _⟩ := row.at_ hjp
          rw [ints_at hxj] at hz
          obtain rfl := Option.some.inj hz
          obtain ⟨b', off', z', e', _, hz', hc', _⟩ := row.at_ hq
          rw [ints_at hyq] at hz'
          obtain rfl := Option.some.inj hz'
          injection e' with e'
          injection e' with e1 e2
          subst e1; subst e2
          have hmod : ((j : Int) + (M : Int)) % (p : Int) = (q : Int) := by rw [hqe]; simp
          have HV : Hid (cells64 (powCyc cs M base (j + 1)) = (cells64 (powCyc cs M base j)).set x (.int .i64 (y : Int))) := Lib.hid (by
            have e3 : cs.getD j 0 = x := by simp [List.getD, hxj]
            have e4 : cs.getD ((j + M) % cs.length) 0 = y := by rw [← hPe, ← hqe]; simp [List.getD, hyq]
            rw [powCyc_next, powPut, e3, e4, cells64, List.map_set])
          have hcell2 : ∃ u, wr.cell? ⟨w.heap.size, x, none⟩ = some u := by
            have hc2 := hou.cellAt x (by omega)
            refine ⟨_, hc2.trans (List.getElem?_eq_getElem (by have := powCyc_len cs M base j; simp; omega))⟩
          obtain ⟨u, hu⟩ := hcell2
          have hfr := hou.frozenAt x
          have hst := hou.stored x (.int .i64 (y : Int))
          have hbm : (j : Int) + (M : Int) ≤ 1000000000000036 := by have := HM.out; omega
          clear hz hz' hxj hyq hx hy hqe hPe
          go_wp2_with fail
          go_roundw
          case rel => exact ⟨j + 1, by omega, by go_num, by rw [HV.out]; exact hst.1, hon.set _ _⟩
          case measure => simp [intOf]; omega
        · obtain rfl : j = p := by omega
          have HOU := Lib.hid hou
          have HO2 := Lib.hid (HON.out.trans' hon)
          clear hou hon
          go_wp2_with fail
          go_roundw
          case rel => exact ⟨k + 1, by omega, by go_num, by rw [HT.out]; exact HOU.out, HO2.out⟩
          case measure => simp [intOf]; omega
    · obtain rfl : k = css.length := by omega
      rw [List.take_length] at hout
      go_wp2_with fail
      go_ret
      exact ⟨_, _, rfl, ⟨hout, HWF.out⟩, bel2.trans (hon.below fun g e => by injection e with e; injection e with e; omega)⟩

/-! ### PowerOrder -/
def powOk (zs : List Int) (m : Int) : Bool := isOrd zs && inB m 0 1000000000000000
def powR (zs : List Int) (m : Int) : List Int := if powOk zs m = true then powL zs m.toNat else []
theorem powR_le (zs : List Int) (m : Int) : (powR zs m).length ≤ 36 := by
  unfold powR
  split
  · next h =>
    simp only [powOk, Bool.and_eq_true] at h
    rw [powL_len]; exact (ord_len h.1).2
  · simp
theorem pow_none {zs : List Int} {m : Int} {w w' : World} (h : powOk zs m = false) (hb : Below w.heap.size w w') : Ret2 (powR zs m) (powOk zs m) w (.returned (.tuple #[.slice none 0 0, .bool false])) w' := by
  have e : powR zs m = [] := by simp [powR, h]
  rw [e, h]; exact ret2_none hb
theorem pow_some {zs : List Int} {M : Nat} {w w' : World} {A : Option Addr} {n c : Nat} (h : powOk zs M = true) (hn : zs.length = n) (ho : Own w.heap.size w' A n c (powL zs M)) (hb : Below w.heap.size w w') :
    Ret2 (powR zs M) (powOk zs M) w (.returned (.tuple #[.slice A n c, .bool true])) w' := by
  have e : powR zs M = powL zs M := by unfold powR; rw [if_pos h]; simp
  rw [e, h]
  exact ret2_some (by rw [powL_len, hn]) ho hb
set_option maxHeartbeats 1000000 in
theorem implPower_any (A : Option Addr) (n c : Nat) (m : Int) (zs : List Int) (w : World) (h : Row .i64 w A n zs) :
    Calls Try.prog 21 #[.slice A n c, .int .i64 m] w (Ret2 (powR zs m) (powOk zs m) w) := by
  rcases ho : isOrd zs with _ | _
  · have HO : Hid (powOk zs m = false) := Lib.hid (by simp [powOk, ho])
    have C := implIsOrder_any A n c zs w h
    rw [ho] at C
    clear ho
    go_enter Try.func21, Try.ntmps21
    go_wp2_with fail
    (go_at_call 22; (with_reducible refine (C).mono ?_); rintro e w' ⟨rfl, hb⟩)
    go_wp2_with fail
    go_ret2
    exact pow_none HO.out hb
  · rcases hm : inB m 0 1000000000000000 with _ | _
    · have HO : Hid (powOk zs m = false) := Lib.hid (by simp [powOk, hm])
      have C := implIsOrder_any A n c zs w h
      rw [ho] at C
      clear ho
      go_enter Try.func21, Try.ntmps21
      go_wp2_with fail
      (go_at_call 22; (with_reducible refine (C).mono ?_); rintro e w' ⟨rfl, hb⟩)
      go_wp2_with (go_at_call 36; (with_reducible refine (within_any _ _ _ _).mono ?_); rintro e w' ⟨rfl, rfl⟩)
      go_ret2
      exact pow_none HO.out hb
    · have HO : Hid (powOk zs m = true) := Lib.hid (by simp [powOk, hm, ho])
      have HOR := Lib.hid ho
      have hb1 := inB_true.1 hm
      have HL := Lib.hid h.1
      have C := implIsOrder_any A n c zs w h
      rw [ho] at C
      clear ho
      obtain ⟨M, rfl⟩ := Int.eq_ofNat_of_zero_le hb1.1
      go_enter Try.func21, Try.ntmps21
      go_wp2_with fail
      (go_at_call 22; (with_reducible refine (C).mono ?_); rintro e w1 ⟨rfl, hb⟩)
      have h1 := (RowB.below h hb).up hb.size
      have hs := hb.size
      go_wp2_with (go_at_call 36; (with_reducible refine (within_any _ _ _ _).mono ?_); rintro e w' ⟨rfl, rfl⟩)
      (go_at_call 43; (with_reducible refine (power_any _ _ _ _ _ _ h1 HOR.out (by omega)).mono ?_); rintro e w2 ⟨A1, c1, rfl, o1, b1⟩)
      go_wp2_with fail
      go_ret2
      exact pow_some HO.out HL.out (o1.lower hs) (hb.trans (b1.mono hs))
end Go.Proofs.Ytlgoopjbjamlmaa
