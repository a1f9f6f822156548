/-
  Grouped words of the program, and the law's walk.
-/
import Derived.Test.YtfmlmgebomapjabDoorGwS
import Derived.Test.YtfmlmgebomapjabDoorWLim
import Derived.Test.YtfmlmgebomapjabDoorOwn
import Derived.Test.YtfmlmgebomapjabDoorOwnK
import Derived.Test.YtfmlmgebomapjabDoorShelf
import Derived.Test.YtfmlmgebomapjabDoorEdW
namespace Go.Proofs.YtfmlmgebomapjabDoor
open Go.RowKit

theorem infoStrG : (Tryd.prog.info? 9).map (fun i => (i.zero, i.size, i.bytes)) = some (some (.string ByteArray.empty), 1, 16) := by kernel_rfl
theorem one_cellG (w : World) (x : Value) (t : TypeId) : ∀ j u, [x][j]? = some u → (w.alloc (.cells #[x] t)).cell? ((⟨w.heap.size, 0, none⟩ : Addr).add j) = some u := by
  intro j u hj
  match j, hj with
  | 0, hj => simp at hj; subst hj; simp [Addr.add]
  | j + 1, hj => simp at hj
theorem slice_ofG {w : World} {B n : Nat} {v : Value} {xs : List Value} (h : w.ownsRow B 9 1 v n xs) : ∃ A c, v = .slice A n c := by
  rcases h.2 with ⟨h1, h2⟩ | ⟨g, cap, cur, h1, _⟩
  · exact ⟨_, _, by rw [h1, h2]⟩
  · exact ⟨_, _, h1⟩
theorem str_none {s : ByteArray} (h : ¬ s.size = 0) : (s.toList == ([] : List UInt8)) = false := by
  rw [ByteArray.toList_eq, beq_eq_false_iff_ne]
  intro e
  have := congrArg List.length e
  simp at this
  exact h (by simpa using this)
theorem str_some {s : ByteArray} (h : s.size = 0) : s.toList = [] := by
  rw [ByteArray.toList_eq]
  exact List.eq_nil_of_length_eq_zero (by simpa using h)
theorem jn_eq (xs : List ByteArray) : jn xs = ⟨(Lib.join (xs.map (·.data.toList)) [45]).toArray⟩ := rfl

set_option maxRecDepth 100000 in
set_option maxHeartbeats 4000000 in
theorem implGroup_any {B : Nat} (s : ByteArray) (A : Option Addr) (n c : Nat) (zs : List Int) (w : World) (hs : s.size ≤ maxLen) (h : RowB .i64 B w A n zs) (hB : B ≤ w.heap.size) (hn : n ≤ 1048576) :
    Calls Tryd.prog 12 #[.string s, .slice A n c] w fun e w' => e = gw2 s zs ∧ Below w.heap.size w w' := by
  have CW := fun W => implIsWordE_any s 36 W hs
  have CI := withinInt_any (n : Int) 1 10
  have CA := fun W (h : RowB .i64 B W A n zs) => allWithin_any A n c 1 20 zs W h
  have hl := h.len
  have hb1 := hB
  rcases h2 : wordB s 36 with _ | _
  · have H : Hid (gwOk s zs = false) := Lib.hid (gw_word h2)
    rw [h2] at CW
    clear h2
    go_enter Tryd.func12, Tryd.ntmps12
    go_wp2_with (go_at_call 17; (with_reducible refine (CW _).mono ?_); rintro e w1 ⟨rfl, b1⟩)
    go_ret2
    exact ⟨gw2_no H.out, b1⟩
  · rw [h2] at CW
    rcases h3 : inB n 1 10 with _ | _
    · have H : Hid (gwOk s zs = false) := Lib.hid (gw_sizes (by
        unfold szsOk
        rw [hl]
        have := inB_false.1 h3
        simp
        intros
        omega))
      rw [h3] at CI
      clear h2 h3
      go_enter Tryd.func12, Tryd.ntmps12
      go_wp2_with (first | (go_at_call 17; (with_reducible refine (CW _).mono ?_); rintro e w1 ⟨rfl, b1⟩) | (go_at_call 18; (with_reducible refine (CI _).mono ?_); rintro e w' ⟨rfl, rfl⟩))
      go_ret2
      exact ⟨gw2_no H.out, b1⟩
    · rw [h3] at CI
      rcases h4 : zs.all szOk with _ | _
      · have H : Hid (gwOk s zs = false) := Lib.hid (gw_sizes (szs_no h4))
        have CA2 : ∀ W, RowB .i64 B W A n zs → Calls Tryd.prog 19 #[.slice A n c, .int .i64 1, .int .i64 20] W fun e w' => e = .returned (.bool false) ∧ W = w' := fun W hW => (CA W hW).mono fun e w' he => ⟨he.1.trans (ret_bool h4), he.2⟩
        clear h2 h3 h4 CA
        go_enter Tryd.func12, Tryd.ntmps12
        go_wp2_with fail
        (go_at_call 17; (with_reducible refine (CW _).mono ?_); rintro e w1 ⟨rfl, b1⟩)
        have CA3 := CA2 w1 (h.below (b1.mono hB))
        go_wp2_with (first | (go_at_call 18; (with_reducible refine (CI _).mono ?_); rintro e w' ⟨rfl, rfl⟩) | (go_at_call 19; (with_reducible refine (CA3).mono ?_); rintro e w' ⟨rfl, rfl⟩))
        go_ret2
        exact ⟨gw2_no H.out, b1⟩
      · have CA2 : ∀ W, RowB .i64 B W A n zs → Calls Tryd.prog 19 #[.slice A n c, .int .i64 1, .int .i64 20] W fun e w' => e = .returned (.bool true) ∧ W = w' := fun W hW => (CA W hW).mono fun e w' he => ⟨he.1.trans (ret_bool h4), he.2⟩
        have hn1 := inB_true.1 h3
        have h1 : szsOk zs = true := by rw [szs_len h4, hl]; simp; omega
        have hs20 : s.size ≤ 20 := by
          unfold wordB at h2
          simp only [Bool.and_eq_true, decide_eq_true_eq] at h2
          exact h2.2.1
        have HN : Hid (zs.sum ≠ (s.size : Int) → gwOk s zs = false) := Lib.hid gw_sum
        have HY : Hid (zs.sum = (s.size : Int) → gwOk s zs = true) := Lib.hid (fun h => gw_yes h1 h2 h)
        have HALL := Lib.hid h4
        have HL := Lib.hid hl
        obtain ⟨hn1, hn10⟩ := hn1
        obtain ⟨i0, hin, hz0, hz1, hz2⟩ := info_parts infoStrG
        clear h1 h2 h3 h4 CA hl
        go_enter Tryd.func12, Tryd.ntmps12
        go_wp2_with fail
        (go_at_call 17; (with_reducible refine (CW _).mono ?_); rintro e w1 ⟨rfl, b1⟩)
        have CA3 := CA2 w1 (h.below (b1.mono hB))
        have B1 := Lib.hid b1
        clear b1
        go_wp2_with (first | (go_at_call 18; (with_reducible refine (CI _).mono ?_); rintro e w' ⟨rfl, rfl⟩) | (go_at_call 19; (with_reducible refine (CA3).mono ?_); rintro e w' ⟨rfl, rfl⟩))
        go_loopw [0, 6, 8, 25] (fun t v _ i wr => ∃ k : Nat, k ≤ n ∧ i = .int .i64 k ∧ t = .string (rst s zs k) ∧ psum zs k ≤ (s.size : Int) ∧ (∃ A' c', v = .slice A' k c') ∧ Hid (wr.ownsRow w.heap.size 9 1 v k (((pcs s zs).take k).map Value.string)) ∧ Below w.heap.size w wr) (fun _ _ _ i _ => n - (intOf i).toNat)
        case atStart => exact ⟨0, by omega, rfl, by rw [rst_zero], by rw [psum_zero]; omega, ⟨none, 0, rfl⟩, Lib.hid ⟨rfl, .inl ⟨rfl, rfl⟩⟩, B1.out⟩
        case round =>
          obtain ⟨k, hk, rfl, rfl, hpk, ⟨A', c', rfl⟩, hO, hBl⟩ := hrel
          obtain ⟨W, hW⟩ : ∃ W, W = wr := ⟨_, rfl⟩
          rw [← hW] at hO hBl ⊢
          clear hW
          have hsz := hBl.size
          by_cases hlt : k < n
          · obtain ⟨b, o, z, rfl, _, hz, hc, _⟩ := (h.below (hBl.mono hB)).at_ hlt
            have hzb := inB_true.1 (List.all_eq_true.1 HALL.out z (List.mem_of_getElem? hz))
            have hps := psum_succ hz
            have hp0 := (psum_bd HALL.out k (by have := HL.out; omega)).1
            have hrs := rst_size (s := s) (zs := zs) (k := k) (by omega) hpk
            obtain ⟨zn, rfl⟩ : ∃ zn : Nat, z = (zn : Int) := ⟨z.toNat, by omega⟩
            obtain ⟨hzb1, hzb2⟩ := hzb
            by_cases hfit : psum zs k + zn ≤ (s.size : Int)
            · have HH : Hid ((rst s zs k).extract 0 zn = pc s zs k) := Lib.hid (by
                have := rst_head (s := s) hz (by omega) (by omega) hfit
                simpa using this)
              have HT : Hid ((rst s zs k).extract zn (rst s zs k).size = rst s zs (k + 1)) := Lib.hid (by
                have := rst_tail (s := s) hz (by omega) (by omega) hfit
                simpa using this)
              have HP2 : Hid (psum zs (k + 1) ≤ (s.size : Int)) := Lib.hid (by rw [hps]; exact hfit)
              have HD : Hid (((pcs s zs).take k).map Value.string ++ [Value.string (pc s zs k)] = ((pcs s zs).take (k + 1)).map Value.string) := Lib.hid (by
                rw [List.take_add_one (i := k), pcs_at s (by have := HL.out; omega)]; simp)
              have hown := hO.out
              obtain ⟨cs, hcs⟩ : ∃ cs, cs = ((pcs s zs).take k).map Value.string := ⟨_, rfl⟩
              rw [← hcs] at hown HD
              obtain ⟨t, ht⟩ : ∃ t, t = rst s zs k := ⟨_, rfl⟩
              rw [← ht] at hrs HH HT ⊢
              have hts : zn ≤ t.size := by omega
              have hti : ¬ (t.size : Int) < (zn : Int) := by omega
              clear hcs hz hps hp0 hrs hfit ht hO
              go_wp2_with (at_builtin; refine wpList_append_own _ rfl _ _ 30 rfl w.heap.size 9 i0 (.string ByteArray.empty) 1 16 Tryd.underlying30 hin hz0 hz1 hz2 rfl (by decide) _ _ _ rfl (hown.alloc _) ⟨W.heap.size, 0, none⟩ 1 1 [.string (t.extract 0 zn)] rfl rfl (one_cellG _ _ _) (fun u hu => by simp at hu; subst hu; rfl) ?c1 ?c2 ?c3 ?_)
              case c1 => unfold maxLen; omega
              case c2 => omega
              case c3 => first | omega | (simp; omega)
              intro v3 w3 ho3 hg3 _
              obtain ⟨A3, c3, rfl⟩ := slice_ofG ho3
              have hb3 := Lib.hid (Below.grown (hBl.alloc (by first | omega | (simp; omega)) _) hg3 (by simp; omega) (fun q hq => (hown.lt q hq).1))
              rw [HH.out, HD.out] at ho3
              have HO3 := Lib.hid ho3
              clear ho3 hg3 hown
              go_wp2_with fail
              go_roundw
              case rel => exact ⟨k + 1, by omega, by go_num, by rw [HT.out], HP2.out, ⟨A3, c3, rfl⟩, HO3, hb3.out⟩
              case measure => simp [intOf]; omega
            · have hmo := psum_mono HALL.out (j := k + 1) (k := zs.length) (by have := HL.out; omega) (Nat.le_refl _)
              rw [psum_all, hps] at hmo
              have HG : Hid (gwOk s zs = false) := Lib.hid (HN.out (by omega))
              have hlt2 : ((rst s zs k).size : Int) < (zn : Int) := by omega
              obtain ⟨t, ht⟩ : ∃ t, t = rst s zs k := ⟨_, rfl⟩
              rw [← ht] at hlt2 ⊢
              clear hz hps hp0 hrs hfit hmo ht
              go_wp2_with fail
              go_ret2
              exact ⟨gw2_no HG.out, hBl⟩
          · obtain rfl : k = n := by omega
            have hpa := psum_all zs
            rw [HL.out] at hpa
            have hrs := rst_size (s := s) (zs := zs) (k := k) (by have := (psum_bd HALL.out k (by have := HL.out; omega)).1; omega) hpk
            by_cases hend : psum zs k = (s.size : Int)
            · have HG : Hid (gwOk s zs = true) := Lib.hid (HY.out (by rw [← hpa]; exact hend))
              have h0 : (rst s zs k).size = 0 := by omega
              have hno := str_some h0
              obtain ⟨t, ht⟩ : ∃ t, t = rst s zs k := ⟨_, rfl⟩
              rw [← ht] at hno ⊢
              have hown := hO.out
              rw [List.take_of_length_le (by rw [pcs_len, HL.out]; exact Nat.le_refl _)] at hown
              rcases ownsRow_form hown with ⟨_, h00, _⟩ | ⟨g, rfl, hgB, hgl, hkc, _⟩
              · omega
              have hxl : (pcs s zs).length = k := by rw [pcs_len, HL.out]
              have hjs := jn_size (s := s) HALL.out zs.length (Nat.le_refl _)
              rw [List.take_of_length_le (by rw [pcs_len]; exact Nat.le_refl _), jn_eq] at hjs
              have hjl : (Lib.join ((pcs s zs).map (·.data.toList)) [45]).length ≤ 140737488355328 := by
                have := HL.out
                simp [ByteArray.size] at hjs
                omega
              have CJ := Tryd.strings_Join g 0 c' (pcs s zs) ⟨#[45]⟩ W (fun j x hj => by
                rw [Nat.zero_add, hown.cellAt j (by have := (List.getElem?_eq_some_iff.1 hj).1; omega), List.getElem?_map, hj]; rfl) hgl (by omega) (by omega) hjl
              rw [hxl] at CJ
              have CJ2 : Calls Tryd.prog 20 #[.slice (some ⟨g, 0, none⟩) k c', .string ⟨#[45]⟩] W fun e w' => e = .returned (.string (jn (pcs s zs))) ∧ Below W.heap.size W w' := CJ
              obtain ⟨J, hJ⟩ : ∃ J, J = jn (pcs s zs) := ⟨_, rfl⟩
              rw [← hJ] at CJ2
              have HJ := Lib.hid hJ
              clear CJ hown hO hxl hjs hjl hJ ht h0 hrs hpa hend
              go_wp2_with fail
              (go_at_call 20; (with_reducible refine (CJ2).mono ?_); rintro e w5 ⟨rfl, b5⟩)
              have B5 := Lib.hid (hBl.trans (b5.mono hsz))
              clear b5
              go_wp2_with fail
              go_ret2
              exact ⟨gw2_yes HG.out HJ.out, B5.out⟩
            · have HG : Hid (gwOk s zs = false) := Lib.hid (HN.out (by rw [← hpa]; exact hend))
              have h0 : ¬ (rst s zs k).size = 0 := by omega
              have hno := str_none h0
              obtain ⟨t, ht⟩ : ∃ t, t = rst s zs k := ⟨_, rfl⟩
              rw [← ht] at hno ⊢
              clear ht h0 hrs hpa hend
              go_wp2_with fail
              go_ret2
              exact ⟨gw2_no HG.out, hBl⟩
end Go.Proofs.YtfmlmgebomapjabDoor
