/-
  UngroupWord of both sides, and the law's walk.
-/
import Derived.Test.YtfmlmgebomapjabDoorUgM
import Derived.Test.YtfmlmgebomapjabDoorGwI
import Derived.RegionTactic
namespace Go.Proofs.YtfmlmgebomapjabDoor
open Go Go.RowKit

theorem sp_sizes {s : ByteArray} {zs : List Int} (h : szsOk zs = false) : ugOk s zs = false := by rw [← sp_eq]; simp [spOk, h]
theorem sp_sum {s : ByteArray} {zs : List Int} (h : ¬ zs.sum ≤ 20) : ugOk s zs = false := by rw [← sp_eq]; simp [spOk, h]
theorem sp_lens {s : ByteArray} {zs : List Int} (h : lens (cut 45 s.data.toList) ≠ zs) : ugOk s zs = false := by rw [← sp_eq]; simp [spOk, h]
theorem sp_word {s : ByteArray} {zs : List Int} (h : wordB (bare s) 36 = false) : ugOk s zs = false := by rw [← sp_eq]; simp [spOk, h]
theorem sp_yes {s : ByteArray} {zs : List Int} (h1 : szsOk zs = true) (h2 : zs.sum ≤ 20) (h3 : lens (cut 45 s.data.toList) = zs) (h4 : wordB (bare s) 36 = true) : ugOk s zs = true := by rw [← sp_eq]; simp [spOk, h1, h2, h3, h4]
theorem texts_at {ps : List ByteArray} {P : List (List UInt8)} (h : textsOf ps = P) {k : Nat} {p : ByteArray} (hp : ps[k]? = some p) : P[k]? = some p.data.toList := by
  rw [← h]; unfold textsOf; rw [List.getElem?_map, hp]; rfl

set_option maxRecDepth 100000 in
set_option maxHeartbeats 4000000 in
theorem specUngroup_any {B : Nat} (s : ByteArray) (A : Option Addr) (n c : Nat) (zs : List Int) (w : World) (hs : s.size ≤ 1048576) (h : RowB .i64 B w A n zs) (hB : B ≤ w.heap.size) (hn : n ≤ 1048576) :
    Calls Tryd.prog 4 #[.string s, .slice A n c] w fun e w' => e = ugV s zs ∧ Below w.heap.size w w' := by
  have CZ := l07Sizes_any A n c zs w h hn
  have CC := l01Cut_any s 45 45 rfl w hs
  have HL := Lib.hid h.len
  rcases h1 : szsOk zs with _ | _
  · have H : Hid (ugOk s zs = false) := Lib.hid (sp_sizes h1)
    rw [h1] at CZ
    clear h1
    go_enter Tryd.func4, Tryd.ntmps4
    go_wp2_with (first | (go_at_call 8; (with_reducible refine (CZ).mono ?_); rintro e w' ⟨rfl, rfl⟩) | (go_at_call 9; (with_reducible refine (CC).mono ?_); rintro e w1 ⟨A1, c1, ps, rfl, o1, hp, b1⟩))
    go_ret2
    exact ⟨ug_no H.out, b1⟩
  · obtain ⟨hl1, hl10, hall⟩ := szs_parts h1
    have hV := szV_yes hall
    have hsb := psum_bdT zs hall
    rw [h1, hV] at CZ
    obtain ⟨S, hS⟩ : ∃ S, S = zs.sum := ⟨_, rfl⟩
    have HS := Lib.hid hS
    rw [← hS] at CZ hsb
    by_cases h2 : S ≤ 20
    · have h2' : ¬ 20 < S := by omega
      have HH1 := Lib.hid h1
      rw [HL.out] at hl1 hl10
      clear h1 hV hS hall
      go_enter Tryd.func4, Tryd.ntmps4
      go_wp2_with fail
      (go_at_call 8; (with_reducible refine (CZ).mono ?_); rintro e w' ⟨rfl, rfl⟩)
      go_wp2_with fail
      (go_at_call 9; (with_reducible refine (CC).mono ?_); rintro e w1 ⟨A1, c1, ps, rfl, o1, hp, b1⟩)
      have HP := Lib.hid hp
      clear hp CC
      by_cases h3 : ps.length = n
      · have HPL := Lib.hid h3
        have O1 : Hid (w1.ownsRow w.heap.size 9 1 (.slice A1 n c1) n (cellsS ps)) := Lib.hid (by rw [← h3]; exact o1)
        rw [h3]
        have hne : ((n : Int) != (n : Int)) = false := by simp
        clear h3 o1
        go_wp2_with fail
        go_loopw [9, 10] (fun v y wr => ∃ (k m : Nat) (u : ByteArray), k ≤ n ∧ y = .int .i64 k ∧ v = .string u ∧ wr = w1.drewN m ∧ Hid (u.data.toList = ((cut 45 s.data.toList).take k).flatten) ∧ u.size ≤ 20 * k ∧ Hid (∀ j, j < k → ∀ z : Int, zs[j]? = some z → ∀ p, (cut 45 s.data.toList)[j]? = some p → (p.length : Int) = z)) (fun _ y _ => n - (intOf y).toNat)
        case atStart => exact ⟨0, 0, _, by omega, rfl, rfl, rfl, Lib.hid rfl, Nat.le_refl 0, Lib.hid (fun j hj => absurd hj (by omega))⟩
        case round =>
          obtain ⟨k, m, u, hk, rfl, rfl, rfl, hU, hus, hJ⟩ := hrel
          by_cases hlt : k < n
          · obtain ⟨b, o, z, rfl, hbB, hz, hcz, _⟩ := h.at_ hlt
            have hkp : k < ps.length := by have := HPL.out; omega
            have hpk : ps[k]? = some ps[k] := List.getElem?_eq_getElem hkp
            obtain ⟨p, hpp⟩ : ∃ p, p = ps[k] := ⟨_, rfl⟩
            rw [← hpp] at hpk
            have hcut := texts_at HP.out hpk
            rcases ownsRow_form O1.out with ⟨_, h00, _⟩ | ⟨g, rfl, hgB, hgl, _, _⟩
            · omega
            have hcp : w1.cell? ⟨g, k, none⟩ = some (.string p) := by
              rw [World.ownsRow.cellAt O1.out k (by omega), cellsS, List.getElem?_map, hpk]; rfl
            have hcz1 : w1.cell? ⟨b, o + k, none⟩ = some (.int .i64 z) := (b1.cell (p := ⟨b, o + k, none⟩) (Nat.lt_of_lt_of_le hbB hB)).trans hcz
            have HZ := Lib.hid hz
            have HC := Lib.hid hcut
            have hzb := inB_true.1 (List.all_eq_true.1 (szs_parts HH1.out).2.2 z (List.mem_of_getElem? hz))
            obtain ⟨hzb1, hzb2⟩ := hzb
            clear hz hcut hpk hpp hcz
            by_cases hq : (p.size : Int) = z
            · have hqn : ((p.size : Int) != z) = false := by rw [hq]; simp
              have hps : p.size ≤ 20 := by omega
              have HU : Hid ((u ++ p).data.toList = ((cut 45 s.data.toList).take (k + 1)).flatten) := Lib.hid (by
                rw [List.take_add_one, HC.out]
                simp [hU.out])
              have HJ : Hid (∀ j, j < k + 1 → ∀ z : Int, zs[j]? = some z → ∀ p, (cut 45 s.data.toList)[j]? = some p → (p.length : Int) = z) := Lib.hid (fun j hj z' hz' p' hp' => by
                by_cases hjk : j = k
                · subst hjk
                  rw [HZ.out] at hz'
                  rw [HC.out] at hp'
                  injection hz' with hz'
                  injection hp' with hp'
                  rw [← hz', ← hp', ← hq]; simp
                · exact hJ.out j (by omega) z' hz' p' hp')
              have hup : (u ++ p).size ≤ 20 * (k + 1) := by rw [ByteArray.size_append]; omega
              have hup2 : u.size + p.size ≤ 800 := by omega
              clear hq
              go_wp2_with fail
              go_region
              go_wp2_with fail
              go_roundw
              case rel => exact ⟨k + 1, m + 1, _, by omega, by go_num, rfl, rfl, HU, hup, HJ⟩
              case measure => simp [intOf]; omega
            · have hqn : ((p.size : Int) != z) = true := by simp; exact hq
              have H : Hid (ugOk s zs = false) := Lib.hid (sp_lens (fun e => hq (by
                have h5 := HZ.out
                rw [← e] at h5
                unfold lens at h5
                rw [List.getElem?_map, HC.out] at h5
                simp only [Option.map_some, Option.some.injEq] at h5
                rw [← h5]; simp)))
              clear hq
              go_wp2_with fail
              go_region
              go_wp2_with fail
              go_ret2
              exact ⟨ug_no H.out, below_drewN b1 (m + 1)⟩
          · obtain rfl : k = n := by omega
            have hcl : (cut 45 s.data.toList).length = k := by rw [← HP.out]; unfold textsOf; rw [List.length_map]; exact HPL.out
            have hub : u = bare s := by
              apply bytes_eq
              rw [hU.out, List.take_of_length_le (by omega), cut_flat]; rfl
            have hlens : lens (cut 45 s.data.toList) = zs := by
              apply List.ext_getElem?
              intro j
              unfold lens
              rw [List.getElem?_map]
              by_cases hj : j < k
              · have e1 : (cut 45 s.data.toList)[j]? = some ((cut 45 s.data.toList)[j]'(by omega)) := List.getElem?_eq_getElem _
                have e2 : zs[j]? = some (zs[j]'(by have := HL.out; omega)) := List.getElem?_eq_getElem _
                rw [e1, e2]
                simp only [Option.map_some, Option.some.injEq]
                exact hJ.out j hj _ e2 _ e1
              · rw [List.getElem?_eq_none (by omega), List.getElem?_eq_none (by have := HL.out; omega)]; rfl
            have hum : u.size ≤ maxLen := by unfold maxLen; omega
            have CW := fun W => l01Word_any u 36 W hum
            have HUB := Lib.hid hub
            have HLN := Lib.hid hlens
            rcases hw : wordB u 36 with _ | _
            · have H : Hid (ugOk s zs = false) := Lib.hid (sp_word (by rw [← HUB.out]; exact hw))
              rw [hw] at CW
              clear hw hub hlens hcl
              go_wp2_with (go_at_call 10; (with_reducible refine (CW _).mono ?_); rintro e w' ⟨rfl, rfl⟩)
              go_ret2
              exact ⟨ug_no H.out, below_drewN b1 m⟩
            · have H : Hid (ugOk s zs = true) := Lib.hid (sp_yes HH1.out (by rw [← HS.out]; exact h2) HLN.out (by rw [← HUB.out]; exact hw))
              rw [hw] at CW
              clear hw hub hlens hcl
              go_wp2_with (go_at_call 10; (with_reducible refine (CW _).mono ?_); rintro e w' ⟨rfl, rfl⟩)
              go_ret2
              exact ⟨ug_yes H.out HUB.out, below_drewN b1 m⟩
      · have H : Hid (ugOk s zs = false) := Lib.hid (sp_lens (fun e => h3 (by
          have h5 := congrArg List.length e
          unfold lens at h5
          rw [List.length_map, ← HP.out] at h5
          unfold textsOf at h5
          rw [List.length_map] at h5
          rw [h5]; exact HL.out)))
        obtain ⟨q, hq⟩ : ∃ q, q = ps.length := ⟨_, rfl⟩
        rw [← hq] at h3 ⊢
        have hne : ((q : Int) != (n : Int)) = true := by simp; omega
        clear h3 o1 hq
        go_wp2_with fail
        go_ret2
        exact ⟨ug_no H.out, b1⟩
    · have h2' : 20 < S := by omega
      have H : Hid (ugOk s zs = false) := Lib.hid (sp_sum (by rw [← hS]; exact h2))
      clear h1 hV hS hall
      go_enter Tryd.func4, Tryd.ntmps4
      go_wp2_with (first | (go_at_call 8; (with_reducible refine (CZ).mono ?_); rintro e w' ⟨rfl, rfl⟩) | (go_at_call 9; (with_reducible refine (CC).mono ?_); rintro e w1 ⟨A1, c1, ps, rfl, o1, hp, b1⟩))
      go_ret2
      exact ⟨ug_no H.out, b1⟩

set_option maxRecDepth 100000 in
set_option maxHeartbeats 4000000 in
theorem implUngroup_any {B : Nat} (s : ByteArray) (A : Option Addr) (n c : Nat) (zs : List Int) (m : Int) (w : World) (hs : s.size ≤ 1048576) (h : RowB .i64 B w A n zs) (hB : B ≤ w.heap.size) (hn : n ≤ 1048576)
    (hm : w.cell? ⟨0, 0, none⟩ = some (.int .i64 m)) :
    Calls Tryd.prog 6 #[.string s, .slice A n c] w fun e w' => e = ugV s zs ∧ Below w.heap.size w w' := by
  have CR0 := Tryd.strings_ReplaceAll s ⟨#[45]⟩ ⟨#[]⟩ m w (by omega) hm (Nat.le_refl 1) (by
    have : (⟨#[]⟩ : ByteArray).size = 0 := rfl
    rw [this]; omega)
  have CR : Calls Tryd.prog 11 #[.string s, .string ⟨#[45]⟩, .string ⟨#[]⟩] w fun e w' => e = .returned (.string (bare s)) ∧ Below w.heap.size w w' := CR0.mono fun e w' he => ⟨he.1.trans (by
    show Ending.returned (.string ⟨(Lib.replaceAll s.data.toList [45] []).toArray⟩) = _
    rw [replaceAll_bare]; rfl), he.2⟩
  have hbs : (bare s).size ≤ maxLen := by
    have h1 : (bareL s.data.toList).length ≤ s.data.toList.length := List.length_filter_le _ _
    have h2 : (bare s).size = (bareL s.data.toList).length := by
      show (bareL s.data.toList).toArray.size = _
      simp
    unfold maxLen
    have h3 : s.data.toList.length = s.size := by simp
    omega
  obtain ⟨u, hu⟩ : ∃ u, u = bare s := ⟨_, rfl⟩
  have HU := Lib.hid hu
  rw [← hu] at CR hbs
  obtain ⟨t, ht⟩ : ∃ t, t = gwT u zs := ⟨_, rfl⟩
  have HT := Lib.hid ht
  clear CR0 hm hu ht
  rcases hg : gwOk u zs with _ | _
  · have H : Hid (ugOk s zs = false) := Lib.hid (by unfold ugOk; rw [← HU.out, hg]; rfl)
    have HG := Lib.hid hg
    clear hg
    go_enter Tryd.func6, Tryd.ntmps6
    go_wp2_with fail
    (go_at_call 11; (with_reducible refine (CR).mono ?_); rintro e w1 ⟨rfl, b1⟩)
    have CG : Calls Tryd.prog 12 #[.string u, .slice A n c] w1 fun e w' => e = .returned (.tuple #[.string t, .bool false]) ∧ Below w1.heap.size w1 w' := (implGroup_any u A n c zs w1 hbs (h.below (b1.mono hB)) (Nat.le_trans hB b1.size) hn).mono fun e w' he => ⟨he.1.trans (by unfold gw2; rw [HG.out, HT.out]), he.2⟩
    have B1 := Lib.hid b1
    clear b1
    go_wp2_with fail
    (go_at_call 12; (with_reducible refine (CG).mono ?_); rintro e w2 ⟨rfl, b2⟩)
    have B2 := Lib.hid (B1.out.trans (b2.mono B1.out.size))
    clear b2
    go_wp2_with fail
    go_ret2
    exact ⟨ug_no H.out, B2.out⟩
  · have HG := Lib.hid hg
    have CG2 : ∀ w1, RowB .i64 B w1 A n zs → B ≤ w1.heap.size → Calls Tryd.prog 12 #[.string u, .slice A n c] w1 fun e w' => e = .returned (.tuple #[.string t, .bool true]) ∧ Below w1.heap.size w1 w' := fun w1 h1 h2 => (implGroup_any u A n c zs w1 hbs h1 h2 hn).mono fun e w' he => ⟨he.1.trans (by unfold gw2; rw [HG.out, HT.out]), he.2⟩
    by_cases hts : t = s
    · have H : Hid (ugOk s zs = true) := Lib.hid (by unfold ugOk; rw [← HU.out, HG.out, ← HT.out]; simp [hts])
      have htb : (t.toList == s.toList) = true := by rw [hts]; simp
      clear hg hts
      go_enter Tryd.func6, Tryd.ntmps6
      go_wp2_with fail
      (go_at_call 11; (with_reducible refine (CR).mono ?_); rintro e w1 ⟨rfl, b1⟩)
      have CG := CG2 w1 (h.below (b1.mono hB)) (Nat.le_trans hB b1.size)
      have B1 := Lib.hid b1
      clear b1
      go_wp2_with fail
      (go_at_call 12; (with_reducible refine (CG).mono ?_); rintro e w2 ⟨rfl, b2⟩)
      have B2 := Lib.hid (B1.out.trans (b2.mono B1.out.size))
      clear b2
      go_wp2_with fail
      go_ret2
      exact ⟨ug_yes H.out HU.out, B2.out⟩
    · have H : Hid (ugOk s zs = false) := Lib.hid (by unfold ugOk; rw [← HU.out, HG.out, ← HT.out]; simp [hts])
      have htb : (t.toList == s.toList) = false := by
        rw [ByteArray.toList_eq, ByteArray.toList_eq, beq_eq_false_iff_ne]
        exact fun e => hts (bytes_eq e)
      clear hg hts
      go_enter Tryd.func6, Tryd.ntmps6
      go_wp2_with fail
      (go_at_call 11; (with_reducible refine (CR).mono ?_); rintro e w1 ⟨rfl, b1⟩)
      have CG := CG2 w1 (h.below (b1.mono hB)) (Nat.le_trans hB b1.size)
      have B1 := Lib.hid b1
      clear b1
      go_wp2_with fail
      (go_at_call 12; (with_reducible refine (CG).mono ?_); rintro e w2 ⟨rfl, b2⟩)
      have B2 := Lib.hid (B1.out.trans (b2.mono B1.out.size))
      clear b2
      go_wp2_with fail
      go_ret2
      exact ⟨ug_no H.out, B2.out⟩
end Go.Proofs.YtfmlmgebomapjabDoor
