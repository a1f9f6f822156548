/-
  Speeches of the model.
-/
import Derived.Test.YtfmlmgebomapjaaDoorSpM
import Derived.Test.YtfmlmgebomapjaaDoorRow
import Derived.RegionTactic
import Derived.Deep.QuietTactic
import Derived.BigQuiet
namespace Go.Proofs.YtfmlmgebomapjaaDoor
open Go Go.RowKit

theorem ixO_first : ∀ (l : List UInt8) (c : UInt8) (k : Nat), l[k]? = some c → (∀ j, j < k → l[j]? ≠ some c) → ixO l c = some k := by
  intro l
  induction l with
  | nil => intro c k h; simp at h
  | cons b l ih =>
    intro c k h hn
    unfold ixO
    cases k with
    | zero => simp at h; rw [if_pos h]
    | succ k =>
      rw [if_neg (fun e => hn 0 (by omega) (by simp [e]))]
      rw [ih c k (by simpa using h) (fun j hj e => hn (j + 1) (by omega) (by simpa using e))]
      rfl
def ixI (s : ByteArray) (c : UInt8) : Int := match ixO s.data.toList c with
  | none => -1
  | some k => (k : Int)
theorem byte_atX {s : ByteArray} {i : Nat} (h : i < s.size) : s.data.toList[i]? = some s[i] := by
  rw [List.getElem?_eq_getElem (by simpa using h)]; rfl

set_option maxHeartbeats 1000000 in
theorem l07Index_any (s : ByteArray) (c : UInt8) (w : World) (hs : s.size ≤ maxLen) :
    Calls Tryd.prog 57 #[.string s, .int .u8 (c.toNat : Int)] w fun e w' => e = .returned (.int .i64 (ixI s c)) ∧ w' = w := by
  unfold maxLen at hs
  go_enter Tryd.func57, Tryd.ntmps57
  go_wp2
  go_loop [5] (fun i => ∃ k : Nat, k ≤ s.size ∧ i = .int .i64 k ∧ Hid (∀ j, j < k → s.data.toList[j]? ≠ some c)) (fun i => s.size - (intOf i).toNat)
  case atStart => exact ⟨0, by omega, rfl, Lib.hid (fun j h => absurd h (by omega))⟩
  case round =>
    obtain ⟨k, hk, rfl, hN⟩ := hrel
    by_cases hlt : k < s.size
    · have hbt := byte_atX hlt
      by_cases hc : s[k] = c
      · have HX : Hid (ixI s c = (k : Int)) := Lib.hid (by unfold ixI; rw [ixO_first _ _ k (by rw [hbt, hc]) hN.out])
        have hcc : ((s[k].toNat : Int) == (c.toNat : Int)) = true := by rw [hc]; simp
        clear hc hbt
        go_wp2
        go_ret
        exact ⟨ret_int HX.out.symm, rfl⟩
      · have HN : Hid (∀ j, j < k + 1 → s.data.toList[j]? ≠ some c) := Lib.hid (fun j hj e => by
          by_cases hjk : j = k
          · subst hjk
            rw [hbt] at e
            injection e with e
            exact hc e
          · exact hN.out j (by omega) e)
        have hcc : ((s[k].toNat : Int) == (c.toNat : Int)) = false := by
          rw [beq_eq_false_iff_ne]
          intro e
          exact hc (UInt8.toNat_inj.1 (by omega))
        clear hc hbt
        go_wp2
        go_round
        case rel => exact ⟨k + 1, by omega, by go_num, HN⟩
        case measure => simp [intOf]; omega
    · obtain rfl : k = s.size := by omega
      have HX : Hid (ixI s c = -1) := Lib.hid (by
        unfold ixI
        rw [(ixO_none _ _).2]
        intro hm
        obtain ⟨j, hj, e⟩ := List.mem_iff_getElem.1 hm
        exact hN.out j (by simpa using hj) (by rw [List.getElem?_eq_getElem hj, e]))
      go_wp2
      go_ret
      exact ⟨ret_int HX.out.symm, rfl⟩

def spS (F S : ByteArray) : Bool := decide (1 ≤ F.size) && (decide (1 ≤ S.size) && (lettB F 20 && (lettB S 6 && decide ((F ++ S).data.toList).Nodup)))
theorem sp_specB (F S : ByteArray) : spS F S = spB F S := by
  rw [Bool.eq_iff_iff]
  unfold spS spB lettB
  simp only [Bool.and_eq_true, decide_eq_true_eq, ByteArray.data_append, Array.toList_append, List.nodup_append]
  constructor
  · rintro ⟨h1, h2, ⟨h3, h4⟩, ⟨h5, h6⟩, h7, h8, h9⟩
    exact ⟨⟨⟨h1, h4⟩, h3, h7⟩, ⟨⟨h2, h6⟩, h5, h8⟩, fun b hb hc => h9 b hb b hc rfl⟩
  · rintro ⟨⟨⟨h1, h4⟩, h3, h7⟩, ⟨⟨h2, h6⟩, h5, h8⟩, h9⟩
    exact ⟨h1, h2, ⟨h3, h4⟩, ⟨h5, h6⟩, h7, h8, fun a ha b hb e => h9 a ha (e ▸ hb)⟩

set_option maxRecDepth 100000 in
set_option maxHeartbeats 4000000 in
theorem l07Speech_any (F S : ByteArray) (g : Nat) (w : World) (hF : F.size ≤ 1048576) (hS : S.size ≤ 1048576) (h0 : w.cell? ⟨g, 0, none⟩ = some (.string F)) (h1 : w.cell? ⟨g, 1, none⟩ = some (.string S)) :
    Calls Tryd.prog 61 #[.pointer (some ⟨g, 0, none⟩)] w fun e w' => e = .returned (.bool (spB F S)) ∧ ∃ m, w' = w.drewN m := by
  have hFS : F.size + S.size ≤ 2097152 := by omega
  have hFm : F.size ≤ maxLen := by unfold maxLen; omega
  have hSm : S.size ≤ maxLen := by unfold maxLen; omega
  have C1 := fun W => l07Letters_any F 20 20 rfl W hFm
  have C2 := fun W => l07Letters_any S 6 6 rfl W hSm
  by_cases hf : 1 ≤ F.size
  · have hf' : ¬ (F.size : Int) < 1 := by omega
    by_cases hs : 1 ≤ S.size
    · have hs' : ¬ (S.size : Int) < 1 := by omega
      rcases hl1 : lettB F 20 with _ | _
      · have H : Hid (spB F S = false) := Lib.hid (by rw [← sp_specB]; simp [spS, hl1])
        rw [hl1] at C1
        clear hl1 hf hs
        go_enter Tryd.func61, Tryd.ntmps61
        go_wp2_with fail
        go_region
        go_wp2_with (first | (go_at_call 88; (with_reducible refine (C1 _).mono ?_); rintro e w' ⟨rfl, rfl⟩) | (go_at_call 88; (with_reducible refine (C2 _).mono ?_); rintro e w' ⟨rfl, rfl⟩))
        go_ret
        exact ⟨ret_bool H.out.symm, 1, rfl⟩
      · rw [hl1] at C1
        rcases hl2 : lettB S 6 with _ | _
        · have H : Hid (spB F S = false) := Lib.hid (by rw [← sp_specB]; simp [spS, hl2])
          rw [hl2] at C2
          clear hl1 hl2 hf hs
          go_enter Tryd.func61, Tryd.ntmps61
          go_wp2_with fail
          go_region
          go_wp2_with (first | (go_at_call 88; (with_reducible refine (C1 _).mono ?_); rintro e w' ⟨rfl, rfl⟩) | (go_at_call 88; (with_reducible refine (C2 _).mono ?_); rintro e w' ⟨rfl, rfl⟩))
          go_ret
          exact ⟨ret_bool H.out.symm, 1, rfl⟩
        · rw [hl2] at C2
          have HP : Hid (spB F S = decide ((F ++ S).data.toList).Nodup) := Lib.hid (by rw [← sp_specB]; simp [spS, hl1, hl2, hf, hs])
          obtain ⟨D, hD⟩ : ∃ D, D = F ++ S := ⟨_, rfl⟩
          have hDs : D.size ≤ 2097152 := by rw [hD, ByteArray.size_append]; omega
          have hDm : D.size ≤ maxLen := by unfold maxLen; omega
          have hDe : F ++ S = D := hD.symm
          rw [← hD] at HP
          have CX : ∀ W (i : Nat) (c : UInt8), Calls Tryd.prog 57 #[.string (D.extract 0 i), .int .u8 (c.toNat : Int)] W fun e w' => e = .returned (.int .i64 (ixI (D.extract 0 i) c)) ∧ w' = W := fun W i c => l07Index_any _ c W (by
            have : (D.extract 0 i).size ≤ D.size := by simp only [ByteArray.size_extract]; omega
            unfold maxLen; omega)
          clear hl1 hl2 hf hs hD
          go_enter Tryd.func61, Tryd.ntmps61
          go_wp2_with fail
          go_region
          go_wp2_with (first | (go_at_call 88; (with_reducible refine (C1 _).mono ?_); rintro e w' ⟨rfl, rfl⟩) | (go_at_call 88; (with_reducible refine (C2 _).mono ?_); rintro e w' ⟨rfl, rfl⟩))
          go_loopw [4] (fun y wr => ∃ k m : Nat, k ≤ D.size ∧ y = .int .i64 k ∧ wr = w.drewN m ∧ Hid (D.data.toList.take k).Nodup) (fun y _ => D.size - (intOf y).toNat)
          case atStart => exact ⟨0, 1, by omega, rfl, rfl, Lib.hid (by simp)⟩
          case round =>
            obtain ⟨k, m, hk, rfl, rfl, hN⟩ := hrel
            by_cases hlt : k < D.size
            · have hbt := byte_atX hlt
              have htk : (D.extract 0 k).data.toList = D.data.toList.take k := by
                rw [ByteArray.data_extract, Array.toList_extract]; simp [List.extract_eq_take_drop]
              have hts : D.data.toList.take (k + 1) = D.data.toList.take k ++ [D[k]] := take_next D k hlt
              have CXk := fun W => CX W k D[k]
              by_cases hmem : D[k] ∈ D.data.toList.take k
              · have hix : 0 ≤ ixI (D.extract 0 k) D[k] := by
                  unfold ixI
                  rw [htk]
                  cases hx : ixO (D.data.toList.take k) D[k] with
                  | none => exact absurd hmem ((ixO_none _ _).1 hx)
                  | some j => simp
                have H : Hid (spB F S = false) := Lib.hid (by
                  rw [HP.out, decide_eq_false_iff_not]
                  intro hn
                  have h5 := hn.sublist (List.take_sublist (k + 1) D.data.toList)
                  rw [hts] at h5
                  have h6 := (List.nodup_append.1 h5).2.2
                  exact h6 _ hmem _ (by simp) rfl)
                obtain ⟨X, hX⟩ : ∃ X, X = ixI (D.extract 0 k) D[k] := ⟨_, rfl⟩
                rw [← hX] at CXk hix
                clear hX hbt htk hts hmem CX
                go_wp2_with fail
                go_quiet ((go_at_call 57; (with_reducible refine (CXk _).mono ?_); first | exact fun _ _ ⟨he, hm⟩ => ⟨he, _, hm⟩ | exact fun _ _ ⟨he, hm⟩ => ⟨he, _, hm.trans (World.drewN_drewN _ _ _)⟩))
                go_wp2_with fail
                go_ret
                exact ⟨ret_bool H.out.symm, _, World.drewN_drewN _ _ _⟩
              · have hix : ¬ 0 ≤ ixI (D.extract 0 k) D[k] := by
                  unfold ixI
                  rw [htk, (ixO_none _ _).2 hmem]; simp
                have HN : Hid (D.data.toList.take (k + 1)).Nodup := Lib.hid (by
                  rw [hts, List.nodup_append]
                  exact ⟨hN.out, by simp, fun a ha b hb e => by
                    simp at hb
                    subst hb
                    exact hmem (e ▸ ha)⟩)
                obtain ⟨X, hX⟩ : ∃ X, X = ixI (D.extract 0 k) D[k] := ⟨_, rfl⟩
                rw [← hX] at CXk hix
                clear hX hbt htk hts hmem CX
                go_wp2_with fail
                go_quiet ((go_at_call 57; (with_reducible refine (CXk _).mono ?_); first | exact fun _ _ ⟨he, hm⟩ => ⟨he, _, hm⟩ | exact fun _ _ ⟨he, hm⟩ => ⟨he, _, hm.trans (World.drewN_drewN _ _ _)⟩))
                go_wp2_with fail
                go_roundw
                case rel => exact ⟨k + 1, _, by omega, by go_num, rfl, HN⟩
                case measure => simp [intOf]; omega
            · obtain rfl : k = D.size := by omega
              have H : Hid (spB F S = true) := Lib.hid (by
                have := hN.out
                rw [List.take_of_length_le (by simp)] at this
                rw [HP.out, decide_eq_true_eq]; exact this)
              go_wp2_with fail
              go_ret
              exact ⟨ret_bool H.out.symm, m, rfl⟩
    · have H : Hid (spB F S = false) := Lib.hid (by rw [← sp_specB]; simp [spS, hs])
      have hs' : (S.size : Int) < 1 := by omega
      clear hf hs
      go_enter Tryd.func61, Tryd.ntmps61
      go_wp2_with fail
      go_region
      go_wp2_with (first | (go_at_call 88; (with_reducible refine (C1 _).mono ?_); rintro e w' ⟨rfl, rfl⟩) | (go_at_call 88; (with_reducible refine (C2 _).mono ?_); rintro e w' ⟨rfl, rfl⟩))
      go_ret
      exact ⟨ret_bool H.out.symm, 1, rfl⟩
  · have H : Hid (spB F S = false) := Lib.hid (by rw [← sp_specB]; simp [spS, hf])
    have hf' : (F.size : Int) < 1 := by omega
    clear hf
    go_enter Tryd.func61, Tryd.ntmps61
    go_wp2_with fail
    go_region
    go_wp2_with (first | (go_at_call 88; (with_reducible refine (C1 _).mono ?_); rintro e w' ⟨rfl, rfl⟩) | (go_at_call 88; (with_reducible refine (C2 _).mono ?_); rintro e w' ⟨rfl, rfl⟩))
    go_ret
    exact ⟨ret_bool H.out.symm, 1, rfl⟩
end Go.Proofs.YtfmlmgebomapjaaDoor
