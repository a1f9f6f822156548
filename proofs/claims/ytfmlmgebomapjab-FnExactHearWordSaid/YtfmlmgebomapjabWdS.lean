/-
  The model's distance of two texts.
-/
import Derived.Test.YtfmlmgebomapjabWdM
import Derived.Laws.Cover1
import Derived.RegionTactic
import Derived.Deep.QuietTactic
import Derived.BigQuiet
import Derived.Deep.RegionWith
import Derived.Deep.RegionLaw
import Derived.Deep.AppendLies
namespace Go.Proofs.Ytfmlmgebomapjab
open Go.RowKit

set_option maxHeartbeats 400000 in
theorem l00MinD_any (a b c : Int) (w : World) (hc : min a b = c) :
    Calls Try.prog 39 #[.int .i64 a, .int .i64 b] w fun e w' => e = .returned (.int .i64 c) ∧ w = w' := by
  subst hc
  by_cases h : a < b
  · go_enter Try.func39, Try.ntmps39
    go_wp2
    go_ret
    exact ⟨ret_int (by omega), rfl⟩
  · go_enter Try.func39, Try.ntmps39
    go_wp2
    go_ret
    exact ⟨ret_int (by omega), rfl⟩

set_option maxRecDepth 100000 in
set_option maxHeartbeats 8000000 in
theorem l07Distance_any (a b : ByteArray) (w : World) (ha : a.size ≤ 20) (hb : b.size ≤ 20) :
    Calls Try.prog 24 #[.string a, .string b] w fun e w' => e = .returned (.int .i64 ((lev false a.data.toList b.data.toList : Nat) : Int)) ∧ Below w.heap.size w w' := by
  obtain ⟨i0, hin, hz0, hz1, hz2⟩ := info_parts info64
  go_enter Try.func24, Try.ntmps24
  go_wp2_with fail
  go_loopw [5, 6] (fun r i wr => ∃ k : Nat, k ≤ b.size + 1 ∧ i = .int .i64 k ∧ (∃ A c, r = .slice A k c) ∧ Hid (wr.ownsRow w.heap.size 2 1 r k (cells64 ((cRow [] b).take k))) ∧ Below w.heap.size w wr) (fun _ i _ => b.size + 1 - (intOf i).toNat)
  case atStart => exact ⟨0, by omega, rfl, ⟨_, _, rfl⟩, Lib.hid (World.ownsRow_lit (size := 1) w #[] 0 (Nat.le_refl _) (by unfold maxLen; omega) rfl), (Below.refl _ _).alloc (Nat.le_refl _) _⟩
  case round =>
    obtain ⟨k, hk, rfl, ⟨A, c, rfl⟩, hO, hB⟩ := hrel
    obtain ⟨W, hW⟩ : ∃ W, W = wr := ⟨_, rfl⟩
    rw [← hW] at hO hB ⊢
    clear hW
    have hsz := hB.size
    by_cases hlt : k < b.size + 1
    · have hown := hO.out
      have hlb : (k : Int) ≤ b.size := by omega
      have HD : Hid (cells64 ((cRow [] b).take k) ++ [.int .i64 (k : Int)] = cells64 ((cRow [] b).take (k + 1))) := Lib.hid (by
        rw [List.take_add_one (i := k), cRow_at _ b (by omega), cT_zero b (by omega)]; simp [cells64])
      obtain ⟨cs, hcs⟩ : ∃ cs, cs = cells64 ((cRow [] b).take k) := ⟨_, rfl⟩
      rw [← hcs] at hown HD
      clear hO hcs
      go_wp2_with (at_builtin; refine wpList_append_own _ rfl _ _ 34 rfl w.heap.size 2 i0 (.int .i64 0) 1 8 Try.underlying34 hin hz0 hz1 hz2 rfl (by decide) _ _ _ rfl (hown.alloc _) ⟨W.heap.size, 0, none⟩ 1 1 [.int .i64 (k : Int)] rfl rfl (one_cellD _ _ _) (fun u hu => by simp at hu; subst hu; rfl) ?c1 ?c2 ?c3 ?_)
      case c1 => unfold maxLen; omega
      case c2 => omega
      case c3 => simp; omega
      intro v3 w3 ho3 hg3 _
      obtain ⟨A3, c3, rfl⟩ := slice_ofD ho3
      have hb3 := Lib.hid (Below.grown (hB.alloc (by first | omega | (simp; omega)) _) hg3 (by simp; omega) (fun q hq => (hown.lt q hq).1))
      rw [HD.out] at ho3
      have HO3 := Lib.hid ho3
      clear ho3 hg3 hown hlb
      go_wp2_with fail
      go_roundw
      case rel => exact ⟨k + 1, by omega, by go_num, ⟨A3, c3, rfl⟩, HO3, hb3.out⟩
      case measure => simp [intOf]; omega
    · have HK : Hid (k = b.size + 1) := Lib.hid (by omega)
      have hgt : ¬ (k : Int) ≤ (b.size : Int) := by omega
      have h1 := hO.out
      rw [HK.out, List.take_of_length_le (by rw [cRow_len]; exact Nat.le_refl _)] at h1
      have O0 : Hid (CRow w.heap.size W A c [] b) := Lib.hid h1
      have HV : Hid (Value.slice A k c = .slice A (b.size + 1) c) := Lib.hid (by rw [HK.out])
      clear h1 hO hlt hk HK
      go_wp2_with fail
      go_loopw [5, 7, 8, 9, 10] (fun r i _ _ _ wr => ∃ k : Nat, k ≤ a.size ∧ i = .int .i64 k ∧ ∃ A c, r = .slice A (b.size + 1) c ∧ Hid (CRow w.heap.size wr A c (a.data.toList.take k) b) ∧ Below w.heap.size w wr) (fun _ i _ _ _ _ => a.size - (intOf i).toNat)
      case atStart => exact ⟨0, by omega, rfl, A, c, HV.out, O0, hB⟩
      case round =>
        obtain ⟨i, hi, rfl, A, c, rfl, hO, hB⟩ := hrel
        obtain ⟨W, hW⟩ : ∃ W, W = wr := ⟨_, rfl⟩
        rw [← hW] at hO hB ⊢
        clear hW O0
        have hsz := hB.size
        obtain ⟨gA, rfl, hgB, hgl, hc1, hc2⟩ := hO.out.form
        by_cases hlt : i < a.size
        · obtain ⟨p, hp⟩ : ∃ p, p = a.data.toList.take i := ⟨_, rfl⟩
          obtain ⟨s, hs⟩ : ∃ s, s = a[i] := ⟨_, rfl⟩
          have hpl : p.length = i := by rw [hp]; simp; omega
          have HT : Hid (a.data.toList.take (i + 1) = p ++ [s]) := Lib.hid (by rw [take_nextD a i hlt, hp, hs])
          have HS : Hid (a[i] = s) := Lib.hid hs.symm
          have hpl2 : (p ++ [s]).length ≤ 20 := by simp; omega
          have HPL := Lib.hid hpl
          rw [← hp] at hO
          have i1 : ((i : Int) + 1) ≤ 21 := by omega
          clear hp hs hpl
          go_wp2_with fail
          go_loopw [8, 9, 10] (fun v y _ wq => ∃ j : Nat, j ≤ b.size ∧ y = .int .i64 j ∧ (∃ A' c', v = .slice A' (j + 1) c') ∧ Hid (wq.ownsRow W.heap.size 2 1 v (j + 1) (cells64 ((cRow (p ++ [s]) b).take (j + 1)))) ∧ Below W.heap.size W wq) (fun _ y _ _ => b.size - (intOf y).toNat)
          case atStart =>
            refine ⟨0, by omega, rfl, ⟨_, _, rfl⟩, Lib.hid ?_, (Below.refl _ _).alloc (Nat.le_refl _) _⟩
            have e : (cRow (p ++ [s]) b).take (0 + 1) = [((i : Int) + 1)] := by
              rw [List.take_add_one, cRow_at _ b (by omega), cT_zero']
              simp [HPL.out]
            rw [e]
            exact World.ownsRow_lit (size := 1) W #[.int .i64 ((i : Int) + 1)] 1 (by omega) (by unfold maxLen; omega) rfl
          case round =>
            obtain ⟨j, hj, rfl, ⟨A', c', rfl⟩, hown, hbq⟩ := hrel
            obtain ⟨wq, hwq⟩ : ∃ wq, wq = wr := ⟨_, rfl⟩
            rw [← hwq] at hown hbq ⊢
            clear hwq
            have hsq := hbq.size
            by_cases hjn : j < b.size
            · have hjb : b.data.toList[j]? = some b[j] := byte_atD hjn
              have hrow : CRow w.heap.size wq (some ⟨gA, 0, none⟩) c p b := hO.out.below hbq
              rcases ownsRow_form hown.out with ⟨_, h00, _⟩ | ⟨gL, rfl, _⟩
              · omega
              obtain ⟨V1, hV1⟩ : ∃ V, V = cT p b j := ⟨_, rfl⟩
              obtain ⟨V2, hV2⟩ : ∃ V, V = cT p b (j + 1) := ⟨_, rfl⟩
              obtain ⟨V3, hV3⟩ : ∃ V, V = cT (p ++ [s]) b j := ⟨_, rfl⟩
              obtain ⟨V, hV⟩ : ∃ V, V = cT (p ++ [s]) b (j + 1) := ⟨_, rfl⟩
              have hpl := HPL.out
              have l1 : V1 ≤ 20 := by rw [hV1]; exact cT_le _ (by omega) hb
              have l2 : V2 ≤ 20 := by rw [hV2]; exact cT_le _ (by omega) hb
              have l3 : V3 ≤ 20 := by rw [hV3]; exact cT_le _ hpl2 hb
              have l4 : V ≤ 20 := by rw [hV]; exact cT_le _ hpl2 hb
              have hst := cT_step (p := p) (c := s) hjb
              rw [← hV1, ← hV2, ← hV3, ← hV] at hst
              have q1 : wq.cell? ⟨gA, j, none⟩ = some (.int .i64 (V1 : Int)) := by
                rw [hrow.cell (by omega), hV1]
              have q2 : wq.cell? ⟨gA, j + 1, none⟩ = some (.int .i64 (V2 : Int)) := by
                rw [hrow.cell (by omega), hV2]
              have q3 : wq.cell? ⟨gL, j, none⟩ = some (.int .i64 (V3 : Int)) := by
                rw [hown.out.cellAt j (by omega), cells64, List.getElem?_map, List.getElem?_take, if_pos (by omega), cRow_at _ b (by omega), hV3]; rfl
              have HD : Hid (cells64 ((cRow (p ++ [s]) b).take (j + 1)) ++ [.int .i64 (V : Int)] = cells64 ((cRow (p ++ [s]) b).take (j + 1 + 1))) := Lib.hid (by
                rw [List.take_add_one (i := j + 1), cRow_at _ b (by omega), hV]; simp [cells64])
              have hown2 := hown.out
              obtain ⟨cs, hcs⟩ : ∃ cs, cs = cells64 ((cRow (p ++ [s]) b).take (j + 1)) := ⟨_, rfl⟩
              rw [← hcs] at hown2 HD
              clear hcs hown hrow hV1 hV2 hV3 hV hjb hpl
              have hownd : wq.drew.drew.ownsRow W.heap.size 2 1 (.slice (some ⟨gL, 0, none⟩) (j + 1) c') (j + 1) cs := hown2
              have hbd := hbq.drew.drew
              by_cases hc : a[i] = b[j]
              · have hbb : ((a[i].toNat : Int) != (b[j].toNat : Int)) = false := by rw [hc]; simp
                have hV0 : ne01 s b[j] = 0 := by rw [← hc, HS.out, ne01_same]
                rw [hV0] at hst
                clear hV0 hc
                have C1 : ∀ W, Calls Try.prog 39 #[.int .i64 (V2 : Int), .int .i64 (V3 : Int)] W fun e w' => e = .returned (.int .i64 ((min V2 V3 : Nat) : Int)) ∧ W = w' := fun W => l00MinD_any _ _ _ W (by omega)
                obtain ⟨M, hM⟩ : ∃ M, M = min V2 V3 := ⟨_, rfl⟩
                rw [← hM] at C1 hst
                have hMl : M ≤ 20 := by omega
                have C2 : ∀ W, Calls Try.prog 39 #[.int .i64 (((V1 : Nat) : Int)), .int .i64 ((M : Nat) + 1 : Int)] W fun e w' => e = .returned (.int .i64 (V : Int)) ∧ W = w' := fun W => l00MinD_any _ _ _ W (by omega)
                have g1 : j + 1 + 1 ≤ maxLen := by unfold maxLen; omega
                have g2 : (j + 1 + 1) * 8 ≤ 140737488355328 := by omega
                have e2 : 0 ≤ (j : Int) + 1 := by omega
                have e3 : ((j : Int) + 1).toNat = j + 1 := by omega
                have e4 : (j : Int) + 1 < (b.size : Int) + 1 := by omega
                have e7 : j + 1 < b.size + 1 := by omega
                have e8 : (j : Int) < (j : Int) + 1 := by omega
                have e1 : IntKind.i64.wrap ((j : Int) + 1) = (j : Int) + 1 := IntWalk.i64_in _ (by omega)
                have e6 : IntKind.i64.wrap ((M : Int) + 1) = (M : Int) + 1 := IntWalk.i64_in _ (by omega)
                clear hM hst
                go_wp2_with fail
                go_region

                go_wp2_with fail
                go_region_law (first | (go_simp; (go_at_call 39; (with_reducible refine (C1 _).mono ?_); rintro e w' ⟨rfl, rfl⟩)) | (go_simp; (go_at_call 39; (with_reducible refine (C2 _).mono ?_); rintro e w' ⟨rfl, rfl⟩)) | (refine step_append_lies _ rfl (.tmp 50) (.tmp 64) 34 rfl W.heap.size 2 i0 (.int .i64 0) 1 8 Try.underlying34 hin hz0 hz1 hz2 rfl (by decide) (.slice (some ⟨gL, 0, none⟩) (j + 1) c') (j + 1) cs (by simp [Act.eval]) (hownd.alloc _) ⟨wq.heap.size, 0, none⟩ 1 1 [.int .i64 (V : Int)] (by simp [Act.eval]) rfl (one_cellD _ _ _) (fun u hu => by simp at hu; subst hu; rfl) (by decide) g1 g2 (by simp; omega) _ rfl ?_; intro g3 c3 w3 ho3 hg3 _ _))
                all_goals
                  have hb3 := Lib.hid (Below.grown (hbd.alloc (by first | omega | (simp; omega)) _) hg3 (by simp; omega) (fun q hq => (hownd.lt q hq).1))
                  rw [HD.out] at ho3
                  have HO3 := Lib.hid ho3
                  clear ho3 hg3 e1 e6
                  go_wp2_with fail
                  go_roundw
                  case rel => exact ⟨j + 1, by omega, by go_num, ⟨_, _, rfl⟩, HO3, hb3.out⟩
                  case measure => simp [intOf]; omega
              · have hbb : ((a[i].toNat : Int) != (b[j].toNat : Int)) = true := by
                  have : ¬ a[i].toNat = b[j].toNat := fun e => hc (UInt8.toNat_inj.1 e)
                  simp; omega
                have hV0 : ne01 s b[j] = 1 := ne01_ne (fun e => hc (HS.out.trans e))
                rw [hV0] at hst
                clear hV0 hc
                have C1 : ∀ W, Calls Try.prog 39 #[.int .i64 (V2 : Int), .int .i64 (V3 : Int)] W fun e w' => e = .returned (.int .i64 ((min V2 V3 : Nat) : Int)) ∧ W = w' := fun W => l00MinD_any _ _ _ W (by omega)
                obtain ⟨M, hM⟩ : ∃ M, M = min V2 V3 := ⟨_, rfl⟩
                rw [← hM] at C1 hst
                have hMl : M ≤ 20 := by omega
                have C2 : ∀ W, Calls Try.prog 39 #[.int .i64 (((V1 : Nat) : Int) + 1), .int .i64 ((M : Nat) + 1 : Int)] W fun e w' => e = .returned (.int .i64 (V : Int)) ∧ W = w' := fun W => l00MinD_any _ _ _ W (by omega)
                have g1 : j + 1 + 1 ≤ maxLen := by unfold maxLen; omega
                have g2 : (j + 1 + 1) * 8 ≤ 140737488355328 := by omega
                have e2 : 0 ≤ (j : Int) + 1 := by omega
                have e3 : ((j : Int) + 1).toNat = j + 1 := by omega
                have e4 : (j : Int) + 1 < (b.size : Int) + 1 := by omega
                have e7 : j + 1 < b.size + 1 := by omega
                have e8 : (j : Int) < (j : Int) + 1 := by omega
                have e1 : IntKind.i64.wrap ((j : Int) + 1) = (j : Int) + 1 := IntWalk.i64_in _ (by omega)
                have e6 : IntKind.i64.wrap ((M : Int) + 1) = (M : Int) + 1 := IntWalk.i64_in _ (by omega)
                clear hM hst
                go_wp2_with fail
                go_region

                go_wp2_with fail
                go_region_law (first | (go_simp; (go_at_call 39; (with_reducible refine (C1 _).mono ?_); rintro e w' ⟨rfl, rfl⟩)) | (go_simp; (go_at_call 39; (with_reducible refine (C2 _).mono ?_); rintro e w' ⟨rfl, rfl⟩)) | (refine step_append_lies _ rfl (.tmp 50) (.tmp 64) 34 rfl W.heap.size 2 i0 (.int .i64 0) 1 8 Try.underlying34 hin hz0 hz1 hz2 rfl (by decide) (.slice (some ⟨gL, 0, none⟩) (j + 1) c') (j + 1) cs (by simp [Act.eval]) (hownd.alloc _) ⟨wq.heap.size, 0, none⟩ 1 1 [.int .i64 (V : Int)] (by simp [Act.eval]) rfl (one_cellD _ _ _) (fun u hu => by simp at hu; subst hu; rfl) (by decide) g1 g2 (by simp; omega) _ rfl ?_; intro g3 c3 w3 ho3 hg3 _ _))
                all_goals
                  have hb3 := Lib.hid (Below.grown (hbd.alloc (by first | omega | (simp; omega)) _) hg3 (by simp; omega) (fun q hq => (hownd.lt q hq).1))
                  rw [HD.out] at ho3
                  have HO3 := Lib.hid ho3
                  clear ho3 hg3 e1 e6
                  go_wp2_with fail
                  go_roundw
                  case rel => exact ⟨j + 1, by omega, by go_num, ⟨_, _, rfl⟩, HO3, hb3.out⟩
                  case measure => simp [intOf]; omega
            · obtain rfl : j = b.size := by omega
              have h4 := hown.out
              rw [List.take_of_length_le (by rw [cRow_len]; omega)] at h4
              have HR : Hid (CRow w.heap.size wq A' c' (a.data.toList.take (i + 1)) b) := Lib.hid (by rw [HT.out]; exact CRow.lower (B := W.heap.size) h4 hsz)
              have HB := Lib.hid (hB.trans (hbq.mono hsz))
              clear h4 hown
              go_wp2_with fail
              go_roundw
              case rel => exact ⟨i + 1, by omega, by go_num, _, _, rfl, HR, HB.out⟩
              case measure => simp [intOf]; omega
        · obtain rfl : i = a.size := by omega
          have h1 := hO.out
          rw [List.take_of_length_le (by simp)] at h1
          have q : W.cell? ⟨gA, b.size, none⟩ = some (.int .i64 ((lev false a.data.toList b.data.toList : Nat) : Int)) := by rw [h1.cell (by omega), cT_all]
          clear h1 hO
          go_wp2_with fail
          go_ret
          exact ⟨rfl, hB⟩
end Go.Proofs.Ytfmlmgebomapjab
