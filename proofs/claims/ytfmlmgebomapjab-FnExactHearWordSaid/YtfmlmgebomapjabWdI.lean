/-
  The program's rows of costs, and the distance of two texts.
-/
import Derived.Test.YtfmlmgebomapjabWdM
import Derived.Laws.Cover1
import Derived.RegionTactic
namespace Go.Proofs.Ytfmlmgebomapjab
open Go.RowKit

set_option maxRecDepth 100000 in
set_option maxHeartbeats 2000000 in
theorem nothing_any (b : ByteArray) (w : World) (hb : b.size ≤ 20) :
    Calls Try.prog 32 #[.string b] w (GotRow [] b w) := by
  obtain ⟨i0, hin, hz0, hz1, hz2⟩ := info_parts info64
  unfold GotRow
  go_enter Try.func32, Try.ntmps32
  go_wp2_with (refine wpList_make_full _ rfl _ _ 48 rfl w.heap.size 2 i0 (.int .i64 0) 1 Try.underlying48 hin hz0 hz1 .i64 .i64 (b.size + 1) (b.size + 1) (b.size + 1) rfl rfl rfl rfl ?m1 ?m2 ?m3 ?_)
  case m1 => rw [hz2]; omega
  case m2 => unfold maxLen; omega
  case m3 => exact Nat.le_refl _
  intro w2 hown hg
  have hbel : Below w.heap.size w w2 := (Below.refl _ w).grown hg (Nat.le_refl _) (fun k hk => by cases hk)
  have hown0 : w2.ownsRow w.heap.size 2 1 (.slice (some ⟨w.heap.size, 0, none⟩) (b.size + 1) (b.size + 1)) (b.size + 1) (cells64 ((cRow [] b).take 0 ++ List.replicate (b.size + 1 - 0) 0)) := by
    have e : cells64 ((cRow [] b).take 0 ++ List.replicate (b.size + 1 - 0) 0) = (madeCells #[Value.int .i64 0] (b.size + 1)).toList := by
      simp [cells64, toList_madeCells_one]
    rw [e]; exact hown
  clear hown hg
  obtain ⟨gR, hgR⟩ : ∃ g, g = w.heap.size := ⟨_, rfl⟩
  have hgl : w.heap.size ≤ gR := by omega
  rw [show (some (⟨w.heap.size, 0, none⟩ : Addr)) = some ⟨gR, 0, none⟩ by rw [hgR]] at hown0
  rw [← hgR]
  clear hgR
  go_wp2_with fail
  go_loopw [4, 11] (fun _ i wr => ∃ k : Nat, k ≤ b.size + 1 ∧ i = .int .i64 k ∧ Hid (wr.ownsRow w.heap.size 2 1 (.slice (some ⟨gR, 0, none⟩) (b.size + 1) (b.size + 1)) (b.size + 1) (cells64 ((cRow [] b).take k ++ List.replicate (b.size + 1 - k) 0))) ∧ Below w.heap.size w wr) (fun _ i _ => b.size + 1 - (intOf i).toNat)
  case atStart => exact ⟨0, by omega, rfl, Lib.hid hown0, hbel⟩
  case round =>
    obtain ⟨k, hk, rfl, hO, hB⟩ := hrel
    by_cases hlt : k < b.size + 1
    · have ho := hO.out
      have hcA : wr.cell? ⟨gR, k, none⟩ = (cells64 ((cRow [] b).take k ++ List.replicate (b.size + 1 - k) 0))[k]? := ho.cellAt k (by omega)
      have hcB : (cells64 ((cRow [] b).take k ++ List.replicate (b.size + 1 - k) 0))[k]? = some (.int .i64 0) := by
        simp only [cells64, List.getElem?_map]
        rw [List.getElem?_append_right (by simp; omega)]
        simp [cRow_len, List.getElem?_replicate]
        omega
      have hcell := hcA.trans hcB
      have hfr := ho.frozenAt k
      have hst := ho.stored k (.int .i64 (k : Int))
      have e : (cells64 ((cRow [] b).take k ++ List.replicate (b.size + 1 - k) 0)).set k (.int .i64 (k : Int)) = cells64 ((cRow [] b).take (k + 1) ++ List.replicate (b.size + 1 - (k + 1)) 0) := by
        have h0 : (cRow [] b)[k]? = some (k : Int) := by
          rw [cRow_at [] b hlt, cT_zero b (by omega)]
        rw [cells64, ← List.map_set, set_take (cRow_len [] b) hlt h0]
      rw [e] at hst
      have HST := Lib.hid hst.1
      clear hcA hcB hst e ho hO
      go_wp2_with fail
      go_roundw
      case rel => exact ⟨k + 1, by omega, by go_num, HST, hB.setCell hgl _⟩
      case measure => simp [intOf]; omega
    · have HK : Hid (k = b.size + 1) := Lib.hid (by omega)
      have hR0 : wr.ownsRow w.heap.size 2 1 (.slice (some ⟨gR, 0, none⟩) (b.size + 1) (b.size + 1)) (b.size + 1) (cells64 (cRow [] b)) := by
        have h5 := hO.out
        rw [HK.out, List.take_of_length_le (by rw [cRow_len]; exact Nat.le_refl _)] at h5
        simpa using h5
      have HR0 : Hid (CRow w.heap.size wr (some ⟨gR, 0, none⟩) (b.size + 1) [] b) := Lib.hid hR0
      clear hR0 hO hown0
      go_wp2_with fail
      go_ret
      exact ⟨_, _, rfl, HR0.out, hB⟩

set_option maxRecDepth 100000 in
set_option maxHeartbeats 4000000 in
theorem behind_any {B : Nat} {A : Option Addr} {c : Nat} {p : List UInt8} {b : ByteArray} (s : UInt8) (W : World) (hO : CRow B W A c p b) (hp : p.length < 20) (hb20 : b.size ≤ 20) :
    Calls Try.prog 41 #[.slice A (b.size + 1) c, .int .u8 (s.toNat : Int), .string b] W (GotRow (p ++ [s]) b W) := by
  obtain ⟨gA, rfl, hgB, hgl, hc1, hc2⟩ := hO.form
  have z0 : W.cell? ⟨gA, 0, none⟩ = some (.int .i64 (p.length : Int)) := by rw [hO.cell (by omega), cT_zero']
  obtain ⟨i0, hin, hz0, hz1, hz2⟩ := info_parts info64
  have hpl : (p ++ [s]).length ≤ 20 := by simp; omega
  unfold GotRow
  go_enter Try.func41, Try.ntmps41
  go_wp2_with fail
  go_loopw [7, 8, 9, 17] (fun v _ _ y wq => ∃ j : Nat, j ≤ b.size ∧ y = .int .i64 j ∧ (∃ A' c', v = .slice A' (j + 1) c') ∧ Hid (wq.ownsRow W.heap.size 2 1 v (j + 1) (cells64 ((cRow (p ++ [s]) b).take (j + 1)))) ∧ Below W.heap.size W wq) (fun v _ _ y _ => b.size - (intOf y).toNat)
  case atStart =>
    refine ⟨0, by omega, rfl, ⟨_, _, rfl⟩, Lib.hid ?_, (Below.refl _ _).alloc (Nat.le_refl _) _⟩
    have e : (cRow (p ++ [s]) b).take (0 + 1) = [((p.length : Int) + 1)] := by
      rw [List.take_add_one, cRow_at _ b (by omega), cT_zero']
      simp
    rw [e]
    exact World.ownsRow_lit (size := 1) W #[.int .i64 ((p.length : Int) + 1)] 1 (by omega) (by unfold maxLen; omega) rfl
  case round =>
    obtain ⟨j, hj, rfl, ⟨A', c', rfl⟩, hown, hbq⟩ := hrel
    obtain ⟨wq, hwq⟩ : ∃ wq, wq = wr := ⟨_, rfl⟩
    rw [← hwq] at hown hbq ⊢
    clear hwq
    have hsq := hbq.size
    by_cases hjn : j < b.size
    · have hjb : b.data.toList[j]? = some b[j] := byte_atD hjn
      have hrow : CRow B wq (some ⟨gA, 0, none⟩) c p b := hO.below hbq
      rcases ownsRow_form hown.out with ⟨_, h00, _⟩ | ⟨gL, rfl, _⟩
      · omega
      obtain ⟨V1, hV1⟩ : ∃ V, V = cT p b j := ⟨_, rfl⟩
      obtain ⟨V2, hV2⟩ : ∃ V, V = cT p b (j + 1) := ⟨_, rfl⟩
      obtain ⟨V3, hV3⟩ : ∃ V, V = cT (p ++ [s]) b j := ⟨_, rfl⟩
      obtain ⟨V, hV⟩ : ∃ V, V = cT (p ++ [s]) b (j + 1) := ⟨_, rfl⟩
      have l1 : V1 ≤ 20 := by rw [hV1]; exact cT_le _ (by omega) hb20
      have l2 : V2 ≤ 20 := by rw [hV2]; exact cT_le _ (by omega) hb20
      have l3 : V3 ≤ 20 := by rw [hV3]; exact cT_le _ hpl hb20
      have q1 : wq.cell? ⟨gA, j, none⟩ = some (.int .i64 (V1 : Int)) := by
        rw [hrow.cell (by omega), hV1]
      have q2 : wq.cell? ⟨gA, j + 1, none⟩ = some (.int .i64 (V2 : Int)) := by
        rw [hrow.cell (by omega), hV2]
      have q3 : wq.cell? ⟨gL, j, none⟩ = some (.int .i64 (V3 : Int)) := by
        rw [hown.out.cellAt j (by omega), cells64, List.getElem?_map, List.getElem?_take, if_pos (by omega), cRow_at _ b (by omega), hV3]; rfl
      have HD : Hid (cells64 ((cRow (p ++ [s]) b).take (j + 1)) ++ [.int .i64 (V : Int)] = cells64 ((cRow (p ++ [s]) b).take (j + 1 + 1))) := Lib.hid (by
        rw [List.take_add_one (i := j + 1), cRow_at _ b (by omega), hV]; simp [cells64])
      have hown2 := hown.out
      obtain ⟨cs, hcs⟩ : ∃ cs, cs = cells64 ((cRow (p ++ [s]) b).take (j + 1)) := ⟨_, rfl⟩
      rw [← hcs] at hown2 HD
      clear hcs hown hrow
      by_cases hc : s = b[j]
      · have hbb : ((s.toNat : Int) != (b[j].toNat : Int)) = false := by rw [hc]; simp
        have hVV : V = V1 := by rw [hV, hV1]; exact cT_same (hjb.trans (by rw [← hc]))
        rw [hVV] at HD
        have hownd : wq.ownsRow W.heap.size 2 1 (.slice (some ⟨gL, 0, none⟩) (j + 1) c') (j + 1) cs := hown2
        have hbd := hbq
        clear hV1 hV2 hV3 hV hVV hc
        skip
        go_wp2_with (at_builtin; refine wpList_append_own _ rfl _ _ 48 rfl W.heap.size 2 i0 (.int .i64 0) 1 8 Try.underlying48 hin hz0 hz1 hz2 rfl (by decide) _ _ _ rfl (hownd.alloc _) ⟨wq.heap.size, 0, none⟩ 1 1 [.int .i64 ((V1 : Nat) : Int)] rfl rfl (one_cellD _ _ _) (fun u hu => by simp at hu; subst hu; rfl) ?c1 ?c2 ?c3 ?_)
        case c1 => unfold maxLen; omega
        case c2 => omega
        case c3 => simp; omega
        intro v3 w3 ho3 hg3 _
        obtain ⟨A3, c3, rfl⟩ := slice_ofD ho3
        have hb3 := Lib.hid (Below.grown (hbd.alloc (by first | omega | (simp; omega)) _) hg3 (by simp; omega) (fun q hq => (hownd.lt q hq).1))
        rw [HD.out] at ho3
        have HO3 := Lib.hid ho3
        clear ho3 hg3
        go_wp2_with fail
        go_roundw
        case rel => exact ⟨j + 1, by omega, by go_num, ⟨A3, c3, rfl⟩, HO3, hb3.out⟩
        case measure => simp [intOf]; omega
      · have hbb : ((s.toNat : Int) != (b[j].toNat : Int)) = true := by
          have : ¬ s.toNat = b[j].toNat := fun e => hc (UInt8.toNat_inj.1 e)
          simp; omega
        have hVV : V = 1 + min (min V1 V2) V3 := by rw [hV, hV1, hV2, hV3]; exact cT_diff hjb hc
        have hownd : wq.drew.ownsRow W.heap.size 2 1 (.slice (some ⟨gL, 0, none⟩) (j + 1) c') (j + 1) cs := hown2
        have hbd := hbq.drew
        clear hV1 hV2 hV3 hV
        by_cases h21 : V2 < V1
        · have g21 : (V2 : Int) < (V1 : Int) := by omega
          by_cases h3 : V3 < V2
          · have g3 : (V3 : Int) < (V2 : Int) := by omega
            have hVx : V = 1 + V3 := by omega
            have HD : Hid (cs ++ [Value.int .i64 (1 + ((V3 : Nat) : Int))] = cells64 ((cRow (p ++ [s]) b).take (j + 1 + 1))) := Lib.hid (by rw [← HD.out, hVx, Int.natCast_add]; rfl)
            clear hVV hVx
            go_wp2_with fail
            go_region
            go_wp2_with (at_builtin; refine wpList_append_own _ rfl _ _ 48 rfl W.heap.size 2 i0 (.int .i64 0) 1 8 Try.underlying48 hin hz0 hz1 hz2 rfl (by decide) _ _ _ rfl (hownd.alloc _) ⟨wq.heap.size, 0, none⟩ 1 1 [.int .i64 (1 + ((V3 : Nat) : Int))] rfl rfl (one_cellD _ _ _) (fun u hu => by simp at hu; subst hu; rfl) ?c1 ?c2 ?c3 ?_)
            case c1 => unfold maxLen; omega
            case c2 => omega
            case c3 => simp; omega
            intro v3 w3 ho3 hg3 _
            obtain ⟨A3, c3, rfl⟩ := slice_ofD ho3
            have hb3 := Lib.hid (Below.grown (hbd.alloc (by first | omega | (simp; omega)) _) hg3 (by simp; omega) (fun q hq => (hownd.lt q hq).1))
            rw [HD.out] at ho3
            have HO3 := Lib.hid ho3
            clear ho3 hg3
            go_wp2_with fail
            go_roundw
            case rel => exact ⟨j + 1, by omega, by go_num, ⟨A3, c3, rfl⟩, HO3, hb3.out⟩
            case measure => simp [intOf]; omega
          · have g3 : ¬ (V3 : Int) < (V2 : Int) := by omega
            have hVx : V = 1 + V2 := by omega
            have HD : Hid (cs ++ [Value.int .i64 (1 + ((V2 : Nat) : Int))] = cells64 ((cRow (p ++ [s]) b).take (j + 1 + 1))) := Lib.hid (by rw [← HD.out, hVx, Int.natCast_add]; rfl)
            clear hVV hVx
            go_wp2_with fail
            go_region
            go_wp2_with (at_builtin; refine wpList_append_own _ rfl _ _ 48 rfl W.heap.size 2 i0 (.int .i64 0) 1 8 Try.underlying48 hin hz0 hz1 hz2 rfl (by decide) _ _ _ rfl (hownd.alloc _) ⟨wq.heap.size, 0, none⟩ 1 1 [.int .i64 (1 + ((V2 : Nat) : Int))] rfl rfl (one_cellD _ _ _) (fun u hu => by simp at hu; subst hu; rfl) ?c1 ?c2 ?c3 ?_)
            case c1 => unfold maxLen; omega
            case c2 => omega
            case c3 => simp; omega
            intro v3 w3 ho3 hg3 _
            obtain ⟨A3, c3, rfl⟩ := slice_ofD ho3
            have hb3 := Lib.hid (Below.grown (hbd.alloc (by first | omega | (simp; omega)) _) hg3 (by simp; omega) (fun q hq => (hownd.lt q hq).1))
            rw [HD.out] at ho3
            have HO3 := Lib.hid ho3
            clear ho3 hg3
            go_wp2_with fail
            go_roundw
            case rel => exact ⟨j + 1, by omega, by go_num, ⟨A3, c3, rfl⟩, HO3, hb3.out⟩
            case measure => simp [intOf]; omega
        · have g21 : ¬ (V2 : Int) < (V1 : Int) := by omega
          by_cases h3 : V3 < V1
          · have g3 : (V3 : Int) < (V1 : Int) := by omega
            have hVx : V = 1 + V3 := by omega
            have HD : Hid (cs ++ [Value.int .i64 (1 + ((V3 : Nat) : Int))] = cells64 ((cRow (p ++ [s]) b).take (j + 1 + 1))) := Lib.hid (by rw [← HD.out, hVx, Int.natCast_add]; rfl)
            clear hVV hVx
            go_wp2_with fail
            go_region
            go_wp2_with (at_builtin; refine wpList_append_own _ rfl _ _ 48 rfl W.heap.size 2 i0 (.int .i64 0) 1 8 Try.underlying48 hin hz0 hz1 hz2 rfl (by decide) _ _ _ rfl (hownd.alloc _) ⟨wq.heap.size, 0, none⟩ 1 1 [.int .i64 (1 + ((V3 : Nat) : Int))] rfl rfl (one_cellD _ _ _) (fun u hu => by simp at hu; subst hu; rfl) ?c1 ?c2 ?c3 ?_)
            case c1 => unfold maxLen; omega
            case c2 => omega
            case c3 => simp; omega
            intro v3 w3 ho3 hg3 _
            obtain ⟨A3, c3, rfl⟩ := slice_ofD ho3
            have hb3 := Lib.hid (Below.grown (hbd.alloc (by first | omega | (simp; omega)) _) hg3 (by simp; omega) (fun q hq => (hownd.lt q hq).1))
            rw [HD.out] at ho3
            have HO3 := Lib.hid ho3
            clear ho3 hg3
            go_wp2_with fail
            go_roundw
            case rel => exact ⟨j + 1, by omega, by go_num, ⟨A3, c3, rfl⟩, HO3, hb3.out⟩
            case measure => simp [intOf]; omega
          · have g3 : ¬ (V3 : Int) < (V1 : Int) := by omega
            have hVx : V = 1 + V1 := by omega
            have HD : Hid (cs ++ [Value.int .i64 (1 + ((V1 : Nat) : Int))] = cells64 ((cRow (p ++ [s]) b).take (j + 1 + 1))) := Lib.hid (by rw [← HD.out, hVx, Int.natCast_add]; rfl)
            clear hVV hVx
            go_wp2_with fail
            go_region
            go_wp2_with (at_builtin; refine wpList_append_own _ rfl _ _ 48 rfl W.heap.size 2 i0 (.int .i64 0) 1 8 Try.underlying48 hin hz0 hz1 hz2 rfl (by decide) _ _ _ rfl (hownd.alloc _) ⟨wq.heap.size, 0, none⟩ 1 1 [.int .i64 (1 + ((V1 : Nat) : Int))] rfl rfl (one_cellD _ _ _) (fun u hu => by simp at hu; subst hu; rfl) ?c1 ?c2 ?c3 ?_)
            case c1 => unfold maxLen; omega
            case c2 => omega
            case c3 => simp; omega
            intro v3 w3 ho3 hg3 _
            obtain ⟨A3, c3, rfl⟩ := slice_ofD ho3
            have hb3 := Lib.hid (Below.grown (hbd.alloc (by first | omega | (simp; omega)) _) hg3 (by simp; omega) (fun q hq => (hownd.lt q hq).1))
            rw [HD.out] at ho3
            have HO3 := Lib.hid ho3
            clear ho3 hg3
            go_wp2_with fail
            go_roundw
            case rel => exact ⟨j + 1, by omega, by go_num, ⟨A3, c3, rfl⟩, HO3, hb3.out⟩
            case measure => simp [intOf]; omega
    · obtain rfl : j = b.size := by omega
      have h4 := hown.out
      rw [List.take_of_length_le (by rw [cRow_len]; omega)] at h4
      have HR : Hid (CRow W.heap.size wq A' c' (p ++ [s]) b) := Lib.hid h4
      clear h4 hown
      go_wp2_with fail
      go_ret
      exact ⟨_, _, rfl, HR.out, hbq⟩

set_option maxHeartbeats 400000 in
theorem whole_any {B : Nat} {A : Option Addr} {c : Nat} {p : List UInt8} {b : ByteArray} (W : World) (hO : CRow B W A c p b) (hb20 : b.size ≤ 20) :
    Calls Try.prog 42 #[.slice A (b.size + 1) c] W fun e w' => e = .returned (.int .i64 ((lev false p b.data.toList : Nat) : Int)) ∧ W = w' := by
  obtain ⟨gA, rfl, hgB, hgl, hc1, hc2⟩ := hO.form
  have q : W.cell? ⟨gA, b.size, none⟩ = some (.int .i64 ((lev false p b.data.toList : Nat) : Int)) := by rw [hO.cell (by omega), cT_all]
  have i1 : ((b.size : Int) + 1 - 1) = (b.size : Int) := by omega
  clear hO
  go_enter Try.func42, Try.ntmps42
  go_wp2_with fail
  go_ret
  exact ⟨rfl, rfl⟩

set_option maxRecDepth 100000 in
set_option maxHeartbeats 2000000 in
theorem edits_any (a b : ByteArray) (w : World) (ha : a.size ≤ 20) (hb : b.size ≤ 20) :
    Calls Try.prog 26 #[.string a, .string b] w fun e w' => e = .returned (.int .i64 ((lev false a.data.toList b.data.toList : Nat) : Int)) ∧ Below w.heap.size w w' := by
  go_enter Try.func26, Try.ntmps26
  go_wp2_with (go_at_call 32; (with_reducible refine (nothing_any b _ hb).mono ?_); rintro e w1 ⟨A0, c0, rfl, o0, b0⟩)
  have O0 := Lib.hid o0
  clear o0
  go_wp2_with fail
  go_loopw [5, 6, 11] (fun r _ i wr => ∃ k : Nat, k ≤ a.size ∧ i = .int .i64 k ∧ ∃ A c, r = .slice A (b.size + 1) c ∧ Hid (CRow w.heap.size wr A c (a.data.toList.take k) b) ∧ Below w.heap.size w wr) (fun r _ i _ => a.size - (intOf i).toNat)
  case atStart => exact ⟨0, by omega, rfl, _, _, rfl, O0, b0⟩
  case round =>
    obtain ⟨k, hk, rfl, A, c, rfl, hO, hB⟩ := hrel
    obtain ⟨W, hW⟩ : ∃ W, W = wr := ⟨_, rfl⟩
    rw [← hW] at hO hB ⊢
    clear hW
    by_cases hlt : k < a.size
    · have CB := behind_any a[k] W hO.out (by simp; omega) hb
      have HT := Lib.hid (take_nextD a k hlt)
      go_wp2_with (go_at_call 41; (with_reducible refine (CB).mono ?_); rintro e w2 ⟨A1, c1, rfl, o1, b1⟩)
      have O1 : Hid (CRow w.heap.size w2 A1 c1 (a.data.toList.take (k + 1)) b) := Lib.hid (by rw [HT.out]; exact o1.lower hB.size)
      have HB := Lib.hid (hB.trans (b1.mono hB.size))
      clear o1 b1
      go_wp2_with fail
      go_roundw
      case rel => exact ⟨k + 1, by omega, by go_num, _, _, rfl, O1, HB.out⟩
      case measure => simp [intOf]; omega
    · obtain rfl : k = a.size := by omega
      have h1 := hO.out
      rw [List.take_of_length_le (by simp)] at h1
      have CW := whole_any W h1 hb
      clear h1 hO
      go_wp2_with (go_at_call 42; (with_reducible refine (CW).mono ?_); rintro e w' ⟨rfl, rfl⟩)
      go_ret
      exact ⟨rfl, hB⟩
end Go.Proofs.Ytfmlmgebomapjab
