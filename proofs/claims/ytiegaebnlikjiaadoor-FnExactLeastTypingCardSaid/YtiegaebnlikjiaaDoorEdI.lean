/-
  The program's edit distance.
-/
import Derived.Test.YtiegaebnlikjiaaDoorEdC
import Derived.Test.YtiegaebnlikjiaaDoorEdW
import Derived.Test.YtiegaebnlikjiaaDoorOwnK
import Derived.Laws.Cover1
import Derived.RegionTactic
namespace Go.Proofs.YtiegaebnlikjiaaDoor
open Go.RowKit

set_option maxRecDepth 100000 in
set_option maxHeartbeats 2000000 in
theorem areWords_any (a b : ByteArray) (g : Nat) (w : World) (ha : a.size ≤ maxLen) (hb : b.size ≤ maxLen) (h0 : w.cell? ⟨g, 0, none⟩ = some (.string a)) (h1 : w.cell? ⟨g, 1, none⟩ = some (.string b)) :
    Calls Tryd.prog 24 #[.slice (some ⟨g, 0, none⟩) 2 2] w fun e w' => e = .returned (.bool (wordB a 36 && wordB b 36)) ∧ Below w.heap.size w w' := by
  have hg := block_of_cell h0
  have CA : ∀ W, Calls Tryd.prog 39 #[.string a, .int .i64 36] W fun e w' => e = .returned (.bool (wordB a 36)) ∧ Below W.heap.size W w' := fun W => implIsWordE_any a 36 W ha
  have CB : ∀ W, Calls Tryd.prog 39 #[.string b, .int .i64 36] W fun e w' => e = .returned (.bool (wordB b 36)) ∧ Below W.heap.size W w' := fun W => implIsWordE_any b 36 W hb
  rcases hwa : wordB a 36 with _ | _
  · rw [hwa] at CA
    clear hwa
    go_enter Tryd.func24, Tryd.ntmps24
    go_wp2_with fail
    go_loopw [4, 7] (fun _ k wr => k = .int .i64 0 ∧ wr = w) (fun _ k _ => 2 - (intOf k).toNat)
    case atStart => exact ⟨rfl, rfl⟩
    case round =>
      obtain ⟨rfl, rfl⟩ := hrel
      go_wp2_with (go_at_call 39; (with_reducible refine (CA _).mono ?_); rintro e w1 ⟨rfl, b1⟩)
      go_ret
      exact ⟨rfl, b1⟩
  · rw [hwa] at CA
    rcases hwb : wordB b 36 with _ | _
    · rw [hwb] at CB
      clear hwa hwb
      go_enter Tryd.func24, Tryd.ntmps24
      go_wp2_with fail
      go_loopw [4, 7] (fun _ k wr => ∃ j : Nat, j ≤ 1 ∧ k = .int .i64 j ∧ Below w.heap.size w wr) (fun _ k _ => 2 - (intOf k).toNat)
      case atStart => exact ⟨0, by omega, rfl, Below.refl _ _⟩
      case round =>
        obtain ⟨j, hj, rfl, hbel⟩ := hrel
        have q0 := (hbel.cell (p := ⟨g, 0, none⟩) hg).trans h0
        have q1 := (hbel.cell (p := ⟨g, 1, none⟩) hg).trans h1
        have j3 : j = 0 ∨ j = 1 := by omega
        rcases j3 with rfl | rfl
        · go_wp2_with (go_at_call 39; (with_reducible refine (CA _).mono ?_); rintro e w1 ⟨rfl, b1⟩)
          go_roundw
          case rel => exact ⟨1, by omega, rfl, hbel.trans (b1.mono hbel.size)⟩
          case measure => simp [intOf]
        · go_wp2_with (go_at_call 39; (with_reducible refine (CB _).mono ?_); rintro e w1 ⟨rfl, b1⟩)
          go_ret
          exact ⟨rfl, hbel.trans (b1.mono hbel.size)⟩
    · rw [hwb] at CB
      clear hwa hwb
      go_enter Tryd.func24, Tryd.ntmps24
      go_wp2_with fail
      go_loopw [4, 7] (fun _ k wr => ∃ j : Nat, j ≤ 2 ∧ k = .int .i64 j ∧ Below w.heap.size w wr) (fun _ k _ => 2 - (intOf k).toNat)
      case atStart => exact ⟨0, by omega, rfl, Below.refl _ _⟩
      case round =>
        obtain ⟨j, hj, rfl, hbel⟩ := hrel
        have q0 := (hbel.cell (p := ⟨g, 0, none⟩) hg).trans h0
        have q1 := (hbel.cell (p := ⟨g, 1, none⟩) hg).trans h1
        have j3 : j = 0 ∨ j = 1 ∨ j = 2 := by omega
        rcases j3 with rfl | rfl | rfl
        · go_wp2_with (go_at_call 39; (with_reducible refine (CA _).mono ?_); rintro e w1 ⟨rfl, b1⟩)
          go_roundw
          case rel => exact ⟨1, by omega, rfl, hbel.trans (b1.mono hbel.size)⟩
          case measure => simp [intOf]
        · go_wp2_with (go_at_call 39; (with_reducible refine (CB _).mono ?_); rintro e w1 ⟨rfl, b1⟩)
          go_roundw
          case rel => exact ⟨2, by omega, rfl, hbel.trans (b1.mono hbel.size)⟩
          case measure => simp [intOf]
        · go_wp2_with fail
          go_ret
          exact ⟨rfl, hbel⟩

def lvRow (a b : ByteArray) (i : Nat) : List Int := (List.range (b.size + 1)).map fun j => ((lvT a.data.toList b.data.toList i j : Nat) : Int)
theorem lvRow_len (a b : ByteArray) (i : Nat) : (lvRow a b i).length = b.size + 1 := by simp [lvRow]
theorem lvRow_at (a b : ByteArray) (i : Nat) {j : Nat} (h : j < b.size + 1) : (lvRow a b i)[j]? = some ((lvT a.data.toList b.data.toList i j : Nat) : Int) := by
  unfold lvRow; simp [h]
theorem lvT_le (a b : ByteArray) (i j : Nat) (ha : a.size ≤ 20) (hb : b.size ≤ 20) : lvT a.data.toList b.data.toList i j ≤ 20 := by
  have := lev_max false (a.data.toList.take i).reverse (b.data.toList.take j).reverse
  unfold lvT
  simp only [List.length_reverse, List.length_take, Array.length_toList] at this
  have h1 : a.data.size = a.size := rfl
  have h2 : b.data.size = b.size := rfl
  omega
theorem lvRow_wf (a b : ByteArray) (i : Nat) (ha : a.size ≤ 20) (hb : b.size ≤ 20) : ∀ z ∈ lvRow a b i, (Lit.int .i64 z).wf = true := by
  intro z hz
  unfold lvRow at hz
  obtain ⟨j, _, rfl⟩ := List.mem_map.1 hz
  have := lvT_le a b i j ha hb
  exact WalkArith.wf_i64 (by omega)
theorem byte_at {s : ByteArray} {i : Nat} (h : i < s.size) : s.data.toList[i]? = some s[i] := by
  rw [List.getElem?_eq_getElem (by simpa using h)]; rfl
theorem one_cellE (w : World) (x : Value) (t : TypeId) : ∀ j u, [x][j]? = some u → (w.alloc (.cells #[x] t)).cell? ((⟨w.heap.size, 0, none⟩ : Addr).add j) = some u := by
  intro j u hj
  match j, hj with
  | 0, hj => simp at hj; subst hj; simp [Addr.add]
  | j + 1, hj => simp at hj
theorem slice_ofE {w : World} {B n : Nat} {v : Value} {xs : List Value} (h : w.ownsRow B 2 1 v n xs) : ∃ A c, v = .slice A n c := by
  rcases h.2 with ⟨h1, h2⟩ | ⟨g, cap, cur, h1, _⟩
  · exact ⟨_, _, by rw [h1, h2]⟩
  · exact ⟨_, _, h1⟩
/-- The edit distance of two texts, where both are words. -/
def edOk (a b : ByteArray) : Bool := wordB a 36 && wordB b 36
def edV (x : Bool) (a b : ByteArray) : Int := if edOk a b = true then (lev x a.data.toList b.data.toList : Nat) else 0

set_option maxRecDepth 100000 in
set_option maxHeartbeats 4000000 in
theorem implEdit_any (a b : ByteArray) (w : World) (ha : a.size ≤ maxLen) (hb : b.size ≤ maxLen) :
    Calls Tryd.prog 10 #[.string a, .string b] w fun e w' => e = two (edV false a b) (edOk a b) ∧ Below w.heap.size w w' := by
  have CW := fun W g h0 h1 => areWords_any a b g W ha hb h0 h1
  rcases hok : edOk a b with _ | _
  · have HV : Hid (edV false a b = 0) := Lib.hid (by unfold edV; rw [hok]; rfl)
    unfold edOk at hok
    rw [hok] at CW
    clear hok
    go_enter Tryd.func10, Tryd.ntmps10
    go_wp2_with (go_at_call 24; (with_reducible refine (CW _ _ (by simp) (by simp)).mono ?_); rintro e w1 ⟨rfl, b1⟩)
    go_ret2
    exact ⟨two_eq HV.out.symm rfl, ((Below.refl _ w).alloc (Nat.le_refl _) _).trans (b1.mono (by simp))⟩
  · have HV : Hid (edV false a b = (lev false a.data.toList b.data.toList : Nat)) := Lib.hid (by unfold edV; rw [hok]; rfl)
    have hwa : a.size ≤ 20 ∧ b.size ≤ 20 := by
      unfold edOk wordB at hok
      simp only [Bool.and_eq_true, decide_eq_true_eq] at hok
      exact ⟨hok.1.2.1, hok.2.2.1⟩
    obtain ⟨ha20, hb20⟩ := hwa
    unfold edOk at hok
    rw [hok] at CW
    clear hok ha hb
    obtain ⟨i0, hin, hz0, hz1, hz2⟩ := info_parts info64
    go_enter Tryd.func10, Tryd.ntmps10
    go_wp2_with (first | (go_at_call 24; (with_reducible refine (CW _ _ (by simp) (by simp)).mono ?_); rintro e w1 ⟨rfl, b1⟩) | (refine wpList_make_full _ rfl _ _ 42 rfl w.heap.size 2 i0 (.int .i64 0) 1 Tryd.underlying42 hin hz0 hz1 .i64 .i64 (b.size + 1) (b.size + 1) (b.size + 1) rfl rfl rfl rfl ?m1 ?m2 ?m3 ?_))
    case m1 => rw [hz2]; omega
    case m2 => unfold maxLen; omega
    case m3 => exact Nat.le_trans (by simp) b1.size
    intro w2 hown hg
    have hbel : Below w.heap.size w w2 := (((Below.refl _ w).alloc (Nat.le_refl _) _).trans (b1.mono (by simp))).grown hg (Nat.le_trans (by simp) b1.size) (fun k hk => by cases hk)
    have hown0 : w2.ownsRow w.heap.size 2 1 (.slice (some ⟨w1.heap.size, 0, none⟩) (b.size + 1) (b.size + 1)) (b.size + 1) (cells64 ((lvRow a b 0).take 0 ++ List.replicate (b.size + 1 - 0) 0)) := by
      have e : cells64 ((lvRow a b 0).take 0 ++ List.replicate (b.size + 1 - 0) 0) = (madeCells #[Value.int .i64 0] (b.size + 1)).toList := by
        simp [cells64, toList_madeCells_one]
      rw [e]; exact hown
    clear hown hg b1
    obtain ⟨gR, hgR⟩ : ∃ g, g = w1.heap.size := ⟨_, rfl⟩
    rw [← hgR] at hown0 ⊢
    clear hgR
    go_wp2_with fail
    go_loopw [7, 23] (fun _ i wr => ∃ k : Nat, k ≤ b.size + 1 ∧ i = .int .i64 k ∧ Hid (wr.ownsRow w.heap.size 2 1 (.slice (some ⟨gR, 0, none⟩) (b.size + 1) (b.size + 1)) (b.size + 1) (cells64 ((lvRow a b 0).take k ++ List.replicate (b.size + 1 - k) 0))) ∧ Below w.heap.size w wr) (fun _ i _ => b.size + 1 - (intOf i).toNat)
    case atStart => exact ⟨0, by omega, rfl, Lib.hid hown0, hbel⟩
    case round =>
      obtain ⟨k, hk, rfl, hO, hB⟩ := hrel
      by_cases hlt : k < b.size + 1
      · have ho := hO.out
        have hcA : wr.cell? ⟨gR, k, none⟩ = (cells64 ((lvRow a b 0).take k ++ List.replicate (b.size + 1 - k) 0))[k]? := ho.cellAt k (by omega)
        have hcB : (cells64 ((lvRow a b 0).take k ++ List.replicate (b.size + 1 - k) 0))[k]? = some (.int .i64 0) := by
          simp only [cells64, List.getElem?_map]
          rw [List.getElem?_append_right (by simp; omega)]
          simp [lvRow_len, List.getElem?_replicate]
          omega
        have hcell := hcA.trans hcB
        have hfr := ho.frozenAt k
        have hst := ho.stored k (.int .i64 (k : Int))
        have e : (cells64 ((lvRow a b 0).take k ++ List.replicate (b.size + 1 - k) 0)).set k (.int .i64 (k : Int)) = cells64 ((lvRow a b 0).take (k + 1) ++ List.replicate (b.size + 1 - (k + 1)) 0) := by
          have h0 : (lvRow a b 0)[k]? = some (k : Int) := by
            rw [lvRow_at a b 0 hlt, lvT_zero _ _ _ (by simp; omega)]
          rw [cells64, ← List.map_set, set_take (lvRow_len a b 0) hlt h0]
        rw [e] at hst
        have HST := Lib.hid hst.1
        clear hcA hcB hst e ho hO
        go_wp2_with fail
        go_roundw
        case rel => exact ⟨k + 1, by omega, by go_num, HST, hB.setCell (by have := (hown0.lt gR rfl).1; omega) _⟩
        case measure => simp [intOf]; omega
      · have HK : Hid (k = b.size + 1) := Lib.hid (by omega)
        have hR0 : wr.ownsRow w.heap.size 2 1 (.slice (some ⟨gR, 0, none⟩) (b.size + 1) (b.size + 1)) (b.size + 1) (cells64 (lvRow a b 0)) := by
          have h5 := hO.out
          rw [HK.out, List.take_of_length_le (by rw [lvRow_len]; exact Nat.le_refl _)] at h5
          simpa using h5
        have HR0 := Lib.hid hR0
        clear hR0 hO hown0
        go_wp2_with fail
        go_loopw [6, 8, 9, 10, 11, 33] (fun r _ _ _ _ i wr => ∃ k : Nat, k ≤ a.size ∧ i = .int .i64 k ∧ (∃ A c, r = .slice A (b.size + 1) c) ∧ Hid (wr.ownsRow w.heap.size 2 1 r (b.size + 1) (cells64 (lvRow a b k))) ∧ Below w.heap.size w wr) (fun _ _ _ _ _ i _ => a.size - (intOf i).toNat)
        case atStart => exact ⟨0, by omega, rfl, ⟨_, _, rfl⟩, HR0, hB⟩
        case round =>
          obtain ⟨i, hi, rfl, ⟨A, c, rfl⟩, hO, hBi⟩ := hrel
          obtain ⟨W, hW⟩ : ∃ W, W = wr := ⟨_, rfl⟩
          rw [← hW] at hO hBi ⊢
          clear hW
          by_cases hlt : i < a.size
          · have hia : a.data.toList[i]? = some a[i] := byte_at hlt
            go_wp2_with fail
            go_loopw [9, 10, 11, 41] (fun v _ _ y wq => ∃ j : Nat, j ≤ b.size ∧ y = .int .i64 j ∧ (∃ A' c', v = .slice A' (j + 1) c') ∧ Hid (wq.ownsRow W.heap.size 2 1 v (j + 1) (cells64 ((lvRow a b (i + 1)).take (j + 1)))) ∧ Below W.heap.size W wq) (fun _ _ _ y _ => b.size - (intOf y).toNat)
            case atStart =>
              refine ⟨0, by omega, rfl, ⟨_, _, rfl⟩, Lib.hid ?_, (Below.refl _ _).alloc (Nat.le_refl _) _⟩
              have e : (lvRow a b (i + 1)).take (0 + 1) = [((i : Int) + 1)] := by
                rw [List.take_add_one, lvRow_at a b (i + 1) (by omega), lvT_zero' _ _ _ (by simp; omega)]
                simp
              rw [e]
              exact World.ownsRow_lit (size := 1) W #[.int .i64 ((i : Int) + 1)] 1 (by omega) (by unfold maxLen; omega) rfl
            case round =>
              obtain ⟨j, hj, rfl, ⟨A', c', rfl⟩, hown, hbq⟩ := hrel
              obtain ⟨wq, hwq⟩ : ∃ wq, wq = wr := ⟨_, rfl⟩
              rw [← hwq] at hown hbq ⊢
              clear hwq
              have hsq := hbq.size
              by_cases hjn : j < b.size
              · have hjb : b.data.toList[j]? = some b[j] := byte_at hjn
                have hrow : wq.ownsRow w.heap.size 2 1 (.slice A (b.size + 1) c) (b.size + 1) (cells64 (lvRow a b i)) := ownsRow_keep hO.out (fun g hg => hbq.block g (by subst hg; exact (hO.out.lt g rfl).2))
                rcases ownsRow_form hrow with ⟨_, h00, _⟩ | ⟨gA, rfl, _⟩
                · omega
                rcases ownsRow_form hown.out with ⟨_, h00, _⟩ | ⟨gL, rfl, _⟩
                · omega
                obtain ⟨V1, hV1⟩ : ∃ V, V = lvT a.data.toList b.data.toList i j := ⟨_, rfl⟩
                obtain ⟨V2, hV2⟩ : ∃ V, V = lvT a.data.toList b.data.toList i (j + 1) := ⟨_, rfl⟩
                obtain ⟨V3, hV3⟩ : ∃ V, V = lvT a.data.toList b.data.toList (i + 1) j := ⟨_, rfl⟩
                obtain ⟨V, hV⟩ : ∃ V, V = lvT a.data.toList b.data.toList (i + 1) (j + 1) := ⟨_, rfl⟩
                have l1 : V1 ≤ 20 := by rw [hV1]; exact lvT_le a b _ _ ha20 hb20
                have l2 : V2 ≤ 20 := by rw [hV2]; exact lvT_le a b _ _ ha20 hb20
                have l3 : V3 ≤ 20 := by rw [hV3]; exact lvT_le a b _ _ ha20 hb20
                have q1 : wq.cell? ⟨gA, j, none⟩ = some (.int .i64 (V1 : Int)) := by
                  rw [hrow.cellAt j (by omega), cells64, List.getElem?_map, lvRow_at a b i (by omega), hV1]; rfl
                have q2 : wq.cell? ⟨gA, j + 1, none⟩ = some (.int .i64 (V2 : Int)) := by
                  rw [hrow.cellAt (j + 1) (by omega), cells64, List.getElem?_map, lvRow_at a b i (by omega), hV2]; rfl
                have q3 : wq.cell? ⟨gL, j, none⟩ = some (.int .i64 (V3 : Int)) := by
                  rw [hown.out.cellAt j (by omega), cells64, List.getElem?_map, List.getElem?_take, if_pos (by omega), lvRow_at a b (i + 1) (by omega), hV3]; rfl
                have HD : Hid (cells64 ((lvRow a b (i + 1)).take (j + 1)) ++ [.int .i64 (V : Int)] = cells64 ((lvRow a b (i + 1)).take (j + 1 + 1))) := Lib.hid (by
                  rw [List.take_add_one (i := j + 1), lvRow_at a b (i + 1) (by omega), hV]; simp [cells64])
                have hown2 := hown.out
                obtain ⟨cs, hcs⟩ : ∃ cs, cs = cells64 ((lvRow a b (i + 1)).take (j + 1)) := ⟨_, rfl⟩
                rw [← hcs] at hown2 HD
                clear hcs hown hrow
                by_cases hc : a[i] = b[j]
                · have hbb : ((a[i].toNat : Int) != (b[j].toNat : Int)) = false := by rw [hc]; simp
                  have hVV : V = V1 := by rw [hV, hV1]; exact lvT_same (hia.trans (by rw [hc])) hjb
                  rw [hVV] at HD
                  have hownd : wq.drew.ownsRow W.heap.size 2 1 (.slice (some ⟨gL, 0, none⟩) (j + 1) c') (j + 1) cs := hown2
                  have hbd := hbq.drew
                  clear hV1 hV2 hV3 hV hVV
                  go_wp2_with fail
                  go_region
                  go_wp2_with (at_builtin; refine wpList_append_own _ rfl _ _ 42 rfl W.heap.size 2 i0 (.int .i64 0) 1 8 Tryd.underlying42 hin hz0 hz1 hz2 rfl (by decide) _ _ _ rfl (hownd.alloc _) ⟨wq.heap.size, 0, none⟩ 1 1 [.int .i64 ((V1 : Nat) : Int)] rfl rfl (one_cellE _ _ _) (fun u hu => by simp at hu; subst hu; rfl) ?c1 ?c2 ?c3 ?_)
                  case c1 => unfold maxLen; omega
                  case c2 => omega
                  case c3 => simp; omega
                  intro v3 w3 ho3 hg3 _
                  obtain ⟨A3, c3, rfl⟩ := slice_ofE ho3
                  have hb3 := Lib.hid (Below.grown (hbd.alloc (by simp; omega) _) hg3 (by simp; omega) (fun q hq => (hownd.lt q hq).1))
                  rw [HD.out] at ho3
                  have HO3 := Lib.hid ho3
                  clear ho3 hg3
                  go_wp2_with fail
                  go_roundw
                  case rel => exact ⟨j + 1, by omega, by go_num, ⟨A3, c3, rfl⟩, HO3, hb3.out⟩
                  case measure => simp [intOf]; omega
                · have hbb : ((a[i].toNat : Int) != (b[j].toNat : Int)) = true := by
                    have : ¬ a[i].toNat = b[j].toNat := fun e => hc (UInt8.toNat_inj.1 e)
                    simp; omega
                  have hVV : V = 1 + min (min V1 V2) V3 := by rw [hV, hV1, hV2, hV3]; exact lvT_diff hia hjb hc
                  have hownd : wq.drew.drew.ownsRow W.heap.size 2 1 (.slice (some ⟨gL, 0, none⟩) (j + 1) c') (j + 1) cs := hown2
                  have hbd := hbq.drew.drew
                  clear hV1 hV2 hV3 hV
                  by_cases h21 : V2 < V1
                  · have g21 : (V2 : Int) < (V1 : Int) := by omega
                    by_cases h3 : V3 < V2
                    · have g3 : (V3 : Int) < (V2 : Int) := by omega
                      have hVx : V = 1 + V3 := by omega
                      have HD : Hid (cs ++ [Value.int .i64 (1 + ((V3 : Nat) : Int))] = cells64 ((lvRow a b (i + 1)).take (j + 1 + 1))) := Lib.hid (by rw [← HD.out, hVx, Int.natCast_add]; rfl)
                      clear hVV hVx
                      go_wp2_with fail
                      go_region
                      go_wp2_with fail
                      go_region
                      go_wp2_with (at_builtin; refine wpList_append_own _ rfl _ _ 42 rfl W.heap.size 2 i0 (.int .i64 0) 1 8 Tryd.underlying42 hin hz0 hz1 hz2 rfl (by decide) _ _ _ rfl (hownd.alloc _) ⟨wq.heap.size, 0, none⟩ 1 1 [.int .i64 (1 + ((V3 : Nat) : Int))] rfl rfl (one_cellE _ _ _) (fun u hu => by simp at hu; subst hu; rfl) ?c1 ?c2 ?c3 ?_)
                      case c1 => unfold maxLen; omega
                      case c2 => omega
                      case c3 => simp; omega
                      intro v3 w3 ho3 hg3 _
                      obtain ⟨A3, c3, rfl⟩ := slice_ofE ho3
                      have hb3 := Lib.hid (Below.grown (hbd.alloc (by simp; omega) _) hg3 (by simp; omega) (fun q hq => (hownd.lt q hq).1))
                      rw [HD.out] at ho3
                      have HO3 := Lib.hid ho3
                      clear ho3 hg3
                      go_wp2_with fail
                      go_roundw
                      case rel => exact ⟨j + 1, by omega, by go_num, ⟨A3, c3, rfl⟩, HO3, hb3.out⟩
                      case measure => simp [intOf]; omega
                    · have g3 : ¬ (V3 : Int) < (V2 : Int) := by omega
                      have hVx : V = 1 + V2 := by omega
                      have HD : Hid (cs ++ [Value.int .i64 (1 + ((V2 : Nat) : Int))] = cells64 ((lvRow a b (i + 1)).take (j + 1 + 1))) := Lib.hid (by rw [← HD.out, hVx, Int.natCast_add]; rfl)
                      clear hVV hVx
                      go_wp2_with fail
                      go_region
                      go_wp2_with fail
                      go_region
                      go_wp2_with (at_builtin; refine wpList_append_own _ rfl _ _ 42 rfl W.heap.size 2 i0 (.int .i64 0) 1 8 Tryd.underlying42 hin hz0 hz1 hz2 rfl (by decide) _ _ _ rfl (hownd.alloc _) ⟨wq.heap.size, 0, none⟩ 1 1 [.int .i64 (1 + ((V2 : Nat) : Int))] rfl rfl (one_cellE _ _ _) (fun u hu => by simp at hu; subst hu; rfl) ?c1 ?c2 ?c3 ?_)
                      case c1 => unfold maxLen; omega
                      case c2 => omega
                      case c3 => simp; omega
                      intro v3 w3 ho3 hg3 _
                      obtain ⟨A3, c3, rfl⟩ := slice_ofE ho3
                      have hb3 := Lib.hid (Below.grown (hbd.alloc (by simp; omega) _) hg3 (by simp; omega) (fun q hq => (hownd.lt q hq).1))
                      rw [HD.out] at ho3
                      have HO3 := Lib.hid ho3
                      clear ho3 hg3
                      go_wp2_with fail
                      go_roundw
                      case rel => exact ⟨j + 1, by omega, by go_num, ⟨A3, c3, rfl⟩, HO3, hb3.out⟩
                      case measure => simp [intOf]; omega
                  · have g21 : ¬ (V2 : Int) < (V1 : Int) := by omega
                    by_cases h3 : V3 < V1
                    · have g3 : (V3 : Int) < (V1 : Int) := by omega
                      have hVx : V = 1 + V3 := by omega
                      have HD : Hid (cs ++ [Value.int .i64 (1 + ((V3 : Nat) : Int))] = cells64 ((lvRow a b (i + 1)).take (j + 1 + 1))) := Lib.hid (by rw [← HD.out, hVx, Int.natCast_add]; rfl)
                      clear hVV hVx
                      go_wp2_with fail
                      go_region
                      go_wp2_with fail
                      go_region
                      go_wp2_with (at_builtin; refine wpList_append_own _ rfl _ _ 42 rfl W.heap.size 2 i0 (.int .i64 0) 1 8 Tryd.underlying42 hin hz0 hz1 hz2 rfl (by decide) _ _ _ rfl (hownd.alloc _) ⟨wq.heap.size, 0, none⟩ 1 1 [.int .i64 (1 + ((V3 : Nat) : Int))] rfl rfl (one_cellE _ _ _) (fun u hu => by simp at hu; subst hu; rfl) ?c1 ?c2 ?c3 ?_)
                      case c1 => unfold maxLen; omega
                      case c2 => omega
                      case c3 => simp; omega
                      intro v3 w3 ho3 hg3 _
                      obtain ⟨A3, c3, rfl⟩ := slice_ofE ho3
                      have hb3 := Lib.hid (Below.grown (hbd.alloc (by simp; omega) _) hg3 (by simp; omega) (fun q hq => (hownd.lt q hq).1))
                      rw [HD.out] at ho3
                      have HO3 := Lib.hid ho3
                      clear ho3 hg3
                      go_wp2_with fail
                      go_roundw
                      case rel => exact ⟨j + 1, by omega, by go_num, ⟨A3, c3, rfl⟩, HO3, hb3.out⟩
                      case measure => simp [intOf]; omega
                    · have g3 : ¬ (V3 : Int) < (V1 : Int) := by omega
                      have hVx : V = 1 + V1 := by omega
                      have HD : Hid (cs ++ [Value.int .i64 (1 + ((V1 : Nat) : Int))] = cells64 ((lvRow a b (i + 1)).take (j + 1 + 1))) := Lib.hid (by rw [← HD.out, hVx, Int.natCast_add]; rfl)
                      clear hVV hVx
                      go_wp2_with fail
                      go_region
                      go_wp2_with fail
                      go_region
                      go_wp2_with (at_builtin; refine wpList_append_own _ rfl _ _ 42 rfl W.heap.size 2 i0 (.int .i64 0) 1 8 Tryd.underlying42 hin hz0 hz1 hz2 rfl (by decide) _ _ _ rfl (hownd.alloc _) ⟨wq.heap.size, 0, none⟩ 1 1 [.int .i64 (1 + ((V1 : Nat) : Int))] rfl rfl (one_cellE _ _ _) (fun u hu => by simp at hu; subst hu; rfl) ?c1 ?c2 ?c3 ?_)
                      case c1 => unfold maxLen; omega
                      case c2 => omega
                      case c3 => simp; omega
                      intro v3 w3 ho3 hg3 _
                      obtain ⟨A3, c3, rfl⟩ := slice_ofE ho3
                      have hb3 := Lib.hid (Below.grown (hbd.alloc (by simp; omega) _) hg3 (by simp; omega) (fun q hq => (hownd.lt q hq).1))
                      rw [HD.out] at ho3
                      have HO3 := Lib.hid ho3
                      clear ho3 hg3
                      go_wp2_with fail
                      go_roundw
                      case rel => exact ⟨j + 1, by omega, by go_num, ⟨A3, c3, rfl⟩, HO3, hb3.out⟩
                      case measure => simp [intOf]; omega
              · obtain rfl : j = b.size := by omega
                have h4 := hown.out
                rw [List.take_of_length_le (by rw [lvRow_len]; omega)] at h4
                have HR := Lib.hid (ownsRow_lower h4 (by exact hBi.size))
                have HB := Lib.hid (hBi.trans (hbq.mono hBi.size))
                clear h4 hown hbq hO
                go_wp2_with fail
                go_roundw
                case rel => exact ⟨i + 1, by omega, by go_num, ⟨_, _, rfl⟩, HR, HB.out⟩
                case measure => simp [intOf]; omega
          · obtain rfl : i = a.size := by omega
            rcases ownsRow_form hO.out with ⟨h0, h00, _⟩ | ⟨gA, rfl, _⟩
            · omega
            · have hc := hO.out.cellAt b.size (by omega)
              have e : (cells64 (lvRow a b a.size))[b.size]? = some (.int .i64 ((lev false a.data.toList b.data.toList : Nat) : Int)) := by
                rw [cells64, List.getElem?_map, lvRow_at a b a.size (by omega)]
                have h5 := lvT_all a.data.toList b.data.toList
                simp only [Array.length_toList] at h5
                show some (Value.int .i64 ((lvT a.data.toList b.data.toList a.data.size b.data.size : Nat) : Int)) = _
                rw [h5]
              rw [e] at hc
              clear e hO
              go_wp2_with fail
              go_ret2
              exact ⟨two_eq HV.out.symm rfl, hBi⟩
end Go.Proofs.YtiegaebnlikjiaaDoor
