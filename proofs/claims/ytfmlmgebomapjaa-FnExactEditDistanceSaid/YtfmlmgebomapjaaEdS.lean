/-
  The model's costs, and its distances.
-/
import Derived.Test.YtfmlmgebomapjaaEdC
import Derived.Test.YtfmlmgebomapjaaOwn
import Derived.Test.YtfmlmgebomapjaaOwnK
import Derived.IntWalk
import Derived.BigRegion
namespace Go.Proofs.Ytfmlmgebomapjaa
open Go.RowKit

set_option maxHeartbeats 400000 in
theorem l00MinE_any (a b : Int) (w : World) :
    Calls Try.prog 35 #[.int .i64 a, .int .i64 b] w fun e w' => e = .returned (.int .i64 (min a b)) ∧ w = w' := by
  by_cases h : a < b
  · go_enter Try.func35, Try.ntmps35
    go_wp2
    go_ret
    exact ⟨ret_int (by omega), rfl⟩
  · go_enter Try.func35, Try.ntmps35
    go_wp2
    go_ret
    exact ⟨ret_int (by omega), rfl⟩

/-- What the costs' function leaves. -/
def GotCst (x : Bool) (a b : ByteArray) (w : World) (e : Ending) (w' : World) : Prop :=
  ∃ A c, e = .returned (.slice A ((a.size + 1) * (b.size + 1)) c) ∧ Own w.heap.size w' A ((a.size + 1) * (b.size + 1)) c (flatE (b.size + 1) ((a.size + 1) * (b.size + 1)) (cst x a b)) ∧ Below w.heap.size w w'
theorem cst_20 (x : Bool) (a b : ByteArray) (i k : Nat) (ha : a.size ≤ 20) (hb : b.size ≤ 20) : cst x a b i k ≤ 20 := by
  have h := cst_le x a b i k
  omega
theorem flatE_wf (x : Bool) (a b : ByteArray) (n N : Nat) (ha : a.size ≤ 20) (hb : b.size ≤ 20) : ∀ z ∈ flatE n N (cst x a b), (Lit.int .i64 z).wf = true := by
  intro z hz
  unfold flatE at hz
  obtain ⟨q, _, rfl⟩ := List.mem_map.1 hz
  have h := cst_20 x a b (q / n) (q % n) ha hb
  exact WalkArith.wf_i64 (by omega)
theorem cstE_at (x : Bool) (a b : ByteArray) {n N p j y : Nat} (hy : y < n) (h : j * n + y < N) (hp : p ≤ j * n + y) : (cells64 (flatE n N (cstF x a b n p)))[j * n + y]? = some (.int .i64 ((cst x a b j y : Nat) : Int)) := by
  rw [cells64, List.getElem?_map, flatE_get _ hy h, cstF_old hp]; rfl

theorem own_of {wr : World} {B g off V N c : Nat} {z : Int} {e : TypeId} {A : Option Addr} {m : Nat} {xs : List Value} (h : (wr.setCell ⟨g, off, none⟩ (.int .i64 ((V : Nat) : Int))).ownsRow B e 1 (.slice A N c) N xs) (hz : z = (V : Int)) :
    ((wr.drewN m).setCell ⟨g, off, none⟩ (.int .i64 z)).ownsRow B e 1 (.slice A N c) N xs := by
  subst hz; exact ownsRow_keep h (fun _ _ => rfl)
theorem below_of {w wr : World} {B g off V : Nat} {z : Int} {m : Nat} (h : Below B w (wr.setCell ⟨g, off, none⟩ (.int .i64 ((V : Nat) : Int)))) (hz : z = (V : Int)) :
    Below B w ((wr.drewN m).setCell ⟨g, off, none⟩ (.int .i64 z)) := by
  subst hz; exact below_drewN h m

set_option maxRecDepth 100000 in
set_option maxHeartbeats 16000000 in
theorem l06CostsF_any (a b : ByteArray) (w : World) (ha : a.size ≤ 20) (hb : b.size ≤ 20) :
    Calls Try.prog 20 #[.string a, .string b, .bool false] w (GotCst false a b w) := by
  obtain ⟨i0, hin, hz0, hz1, hz2⟩ := info_parts info64
  obtain ⟨N, hN⟩ : ∃ N : Nat, N = (a.size + 1) * (b.size + 1) := ⟨_, rfl⟩
  have hNb : N ≤ 441 := by
    rw [hN]
    exact Nat.le_trans (Nat.mul_le_mul (show a.size + 1 ≤ 21 by omega) (show b.size + 1 ≤ 21 by omega)) (by decide)
  have eN : (((a.size : Int) + 1) * ((b.size : Int) + 1)) = (N : Int) := by rw [hN]; simp
  have gN : IntKind.i64.wrap (N : Int) = (N : Int) := IntWalk.i64_in _ (by omega)
  unfold GotCst
  rw [← hN]
  have HN := Lib.hid hN
  clear hN
  go_enter Try.func20, Try.ntmps20
  go_wp2_with (refine wpList_make_full _ rfl _ _ 38 rfl w.heap.size 2 i0 (.int .i64 0) 1 Try.underlying38 hin hz0 hz1 .i64 .i64 N N N rfl rfl rfl rfl ?m1 ?m2 ?m3 ?_)
  case m1 => rw [hz2]; omega
  case m2 => unfold maxLen; omega
  case m3 => exact Nat.le_refl _
  intro w1 hown hg
  have hbel : Below w.heap.size w w1 := (Below.refl _ w).grown hg (Nat.le_refl _) (fun k hk => by cases hk)
  have hlt1 : w.heap.size < w1.heap.size := (hown.lt _ rfl).2
  have HOWN : Hid (w1.ownsRow w.heap.size 2 1 (.slice (some ⟨w.heap.size, 0, none⟩) N N) N (cells64 (flatE (b.size + 1) N (cstF false a b (b.size + 1) ((a.size + 1) * (b.size + 1)))))) := Lib.hid (by
    have e : flatE (b.size + 1) N (cstF false a b (b.size + 1) ((a.size + 1) * (b.size + 1))) = List.replicate N 0 := by
      rw [← flatE_zero (b.size + 1) N]
      refine flatE_congr (by omega) (fun j y _ h => ?_)
      unfold cstF
      rw [if_pos (by rw [← HN.out]; exact h)]
    rw [e]
    have e2 : (madeCells #[Value.int .i64 0] N).toList = cells64 (List.replicate N 0) := by simp [cells64, toList_madeCells_one]
    rw [← e2]; exact hown)
  clear hown hg
  go_wp2_with fail
  go_loopw [9, 10, 11] (fun s _ _ wr => ∃ (i1 : Nat) (z : Int), i1 ≤ a.size + 1 ∧ z + 1 = (i1 : Int) ∧ s = .int .i64 z ∧ Hid (wr.ownsRow w.heap.size 2 1 (.slice (some ⟨w.heap.size, 0, none⟩) N N) N (cells64 (flatE (b.size + 1) N (cstF false a b (b.size + 1) (i1 * (b.size + 1)))))) ∧ Below w.heap.size w wr) (fun s _ _ _ => (intOf s + 1).toNat)
  case atStart => exact ⟨a.size + 1, a.size, by omega, by omega, rfl, HOWN, hbel⟩
  case round =>
    obtain ⟨i1, z, hi1, hz, rfl, hO, hB⟩ := hrel
    obtain ⟨W, hW⟩ : ∃ W, W = wr := ⟨_, rfl⟩
    rw [← hW] at hO hB ⊢
    clear hW
    by_cases h0 : i1 = 0
    · obtain rfl : z = -1 := by omega
      subst h0
      have HO : Hid (Own w.heap.size W (some ⟨w.heap.size, 0, none⟩) N N (flatE (b.size + 1) N (cst false a b))) := Lib.hid (by
        have e : flatE (b.size + 1) N (cst false a b) = flatE (b.size + 1) N (cstF false a b (b.size + 1) (0 * (b.size + 1))) := flatE_congr (by omega) (fun j y _ _ => by rw [Nat.zero_mul, cstF_all])
        refine ⟨?_, flatE_wf false a b _ _ ha hb⟩
        rw [e]; exact hO.out)
      clear hO
      go_wp2_with fail
      go_ret
      exact ⟨_, _, rfl, HO.out, hB⟩
    · obtain ⟨i, rfl⟩ : ∃ i, i1 = i + 1 := ⟨i1 - 1, by omega⟩
      obtain rfl : z = (i : Int) := by omega
      clear h0 hz
      have hil : i ≤ a.size := by omega
      obtain ⟨P, hP⟩ : ∃ P : Nat, P = i * (b.size + 1) := ⟨_, rfl⟩
      have hP1 : (i + 1) * (b.size + 1) = P + (b.size + 1) := by rw [hP, Nat.add_mul, Nat.one_mul]
      have hP2 : (i + 2) * (b.size + 1) = P + 2 * (b.size + 1) := by rw [hP, Nat.add_mul]
      have hPN : P + (b.size + 1) ≤ N := by
        rw [← hP1, HN.out]; exact Nat.mul_le_mul_right _ (by omega)
      have hPN1 : i < a.size → P + 2 * (b.size + 1) ≤ N := fun h => by
        rw [← hP2, HN.out]; exact Nat.mul_le_mul_right _ (by omega)
      have hPN2 : i + 1 < a.size → P + 3 * (b.size + 1) ≤ N := fun h => by
        have : (i + 3) * (b.size + 1) ≤ N := by rw [HN.out]; exact Nat.mul_le_mul_right _ (by omega)
        rw [Nat.add_mul, ← hP] at this; exact this
      have eP : (i : Int) * ((b.size : Int) + 1) = (P : Int) := by rw [hP]; simp
      have eP1 : ((i : Int) + 1) * ((b.size : Int) + 1) = (P : Int) + ((b.size : Int) + 1) := by rw [Int.add_mul, eP, Int.one_mul]
      have eP2 : ((i : Int) + 2) * ((b.size : Int) + 1) = (P : Int) + 2 * ((b.size : Int) + 1) := by rw [Int.add_mul, eP]
      have gP : IntKind.i64.wrap (P : Int) = (P : Int) := IntWalk.i64_in _ (by omega)
      have gP1 : IntKind.i64.wrap ((P : Int) + ((b.size : Int) + 1)) = (P : Int) + ((b.size : Int) + 1) := IntWalk.i64_in _ (by omega)
      have gP2 : IntKind.i64.wrap ((P : Int) + 2 * ((b.size : Int) + 1)) = (P : Int) + 2 * ((b.size : Int) + 1) := IntWalk.i64_in _ (by omega)
      have HP := Lib.hid hP
      clear hP
      go_wp2_with fail
      go_loopw [10, 11] (fun s _ wr => ∃ (k1 : Nat) (z : Int), k1 ≤ b.size + 1 ∧ z + 1 = (k1 : Int) ∧ s = .int .i64 z ∧ Hid (wr.ownsRow w.heap.size 2 1 (.slice (some ⟨w.heap.size, 0, none⟩) N N) N (cells64 (flatE (b.size + 1) N (cstF false a b (b.size + 1) (P + k1))))) ∧ Below w.heap.size w wr) (fun s _ _ => (intOf s + 1).toNat)
      case atStart => exact ⟨b.size + 1, b.size, by omega, by omega, rfl, by rw [← hP1]; exact hO, hB⟩
      case round =>
        obtain ⟨k1, z, hk1, hz, rfl, hO, hB⟩ := hrel
        by_cases h0 : k1 = 0
        · obtain rfl : z = -1 := by omega
          subst h0
          have HO : Hid (wr.ownsRow w.heap.size 2 1 (.slice (some ⟨w.heap.size, 0, none⟩) N N) N (cells64 (flatE (b.size + 1) N (cstF false a b (b.size + 1) (i * (b.size + 1)))))) := Lib.hid (by rw [← HP.out]; exact hO.out)
          clear hO
          go_wp2_with fail
          go_roundw
          case rel => exact ⟨i, (i : Int) - 1, by omega, by omega, by go_num, HO, hB⟩
          case measure => simp [intOf]
        · obtain ⟨k, rfl⟩ : ∃ k, k1 = k + 1 := ⟨k1 - 1, by omega⟩
          obtain rfl : z = (k : Int) := by omega
          clear h0 hz
          have hkl : k ≤ b.size := by omega
          have ho := hO.out
          obtain ⟨V, hV⟩ : ∃ V, V = cst false a b i k := ⟨_, rfl⟩
          have lV : V ≤ 20 := by rw [hV]; exact cst_20 false a b _ _ ha hb
          have hfr := ho.frozenAt (P + k)
          have hst := (ho.stored (P + k) (.int .i64 ((V : Nat) : Int))).1
          have e : (cells64 (flatE (b.size + 1) N (cstF false a b (b.size + 1) (P + (k + 1))))).set (P + k) (.int .i64 ((V : Nat) : Int)) = cells64 (flatE (b.size + 1) N (cstF false a b (b.size + 1) (P + k))) := by
            rw [cells64, ← List.map_set, HP.out, flatE_set (by omega) (show k < b.size + 1 by omega) (G := cstF false a b (b.size + 1) (i * (b.size + 1) + k)) (fun j y hy _ => ?_)]
            rw [hV]; exact cstF_put false a b (by omega) hy
          rw [e] at hst
          have HST := Lib.hid hst
          have HBB : Hid (Below w.heap.size w (wr.setCell ⟨w.heap.size, P + k, none⟩ (.int .i64 ((V : Nat) : Int)))) := Lib.hid (hB.setCell (Nat.le_refl _) _)
          have old := ho.cellAt (P + k) (by omega)
          obtain ⟨ov, hov⟩ : ∃ ov, (cells64 (flatE (b.size + 1) N (cstF false a b (b.size + 1) (P + (k + 1)))))[P + k]? = some (.int .i64 ov) := by
            have hl : P + k < (cells64 (flatE (b.size + 1) N (cstF false a b (b.size + 1) (P + (k + 1))))).length := by simp [cells64, flatE_len]; omega
            rw [List.getElem?_eq_getElem hl]
            simp [cells64]
          rw [hov] at old
          clear hov hst e
          by_cases hin2 : i < a.size ∧ k < b.size
          · obtain ⟨hia, hkb⟩ := hin2
            have hPN1' := hPN1 hia
            obtain ⟨V1, hV1⟩ : ∃ V, V = cst false a b (i + 1) (k + 1) := ⟨_, rfl⟩
            obtain ⟨V2, hV2⟩ : ∃ V, V = cst false a b (i + 1) k := ⟨_, rfl⟩
            obtain ⟨V3, hV3⟩ : ∃ V, V = cst false a b i (k + 1) := ⟨_, rfl⟩
            obtain ⟨V4, hV4⟩ : ∃ V, V = cst false a b (i + 2) (k + 2) := ⟨_, rfl⟩
            have l1 : V1 ≤ 20 := by rw [hV1]; exact cst_20 false a b _ _ ha hb
            have l2 : V2 ≤ 20 := by rw [hV2]; exact cst_20 false a b _ _ ha hb
            have l3 : V3 ≤ 20 := by rw [hV3]; exact cst_20 false a b _ _ ha hb
            have l4 : V4 ≤ 20 := by rw [hV4]; exact cst_20 false a b _ _ ha hb
            have q1 : wr.cell? ⟨w.heap.size, (P + (b.size + 1) + k + 1), none⟩ = some (.int .i64 (V1 : Int)) := by
              rw [show (P + (b.size + 1) + k + 1) = (i + 1) * (b.size + 1) + (k + 1) by omega, ho.cellAt _ (by omega), cstE_at false a b (by omega) (by omega) (by omega), hV1]
            have q2 : wr.cell? ⟨w.heap.size, (P + (b.size + 1) + k), none⟩ = some (.int .i64 (V2 : Int)) := by
              rw [show (P + (b.size + 1) + k) = (i + 1) * (b.size + 1) + k by omega, ho.cellAt _ (by omega), cstE_at false a b (by omega) (by omega) (by omega), hV2]
            have q3 : wr.cell? ⟨w.heap.size, (P + k + 1), none⟩ = some (.int .i64 (V3 : Int)) := by
              rw [show (P + k + 1) = i * (b.size + 1) + (k + 1) by rw [← HP.out]; omega, ho.cellAt _ (by rw [← HP.out]; omega), cstE_at false a b (by omega) (by rw [← HP.out]; omega) (by rw [← HP.out]; omega), hV3]
            have Q4 : i + 1 < a.size → k + 1 < b.size → wr.cell? ⟨w.heap.size, (P + 2 * (b.size + 1) + k + 2), none⟩ = some (.int .i64 (V4 : Int)) := fun h1 h2 => by
              have := hPN2 h1
              rw [show (P + 2 * (b.size + 1) + k + 2) = (i + 2) * (b.size + 1) + (k + 2) by omega, ho.cellAt _ (by omega), cstE_at false a b (by omega) (by omega) (by omega), hV4]
            have R4 : i + 1 < a.size → k + 1 < b.size → P + 3 * (b.size + 1) ≤ N := fun h1 _ => hPN2 h1
            clear ho hO hP1 hP2
            have ti : (i : Int) < (a.size : Int) := by omega
            have tk : (k : Int) < (b.size : Int) := by omega
            by_cases hc : a[i].toNat = b[k].toNat
            · have bb : ((a[i].toNat : Int) != (b[k].toNat : Int)) = false := by rw [hc]; simp
              have hn0 : ne01 a[i] b[k] = 0 := by rw [UInt8.toNat_inj.1 hc]; exact ne01_same _
              · skip
                have hxx : (false && xchB a b i k) = false := rfl
                have HVV : Hid ((V : Nat) = min (min (V1 + 0) (V2 + 1)) (V3 + 1)) := Lib.hid (by rw [hV, cst_no hia hkb hxx, hn0, ← hV1, ← hV2, ← hV3])
                clear hV1 hV2 hV3 hV4 hV hxx hn0
                clear hc
                have zi : (0 : Int) ≤ (i : Int) + 1 := by omega
                have zk : (0 : Int) ≤ (k : Int) + 1 := by omega
                have wi : IntKind.i64.wrap ((i : Int) + 1) = (i : Int) + 1 := IntWalk.i64_in _ (by omega)
                have wk : IntKind.i64.wrap ((k : Int) + 1) = (k : Int) + 1 := IntWalk.i64_in _ (by omega)
                go_wp2_with fail
                go_quiet (fail)
                go_wp2_with (go_at_call 35; (with_reducible refine (l00MinE_any _ _ _).mono ?_); rintro e w' ⟨rfl, rfl⟩)
                go_quiet (fail)
                go_wp2_with (go_at_call 35; (with_reducible refine (l00MinE_any _ _ _).mono ?_); rintro e w' ⟨rfl, rfl⟩)
                go_roundw
                case rel =>
                  have hf := HVV.out
                  exact ⟨k, (k : Int) - 1, by omega, by omega, by go_num, Lib.hid (own_of HST.out (by omega)), below_of HBB.out (by omega)⟩
                case measure => simp [intOf]
            · have bb : ((a[i].toNat : Int) != (b[k].toNat : Int)) = true := by simp; omega
              have hn0 : ne01 a[i] b[k] = 1 := ne01_ne (fun e => hc (by rw [e]))
              · skip
                have hxx : (false && xchB a b i k) = false := rfl
                have HVV : Hid ((V : Nat) = min (min (V1 + 1) (V2 + 1)) (V3 + 1)) := Lib.hid (by rw [hV, cst_no hia hkb hxx, hn0, ← hV1, ← hV2, ← hV3])
                clear hV1 hV2 hV3 hV4 hV hxx hn0
                have zi : (0 : Int) ≤ (i : Int) + 1 := by omega
                have zk : (0 : Int) ≤ (k : Int) + 1 := by omega
                have wi : IntKind.i64.wrap ((i : Int) + 1) = (i : Int) + 1 := IntWalk.i64_in _ (by omega)
                have wk : IntKind.i64.wrap ((k : Int) + 1) = (k : Int) + 1 := IntWalk.i64_in _ (by omega)
                go_wp2_with fail
                go_quiet (fail)
                go_wp2_with (go_at_call 35; (with_reducible refine (l00MinE_any _ _ _).mono ?_); rintro e w' ⟨rfl, rfl⟩)
                go_quiet (fail)
                go_wp2_with (go_at_call 35; (with_reducible refine (l00MinE_any _ _ _).mono ?_); rintro e w' ⟨rfl, rfl⟩)
                go_roundw
                case rel =>
                  have hf := HVV.out
                  exact ⟨k, (k : Int) - 1, by omega, by omega, by go_num, Lib.hid (own_of HST.out (by omega)), below_of HBB.out (by omega)⟩
                case measure => simp [intOf]
          · have HE : Hid (V = (a.size - i) + (b.size - k)) := Lib.hid (by rw [hV]; exact cst_end hin2)
            by_cases hia : i < a.size
            · have ti : (i : Int) < (a.size : Int) := by omega
              have tk : ¬ (k : Int) < (b.size : Int) := by omega
              · skip
                have wi : IntKind.i64.wrap ((i : Int) + 1) = (i : Int) + 1 := IntWalk.i64_in _ (by omega)
                have wk : IntKind.i64.wrap ((k : Int) + 1) = (k : Int) + 1 := IntWalk.i64_in _ (by omega)
                clear ho hO hV hP1 hP2
                go_wp2_with fail
                go_quiet (fail)
                go_wp2_with fail
                go_roundw
                case rel =>
                  have hf := HE.out
                  exact ⟨k, (k : Int) - 1, by omega, by omega, by go_num, Lib.hid (own_of HST.out (by omega)), below_of HBB.out (by omega)⟩
                case measure => simp [intOf]
            · have ti : ¬ (i : Int) < (a.size : Int) := by omega
              · skip
                have wi : IntKind.i64.wrap ((i : Int) + 1) = (i : Int) + 1 := IntWalk.i64_in _ (by omega)
                have wk : IntKind.i64.wrap ((k : Int) + 1) = (k : Int) + 1 := IntWalk.i64_in _ (by omega)
                clear ho hO hV hP1 hP2
                go_wp2_with fail
                go_quiet (fail)
                go_wp2_with fail
                go_roundw
                case rel =>
                  have hf := HE.out
                  exact ⟨k, (k : Int) - 1, by omega, by omega, by go_num, Lib.hid (own_of HST.out (by omega)), below_of HBB.out (by omega)⟩
                case measure => simp [intOf]
end Go.Proofs.Ytfmlmgebomapjaa
