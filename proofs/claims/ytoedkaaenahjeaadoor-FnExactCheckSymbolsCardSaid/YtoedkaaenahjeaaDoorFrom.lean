/-
  The text of digits, by the model; what the library's buffer holds of them.
-/
import Derived.Test.YtoedkaaenahjeaaDoorSym
import Derived.Test.YtoedkaaenahjeaaDoorOwn
import Derived.Test.YtoedkaaenahjeaaDoorShelf
import Derived.Lib.BufferKept
import Derived.OwnWalk
import Derived.WalkSmall

namespace Go.Proofs.YtoedkaaenahjeaaDoor
open Go.RowKit

theorem info8 : (Tryd.prog.info? 5).map (fun i => (i.zero, i.size, i.bytes)) = some (some (.int .u8 0), 1, 1) := by kernel_rfl
def byteV (ds : List UInt8) : List Value := ds.map fun c => Value.int .u8 (c.toNat : Int)
theorem byteV_len (ds : List UInt8) : (byteV ds).length = ds.length := by simp [byteV]
theorem push_all : ∀ (l : List UInt8) (a : ByteArray), (l.map fun c => (c.toNat : Int)).foldl (fun r n => r.push (UInt8.ofNat n.toNat)) a = ⟨a.data ++ l.toArray⟩
  | [], a => by simp
  | c :: l, a => by
    simp only [List.map_cons, List.foldl_cons]
    rw [push_all l]
    have e : UInt8.ofNat ((c.toNat : Int)).toNat = c := by simp
    rw [e]
    congr 1
    show a.data.push c ++ l.toArray = _
    simp
/-- The bytes of a row of the call's own, made into a text. -/
theorem convert_own {w : World} {B g n c : Nat} (ds : List UInt8) (hn : ds.length = n) (h : w.ownsRow B 5 1 (.slice (some ⟨g, 0, none⟩) n c) n (byteV ds)) :
    (convert 22 9 (.slice (some ⟨g, 0, none⟩) n c)).run Tryd.prog w = .ok (.string ⟨ds.toArray⟩) w := by
  have hl : ((ds.map fun c => (c.toNat : Int)).map (Value.int .u8)).length = n := by simp [hn]
  rw [run_convert_bytes_string w 22 9 5 (some ⟨g, 0, none⟩) n c Tryd.underlying22 Tryd.underlying5 Tryd.underlying9]
  have hc := run_loadCells_list (P := Tryd.prog) w ⟨g, 0, none⟩ ((ds.map fun c => (c.toNat : Int)).map (Value.int .u8)) (by
    intro j v hj
    refine h.cells rfl j v ?_
    simpa [byteV, Function.comp_def] using hj)
  rw [hl] at hc
  have h2 := run_bytesToString (P := Tryd.prog) w ⟨g, 0, none⟩ n c (ds.map fun c => (c.toNat : Int)) hc
  rw [h2, push_all]
  have e : ByteArray.empty.data ++ ds.toArray = ds.toArray := Array.empty_append
  rw [e]
theorem byteV_one (ds : List UInt8) : ∀ u ∈ byteV ds, u.oneCell' = true := by
  intro u hu
  simp only [byteV, List.mem_map] at hu
  obtain ⟨c, _, rfl⟩ := hu
  rfl
def symB (z : Int) : UInt8 := UInt8.ofNat (symN z.toNat)
theorem symB_toNat {d : Nat} (h : d < 36) : (symB (d : Int)).toNat = symN d := by
  have := symN_lt h
  simp [symB]
  omega
theorem taken {zs : List Int} {k : Nat} {z : Int} (h : zs[k]? = some z) : zs.take (k + 1) = zs.take k ++ [z] := by
  rw [List.take_add_one, h]; rfl
theorem byteV_snoc (ds : List UInt8) (z : Nat) (hz : z < 36) : byteV (ds ++ [symB (z : Int)]) = byteV ds ++ [.int .u8 (symN z)] := by
  simp [byteV, symB_toNat hz]
theorem cells_one (w : World) (x : Value) (t : TypeId) : ∀ j u, [x][j]? = some u → (w.alloc (.cells #[x] t)).cell? ((⟨w.heap.size, 0, none⟩ : Addr).add j) = some u := by
  intro j u hj
  match j, hj with
  | 0, hj => simp at hj; subst hj; simp [Addr.add]
  | j + 1, hj => simp at hj
set_option maxRecDepth 100000 in
set_option maxHeartbeats 1000000 in
theorem l01From_any {B : Nat} (A : Option Addr) (n c : Nat) (zs : List Int) (w : World) (h : RowB .i64 B w A n zs) (hB : B ≤ w.heap.size) (hn : n ≤ 1048576) (hd : ∀ z ∈ zs, 0 ≤ z ∧ z ≤ 35) :
    Calls Tryd.prog 54 #[.slice A n c] w fun e w' => e = .returned (.string ⟨(zs.map symB).toArray⟩) ∧ Below w.heap.size w w' := by
  obtain ⟨i0, hi, hz0, hz1, hz2⟩ := info_parts info8
  have hle := h.le
  go_enter Tryd.func54, Tryd.ntmps54
  go_wp2
  go_loopw [3, 4] (fun v i wr => ∃ (k g cp : Nat), k ≤ n ∧ i = .int .i64 k ∧ v = .slice (some ⟨g, 0, none⟩) k cp ∧ wr.ownsRow w.heap.size 5 1 (.slice (some ⟨g, 0, none⟩) k cp) k (byteV ((zs.take k).map symB)) ∧ Below w.heap.size w wr) (fun _ i _ => n - (intOf i).toNat)
  case atStart => exact ⟨0, w.heap.size, 0, by omega, rfl, rfl, World.ownsRow_made _ _ _ (Nat.le_refl _) (by unfold maxLen; omega) rfl, (Below.refl _ _).alloc (Nat.le_refl _) _⟩
  case round =>
    obtain ⟨k, g, cp, hk, rfl, rfl, ho, hb⟩ := hrel
    have hbs := hb.size
    by_cases hlt : k < n
    · obtain ⟨b, o, z, rfl, _, hz, hc, _⟩ := (h.below (hb.mono hB)).at_ hlt
      have hzb := hd z (List.mem_of_getElem? hz)
      obtain ⟨d, rfl⟩ := Int.eq_ofNat_of_zero_le hzb.1
      have HT : Hid (byteV ((zs.take (k + 1)).map symB) = byteV ((zs.take k).map symB) ++ [.int .u8 (symN d)]) := Lib.hid (by
        rw [taken hz, List.map_append]; exact byteV_snoc _ d (by omega))
      obtain ⟨bv, hbv⟩ : ∃ bv, bv = byteV ((zs.take k).map symB) := ⟨_, rfl⟩
      rw [← hbv] at HT ho
      have hl1 : bv.length = k * 1 := ho.1
      have hd36 : d < 36 := by omega
      clear hz hbv hl1
      go_wp2_with (first | (go_at_call 82; (with_reducible refine (l01Symbol_any _ _ hd36).mono ?_); rintro e w' ⟨rfl, rfl⟩) | (at_builtin; refine wpList_append_own _ rfl _ _ 22 rfl w.heap.size 5 i0 (.int .u8 0) 1 1 Tryd.underlying22 hi hz0 hz1 hz2 rfl (by decide) _ _ _ rfl (ho.alloc _) ⟨wr.heap.size, 0, none⟩ 1 1 [.int .u8 (symN d)] rfl rfl (cells_one _ _ _) (fun u hu => by simp at hu; subst hu; rfl) ?c1 ?c2 ?c3 ?_))
      case c1 => unfold maxLen; omega
      case c2 => omega
      case c3 => simp; omega
      intro v3 w3 ho3 hg3 hnil
      have hv : ∃ g' c', v3 = .slice (some ⟨g', 0, none⟩) (k + 1) c' := by
        rcases ho3.2 with ⟨hv, h0⟩ | ⟨g', cap, cur, hv, _⟩
        · omega
        · exact ⟨_, _, hv⟩
      obtain ⟨g', c', rfl⟩ := hv
      rw [← HT.out] at ho3
      have hb3 : Below w.heap.size w w3 := Below.grown (hb.alloc hbs _) hg3 (by simp; omega) (fun j hj => (ho.lt j hj).1)
      have X : Hid (w3.ownsRow w.heap.size 5 1 (.slice (some ⟨g', 0, none⟩) (k + 1) c') (k + 1) (byteV ((zs.take (k + 1)).map symB)) ∧ Below w.heap.size w w3) := Lib.hid ⟨ho3, hb3⟩
      clear ho3 hb3 hg3 hnil
      go_wp2
      go_roundw
      case rel => exact ⟨k + 1, g', c', by omega, by go_num, rfl, X.out.1, X.out.2⟩
      case measure => simp [intOf]; omega
    · obtain rfl : k = n := by omega
      have hl := h.len
      rw [List.take_of_length_le (by omega)] at ho
      have hcv := convert_own (zs.map symB) (by simpa using hl) ho
      go_wp2
      go_ret
      exact ⟨rfl, hb⟩
theorem syms_byte : ∀ d : Nat, (h : d < 36) → (({ data := #[48, 49, 50, 51, 52, 53, 54, 55, 56, 57, 65, 66, 67, 68, 69, 70, 71, 72, 73, 74, 75, 76, 77, 78, 79, 80, 81, 82, 83, 84, 85, 86, 87, 88, 89, 90] } : ByteArray)[d]'h).toNat = symN d := by decide
theorem snoc_bytes (l : List UInt8) (d : Nat) (h : d < 36) : Lib.byteCells l ++ [.int .u8 (symN d)] = Lib.byteCells (l ++ [symB (d : Int)]) := by
  simp [Lib.byteCells, symB_toNat h]
end Go.Proofs.YtoedkaaenahjeaaDoor
