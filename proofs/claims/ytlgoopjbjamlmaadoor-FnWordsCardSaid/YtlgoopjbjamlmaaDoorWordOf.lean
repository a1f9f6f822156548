/-
  Contracts of WordOf, of the program and of the model, and the walk of its law.
-/
import Derived.Test.YtlgoopjbjamlmaaDoorDec
import Derived.Test.YtlgoopjbjamlmaaDoorSym
import Derived.Test.YtlgoopjbjamlmaaDoorOwn
namespace Go.Proofs.YtlgoopjbjamlmaaDoor
open Go.RowKit

def symB (z : Int) : UInt8 := UInt8.ofNat (symN z.toNat)
def inBase (base : Int) (z : Int) : Bool := inB z 0 (base - 1)
def woOk (zs : List Int) (base : Int) : Bool := (inB base 2 36 && decide (zs.length ≤ 20)) && zs.all (inBase base)
def woR (zs : List Int) (base : Int) : ByteArray := if woOk zs base = true then ⟨(zs.map symB).toArray⟩ else ⟨#[]⟩
theorem symB_toNat {d : Nat} (h : d < 36) : (symB (d : Int)).toNat = symN d := by
  have := symN_lt h
  simp [symB]
  omega
theorem wo_bad {zs : List Int} {base z : Int} (hz : z ∈ zs) (h : inBase base z = false) : woOk zs base = false := by
  have : zs.all (inBase base) = false := by
    rw [List.all_eq_false]; exact ⟨z, hz, by simp [h]⟩
  simp [woOk, this]
theorem taken {zs : List Int} {k : Nat} {z : Int} (h : zs[k]? = some z) : zs.take (k + 1) = zs.take k ++ [z] := by
  rw [List.take_add_one, h]; rfl
theorem all_next {zs : List Int} {base z : Int} {k : Nat} (hz : zs[k]? = some z) (ha : (zs.take k).all (inBase base) = true) (h : inBase base z = true) : (zs.take (k + 1)).all (inBase base) = true := by
  rw [taken hz, List.all_append, ha]; simp [h]

set_option maxHeartbeats 400000 in
theorem wo_l01Base (base : Int) (w : World) :
    Calls Tryd.prog 37 #[.int .i64 base] w fun e w' => e = .returned (.bool (inB base 2 36)) ∧ w = w' := by
  go_enter Tryd.func37, Tryd.ntmps37
  go_wp2_with (go_at_call 45; (with_reducible refine (l00In_any _ _ _ _).mono ?_); rintro e w' ⟨rfl, rfl⟩)
  go_ret
  exact ⟨rfl, rfl⟩
set_option maxHeartbeats 400000 in
theorem wo_isBase (base : Int) (w : World) :
    Calls Tryd.prog 27 #[.int .i64 base] w fun e w' => e = .returned (.bool (inB base 2 36)) ∧ w = w' := by
  go_enter Tryd.func27, Tryd.ntmps27
  go_wp2_with (go_at_call 28; (with_reducible refine (within_any _ _ _ _).mono ?_); rintro e w' ⟨rfl, rfl⟩)
  go_ret
  exact ⟨rfl, rfl⟩

set_option maxHeartbeats 400000 in
theorem l01Below_any {B : Nat} (A : Option Addr) (n c : Nat) (base : Int) (zs : List Int) (w : World) (h : RowB .i64 B w A n zs) (h1 : -1000000 ≤ base) (h2 : base ≤ 1000000) :
    Calls Tryd.prog 38 #[.slice A n c, .int .i64 base] w fun e w' => e = .returned (.bool (zs.all (inBase base))) ∧ w = w' := by
  have hle := h.le
  go_enter Tryd.func38, Tryd.ntmps38
  go_wp2
  go_loop [5] (fun i => ∃ k : Nat, k ≤ n ∧ i = .int .i64 k ∧ Hid ((zs.take k).all (inBase base) = true)) (fun i => n - (intOf i).toNat)
  case atStart => exact ⟨0, by omega, rfl, Lib.hid rfl⟩
  case round =>
    obtain ⟨k, hk, rfl, ha⟩ := hrel
    by_cases hlt : k < n
    · obtain ⟨b, o, z, rfl, _, hz, hc, _⟩ := h.at_ hlt
      rcases hi : inBase base z with _ | _
      · have HB : Hid (zs.all (inBase base) = false) := Lib.hid (by
          rw [List.all_eq_false]; exact ⟨z, List.mem_of_getElem? hz, by simp [hi]⟩)
        unfold inBase at hi
        clear hz
        go_wp2_with (go_at_call 45; (with_reducible refine (l00In_any _ _ _ _).mono ?_); rintro e w' ⟨rfl, rfl⟩)
        go_ret
        exact ⟨ret_bool HB.out.symm, rfl⟩
      · have HA : Hid ((zs.take (k + 1)).all (inBase base) = true) := Lib.hid (all_next hz ha.out hi)
        unfold inBase at hi
        clear hz
        go_wp2_with (go_at_call 45; (with_reducible refine (l00In_any _ _ _ _).mono ?_); rintro e w' ⟨rfl, rfl⟩)
        go_round
        case rel => exact ⟨k + 1, by omega, by go_num, HA⟩
        case measure => simp [intOf]; omega
    · obtain rfl : k = n := by omega
      go_wp2
      go_ret
      exact ⟨ret_bool (by have := ha.out; rw [List.take_of_length_le (by have := h.len; omega)] at this; exact this.symm), rfl⟩

theorem byteV_snoc (ds : List UInt8) (z : Nat) (hz : z < 36) : byteV (ds ++ [symB (z : Int)]) = byteV ds ++ [.int .u8 (symN z)] := by
  simp [byteV, symB_toNat hz]
theorem cells_one (w : World) (x : Value) (t : TypeId) : ∀ j u, [x][j]? = some u → (w.alloc (.cells #[x] t)).cell? ((⟨w.heap.size, 0, none⟩ : Addr).add j) = some u := by
  intro j u hj
  match j, hj with
  | 0, hj => simp at hj; subst hj; simp [Addr.add]
  | j + 1, hj => simp at hj

set_option maxRecDepth 100000 in
set_option maxHeartbeats 1000000 in
theorem l01From_any {B : Nat} (A : Option Addr) (n c : Nat) (zs : List Int) (w : World) (h : RowB .i64 B w A n zs) (hB : B ≤ w.heap.size) (hn : n ≤ 1048576) (hd : ∀ z ∈ zs, 0 ≤ z ∧ z ≤ 35) :
    Calls Tryd.prog 39 #[.slice A n c] w fun e w' => e = .returned (.string ⟨(zs.map symB).toArray⟩) ∧ Below w.heap.size w w' := by
  obtain ⟨i0, hi, hz0, hz1, hz2⟩ := info_parts info8
  have hle := h.le
  go_enter Tryd.func39, Tryd.ntmps39
  go_wp2
  go_loopw [3, 4] (fun v i wr => ∃ (k g cp : Nat), k ≤ n ∧ i = .int .i64 k ∧ v = .slice (some ⟨g, 0, none⟩) k cp ∧ wr.ownsRow w.heap.size 5 1 (.slice (some ⟨g, 0, none⟩) k cp) k (byteV ((zs.take k).map symB)) ∧ Below w.heap.size w wr) (fun _ i _ => n - (intOf i).toNat)
  case atStart => exact ⟨0, w.heap.size, 0, by omega, rfl, rfl, World.ownsRow_made _ _ _ (Nat.le_refl _) (by unfold maxLen; omega) rfl, (Below.refl _ _).alloc (Nat.le_refl _) _⟩
  case round =>
    obtain ⟨k, g, cp, hk, rfl, rfl, ho, hb⟩ := hrel
    have hbs := hb.size
    by_cases hlt : k < n
    · obtain ⟨b, o, z, rfl, _, hz, hc, _⟩ := (h.below (hb.mono hB)).at_ hlt
      have hzb := hd z (List.mem_of_getElem? hz)
      obtain ⟨d, rfl⟩ := Int.eq_ofNat_of_zero_le hzb.1
      have HT : Hid (byteV ((zs.take (k + 1)).map symB) = byteV ((zs.take k).map symB) ++ [.int .u8 (symN d)]) := Lib.hid (by
        rw [taken hz, List.map_append]; exact byteV_snoc _ d (by omega))
      obtain ⟨bv, hbv⟩ : ∃ bv, bv = byteV ((zs.take k).map symB) := ⟨_, rfl⟩
      rw [← hbv] at HT ho
      have hl1 : bv.length = k * 1 := ho.1
      have hd36 : d < 36 := by omega
      clear hz hbv hl1
      go_wp2_with (first | (go_at_call 48; (with_reducible refine (l01Symbol_any _ _ hd36).mono ?_); rintro e w' ⟨rfl, rfl⟩) | (at_builtin; refine wpList_append_own _ rfl _ _ 22 rfl w.heap.size 5 i0 (.int .u8 0) 1 1 Tryd.underlying22 hi hz0 hz1 hz2 rfl (by decide) _ _ _ rfl (ho.alloc _) ⟨wr.heap.size, 0, none⟩ 1 1 [.int .u8 (symN d)] rfl rfl (cells_one _ _ _) (fun u hu => by simp at hu; subst hu; rfl) ?c1 ?c2 ?c3 ?_))
      case c1 => unfold maxLen; omega
      case c2 => omega
      case c3 => simp; omega
      intro v3 w3 ho3 hg3 hnil
      have hv : ∃ g' c', v3 = .slice (some ⟨g', 0, none⟩) (k + 1) c' := by
        rcases ho3.2 with ⟨hv, h0⟩ | ⟨g', cap, cur, hv, _⟩
        · omega
        · exact ⟨_, _, hv⟩
      obtain ⟨g', c', rfl⟩ := hv
      rw [← HT.out] at ho3
      have hb3 : Below w.heap.size w w3 := Below.grown (hb.alloc hbs _) hg3 (by simp; omega) (fun j hj => (ho.lt j hj).1)
      have X : Hid (w3.ownsRow w.heap.size 5 1 (.slice (some ⟨g', 0, none⟩) (k + 1) c') (k + 1) (byteV ((zs.take (k + 1)).map symB)) ∧ Below w.heap.size w w3) := Lib.hid ⟨ho3, hb3⟩
      clear ho3 hb3 hg3 hnil
      go_wp2
      go_roundw
      case rel => exact ⟨k + 1, g', c', by omega, by go_num, rfl, X.out.1, X.out.2⟩
      case measure => simp [intOf]; omega
    · obtain rfl : k = n := by omega
      have hl := h.len
      rw [List.take_of_length_le (by omega)] at ho
      have hcv := convert_own (zs.map symB) (by simpa using hl) ho
      go_wp2
      go_ret
      exact ⟨rfl, hb⟩

theorem syms_byte : ∀ d : Nat, (h : d < 36) → (({ data := #[48, 49, 50, 51, 52, 53, 54, 55, 56, 57, 65, 66, 67, 68, 69, 70, 71, 72, 73, 74, 75, 76, 77, 78, 79, 80, 81, 82, 83, 84, 85, 86, 87, 88, 89, 90] } : ByteArray)[d]'h).toNat = symN d := by decide
theorem wo_digits {zs : List Int} {base : Int} (hb : inB base 2 36 = true) (ha : zs.all (inBase base) = true) : ∀ z ∈ zs, 0 ≤ z ∧ z ≤ 35 := by
  intro z hz
  have h1 := inB_true.1 hb
  have h2 := inB_true.1 (List.all_eq_true.1 ha z hz)
  omega
theorem wo_none {zs : List Int} {base : Int} (h : woOk zs base = false) : Ending.returned (.tuple #[.string ⟨#[]⟩, .bool false]) = twoS (woR zs base) (woOk zs base) := by simp [woR, h]
theorem wo_some {zs : List Int} {base : Int} (h : woOk zs base = true) : Ending.returned (.tuple #[.string ⟨(zs.map symB).toArray⟩, .bool true]) = twoS (woR zs base) (woOk zs base) := by simp [woR, h]

set_option maxHeartbeats 1000000 in
theorem specWordOf_any (A : Option Addr) (n c : Nat) (base : Int) (zs : List Int) (w : World) (h : Row .i64 w A n zs) :
    Calls Tryd.prog 20 #[.slice A n c, .int .i64 base] w fun e w' => e = twoS (woR zs base) (woOk zs base) ∧ Below w.heap.size w w' := by
  have hle := h.le
  have HL := Lib.hid h.len
  rcases hbase : inB base 2 36 with _ | _
  · have HO : Hid (woOk zs base = false) := Lib.hid (by simp [woOk, hbase])
    go_enter Tryd.func20, Tryd.ntmps20
    go_wp2_with (go_at_call 37; (with_reducible refine (wo_l01Base _ _).mono ?_); rintro e w' ⟨rfl, rfl⟩)
    go_ret2
    exact ⟨wo_none HO.out, Below.refl _ _⟩
  · have hb := inB_true.1 hbase
    by_cases h20 : 20 < (n : Int)
    · have HO : Hid (woOk zs base = false) := Lib.hid (by have := HL.out; simp [woOk]; intros; omega)
      go_enter Tryd.func20, Tryd.ntmps20
      go_wp2_with (go_at_call 37; (with_reducible refine (wo_l01Base _ _).mono ?_); rintro e w' ⟨rfl, rfl⟩)
      go_ret2
      exact ⟨wo_none HO.out, Below.refl _ _⟩
    · have CB : ∀ W, RowB .i64 w.heap.size W A n zs → Calls Tryd.prog 38 #[.slice A n c, .int .i64 base] W fun e w' => e = .returned (.bool (zs.all (inBase base))) ∧ W = w' := fun W hW => l01Below_any A n c base zs W hW (by omega) (by omega)
      rcases ha : zs.all (inBase base) with _ | _
      · have HO : Hid (woOk zs base = false) := Lib.hid (by simp [woOk, ha])
        rw [ha] at CB
        clear ha
        go_enter Tryd.func20, Tryd.ntmps20
        go_wp2_with (first | (go_at_call 37; (with_reducible refine (wo_l01Base _ _).mono ?_); rintro e w' ⟨rfl, rfl⟩) | (go_at_call 38; (with_reducible refine (CB _ h).mono ?_); rintro e w' ⟨rfl, rfl⟩))
        go_ret2
        exact ⟨wo_none HO.out, Below.refl _ _⟩
      · have HO : Hid (woOk zs base = true) := Lib.hid (by have := HL.out; simp only [woOk, hbase, ha, Bool.true_and, Bool.and_true, decide_eq_true_eq]; omega)
        have hd := wo_digits hbase ha
        rw [ha] at CB
        clear ha
        go_enter Tryd.func20, Tryd.ntmps20
        go_wp2_with (first | (go_at_call 37; (with_reducible refine (wo_l01Base _ _).mono ?_); rintro e w' ⟨rfl, rfl⟩) | (go_at_call 38; (with_reducible refine (CB _ h).mono ?_); rintro e w' ⟨rfl, rfl⟩))
        (go_at_call 39; (with_reducible refine (l01From_any _ _ _ _ _ h (Nat.le_refl _) (by omega) hd).mono ?_); rintro e w1 ⟨rfl, b1⟩)
        go_wp2_with fail
        go_ret2
        exact ⟨wo_some HO.out, b1⟩

theorem snoc_bytes (l : List UInt8) (d : Nat) (h : d < 36) : Lib.byteCells l ++ [.int .u8 (symN d)] = Lib.byteCells (l ++ [symB (d : Int)]) := by
  simp [Lib.byteCells, symB_toNat h]
set_option maxRecDepth 100000 in
set_option maxHeartbeats 2000000 in
theorem implWordOf_any (A : Option Addr) (n c : Nat) (base : Int) (zs : List Int) (w : World) (h : Row .i64 w A n zs) :
    Calls Tryd.prog 9 #[.slice A n c, .int .i64 base] w fun e w' => e = twoS (woR zs base) (woOk zs base) ∧ Below w.heap.size w w' := by
  have hle := h.le
  have HL := Lib.hid h.len
  rcases hbase : inB base 2 36 with _ | _
  · have HO : Hid (woOk zs base = false) := Lib.hid (by simp [woOk, hbase])
    go_enter Tryd.func9, Tryd.ntmps9
    go_wp2_with (go_at_call 27; (with_reducible refine (wo_isBase _ _).mono ?_); rintro e w' ⟨rfl, rfl⟩)
    go_ret2
    exact ⟨wo_none HO.out, Below.refl _ _⟩
  · have hb := inB_true.1 hbase
    have HBASE := Lib.hid hbase
    by_cases h20 : 20 < (n : Int)
    · have HO : Hid (woOk zs base = false) := Lib.hid (by have := HL.out; simp [woOk]; intros; omega)
      go_enter Tryd.func9, Tryd.ntmps9
      go_wp2_with (go_at_call 27; (with_reducible refine (wo_isBase _ _).mono ?_); rintro e w' ⟨rfl, rfl⟩)
      go_ret2
      exact ⟨wo_none HO.out, Below.refl _ _⟩
    · clear hbase
      go_enter Tryd.func9, Tryd.ntmps9
      go_wp2_with (go_at_call 27; (with_reducible refine (wo_isBase _ _).mono ?_); rintro e w' ⟨rfl, rfl⟩)

      go_loopw [8, 19] (fun _ i wr => ∃ k : Nat, k ≤ n ∧ i = .int .i64 k ∧ Lib.IsBuffer 51 5 w.heap.size w.heap.size (Lib.byteCells ((zs.take k).map symB)) wr ∧ Below w.heap.size w wr ∧ Hid ((zs.take k).all (inBase base) = true)) (fun _ i _ => n - (intOf i).toNat)
      case atStart => exact ⟨0, by omega, rfl, Lib.fresh_isBuffer _ _ w, (Below.refl _ _).alloc (Nat.le_refl _) _, Lib.hid rfl⟩
      case round =>
        obtain ⟨k, hk, rfl, hbuf, hbw, ha⟩ := hrel
        have hbs := hbw.size
        by_cases hlt : k < n
        · obtain ⟨b, o, z, rfl, _, hz, hc, _⟩ := (RowB.below h hbw).at_ hlt
          rcases hi : inBase base z with _ | _
          · have HO : Hid (woOk zs base = false) := Lib.hid (wo_bad (List.mem_of_getElem? hz) hi)
            unfold inBase at hi
            clear hz
            go_wp2_with (go_at_call 28; (with_reducible refine (within_any _ _ _ _).mono ?_); rintro e w' ⟨rfl, rfl⟩)
            go_ret2
            exact ⟨wo_none HO.out, hbw⟩
          · have HA : Hid ((zs.take (k + 1)).all (inBase base) = true) := Lib.hid (all_next hz ha.out hi)
            unfold inBase at hi
            have hzb := inB_true.1 hi
            obtain ⟨d, rfl⟩ := Int.eq_ofNat_of_zero_le hzb.1
            have hd36 : d < 36 := by omega
            have HT : Hid (Lib.byteCells ((zs.take (k + 1)).map symB) = Lib.byteCells ((zs.take k).map symB) ++ [.int .u8 (symN d)]) := Lib.hid (by
              rw [taken hz, List.map_append]; exact (snoc_bytes _ d hd36).symm)
            have HS := Lib.hid (syms_byte d hd36)
            have hlen : (Lib.byteCells ((zs.take k).map symB)).length + 1 ≤ 140737488355328 := by simp [Lib.byteCells]; omega
            have HLEN := Lib.hid hlen
            clear hz hlen
            go_wp2_with (go_at_call 28; (with_reducible refine (within_any _ _ _ _).mono ?_); rintro e w' ⟨rfl, rfl⟩)
            (go_at_call 29; (with_reducible refine (Tryd.Buffer_WriteByte w.heap.size w.heap.size _ _ _ hbuf hbs (Lib.byteCells_one _) HLEN.out).mono ?_); rintro e w2 ⟨rfl, hb2, hbel⟩)
            go_wp2_with fail
            go_roundw
            case rel => exact ⟨k + 1, by omega, by go_num, by rw [HT.out, ← HS.out]; exact hb2, hbw.trans hbel, HA⟩
            case measure => simp [intOf]; omega
        · obtain rfl : k = n := by omega
          have hl := HL.out
          have HO : Hid (woOk zs base = true) := Lib.hid (by
            have h2 := ha.out
            rw [List.take_of_length_le (by omega)] at h2
            simp only [woOk, HBASE.out, h2, Bool.true_and, Bool.and_true, decide_eq_true_eq]; omega)
          rw [List.take_of_length_le (by omega)] at hbuf
          clear hl
          go_wp2_with fail
          (go_at_call 30; (with_reducible refine (Tryd.Buffer_String w.heap.size w.heap.size _ _ hbuf).mono ?_); rintro e w' ⟨rfl, m, rfl⟩)
          go_wp2_with fail
          go_ret2
          exact ⟨wo_some HO.out, below_drewN hbw m⟩
end Go.Proofs.YtlgoopjbjamlmaaDoor
