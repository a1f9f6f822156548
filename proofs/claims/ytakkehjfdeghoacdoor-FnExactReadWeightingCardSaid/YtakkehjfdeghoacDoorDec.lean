/-
  Contracts of Decimal, of the program and of the model: both return the numeral.
-/
import Derived.Test.YtakkehjfdeghoacDoorBasic
import Derived.Test.YtakkehjfdeghoacDoorShelf
import Derived.OwnWalk
import Derived.WalkSmall
import Derived.Lib.ItoaNum
namespace Go.Proofs.YtakkehjfdeghoacDoor
open Go.RowKit

theorem info8 : (Tryd.prog.info? 5).map (fun i => (i.zero, i.size, i.bytes)) = some (some (.int .u8 0), 1, 1) := by kernel_rfl
def byteV (ds : List UInt8) : List Value := ds.map fun c => Value.int .u8 (c.toNat : Int)
theorem byteV_len (ds : List UInt8) : (byteV ds).length = ds.length := by simp [byteV]

theorem push_all : ∀ (l : List UInt8) (a : ByteArray), (l.map fun c => (c.toNat : Int)).foldl (fun r n => r.push (UInt8.ofNat n.toNat)) a = ⟨a.data ++ l.toArray⟩
  | [], a => by simp
  | c :: l, a => by
    simp only [List.map_cons, List.foldl_cons]
    rw [push_all l]
    have e : UInt8.ofNat ((c.toNat : Int)).toNat = c := by simp
    rw [e]
    congr 1
    show a.data.push c ++ l.toArray = _
    simp
/-- The bytes of a row of the call's own, made into a text. -/
theorem convert_own {w : World} {B g n c : Nat} (ds : List UInt8) (hn : ds.length = n) (h : w.ownsRow B 5 1 (.slice (some ⟨g, 0, none⟩) n c) n (byteV ds)) :
    (convert 59 9 (.slice (some ⟨g, 0, none⟩) n c)).run Tryd.prog w = .ok (.string ⟨ds.toArray⟩) w := by
  have hl : ((ds.map fun c => (c.toNat : Int)).map (Value.int .u8)).length = n := by simp [hn]
  rw [run_convert_bytes_string w 59 9 5 (some ⟨g, 0, none⟩) n c Tryd.underlying59 Tryd.underlying5 Tryd.underlying9]
  have hc := run_loadCells_list (P := Tryd.prog) w ⟨g, 0, none⟩ ((ds.map fun c => (c.toNat : Int)).map (Value.int .u8)) (by
    intro j v hj
    refine h.cells rfl j v ?_
    simpa [byteV, Function.comp_def] using hj)
  rw [hl] at hc
  have h2 := run_bytesToString (P := Tryd.prog) w ⟨g, 0, none⟩ n c (ds.map fun c => (c.toNat : Int)) hc
  rw [h2, push_all]
  have e : ByteArray.empty.data ++ ds.toArray = ds.toArray := Array.empty_append
  rw [e]

theorem dec_step {m q : Nat} {ds : List UInt8} (h : Lib.decDigits m = Lib.decDigits q ++ ds) :
    (q / 10 = 0 ∧ Lib.decDigits m = UInt8.ofNat (48 + q % 10) :: ds) ∨ (q / 10 ≠ 0 ∧ Lib.decDigits m = Lib.decDigits (q / 10) ++ (UInt8.ofNat (48 + q % 10) :: ds)) := by
  by_cases hq : q < 10
  · left
    refine ⟨by omega, ?_⟩
    rw [h, Lib.decDigits, dif_pos hq, show q % 10 = q by omega]; rfl
  · right
    refine ⟨by omega, ?_⟩
    rw [h, Lib.decDigits.eq_def q, dif_neg hq]; simp
/-- What is left of the numeral, and what has been laid of it. -/
def DecRel (m q : Nat) (ds : List UInt8) : Prop := (q = 0 ∧ ds ≠ [] ∧ Lib.decDigits m = ds) ∨ ((q ≠ 0 ∨ ds = []) ∧ Lib.decDigits m = Lib.decDigits q ++ ds)
theorem DecRel.next {m q : Nat} {ds : List UInt8} (h : DecRel m q ds) (hq : q ≠ 0 ∨ ds = []) : DecRel m (q / 10) (UInt8.ofNat (48 + q % 10) :: ds) := by
  have h2 : Lib.decDigits m = Lib.decDigits q ++ ds := by
    rcases h with ⟨h0, hne, _⟩ | ⟨_, h2⟩
    · rcases hq with hq | hq
      · exact absurd h0 hq
      · exact absurd hq hne
    · exact h2
  rcases dec_step h2 with ⟨h0, h3⟩ | ⟨h0, h3⟩
  · exact .inl ⟨h0, by simp, h3⟩
  · exact .inr ⟨.inl h0, h3⟩
theorem DecRel.last {m q : Nat} {ds : List UInt8} (h : DecRel m q ds) (hq : ¬ (q ≠ 0 ∨ ds = [])) : Lib.decDigits m = ds := by
  rcases h with ⟨_, _, h⟩ | ⟨h, _⟩
  · exact h
  · exact absurd h hq

theorem dec_len : ∀ (k u : Nat), u < 10 ^ (k + 1) → (Lib.decDigits u).length ≤ k + 1
  | 0, u, h => by rw [Lib.decDigits, dif_pos (by simpa using h)]; simp
  | k + 1, u, h => by
    by_cases hu : u < 10
    · rw [Lib.decDigits, dif_pos hu]; simp
    · rw [Lib.decDigits, dif_neg hu]
      have := dec_len k (u / 10) (by rw [Nat.pow_succ] at h; omega)
      simp; omega
theorem DecRel.len {m q : Nat} {ds : List UInt8} (h : DecRel m q ds) (hm : m < 10 ^ 19) : ds.length ≤ 19 := by
  have h1 := dec_len 18 m hm
  rcases h with ⟨_, _, h⟩ | ⟨_, h⟩
  · rw [h] at h1; exact h1
  · rw [h] at h1; simp at h1; omega
def emptyOf : Value → Nat
  | .slice _ n _ => if n = 0 then 1 else 0
  | _ => 0
theorem byteV_digit (q : Nat) (ds : List UInt8) : byteV (UInt8.ofNat (48 + q % 10) :: ds) = .int .u8 (48 + (q : Int) % 10) :: byteV ds := by
  have e : (UInt8.ofNat (48 + q % 10)).toNat = 48 + q % 10 := by simp; omega
  simp only [byteV, List.map_cons, e]
  congr 1
theorem byteV_one (ds : List UInt8) : ∀ u ∈ byteV ds, u.oneCell' = true := by
  intro u hu
  simp only [byteV, List.mem_map] at hu
  obtain ⟨c, _, rfl⟩ := hu
  rfl

theorem dec_own {w3 : World} {B q k : Nat} {v' : Value} {ds : List UInt8} (hk : ds.length = k) (h : w3.ownsRow B 5 1 v' (1 + k) ([.int .u8 (48 + (q : Int) % 10)] ++ byteV ds)) :
    ∃ g' c', v' = .slice (some ⟨g', 0, none⟩) (UInt8.ofNat (48 + q % 10) :: ds).length c' ∧ w3.ownsRow B 5 1 (.slice (some ⟨g', 0, none⟩) (UInt8.ofNat (48 + q % 10) :: ds).length c') (UInt8.ofNat (48 + q % 10) :: ds).length (byteV (UInt8.ofNat (48 + q % 10) :: ds)) := by
  have hl : (UInt8.ofNat (48 + q % 10) :: ds).length = 1 + k := by simp; omega
  rw [hl, byteV_digit]
  rcases h.2 with ⟨_, h0⟩ | ⟨g', cap, cur, hv, rest⟩
  · omega
  · refine ⟨g', cap, hv, h.1, .inr ⟨g', cap, cur, rfl, rest⟩⟩
theorem ret_string {a b : ByteArray} (h : a = b) : Ending.returned (.string a) = .returned (.string b) := by rw [h]
theorem itoa_pos (m : Nat) : Lib.itoa (m : Int) = Lib.decDigits m := by
  unfold Lib.itoa; rw [if_neg (by omega)]; simp
theorem itoa_neg (m : Nat) (h : 1 ≤ m) : Lib.itoa (-(m : Int)) = 45 :: Lib.decDigits m := by
  unfold Lib.itoa; rw [if_pos (by omega)]; simp

set_option maxRecDepth 100000 in
set_option maxHeartbeats 1000000 in
theorem l01Dec_pos (m : Nat) (w : World) (hm : m ≤ 9223372036854775807) :
    Calls Tryd.prog 32 #[.int .i64 m] w fun e w' => e = .returned (.string ⟨(Lib.itoa m).toArray⟩) ∧ Below w.heap.size w w' := by
  obtain ⟨i0, hi, hz0, hz1, hz2⟩ := info_parts info8
  have hm19 : Hid (m < 10 ^ 19) := Lib.hid (by omega)
  go_enter Tryd.func32, Tryd.ntmps32
  go_wp2
  go_loopw [3, 4, 5] (fun v r _ wr => ∃ (q g c : Nat) (ds : List UInt8), q ≤ 9223372036854775807 ∧ r = .int .i64 q ∧ v = .slice (some ⟨g, 0, none⟩) ds.length c ∧ Hid (DecRel m q ds) ∧ wr.ownsRow w.heap.size 5 1 (.slice (some ⟨g, 0, none⟩) ds.length c) ds.length (byteV ds) ∧ Below w.heap.size w wr) (fun v r _ _ => (intOf r).toNat + emptyOf v)
  case atStart => exact ⟨m, w.heap.size, 0, [], hm, rfl, rfl, Lib.hid (.inr ⟨.inr rfl, by simp⟩), World.ownsRow_made _ _ _ (Nat.le_refl _) (by unfold maxLen; omega) rfl, (Below.refl _ _).alloc (Nat.le_refl _) _⟩
  case round =>
    obtain ⟨q, g, c, ds, hq9, rfl, rfl, hd, ho, hb⟩ := hrel
    have hlen := hd.out.len hm19.out
    have hbs := hb.size
    by_cases hq : q ≠ 0 ∨ ds = []
    · have HN : Hid (DecRel m (q / 10) (UInt8.ofNat (48 + q % 10) :: ds)) := Lib.hid (hd.out.next hq)
      have HM : Hid (q / 10 < q + emptyOf (.slice (some ⟨g, 0, none⟩) ds.length c)) := Lib.hid (by
        rcases hq with h | h
        · omega
        · subst h; simp [emptyOf]; omega)
      have hcells : ∀ (o : Obj) j u, (byteV ds)[j]? = some u → (wr.alloc o).cell? ((⟨g, 0, none⟩ : Addr).add j) = some u := fun o => (ho.alloc o).cells rfl
      have hlit : (wr.alloc (.cells #[.int .u8 (48 + (q : Int) % 10)] 5)).ownsRow w.heap.size 5 1 (.slice (some ⟨wr.heap.size, 0, none⟩) 1 1) 1 [.int .u8 (48 + (q : Int) % 10)] := World.ownsRow_lit wr #[.int .u8 (48 + (q : Int) % 10)] 1 hbs (by unfold maxLen; omega) rfl
      have hc8 := hcells (.cells #[.int .u8 (48 + (q : Int) % 10)] 5)
      have hbl := byteV_len ds
      have hbl1 : (byteV ds).length = ds.length * 1 := by omega
      have hone := byteV_one ds
      have HBL := Lib.hid hbl1
      clear hbl hbl1 hcells
      have t1 : q ≠ 0 → ((q : Int) == 0) = false := fun h => by simp; omega
      have t2 : q ≠ 0 → ((q : Int) != 0) = true := fun h => by simp; omega
      by_cases hq0 : q = 0
      · have hds : ds = [] := hq.resolve_left (fun h => h hq0)
        subst hq0
        subst hds
        clear hq t1 t2
        go_wp2_with (at_builtin; refine wpList_append_own _ rfl _ _ 59 rfl w.heap.size 5 i0 (.int .u8 0) 1 1 Tryd.underlying59 hi hz0 hz1 hz2 rfl (by decide) _ _ _ rfl hlit ⟨g, 0, none⟩ 0 c (byteV []) rfl HBL.out hc8 hone ?c1 ?c2 ?c3 ?_)
        case c1 => unfold maxLen; omega
        case c2 => omega
        case c3 => simp; omega
        intro v3 w3 ho3 hg3 _
        obtain ⟨g', c', hv3, ho4⟩ := dec_own (q := 0) (ds := []) (k := 0) rfl (by simpa using ho3)
        have hb3 : Below w.heap.size w w3 := Below.grown (hb.alloc hbs _) hg3 (by simp; omega) (fun j hj => by simp [Value.ownBlock] at hj; omega)
        have X : Hid (w3.ownsRow w.heap.size 5 1 (.slice (some ⟨g', 0, none⟩) (UInt8.ofNat (48 + 0 % 10) :: []).length c') (UInt8.ofNat (48 + 0 % 10) :: []).length (byteV (UInt8.ofNat (48 + 0 % 10) :: [])) ∧ Below w.heap.size w w3) := Lib.hid ⟨ho4, hb3⟩
        subst hv3
        clear ho3 ho4 hg3 hb3
        go_wp2
        go_roundw
        case rel => exact ⟨0 / 10, g', c', _, by omega, by simp, rfl, HN, X.out.1, X.out.2⟩
        case measure => simp [emptyOf, intOf]
      · have t1 := t1 hq0
        have t2 := t2 hq0
        clear hq
        go_wp2_with (at_builtin; refine wpList_append_own _ rfl _ _ 59 rfl w.heap.size 5 i0 (.int .u8 0) 1 1 Tryd.underlying59 hi hz0 hz1 hz2 rfl (by decide) _ _ _ rfl hlit ⟨g, 0, none⟩ ds.length c (byteV ds) rfl HBL.out hc8 hone ?c1 ?c2 ?c3 ?_)
        case c1 => unfold maxLen; omega
        case c2 => omega
        case c3 => simp; omega
        intro v3 w3 ho3 hg3 _
        obtain ⟨g', c', hv3, ho4⟩ := dec_own rfl ho3
        have hb3 : Below w.heap.size w w3 := Below.grown (hb.alloc hbs _) hg3 (by simp; omega) (fun j hj => by simp [Value.ownBlock] at hj; omega)
        have X : Hid (w3.ownsRow w.heap.size 5 1 (.slice (some ⟨g', 0, none⟩) (UInt8.ofNat (48 + q % 10) :: ds).length c') (UInt8.ofNat (48 + q % 10) :: ds).length (byteV (UInt8.ofNat (48 + q % 10) :: ds)) ∧ Below w.heap.size w w3) := Lib.hid ⟨ho4, hb3⟩
        subst hv3
        clear ho3 ho4 hg3 hb3
        go_wp2
        go_roundw
        case rel => exact ⟨q / 10, g', c', _, by omega, by go_num, rfl, HN, X.out.1, X.out.2⟩
        case measure => have := HM.out; simp only [emptyOf, intOf] at this ⊢; simp at this ⊢; omega
    · have hq0 : q = 0 := by
        rcases Nat.eq_zero_or_pos q with h | h
        · exact h
        · exact absurd (.inl (by omega)) hq
      have hne : ds ≠ [] := fun h => hq (.inr h)
      have HE : Hid (Lib.decDigits m = ds) := Lib.hid (hd.out.last hq)
      have hpos : 0 < ds.length := List.length_pos_iff.2 hne
      have t3 : (ds.length == 0) = false := by simp; exact hne
      have t4 : ((ds.length : Int) == 0) = false := by simp; exact hne
      have hcv := convert_own ds rfl ho
      clear hq hne
      subst hq0
      go_wp2
      go_ret
      exact ⟨ret_string (by rw [itoa_pos, HE.out]), hb⟩

def lit8 (z : Int) : List Value := [.int .u8 (48 + z)]
theorem dec_own2 {w3 : World} {B q k : Nat} {z : Int} {v' : Value} {ds : List UInt8} (hz : z = ((q % 10 : Nat) : Int)) (hk : ds.length = k) (h : w3.ownsRow B 5 1 v' (1 + k) ([.int .u8 (48 + z)] ++ byteV ds)) :
    ∃ g' c', v' = .slice (some ⟨g', 0, none⟩) (UInt8.ofNat (48 + q % 10) :: ds).length c' ∧ w3.ownsRow B 5 1 (.slice (some ⟨g', 0, none⟩) (UInt8.ofNat (48 + q % 10) :: ds).length c') (UInt8.ofNat (48 + q % 10) :: ds).length (byteV (UInt8.ofNat (48 + q % 10) :: ds)) := by
  refine dec_own hk ?_
  have e : (48 + (q : Int) % 10) = 48 + z := by omega
  rw [e]; exact h

set_option maxRecDepth 100000 in
set_option maxHeartbeats 1000000 in
theorem l01Dec_neg (m : Nat) (w : World) (hm1 : 1 ≤ m) (hm : m ≤ 9223372036854775808) :
    Calls Tryd.prog 32 #[.int .i64 (-(m : Int))] w fun e w' => e = .returned (.string ⟨(Lib.itoa (-(m : Int))).toArray⟩) ∧ Below w.heap.size w w' := by
  obtain ⟨i0, hi, hz0, hz1, hz2⟩ := info_parts info8
  have hm19 : Hid (m < 10 ^ 19) := Lib.hid (by omega)
  go_enter Tryd.func32, Tryd.ntmps32
  go_wp2
  go_loopw [3, 4, 5] (fun v r _ wr => ∃ (q g c : Nat) (ds : List UInt8), q ≤ 9223372036854775808 ∧ r = .int .i64 (-(q : Int)) ∧ v = .slice (some ⟨g, 0, none⟩) ds.length c ∧ Hid (DecRel m q ds ∧ (q ≠ 0 ∨ ds ≠ [])) ∧ wr.ownsRow w.heap.size 5 1 (.slice (some ⟨g, 0, none⟩) ds.length c) ds.length (byteV ds) ∧ Below w.heap.size w wr) (fun _ r _ _ => (-(intOf r)).toNat)
  case atStart => exact ⟨m, w.heap.size, 0, [], hm, rfl, rfl, Lib.hid ⟨.inr ⟨.inr rfl, by simp⟩, .inl (by omega)⟩, World.ownsRow_made _ _ _ (Nat.le_refl _) (by unfold maxLen; omega) rfl, (Below.refl _ _).alloc (Nat.le_refl _) _⟩
  case round =>
    obtain ⟨q, g, c, ds, hq9, rfl, rfl, hd, ho, hb⟩ := hrel
    have hlen := hd.out.1.len hm19.out
    have hbs := hb.size
    by_cases hq : q = 0
    · have hne : ds ≠ [] := hd.out.2.resolve_left (fun h => h hq)
      have HE : Hid (Lib.decDigits m = ds) := Lib.hid (hd.out.1.last (by rintro (h | h); exact h hq; exact hne h))
      have hpos : 0 < ds.length := List.length_pos_iff.2 hne
      have t3 : (ds.length == 0) = false := by simp; exact hne
      have t4 : ((ds.length : Int) == 0) = false := by simp; exact hne
      have hcv := convert_own ds rfl ho
      clear hne
      subst hq
      go_wp2
      go_ret
      exact ⟨ret_string (by rw [itoa_neg m hm1, HE.out]; rfl), hb⟩
    · have HN : Hid (DecRel m (q / 10) (UInt8.ofNat (48 + q % 10) :: ds)) := Lib.hid (hd.out.1.next (.inl hq))
      have hbl1 : (byteV ds).length = ds.length * 1 := by have := byteV_len ds; omega
      have hone := byteV_one ds
      have HBL := Lib.hid hbl1
      have t1 : (-(q : Int) == 0) = false := by simp; omega
      have t2 : (-(q : Int) != 0) = true := by simp; omega
      have td : (-(q : Int)).tdiv 10 = -((q / 10 : Nat) : Int) := by rw [Int.neg_tdiv]; rfl
      have hqb : q / 10 < q := by omega
      obtain ⟨z, hz⟩ : ∃ z, z = q % 10 := ⟨_, rfl⟩
      have hz9 : z ≤ 9 := by omega
      have HZ : Hid (((z : Nat) : Int) = ((q % 10 : Nat) : Int)) := Lib.hid (by rw [hz])
      have tm : (-(q : Int)).tmod 10 = -(z : Int) := by rw [Int.neg_tmod, hz]; rfl
      obtain ⟨y, hy⟩ : ∃ y, y = q / 10 := ⟨_, rfl⟩
      have HY := Lib.hid hy
      rw [← hy] at td hqb
      clear hz hbl1 hy
      by_cases hz0 : z = 0
      · have tm0 : (-(q : Int)).tmod 10 = 0 := by rw [tm, hz0]; rfl
        have hlit : (wr.alloc (.cells #[.int .u8 48] 5)).ownsRow w.heap.size 5 1 (.slice (some ⟨wr.heap.size, 0, none⟩) 1 1) 1 [.int .u8 48] := World.ownsRow_lit wr #[.int .u8 48] 1 hbs (by unfold maxLen; omega) rfl
        have hc8 : ∀ j u, (byteV ds)[j]? = some u → (wr.alloc (.cells #[.int .u8 48] 5)).cell? ((⟨g, 0, none⟩ : Addr).add j) = some u := (ho.alloc _).cells rfl
        have HZ2 : Hid ((0 : Int) = ((q % 10 : Nat) : Int)) := Lib.hid (by rw [← HZ.out, hz0]; rfl)
        clear tm hz0
        go_wp2_with (at_builtin; refine wpList_append_own _ rfl _ _ 59 rfl w.heap.size 5 i0 (.int .u8 0) 1 1 Tryd.underlying59 hi hz0 hz1 hz2 rfl (by decide) _ _ _ rfl hlit ⟨g, 0, none⟩ ds.length c (byteV ds) rfl HBL.out hc8 hone ?c1 ?c2 ?c3 ?_)
        case c1 => unfold maxLen; omega
        case c2 => omega
        case c3 => simp; omega
        intro v3 w3 ho3 hg3 _
        obtain ⟨g', c', hv3, ho4⟩ := dec_own2 (z := 0) HZ2.out rfl (by simpa using ho3)
        have hb3 : Below w.heap.size w w3 := Below.grown (hb.alloc hbs _) hg3 (by simp; omega) (fun j hj => by simp [Value.ownBlock] at hj; omega)
        have X : Hid (w3.ownsRow w.heap.size 5 1 (.slice (some ⟨g', 0, none⟩) (UInt8.ofNat (48 + q % 10) :: ds).length c') (UInt8.ofNat (48 + q % 10) :: ds).length (byteV (UInt8.ofNat (48 + q % 10) :: ds)) ∧ Below w.heap.size w w3) := Lib.hid ⟨ho4, hb3⟩
        subst hv3
        clear ho3 ho4 hg3 hb3
        go_wp2
        go_roundw
        case rel => exact ⟨y, g', c', _, by omega, rfl, rfl, Lib.hid ⟨by rw [HY.out]; exact HN.out, .inr (by simp)⟩, X.out.1, X.out.2⟩
        case measure => simp [intOf]; omega
      · have hz1' : 1 ≤ z := by omega
        have hlit : (wr.alloc (.cells #[.int .u8 (48 + (z : Int))] 5)).ownsRow w.heap.size 5 1 (.slice (some ⟨wr.heap.size, 0, none⟩) 1 1) 1 [.int .u8 (48 + (z : Int))] := World.ownsRow_lit wr #[.int .u8 (48 + (z : Int))] 1 hbs (by unfold maxLen; omega) rfl
        have hc8 : ∀ j u, (byteV ds)[j]? = some u → (wr.alloc (.cells #[.int .u8 (48 + (z : Int))] 5)).cell? ((⟨g, 0, none⟩ : Addr).add j) = some u := (ho.alloc _).cells rfl
        clear hz0
        go_wp2_with (at_builtin; refine wpList_append_own _ rfl _ _ 59 rfl w.heap.size 5 i0 (.int .u8 0) 1 1 Tryd.underlying59 hi hz0 hz1 hz2 rfl (by decide) _ _ _ rfl hlit ⟨g, 0, none⟩ ds.length c (byteV ds) rfl HBL.out hc8 hone ?c1 ?c2 ?c3 ?_)
        case c1 => unfold maxLen; omega
        case c2 => omega
        case c3 => simp; omega
        intro v3 w3 ho3 hg3 _
        obtain ⟨g', c', hv3, ho4⟩ := dec_own2 (z := (z : Int)) HZ.out rfl ho3
        have hb3 : Below w.heap.size w w3 := Below.grown (hb.alloc hbs _) hg3 (by simp; omega) (fun j hj => by simp [Value.ownBlock] at hj; omega)
        have X : Hid (w3.ownsRow w.heap.size 5 1 (.slice (some ⟨g', 0, none⟩) (UInt8.ofNat (48 + q % 10) :: ds).length c') (UInt8.ofNat (48 + q % 10) :: ds).length (byteV (UInt8.ofNat (48 + q % 10) :: ds)) ∧ Below w.heap.size w w3) := Lib.hid ⟨ho4, hb3⟩
        subst hv3
        clear ho3 ho4 hg3 hb3
        go_wp2
        go_roundw
        case rel => exact ⟨y, g', c', _, by omega, rfl, rfl, Lib.hid ⟨by rw [HY.out]; exact HN.out, .inr (by simp)⟩, X.out.1, X.out.2⟩
        case measure => simp [intOf]; omega
end Go.Proofs.YtakkehjfdeghoacDoor
