/-
  Contracts of ListText, of the program and of the model: both return the same text.
-/
import Derived.Test.YtakkehjfdeghoacDoorLDec
import Derived.Test.YtakkehjfdeghoacDoorOwn
import Derived.Test.YtakkehjfdeghoacDoorParse
namespace Go.Proofs.YtakkehjfdeghoacDoor
open Go.RowKit

def inVal (z : Int) : Bool := inB z (-1000000000000000) 1000000000000000
def txtStep (acc : List UInt8) (z : Int) : List UInt8 := (if acc = [] then [] else acc ++ [32]) ++ Lib.itoa z
def txt (zs : List Int) : List UInt8 := zs.foldl txtStep []
theorem itoa_ne (z : Int) : Lib.itoa z ≠ [] := by
  unfold Lib.itoa
  split
  · simp
  · exact decDigits_ne _
theorem txt_snoc (zs : List Int) (z : Int) : txt (zs ++ [z]) = txtStep (txt zs) z := by simp [txt]
theorem txt_ne : ∀ (zs : List Int), zs ≠ [] → txt zs ≠ [] := by
  intro zs h
  rw [← List.dropLast_concat_getLast h, txt_snoc]
  unfold txtStep
  simp [itoa_ne]
theorem txt_next {zs : List Int} {k : Nat} {z : Int} (h : zs[k]? = some z) (hk : 0 < k) : txt (zs.take (k + 1)) = txt (zs.take k) ++ [32] ++ Lib.itoa z := by
  have hl : k < zs.length := (List.getElem?_eq_some_iff.1 h).1
  have e : zs.take (k + 1) = zs.take k ++ [z] := by rw [List.take_add_one, h]; rfl
  have hne : txt (zs.take k) ≠ [] := txt_ne _ (by intro he; have := congrArg List.length he; rw [List.length_take, Nat.min_eq_left (by omega)] at this; simp at this; omega)
  rw [e, txt_snoc, txtStep, if_neg hne]
theorem txt_first {zs : List Int} {z : Int} (h : zs[0]? = some z) : txt (zs.take 1) = Lib.itoa z := by
  have e : zs.take 1 = [z] := by rw [show 1 = 0 + 1 from rfl, List.take_add_one, h]; rfl
  rw [e]; simp [txt, txtStep]
theorem txt_len {zs : List Int} (h : zs.all inVal = true) : ∀ k, (txt (zs.take k)).length ≤ 19 * k
  | 0 => by simp [txt]
  | k + 1 => by
    have ih := txt_len h k
    rcases hz : zs[k]? with _ | z
    · have : zs.take (k + 1) = zs.take k := by rw [List.take_add_one, hz]; simp
      rw [this]; omega
    · have hb := inB_true.1 (List.all_eq_true.1 h z (List.mem_of_getElem? hz))
      have hl := itoa_len hb
      rcases Nat.eq_zero_or_pos k with rfl | hk
      · rw [txt_first hz]; omega
      · rw [txt_next hz hk]; simp; omega
def listOk (zs : List Int) : Bool := decide (zs.length ≤ 40) && zs.all inVal
def noneS : ByteArray := ⟨#[110, 111, 110, 101]⟩
def textR (zs : List Int) : ByteArray := if zs.length = 0 then noneS else ⟨(txt zs).toArray⟩
def listR (zs : List Int) : ByteArray := if listOk zs = true then textR zs else ⟨#[]⟩
abbrev twoT (s : ByteArray) (b : Bool) : Ending := .returned (.tuple #[.string s, .bool b])
theorem twoT_eq {n n' : ByteArray} {b b' : Bool} (h : n = n') (hb : b = b') : Ending.returned (.tuple #[.string n, .bool b]) = twoT n' b' := by rw [h, hb]
theorem list_bad {zs : List Int} {z : Int} (hz : z ∈ zs) (h : inVal z = false) : zs.all inVal = false := by
  rw [List.all_eq_false]; exact ⟨z, hz, by simp [h]⟩

set_option maxHeartbeats 1000000 in
theorem l01Text_any {B : Nat} (A : Option Addr) (n c : Nat) (zs : List Int) (w : World) (h : RowB .i64 B w A n zs) (hB : B ≤ w.heap.size) (ha : zs.all inVal = true) (hn : n ≤ 40) :
    Calls Tryd.prog 33 #[.slice A n c] w fun e w' => e = .returned (.string (textR zs)) ∧ Below w.heap.size w w' := by
  have HL := Lib.hid h.len
  go_enter Tryd.func33, Tryd.ntmps33
  go_wp2
  go_loopw [3, 4] (fun v i wr => ∃ (k : Nat) (u : ByteArray), k ≤ n ∧ i = .int .i64 k ∧ v = .string u ∧ Hid (u = ⟨(txt (zs.take k)).toArray⟩) ∧ u.size ≤ 800 ∧ Below w.heap.size w wr) (fun _ i _ => n - (intOf i).toNat)
  case atStart => exact ⟨0, ⟨#[]⟩, by omega, rfl, rfl, Lib.hid rfl, by simp [ByteArray.size], Below.refl _ _⟩
  case round =>
    obtain ⟨k, u, hk, rfl, rfl, hu, hsz, hb⟩ := hrel
    by_cases hlt : k < n
    · obtain ⟨b, o, z, rfl, _, hz, hc, _⟩ := (h.below (hb.mono hB)).at_ hlt
      have hzb := inB_true.1 (List.all_eq_true.1 ha z (List.mem_of_getElem? hz))
      have CD := l01Dec_any z wr (by omega) (by omega)
      have HL2 := Lib.hid (txt_len ha (k + 1))
      obtain ⟨d, hd⟩ : ∃ d : ByteArray, d = ⟨(Lib.itoa z).toArray⟩ := ⟨_, rfl⟩
      rw [← hd] at CD
      by_cases hk0 : k = 0
      · subst hk0
        have HN : Hid ((u ++ d) = ⟨(txt (zs.take (0 + 1))).toArray⟩) := Lib.hid (by
          rw [hd, hu.out, txt_first hz]; apply ByteArray.ext; simp [txt])
        have hds : (u ++ d).size ≤ 800 := by rw [HN.out]; have := HL2.out; simp [ByteArray.size] at this ⊢; omega
        have hds2 : u.size + d.size ≤ 800 := by have := hds; rw [ByteArray.size_append] at this; exact this
        simp only [Nat.add_zero] at hc
        clear hz hd
        go_wp2_with fail
        (go_at_call 32; (with_reducible refine (CD).mono ?_); rintro e w2 ⟨rfl, b2⟩)
        have b3 := hb.trans (b2.mono hb.size)
        go_wp2_with fail
        go_roundw
        case rel => exact ⟨1, u ++ d, by omega, rfl, rfl, HN, hds, b3⟩
        case measure => simp [intOf]; omega
      · have hk1 : 0 < (k : Int) := by omega
        have HN : Hid (((u ++ ⟨#[32]⟩) ++ d) = ⟨(txt (zs.take (k + 1))).toArray⟩) := Lib.hid (by
          rw [hd, hu.out, txt_next hz (by omega)]; apply ByteArray.ext; simp)
        have hds : ((u ++ ⟨#[32]⟩) ++ d).size ≤ 800 := by rw [HN.out]; have := HL2.out; simp [ByteArray.size] at this ⊢; omega
        have hds2 : (u ++ ⟨#[32]⟩).size + d.size ≤ 800 := by have := hds; rw [ByteArray.size_append] at this; exact this
        have hds3 : u.size + 1 + d.size ≤ 800 := by have := hds2; rw [ByteArray.size_append] at this; exact this
        have hds4 : u.size + 1 ≤ 800 := by omega
        clear hz hd
        go_wp2_with fail
        (go_at_call 32; (with_reducible refine (CD).mono ?_); rintro e w2 ⟨rfl, b2⟩)
        have b3 := hb.trans (b2.mono hb.size)
        go_wp2_with fail
        go_roundw
        case rel => exact ⟨k + 1, (u ++ ⟨#[32]⟩) ++ d, by omega, by go_num, rfl, HN, hds, b3⟩
        case measure => simp [intOf]; omega
    · obtain rfl : k = n := by omega
      by_cases h0 : k = 0
      · have HZ : Hid (zs.length = 0) := Lib.hid (by rw [HL.out, h0])
        subst h0
        go_wp2
        go_ret
        exact ⟨ret_string (by rw [textR, if_pos HZ.out]; rfl), hb⟩
      · have HZ : Hid (¬ zs.length = 0) := Lib.hid (by rw [HL.out]; exact h0)
        have t1 : ((k : Int) == 0) = false := by simp; omega
        have t2 : (k == 0) = false := by simp; omega
        go_wp2
        go_ret
        exact ⟨ret_string (by rw [textR, if_neg HZ.out, hu.out, List.take_of_length_le (by rw [HL.out]; exact Nat.le_refl _)]), hb⟩

theorem list_none {zs : List Int} (h : listOk zs = false) : Ending.returned (.tuple #[.string ⟨#[]⟩, .bool false]) = twoT (listR zs) (listOk zs) := by simp [listR, h]
theorem buf_below {B b : Nat} {bs : List Value} {w w' : World} (h : Lib.IsBuffer 63 5 B b bs w) (hb : Below w.heap.size w w') : Lib.IsBuffer 63 5 B b bs w' := by
  have hlt := h.lt
  obtain ⟨hB, v, lr, hbk, hown, hne⟩ := h
  refine ⟨hB, v, lr, (hb.block b hlt).trans hbk, ⟨hown.1, ?_⟩, hne⟩
  rcases hown.2 with hn | ⟨g, cap, cur, hv, hbg, hg, rest⟩
  · exact .inl hn
  · exact .inr ⟨g, cap, cur, hv, hbg, (hb.block g (Array.getElem?_eq_some_iff.1 hg).1).trans hg, rest⟩
theorem byteCells_app (l : List UInt8) (c : UInt8) (s : List UInt8) : (Lib.byteCells l ++ [.int .u8 (c.toNat : Int)]) ++ Lib.byteCells s = Lib.byteCells (l ++ [c] ++ s) := by
  simp [Lib.byteCells]
set_option maxRecDepth 100000 in
set_option maxHeartbeats 2000000 in
theorem implList_any (A : Option Addr) (n c : Nat) (zs : List Int) (w : World) (h : Row .i64 w A n zs) (hT : Tab w) :
    Calls Tryd.prog 19 #[.slice A n c] w fun e w' => e = twoT (listR zs) (listOk zs) ∧ Below w.heap.size w w' := by
  have hle := h.le
  have HL := Lib.hid h.len
  have HT := Lib.hid hT
  clear hT
  by_cases h40 : 40 < (n : Int)
  · have HO : Hid (listOk zs = false) := Lib.hid (by have := HL.out; simp [listOk]; intros; omega)
    go_enter Tryd.func19, Tryd.ntmps19
    go_wp2
    go_ret2
    exact ⟨list_none HO.out, Below.refl _ _⟩
  · by_cases h0 : n = 0
    · subst h0
      have hz : zs = [] := List.length_eq_zero_iff.1 HL.out
      subst hz
      go_enter Tryd.func19, Tryd.ntmps19
      go_wp2
      go_ret2
      exact ⟨by simp [listR, listOk, textR, noneS], Below.refl _ _⟩
    · have t1 : ((n : Int) == 0) = false := by simp; omega
      have t2 : (n == 0) = false := by simp; omega
      go_enter Tryd.func19, Tryd.ntmps19
      go_wp2
      go_loopw [5, 6, 15] (fun _ _ i wr => ∃ k : Nat, k ≤ n ∧ i = .int .i64 k ∧ Lib.IsBuffer 63 5 w.heap.size w.heap.size (Lib.byteCells (txt (zs.take k))) wr ∧ Below w.heap.size w wr ∧ Hid ((zs.take k).all inVal = true)) (fun _ _ i _ => n - (intOf i).toNat)
      case atStart => exact ⟨0, by omega, rfl, Lib.fresh_isBuffer _ _ w, (Below.refl _ _).alloc (Nat.le_refl _) _, Lib.hid rfl⟩
      case round =>
        obtain ⟨k, hk, rfl, hbuf, hbw, ha⟩ := hrel
        have hbs := hbw.size
        by_cases hlt : k < n
        · obtain ⟨b, o, z, rfl, _, hz, hc, _⟩ := (RowB.below h hbw).at_ hlt
          rcases hi : inVal z with _ | _
          · have HO : Hid (listOk zs = false) := Lib.hid (by simp [listOk, list_bad (List.mem_of_getElem? hz) hi])
            unfold inVal at hi
            clear hz
            go_wp2_with (go_at_call 38; (with_reducible refine (isValue_any _ _).mono ?_); rintro e w' ⟨rfl, rfl⟩)
            go_ret2
            exact ⟨list_none HO.out, hbw⟩
          · have HA : Hid ((zs.take (k + 1)).all inVal = true) := Lib.hid (by
              have := ha.out
              rw [List.take_add_one, hz, List.all_append, this]; simp [hi])
            have hlen : (txt (zs.take k)).length ≤ 19 * k := by
              have h2 := txt_len ha.out k
              rw [List.take_take, Nat.min_self] at h2; exact h2
            have hlen2 : (Lib.byteCells (txt (zs.take k))).length ≤ 800 := by rw [Lib.byteCells_length]; omega
            unfold inVal at hi
            have hzb := inB_true.1 hi
            have hil := itoa_len hzb
            obtain ⟨d, hd⟩ : ∃ d : ByteArray, d = ⟨(Lib.itoa z).toArray⟩ := ⟨_, rfl⟩
            have hdl : d.data.toList = Lib.itoa z := by rw [hd]
            have hds : d.size ≤ 18 := by rw [hd]; simpa [ByteArray.size] using hil
            have CD : ∀ W, Below w.heap.size w W → Calls Tryd.prog 21 #[.int .i64 z] W fun e w' => e = .returned (.string d) ∧ Below W.heap.size W w' := fun W hW => by
              rw [hd]; exact implDecimal_any z W (by omega) (by omega) (Go.Joins.tab_stays (g := 2) (by kernel_rfl) HT.out hW (Nat.le_refl _))
            have HLEN := Lib.hid hlen2
            have HDS := Lib.hid hds
            by_cases hk0 : k = 0
            · subst hk0
              have HN : Hid (Lib.byteCells (txt (zs.take (0 + 1))) = Lib.byteCells (txt (zs.take 0)) ++ Lib.byteCells d.data.toList) := Lib.hid (by
                rw [hdl, txt_first hz]; simp [txt, Lib.byteCells])
              simp only [Nat.add_zero] at hc
              clear hz hd hdl hlen hlen2 hds hil
              go_wp2_with (go_at_call 38; (with_reducible refine (isValue_any _ _).mono ?_); rintro e w' ⟨rfl, rfl⟩)
              (go_at_call 21; (with_reducible refine (CD _ hbw).mono ?_); rintro e w2 ⟨rfl, b2⟩)
              go_wp2_with fail
              have hbuf2 := buf_below hbuf b2
              have hbw2 := hbw.trans (b2.mono hbs)
              (go_at_call 40; (with_reducible refine (Tryd.Buffer_WriteString w.heap.size w.heap.size _ _ _ hbuf2 hbw2.size (Lib.byteCells_one _) (by have := HLEN.out; have := HDS.out; omega)).mono ?_); rintro e w3 ⟨rfl, hb3, b3⟩)
              go_wp2_with fail
              go_roundw
              case rel => exact ⟨1, by omega, rfl, by rw [HN.out]; exact hb3, hbw2.trans b3, HA⟩
              case measure => simp [intOf]; omega
            · have hk1 : 0 < (k : Int) := by omega
              have HN : Hid (Lib.byteCells (txt (zs.take (k + 1))) = (Lib.byteCells (txt (zs.take k)) ++ [.int .u8 32]) ++ Lib.byteCells d.data.toList) := Lib.hid (by
                rw [hdl, txt_next hz (by omega)]
                exact (byteCells_app _ 32 _).symm)
              clear hz hd hdl hlen hlen2 hds hil
              go_wp2_with (go_at_call 38; (with_reducible refine (isValue_any _ _).mono ?_); rintro e w' ⟨rfl, rfl⟩)
              (go_at_call 39; (with_reducible refine (Tryd.Buffer_WriteByte w.heap.size w.heap.size _ _ _ hbuf hbs (Lib.byteCells_one _) (by have := HLEN.out; omega)).mono ?_); rintro e w2 ⟨rfl, hb2, b2⟩)
              go_wp2_with fail
              have hbw2 := hbw.trans b2
              (go_at_call 21; (with_reducible refine (CD _ hbw2).mono ?_); rintro e w3 ⟨rfl, b3⟩)
              go_wp2_with fail
              have hbuf3 := buf_below hb2 b3
              have hbw3 := hbw2.trans (b3.mono hbw2.size)
              have hone : ∀ v ∈ Lib.byteCells (txt (zs.take k)) ++ [Value.int .u8 32], v.oneCell' = true := by
                intro v hv
                rcases List.mem_append.1 hv with hv | hv
                · exact Lib.byteCells_one _ v hv
                · simp at hv; subst hv; rfl
              (go_at_call 40; (with_reducible refine (Tryd.Buffer_WriteString w.heap.size w.heap.size _ _ _ hbuf3 hbw3.size hone (by have := HLEN.out; have := HDS.out; simp; omega)).mono ?_); rintro e w4 ⟨rfl, hb4, b4⟩)
              go_wp2_with fail
              go_roundw
              case rel => exact ⟨k + 1, by omega, by go_num, by rw [HN.out]; exact hb4, hbw3.trans b4, HA⟩
              case measure => simp [intOf]; omega
        · obtain rfl : k = n := by omega
          have HO : Hid (listOk zs = true) := Lib.hid (by
            have h2 := ha.out
            rw [List.take_of_length_le (by rw [HL.out]; exact Nat.le_refl _)] at h2
            simp only [listOk, h2, Bool.and_true, decide_eq_true_eq]; rw [HL.out]; omega)
          have HR : Hid (listR zs = ⟨(txt zs).toArray⟩) := Lib.hid (by
            rw [listR, if_pos HO.out, textR, if_neg (by rw [HL.out]; exact h0)])
          rw [List.take_of_length_le (by rw [HL.out]; exact Nat.le_refl _)] at hbuf
          go_wp2_with fail
          (go_at_call 41; (with_reducible refine (Tryd.Buffer_String w.heap.size w.heap.size _ _ hbuf).mono ?_); rintro e w' ⟨rfl, m, rfl⟩)
          go_wp2_with fail
          go_ret2
          exact ⟨twoT_eq HR.out.symm HO.out.symm, below_drewN hbw m⟩
end Go.Proofs.YtakkehjfdeghoacDoor
