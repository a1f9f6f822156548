/-
  The program's near: the words of a trie that are near to a text.
-/
import Derived.Test.YtfmlmgebomapjabNrM
import Derived.Test.YtfmlmgebomapjabWdI
import Derived.IntWalk
import Derived.BigRegion
import Derived.Deep.CutRange
import Derived.Deep.DeepCutAuto
import Derived.Laws.Rows
import Derived.Laws.AppendOwnNone
namespace Go.Proofs.Ytfmlmgebomapjab
open Go Go.RowKit

theorem run_loadVar_off {P : Program} (w : World) (g off : Nat) (ty : TypeId) (cs : Array Value) (d : TypeDesc) (hc : ∀ (j : Nat) v, cs[j]? = some v → w.cell? ⟨g, off + j, none⟩ = some v)
    (hu : P.underlying ty = some d) (hd : (match d with | .struct _ | .array _ _ => true | _ => false) = true) (hi : (P.info? ty).map (·.size) = some cs.size) :
    (loadVar ty ⟨g, off, none⟩).run P w = .ok (.agg cs) w := by
  have hl : (loadCells ⟨g, off, none⟩ cs.toList.length).run P w = .ok cs.toList.toArray w :=
    run_loadCells_list (P := P) w ⟨g, off, none⟩ cs.toList (fun j v hv => by
      have hadd : (⟨g, off, none⟩ : Addr).add j = ⟨g, off + j, none⟩ := by unfold Addr.add; split <;> simp_all
      rw [hadd]
      exact hc j v (by simpa using hv))
  cases hq : P.info? ty with
  | none => simp [hq] at hi
  | some i =>
    have hs : i.size = cs.size := by simpa [hq] using hi
    have hagg : (isAgg ty).run P w = .ok true w := by
      unfold isAgg
      rw [Sem.run_bind, run_underlying hu w]
      cases d <;> simp_all
    simp only [Array.length_toList, Array.toArray_toList] at hl
    simp [loadVar, Sem.run_bind, hagg, sizeOf, typeInfo, hq, hs, hl]
theorem wpList_load_off {P : Program} {ops : Array Oper} {rest : List Oper} {o : Oper} {a : Act} {w : World} {Q : Exit → Act → World → Prop} (hgd : o.guard = none) (ty : TypeId) (x : Operand) (ho : o.op = .load ty x)
    (g off : Nat) (hx : a.eval x = .pointer (some ⟨g, off, none⟩)) (cs : Array Value) (d : TypeDesc) (hc : ∀ (j : Nat) v, cs[j]? = some v → w.cell? ⟨g, off + j, none⟩ = some v)
    (hu : P.underlying ty = some d) (hd : (match d with | .struct _ | .array _ _ => true | _ => false) = true) (hi : (P.info? ty).map (·.size) = some cs.size)
    (h : wpList P ops Q rest (a.put o.dst (.agg cs)) w) : wpList P ops Q (o :: rest) a w :=
  wpList_plain hgd fun K hK => by
    unfold Oper.wp execOp
    simp only [ho, hx, Instr.loadAt, Instr.sureAddr, Sem.run_bind, Sem.run_pure, Result.andThen_ok, run_loadVar_off w g off ty cs d hc hu hd hi]
    exact hK _ _ h

abbrev vals (L : List Nat) : List Value := L.map fun z : Nat => Value.int .i64 ((z : Nat) : Int)
/-- What near leaves. -/
def NearPost (T : Tr) (h : ByteArray) (most : Int) (fu i : Nat) (p : List UInt8) (W : World) (e : Ending) (W' : World) : Prop :=
  ∃ A n c, e = .returned (.slice A n c) ∧ W'.ownsRow W.heap.size 2 1 (.slice A n c) n (vals (nearL T h most fu i p)) ∧ Below W.heap.size W W'
def NearIn (T : Tr) (h : ByteArray) (most : Int) (fu i : Nat) (p : List UInt8) (W : World) (k : Nat) (v : Value) (wr : World) : Prop :=
  ∃ A n c, v = .slice A n c ∧ wr.ownsRow W.heap.size 2 1 (.slice A n c) n (vals (nearK T h most fu i p k)) ∧ Below W.heap.size W wr
theorem alpha_at : ∀ (k : Nat) (_ : k < 26) (hh), ((⟨#[97, 98, 99, 100, 101, 102, 103, 104, 105, 106, 107, 108, 109, 110, 111, 112, 113, 114, 115, 116, 117, 118, 119, 120, 121, 122]⟩ : ByteArray)[k]'hh).toNat = k + 97 := by
  intro k hk hh
  have : ∀ j : Fin 26, ((⟨#[97, 98, 99, 100, 101, 102, 103, 104, 105, 106, 107, 108, 109, 110, 111, 112, 113, 114, 115, 116, 117, 118, 119, 120, 121, 122]⟩ : ByteArray)[j.val]'(by have := j.isLt; simp [ByteArray.size])).toNat = j.val + 97 := by decide
  exact this ⟨k, hk⟩
theorem slice_ofN {w : World} {B n : Nat} {v : Value} {xs : List Value} (h : w.ownsRow B 2 1 v n xs) : ∃ A c, v = .slice A n c := by
  rcases h.2 with ⟨h1, h2⟩ | ⟨g, cap, cur, h1, _⟩
  · exact ⟨_, _, by rw [h1, h2]⟩
  · exact ⟨_, _, h1⟩
def kidsA (T : Tr) (i : Nat) : Array Value := ((List.range 26).map fun c => T.ptr (T.nx i c)).toArray
theorem kidsA_at (T : Tr) (i : Nat) {c : Nat} (hc : c < 26) : (kidsA T i)[c]? = some (T.ptr (T.nx i c)) := by
  unfold kidsA
  rw [List.getElem?_toArray, List.getElem?_map, List.getElem?_range hc]; rfl
theorem kidsA_size (T : Tr) (i : Nat) : (kidsA T i).size = 26 := by simp [kidsA]

theorem isAgg_ptr (w : World) : (isAgg 43).run Try.prog w = .ok false w := by kernel_rfl
theorem sizeOf_ptr (w : World) : (sizeOf 43).run Try.prog w = .ok 1 w := by kernel_rfl
theorem run_index_kid {KA : Array Value} {k : Nat} {v : Value} (hk : k < 26) (hv : KA[k]? = some v) (w : World) : (Instr.index 58 (.agg KA) (.int .i64 (k : Int))).run Try.prog w = .ok v w := by
  have hn : 0 ≤ (k : Int) ∧ (k : Int) < ((26 : Nat) : Int) := by omega
  have e1 : (Instr.index 58 (.agg KA) (.int .i64 (k : Int))).run Try.prog w = (part 43 KA (k * 1)).run Try.prog w := by
    simp [Instr.index, run_underlying Try.underlying58, asIntOf, go_sem]
    omega
  rw [e1]
  unfold part
  rw [Sem.run_bind, isAgg_ptr, Nat.mul_one, hv]
  rfl

set_option maxRecDepth 100000 in
set_option maxHeartbeats 8000000 in
theorem near_any (T : Tr) (s : ByteArray) (most : Int) (hs : s.size ≤ 20) (ho : T.Ok) (hdp : T.Deep 20) : ∀ (fu i : Nat) (p : List UInt8) (q : List Nat) (W : World) (A : Option Addr) (c B B' : Nat),
    TrAt W B T → i < T.gs.length → T.gs.length - i ≤ fu → CRow B' W A c p s → T.go 0 q = some i → p.length = q.length → (allL T fu i).length ≤ 1000 →
    Calls Try.prog 31 #[.pointer (some ⟨T.gs.getD i 0, 0, none⟩), .slice A (s.size + 1) c, .string s, .int .i64 most] W (NearPost T s most fu i p W) := by
  intro fu
  induction fu with
  | zero => intro i p q W A c B B' _ h1 h2; omega
  | succ fu ih =>
    intro i p q W A c B B' hT hi hf hO hq hpq hln
    obtain ⟨i0, hin, hz0, hz1, hz2⟩ := info_parts info64
    have hblk := (hT.1 i hi).2
    obtain ⟨g, hg⟩ : ∃ g, g = T.gs.getD i 0 := ⟨_, rfl⟩
    rw [← hg] at hblk ⊢
    clear hg
    have hglt := hblk.lt
    have h0 := hblk.cell 0
    rw [T.cells_0] at h0
    have h1 := hblk.cell 1
    rw [T.cells_1] at h1
    have hkc : ∀ (j : Nat) v, (kidsA T i)[j]? = some v → W.cell? ⟨g, 2 + j, none⟩ = some v := by
      intro j v hv
      have hj : j < 26 := by have := (Array.getElem?_eq_some_iff.1 hv).1; rw [kidsA_size] at this; exact this
      rw [kidsA_at T i hj] at hv
      rw [hblk.cell, T.cells_kid i hj]; exact hv
    have hisz : (Try.prog.info? 58).map (·.size) = some (kidsA T i).size := by rw [kidsA_size]; kernel_rfl
    have CW := whole_any W hO hs
    obtain ⟨d, hd⟩ : ∃ d, d = lev false p s.data.toList := ⟨_, rfl⟩
    obtain ⟨BB, hBB⟩ : ∃ BB, BB = ((T.en i).isSome && decide ((d : Int) ≤ most)) := ⟨_, rfl⟩
    have HBB := Lib.hid hBB
    rw [← hd] at CW
    have HDD := Lib.hid hd
    have HIH := Lib.hid ih
    have HE : Hid (nearE T s most i p = if BB = true then [(T.en i).getD 0] else []) := Lib.hid (by
      unfold nearE
      rw [hBB]
      cases T.en i with
      | none => simp
      | some z => by_cases hm : ((lev false p s.data.toList : Nat) : Int) ≤ most <;> simp [hd, hm])
    obtain ⟨zz, hzz⟩ : ∃ zz, zz = (T.en i).getD 0 := ⟨_, rfl⟩
    rw [← hzz] at h1 HE
    clear hd hBB ih hblk hzz
    go_enter Try.func31, Try.ntmps31
    go_upto_region 2 with fail
    go_cut [21] (fun s21 wx => s21 = .bool BB ∧ W = wx)
    case first =>
      rcases he : T.en i with _ | z
      · rw [he] at h0
        have h0' : W.cell? ⟨g, 0, none⟩ = some (.bool false) := h0
        have HB : Hid (BB = false) := Lib.hid (by rw [HBB.out, he]; rfl)
        clear h0 he
        go_wp2_with fail
        go_meet
        exact ⟨by rw [HB.out], rfl⟩
      · rw [he] at h0
        have h0' : W.cell? ⟨g, 0, none⟩ = some (.bool true) := h0
        have HB : Hid (BB = decide ((d : Int) ≤ most)) := Lib.hid (by rw [HBB.out, he]; simp)
        clear h0 he
        go_wp2_with (go_at_call 42; (with_reducible refine (CW).mono ?_); rintro e w' ⟨rfl, rfl⟩)
        go_meet
        exact ⟨by rw [HB.out], rfl⟩
    case rest =>
      obtain ⟨rfl, rfl⟩ := hcut
      go_upto_if 21 with fail
      go_cut [9] (fun v wx => Hid (NearIn T s most fu i p W 0 v wx))
      case first =>
        rcases hB2 : BB with _ | _
        · have HN : Hid (NearIn T s most fu i p W 0 (.slice none 0 0) W) := Lib.hid ⟨none, 0, 0, rfl, by
            rw [nearK_zero, HE.out, hB2]
            exact ⟨rfl, .inl ⟨rfl, rfl⟩⟩, Below.refl _ _⟩
          clear h0
          go_wp2_with fail
          go_meet
          exact HN
        · have hown : W.ownsRow W.heap.size 2 1 (.slice none 0 0) 0 [] := ⟨rfl, .inl ⟨rfl, rfl⟩⟩
          have HE2 : Hid (nearE T s most i p = [zz]) := Lib.hid (by rw [HE.out, hB2]; rfl)
          clear h0
          go_wp2_with (at_builtin; refine wpList_append_own _ rfl _ _ 34 rfl W.heap.size 2 i0 (.int .i64 0) 1 8 Try.underlying34 hin hz0 hz1 hz2 rfl (by decide) _ _ _ rfl (hown.alloc _) ⟨W.heap.size, 0, none⟩ 1 1 [.int .i64 (zz : Int)] rfl rfl (one_cellD _ _ _) (fun u hu => by simp at hu; subst hu; rfl) ?c1 ?c2 ?c3 ?_)
          case c1 => unfold maxLen; omega
          case c2 => omega
          case c3 => simp
          intro v3 w3 ho3 hg3 _
          obtain ⟨A3, c3, rfl⟩ := slice_ofN ho3
          have HN : Hid (NearIn T s most fu i p W 0 (.slice A3 (0 + 1) c3) w3) := Lib.hid ⟨A3, 0 + 1, c3, rfl, by
            rw [nearK_zero, HE2.out]
            exact ho3, Below.grown ((Below.refl _ W).alloc (Nat.le_refl _) _) hg3 (by simp) (fun q hq => by cases hq)⟩
          clear ho3 hg3 hown
          go_wp2_with fail
          go_meet
          exact HN
      case rest =>
        obtain ⟨A1, n1, c1, rfl, o1, b1⟩ := hcut.out
        have HT := Lib.hid hT
        have HO := Lib.hid hO
        have hcells : ∀ (j : Nat) v, (kidsA T i)[j]? = some v → wc.cell? ⟨g, 2 + j, none⟩ = some v := fun j v hv => (b1.cell (p := ⟨g, 2 + j, none⟩) hglt).trans (hkc j v hv)
        obtain ⟨KA, hKA⟩ : ∃ KA, KA = kidsA T i := ⟨_, rfl⟩
        have hksz : KA.size = 26 := by rw [hKA, kidsA_size]
        have HKA := Lib.hid hKA
        rw [← hKA] at hcells hisz
        clear hcut hKA h0 h1 hT hO hkc CW
        go_wp2_with (refine wpList_load_off rfl 58 _ rfl g 2 rfl KA _ hcells Try.underlying58 rfl hisz ?_)
        have HIN : Hid (NearIn T s most fu i p W 0 (.slice A1 n1 c1) wc) := Lib.hid ⟨A1, n1, c1, rfl, o1, b1⟩
        clear o1 b1 hcells hisz
        go_loopw [9, 10, 11, 33] (fun v _ _ y wr => ∃ k : Nat, k ≤ 26 ∧ y = .int .i64 k ∧ (∃ A' n' c', v = .slice A' n' c') ∧ Hid (NearIn T s most fu i p W k v wr)) (fun _ _ _ y _ => 26 - (intOf y).toNat)
        case atStart => exact ⟨0, by omega, rfl, ⟨_, _, _, rfl⟩, HIN⟩
        case round =>
          obtain ⟨k, hk, rfl, ⟨A', n', c', rfl⟩, hN⟩ := hrel
          obtain ⟨wq, hwq⟩ : ∃ wq, wq = wr := ⟨_, rfl⟩
          rw [← hwq] at hN ⊢
          clear hwq HIN
          by_cases hlt : k < 26
          · have hka : KA[k]? = some (T.ptr (T.nx i k)) := by rw [HKA.out]; exact kidsA_at T i hlt
            rcases hx : T.nx i k with _ | j
            · rw [hx] at hka
              have hka' : KA[k]? = some (.pointer none) := hka
              have hix := fun w => run_index_kid hlt hka' w
              have HK : Hid (NearIn T s most fu i p W (k + 1) (.slice A' n' c') wq) := Lib.hid (by
                obtain ⟨a1, a2, a3, a4, a5, a6⟩ := hN.out
                refine ⟨a1, a2, a3, a4, ?_, a6⟩
                rw [nearK_succ]
                unfold kidL
                rw [hx]
                simpa using a5)
              clear hka hx hN
              go_wp2_with fail
              go_roundw
              case rel => exact ⟨k + 1, by omega, by go_num, ⟨_, _, _, rfl⟩, HK⟩
              case measure => simp [intOf]; omega
            · rw [hx] at hka
              obtain ⟨gj, hgj⟩ : ∃ gj, gj = T.gs.getD j 0 := ⟨_, rfl⟩
              have hka' : KA[k]? = some (.pointer (some ⟨gj, 0, none⟩)) := by rw [hgj]; exact hka
              have HGJ := Lib.hid hgj
              have hix := fun w => run_index_kid hlt hka' w
              obtain ⟨a1, a2, a3, a4, a5, a6⟩ := hN.out
              injection a4 with e1 e2 e3
              subst e1; subst e2; subst e3
              have hq2 : T.go 0 (q ++ [k]) = some j := by rw [Tr.go_snoc, hq]; exact hx
              have hq20 := hdp _ _ hq2
              have hp20 : p.length < 20 := by rw [hpq]; simp at hq20; omega
              have CB := behind_any (letC k) wq (HO.out.below a6) hp20 hs
              have e97 : ((letC k).toNat : Int) = (k : Int) + 97 := by rw [letC_toNat hlt]; simp
              rw [e97] at CB
              have h97 := alpha_at k hlt
              have hki := ho.kid i k j hx
              have HLN := Lib.hid (Nat.le_trans (allL_kid hlt hx) hln)
              have HX := Lib.hid hx
              have HQ := Lib.hid hq2
              have A5 := Lib.hid a5
              have A6 := Lib.hid a6
              have hfu : T.gs.length - j ≤ fu := by omega
              clear hka hx hN hq2 hq20 e97 a5 a6 hgj
              go_wp2_with fail
              (go_at_call 41; (with_reducible refine (CB).mono ?_); rintro e w2 ⟨A2, c2, rfl, o2, b2⟩)
              have CR := HIH.out j (p ++ [letC k]) (q ++ [k]) w2 A2 c2 B _ (HT.out.below (A6.out.trans (b2.mono A6.out.size))) hki.2 hfu o2 HQ.out (by simp; omega) HLN.out
              rw [← HGJ.out] at CR
              have B2 := Lib.hid b2
              clear CB b2
              go_wp2_with fail
              (go_at_call 31; (with_reducible refine (CR).mono ?_); rintro e w3 ⟨A3, n3, c3, rfl, o3, b3⟩)
              have B3 := Lib.hid (B2.out.trans (b3.mono B2.out.size))
              have O1 : w3.ownsRow W.heap.size 2 1 (.slice A' n' c') n' (vals (nearK T s most fu i p k)) := ownsRow_keep A5.out (fun g hg => B3.out.block g (by subst hg; exact (A5.out.lt g rfl).2))
              have BW := Lib.hid (A6.out.trans (B3.out.mono A6.out.size))
              have hlen1 : (nearK T s most fu i p k).length = n' := by have := O1.1; simpa using this
              have hlen3 : (nearL T s most fu j (p ++ [letC k])).length = n3 := by have := o3.1; simpa using this
              have hKS : nearK T s most fu i p (k + 1) = nearK T s most fu i p k ++ nearL T s most fu j (p ++ [letC k]) := by
                rw [nearK_succ]; unfold kidL; rw [HX.out]
              have hsum := nearK_len (T := T) (h := s) (most := most) (fu := fu) (i := i) (p := p) (k := k + 1) (by omega)
              rw [hKS, List.length_append, hlen1, hlen3] at hsum
              have hs1000 : n' + n3 ≤ 1000 := Nat.le_trans hsum hln
              have HKS := Lib.hid hKS
              clear CR b3 hsum hKS hlen1
              rcases ownsRow_form o3 with ⟨rfl, rfl, rfl⟩ | ⟨g3, rfl, _, hg3l, _, _⟩
              · have HK : Hid (NearIn T s most fu i p W (k + 1) (.slice A' n' c') w3) := Lib.hid ⟨A', n', c', rfl, by
                  rw [HKS.out, List.eq_nil_of_length_eq_zero hlen3, List.append_nil]; exact O1, BW.out⟩
                clear hlen3 o3
                go_wp2_with (at_builtin; refine wpList_append_own_none rfl _ _ 34 rfl W.heap.size 2 i0 1 Try.underlying34 hin (.slice A' n' c') n' _ rfl O1 rfl ?_)
                go_roundw
                case rel => exact ⟨k + 1, by omega, by go_num, ⟨_, _, _, rfl⟩, HK⟩
                case measure => simp [intOf]; omega
              · have hnews : ∀ (q : Nat) (u : Value), (vals (nearL T s most fu j (p ++ [letC k])))[q]? = some u → w3.cell? ((⟨g3, 0, none⟩ : Addr).add q) = some u := fun q u hu => by
                  have hadd : (⟨g3, 0, none⟩ : Addr).add q = ⟨g3, q, none⟩ := by unfold Addr.add; split <;> simp_all
                  have hql : q < n3 * 1 := by have := (List.getElem?_eq_some_iff.1 hu).1; simp at this; omega
                  rw [hadd, World.ownsRow.cellAt o3 q hql]; exact hu
                have hone : ∀ u ∈ vals (nearL T s most fu j (p ++ [letC k])), u.oneCell' = true := fun u hu => by
                  obtain ⟨x, _, rfl⟩ := List.mem_map.1 hu; rfl
                have hvl : (vals (nearL T s most fu j (p ++ [letC k]))).length = n3 * 1 := by simp [hlen3]
                obtain ⟨news, hnn⟩ : ∃ news, news = vals (nearL T s most fu j (p ++ [letC k])) := ⟨_, rfl⟩
                rw [← hnn] at hnews hone hvl
                obtain ⟨olds, hoo⟩ : ∃ olds, olds = vals (nearK T s most fu i p k) := ⟨_, rfl⟩
                rw [← hoo] at O1
                have HEQ : Hid (olds ++ news = vals (nearK T s most fu i p (k + 1))) := Lib.hid (by rw [HKS.out, hoo, hnn]; simp)
                have g1 : n' + n3 ≤ maxLen := by unfold maxLen; omega
                have g2 : (n' + n3) * 8 ≤ 140737488355328 := by omega
                have g3s := BW.out.size
                clear hnn hoo hlen3 o3
                go_wp2_with (at_builtin; refine wpList_append_own _ rfl _ _ 34 rfl W.heap.size 2 i0 (.int .i64 0) 1 8 Try.underlying34 hin hz0 hz1 hz2 rfl (by decide) (.slice A' n' c') n' olds rfl O1 ⟨g3, 0, none⟩ n3 c3 news rfl hvl hnews hone g1 g2 g3s ?_)
                intro v5 w5 ho5 hg5 _
                obtain ⟨A5', c5', rfl⟩ := slice_ofN ho5
                have HK : Hid (NearIn T s most fu i p W (k + 1) (.slice A5' (n' + n3) c5') w5) := Lib.hid ⟨A5', n' + n3, c5', rfl, by rw [← HEQ.out]; exact ho5, Below.grown BW.out hg5 g3s (fun q hq => (O1.lt q hq).1)⟩
                clear ho5 hg5 hnews hone hvl O1
                go_wp2_with fail
                go_roundw
                case rel => exact ⟨k + 1, by omega, by go_num, ⟨_, _, _, rfl⟩, HK⟩
                case measure => simp [intOf]; omega
          · obtain rfl : k = 26 := by omega
            obtain ⟨a1, a2, a3, a4, a5, a6⟩ := hN.out
            have HP : Hid (NearPost T s most (fu + 1) i p W (.returned (.slice A' n' c')) wq) := Lib.hid ⟨a1, a2, a3, by rw [a4], by rw [nearL_eq]; exact a5, a6⟩
            clear hN a4 a5 a6
            go_wp2_with fail
            go_ret
            exact HP.out
end Go.Proofs.Ytfmlmgebomapjab
