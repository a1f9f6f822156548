/-
  A word out of its groups: the text without marks, and when it is what was grouped.
-/
import Derived.Test.YtfmlmgebomapjabDoorGwS
import Derived.Test.YtfmlmgebomapjabDoorCutWN
import Derived.Lib.ReplaceLaws
namespace Go.Proofs.YtfmlmgebomapjabDoor
open Go.RowKit

/-- The text without marks. -/
def bareL (l : List UInt8) : List UInt8 := l.filter (· != 45)
def bare (s : ByteArray) : ByteArray := ⟨(bareL s.data.toList).toArray⟩
theorem bare_list (s : ByteArray) : (bare s).data.toList = bareL s.data.toList := rfl
theorem bare_free {p : List UInt8} (h : ∀ b ∈ p, b ≠ 45) : bareL p = p := by
  unfold bareL; rw [List.filter_eq_self]; intro b hb; simpa using h b hb
theorem bare_hit {p r : List UInt8} (h : ∀ b ∈ p, b ≠ 45) : bareL (p ++ 45 :: r) = p ++ bareL r := by
  unfold bareL
  rw [List.filter_append]
  congr 1
  exact bare_free h
theorem replace_bare : ∀ (k : Nat) (l : List UInt8), l.count 45 ≤ k → Lib.replaceK [45] [] k l = bareL l := by
  intro k
  induction k with
  | zero =>
    intro l h
    have : ∀ b ∈ l, b ≠ 45 := fun b hb e => by
      subst e
      have := List.count_pos_iff.2 hb
      omega
    rw [bare_free this]; rfl
  | succ k ih =>
    intro l h
    rcases index_one 45 l with ⟨h1, h2⟩ | ⟨p, r, rfl, h2, h3⟩
    · rw [bare_free h2]
      unfold Lib.replaceK
      rw [h1]; rfl
    · rw [Lib.replaceK_hit [45] [] k _ _ h3, bare_hit h2]
      have hc : (p ++ 45 :: r).count 45 = p.count 45 + (r.count 45 + 1) := by rw [List.count_append, List.count_cons_self]
      have e : (p ++ 45 :: r).drop (p.length + ([45] : List UInt8).length) = r := by simp
      rw [e, ih r (by omega)]
      simp
theorem replaceAll_bare (l : List UInt8) : Lib.replaceAll l [45] [] = bareL l := by
  unfold Lib.replaceAll Lib.replace Lib.replaceNum
  rw [if_neg (by simp), if_pos (.inl (by omega))]
  exact replace_bare _ _ (by rw [Lib.count_one]; exact Nat.le_refl _)

/-! What is cut at marks. -/
theorem cut_flat : ∀ l : List UInt8, (cut 45 l).flatten = bareL l := by
  intro l
  induction l with
  | nil => rfl
  | cons b l ih =>
    obtain ⟨x, r, e⟩ := List.exists_cons_of_ne_nil (cut_ne 45 l)
    rw [cut_cons]
    by_cases hb : b = 45
    · rw [if_pos hb]
      subst hb
      show [].append _ = _
      simpa [bareL] using ih
    · rw [if_neg hb, e]
      rw [e] at ih
      have h2 : bareL (b :: l) = b :: bareL l := by unfold bareL; rw [List.filter_cons]; simp [hb]
      rw [h2, ← ih]
      simp
theorem cut_join : ∀ l : List UInt8, Lib.join (cut 45 l) [45] = l := by
  intro l
  induction l with
  | nil => rfl
  | cons b l ih =>
    obtain ⟨x, r, e⟩ := List.exists_cons_of_ne_nil (cut_ne 45 l)
    rw [cut_cons]
    rw [e, Lib.join_cons] at ih
    by_cases hb : b = 45
    · rw [if_pos hb, e]
      subst hb
      rw [Lib.join_cons]
      show [] ++ Lib.joinTail [45] (x :: r) = _
      have : Lib.joinTail [45] (x :: r) = [45] ++ x ++ Lib.joinTail [45] r := by simp [Lib.joinTail]
      rw [this, List.append_assoc, ih]
      rfl
    · rw [if_neg hb, e, Lib.join_cons]
      show b :: (x ++ Lib.joinTail [45] r) = _
      rw [ih]
theorem join_cut : ∀ (r : List (List UInt8)) (x : List UInt8), (∀ p ∈ x :: r, ∀ b ∈ p, b ≠ 45) → cut 45 (Lib.join (x :: r) [45]) = x :: r := by
  intro r
  induction r with
  | nil => intro x h; rw [Lib.join_one]; exact cut_free (h x (by simp))
  | cons y r ih =>
    intro x h
    have e : Lib.join (x :: y :: r) [45] = x ++ 45 :: Lib.join (y :: r) [45] := by
      rw [Lib.join_cons, Lib.join_cons]
      simp [Lib.joinTail]
    rw [e, cut_hit _ (h x (by simp)), ih y (fun p hp => h p (by simp [hp]))]

/-! Pieces of given lengths. -/
def lens (P : List (List UInt8)) : List Int := P.map fun p => (p.length : Int)
theorem lens_sum : ∀ P : List (List UInt8), (lens P).sum = (P.flatten.length : Int) := by
  intro P
  induction P with
  | nil => rfl
  | cons p P ih => simp only [lens, List.map_cons, List.sum_cons] at ih ⊢; rw [ih]; simp
theorem flat_drop : ∀ (P : List (List UInt8)) (k : Nat), P.flatten.drop ((lens (P.take k)).sum).toNat = (P.drop k).flatten := by
  intro P
  induction P with
  | nil => intro k; simp [lens]
  | cons p P ih =>
    intro k
    cases k with
    | zero => simp [lens]
    | succ k =>
      have h1 := lens_sum (P.take k)
      have h2 := ih k
      have e : ((lens ((p :: P).take (k + 1))).sum).toNat = p.length + ((lens (P.take k)).sum).toNat := by
        simp only [List.take_succ_cons, lens, List.map_cons, List.sum_cons]
        simp only [lens] at h1
        omega
      rw [e, List.flatten_cons, List.drop_append]
      simp only [List.drop_succ_cons]
      rw [← h2]
      simp
theorem pcs_of {w : ByteArray} {P : List (List UInt8)} (hw : w.data.toList = P.flatten) : (pcs w (lens P)).map (·.data.toList) = P := by
  apply List.ext_getElem?
  intro k
  have hl : (lens P).length = P.length := by simp [lens]
  by_cases hk : k < P.length
  · rw [List.getElem?_map, pcs_at w (by rw [hl]; exact hk), List.getElem?_eq_getElem hk]
    simp only [Option.map_some, Option.some.injEq]
    have hz : (lens P)[k]? = some ((P[k].length : Nat) : Int) := by unfold lens; rw [List.getElem?_map, List.getElem?_eq_getElem hk]; rfl
    have h0 : psum (lens P) k = (lens (P.take k)).sum := by unfold psum lens; rw [List.map_take]
    have h1 := lens_sum (P.take k)
    unfold pc
    rw [part_text, hw, psum_succ hz, h0, flat_drop, List.drop_eq_getElem_cons hk, List.flatten_cons]
    have e : (((lens (P.take k)).sum + (P[k].length : Int)).toNat - ((lens (P.take k)).sum).toNat) = P[k].length := by omega
    rw [e]
    simp
  · rw [List.getElem?_eq_none (by rw [List.length_map, pcs_len, hl]; omega), List.getElem?_eq_none (by omega)]
theorem pc_len {w : ByteArray} {zs : List Int} (hz : zs.all szOk = true) (hs : zs.sum = (w.size : Int)) {k : Nat} {z : Int} (h : zs[k]? = some z) : ((pc w zs k).data.toList.length : Int) = z := by
  have hk := (List.getElem?_eq_some_iff.1 h).1
  have h1 := psum_succ h
  have h2 := (psum_bd hz k (by omega)).1
  have h3 := psum_mono hz (j := k + 1) (k := zs.length) (by omega) (Nat.le_refl _)
  have h4 := psum_step hz hk
  rw [psum_all, hs] at h3
  have : (pc w zs k).data.toList.length = (pc w zs k).size := by simp
  rw [this]
  simp only [pc, ByteArray.size_extract]
  omega
/-- What the program tests. -/
def ugOk (s : ByteArray) (zs : List Int) : Bool := gwOk (bare s) zs && decide (gwT (bare s) zs = s)
/-- What the model tests. -/
def spOk (s : ByteArray) (zs : List Int) : Bool := szsOk zs && (decide (zs.sum ≤ 20) && (decide (lens (cut 45 s.data.toList) = zs) && wordB (bare s) 36))
theorem word_20 {s : ByteArray} (h : wordB s 36 = true) : s.size ≤ 20 := by
  unfold wordB at h
  simp only [Bool.and_eq_true, decide_eq_true_eq] at h
  exact h.2.1
theorem sp_ug {s : ByteArray} {zs : List Int} (h : spOk s zs = true) : ugOk s zs = true := by
  unfold spOk at h
  simp only [Bool.and_eq_true, decide_eq_true_eq] at h
  obtain ⟨h1, h2, h3, h4⟩ := h
  have hfl : (bare s).data.toList = (cut 45 s.data.toList).flatten := by rw [cut_flat]; rfl
  have hsum : zs.sum = ((bare s).size : Int) := by
    rw [← h3, lens_sum, ← hfl]; simp
  have hg := gw_yes h1 h4 hsum
  unfold ugOk
  rw [hg, gwT_yes hg, Bool.true_and, decide_eq_true_eq]
  apply bytes_eq
  have h5 := pcs_of hfl
  rw [h3] at h5
  show Lib.join ((pcs (bare s) zs).map (·.data.toList)) [45] = _
  rw [h5, cut_join]
theorem ug_sp {s : ByteArray} {zs : List Int} (h : ugOk s zs = true) : spOk s zs = true := by
  unfold ugOk at h
  simp only [Bool.and_eq_true, decide_eq_true_eq] at h
  obtain ⟨hg, ht⟩ := h
  obtain ⟨h1, h2, h3⟩ := gw_parts hg
  obtain ⟨hl1, _, hall⟩ := szs_parts h1
  rw [gwT_yes hg] at ht
  have hj : s.data.toList = Lib.join ((pcs (bare s) zs).map (·.data.toList)) [45] := by
    have := congrArg (fun b : ByteArray => b.data.toList) ht
    exact this.symm
  have hfree : ∀ p ∈ (pcs (bare s) zs).map (·.data.toList), ∀ b ∈ p, b ≠ 45 := by
    intro p hp b hb
    obtain ⟨q, hq, rfl⟩ := List.mem_map.1 hp
    unfold pcs at hq
    obtain ⟨k, _, rfl⟩ := List.mem_map.1 hq
    unfold pc at hb
    rw [part_text] at hb
    have hb2 := List.mem_of_mem_drop (List.mem_of_mem_take hb)
    rw [bare_list] at hb2
    unfold bareL at hb2
    simpa using (List.mem_filter.1 hb2).2
  have hcut : cut 45 s.data.toList = (pcs (bare s) zs).map (·.data.toList) := by
    rw [hj]
    rcases he : (pcs (bare s) zs).map (·.data.toList) with _ | ⟨x, r⟩
    · have := congrArg List.length he
      rw [List.length_map, pcs_len] at this
      simp at this
      rw [this] at hl1
      simp at hl1
    · rw [he] at hfree
      rw [he]
      exact join_cut r x hfree
  have hlens : lens (cut 45 s.data.toList) = zs := by
    rw [hcut]
    apply List.ext_getElem?
    intro k
    unfold lens
    rw [List.getElem?_map, List.getElem?_map]
    by_cases hk : k < zs.length
    · rw [pcs_at _ hk, List.getElem?_eq_getElem hk]
      simp only [Option.map_some, Option.some.injEq]
      exact pc_len hall h3 (List.getElem?_eq_getElem hk)
    · rw [List.getElem?_eq_none (by rw [pcs_len]; omega), List.getElem?_eq_none (by omega)]; rfl
  have h20 := word_20 h2
  unfold spOk
  simp only [Bool.and_eq_true, decide_eq_true_eq]
  exact ⟨h1, by omega, hlens, h2⟩
theorem sp_eq (s : ByteArray) (zs : List Int) : spOk s zs = ugOk s zs := by
  rcases h : ugOk s zs with _ | _
  · rcases h2 : spOk s zs with _ | _
    · rfl
    · rw [sp_ug h2] at h; cases h
  · exact ug_sp h
/-- What UngroupWord returns. -/
def ugV (s : ByteArray) (zs : List Int) : Ending := .returned (.tuple #[.string (if ugOk s zs = true then bare s else ByteArray.empty), .bool (ugOk s zs)])
theorem ug_no {s : ByteArray} {zs : List Int} (h : ugOk s zs = false) : Ending.returned (.tuple #[.string ⟨#[]⟩, .bool false]) = ugV s zs := by unfold ugV; rw [h]; rfl
theorem ug_yes {s : ByteArray} {zs : List Int} {u : ByteArray} (h : ugOk s zs = true) (hu : u = bare s) : Ending.returned (.tuple #[.string u, .bool true]) = ugV s zs := by unfold ugV; rw [if_pos h, h, hu]
end Go.Proofs.YtfmlmgebomapjabDoor
