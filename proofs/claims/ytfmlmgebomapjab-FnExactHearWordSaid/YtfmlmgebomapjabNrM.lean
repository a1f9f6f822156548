/-
  The words of a trie that are near to a text.
-/
import Derived.Test.YtfmlmgebomapjabTrI
import Derived.Test.YtfmlmgebomapjabWdM
namespace Go.Proofs.Ytfmlmgebomapjab
open Go.RowKit

theorem nodup_lenN : ∀ (n : Nat) (l : List Nat), l.Nodup → (∀ x ∈ l, x < n) → l.length ≤ n
  | 0, l, _, h => by
    cases l with
    | nil => simp
    | cons a r => exact absurd (h a (by simp)) (by omega)
  | n + 1, l, hd, h => by
    by_cases hm : n ∈ l
    · have h2 := nodup_lenN n (l.erase n) (hd.erase n) (fun x hx => by
        have := (hd.mem_erase_iff).1 hx
        have := h x this.2
        omega)
      rw [List.length_erase_of_mem hm] at h2
      omega
    · have h2 := nodup_lenN n l hd (fun x hx => by
        have h3 := h x hx
        have : x ≠ n := fun e => hm (e ▸ hx)
        omega)
      omega
/-- The letter with a number. -/
def letC (c : Nat) : UInt8 := UInt8.ofNat (c + 97)
def byts (u : List Nat) : List UInt8 := u.map letC
theorem letC_toNat {c : Nat} (h : c < 26) : (letC c).toNat = c + 97 := by
  unfold letC; rw [UInt8.toNat_ofNat']; omega
theorem byts_lets {l : List UInt8} (h : ∀ b ∈ l, 97 ≤ b.toNat) : byts (lets l) = l := by
  unfold byts lets
  rw [List.map_map]
  apply List.ext_getElem?
  intro j
  rw [List.getElem?_map]
  cases hj : l[j]? with
  | none => rfl
  | some b =>
    have := h b (List.mem_of_getElem? hj)
    simp only [Option.map_some, Option.some.injEq, Function.comp]
    unfold letC
    rw [show b.toNat - 97 + 97 = b.toNat by omega]
    simp

section
variable (T : Tr) (h : ByteArray) (most : Int)
def nearE (i : Nat) (p : List UInt8) : List Nat := match T.en i with
  | none => []
  | some z => if ((lev false p h.data.toList : Nat) : Int) ≤ most then [z] else []
/-- The indices of the words below a node that are near. -/
def nearL : Nat → Nat → List UInt8 → List Nat
  | 0, _, _ => []
  | fu + 1, i, p => nearE T h most i p ++ (List.range 26).flatMap fun c => match T.nx i c with
    | none => []
    | some j => nearL fu j (p ++ [letC c])
def kidL (fu i : Nat) (p : List UInt8) (c : Nat) : List Nat := match T.nx i c with
  | none => []
  | some j => nearL T h most fu j (p ++ [letC c])
def nearK (fu i : Nat) (p : List UInt8) (k : Nat) : List Nat := nearE T h most i p ++ (List.range k).flatMap (kidL T h most fu i p)
def endL (i : Nat) : List Nat := match T.en i with
  | none => []
  | some z => [z]
/-- The indices of all words below a node. -/
def allL : Nat → Nat → List Nat
  | 0, _ => []
  | fu + 1, i => endL T i ++ (List.range 26).flatMap fun c => match T.nx i c with
    | none => []
    | some j => allL fu j
def kidA (fu i c : Nat) : List Nat := match T.nx i c with
  | none => []
  | some j => allL T fu j
end
section
variable {T : Tr} {h : ByteArray} {most : Int}
theorem nearL_eq (fu i : Nat) (p : List UInt8) : nearL T h most (fu + 1) i p = nearK T h most fu i p 26 := rfl
theorem nearK_zero (fu i : Nat) (p : List UInt8) : nearK T h most fu i p 0 = nearE T h most i p := by unfold nearK; simp
theorem nearK_succ (fu i : Nat) (p : List UInt8) (k : Nat) : nearK T h most fu i p (k + 1) = nearK T h most fu i p k ++ kidL T h most fu i p k := by
  unfold nearK
  rw [List.range_succ, List.flatMap_append, List.append_assoc]; simp
theorem allL_eq (fu i : Nat) : allL T (fu + 1) i = endL T i ++ (List.range 26).flatMap (kidA T fu i) := rfl
theorem sub_flat {α β : Type} {f g : α → List β} (hs : ∀ a, (f a).Sublist (g a)) : ∀ l : List α, (l.flatMap f).Sublist (l.flatMap g) := by
  intro l
  induction l with
  | nil => exact List.Sublist.refl _
  | cons a l ih => rw [List.flatMap_cons, List.flatMap_cons]; exact (hs a).append ih
theorem flat_more {β : Type} (f : Nat → List β) {k n : Nat} (h : k ≤ n) : ((List.range k).flatMap f).Sublist ((List.range n).flatMap f) := by
  obtain ⟨d, rfl⟩ := Nat.exists_eq_add_of_le h
  rw [List.range_add, List.flatMap_append]
  exact List.sublist_append_left _ _
theorem nearE_sub (i : Nat) (p : List UInt8) : (nearE T h most i p).Sublist (endL T i) := by
  unfold nearE endL
  cases T.en i with
  | none => exact List.Sublist.refl _
  | some z => show (if _ then _ else _ : List Nat).Sublist [z]; split <;> simp
theorem near_sub : ∀ (fu i : Nat) (p : List UInt8), (nearL T h most fu i p).Sublist (allL T fu i) := by
  intro fu
  induction fu with
  | zero => intro i p; exact List.Sublist.refl _
  | succ fu ih =>
    intro i p
    rw [nearL_eq, allL_eq]
    unfold nearK
    refine (nearE_sub i p).append (sub_flat (fun c => ?_) _)
    unfold kidL kidA
    cases T.nx i c with
    | none => exact List.Sublist.refl _
    | some j => exact ih j _
theorem kid_sub (fu i : Nat) (p : List UInt8) (c : Nat) : (kidL T h most fu i p c).Sublist (kidA T fu i c) := by
  unfold kidL kidA
  cases T.nx i c with
  | none => exact List.Sublist.refl _
  | some j => exact near_sub fu j _
theorem nearK_len {fu i : Nat} {p : List UInt8} {k : Nat} (hk : k ≤ 26) : (nearK T h most fu i p k).length ≤ (allL T (fu + 1) i).length := by
  have h1 : (nearK T h most fu i p k).Sublist (nearK T h most fu i p 26) := by
    unfold nearK
    refine (List.Sublist.refl _).append ?_
    exact flat_more _ hk
  have h2 := near_sub (T := T) (h := h) (most := most) (fu + 1) i p
  rw [nearL_eq] at h2
  exact (h1.trans h2).length_le
theorem allL_kid {fu i c j : Nat} (hc : c < 26) (hj : T.nx i c = some j) : (allL T fu j).length ≤ (allL T (fu + 1) i).length := by
  rw [allL_eq]
  have h1 : (allL T fu j).Sublist ((List.range 26).flatMap (kidA T fu i)) := by
    obtain ⟨d, hd⟩ : ∃ d, 26 = c + 1 + d := ⟨26 - (c + 1), by omega⟩
    rw [hd, List.range_add, List.flatMap_append, List.range_succ, List.flatMap_append]
    have e : allL T fu j = [c].flatMap (kidA T fu i) := by simp [kidA, hj]
    rw [e]
    exact ((List.sublist_append_right _ _).trans (List.sublist_append_left _ _))
  have := (h1.trans (List.sublist_append_right (endL T i) _)).length_le
  exact this

theorem all_mem : ∀ (fu i z : Nat), z ∈ allL T fu i → ∃ u k, T.go i u = some k ∧ T.en k = some z := by
  intro fu
  induction fu with
  | zero => intro i z hz; cases hz
  | succ fu ih =>
    intro i z hz
    rw [allL_eq] at hz
    rcases List.mem_append.1 hz with hz | hz
    · unfold endL at hz
      cases he : T.en i with
      | none => rw [he] at hz; cases hz
      | some y => rw [he] at hz; simp at hz; subst hz; exact ⟨[], i, rfl, he⟩
    · obtain ⟨c, _, hz⟩ := List.mem_flatMap.1 hz
      unfold kidA at hz
      cases hx : T.nx i c with
      | none => rw [hx] at hz; cases hz
      | some j =>
        rw [hx] at hz
        obtain ⟨u, k, h1, h2⟩ := ih j z hz
        exact ⟨c :: u, k, by rw [Tr.go_cons, hx]; exact h1, h2⟩
theorem go_app : ∀ (q u : List Nat) (a i k : Nat), T.go a q = some i → T.go i u = some k → T.go a (q ++ u) = some k := by
  intro q
  induction q with
  | nil => intro u a i k h1 h2; injection h1 with h1; subst h1; exact h2
  | cons c q ih =>
    intro u a i k h1 h2
    rw [Tr.go_cons] at h1
    rw [List.cons_append, Tr.go_cons]
    cases hx : T.nx a c with
    | none => rw [hx] at h1; cases h1
    | some j => rw [hx] at h1; exact ih u j i k h1 h2
theorem all_word {q : List Nat} {i fu z : Nat} {ws : List (List Nat)} (hq : T.go 0 q = some i) (hw : T.Has ws) (hz : z ∈ allL T fu i) : ∃ u, ws[z]? = some (q ++ u) := by
  obtain ⟨u, k, h1, h2⟩ := all_mem fu i z hz
  refine ⟨u, (hw _ z).1 ?_⟩
  unfold Tr.acc
  rw [go_app q u 0 i k hq h1]; exact h2
theorem all_nodup {ws : List (List Nat)} (hw : T.Has ws) : ∀ (fu i : Nat) (q : List Nat), T.go 0 q = some i → (allL T fu i).Nodup := by
  intro fu
  induction fu with
  | zero => intro i q _; exact List.nodup_nil
  | succ fu ih =>
    intro i q hq
    rw [allL_eq]
    have hkid : ∀ c z, z ∈ kidA T fu i c → ∃ u, ws[z]? = some (q ++ c :: u) := by
      intro c z hz
      unfold kidA at hz
      cases hx : T.nx i c with
      | none => rw [hx] at hz; cases hz
      | some j =>
        rw [hx] at hz
        have hqc : T.go 0 (q ++ [c]) = some j := by rw [Tr.go_snoc, hq]; exact hx
        obtain ⟨u, hu⟩ := all_word hqc hw hz
        exact ⟨u, by simpa using hu⟩
    refine List.pairwise_append.2 ⟨?_, List.pairwise_flatMap.2 ⟨fun c _ => ?_, ?_⟩, fun x hx y hy => ?_⟩
    · unfold endL; cases T.en i <;> simp
    · unfold kidA
      cases hx : T.nx i c with
      | none => exact List.Pairwise.nil
      | some j => exact ih j (q ++ [c]) (by rw [Tr.go_snoc, hq]; exact hx)
    · refine List.Pairwise.imp (fun {c c'} hne x hx y hy e => ?_) (List.nodup_range (n := 26))
      subst e
      obtain ⟨u, hu⟩ := hkid c x hx
      obtain ⟨v, hv⟩ := hkid c' x hy
      rw [hu] at hv
      injection hv with hv
      have := List.append_cancel_left hv
      injection this with h1 _
      exact hne h1
    · rintro rfl
      obtain ⟨c, _, hc⟩ := List.mem_flatMap.1 hy
      obtain ⟨u, hu⟩ := hkid c x hc
      have hx2 : ws[x]? = some q := by
        refine (hw q x).1 ?_
        unfold Tr.acc
        rw [hq]
        unfold endL at hx
        cases he : T.en i with
        | none => rw [he] at hx; cases hx
        | some y' => rw [he] at hx; simp at hx; rw [hx]; exact he
      rw [hx2] at hu
      injection hu with hu
      have := congrArg List.length hu
      simp at this
theorem all_len {ws : List (List Nat)} (hw : T.Has ws) (fu : Nat) : (allL T fu 0).length ≤ ws.length := by
  have hd := all_nodup hw fu 0 [] rfl
  have hm : ∀ z ∈ allL T fu 0, z < ws.length := fun z hz => by
    obtain ⟨u, hu⟩ := all_word (q := []) rfl hw hz
    exact (List.getElem?_eq_some_iff.1 hu).1
  exact nodup_lenN _ _ hd hm
theorem near_mem : ∀ (fu i : Nat) (p : List UInt8) (z : Nat), z ∈ nearL T h most fu i p → ∃ u k, T.go i u = some k ∧ T.en k = some z ∧ ((lev false (p ++ byts u) h.data.toList : Nat) : Int) ≤ most := by
  intro fu
  induction fu with
  | zero => intro i p z hz; cases hz
  | succ fu ih =>
    intro i p z hz
    rw [nearL_eq] at hz
    rcases List.mem_append.1 hz with hz | hz
    · unfold nearE at hz
      cases he : T.en i with
      | none => rw [he] at hz; cases hz
      | some y =>
        rw [he] at hz
        by_cases hm : ((lev false p h.data.toList : Nat) : Int) ≤ most
        · simp [hm] at hz; subst hz
          exact ⟨[], i, rfl, he, by simpa [byts] using hm⟩
        · simp [hm] at hz
    · obtain ⟨c, _, hz⟩ := List.mem_flatMap.1 hz
      unfold kidL at hz
      cases hx : T.nx i c with
      | none => rw [hx] at hz; cases hz
      | some j =>
        rw [hx] at hz
        obtain ⟨u, k, h1, h2, h3⟩ := ih j _ z hz
        exact ⟨c :: u, k, by rw [Tr.go_cons, hx]; exact h1, h2, by simpa [byts] using h3⟩
theorem mem_near (ho : T.Ok) : ∀ (fu i : Nat) (p : List UInt8) (z : Nat) (u : List Nat) (k : Nat), T.gs.length - i ≤ fu → i < T.gs.length → (∀ c ∈ u, c < 26) → T.go i u = some k → T.en k = some z → ((lev false (p ++ byts u) h.data.toList : Nat) : Int) ≤ most → z ∈ nearL T h most fu i p := by
  intro fu
  induction fu with
  | zero => intro i p z u k h1 h2; omega
  | succ fu ih =>
    intro i p z u k hf hi hu hg he hm
    rw [nearL_eq]
    unfold nearK
    cases u with
    | nil =>
      injection hg with hg
      subst hg
      refine List.mem_append_left _ ?_
      unfold nearE
      rw [he]
      have : ((lev false p h.data.toList : Nat) : Int) ≤ most := by simpa [byts] using hm
      simp [this]
    | cons c u =>
      refine List.mem_append_right _ (List.mem_flatMap.2 ⟨c, List.mem_range.2 (hu c (by simp)), ?_⟩)
      rw [Tr.go_cons] at hg
      unfold kidL
      cases hx : T.nx i c with
      | none => rw [hx] at hg; cases hg
      | some j =>
        rw [hx] at hg
        have := ho.kid i c j hx
        exact ih j _ z u k (by omega) this.2 (fun d hd => hu d (by simp [hd])) hg he (by simpa [byts] using hm)
end
theorem nodup_one {l : List Nat} {z : Nat} (hn : l.Nodup) (hm : ∀ x, x ∈ l ↔ x = z) : l = [z] := by
  match l, hn, hm with
  | [], _, hm => exact absurd ((hm z).2 rfl) (by simp)
  | [x], _, hm => rw [(hm x).1 (by simp)]
  | x :: y :: r, hn, hm =>
    have h1 := (hm x).1 (by simp)
    have h2 := (hm y).1 (by simp)
    rw [h1, h2] at hn
    simp at hn
theorem same_one {l m : List Nat} (hl : l.Nodup) (hm : m.Nodup) (h : ∀ x, x ∈ l ↔ x ∈ m) (z : Nat) : l = [z] ↔ m = [z] := by
  constructor
  · rintro rfl; exact nodup_one hm (fun x => by rw [← h x]; simp)
  · rintro rfl; exact nodup_one hl (fun x => by rw [h x]; simp)
end Go.Proofs.Ytfmlmgebomapjab
