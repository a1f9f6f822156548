/-
  Orders as numbers: inverses, compositions, powers and cycles; no program here.
-/
import Derived.Test.YtlgoopjbjamlmaaPower
namespace Go.Proofs.Ytlgoopjbjamlmaa
open Go.RowKit

theorem ordGo_of {n : Int} : ∀ (zs pre : List Int), (∀ z ∈ zs, 0 ≤ z ∧ z < n) → zs.Nodup → (∀ z ∈ zs, z ∉ pre) → ordGo n pre zs = true := by
  intro zs
  induction zs with
  | nil => intro pre _ _ _; rfl
  | cons x r ih =>
    intro pre h1 h2 h3
    rw [List.nodup_cons] at h2
    simp only [ordGo, Bool.and_eq_true, Bool.not_eq_true']
    refine ⟨⟨inB_true.2 (by have := h1 x (by simp); omega), ?_⟩, ih _ (fun z hz => h1 z (by simp [hz])) h2.2 ?_⟩
    · have := h3 x (by simp)
      simpa [hasB] using this
    · intro z hz hm
      rcases List.mem_append.1 hm with hm | hm
      · exact h3 z (by simp [hz]) hm
      · rw [List.mem_singleton.1 hm] at hz
        exact h2.1 hz
theorem isOrd_of {zs : List Int} (h0 : 1 ≤ zs.length ∧ zs.length ≤ 36) (h1 : ∀ z ∈ zs, 0 ≤ z ∧ z < (zs.length : Int)) (h2 : zs.Nodup) : isOrd zs = true := by
  simp only [isOrd, Bool.and_eq_true, decide_eq_true_eq]
  exact ⟨h0, ordGo_of _ _ h1 h2 (by simp)⟩
theorem Perm.onto {n : Nat} {f : Nat → Nat} (h : Perm n f) {y : Nat} (hy : y < n) : ∃ x, x < n ∧ f x = y := by
  have hs := h.per_spec hy
  refine ⟨it f (per f n y - 1) y, h.it_lt hy _, ?_⟩
  have : it f (per f n y - 1 + 1) y = y := by
    rw [Nat.sub_add_cancel (by unfold per; omega)]; exact hs.2.1
  exact this
theorem nodup_of_inj {zs : List Int} (h : ∀ (a b : Nat) (x : Int), zs[a]? = some x → zs[b]? = some x → a = b) : zs.Nodup := by
  unfold List.Nodup
  rw [List.pairwise_iff_getElem]
  intro i j hi hj hij e
  have := h i j (zs[i]'hi) (List.getElem?_eq_getElem hi) (by rw [e]; exact List.getElem?_eq_getElem hj)
  omega
/-- The composition of two orders is one. -/
theorem compV_ord {zs ys : List Int} (h1 : isOrd zs = true) (h2 : isOrd ys = true) (hl : zs.length = ys.length) : isOrd (compV zs ys) = true := by
  have p1 := ord_perm h1
  have p2 := ord_perm h2
  have at_ : ∀ x, x < ys.length → (compV zs ys)[x]? = some ((fnOf zs (fnOf ys x) : Nat) : Int) := by
    intro x hx
    have a := ord_at h2 hx
    have b := ord_at h1 (x := fnOf ys x) (by rw [hl]; exact p2.lt x hx)
    exact compV_at a (by simpa using b)
  refine isOrd_of (by rw [compV_len]; exact ord_len h2) ?_ (nodup_of_inj ?_)
  · intro z hz
    obtain ⟨x, hx, e⟩ := List.getElem_of_mem hz
    rw [compV_len] at hx ⊢
    have := at_ x hx
    rw [List.getElem?_eq_getElem (by rw [compV_len]; exact hx), e] at this
    injection this with this
    have b := p1.lt (fnOf ys x) (by rw [hl]; exact p2.lt x hx)
    omega
  · intro a b x ha hb
    have la : a < ys.length := by have := (List.getElem?_eq_some_iff.1 ha).1; rwa [compV_len] at this
    have lb : b < ys.length := by have := (List.getElem?_eq_some_iff.1 hb).1; rwa [compV_len] at this
    rw [at_ a la] at ha
    rw [at_ b lb, ← ha] at hb
    injection hb with hb
    have e : fnOf zs (fnOf ys a) = fnOf zs (fnOf ys b) := by omega
    exact p2.inj a b la lb (p1.inj _ _ (by rw [hl]; exact p2.lt a la) (by rw [hl]; exact p2.lt b lb) e)
theorem compV_get {zs ys : List Int} (h1 : isOrd zs = true) (h2 : isOrd ys = true) (hl : zs.length = ys.length) {x : Nat} (hx : x < ys.length) : (compV zs ys)[x]? = some ((fnOf zs (fnOf ys x) : Nat) : Int) := by
  have p2 := ord_perm h2
  have a := ord_at h2 hx
  have b := ord_at h1 (x := fnOf ys x) (by rw [hl]; exact p2.lt x hx)
  exact compV_at a (by simpa using b)
/-- The inverse of an order: what it does before the order, the order undoes. -/
theorem invPart_at {f : List Int} (h : isOrd f = true) : ∀ k, k ≤ f.length → ∀ j, j < k → (invPart f k)[fnOf f j]? = some (j : Int) := by
  have p := ord_perm h
  intro k
  induction k with
  | zero => intro _ j hj; omega
  | succ k ih =>
    intro hk j hj
    have hfk := ord_at h (x := k) (by omega)
    have e : (f.getD k 0).toNat = fnOf f k := rfl
    rw [invPart_next, invPut, e]
    have hl : (invPart f k).length = f.length := invPart_len f k
    by_cases hjk : j = k
    · subst hjk
      rw [List.getElem?_set_self (by rw [hl]; exact p.lt j (by omega))]
    · rw [List.getElem?_set_ne (fun e => hjk (p.inj _ _ (by omega) (by omega) e.symm))]
      exact ih (by omega) j (by omega)
theorem invL_at {f : List Int} (h : isOrd f = true) {j : Nat} (hj : j < f.length) : (invL f)[fnOf f j]? = some (j : Int) := invPart_at h _ (Nat.le_refl _) j hj
theorem invL_len (f : List Int) : (invL f).length = f.length := invPart_len f _
theorem invL_pre {f : List Int} (h : isOrd f = true) {y : Nat} (hy : y < f.length) : ∃ x, x < f.length ∧ fnOf f x = y ∧ (invL f)[y]? = some (x : Int) := by
  obtain ⟨x, hx, e⟩ := (ord_perm h).onto hy
  exact ⟨x, hx, e, by rw [← e]; exact invL_at h hx⟩
theorem invL_ord {f : List Int} (h : isOrd f = true) : isOrd (invL f) = true := by
  refine isOrd_of (by rw [invL_len]; exact ord_len h) ?_ (nodup_of_inj ?_)
  · intro z hz
    obtain ⟨y, hy, e⟩ := List.getElem_of_mem hz
    rw [invL_len] at hy ⊢
    obtain ⟨x, hx, _, e2⟩ := invL_pre h hy
    rw [List.getElem?_eq_getElem (by rw [invL_len]; exact hy), e] at e2
    injection e2 with e2
    omega
  · intro a b x ha hb
    have la : a < f.length := by have := (List.getElem?_eq_some_iff.1 ha).1; rwa [invL_len] at this
    have lb : b < f.length := by have := (List.getElem?_eq_some_iff.1 hb).1; rwa [invL_len] at this
    obtain ⟨x1, _, e1, f1⟩ := invL_pre h la
    obtain ⟨x2, _, e2, f2⟩ := invL_pre h lb
    rw [ha] at f1; rw [hb] at f2
    injection f1 with f1; injection f2 with f2
    have : x1 = x2 := by omega
    rw [← e1, ← e2, this]
theorem compV_inv {f : List Int} (h : isOrd f = true) {y : Nat} (hy : y < f.length) : (compV f (invL f))[y]? = some (y : Int) := by
  obtain ⟨x, hx, e, h1⟩ := invL_pre h hy
  have := ord_at h hx
  rw [e] at this
  exact compV_at h1 (by simpa using this)
/-! Powers. -/
theorem seen_in {f : Nat → Nat} {n : Nat} (hp : Perm n f) : ∀ i, i ≤ n → ∀ x, seenB f n i x = true → ∃ cs ∈ cycs f n i, x ∈ cs := by
  intro i
  induction i with
  | zero => intro _ x h; simp [seenB] at h
  | succ i ih =>
    intro hi x h
    by_cases hs : seenB f n i i = true
    · rw [hp.seen_skip (by omega) hs] at h
      obtain ⟨cs, hc, hx⟩ := ih (by omega) x h
      exact ⟨cs, by unfold cycs; rw [if_pos hs]; exact hc, hx⟩
    · simp only [seenB, Bool.or_eq_true, decide_eq_true_eq] at h
      unfold cycs
      rw [if_neg hs]
      rcases h with h | h
      · obtain ⟨cs, hc, hx⟩ := ih (by omega) x h
        exact ⟨cs, by simp [hc], hx⟩
      · exact ⟨_, by simp, h⟩
theorem seen_all {f : Nat → Nat} {n : Nat} (hp : Perm n f) : ∀ i, i ≤ n → ∀ x, x < i → seenB f n i x = true := by
  intro i
  induction i with
  | zero => intro _ x h; omega
  | succ i ih =>
    intro hi x h
    simp only [seenB, Bool.or_eq_true, decide_eq_true_eq]
    by_cases hx : x = i
    · subst hx
      exact .inr (hp.mem_cyc (by omega) 0)
    · exact .inl (ih (by omega) x (by omega))
theorem all_in {f : Nat → Nat} {n : Nat} (hp : Perm n f) {x : Nat} (hx : x < n) : ∃ cs ∈ cycs f n n, x ∈ cs := seen_in hp n (Nat.le_refl _) x (seen_all hp n (Nat.le_refl _) x hx)
theorem powCyc_at {f : Nat → Nat} {n M s : Nat} (hp : Perm n f) (hs : s < n) {out : List Int} (hl : out.length = n) (S : Nat → Prop) (h : ∀ x, S x → x < n → out[x]? = some ((it f M x : Nat) : Int)) :
    ∀ k, k ≤ per f n s → ∀ x, (S x ∨ ∃ j, j < k ∧ it f j s = x) → x < n → (powCyc (cyc f n s) M out k)[x]? = some ((it f M x : Nat) : Int) := by
  intro k
  induction k with
  | zero =>
    intro _ x hx hxn
    rcases hx with hx | ⟨j, hj, _⟩
    · simpa [powCyc] using h x hx hxn
    · omega
  | succ k ih =>
    intro hk x hx hxn
    rw [powCyc_next, powPut]
    have e1 : (cyc f n s).getD k 0 = it f k s := by rw [List.getD_eq_getElem?_getD, cyc_at (by omega)]; rfl
    have e2 : (cyc f n s).getD ((k + M) % (cyc f n s).length) 0 = it f (k + M) s := by
      rw [cyc_len, List.getD_eq_getElem?_getD, cyc_at (Nat.mod_lt _ (by omega))]
      exact hp.it_mod hs _
    rw [e1, e2]
    have hlen : (powCyc (cyc f n s) M out k).length = n := by rw [powCyc_len, hl]
    by_cases hxk : it f k s = x
    · subst hxk
      rw [List.getElem?_set_self (by rw [hlen]; exact hxn)]
      rw [Nat.add_comm k M, it_add]
    · rw [List.getElem?_set_ne hxk]
      refine ih (by omega) x ?_ hxn
      rcases hx with hx | ⟨j, hj, e⟩
      · exact .inl hx
      · exact .inr ⟨j, by rcases Nat.lt_or_ge j k with h | h
                          · exact h
                          · exact absurd (by have : j = k := by omega
                                             rw [← this]; exact e) hxk, e⟩
theorem powAll_at {f : Nat → Nat} {n M : Nat} (hp : Perm n f) : ∀ (css : List (List Nat)) (out : List Int) (S : Nat → Prop), (∀ cs ∈ css, ∃ s, s < n ∧ cs = cyc f n s) → out.length = n → (∀ x, S x → x < n → out[x]? = some ((it f M x : Nat) : Int)) →
    ∀ x, (S x ∨ ∃ cs ∈ css, x ∈ cs) → x < n → (powAll css M out)[x]? = some ((it f M x : Nat) : Int) := by
  intro css
  induction css with
  | nil =>
    intro out S _ _ h x hx hxn
    rcases hx with hx | ⟨cs, hc, _⟩
    · exact h x hx hxn
    · simp at hc
  | cons cs r ih =>
    intro out S hc hl h x hx hxn
    obtain ⟨s, hs, rfl⟩ := hc cs (by simp)
    have hstep := powCyc_at hp hs hl S h (per f n s) (Nat.le_refl _)
    have : powAll (cyc f n s :: r) M out = powAll r M (powCyc (cyc f n s) M out (cyc f n s).length) := rfl
    rw [this, cyc_len]
    refine ih _ (fun x => S x ∨ x ∈ cyc f n s) (fun c hm => hc c (by simp [hm])) (by rw [powCyc_len, hl]) ?_ x ?_ hxn
    · intro y hy hyn
      refine hstep y ?_ hyn
      rcases hy with hy | hy
      · exact .inl hy
      · exact .inr (mem_cyc.1 hy)
    · rcases hx with hx | ⟨c, hm, hxc⟩
      · exact .inl (.inl hx)
      · rcases List.mem_cons.1 hm with rfl | hm
        · exact .inl (.inr hxc)
        · exact .inr ⟨c, hm, hxc⟩
theorem powL_at {zs : List Int} (h : isOrd zs = true) (M : Nat) {x : Nat} (hx : x < zs.length) : (powL zs M)[x]? = some ((it (fnOf zs) M x : Nat) : Int) := by
  have hp := ord_perm h
  unfold powL
  refine powAll_at hp _ _ (fun _ => False) (fun cs hc => ?_) (by simp) (fun x hx _ => hx.elim) x (.inr (all_in hp hx)) hx
  obtain ⟨j, hj, e, _⟩ := cycs_mem hc
  exact ⟨j, hj, e⟩
theorem it_next {zs : List Int} (h : isOrd zs = true) {x : Nat} (hx : x < zs.length) (k : Nat) : zs[it (fnOf zs) k x]? = some ((it (fnOf zs) (k + 1) x : Nat) : Int) := ord_at h ((ord_perm h).it_lt hx k)
/-! Cycles. -/
theorem le_of_all : ∀ (n : Nat) (l : List Nat), (∀ x, x < n → x ∈ l) → n ≤ l.length := by
  intro n
  induction n with
  | zero => intro l _; omega
  | succ n ih =>
    intro l h
    have hm := h n (by omega)
    have := ih (l.erase n) (fun x hx => (List.mem_erase_of_ne (by omega)).2 (h x (by omega)))
    rw [List.length_erase_of_mem hm] at this
    have := List.length_pos_of_mem hm
    omega
theorem cyc_nodup {f : Nat → Nat} {n s : Nat} (hp : Perm n f) (hs : s < n) : (cyc f n s).Nodup := by
  unfold cyc List.Nodup
  rw [List.pairwise_map]
  refine List.Pairwise.imp_of_mem ?_ (List.pairwise_lt_range (n := per f n s))
  intro a b ha hb hab e
  have hb2 := List.mem_range.1 hb
  exact (hp.per_spec hs).2.2 (b - a) (by omega) (by omega) (hp.cancel hs (by omega) e)
theorem cycs_flat {f : Nat → Nat} {n : Nat} (hp : Perm n f) : ∀ i, i ≤ n → (cycs f n i).flatten.Nodup ∧ (∀ x ∈ (cycs f n i).flatten, x < n) ∧ ∀ x ∈ (cycs f n i).flatten, seenB f n i x = true := by
  intro i
  induction i with
  | zero => intro _; simp [cycs]
  | succ i ih =>
    intro hi
    obtain ⟨h1, h2, h3⟩ := ih (by omega)
    unfold cycs
    by_cases hs : seenB f n i i = true
    · rw [if_pos hs]
      exact ⟨h1, h2, fun x hx => by rw [hp.seen_skip (by omega) hs]; exact h3 x hx⟩
    · rw [if_neg hs]
      simp only [List.flatten_append, List.flatten_cons, List.flatten_nil, List.append_nil]
      refine ⟨List.nodup_append.2 ⟨h1, cyc_nodup hp (by omega), fun a ha b hb e => ?_⟩, fun x hx => ?_, fun x hx => ?_⟩
      · subst e
        have := h3 a ha
        obtain ⟨k, _, e⟩ := mem_cyc.1 hb
        rw [← e, hp.seen_it (by omega) (by omega) k] at this
        exact hs this
      · rcases List.mem_append.1 hx with hx | hx
        · exact h2 x hx
        · exact hp.cyc_lt (by omega) hx
      · simp only [seenB, Bool.or_eq_true, decide_eq_true_eq]
        rcases List.mem_append.1 hx with hx | hx
        · exact .inl (h3 x hx)
        · exact .inr hx
theorem cycs_sum {f : Nat → Nat} {n : Nat} (hp : Perm n f) : ((cycs f n n).map List.length).sum = n := by
  rw [← List.length_flatten]
  have h := cycs_flat hp n (Nat.le_refl _)
  have a := nodup_le n _ h.1 h.2.1
  have b := le_of_all n (cycs f n n).flatten (fun x hx => by
    obtain ⟨cs, hc, hm⟩ := all_in hp hx
    exact List.mem_flatten.2 ⟨cs, hc, hm⟩)
  omega
theorem cyc_least {f : Nat → Nat} {n s x : Nat} (hp : Perm n f) (hs : s < n) (h : seenB f n s s = false) (hx : x ∈ cyc f n s) : s ≤ x := by
  obtain ⟨k, _, rfl⟩ := mem_cyc.1 hx
  rcases Nat.lt_or_ge (it f k s) s with hlt | hge
  · have := seen_all hp s (by omega) _ hlt
    rw [hp.seen_it (by omega) hs k, h] at this
    cases this
  · exact hge
theorem cyc_wrap {f : Nat → Nat} {n s k : Nat} (hp : Perm n f) (hs : s < n) : (cyc f n s)[(k + 1) % (cyc f n s).length]? = some (it f (k + 1) s) := by
  rw [cyc_len, cyc_at (Nat.mod_lt _ (by unfold per; omega)), hp.it_mod hs]
end Go.Proofs.Ytlgoopjbjamlmaa
