/-
  Marks in slices of slices of slices that the call owns: written, and still there.
-/
import Derived.Test.YtiokcflomchdcaaOwn3
namespace Go.Proofs.Ytiokcflomchdcaa
open Go.RowKit

/-- It stays where its own blocks stay. -/
theorem Own2.keepOn {B : Nat} {w w' : World} {A : Option Addr} {n c : Nat} {L : List SL} {zss : List (List Int)} (h : Own2 B w A n c L zss) (hA : ∀ g, A = some ⟨g, 0, none⟩ → w'.heap[g]? = w.heap[g]?) (hL : ∀ t ∈ L, ∀ g, t.1 = some ⟨g, 0, none⟩ → w'.heap[g]? = w.heap[g]?) : Own2 B w' A n c L zss :=
  ⟨ownsRow_keep h.outer hA, h.len, fun j t zs ht hz => (h.inner j t zs ht hz).keep (hL t (List.mem_of_getElem? ht)), h.apart, h.out⟩

def marks3 (k : Nat) : List (List Nat) → List (List (List Int))
  | [] => []
  | ns :: r => marks2 k ns :: marks3 (k + ns.sum) r
theorem marks3_len (k : Nat) (nss : List (List Nat)) : (marks3 k nss).length = nss.length := by
  induction nss generalizing k with
  | nil => rfl
  | cons n r ih => simp [marks3, ih]
abbrev sums (nss : List (List Nat)) : List Nat := nss.map List.sum
theorem marks3_at (k : Nat) (nss : List (List Nat)) (j : Nat) (ns : List Nat) (h : nss[j]? = some ns) : (marks3 k nss)[j]? = some (marks2 (k + ((sums nss).take j).sum) ns) := by
  induction nss generalizing k j with
  | nil => simp at h
  | cons m r ih =>
    cases j with
    | zero => simp at h; subst h; simp [marks3]
    | succ j =>
      simp at h
      simp only [marks3, List.getElem?_cons_succ, sums, List.map_cons, List.take_succ_cons, List.sum_cons]
      rw [ih (k + m.sum) j h, Nat.add_assoc]
/-- The lists with marks in the first j of them. -/
def half3 (k j : Nat) (nss : List (List Nat)) (z3 : List (List (List Int))) : List (List (List Int)) := (marks3 k nss).take j ++ z3.drop j
theorem half3_len {k j : Nat} {nss : List (List Nat)} {z3 : List (List (List Int))} (h : nss.length = z3.length) (hj : j ≤ nss.length) : (half3 k j nss z3).length = z3.length := by
  simp [half3, marks3_len]; omega
theorem half3_lo {k j i : Nat} {nss : List (List Nat)} {z3 : List (List (List Int))} (h : i < j) (hj : j ≤ nss.length) : (half3 k j nss z3)[i]? = (marks3 k nss)[i]? := by
  unfold half3
  rw [List.getElem?_append_left (by simp [marks3_len]; omega), List.getElem?_take, if_pos h]
theorem half3_hi {k j i : Nat} {nss : List (List Nat)} {z3 : List (List (List Int))} (h : j ≤ i) (hj : j ≤ nss.length) : (half3 k j nss z3)[i]? = z3[i]? := by
  unfold half3
  have hl : ((marks3 k nss).take j).length = j := by simp [marks3_len]; omega
  rw [List.getElem?_append_right (by omega), List.getElem?_drop, hl]
  congr 1; omega
theorem OnlyL.wider {L L' : List SL} {w w' : World} (h : OnlyL L w w') (hs : ∀ t ∈ L, t ∈ L') : OnlyL L' w w' := ⟨h.os, h.tape, h.output, h.size, fun g hg => h.block g fun t ht => hg t (hs t ht)⟩
theorem OnlyL.trans {L : List SL} {a b c : World} (h : OnlyL L a b) (k : OnlyL L b c) : OnlyL L a c := ⟨k.os.trans h.os, k.tape.trans h.tape, k.output.trans h.output, k.size.trans h.size, fun g hg => (k.block g hg).trans (h.block g hg)⟩

def Marked3 (B : Nat) (A : Option Addr) (n c k : Nat) (K : Int) (M : List SL) (LL : List (List SL)) (w : World) (e : Ending) (w' : World) : Prop :=
  e = .returned (.int .i64 (K + ((sums (LL.map lens)).sum : Nat))) ∧ Own3 B w' A n c M LL (marks3 k (LL.map lens)) ∧ OnlyL LL.flatten w w'
set_option maxHeartbeats 1000000 in
theorem mark3_any {B : Nat} (A : Option Addr) (n c : Nat) (K : Int) (k : Nat) (hK : K = k) (M : List SL) (LL : List (List SL)) (z3 : List (List (List Int))) (w : World) (h : Own3 B w A n c M LL z3) (hk0 : k + (sums (LL.map lens)).sum ≤ 1000000000000) :
    Calls Try.prog 102 #[.slice A n c, .int .i64 K] w (Marked3 B A n c k K M LL w) := by
  subst hK
  have hn := h.n_eq
  have hlM := h.lenM
  have hlL := h.lenL
  have hle := h.row.le
  go_enter Try.func102, Try.ntmps102
  go_wp2
  go_loopw [1, 5] (fun q i wr => ∃ j : Nat, j ≤ n ∧ i = .int .i64 j ∧ q = .int .i64 ((k : Int) + (((sums (LL.map lens)).take j).sum : Nat)) ∧ Own3 B wr A n c M LL (half3 k j (LL.map lens) z3) ∧ OnlyL LL.flatten w wr) (fun _ i _ => n - (intOf i).toNat)
  case atStart => exact ⟨0, by omega, rfl, by simp, by simpa [half3] using h, OnlyL.refl _ _⟩
  case round =>
    obtain ⟨j, hj, rfl, rfl, ho, hon⟩ := hrel
    have hlenL : (LL.map lens).length = n := by simp; omega
    by_cases hlt : j < n
    · have hMj : M[j]? = some (M[j]'(by omega)) := List.getElem?_eq_getElem (by omega)
      obtain ⟨t, ht⟩ : ∃ t, t = M[j]'(by omega) := ⟨_, rfl⟩
      rw [← ht] at hMj
      have hLj : LL[j]? = some (LL[j]'(by omega)) := List.getElem?_eq_getElem (by omega)
      obtain ⟨L, hL⟩ : ∃ L, L = LL[j]'(by omega) := ⟨_, rfl⟩
      rw [← hL] at hLj
      have hzj : z3[j]? = some (z3[j]'(by omega)) := List.getElem?_eq_getElem (by omega)
      obtain ⟨zss, hzs⟩ : ∃ zss, zss = z3[j]'(by omega) := ⟨_, rfl⟩
      rw [← hzs] at hzj
      have hlj : (LL.map lens)[j]? = some (lens L) := by simp [hLj]
      have hsj : (sums (LL.map lens))[j]? = some (lens L).sum := by simp [hLj]
      have hi := ho.inner j t L zss hMj hLj (by rw [half3_hi (Nat.le_refl _) (by omega)]; exact hzj)
      obtain ⟨g, rfl⟩ : ∃ g, A = some ⟨g, 0, none⟩ := by
        rcases ownsRow_form ho.outer with ⟨_, h0, _⟩ | ⟨g, hA, _⟩
        · omega
        · exact ⟨g, hA⟩
      have hc : wr.cell? ⟨g, j, none⟩ = some (.slice t.1 t.2.1 t.2.2) := by
        rw [ho.outer.cellAt j (by omega), List.getElem?_map, hMj]; rfl
      have hs1 := sum_take_succ hsj
      have hs2 := sum_take_le (sums (LL.map lens)) (j + 1)
      obtain ⟨S, hS⟩ : ∃ S, S = ((sums (LL.map lens)).take j).sum := ⟨_, rfl⟩
      rw [← hS] at hs1
      have hcap := hi.cap
      obtain ⟨At, nt, ct⟩ := t
      have CM : Calls Try.prog 45 #[.slice At nt ct, .int .i64 ((k : Int) + (S : Int))] wr (Marked2 B At nt ct (k + S) ((k : Int) + (S : Int)) L wr) := mark2_any At nt ct _ (k + S) (by omega) L zss wr hi (by omega)
      have HMJ := Lib.hid hMj
      have HLJ := Lib.hid hLj
      have HLJ2 := Lib.hid hlj
      have HSJ := Lib.hid hsj
      have HHI := Lib.hid hi
      have HS1 := Lib.hid hs1
      have HS := Lib.hid hS
      have HZJ := Lib.hid hzj
      rw [← hS]
      clear hMj hLj hlj hsj ht hL hzs hi hs1 hs2 hS hzj
      go_wp2_with fail
      (go_at_call 45; (with_reducible refine (CM).mono ?_); rintro e w1 ⟨rfl, hm, hk1⟩)
      have X : Own3 B w1 (some ⟨g, 0, none⟩) n c M LL (half3 k (j + 1) (LL.map lens) z3) := by
        have notA : ∀ (t' : TypeId) (A' : Option Addr) (m1 n1 c1 B1 : Nat) (xs : List Value), wr.ownsRow B1 t' m1 (.slice A' n1 c1) n1 xs → t' ≠ 2 → ∀ g', A' = some ⟨g', 0, none⟩ → w1.heap[g']? = wr.heap[g']? := by
          intro t' A' m1 n1 c1 B1 xs ho' hne g' hg'
          refine hk1.block g' fun s hs e => ?_
          obtain ⟨q, hq, he⟩ := List.getElem_of_mem hs
          have h1 : L[q]? = some s := by rw [List.getElem?_eq_getElem hq, he]
          have hl := HHI.out.len
          have h2 : zss[q]? = some (zss[q]'(by omega)) := List.getElem?_eq_getElem (by omega)
          exact own_ne (HHI.out.inner q s _ h1 h2).1 ho' (fun q => hne q.symm) g' e hg'
        refine ⟨ownsRow_keep ho.outer (notA _ _ _ _ _ _ _ ho.outer (by decide)), by rw [half3_len (by omega) (by omega)]; exact hlM, by rw [half3_len (by omega) (by omega)]; exact hlL, ?_, ho.apart⟩
        intro i s L' ys hs hL' hy
        rcases Nat.lt_trichotomy i j with hij | rfl | hij
        · have hy2 : (half3 k j (LL.map lens) z3)[i]? = some ys := by
            rw [half3_lo (by omega) (by omega)] at hy ⊢; exact hy
          have hi := ho.inner i s L' ys hs hL' hy2
          exact hi.keepOn (notA _ _ _ _ _ _ _ hi.outer (by decide)) fun t ht g' hg' => hk1.block g' fun s' hs' e => ho.apart i j L' L t s' g' hL' HLJ.out (by omega) ht hs' hg' e
        · have e1 : s = (At, nt, ct) := by have := HMJ.out; rw [hs] at this; exact Option.some.inj this
          have e0 : L' = L := by have := HLJ.out; rw [hL'] at this; exact Option.some.inj this
          subst e1; subst e0
          rw [half3_lo (by omega) (by omega), marks3_at k (LL.map lens) i _ HLJ2.out] at hy
          have e2 := Option.some.inj hy
          rw [← e2, ← HS.out]
          exact hm
        · have hy2 : (half3 k j (LL.map lens) z3)[i]? = some ys := by
            rw [half3_hi (by omega) (by omega)] at hy ⊢; exact hy
          have hi := ho.inner i s L' ys hs hL' hy2
          exact hi.keepOn (notA _ _ _ _ _ _ _ hi.outer (by decide)) fun t ht g' hg' => hk1.block g' fun s' hs' e => ho.apart i j L' L t s' g' hL' HLJ.out (by omega) ht hs' hg' e
      have Y : OnlyL LL.flatten w w1 := hon.trans (hk1.wider fun t ht => List.mem_flatten.2 ⟨L, List.mem_of_getElem? HLJ.out, ht⟩)
      clear ho hon hm hk1
      have HX := Lib.hid X
      clear X
      go_wp2_with fail
      go_roundw
      case rel =>
        have := HS1.out
        exact ⟨j + 1, by omega, by go_num, by rw [this]; go_num, HX.out, Y⟩
      case measure => simp [intOf]; omega
    · obtain rfl : j = n := by omega
      go_wp2
      go_ret
      have e1 : (sums (LL.map lens)).take j = sums (LL.map lens) := List.take_of_length_le (by simp; omega)
      have e2 : half3 k j (LL.map lens) z3 = marks3 k (LL.map lens) := by
        unfold half3
        rw [List.take_of_length_le (by rw [marks3_len]; omega), List.drop_eq_nil_of_le (by omega)]; simp
      rw [e2] at ho
      exact ⟨by rw [e1]; rfl, ho, hon⟩
set_option maxHeartbeats 1000000 in
theorem held3_any {B : Nat} (A : Option Addr) (n c : Nat) (K : Int) (k : Nat) (hK : K = k) (nss : List (List Nat)) (w : World) (h : Rows3 B w A n (marks3 k nss)) (hk0 : k + (sums nss).sum ≤ 1000000000000) :
    Calls Try.prog 103 #[.slice A n c, .int .i64 K] w fun e w' => e = .returned (.int .i64 (K + ((sums nss).sum : Nat))) ∧ w = w' := by
  subst hK
  have hn : nss.length = n := by have := h.1; rwa [marks3_len] at this
  have hle := h.le
  go_enter Try.func103, Try.ntmps103
  go_wp2
  go_loop [1, 5] (fun q i => ∃ j : Nat, j ≤ n ∧ i = .int .i64 j ∧ q = .int .i64 ((k : Int) + (((sums nss).take j).sum : Nat))) (fun _ i => n - (intOf i).toNat)
  case atStart => exact ⟨0, by omega, rfl, by simp⟩
  case round =>
    obtain ⟨j, hj, rfl, rfl⟩ := hrel
    by_cases hlt : j < n
    · obtain ⟨b, o, Aj, nj, cj, zss, rfl, _, hz, hc, hcap, hr⟩ := h.2.2 j hlt
      have hlj : nss[j]? = some (nss[j]'(by omega)) := List.getElem?_eq_getElem (by omega)
      obtain ⟨ns, hm⟩ : ∃ ns, ns = nss[j]'(by omega) := ⟨_, rfl⟩
      rw [← hm] at hlj
      have hsj : (sums nss)[j]? = some ns.sum := by simp [hlj]
      rw [marks3_at k nss j ns hlj] at hz
      have hz2 := Option.some.inj hz
      subst hz2
      have hs1 := sum_take_succ hsj
      have hs2 := sum_take_le (sums nss) (j + 1)
      obtain ⟨S, hS⟩ : ∃ S, S = ((sums nss).take j).sum := ⟨_, rfl⟩
      rw [← hS] at hs1 hr
      rw [← hS]
      have HS1 := Lib.hid hs1
      obtain ⟨m, hmm⟩ : ∃ m, m = ns.sum := ⟨_, rfl⟩
      rw [← hmm] at hs1 HS1
      have CM : Calls Try.prog 60 #[.slice Aj nj cj, .int .i64 ((k : Int) + (S : Int))] w fun e w' => e = .returned (.int .i64 ((k : Int) + (S : Int) + (m : Int))) ∧ w = w' := by
        rw [hmm]; exact held2_any Aj nj cj _ (k + S) (by omega) ns w hr (by omega)
      have t1 : 0 ≤ (k : Int) + (S : Int) + (m : Int) := by omega
      clear hz hlj hsj hm hs1 hs2 hS hr hmm
      go_wp2_with (go_at_call 60; (with_reducible refine (CM).mono ?_); rintro e w' ⟨rfl, rfl⟩)
      go_round
      case rel => exact ⟨j + 1, by omega, by go_num, by rw [HS1.out]; go_num⟩
      case measure => simp [intOf]; omega
    · obtain rfl : j = n := by omega
      go_wp2
      go_ret
      have e1 : (sums nss).take j = sums nss := List.take_of_length_le (by simp; omega)
      exact ⟨by rw [e1]; rfl, rfl⟩
end Go.Proofs.Ytiokcflomchdcaa
