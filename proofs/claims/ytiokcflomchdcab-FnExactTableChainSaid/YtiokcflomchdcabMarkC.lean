/-
  Marks in a chain's memory, written and still there.
-/
import Derived.Test.YtiokcflomchdcabMark3
import Derived.Test.YtiokcflomchdcabCh2
import Derived.Test.YtiokcflomchdcabHeld
namespace Go.Proofs.Ytiokcflomchdcab
open Go.RowKit

theorem Own3.from {B n c : Nat} {w : World} {A : Option Addr} {M : List SL} {LL : List (List SL)} {z3 : List (List (List Int))} (h : Own3 B w A n c M LL z3) : ∀ L ∈ LL, ∀ t ∈ L, ∀ g, t.1 = some ⟨g, 0, none⟩ → B ≤ g := by
  intro L hL t ht g hg
  obtain ⟨j, hj, e⟩ := List.getElem_of_mem hL
  have h1 : LL[j]? = some L := by rw [List.getElem?_eq_getElem hj, e]
  have hM : M[j]? = some (M[j]'(by have := h.lenM; have := h.lenL; omega)) := List.getElem?_eq_getElem _
  have hz : z3[j]? = some (z3[j]'(by have := h.lenL; omega)) := List.getElem?_eq_getElem _
  exact (h.inner j _ L _ hM h1 hz).from t ht g hg
theorem Own3.lts {B n c : Nat} {w : World} {A : Option Addr} {M : List SL} {LL : List (List SL)} {z3 : List (List (List Int))} (h : Own3 B w A n c M LL z3) : ∀ L ∈ LL, ∀ t ∈ L, ∀ g, t.1 = some ⟨g, 0, none⟩ → g < w.heap.size := by
  intro L hL t ht g hg
  obtain ⟨j, hj, e⟩ := List.getElem_of_mem hL
  have h1 : LL[j]? = some L := by rw [List.getElem?_eq_getElem hj, e]
  have hM : M[j]? = some (M[j]'(by have := h.lenM; have := h.lenL; omega)) := List.getElem?_eq_getElem _
  have hz : z3[j]? = some (z3[j]'(by have := h.lenL; omega)) := List.getElem?_eq_getElem _
  exact (h.inner j _ L _ hM h1 hz).lts t ht g hg
theorem Own3.flat {LL : List (List SL)} {P : SL → Prop} (h : ∀ L ∈ LL, ∀ t ∈ L, P t) : ∀ t ∈ LL.flatten, P t := by
  intro t ht
  obtain ⟨L, hL, ht⟩ := List.mem_flatten.1 ht
  exact h L hL t ht

theorem Own3.off {B B' n c nP cP : Nat} {w w' : World} {A AP : Option Addr} {M : List SL} {LL : List (List SL)} {z3 : List (List (List Int))} {P : List Int} (h : Own3 B w A n c M LL z3) (o : Own B' w AP nP cP P)
    (ap : ∀ L ∈ LL, ∀ t ∈ L, ∀ g, t.1 = some ⟨g, 0, none⟩ → AP ≠ some ⟨g, 0, none⟩) (on : Only AP w w') : Own3 B w' A n c M LL z3 :=
  ⟨ownsRow_keep h.outer (fun g hg => on.block g (own_ne h.outer o.1 (by decide) g hg)), h.lenM, h.lenL, fun j t L zss ht hL hz => (h.inner j t L zss ht hL hz).keepOn (fun g hg => on.block g (own_ne (h.inner j t L zss ht hL hz).outer o.1 (by decide) g hg)) (fun t ht g hg => on.block g (ap L (List.mem_of_getElem? hL) t ht g hg)), h.apart⟩

/-- A chain of a call's own, all blocks from B on; its places share no block with a table's row. -/
structure OwnC (B : Nat) (w : World) (c : Ch) (AT : Option Addr) (nT cT : Nat) (AP : Option Addr) (nP cP : Nat) (M : List SL) (LL : List (List SL)) : Prop where
  tabs : Own3 B w AT nT cT M LL c.T
  places : Own B w AP nP cP c.P
  apart : ∀ L ∈ LL, ∀ t ∈ L, ∀ g, t.1 = some ⟨g, 0, none⟩ → AP ≠ some ⟨g, 0, none⟩
section
variable {B B' nT cT nP cP : Nat} {w w' : World} {c : Ch} {AT AP : Option Addr} {M : List SL} {LL : List (List SL)}
theorem OwnC.rows (h : OwnC B w c AT nT cT AP nP cP M LL) : ChRows w.heap.size w c AT nT AP nP := ⟨h.tabs.row, h.places.row⟩
theorem OwnC.keep (h : OwnC B w c AT nT cT AP nP cP M LL) (hk : ∀ g, B ≤ g → g < w.heap.size → w'.heap[g]? = w.heap[g]?) : OwnC B w' c AT nT cT AP nP cP M LL :=
  ⟨h.tabs.keep hk, h.places.keep fun g hg => hk g (h.places.from g hg) (h.places.lt g hg), h.apart⟩
theorem OwnC.below (h : OwnC B w c AT nT cT AP nP cP M LL) (hb : Below w.heap.size w w') : OwnC B w' c AT nT cT AP nP cP M LL := h.keep fun g _ hg => hb.block g hg
theorem OwnC.lower (h : OwnC B w c AT nT cT AP nP cP M LL) (hB : B' ≤ B) : OwnC B' w c AT nT cT AP nP cP M LL := ⟨h.tabs.lower hB, h.places.lower hB, h.apart⟩
theorem OwnC.cut {S : Nat} (h3 : Own3 B w AT nT cT M LL c.T) (h1 : Own S w AP nP cP c.P) (hS : B ≤ S) (hu : ∀ L ∈ LL, ∀ t ∈ L, ∀ g, t.1 = some ⟨g, 0, none⟩ → g < S) : OwnC B w c AT nT cT AP nP cP M LL :=
  ⟨h3, h1.lower hS, fun L hL t ht g hg e => by have a := hu L hL t ht g hg; have b := h1.from g e; omega⟩
theorem heldC {hi : Nat} (h : OwnC B w c AT nT cT AP nP cP M LL) (hh : w.heap.size = hi) : Held (fun W => OwnC B W c AT nT cT AP nP cP M LL) B hi w := by
  subst hh
  exact fun _ ha => h.keep fun g h1 h2 => ha g h1 h2
end

def slots (LL : List (List SL)) (nP : Nat) : Nat := (sums (LL.map lens)).sum + nP
def markC (c : Ch) (k : Nat) (LL : List (List SL)) (nP : Nat) : Ch := { c with T := marks3 k (LL.map lens), P := marks (k + (sums (LL.map lens)).sum) nP }

/-- Written: the marks are in it, and of the older blocks only those of its own have turned. -/
def MarkedC (B : Nat) (c : Ch) (AT : Option Addr) (nT cT : Nat) (AP : Option Addr) (nP cP : Nat) (M : List SL) (LL : List (List SL)) (k : Nat) (K : Int) (w : World) (e : Ending) (w' : World) : Prop :=
  e = .returned (.int .i64 (K + (slots LL nP : Nat))) ∧ OwnC B w' (markC c k LL nP) AT nT cT AP nP cP M LL ∧ Below B w w' ∧
  ∀ hi, (∀ L ∈ LL, ∀ t ∈ L, ∀ g, t.1 = some ⟨g, 0, none⟩ → g < hi) → (∀ g, AP = some ⟨g, 0, none⟩ → g < hi) → Ran B hi w w'
set_option maxHeartbeats 1000000 in
theorem markChain_any {B nT cT nP cP : Nat} (c : Ch) (AT AP : Option Addr) (M : List SL) (LL : List (List SL)) (K : Int) (k : Nat) (hK : K = k) (w : World) (h : OwnC B w c AT nT cT AP nP cP M LL) (hB : B ≤ w.heap.size) (hk : k + slots LL nP ≤ 1000000000000) :
    Calls Try.prog 37 #[chV c AT nT cT AP nP cP, .int .i64 K] w (MarkedC B c AT nT cT AP nP cP M LL k K w) := by
  subst hK
  have hsl : slots LL nP = (sums (LL.map lens)).sum + nP := rfl
  rw [hsl] at hk
  obtain ⟨base, states, start, stop, T, P⟩ := c
  obtain ⟨w1, hw1⟩ : ∃ w1, w1 = w.alloc (.cells (chCells ⟨base, states, start, stop, T, P⟩ AT nT cT AP nP cP) 40) := ⟨_, rfl⟩
  have be1 : Below w.heap.size w w1 := by rw [hw1]; exact (Below.refl _ w).alloc (Nat.le_refl _) _
  have b1 : Blk w1 w.heap.size (chCells ⟨base, states, start, stop, T, P⟩ AT nT cT AP nP cP) 40 := by rw [hw1]; exact Blk.new _ _ _
  have h1 := h.below be1
  have q4 := b1.cell 4
  have lt := h.tabs.lts
  have MT := mark3_any AT nT cT (k : Int) k rfl M LL _ w1 h1.tabs (by omega)
  unfold Marked3 at MT
  obtain ⟨s, hs⟩ : ∃ s, s = (sums (LL.map lens)).sum := ⟨_, rfl⟩
  rw [← hs] at MT hk hsl
  have HS := Lib.hid hs
  clear hs
  have BE1 := Lib.hid be1
  have B1 := Lib.hid b1
  have H1 := Lib.hid h1
  clear be1 b1 h1
  go_enter Try.func37, Try.ntmps37
  go_wp2_with fail
  rw [show w.alloc (.cells #[.int .i64 base, .int .i64 states, .int .i64 start, .int .i64 stop, .slice AT nT cT, .slice AP nP cP] 40) = w1 from hw1.symm]
  have HW1 := Lib.hid hw1
  clear hw1
  (go_at_call 69; (with_reducible refine (MT).mono ?_); rintro e w2 ⟨rfl, ho2, on2⟩)
  have b2 : Blk w2 w.heap.size (chCells ⟨base, states, start, stop, T, P⟩ AT nT cT AP nP cP) 40 :=
    (on2.block w.heap.size fun t ht e => by
      have := Own3.flat (P := fun t => ∀ g, t.1 = some ⟨g, 0, none⟩ → g < w.heap.size) lt t ht _ e
      omega).trans B1.out
  have p2 : Own B w2 AP nP cP P := H1.out.places.keep fun g hg => on2.block g fun t ht e => by
    have := Own3.flat (P := fun t => ∀ g, t.1 = some ⟨g, 0, none⟩ → AP ≠ some ⟨g, 0, none⟩) H1.out.apart t ht g e
    exact this hg
  have q5 := b2.cell 5
  have MP := mark_any AP nP cP ((k : Int) + (s : Nat)) (k + s) (by omega) P w2 p2 (by omega)
  have ON2 := Lib.hid on2
  have HO2 := Lib.hid ho2
  have P2 := Lib.hid p2
  clear on2 ho2 p2 b2 MT
  go_wp2_with fail
  (go_at_call 50; (with_reducible refine (MP).mono ?_); rintro e w3 ⟨rfl, ho3, on3⟩)
  go_wp2_with fail
  go_ret
  have t3 : Own3 B w3 AT nT cT M LL (marks3 k (LL.map lens)) := HO2.out.off P2.out H1.out.apart on3
  refine ⟨by show Ending.returned (.int .i64 ((k : Int) + (s : Nat) + (nP : Nat))) = _; rw [hsl, Int.natCast_add, ← Int.add_assoc], ⟨t3, by unfold markC; rw [← HS.out]; exact ho3, H1.out.apart⟩, ?_, ?_⟩
  · refine (BE1.out.mono hB).trans (Below.trans (ON2.out.below (Own3.flat H1.out.tabs.from)) (on3.below H1.out.places.from))
  · intro hi h1 h2
    have r2 := ran_onlyL ON2.out (lo := B) (hi := hi) (Own3.flat H1.out.tabs.from) (Own3.flat h1)
    have r3 := ran_only on3 (lo := B) (hi := hi) H1.out.places.from h2
    have s1 := BE1.out.size
    exact ⟨(r3.os.trans r2.os).trans BE1.out.os, (r3.tape.trans r2.tape).trans BE1.out.tape, (r3.output.trans r2.output).trans BE1.out.output, Nat.le_trans s1 (Nat.le_trans r2.size r3.size), fun g hg hh => (r3.block g (by have := r2.size; omega) hh).trans ((r2.block g (by omega) hh).trans (BE1.out.block g hg))⟩
set_option maxHeartbeats 1000000 in
theorem heldChain_go {B nT cT nP cP : Nat} (c : Ch) (AT AP : Option Addr) (LL : List (List SL)) (k : Nat) (w : World) (h : ChRows B w c AT nT AP nP) (hT : c.T = marks3 k (LL.map lens)) (hP : c.P = marks (k + (sums (LL.map lens)).sum) nP) (hB : B ≤ w.heap.size) (hk : k + slots LL nP ≤ 1000000000000) :
    Calls Try.prog 38 #[chV c AT nT cT AP nP cP, .int .i64 k] w fun e w' => e = .returned (.int .i64 ((k : Int) + (slots LL nP : Nat))) ∧ Below w.heap.size w w' := by
  have hsl : slots LL nP = (sums (LL.map lens)).sum + nP := rfl
  rw [hsl] at hk
  obtain ⟨base, states, start, stop, T, P⟩ := c
  dsimp only at hT hP
  obtain ⟨w1, hw1⟩ : ∃ w1, w1 = w.alloc (.cells (chCells ⟨base, states, start, stop, T, P⟩ AT nT cT AP nP cP) 40) := ⟨_, rfl⟩
  have be1 : Below w.heap.size w w1 := by rw [hw1]; exact (Below.refl _ w).alloc (Nat.le_refl _) _
  have b1 : Blk w1 w.heap.size (chCells ⟨base, states, start, stop, T, P⟩ AT nT cT AP nP cP) 40 := by rw [hw1]; exact Blk.new _ _ _
  have h1 := h.below (be1.mono hB)
  obtain ⟨h1, h2⟩ := h1
  dsimp only at h1 h2
  rw [hT] at h1
  rw [hP] at h2
  have q4 := b1.cell 4
  have q5 := b1.cell 5
  have MT := held3_any AT nT cT (k : Int) k rfl (LL.map lens) w1 h1 (by omega)
  obtain ⟨s, hs⟩ : ∃ s, s = (sums (LL.map lens)).sum := ⟨_, rfl⟩
  rw [← hs] at MT hk hsl h2
  have HS := Lib.hid hs
  clear hs
  have MP := held_any AP nP cP ((k : Int) + (s : Nat)) (k + s) (by omega) w1 h2 (by omega)
  have BE1 := Lib.hid be1
  clear be1 b1 h1 h2 hT hP
  go_enter Try.func38, Try.ntmps38
  go_wp2_with fail
  rw [show w.alloc (.cells #[.int .i64 base, .int .i64 states, .int .i64 start, .int .i64 stop, .slice AT nT cT, .slice AP nP cP] 40) = w1 from hw1.symm]
  have HW1 := Lib.hid hw1
  clear hw1
  (go_at_call 70; (with_reducible refine (MT).mono ?_); rintro e w' ⟨rfl, rfl⟩)
  go_wp2_with fail
  (go_at_call 51; (with_reducible refine (MP).mono ?_); rintro e w' ⟨rfl, rfl⟩)
  go_wp2_with fail
  go_ret
  exact ⟨by show Ending.returned (.int .i64 ((k : Int) + (s : Nat) + (nP : Nat))) = _; rw [hsl, Int.natCast_add, ← Int.add_assoc], BE1.out⟩
theorem heldChain_any {B nT cT nP cP : Nat} (c : Ch) (AT AP : Option Addr) (LL : List (List SL)) (K : Int) (k : Nat) (hK : K = k) (w : World) (h : ChRows B w (markC c k LL nP) AT nT AP nP) (hB : B ≤ w.heap.size) (hk : k + slots LL nP ≤ 1000000000000) :
    Calls Try.prog 38 #[chV c AT nT cT AP nP cP, .int .i64 K] w fun e w' => e = .returned (.int .i64 (K + (slots LL nP : Nat))) ∧ Below w.heap.size w w' := by
  subst hK
  exact heldChain_go (markC c k LL nP) AT AP LL k w h rfl rfl hB hk
end Go.Proofs.Ytiokcflomchdcab
