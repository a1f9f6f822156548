/-
  The model's even chain.
-/
import Derived.Test.YtiokcflomchdcabLOwn
import Derived.Test.YtiokcflomchdcabCh2
import Derived.Test.YtiokcflomchdcabLast
import Derived.Test.YtiokcflomchdcabMarkC
import Derived.Test.YtiokcflomchdcabSix
import Derived.Deep.AppendLies
namespace Go.Proofs.Ytiokcflomchdcab
open Go.RowKit

theorem cell_oneS (w : World) (x : Value) (t : TypeId) : ∀ j u, [x][j]? = some u → (w.alloc (.cells #[x] t)).cell? ((⟨w.heap.size, 0, none⟩ : Addr).add j) = some u := by
  intro j u hj
  match j, hj with
  | 0, hj => simp at hj; subst hj; simp [Addr.add]
  | j + 1, hj => simp at hj
theorem blk_ne {B b n c m : Nat} {w : World} {cs : Array Value} {t u : TypeId} {A : Option Addr} {xs : List Value} (h : Blk w b cs t) (o : w.ownsRow B u m (.slice A n c) n xs) (ht : u ≠ t) : A ≠ some ⟨b, 0, none⟩ := by
  intro e
  subst e
  rcases o.2 with ⟨hv, _⟩ | ⟨g, cap, cur, hv, _, hg, _⟩
  · cases hv
  · injection hv with h1
    injection h1 with h1
    injection h1 with h1
    subst h1
    unfold Blk at h
    rw [h] at hg
    injection hg with hg
    injection hg with _ hg
    exact ht hg.symm
/-- Behind an append of a row that a call has made. -/
theorem Own2.pushed {B k cc nj c' cc3 : Nat} {W W1 w3 : World} {A A' A3 : Option Addr} {L : List SL} {zss : List (List Int)} {zs : List Int} {o : Obj} (h : Own2 B W A k cc L zss) (hB : B ≤ W.heap.size) (hb1 : Below W.heap.size W W1) (ho : Own W.heap.size W1 A' nj c' zs)
    (ho3 : w3.ownsRow B 38 1 (.slice A3 (k + 1) cc3) (k + 1) (L.map sliceV ++ [.slice A' nj c'])) (hg3 : (W1.alloc o).grownBy w3 (Value.slice A k cc).ownBlock) : Own2 B w3 A3 (k + 1) cc3 (L ++ [(A', nj, c')]) (zss ++ [zs]) := by
  have h1 := h.below hb1
  have hsz := hb1.size
  have hkeep : ∀ g, g < W1.heap.size → A ≠ some ⟨g, 0, none⟩ → w3.heap[g]? = W1.heap[g]? := fun g hg hne => by
    rw [hg3.block g (by simp; omega) (fun e => hne (by
      rcases ownsRow_form h1.outer with ⟨hA, _⟩ | ⟨g', hA, _⟩
      · rw [hA] at e; cases e
      · rw [hA] at e ⊢; simp [Value.ownBlock] at e; rw [e])), Below.heap_alloc _ _ _ hg]
  have hA2 : ∀ g, A = some ⟨g, 0, none⟩ → g < W.heap.size := fun g hg => by
    rcases ownsRow_form h.outer with ⟨hA, _⟩ | ⟨g', hA, _, hl, _⟩
    · rw [hA] at hg; cases hg
    · rw [hA] at hg; injection hg with hg; injection hg with hg; omega
  have hl := h.len
  have hz : ∀ j (t : SL), L[j]? = some t → ∃ zs, zss[j]? = some zs := fun j t ht => by
    have hj := (List.getElem?_eq_some_iff.1 ht).1
    exact ⟨_, List.getElem?_eq_getElem (by omega)⟩
  refine Own2.snoc h1 ho3 ?_ ?_ ?_
  · refine (ho.keep fun g hg => hkeep g (ho.lt g hg) (fun e => ?_)).lower hB
    have a := hA2 g e
    have b := ho.from g hg
    omega
  · intro j t g ht hg
    obtain ⟨zs', hz⟩ := hz j t ht
    exact hkeep g ((h1.inner j t _ ht hz).lt g hg) (h1.out j t g ht hg)
  · intro j t g ht hg e
    obtain ⟨zs', hz⟩ := hz j t ht
    have a := (h.inner j t _ ht hz).lt g hg
    have b := ho.from g e
    omega

/-- What it returns: a chain with one table, copied, and zeros for places. -/
def EvenC (t : List (List Int)) (places : Nat) (start stop : Int) : Ch := ⟨(t.headD []).length, t.length, start, stop, [t], List.replicate places 0⟩
/-- A chain of the call's own. -/
def MadeD (B : Nat) (c : Ch) (w : World) (e : Ending) (w' : World) : Prop :=
  ∃ AT cT AP cP M LL, e = .returned (chV c AT c.T.length cT AP c.P.length cP) ∧ OwnC B w' c AT c.T.length cT AP c.P.length cP M LL ∧ Below B w w'
/-- What stands after k rounds: the chain at b, its only table at s + 2. -/
structure EvenAt (s0 b k pl : Nat) (n start stop : Int) (t : List (List Int)) (w w' : World) (A : Option Addr) (cc : Nat) (L : List SL) : Prop where
  chain : Blk w' b #[.int .i64 0, .int .i64 n, .int .i64 start, .int .i64 stop, .slice (some ⟨s0 + 1 + 1, 0, none⟩) 1 1, .slice (some ⟨s0 + 1 + 1 + 1, 0, none⟩) pl pl] 40
  tabs : Blk w' (s0 + 1 + 1) #[.slice A k cc] 22
  ret : Blk w' s0 #[.int .i64 0, .int .i64 0, .int .i64 0, .int .i64 0, nilV, nilV] 40
  own : Own2 s0 w' A k cc L (t.take k)
  past : ∀ u ∈ L, ∀ g, u.1 = some ⟨g, 0, none⟩ → b < g
  places : Own s0 w' (some ⟨s0 + 1 + 1 + 1, 0, none⟩) pl pl (List.replicate pl 0)
  bel : Below s0 w w'

set_option maxRecDepth 100000 in
set_option maxHeartbeats 8000000 in
theorem l02Even_any {B : Nat} (A : Option Addr) (n c pl : Nat) (start stop : Int) (t : List (List Int)) (w : World) (hr : Rows2 B w A n t) (hB : B ≤ w.heap.size) (hn0 : 0 < n) (hn : n ≤ 36) (hpl : pl ≤ 20) (hs : ∀ zs ∈ t, zs.length ≤ 1048576) :
    Calls Try.prog 65 #[.slice A n c, .int .i64 pl, .int .i64 start, .int .i64 stop] w (MadeD w.heap.size (EvenC t pl start stop) w) := by
  obtain ⟨i0, hi, hz0, hz1, hz2⟩ := info_parts info64
  obtain ⟨iS, hiS, hzS0, hzS1, hzS2⟩ := info_parts infoS
  have hl := hr.len
  go_enter Try.func65, Try.ntmps65
  go_wp2_with (refine wpList_make_full _ rfl _ _ 38 rfl w.heap.size 2 i0 (.int .i64 0) 1 Try.underlying38 hi hz0 hz1 .i64 .i64 pl pl pl rfl rfl rfl rfl ?m1 ?m2 ?m3 ?_)
  case m1 => rw [hz2]; omega
  case m2 => unfold maxLen; omega
  case m3 => simp; omega
  intro w2 hrow hg
  have e2 : (madeCells #[Value.int .i64 0] pl).toList = cells64 (List.replicate pl 0) := by simp [cells64, toList_madeCells_one]
  rw [e2] at hrow
  have OP := Lib.hid (show Own w.heap.size w2 (some ⟨w.heap.size + 1 + 1 + 1, 0, none⟩) pl pl (List.replicate pl 0) from ⟨hrow, fun z hz => by rw [List.eq_of_mem_replicate hz]; rfl⟩)
  have bel2 : Below w.heap.size w w2 := by
    refine Below.grown ((((Below.refl _ w).alloc (Nat.le_refl _) _).alloc (by simp) _).alloc (by simp; omega) _) hg (by simp; omega) (fun k hk => by cases hk)
  obtain ⟨wa, hwa⟩ : ∃ wa, wa = w.alloc (.cells #[.int .i64 0, .int .i64 0, .int .i64 0, .int .i64 0, nilV, nilV] 40) := ⟨_, rfl⟩
  obtain ⟨wb, hwb⟩ : ∃ wb, wb = wa.alloc (.cells #[] 38) := ⟨_, rfl⟩
  rw [← hwa, ← hwb] at hg
  have sa : wa.heap.size = w.heap.size + 1 := by rw [hwa]; simp
  have sb : wb.heap.size = w.heap.size + 1 + 1 := by rw [hwb]; simp [sa]
  have bk0 : Blk w2 w.heap.size #[.int .i64 0, .int .i64 0, .int .i64 0, .int .i64 0, nilV, nilV] 40 := by
    unfold Blk
    rw [hg.block _ (by simp; omega) (by simp)]
    have h : Blk wa w.heap.size #[.int .i64 0, .int .i64 0, .int .i64 0, .int .i64 0, nilV, nilV] 40 := by rw [hwa]; exact Blk.new _ _ _
    rw [hwb]
    exact (h.alloc _).alloc _
  have bk1 : Blk w2 (w.heap.size + 1) #[] 38 := by
    unfold Blk
    rw [hg.block _ (by simp; omega) (by simp)]
    have h : Blk wb wa.heap.size #[] 38 := by rw [hwb]; exact Blk.new _ _ _
    rw [sa] at h
    exact h.alloc _
  have bk2 : Blk w2 (w.heap.size + 1 + 1) #[.slice (some ⟨w.heap.size + 1, 0, none⟩) 0 0] 22 := by
    unfold Blk
    rw [hg.block _ (by simp; omega) (by simp)]
    have h := Blk.new wb #[.slice (some ⟨w.heap.size + 1, 0, none⟩) 0 0] 22
    rw [sb] at h
    exact h
  have hlt2 : w.heap.size + 1 + 1 + 1 < w2.heap.size := OP.out.lt _ rfl
  have START : ∀ X : World, X = w2.alloc (.cells #[.int .i64 0, .int .i64 n, .int .i64 start, .int .i64 stop, .slice (some ⟨w.heap.size + 1 + 1, 0, none⟩) 1 1, .slice (some ⟨w.heap.size + 1 + 1 + 1, 0, none⟩) pl pl] 40) → Hid (EvenAt w.heap.size w2.heap.size 0 pl n start stop t w X (some ⟨w.heap.size + 1, 0, none⟩) 0 []) := by
    rintro X rfl
    refine Lib.hid ⟨?_, bk2.alloc _, bk0.alloc _, ⟨⟨rfl, .inr ⟨_, 0, #[], rfl, by omega, bk1.alloc _, Nat.le_refl _, by unfold maxLen; omega, rfl, rfl⟩⟩, rfl, (fun j t zs ht _ => absurd ht (by simp)), (fun i j s t g hs => absurd hs (by simp)), (fun j t g ht => absurd ht (by simp))⟩, (fun u hu => absurd hu (by simp)), OP.out.below ((Below.refl _ w2).alloc (Nat.le_refl _) _), bel2.alloc (by omega) _⟩
    exact Blk.new _ _ _
  clear hrow e2 bk0 bk1 bk2 bel2 hg hwa hwb sa sb
  go_wp2_with fail
  go_loopw [10] (fun i wr => ∃ (k : Nat) (Ak : Option Addr) (cc : Nat) (L : List SL), k ≤ n ∧ i = .int .i64 k ∧ Hid (EvenAt w.heap.size w2.heap.size k pl n start stop t w wr Ak cc L)) (fun i _ => n - (intOf i).toNat)
  case atStart => exact ⟨0, _, 0, [], by omega, rfl, START _ rfl⟩
  case round =>
    obtain ⟨k, Ak, cc, L, hk, rfl, E⟩ := hrel
    obtain ⟨W, rfl⟩ : ∃ W, W = wr := ⟨_, rfl⟩
    by_cases hlt : k < n
    · obtain ⟨bA, oA, Aj, nj, cj, zs, rfl, hbA, hz, hc, hcap, hrow⟩ := (Rows2.below (hr.more hB) E.out.bel).2.2 k hlt
      have hnj : nj ≤ 1048576 := by rw [← hrow.len]; exact hs _ (List.mem_of_getElem? hz)
      have hsW := E.out.bel.size
      have z1 : W.cell? ⟨w2.heap.size, 4, none⟩ = some (.slice (some ⟨w.heap.size + 1 + 1, 0, none⟩) 1 1) := E.out.chain.cell 4
      have z2 : W.cell? ⟨w.heap.size + 1 + 1, 0, none⟩ = some (.slice Ak k cc) := E.out.tabs.cell 0
      have z3 := hc
      have CT : Calls Try.prog 82 #[.slice Aj nj cj] W.drew (Made W.heap.size nj zs W.drew) := l00Own_any Aj nj cj zs (W.drewN 1) (hrow.drewN 1) hsW hnj
      have SOF : ∀ X : World, (∀ g, g < W.heap.size → Ak ≠ some ⟨g, 0, none⟩ → X.heap[g]? = W.heap[g]?) → X.cell? ⟨w2.heap.size, 4, none⟩ = some (.slice (some ⟨w.heap.size + 1 + 1, 0, none⟩) 1 1) ∧ X.cell? ⟨w.heap.size + 1 + 1, 0, none⟩ = some (.slice Ak k cc) ∧ X.cell? ⟨bA, oA + k, none⟩ = some (.slice Aj nj cj) := by
        intro X hX
        refine ⟨(World.cell?_of_block (hX _ E.out.chain.lt (blk_ne E.out.chain E.out.own.outer (by decide)))).trans z1, (World.cell?_of_block (hX _ E.out.tabs.lt (blk_ne E.out.tabs E.out.own.outer (by decide)))).trans z2, (World.cell?_of_block (hX bA (by omega) (fun e => ?_))).trans z3⟩
        have := E.out.own.ofrom _ e
        omega
      have HZ := Lib.hid hz
      have SOFH := SOF
      clear hrow hz
      have f1 : (0 : Int) ≤ (k : Int) := by omega
      have f2 : (k : Int) < (n : Int) := by omega
      go_wp2_with fail
      refine region_last 14 14 (fun w' => w'.cell? ⟨w2.heap.size, 4, none⟩ = some (.slice (some ⟨w.heap.size + 1 + 1, 0, none⟩) 1 1) ∧ w'.cell? ⟨w.heap.size + 1 + 1, 0, none⟩ = some (.slice Ak k cc) ∧ w'.cell? ⟨bA, oA + k, none⟩ = some (.slice Aj nj cj)) (by kernel_rfl) (by kernel_rfl) (by kernel_rfl) ⟨z1, z2, z3⟩ (fun hS => ?_)
      refine takeD 0 (some 26) (v := ?_) rfl (by kernel_rfl) (by kernel_rfl) (by kernel_rfl) (fun _ _ _ h => h) hS (fun o ho => Or.inl ⟨by cases ho; rfl, ?_⟩) ?_
      rotate_left
      · cases ho
        intro w' hw'
        (try dsimp only at hw')
        go_simp
        (try with_reducible rfl)
      (try simp only [Act.put, List.setIfInBounds_toArray, List.set_cons_zero, List.set_cons_succ])
      refine takeD 1 (some 27) (v := ?_) rfl (by kernel_rfl) (by kernel_rfl) (by kernel_rfl) (fun _ _ _ h => h) hS (fun o ho => Or.inl ⟨by cases ho; rfl, ?_⟩) ?_
      rotate_left
      · cases ho
        intro w' hw'
        (try dsimp only at hw')
        go_simp
        (try with_reducible rfl)
      (try simp only [Act.put, List.setIfInBounds_toArray, List.set_cons_zero, List.set_cons_succ])
      refine takeD 2 (some 28) (v := ?_) rfl (by kernel_rfl) (by kernel_rfl) (by kernel_rfl) (fun _ _ _ h => h) hS (fun o ho => Or.inl ⟨by cases ho; rfl, ?_⟩) ?_
      rotate_left
      · cases ho
        intro w' hw'
        (try dsimp only at hw')
        go_simp
        (try with_reducible rfl)
      (try simp only [Act.put, List.setIfInBounds_toArray, List.set_cons_zero, List.set_cons_succ])
      refine takeD 3 (some 29) (v := ?_) rfl (by kernel_rfl) (by kernel_rfl) (by kernel_rfl) (fun _ _ _ h => h) hS (fun o ho => Or.inl ⟨by cases ho; rfl, ?_⟩) ?_
      rotate_left
      · cases ho
        intro w' hw'
        (try dsimp only at hw')
        go_simp
        (try with_reducible rfl)
      (try simp only [Act.put, List.setIfInBounds_toArray, List.set_cons_zero, List.set_cons_succ])
      refine takeD 4 (some 30) (v := ?_) rfl (by kernel_rfl) (by kernel_rfl) (by kernel_rfl) (fun _ _ _ h => h) hS (fun o ho => Or.inl ⟨by cases ho; rfl, ?_⟩) ?_
      rotate_left
      · cases ho
        intro w' hw'
        (try dsimp only at hw')
        go_simp
        (try with_reducible rfl)
      (try simp only [Act.put, List.setIfInBounds_toArray, List.set_cons_zero, List.set_cons_succ])
      refine takeD 5 (some 31) (v := ?_) rfl (by kernel_rfl) (by kernel_rfl) (by kernel_rfl) (fun _ _ _ h => h) hS (fun o ho => Or.inl ⟨by cases ho; rfl, ?_⟩) ?_
      rotate_left
      · cases ho
        intro w' hw'
        (try dsimp only at hw')
        go_simp
        (try with_reducible rfl)
      (try simp only [Act.put, List.setIfInBounds_toArray, List.set_cons_zero, List.set_cons_succ])
      refine takeD 6 (some 32) (v := ?_) rfl (by kernel_rfl) (by kernel_rfl) (by kernel_rfl) (fun _ _ _ h => h) hS (fun o ho => Or.inl ⟨by cases ho; rfl, ?_⟩) ?_
      rotate_left
      · cases ho
        intro w' hw'
        (try dsimp only at hw')
        go_simp
        (try with_reducible rfl)
      (try simp only [Act.put, List.setIfInBounds_toArray, List.set_cons_zero, List.set_cons_succ])
      refine takeD 7 (some 33) (v := ?_) rfl (by kernel_rfl) (by kernel_rfl) (by kernel_rfl) (fun _ _ _ h => h) hS (fun o ho => Or.inl ⟨by cases ho; rfl, ?_⟩) ?_
      rotate_left
      · cases ho
        intro w' hw'
        (try dsimp only at hw')
        go_simp
        (try with_reducible rfl)
      (try simp only [Act.put, List.setIfInBounds_toArray, List.set_cons_zero, List.set_cons_succ])
      refine takeD 8 (some 34) (v := ?_) rfl (by kernel_rfl) (by kernel_rfl) (by kernel_rfl) (fun _ _ _ h => h) hS (fun o ho => Or.inl ⟨by cases ho; rfl, ?_⟩) ?_
      rotate_left
      · cases ho
        intro w' hw'
        (try dsimp only at hw')
        go_simp
        (try with_reducible rfl)
      (try simp only [Act.put, List.setIfInBounds_toArray, List.set_cons_zero, List.set_cons_succ])
      refine takeD 9 (some 35) (v := ?_) rfl (by kernel_rfl) (by kernel_rfl) (by kernel_rfl) (fun _ _ _ h => h) hS (fun o ho => Or.inl ⟨by cases ho; rfl, ?_⟩) ?_
      rotate_left
      · cases ho
        intro w' hw'
        (try dsimp only at hw')
        go_simp
        (try with_reducible rfl)
      (try simp only [Act.put, List.setIfInBounds_toArray, List.set_cons_zero, List.set_cons_succ])
      refine oneD 10 (some 36) (by kernel_rfl) rfl (fun o ho K hK hdo => ?_)
      simp only [List.getElem?_toArray, List.getElem?_cons_succ, List.getElem?_cons_zero, Option.some.injEq] at ho
      subst ho
      clear hdo
      rw [if_pos (by rfl)]
      go_wp2_with ((go_at_call 82; (with_reducible refine (CT).mono ?_); rintro e W1 ⟨A', c', rfl, ho, hb1⟩))
      have hbW : Below W.heap.size W W1 := ⟨hb1.os, hb1.tape, hb1.output, hb1.size, hb1.block⟩
      clear hb1
      refine hK.out _ _ ?_ (fun hS => ?_)
      · have h9 := SOF W1 (fun g hg _ => hbW.block g hg)
        exact h9
      clear hK K
      (try simp only [Act.put, List.setIfInBounds_toArray, List.set_cons_zero, List.set_cons_succ])
      refine oneD 11 (some 37) (by kernel_rfl) rfl (fun o ho K hK hdo => ?_)
      simp only [List.getElem?_toArray, List.getElem?_cons_succ, List.getElem?_cons_zero, Option.some.injEq] at ho
      subst ho
      clear hdo
      rw [if_pos (by rfl)]
      go_wp2_with (fail)
      refine hK.out _ _ ?_ (fun hS => ?_)
      · have h9 : ∀ o, _ := fun o => SOF (W1.alloc o) (fun g hg _ => (Below.heap_alloc W1 o g (Nat.lt_of_lt_of_le hg hbW.size)).trans (hbW.block g hg))
        exact h9 _
      clear hK K
      (try simp only [Act.put, List.setIfInBounds_toArray, List.set_cons_zero, List.set_cons_succ])
      have hout := (E.out.own.below hbW).outer
      refine oneD 12 (some 38) (by kernel_rfl) rfl (fun o ho K hK hdo => ?_)
      simp only [List.getElem?_toArray, List.getElem?_cons_succ, List.getElem?_cons_zero, Option.some.injEq] at ho
      subst ho
      clear hdo
      refine step_append_lies _ rfl (.tmp 31) (.tmp 37) 22 rfl w.heap.size 38 iS nilV 1 24 Try.underlying22 hiS hzS0 hzS1 hzS2 rfl (by decide) (.slice Ak k cc) k (L.map sliceV) rfl (hout.alloc _) ⟨W1.heap.size, 0, none⟩ 1 1 [.slice A' nj c'] rfl rfl (cell_oneS _ _ _) (fun u hu => by simp at hu; subst hu; rfl) (by decide) ?d1 ?d2 ?d3 _ rfl ?_
      case d1 => unfold maxLen; omega
      case d2 => omega
      case d3 => have := hbW.size; simp; omega
      intro g3 cc3 w3 ho3 hg3 _ _
      have hk3 : ∀ g, g < W.heap.size → Ak ≠ some ⟨g, 0, none⟩ → w3.heap[g]? = W.heap[g]? := fun g hg hne => by
        have h1 := hbW.size
        rw [hg3.block g (by simp; omega) (fun e => hne (by
          rcases ownsRow_form E.out.own.outer with ⟨hA, _⟩ | ⟨g', hA, _⟩
          · rw [hA] at e; cases e
          · rw [hA] at e ⊢; simp [Value.ownBlock] at e; rw [e])), Below.heap_alloc _ _ _ (by omega)]
        exact hbW.block g hg
      refine hK.out _ _ ?_ (fun hS => ?_)
      · exact SOF _ hk3
      clear hK K
      (try simp only [Act.put, List.setIfInBounds_toArray, List.set_cons_zero, List.set_cons_succ])
      refine takeD 13 (some 39) (v := ?_) rfl (by kernel_rfl) (by kernel_rfl) (by kernel_rfl) (fun _ _ _ h => h) hS (fun o ho => Or.inl ⟨by cases ho; rfl, ?_⟩) ?_
      rotate_left
      · cases ho
        intro w' hw'
        (try dsimp only at hw')
        go_simp
        (try with_reducible rfl)
      (try simp only [Act.put, List.setIfInBounds_toArray, List.set_cons_zero, List.set_cons_succ])
      have tb3 : Blk w3 (w.heap.size + 1 + 1) #[.slice Ak k cc] 22 := (hk3 _ E.out.tabs.lt (blk_ne E.out.tabs E.out.own.outer (by decide))).trans E.out.tabs
      have zc : w3.cell? ⟨w.heap.size + 1 + 1, 0, none⟩ = some (.slice Ak k cc) := tb3.cell 0
      have zf : w3.frozen? ⟨w.heap.size + 1 + 1, 0, none⟩ = false := tb3.frozen 0
      have TB3 := Lib.hid tb3
      have HK3 := Lib.hid hk3
      have HO := Lib.hid ho
      have HO3 := Lib.hid ho3
      have HG3 := Lib.hid hg3
      have HBW := Lib.hid hbW
      clear tb3 hk3 ho ho3 hg3 hbW SOF SOFH hout CT z1 z2 z3 hc
      refine wpAnyH_done (by kernel_rfl) ?_ _
      refine thenD rfl (fun o ho K hK => ?_)
      simp only [List.getElem?_toArray, List.getElem?_cons_succ, List.getElem?_cons_zero, Option.some.injEq] at ho
      subst ho
      clear hS
      go_wp2_with fail
      refine hK.out _ _ ?_
      clear hK K
      have FIN : Hid (EvenAt w.heap.size w2.heap.size (k + 1) pl n start stop t w (w3.setCell ⟨w.heap.size + 1 + 1, 0, none⟩ (.slice (some ⟨g3, 0, none⟩) (k + 1) cc3)) (some ⟨g3, 0, none⟩) cc3 (L ++ [(A', nj, c')])) := Lib.hid (by
        have hd1 : w.heap.size + 1 + 1 + 1 < w2.heap.size := hlt2
        have hk3 := HK3.out
        have ho := HO.out
        have ho3 := HO3.out
        have hg3 := HG3.out
        have hbW := HBW.out
        have k3 : ∀ (b : Nat) (cs : Array Value) (u : TypeId), Blk W b cs u → 38 ≠ u → Blk w3 b cs u := fun b cs u hb hu => (hk3 b hb.lt (blk_ne hb E.out.own.outer hu)).trans hb
        have t3 : t.take (k + 1) = t.take k ++ [zs] := by rw [List.take_add_one, HZ.out]; rfl
        have own3 : Own2 w.heap.size w3 (some ⟨g3, 0, none⟩) (k + 1) cc3 (L ++ [(A', nj, c')]) (t.take (k + 1)) := by
          rw [t3]
          exact E.out.own.pushed hsW hbW ho ho3 hg3
        have tb3 := k3 _ _ _ E.out.tabs (by decide)
        have p3 : Own w.heap.size w3 (some ⟨w.heap.size + 1 + 1 + 1, 0, none⟩) pl pl (List.replicate pl 0) := E.out.places.keep fun g hg => hk3 g (E.out.places.lt g hg) (fun e => own_ne E.out.own.outer E.out.places.1 (by decide) g e hg)
        refine ⟨(k3 _ _ _ E.out.chain (by decide)).other _ (by omega), by simpa using tb3.set 0 (.slice (some ⟨g3, 0, none⟩) (k + 1) cc3), (k3 _ _ _ E.out.ret (by decide)).other _ (by omega), ?_, ?_, ?_, ?_⟩
        · refine own3.keepL (fun g hg => Below.heap_setCell w3 _ _ g (fun e => ?_)) (fun u hu g hg => Below.heap_setCell w3 _ _ g (fun e => ?_))
          · exact blk_ne tb3 own3.outer (by decide) (by rw [hg]; rw [show g = w.heap.size + 1 + 1 from e])
          · obtain ⟨j, hj, ej⟩ := List.getElem_of_mem hu
            have h1 := List.getElem?_eq_getElem hj
            rw [ej] at h1
            have hl3 := own3.len
            have h2 : (t.take (k + 1))[j]? = some _ := List.getElem?_eq_getElem (by omega)
            exact blk_ne tb3 (own3.inner j u _ h1 h2).1 (by decide) (by rw [hg]; rw [show g = w.heap.size + 1 + 1 from e])
        · intro u hu g hg
          rcases List.mem_append.1 hu with hu | hu
          · exact E.out.past u hu g hg
          · simp at hu
            subst hu
            have a := ho.from g hg
            have b := E.out.chain.lt
            omega
        · exact p3.keep fun g hg => Below.heap_setCell w3 _ _ g (by injection hg with hg; injection hg with hg; show g ≠ w.heap.size + 1 + 1; omega)
        · refine Below.setCell (Below.grown ((E.out.bel.trans (hbW.mono hsW)).alloc (by have := hbW.size; omega) _) hg3 (by have := hbW.size; simp; omega) (fun q hq => (E.out.own.outer.lt q hq).1)) (by simp; omega) _)
      clear E
      go_wp2_with fail
      go_roundw
      case rel => exact ⟨k + 1, _, cc3, _, by omega, by go_num, FIN⟩
      case measure => simp [intOf]; omega
    · obtain rfl : n = k := by omega
      obtain ⟨b1, o1, A1, n1, c1, r1, rfl, hb1, hz1', hc1, _, hr1⟩ := (Rows2.below (hr.more hB) E.out.bel).2.2 0 hn0
      rw [Nat.add_zero] at hc1
      have q0 := E.out.chain.cell 0
      have q1 := E.out.chain.cell 1
      have q2 := E.out.chain.cell 2
      have q3 := E.out.chain.cell 3
      have q4 := E.out.chain.cell 4
      have q5 := E.out.chain.cell 5
      have fq0 := E.out.chain.frozen 0
      have r0 := E.out.ret.cell 0
      have r1 := E.out.ret.cell 1
      have r2 := E.out.ret.cell 2
      have r3 := E.out.ret.cell 3
      have r4 := E.out.ret.cell 4
      have r5 := E.out.ret.cell 5
      have fr0 := E.out.ret.frozen 0
      have fr1 := E.out.ret.frozen 1
      have fr2 := E.out.ret.frozen 2
      have fr3 := E.out.ret.frozen 3
      have fr4 := E.out.ret.frozen 4
      have fr5 := E.out.ret.frozen 5
      have hne : w.heap.size ≠ w2.heap.size := by omega
      have hne2 : w2.heap.size ≠ w.heap.size := by omega
      have f3 : (0 : Int) < (n : Int) := by omega
      obtain ⟨X, hX⟩ : ∃ X, X = W.setCell ⟨w2.heap.size, 0, none⟩ (.int .i64 n1) := ⟨_, rfl⟩
      have xr : Blk X w.heap.size #[.int .i64 0, .int .i64 0, .int .i64 0, .int .i64 0, nilV, nilV] 40 := by rw [hX]; exact E.out.ret.other _ (by omega)
      have q : Blk (six X w.heap.size (.int .i64 n1) (.int .i64 n) (.int .i64 start) (.int .i64 stop) (.slice (some ⟨w.heap.size + 1 + 1, 0, none⟩) 1 1) (.slice (some ⟨w.heap.size + 1 + 1 + 1, 0, none⟩) pl pl)) w.heap.size #[.int .i64 n1, .int .i64 n, .int .i64 start, .int .i64 stop, .slice (some ⟨w.heap.size + 1 + 1, 0, none⟩) 1 1, .slice (some ⟨w.heap.size + 1 + 1 + 1, 0, none⟩) pl pl] 40 := six_blk xr _ _ _ _ _ _
      have hhead : (t.headD []).length = n1 := by
        cases t with
        | nil => simp at hl; omega
        | cons a r =>
          simp at hz1'
          subst hz1'
          exact hr1.len
      have FB : Hid (MadeD w.heap.size (EvenC t pl start stop) w (.returned (.agg #[.int .i64 n1, .int .i64 n, .int .i64 start, .int .i64 stop, .slice (some ⟨w.heap.size + 1 + 1, 0, none⟩) 1 1, .slice (some ⟨w.heap.size + 1 + 1 + 1, 0, none⟩) pl pl])) (six X w.heap.size (.int .i64 n1) (.int .i64 n) (.int .i64 start) (.int .i64 stop) (.slice (some ⟨w.heap.size + 1 + 1, 0, none⟩) 1 1) (.slice (some ⟨w.heap.size + 1 + 1 + 1, 0, none⟩) pl pl))) := Lib.hid (by
        have kX : ∀ g, g ≠ w2.heap.size → g ≠ w.heap.size → (six X w.heap.size (.int .i64 n1) (.int .i64 n) (.int .i64 start) (.int .i64 stop) (.slice (some ⟨w.heap.size + 1 + 1, 0, none⟩) 1 1) (.slice (some ⟨w.heap.size + 1 + 1 + 1, 0, none⟩) pl pl)).heap[g]? = W.heap[g]? := fun g h1 h2 => by
          rw [six_heap _ _ _ _ _ _ _ _ h2, hX, heap_setCell_other _ _ _ _ h1]
        have hpl2 : (List.replicate pl (0 : Int)).length = pl := by simp
        have own := E.out.own
        rw [List.take_of_length_le (by omega)] at own
        refine ⟨some ⟨w.heap.size + 1 + 1, 0, none⟩, 1, some ⟨w.heap.size + 1 + 1 + 1, 0, none⟩, pl, [(Ak, n, cc)], [L], ?_, ?_, six_below (by rw [hX]; exact E.out.bel.setCell (by simp; omega) _) (Nat.le_refl _) _ _ _ _ _ _⟩
        · unfold EvenC
          dsimp only
          rw [hhead, hl, hpl2]
          rfl
        · have hoL : ∀ u ∈ L, ∀ g, u.1 = some ⟨g, 0, none⟩ → g ≠ w2.heap.size ∧ g ≠ w.heap.size := fun u hu g hg => by
            have a := E.out.past u hu g hg
            omega
          have hoA : ∀ g, Ak = some ⟨g, 0, none⟩ → g ≠ w2.heap.size ∧ g ≠ w.heap.size := fun g hg => ⟨fun e => blk_ne E.out.chain own.outer (by decide) (by rw [hg, e]), fun e => blk_ne E.out.ret own.outer (by decide) (by rw [hg, e])⟩
          refine ⟨?_, ?_, ?_⟩
          · show Own3 _ _ _ 1 1 [(Ak, n, cc)] [L] [t]
            refine own3_one ((kX _ (by omega) (by omega)).trans E.out.tabs) (by omega) (own.keepL (fun g hg => kX g (hoA g hg).1 (hoA g hg).2) (fun u hu g hg => kX g (hoL u hu g hg).1 (hoL u hu g hg).2))
          · show Own _ _ _ (List.replicate pl (0 : Int)).length pl (List.replicate pl 0)
            rw [hpl2]
            exact E.out.places.keep fun g hg => kX g (by injection hg with hg; injection hg with hg; omega) (by injection hg with hg; injection hg with hg; omega)
          · intro L' hL' u hu g hg e
            simp at hL'
            subst hL'
            have a := E.out.past u hu g hg
            injection e with e
            injection e with e
            omega)
      have HXX := Lib.hid hX
      clear xr hhead
      have EE := Lib.hid E.out.bel
      clear E hr hs hl hz1' hr1 hX
      go_wp2_with fail
      obtain ⟨w8, hw8⟩ : ∃ w8, w8 = six X w.heap.size (.int .i64 n1) (.int .i64 n) (.int .i64 start) (.int .i64 stop) (.slice (some ⟨w.heap.size + 1 + 1, 0, none⟩) 1 1) (.slice (some ⟨w.heap.size + 1 + 1 + 1, 0, none⟩) pl pl) := ⟨_, rfl⟩
      rw [← hw8] at q FB
      unfold six at hw8
      rw [HXX.out] at hw8
      rw [← hw8]
      have q0 := q.cell 0
      have q1 := q.cell 1
      have q2 := q.cell 2
      have q3 := q.cell 3
      have q4 := q.cell 4
      have q5 := q.cell 5
      refine bodyPost_ret (v := .agg #[.int .i64 n1, .int .i64 n, .int .i64 start, .int .i64 stop, .slice (some ⟨w.heap.size + 1 + 1, 0, none⟩) 1 1, .slice (some ⟨w.heap.size + 1 + 1 + 1, 0, none⟩) pl pl]) (by simp [results, Try.results65, go_sem, q0, q1, q2, q3, q4, q5]) rfl ?_
      exact FB.out
end Go.Proofs.Ytiokcflomchdcab
