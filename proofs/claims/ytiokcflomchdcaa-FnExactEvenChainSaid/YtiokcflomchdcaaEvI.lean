/-
  EvenChain, of the program.
-/
import Derived.Test.YtiokcflomchdcaaEvS
import Derived.Test.YtiokcflomchdcaaValid
import Derived.Test.YtiokcflomchdcaaCopied
import Derived.Test.YtiokcflomchdcaaLast
import Derived.Deep.DeepCutAuto
namespace Go.Proofs.Ytiokcflomchdcaa
open Go Go.RowKit

section
variable {P : Program} {ops : Array Oper} {md : Region.Mode}
/-- Several may come up: the first of them. -/
theorem consD {Q : Exit → Act → World → Prop} {S : World → Prop} (i : Nat) (d : Option Tmp) {fuel : Nat} {listed : Array Bool} {a : Act} {w : World} {rs : List Nat} (hd : (ops[i]?).map (·.dst) = some d)
    (h : ∀ o, ops[i]? = some o → ∀ K : Act → World → Prop, Hid (∀ v w, S w → (S w → wpAnyH P md ops Q S fuel (listed.setIfInBounds i true) (a.put d v) w) → K (a.put d v) w) → o.dst = d → if Region.wanted o (yielded ops a.tmps) = true then Oper.wp P o a w K Q else K (a.put o.dst undef) w)
    (hs : AllReadyH P md ops Q S fuel listed a w rs) : AllReadyH P md ops Q S fuel listed a w (i :: rs) := by
  cases ho : ops[i]? with
  | none => rw [ho] at hd; cases hd
  | some o =>
    rw [ho] at hd
    have hd := Option.some.inj hd
    exact AllReadyH.cons ho (fun K hK => h o ho K (Lib.hid fun v w hS hW => hK.out _ _ hS hW) hd) hs
/-- make, with all cells, where the order is drawn. -/
theorem step_make_full (w : World) {o : Oper} {a : Act} {K : Act → World → Prop} {Q : Exit → Act → World → Prop} {E : Prop} (hg : o.guard = none) (l c : Operand) (t : TypeId) (hop : o.op = Op.makeSlice t l c)
    (base : Nat) (e : TypeId) (i : TypeInfo) (z : Value) (size : Nat) (h1 : P.underlying t = some (.slice e)) (h2 : P.info? e = some i) (h3 : i.zero = some z) (h4 : i.size = size)
    (kl kc : IntKind) (L C : Int) (n : Nat) (hl : a.eval l = .int kl L) (hc : a.eval c = .int kc C) (hL : L = (n : Int)) (hC : C = (n : Int)) (b2 : i.bytes * n ≤ 281474976710656) (b3 : n ≤ maxLen) (b4 : base ≤ w.heap.size)
    (h : ∀ w', w'.ownsRow base e size (.slice (some ⟨w.heap.size, 0, none⟩) n n) n (madeCells z.cells (n * size)).toList → w.grownBy w' none → K (a.put o.dst (.slice (some ⟨w.heap.size, 0, none⟩) n n)) w') :
    if Region.wanted o (yielded ops a.tmps) = true then Oper.wp P o a w K Q else E := by
  have hw : Region.wanted o (yielded ops a.tmps) = true := by simp [Region.wanted, hg]
  rw [if_pos hw]
  obtain ⟨w', hrun, r1, r2⟩ := run_make_full (P := P) w base t e i z size h1 h2 h3 h4 kl kc n b2 b3 b4
  subst hL
  subst hC
  unfold Oper.wp
  simp [execOp, hop, hl, hc, hrun, Result.andThen]
  exact h _ r1 r2
end

theorem made_zero (pl : Nat) : (madeCells (Value.int .i64 0).cells (pl * 1)).toList = cells64 (List.replicate pl 0) := by
  rw [Nat.mul_one]
  show (madeCells #[Value.int .i64 0] pl).toList = _
  simp [cells64, toList_madeCells_one]
def MadeOf (B : Nat) (t : List (List Int)) (pl start stop : Int) (ok : Bool) (w : World) (e : Ending) (w' : World) : Prop :=
  MadeCB B (match ok with | true => EvenC t pl.toNat start stop | false => zeroC) ok w e w'

theorem blk_blk {w : World} {b b' : Nat} {cs cs' : Array Value} {t t' : TypeId} (h : Blk w b cs t) (h' : Blk w b' cs' t') (ht : t ≠ t') : b ≠ b' := by
  intro e
  subst e
  unfold Blk at h h'
  rw [h] at h'
  injection h' with h'
  injection h' with _ h'
  exact ht h'
/-- The chain as it is first made: its table is the argument's own. -/
structure EvL (w : World) (A : Option Addr) (n c pl : Nat) (m0 start stop : Int) (wx : World) (g gt gp : Nat) : Prop where
  chain : Blk wx g #[.int .i64 m0, .int .i64 n, .int .i64 start, .int .i64 stop, .slice (some ⟨gt, 0, none⟩) 1 1, .slice (some ⟨gp, 0, none⟩) pl pl] 32
  tab : Blk wx gt #[.slice A n c] 39
  pls : Own w.heap.size wx (some ⟨gp, 0, none⟩) pl pl (List.replicate pl 0)
  ret : Blk wx w.heap.size #[.int .i64 0, .int .i64 0, .int .i64 0, .int .i64 0, nilV, nilV] 32
  bel : Below w.heap.size w wx
  gB : w.heap.size < g
  tB : w.heap.size ≤ gt
theorem EvL.made {w W : World} {A : Option Addr} {n c pl g gt gp : Nat} {m0 start stop : Int} (ht : Blk W gt #[.slice A n c] 39) (hp : Own w.heap.size W (some ⟨gp, 0, none⟩) pl pl (List.replicate pl 0))
    (hc : Blk W g #[.int .i64 0, .int .i64 0, .int .i64 0, .int .i64 0, nilV, nilV] 32) (hr : Blk W w.heap.size #[.int .i64 0, .int .i64 0, .int .i64 0, .int .i64 0, nilV, nilV] 32) (hb : Below w.heap.size w W)
    (gne : gt ≠ g) (pne : gp ≠ g) (rne : w.heap.size ≠ g) (gB : w.heap.size ≤ g) (tB : w.heap.size ≤ gt) :
    EvL w A n c pl m0 start stop (six W g (.int .i64 m0) (.int .i64 n) (.int .i64 start) (.int .i64 stop) (.slice (some ⟨gt, 0, none⟩) 1 1) (.slice (some ⟨gp, 0, none⟩) pl pl)) g gt gp :=
  ⟨six_blk hc _ _ _ _ _ _, (six_heap _ _ _ _ _ _ _ _ gne).trans ht, hp.keep fun k hk => by cases hk; exact six_heap _ _ _ _ _ _ _ _ pne, (six_heap _ _ _ _ _ _ _ _ rne).trans hr, six_below hb gB _ _ _ _ _ _, by omega, tB⟩
theorem EvL.rows {w wx : World} {A : Option Addr} {n c pl g gt gp : Nat} {m0 start stop : Int} {t : List (List Int)} {B : Nat} (h : EvL w A n c pl m0 start stop wx g gt gp) (hr : Rows2 B w A n t) (hB : B ≤ w.heap.size) (hnc : n ≤ c) :
    ChRows wx.heap.size wx ⟨m0, n, start, stop, [t], List.replicate pl 0⟩ (some ⟨gt, 0, none⟩) 1 (some ⟨gp, 0, none⟩) pl := by
  have hs := h.bel.size
  refine ⟨⟨rfl, by decide, fun j hj => ?_⟩, h.pls.row⟩
  obtain rfl : j = 0 := by omega
  exact ⟨gt, 0, A, n, c, t, rfl, h.tab.lt, rfl, h.tab.cell 0, hnc, (hr.below (h.bel.mono hB)).more (by omega)⟩

set_option maxRecDepth 100000 in
set_option maxHeartbeats 8000000 in
theorem implEven_go {B : Nat} (A : Option Addr) (n c : Nat) (t : List (List Int)) (pl : Nat) (start stop : Int) (w : World) (hr : Rows2 B w A n t) (hB : B ≤ w.heap.size) (hs : ∀ zs ∈ t, zs.length ≤ 1048576) (hnc : n ≤ c) (hn0 : 0 < n) (hn9 : n ≤ 1048576) (hp1 : 1 ≤ pl) (hp2 : pl ≤ 20) :
    Calls Try.prog 43 #[.slice A n c, .int .i64 pl, .int .i64 start, .int .i64 stop] w (MadeOf w.heap.size t pl start stop (EvenC t pl start stop).ok w) := by
  obtain ⟨i0, hi, hz0, hz1, hz2⟩ := info_parts info64
  have hl := hr.len
  obtain ⟨ok, hok⟩ : ∃ ok, ok = (EvenC t pl start stop).ok := ⟨_, rfl⟩
  rw [← hok]
  have HOKK := Lib.hid hok
  clear hok
  obtain ⟨w1, hw1⟩ : ∃ w1, w1 = w.alloc (.cells #[.int .i64 0, .int .i64 0, .int .i64 0, .int .i64 0, nilV, nilV] 32) := ⟨_, rfl⟩
  have bel : Below w.heap.size w w1 := by rw [hw1]; exact (Below.refl _ w).alloc (Nat.le_refl _) _
  have b1 : Blk w1 w.heap.size #[.int .i64 0, .int .i64 0, .int .i64 0, .int .i64 0, nilV, nilV] 32 := by rw [hw1]; exact Blk.new _ _ _
  have BEL := Lib.hid bel
  have B1 := Lib.hid b1
  have LT1 := Lib.hid b1.lt
  have C1 : Calls Try.prog 72 #[.int .i64 pl, .int .i64 1, .int .i64 20] w1 fun e w' => e = .returned (.bool true) ∧ w1 = w' := by
    have h1 : inB (pl : Int) 1 20 = true := inB_true.2 ⟨by omega, by omega⟩
    rw [← h1]; exact within_any _ _ _ _
  obtain ⟨bA, oA, Aj, nj, cj, zs, rfl, hbA, hz, hc, hcap, hrow⟩ := hr.2.2 0 hn0
  have hbw : bA < w.heap.size := by omega
  have z0 : w1.drew.cell? ⟨bA, oA, none⟩ = some (.slice Aj nj cj) := (bel.cell (p := ⟨bA, oA, none⟩) hbw).trans (by simpa using hc)
  have hm0 : Hid ((nj : Int) = ((t.headD []).length : Nat)) := Lib.hid (by
    cases t with
    | nil => simp at hz
    | cons x xs => simp at hz; subst hz; simp [hrow.len])
  have HR := Lib.hid hr
  have HS := Lib.hid hs
  have ne0 : ((n : Int) == 0) = false := by simp; omega
  have lt0 : (0 : Int) < (n : Int) := by omega
  clear hr hs bel b1 hc hz hrow
  go_enter Try.func43, Try.ntmps43
  go_wp2_with fail
  rw [← hw1]
  have HW1 := Lib.hid hw1
  clear hw1
  (go_at_call 72; (with_reducible refine (C1).mono ?_); rintro e w' ⟨rfl, rfl⟩)
  go_upto_region 3 with fail
  go_cut [10] (fun s10 wx => ∃ g gt gp, s10 = .pointer (some ⟨g, 0, none⟩) ∧ Hid (EvL w (some ⟨bA, oA, none⟩) n c pl (nj : Int) start stop wx g gt gp))
  case first =>
      refine region_last 14 14 (fun w' => w'.cell? ⟨bA, oA, none⟩ = some (.slice Aj nj cj)) (by kernel_rfl) (by kernel_rfl) (by kernel_rfl) z0 (fun hS => ?_)
      refine takeD 0 (some 20) (v := ?_) rfl (by kernel_rfl) (by kernel_rfl) (by kernel_rfl) (fun _ _ _ h => h) hS (fun o ho => Or.inl ⟨by cases ho; rfl, ?_⟩) ?_
      rotate_left
      · cases ho
        intro w' hw'
        (try dsimp only at hw')
        go_simp
        (try with_reducible rfl)
      (try simp only [Act.put, List.setIfInBounds_toArray, List.set_cons_zero, List.set_cons_succ])
      refine takeD 1 (some 21) (v := ?_) rfl (by kernel_rfl) (by kernel_rfl) (by kernel_rfl) (fun _ _ _ h => h) hS (fun o ho => Or.inl ⟨by cases ho; rfl, ?_⟩) ?_
      rotate_left
      · cases ho
        intro w' hw'
        (try dsimp only at hw')
        go_simp
        (try with_reducible rfl)
      (try simp only [Act.put, List.setIfInBounds_toArray, List.set_cons_zero, List.set_cons_succ])
      refine takeD 2 (some 22) (v := ?_) rfl (by kernel_rfl) (by kernel_rfl) (by kernel_rfl) (fun _ _ _ h => h) hS (fun o ho => Or.inl ⟨by cases ho; rfl, ?_⟩) ?_
      rotate_left
      · cases ho
        intro w' hw'
        (try dsimp only at hw')
        go_simp
        (try with_reducible rfl)
      (try simp only [Act.put, List.setIfInBounds_toArray, List.set_cons_zero, List.set_cons_succ])
      refine takeD 3 (some 23) (v := ?_) rfl (by kernel_rfl) (by kernel_rfl) (by kernel_rfl) (fun _ _ _ h => h) hS (fun o ho => Or.inl ⟨by cases ho; rfl, ?_⟩) ?_
      rotate_left
      · cases ho
        intro w' hw'
        (try dsimp only at hw')
        go_simp
        (try with_reducible rfl)
      (try simp only [Act.put, List.setIfInBounds_toArray, List.set_cons_zero, List.set_cons_succ])
      refine takeD 4 (some 24) (v := ?_) rfl (by kernel_rfl) (by kernel_rfl) (by kernel_rfl) (fun _ _ _ h => h) hS (fun o ho => Or.inl ⟨by cases ho; rfl, ?_⟩) ?_
      rotate_left
      · cases ho
        intro w' hw'
        (try dsimp only at hw')
        go_simp
        (try with_reducible rfl)
      (try simp only [Act.put, List.setIfInBounds_toArray, List.set_cons_zero, List.set_cons_succ])
      refine takeD 5 (some 25) (v := ?_) rfl (by kernel_rfl) (by kernel_rfl) (by kernel_rfl) (fun _ _ _ h => h) hS (fun o ho => Or.inl ⟨by cases ho; rfl, ?_⟩) ?_
      rotate_left
      · cases ho
        intro w' hw'
        (try dsimp only at hw')
        go_simp
        (try with_reducible rfl)
      (try simp only [Act.put, List.setIfInBounds_toArray, List.set_cons_zero, List.set_cons_succ])
      refine takeD 6 (some 26) (v := ?_) rfl (by kernel_rfl) (by kernel_rfl) (by kernel_rfl) (fun _ _ _ h => h) hS (fun o ho => Or.inl ⟨by cases ho; rfl, ?_⟩) ?_
      rotate_left
      · cases ho
        intro w' hw'
        (try dsimp only at hw')
        go_simp
        (try with_reducible rfl)
      (try simp only [Act.put, List.setIfInBounds_toArray, List.set_cons_zero, List.set_cons_succ])
      refine takeD 7 (some 27) (v := ?_) rfl (by kernel_rfl) (by kernel_rfl) (by kernel_rfl) (fun _ _ _ h => h) hS (fun o ho => Or.inl ⟨by cases ho; rfl, ?_⟩) ?_
      rotate_left
      · cases ho
        intro w' hw'
        (try dsimp only at hw')
        go_simp
        (try with_reducible rfl)
      (try simp only [Act.put, List.setIfInBounds_toArray, List.set_cons_zero, List.set_cons_succ])
      refine takeD 8 (some 28) (v := ?_) rfl (by kernel_rfl) (by kernel_rfl) (by kernel_rfl) (fun _ _ _ h => h) hS (fun o ho => Or.inl ⟨by cases ho; rfl, ?_⟩) ?_
      rotate_left
      · cases ho
        intro w' hw'
        (try dsimp only at hw')
        go_simp
        (try with_reducible rfl)
      (try simp only [Act.put, List.setIfInBounds_toArray, List.set_cons_zero, List.set_cons_succ])
      refine takeD 10 (some 30) (v := ?_) rfl (by kernel_rfl) (by kernel_rfl) (by kernel_rfl) (fun _ _ _ h => h) hS (fun o ho => Or.inl ⟨by cases ho; rfl, ?_⟩) ?_
      rotate_left
      · cases ho
        intro w' hw'
        (try dsimp only at hw')
        go_simp
        (try with_reducible rfl)
      (try simp only [Act.put, List.setIfInBounds_toArray, List.set_cons_zero, List.set_cons_succ])
      obtain ⟨W0, hW0⟩ : ∃ W0, W0 = w1.drew := ⟨_, rfl⟩
      have hB0 : Below w.heap.size w W0 := by rw [hW0]; exact BEL.out.trans ((Below.refl _ w1).drew.mono BEL.out.size)
      have hR0 : Blk W0 w.heap.size #[.int .i64 0, .int .i64 0, .int .i64 0, .int .i64 0, nilV, nilV] 32 := by rw [hW0]; exact B1.out
      rw [← hW0] at hS ⊢
      have HW0 := Lib.hid hW0
      clear hW0
      have lt0 := hR0.lt
      have hS0 : W0.cell? ⟨bA, oA, none⟩ = some (.slice Aj nj cj) := hS
      refine wpAnyH_ready (rs := [9, 11, 13]) (by kernel_rfl) (by simp) ?_
      refine consD 9 (some 29) rfl (fun o ho K hK hdo => ?_) ?_
      · simp only [List.getElem?_toArray, List.getElem?_cons_succ, List.getElem?_cons_zero, Option.some.injEq] at ho
        subst ho
        clear hdo
        rw [if_pos (by rfl)]
        go_wp2_with fail
        obtain ⟨W1, hW1⟩ : ∃ X, X = W0.alloc (.cells #[.slice (some ⟨bA, oA, none⟩) n c] 39) := ⟨_, rfl⟩
        rw [← hW1]
        have dW1 : Below W0.heap.size W0 W1 := by rw [hW1]; exact (Below.refl _ _).alloc (Nat.le_refl _) _
        have tW1 : Blk W1 W0.heap.size #[.slice (some ⟨bA, oA, none⟩) n c] 39 := by rw [hW1]; exact Blk.new _ _ _
        have lW1 := tW1.lt
        clear hW1
        have hB1 : Below w.heap.size w W1 := hB0.trans (dW1.mono hB0.size)
        refine hK.out _ _ ?_ (fun hS => ?_)
        · exact (dW1.cell (p := ⟨bA, oA, none⟩) (show bA < W0.heap.size by omega)).trans hS0
        clear hK K
        have hS1 : W1.cell? ⟨bA, oA, none⟩ = some (.slice Aj nj cj) := hS
        (try simp only [Act.put, List.setIfInBounds_toArray, List.set_cons_zero, List.set_cons_succ])
        refine wpAnyH_ready (rs := [11, 13]) (by kernel_rfl) (by simp) ?_
        refine consD 11 (some 31) rfl (fun o ho K hK hdo => ?_) ?_
        · simp only [List.getElem?_toArray, List.getElem?_cons_succ, List.getElem?_cons_zero, Option.some.injEq] at ho
          subst ho
          clear hdo
          refine step_make_full _ rfl _ _ 24 rfl w.heap.size 2 i0 (.int .i64 0) 1 Try.underlying24 hi hz0 hz1 .i64 .i64 pl pl pl rfl rfl rfl rfl ?m1 ?m2 ?m3 (fun W2 hrow hgr => ?_)
          case m1 => rw [hz2]; omega
          case m2 => unfold maxLen; omega
          case m3 => omega
          rw [made_zero pl] at hrow
          have pW2 : Own w.heap.size W2 (some ⟨W1.heap.size, 0, none⟩) pl pl (List.replicate pl 0) := ⟨hrow, fun z hz => by rw [List.eq_of_mem_replicate hz]; rfl⟩
          have dW2 : Below W1.heap.size W1 W2 := (Below.refl _ _).grown hgr (Nat.le_refl _) (fun k hk => by cases hk)
          have lW2 : W1.heap.size < W2.heap.size := pW2.lt _ rfl
          clear hrow hgr
          have hB2 : Below w.heap.size w W2 := hB1.trans (dW2.mono hB1.size)
          refine hK.out _ _ ?_ (fun hS => ?_)
          · exact (dW2.cell (p := ⟨bA, oA, none⟩) (show bA < W1.heap.size by omega)).trans hS1
          clear hK K
          have hS2 : W2.cell? ⟨bA, oA, none⟩ = some (.slice Aj nj cj) := hS
          (try simp only [Act.put, List.setIfInBounds_toArray, List.set_cons_zero, List.set_cons_succ])
          refine takeD 12 (some 32) (v := ?_) rfl (by kernel_rfl) (by kernel_rfl) (by kernel_rfl) (fun _ _ _ h => h) hS (fun o ho => Or.inl ⟨by cases ho; rfl, ?_⟩) ?_
          rotate_left
          · cases ho
            intro w' hw'
            (try dsimp only at hw')
            go_simp
            (try with_reducible rfl)
          (try simp only [Act.put, List.setIfInBounds_toArray, List.set_cons_zero, List.set_cons_succ])
          refine wpAnyH_ready (rs := [13]) (by kernel_rfl) (by simp) ?_
          refine consD 13 (some 10) rfl (fun o ho K hK hdo => ?_) ?_
          · simp only [List.getElem?_toArray, List.getElem?_cons_succ, List.getElem?_cons_zero, Option.some.injEq] at ho
            subst ho
            clear hdo
            rw [if_pos (by rfl)]
            go_wp2_with fail
            obtain ⟨W3, hW3⟩ : ∃ X, X = W2.alloc (.cells #[.int .i64 0, .int .i64 0, .int .i64 0, .int .i64 0, nilV, nilV] 32) := ⟨_, rfl⟩
            rw [← hW3]
            have dW3 : Below W2.heap.size W2 W3 := by rw [hW3]; exact (Below.refl _ _).alloc (Nat.le_refl _) _
            have cW3 : Blk W3 W2.heap.size #[.int .i64 0, .int .i64 0, .int .i64 0, .int .i64 0, nilV, nilV] 32 := by rw [hW3]; exact Blk.new _ _ _
            have lW3 := cW3.lt
            clear hW3
            have hB3 : Below w.heap.size w W3 := hB2.trans (dW3.mono hB2.size)
            refine hK.out _ _ ?_ (fun hS => ?_)
            · exact (dW3.cell (p := ⟨bA, oA, none⟩) (show bA < W2.heap.size by omega)).trans hS2
            clear hK K
            have hS3 : W3.cell? ⟨bA, oA, none⟩ = some (.slice Aj nj cj) := hS
            (try simp only [Act.put, List.setIfInBounds_toArray, List.set_cons_zero, List.set_cons_succ])
            have TB := Lib.hid ((tW1.below dW2 (by omega)).below dW3 (by omega))
            have PL := Lib.hid (pW2.below dW3)
            have CC := Lib.hid cW3
            have RB := Lib.hid (((hR0.below dW1 (by omega)).below dW2 (by omega)).below dW3 (by omega))
            have HB := Lib.hid hB3
            have ltt := TB.out.lt
            have ltr := RB.out.lt
            have q0 := CC.out.cell 0
            have f0 := CC.out.frozen 0
            have q1 := CC.out.cell 1
            have f1 := CC.out.frozen 1
            have q2 := CC.out.cell 2
            have f2 := CC.out.frozen 2
            have q3 := CC.out.cell 3
            have f3 := CC.out.frozen 3
            have q4 := CC.out.cell 4
            have f4 := CC.out.frozen 4
            have q5 := CC.out.cell 5
            have f5 := CC.out.frozen 5
            have gne : W0.heap.size ≠ W2.heap.size := by omega
            have pne : W1.heap.size ≠ W2.heap.size := by omega
            have rne : w.heap.size ≠ W2.heap.size := by omega
            have s3 := HB.out.size
            have gB : w.heap.size ≤ W2.heap.size := by omega
            have tB : w.heap.size ≤ W0.heap.size := by omega
            have HF : Hid (EvL w (some ⟨bA, oA, none⟩) n c pl (nj : Int) start stop (six W3 W2.heap.size (.int .i64 (nj : Int)) (.int .i64 n) (.int .i64 start) (.int .i64 stop) (.slice (some ⟨W0.heap.size, 0, none⟩) 1 1) (.slice (some ⟨W1.heap.size, 0, none⟩) pl pl)) W2.heap.size W0.heap.size W1.heap.size) := Lib.hid (EvL.made TB.out PL.out CC.out RB.out HB.out gne pne rne gB tB)
            unfold six at HF
            clear hB0 hB1 hB2 hB3 dW1 dW2 dW3 hS0 hS1 hS2 hS3 hR0
            refine wpAnyH_done (by kernel_rfl) ?_ _
            refine thenD rfl (fun o ho K hK => ?_)
            simp only [List.getElem?_toArray, List.getElem?_cons_succ, List.getElem?_cons_zero, Option.some.injEq] at ho
            subst ho
            clear hS
            go_wp2_with fail
            refine hK.out _ _ ?_
            clear hK K
            go_wp2_with fail
            go_meet
            exact ⟨_, _, _, rfl, HF⟩
          exact AllReadyH.nil
        refine consD 13 (some 10) rfl (fun o ho K hK hdo => ?_) ?_
        · simp only [List.getElem?_toArray, List.getElem?_cons_succ, List.getElem?_cons_zero, Option.some.injEq] at ho
          subst ho
          clear hdo
          rw [if_pos (by rfl)]
          go_wp2_with fail
          obtain ⟨W2, hW2⟩ : ∃ X, X = W1.alloc (.cells #[.int .i64 0, .int .i64 0, .int .i64 0, .int .i64 0, nilV, nilV] 32) := ⟨_, rfl⟩
          rw [← hW2]
          have dW2 : Below W1.heap.size W1 W2 := by rw [hW2]; exact (Below.refl _ _).alloc (Nat.le_refl _) _
          have cW2 : Blk W2 W1.heap.size #[.int .i64 0, .int .i64 0, .int .i64 0, .int .i64 0, nilV, nilV] 32 := by rw [hW2]; exact Blk.new _ _ _
          have lW2 := cW2.lt
          clear hW2
          have hB2 : Below w.heap.size w W2 := hB1.trans (dW2.mono hB1.size)
          refine hK.out _ _ ?_ (fun hS => ?_)
          · exact (dW2.cell (p := ⟨bA, oA, none⟩) (show bA < W1.heap.size by omega)).trans hS1
          clear hK K
          have hS2 : W2.cell? ⟨bA, oA, none⟩ = some (.slice Aj nj cj) := hS
          (try simp only [Act.put, List.setIfInBounds_toArray, List.set_cons_zero, List.set_cons_succ])
          refine wpAnyH_ready (rs := [11]) (by kernel_rfl) (by simp) ?_
          refine consD 11 (some 31) rfl (fun o ho K hK hdo => ?_) ?_
          · simp only [List.getElem?_toArray, List.getElem?_cons_succ, List.getElem?_cons_zero, Option.some.injEq] at ho
            subst ho
            clear hdo
            refine step_make_full _ rfl _ _ 24 rfl w.heap.size 2 i0 (.int .i64 0) 1 Try.underlying24 hi hz0 hz1 .i64 .i64 pl pl pl rfl rfl rfl rfl ?m1 ?m2 ?m3 (fun W3 hrow hgr => ?_)
            case m1 => rw [hz2]; omega
            case m2 => unfold maxLen; omega
            case m3 => omega
            rw [made_zero pl] at hrow
            have pW3 : Own w.heap.size W3 (some ⟨W2.heap.size, 0, none⟩) pl pl (List.replicate pl 0) := ⟨hrow, fun z hz => by rw [List.eq_of_mem_replicate hz]; rfl⟩
            have dW3 : Below W2.heap.size W2 W3 := (Below.refl _ _).grown hgr (Nat.le_refl _) (fun k hk => by cases hk)
            have lW3 : W2.heap.size < W3.heap.size := pW3.lt _ rfl
            clear hrow hgr
            have hB3 : Below w.heap.size w W3 := hB2.trans (dW3.mono hB2.size)
            refine hK.out _ _ ?_ (fun hS => ?_)
            · exact (dW3.cell (p := ⟨bA, oA, none⟩) (show bA < W2.heap.size by omega)).trans hS2
            clear hK K
            have hS3 : W3.cell? ⟨bA, oA, none⟩ = some (.slice Aj nj cj) := hS
            (try simp only [Act.put, List.setIfInBounds_toArray, List.set_cons_zero, List.set_cons_succ])
            refine takeD 12 (some 32) (v := ?_) rfl (by kernel_rfl) (by kernel_rfl) (by kernel_rfl) (fun _ _ _ h => h) hS (fun o ho => Or.inl ⟨by cases ho; rfl, ?_⟩) ?_
            rotate_left
            · cases ho
              intro w' hw'
              (try dsimp only at hw')
              go_simp
              (try with_reducible rfl)
            (try simp only [Act.put, List.setIfInBounds_toArray, List.set_cons_zero, List.set_cons_succ])
            have TB := Lib.hid ((tW1.below dW2 (by omega)).below dW3 (by omega))
            have PL := Lib.hid pW3
            have CC := Lib.hid (cW2.below dW3 (by omega))
            have RB := Lib.hid (((hR0.below dW1 (by omega)).below dW2 (by omega)).below dW3 (by omega))
            have HB := Lib.hid hB3
            have ltt := TB.out.lt
            have ltr := RB.out.lt
            have q0 := CC.out.cell 0
            have f0 := CC.out.frozen 0
            have q1 := CC.out.cell 1
            have f1 := CC.out.frozen 1
            have q2 := CC.out.cell 2
            have f2 := CC.out.frozen 2
            have q3 := CC.out.cell 3
            have f3 := CC.out.frozen 3
            have q4 := CC.out.cell 4
            have f4 := CC.out.frozen 4
            have q5 := CC.out.cell 5
            have f5 := CC.out.frozen 5
            have gne : W0.heap.size ≠ W1.heap.size := by omega
            have pne : W2.heap.size ≠ W1.heap.size := by omega
            have rne : w.heap.size ≠ W1.heap.size := by omega
            have s3 := HB.out.size
            have gB : w.heap.size ≤ W1.heap.size := by omega
            have tB : w.heap.size ≤ W0.heap.size := by omega
            have HF : Hid (EvL w (some ⟨bA, oA, none⟩) n c pl (nj : Int) start stop (six W3 W1.heap.size (.int .i64 (nj : Int)) (.int .i64 n) (.int .i64 start) (.int .i64 stop) (.slice (some ⟨W0.heap.size, 0, none⟩) 1 1) (.slice (some ⟨W2.heap.size, 0, none⟩) pl pl)) W1.heap.size W0.heap.size W2.heap.size) := Lib.hid (EvL.made TB.out PL.out CC.out RB.out HB.out gne pne rne gB tB)
            unfold six at HF
            clear hB0 hB1 hB2 hB3 dW1 dW2 dW3 hS0 hS1 hS2 hS3 hR0
            refine wpAnyH_done (by kernel_rfl) ?_ _
            refine thenD rfl (fun o ho K hK => ?_)
            simp only [List.getElem?_toArray, List.getElem?_cons_succ, List.getElem?_cons_zero, Option.some.injEq] at ho
            subst ho
            clear hS
            go_wp2_with fail
            refine hK.out _ _ ?_
            clear hK K
            go_wp2_with fail
            go_meet
            exact ⟨_, _, _, rfl, HF⟩
          exact AllReadyH.nil
        exact AllReadyH.nil
      refine consD 11 (some 31) rfl (fun o ho K hK hdo => ?_) ?_
      · simp only [List.getElem?_toArray, List.getElem?_cons_succ, List.getElem?_cons_zero, Option.some.injEq] at ho
        subst ho
        clear hdo
        refine step_make_full _ rfl _ _ 24 rfl w.heap.size 2 i0 (.int .i64 0) 1 Try.underlying24 hi hz0 hz1 .i64 .i64 pl pl pl rfl rfl rfl rfl ?m1 ?m2 ?m3 (fun W1 hrow hgr => ?_)
        case m1 => rw [hz2]; omega
        case m2 => unfold maxLen; omega
        case m3 => omega
        rw [made_zero pl] at hrow
        have pW1 : Own w.heap.size W1 (some ⟨W0.heap.size, 0, none⟩) pl pl (List.replicate pl 0) := ⟨hrow, fun z hz => by rw [List.eq_of_mem_replicate hz]; rfl⟩
        have dW1 : Below W0.heap.size W0 W1 := (Below.refl _ _).grown hgr (Nat.le_refl _) (fun k hk => by cases hk)
        have lW1 : W0.heap.size < W1.heap.size := pW1.lt _ rfl
        clear hrow hgr
        have hB1 : Below w.heap.size w W1 := hB0.trans (dW1.mono hB0.size)
        refine hK.out _ _ ?_ (fun hS => ?_)
        · exact (dW1.cell (p := ⟨bA, oA, none⟩) (show bA < W0.heap.size by omega)).trans hS0
        clear hK K
        have hS1 : W1.cell? ⟨bA, oA, none⟩ = some (.slice Aj nj cj) := hS
        (try simp only [Act.put, List.setIfInBounds_toArray, List.set_cons_zero, List.set_cons_succ])
        refine wpAnyH_ready (rs := [9, 13]) (by kernel_rfl) (by simp) ?_
        refine consD 9 (some 29) rfl (fun o ho K hK hdo => ?_) ?_
        · simp only [List.getElem?_toArray, List.getElem?_cons_succ, List.getElem?_cons_zero, Option.some.injEq] at ho
          subst ho
          clear hdo
          rw [if_pos (by rfl)]
          go_wp2_with fail
          obtain ⟨W2, hW2⟩ : ∃ X, X = W1.alloc (.cells #[.slice (some ⟨bA, oA, none⟩) n c] 39) := ⟨_, rfl⟩
          rw [← hW2]
          have dW2 : Below W1.heap.size W1 W2 := by rw [hW2]; exact (Below.refl _ _).alloc (Nat.le_refl _) _
          have tW2 : Blk W2 W1.heap.size #[.slice (some ⟨bA, oA, none⟩) n c] 39 := by rw [hW2]; exact Blk.new _ _ _
          have lW2 := tW2.lt
          clear hW2
          have hB2 : Below w.heap.size w W2 := hB1.trans (dW2.mono hB1.size)
          refine hK.out _ _ ?_ (fun hS => ?_)
          · exact (dW2.cell (p := ⟨bA, oA, none⟩) (show bA < W1.heap.size by omega)).trans hS1
          clear hK K
          have hS2 : W2.cell? ⟨bA, oA, none⟩ = some (.slice Aj nj cj) := hS
          (try simp only [Act.put, List.setIfInBounds_toArray, List.set_cons_zero, List.set_cons_succ])
          refine takeD 12 (some 32) (v := ?_) rfl (by kernel_rfl) (by kernel_rfl) (by kernel_rfl) (fun _ _ _ h => h) hS (fun o ho => Or.inl ⟨by cases ho; rfl, ?_⟩) ?_
          rotate_left
          · cases ho
            intro w' hw'
            (try dsimp only at hw')
            go_simp
            (try with_reducible rfl)
          (try simp only [Act.put, List.setIfInBounds_toArray, List.set_cons_zero, List.set_cons_succ])
          refine wpAnyH_ready (rs := [13]) (by kernel_rfl) (by simp) ?_
          refine consD 13 (some 10) rfl (fun o ho K hK hdo => ?_) ?_
          · simp only [List.getElem?_toArray, List.getElem?_cons_succ, List.getElem?_cons_zero, Option.some.injEq] at ho
            subst ho
            clear hdo
            rw [if_pos (by rfl)]
            go_wp2_with fail
            obtain ⟨W3, hW3⟩ : ∃ X, X = W2.alloc (.cells #[.int .i64 0, .int .i64 0, .int .i64 0, .int .i64 0, nilV, nilV] 32) := ⟨_, rfl⟩
            rw [← hW3]
            have dW3 : Below W2.heap.size W2 W3 := by rw [hW3]; exact (Below.refl _ _).alloc (Nat.le_refl _) _
            have cW3 : Blk W3 W2.heap.size #[.int .i64 0, .int .i64 0, .int .i64 0, .int .i64 0, nilV, nilV] 32 := by rw [hW3]; exact Blk.new _ _ _
            have lW3 := cW3.lt
            clear hW3
            have hB3 : Below w.heap.size w W3 := hB2.trans (dW3.mono hB2.size)
            refine hK.out _ _ ?_ (fun hS => ?_)
            · exact (dW3.cell (p := ⟨bA, oA, none⟩) (show bA < W2.heap.size by omega)).trans hS2
            clear hK K
            have hS3 : W3.cell? ⟨bA, oA, none⟩ = some (.slice Aj nj cj) := hS
            (try simp only [Act.put, List.setIfInBounds_toArray, List.set_cons_zero, List.set_cons_succ])
            have TB := Lib.hid (tW2.below dW3 (by omega))
            have PL := Lib.hid ((pW1.below dW2).below dW3)
            have CC := Lib.hid cW3
            have RB := Lib.hid (((hR0.below dW1 (by omega)).below dW2 (by omega)).below dW3 (by omega))
            have HB := Lib.hid hB3
            have ltt := TB.out.lt
            have ltr := RB.out.lt
            have q0 := CC.out.cell 0
            have f0 := CC.out.frozen 0
            have q1 := CC.out.cell 1
            have f1 := CC.out.frozen 1
            have q2 := CC.out.cell 2
            have f2 := CC.out.frozen 2
            have q3 := CC.out.cell 3
            have f3 := CC.out.frozen 3
            have q4 := CC.out.cell 4
            have f4 := CC.out.frozen 4
            have q5 := CC.out.cell 5
            have f5 := CC.out.frozen 5
            have gne : W1.heap.size ≠ W2.heap.size := by omega
            have pne : W0.heap.size ≠ W2.heap.size := by omega
            have rne : w.heap.size ≠ W2.heap.size := by omega
            have s3 := HB.out.size
            have gB : w.heap.size ≤ W2.heap.size := by omega
            have tB : w.heap.size ≤ W1.heap.size := by omega
            have HF : Hid (EvL w (some ⟨bA, oA, none⟩) n c pl (nj : Int) start stop (six W3 W2.heap.size (.int .i64 (nj : Int)) (.int .i64 n) (.int .i64 start) (.int .i64 stop) (.slice (some ⟨W1.heap.size, 0, none⟩) 1 1) (.slice (some ⟨W0.heap.size, 0, none⟩) pl pl)) W2.heap.size W1.heap.size W0.heap.size) := Lib.hid (EvL.made TB.out PL.out CC.out RB.out HB.out gne pne rne gB tB)
            unfold six at HF
            clear hB0 hB1 hB2 hB3 dW1 dW2 dW3 hS0 hS1 hS2 hS3 hR0
            refine wpAnyH_done (by kernel_rfl) ?_ _
            refine thenD rfl (fun o ho K hK => ?_)
            simp only [List.getElem?_toArray, List.getElem?_cons_succ, List.getElem?_cons_zero, Option.some.injEq] at ho
            subst ho
            clear hS
            go_wp2_with fail
            refine hK.out _ _ ?_
            clear hK K
            go_wp2_with fail
            go_meet
            exact ⟨_, _, _, rfl, HF⟩
          exact AllReadyH.nil
        refine consD 13 (some 10) rfl (fun o ho K hK hdo => ?_) ?_
        · simp only [List.getElem?_toArray, List.getElem?_cons_succ, List.getElem?_cons_zero, Option.some.injEq] at ho
          subst ho
          clear hdo
          rw [if_pos (by rfl)]
          go_wp2_with fail
          obtain ⟨W2, hW2⟩ : ∃ X, X = W1.alloc (.cells #[.int .i64 0, .int .i64 0, .int .i64 0, .int .i64 0, nilV, nilV] 32) := ⟨_, rfl⟩
          rw [← hW2]
          have dW2 : Below W1.heap.size W1 W2 := by rw [hW2]; exact (Below.refl _ _).alloc (Nat.le_refl _) _
          have cW2 : Blk W2 W1.heap.size #[.int .i64 0, .int .i64 0, .int .i64 0, .int .i64 0, nilV, nilV] 32 := by rw [hW2]; exact Blk.new _ _ _
          have lW2 := cW2.lt
          clear hW2
          have hB2 : Below w.heap.size w W2 := hB1.trans (dW2.mono hB1.size)
          refine hK.out _ _ ?_ (fun hS => ?_)
          · exact (dW2.cell (p := ⟨bA, oA, none⟩) (show bA < W1.heap.size by omega)).trans hS1
          clear hK K
          have hS2 : W2.cell? ⟨bA, oA, none⟩ = some (.slice Aj nj cj) := hS
          (try simp only [Act.put, List.setIfInBounds_toArray, List.set_cons_zero, List.set_cons_succ])
          refine wpAnyH_ready (rs := [9]) (by kernel_rfl) (by simp) ?_
          refine consD 9 (some 29) rfl (fun o ho K hK hdo => ?_) ?_
          · simp only [List.getElem?_toArray, List.getElem?_cons_succ, List.getElem?_cons_zero, Option.some.injEq] at ho
            subst ho
            clear hdo
            rw [if_pos (by rfl)]
            go_wp2_with fail
            obtain ⟨W3, hW3⟩ : ∃ X, X = W2.alloc (.cells #[.slice (some ⟨bA, oA, none⟩) n c] 39) := ⟨_, rfl⟩
            rw [← hW3]
            have dW3 : Below W2.heap.size W2 W3 := by rw [hW3]; exact (Below.refl _ _).alloc (Nat.le_refl _) _
            have tW3 : Blk W3 W2.heap.size #[.slice (some ⟨bA, oA, none⟩) n c] 39 := by rw [hW3]; exact Blk.new _ _ _
            have lW3 := tW3.lt
            clear hW3
            have hB3 : Below w.heap.size w W3 := hB2.trans (dW3.mono hB2.size)
            refine hK.out _ _ ?_ (fun hS => ?_)
            · exact (dW3.cell (p := ⟨bA, oA, none⟩) (show bA < W2.heap.size by omega)).trans hS2
            clear hK K
            have hS3 : W3.cell? ⟨bA, oA, none⟩ = some (.slice Aj nj cj) := hS
            (try simp only [Act.put, List.setIfInBounds_toArray, List.set_cons_zero, List.set_cons_succ])
            refine takeD 12 (some 32) (v := ?_) rfl (by kernel_rfl) (by kernel_rfl) (by kernel_rfl) (fun _ _ _ h => h) hS (fun o ho => Or.inl ⟨by cases ho; rfl, ?_⟩) ?_
            rotate_left
            · cases ho
              intro w' hw'
              (try dsimp only at hw')
              go_simp
              (try with_reducible rfl)
            (try simp only [Act.put, List.setIfInBounds_toArray, List.set_cons_zero, List.set_cons_succ])
            have TB := Lib.hid tW3
            have PL := Lib.hid ((pW1.below dW2).below dW3)
            have CC := Lib.hid (cW2.below dW3 (by omega))
            have RB := Lib.hid (((hR0.below dW1 (by omega)).below dW2 (by omega)).below dW3 (by omega))
            have HB := Lib.hid hB3
            have ltt := TB.out.lt
            have ltr := RB.out.lt
            have q0 := CC.out.cell 0
            have f0 := CC.out.frozen 0
            have q1 := CC.out.cell 1
            have f1 := CC.out.frozen 1
            have q2 := CC.out.cell 2
            have f2 := CC.out.frozen 2
            have q3 := CC.out.cell 3
            have f3 := CC.out.frozen 3
            have q4 := CC.out.cell 4
            have f4 := CC.out.frozen 4
            have q5 := CC.out.cell 5
            have f5 := CC.out.frozen 5
            have gne : W2.heap.size ≠ W1.heap.size := by omega
            have pne : W0.heap.size ≠ W1.heap.size := by omega
            have rne : w.heap.size ≠ W1.heap.size := by omega
            have s3 := HB.out.size
            have gB : w.heap.size ≤ W1.heap.size := by omega
            have tB : w.heap.size ≤ W2.heap.size := by omega
            have HF : Hid (EvL w (some ⟨bA, oA, none⟩) n c pl (nj : Int) start stop (six W3 W1.heap.size (.int .i64 (nj : Int)) (.int .i64 n) (.int .i64 start) (.int .i64 stop) (.slice (some ⟨W2.heap.size, 0, none⟩) 1 1) (.slice (some ⟨W0.heap.size, 0, none⟩) pl pl)) W1.heap.size W2.heap.size W0.heap.size) := Lib.hid (EvL.made TB.out PL.out CC.out RB.out HB.out gne pne rne gB tB)
            unfold six at HF
            clear hB0 hB1 hB2 hB3 dW1 dW2 dW3 hS0 hS1 hS2 hS3 hR0
            refine wpAnyH_done (by kernel_rfl) ?_ _
            refine thenD rfl (fun o ho K hK => ?_)
            simp only [List.getElem?_toArray, List.getElem?_cons_succ, List.getElem?_cons_zero, Option.some.injEq] at ho
            subst ho
            clear hS
            go_wp2_with fail
            refine hK.out _ _ ?_
            clear hK K
            go_wp2_with fail
            go_meet
            exact ⟨_, _, _, rfl, HF⟩
          exact AllReadyH.nil
        exact AllReadyH.nil
      refine consD 13 (some 10) rfl (fun o ho K hK hdo => ?_) ?_
      · simp only [List.getElem?_toArray, List.getElem?_cons_succ, List.getElem?_cons_zero, Option.some.injEq] at ho
        subst ho
        clear hdo
        rw [if_pos (by rfl)]
        go_wp2_with fail
        obtain ⟨W1, hW1⟩ : ∃ X, X = W0.alloc (.cells #[.int .i64 0, .int .i64 0, .int .i64 0, .int .i64 0, nilV, nilV] 32) := ⟨_, rfl⟩
        rw [← hW1]
        have dW1 : Below W0.heap.size W0 W1 := by rw [hW1]; exact (Below.refl _ _).alloc (Nat.le_refl _) _
        have cW1 : Blk W1 W0.heap.size #[.int .i64 0, .int .i64 0, .int .i64 0, .int .i64 0, nilV, nilV] 32 := by rw [hW1]; exact Blk.new _ _ _
        have lW1 := cW1.lt
        clear hW1
        have hB1 : Below w.heap.size w W1 := hB0.trans (dW1.mono hB0.size)
        refine hK.out _ _ ?_ (fun hS => ?_)
        · exact (dW1.cell (p := ⟨bA, oA, none⟩) (show bA < W0.heap.size by omega)).trans hS0
        clear hK K
        have hS1 : W1.cell? ⟨bA, oA, none⟩ = some (.slice Aj nj cj) := hS
        (try simp only [Act.put, List.setIfInBounds_toArray, List.set_cons_zero, List.set_cons_succ])
        refine wpAnyH_ready (rs := [9, 11]) (by kernel_rfl) (by simp) ?_
        refine consD 9 (some 29) rfl (fun o ho K hK hdo => ?_) ?_
        · simp only [List.getElem?_toArray, List.getElem?_cons_succ, List.getElem?_cons_zero, Option.some.injEq] at ho
          subst ho
          clear hdo
          rw [if_pos (by rfl)]
          go_wp2_with fail
          obtain ⟨W2, hW2⟩ : ∃ X, X = W1.alloc (.cells #[.slice (some ⟨bA, oA, none⟩) n c] 39) := ⟨_, rfl⟩
          rw [← hW2]
          have dW2 : Below W1.heap.size W1 W2 := by rw [hW2]; exact (Below.refl _ _).alloc (Nat.le_refl _) _
          have tW2 : Blk W2 W1.heap.size #[.slice (some ⟨bA, oA, none⟩) n c] 39 := by rw [hW2]; exact Blk.new _ _ _
          have lW2 := tW2.lt
          clear hW2
          have hB2 : Below w.heap.size w W2 := hB1.trans (dW2.mono hB1.size)
          refine hK.out _ _ ?_ (fun hS => ?_)
          · exact (dW2.cell (p := ⟨bA, oA, none⟩) (show bA < W1.heap.size by omega)).trans hS1
          clear hK K
          have hS2 : W2.cell? ⟨bA, oA, none⟩ = some (.slice Aj nj cj) := hS
          (try simp only [Act.put, List.setIfInBounds_toArray, List.set_cons_zero, List.set_cons_succ])
          refine wpAnyH_ready (rs := [11]) (by kernel_rfl) (by simp) ?_
          refine consD 11 (some 31) rfl (fun o ho K hK hdo => ?_) ?_
          · simp only [List.getElem?_toArray, List.getElem?_cons_succ, List.getElem?_cons_zero, Option.some.injEq] at ho
            subst ho
            clear hdo
            refine step_make_full _ rfl _ _ 24 rfl w.heap.size 2 i0 (.int .i64 0) 1 Try.underlying24 hi hz0 hz1 .i64 .i64 pl pl pl rfl rfl rfl rfl ?m1 ?m2 ?m3 (fun W3 hrow hgr => ?_)
            case m1 => rw [hz2]; omega
            case m2 => unfold maxLen; omega
            case m3 => omega
            rw [made_zero pl] at hrow
            have pW3 : Own w.heap.size W3 (some ⟨W2.heap.size, 0, none⟩) pl pl (List.replicate pl 0) := ⟨hrow, fun z hz => by rw [List.eq_of_mem_replicate hz]; rfl⟩
            have dW3 : Below W2.heap.size W2 W3 := (Below.refl _ _).grown hgr (Nat.le_refl _) (fun k hk => by cases hk)
            have lW3 : W2.heap.size < W3.heap.size := pW3.lt _ rfl
            clear hrow hgr
            have hB3 : Below w.heap.size w W3 := hB2.trans (dW3.mono hB2.size)
            refine hK.out _ _ ?_ (fun hS => ?_)
            · exact (dW3.cell (p := ⟨bA, oA, none⟩) (show bA < W2.heap.size by omega)).trans hS2
            clear hK K
            have hS3 : W3.cell? ⟨bA, oA, none⟩ = some (.slice Aj nj cj) := hS
            (try simp only [Act.put, List.setIfInBounds_toArray, List.set_cons_zero, List.set_cons_succ])
            refine takeD 12 (some 32) (v := ?_) rfl (by kernel_rfl) (by kernel_rfl) (by kernel_rfl) (fun _ _ _ h => h) hS (fun o ho => Or.inl ⟨by cases ho; rfl, ?_⟩) ?_
            rotate_left
            · cases ho
              intro w' hw'
              (try dsimp only at hw')
              go_simp
              (try with_reducible rfl)
            (try simp only [Act.put, List.setIfInBounds_toArray, List.set_cons_zero, List.set_cons_succ])
            have TB := Lib.hid (tW2.below dW3 (by omega))
            have PL := Lib.hid pW3
            have CC := Lib.hid ((cW1.below dW2 (by omega)).below dW3 (by omega))
            have RB := Lib.hid (((hR0.below dW1 (by omega)).below dW2 (by omega)).below dW3 (by omega))
            have HB := Lib.hid hB3
            have ltt := TB.out.lt
            have ltr := RB.out.lt
            have q0 := CC.out.cell 0
            have f0 := CC.out.frozen 0
            have q1 := CC.out.cell 1
            have f1 := CC.out.frozen 1
            have q2 := CC.out.cell 2
            have f2 := CC.out.frozen 2
            have q3 := CC.out.cell 3
            have f3 := CC.out.frozen 3
            have q4 := CC.out.cell 4
            have f4 := CC.out.frozen 4
            have q5 := CC.out.cell 5
            have f5 := CC.out.frozen 5
            have gne : W1.heap.size ≠ W0.heap.size := by omega
            have pne : W2.heap.size ≠ W0.heap.size := by omega
            have rne : w.heap.size ≠ W0.heap.size := by omega
            have s3 := HB.out.size
            have gB : w.heap.size ≤ W0.heap.size := by omega
            have tB : w.heap.size ≤ W1.heap.size := by omega
            have HF : Hid (EvL w (some ⟨bA, oA, none⟩) n c pl (nj : Int) start stop (six W3 W0.heap.size (.int .i64 (nj : Int)) (.int .i64 n) (.int .i64 start) (.int .i64 stop) (.slice (some ⟨W1.heap.size, 0, none⟩) 1 1) (.slice (some ⟨W2.heap.size, 0, none⟩) pl pl)) W0.heap.size W1.heap.size W2.heap.size) := Lib.hid (EvL.made TB.out PL.out CC.out RB.out HB.out gne pne rne gB tB)
            unfold six at HF
            clear hB0 hB1 hB2 hB3 dW1 dW2 dW3 hS0 hS1 hS2 hS3 hR0
            refine wpAnyH_done (by kernel_rfl) ?_ _
            refine thenD rfl (fun o ho K hK => ?_)
            simp only [List.getElem?_toArray, List.getElem?_cons_succ, List.getElem?_cons_zero, Option.some.injEq] at ho
            subst ho
            clear hS
            go_wp2_with fail
            refine hK.out _ _ ?_
            clear hK K
            go_wp2_with fail
            go_meet
            exact ⟨_, _, _, rfl, HF⟩
          exact AllReadyH.nil
        refine consD 11 (some 31) rfl (fun o ho K hK hdo => ?_) ?_
        · simp only [List.getElem?_toArray, List.getElem?_cons_succ, List.getElem?_cons_zero, Option.some.injEq] at ho
          subst ho
          clear hdo
          refine step_make_full _ rfl _ _ 24 rfl w.heap.size 2 i0 (.int .i64 0) 1 Try.underlying24 hi hz0 hz1 .i64 .i64 pl pl pl rfl rfl rfl rfl ?m1 ?m2 ?m3 (fun W2 hrow hgr => ?_)
          case m1 => rw [hz2]; omega
          case m2 => unfold maxLen; omega
          case m3 => omega
          rw [made_zero pl] at hrow
          have pW2 : Own w.heap.size W2 (some ⟨W1.heap.size, 0, none⟩) pl pl (List.replicate pl 0) := ⟨hrow, fun z hz => by rw [List.eq_of_mem_replicate hz]; rfl⟩
          have dW2 : Below W1.heap.size W1 W2 := (Below.refl _ _).grown hgr (Nat.le_refl _) (fun k hk => by cases hk)
          have lW2 : W1.heap.size < W2.heap.size := pW2.lt _ rfl
          clear hrow hgr
          have hB2 : Below w.heap.size w W2 := hB1.trans (dW2.mono hB1.size)
          refine hK.out _ _ ?_ (fun hS => ?_)
          · exact (dW2.cell (p := ⟨bA, oA, none⟩) (show bA < W1.heap.size by omega)).trans hS1
          clear hK K
          have hS2 : W2.cell? ⟨bA, oA, none⟩ = some (.slice Aj nj cj) := hS
          (try simp only [Act.put, List.setIfInBounds_toArray, List.set_cons_zero, List.set_cons_succ])
          refine wpAnyH_ready (rs := [9]) (by kernel_rfl) (by simp) ?_
          refine consD 9 (some 29) rfl (fun o ho K hK hdo => ?_) ?_
          · simp only [List.getElem?_toArray, List.getElem?_cons_succ, List.getElem?_cons_zero, Option.some.injEq] at ho
            subst ho
            clear hdo
            rw [if_pos (by rfl)]
            go_wp2_with fail
            obtain ⟨W3, hW3⟩ : ∃ X, X = W2.alloc (.cells #[.slice (some ⟨bA, oA, none⟩) n c] 39) := ⟨_, rfl⟩
            rw [← hW3]
            have dW3 : Below W2.heap.size W2 W3 := by rw [hW3]; exact (Below.refl _ _).alloc (Nat.le_refl _) _
            have tW3 : Blk W3 W2.heap.size #[.slice (some ⟨bA, oA, none⟩) n c] 39 := by rw [hW3]; exact Blk.new _ _ _
            have lW3 := tW3.lt
            clear hW3
            have hB3 : Below w.heap.size w W3 := hB2.trans (dW3.mono hB2.size)
            refine hK.out _ _ ?_ (fun hS => ?_)
            · exact (dW3.cell (p := ⟨bA, oA, none⟩) (show bA < W2.heap.size by omega)).trans hS2
            clear hK K
            have hS3 : W3.cell? ⟨bA, oA, none⟩ = some (.slice Aj nj cj) := hS
            (try simp only [Act.put, List.setIfInBounds_toArray, List.set_cons_zero, List.set_cons_succ])
            refine takeD 12 (some 32) (v := ?_) rfl (by kernel_rfl) (by kernel_rfl) (by kernel_rfl) (fun _ _ _ h => h) hS (fun o ho => Or.inl ⟨by cases ho; rfl, ?_⟩) ?_
            rotate_left
            · cases ho
              intro w' hw'
              (try dsimp only at hw')
              go_simp
              (try with_reducible rfl)
            (try simp only [Act.put, List.setIfInBounds_toArray, List.set_cons_zero, List.set_cons_succ])
            have TB := Lib.hid tW3
            have PL := Lib.hid (pW2.below dW3)
            have CC := Lib.hid ((cW1.below dW2 (by omega)).below dW3 (by omega))
            have RB := Lib.hid (((hR0.below dW1 (by omega)).below dW2 (by omega)).below dW3 (by omega))
            have HB := Lib.hid hB3
            have ltt := TB.out.lt
            have ltr := RB.out.lt
            have q0 := CC.out.cell 0
            have f0 := CC.out.frozen 0
            have q1 := CC.out.cell 1
            have f1 := CC.out.frozen 1
            have q2 := CC.out.cell 2
            have f2 := CC.out.frozen 2
            have q3 := CC.out.cell 3
            have f3 := CC.out.frozen 3
            have q4 := CC.out.cell 4
            have f4 := CC.out.frozen 4
            have q5 := CC.out.cell 5
            have f5 := CC.out.frozen 5
            have gne : W2.heap.size ≠ W0.heap.size := by omega
            have pne : W1.heap.size ≠ W0.heap.size := by omega
            have rne : w.heap.size ≠ W0.heap.size := by omega
            have s3 := HB.out.size
            have gB : w.heap.size ≤ W0.heap.size := by omega
            have tB : w.heap.size ≤ W2.heap.size := by omega
            have HF : Hid (EvL w (some ⟨bA, oA, none⟩) n c pl (nj : Int) start stop (six W3 W0.heap.size (.int .i64 (nj : Int)) (.int .i64 n) (.int .i64 start) (.int .i64 stop) (.slice (some ⟨W2.heap.size, 0, none⟩) 1 1) (.slice (some ⟨W1.heap.size, 0, none⟩) pl pl)) W0.heap.size W2.heap.size W1.heap.size) := Lib.hid (EvL.made TB.out PL.out CC.out RB.out HB.out gne pne rne gB tB)
            unfold six at HF
            clear hB0 hB1 hB2 hB3 dW1 dW2 dW3 hS0 hS1 hS2 hS3 hR0
            refine wpAnyH_done (by kernel_rfl) ?_ _
            refine thenD rfl (fun o ho K hK => ?_)
            simp only [List.getElem?_toArray, List.getElem?_cons_succ, List.getElem?_cons_zero, Option.some.injEq] at ho
            subst ho
            clear hS
            go_wp2_with fail
            refine hK.out _ _ ?_
            clear hK K
            go_wp2_with fail
            go_meet
            exact ⟨_, _, _, rfl, HF⟩
          exact AllReadyH.nil
        exact AllReadyH.nil
      exact AllReadyH.nil
  case rest =>
    obtain ⟨g, gt, gp, rfl, E⟩ := hcut
    obtain ⟨W3, rfl⟩ : ∃ W3, W3 = wc := ⟨_, rfl⟩
    have hs3 := E.out.bel.size
    have hrows : ChRows W3.heap.size W3 ⟨(nj : Int), n, start, stop, [t], List.replicate pl 0⟩ (some ⟨gt, 0, none⟩) 1 (some ⟨gp, 0, none⟩) pl := E.out.rows HR.out hB hnc
    have hec : (⟨(nj : Int), n, start, stop, [t], List.replicate pl 0⟩ : Ch) = EvenC t pl start stop := by
      unfold EvenC; rw [hm0.out, hl]
    have CV := implValid_any ⟨(nj : Int), n, start, stop, [t], List.replicate pl 0⟩ (some ⟨gt, 0, none⟩) (some ⟨gp, 0, none⟩) 1 1 pl pl W3 hrows (Nat.le_refl _)
    rw [show Ch.ok ⟨(nj : Int), n, start, stop, [t], List.replicate pl 0⟩ = ok by rw [hec, HOKK.out]] at CV
    have CV : Calls Try.prog 88 #[.agg #[.int .i64 (nj : Int), .int .i64 n, .int .i64 start, .int .i64 stop, .slice (some ⟨gt, 0, none⟩) 1 1, .slice (some ⟨gp, 0, none⟩) pl pl]] W3 fun e w' => e = .returned (.bool ok) ∧ Below W3.heap.size W3 w' := CV
    have HEC : Hid (EvenC t pl start stop = ⟨(nj : Int), n, start, stop, [t], List.replicate pl 0⟩) := Lib.hid hec.symm
    have i0 := E.out.chain.cell 0
    have i1 := E.out.chain.cell 1
    have i2 := E.out.chain.cell 2
    have i3 := E.out.chain.cell 3
    have i4 := E.out.chain.cell 4
    have i5 := E.out.chain.cell 5
    clear hrows hec hi hz0 hz1 hz2 HOKK
    rcases ok with _ | _
    · go_wp2_with fail
      (go_at_call 88; (with_reducible refine (CV).mono ?_); rintro e w4 ⟨rfl, hb4⟩)
      have B4 : Hid (Blk w4 w.heap.size #[.int .i64 0, .int .i64 0, .int .i64 0, .int .i64 0, nilV, nilV] 32) := Lib.hid (E.out.ret.below hb4 E.out.ret.lt)
      have BEL4 : Hid (Below w.heap.size w w4) := Lib.hid (E.out.bel.trans (hb4.mono hs3))
      clear hb4 CV i0 i1 i2 i3 i4 i5
      have e0 := B4.out.cell 0
      have f0 := B4.out.frozen 0
      have e1 := B4.out.cell 1
      have f1 := B4.out.frozen 1
      have e2 := B4.out.cell 2
      have f2 := B4.out.frozen 2
      have e3 := B4.out.cell 3
      have f3 := B4.out.frozen 3
      have e4 := B4.out.cell 4
      have f4 := B4.out.frozen 4
      have e5 := B4.out.cell 5
      have f5 := B4.out.frozen 5
      go_wp2_with fail
      have q : Blk (six w4 w.heap.size (.int .i64 0) (.int .i64 0) (.int .i64 0) (.int .i64 0) nilV nilV) w.heap.size #[.int .i64 0, .int .i64 0, .int .i64 0, .int .i64 0, nilV, nilV] 32 := six_blk B4.out _ _ _ _ _ _
      have FB : Hid (Below w.heap.size w (six w4 w.heap.size (.int .i64 0) (.int .i64 0) (.int .i64 0) (.int .i64 0) nilV nilV)) := Lib.hid (six_below BEL4.out (Nat.le_refl _) _ _ _ _ _ _)
      obtain ⟨w8, hw8⟩ : ∃ w8, w8 = six w4 w.heap.size (.int .i64 0) (.int .i64 0) (.int .i64 0) (.int .i64 0) nilV nilV := ⟨_, rfl⟩
      rw [← hw8] at q FB
      unfold six at hw8
      rw [← hw8]
      have q0 := q.cell 0
      have q1 := q.cell 1
      have q2 := q.cell 2
      have q3 := q.cell 3
      have q4 := q.cell 4
      have q5 := q.cell 5
      refine bodyPost_ret (v := .tuple #[.agg #[.int .i64 0, .int .i64 0, .int .i64 0, .int .i64 0, .slice none 0 0, .slice none 0 0], .bool false]) (by simp [results, Try.results43, go_sem, q0, q1, q2, q3, q4, q5]) rfl ?_
      unfold MadeOf
      exact madeC_zero FB.out
    · go_wp2_with fail
      (go_at_call 88; (with_reducible refine (CV).mono ?_); rintro e w4 ⟨rfl, hb4⟩)
      have R4 : Hid (Blk w4 w.heap.size #[.int .i64 0, .int .i64 0, .int .i64 0, .int .i64 0, nilV, nilV] 32) := Lib.hid (E.out.ret.below hb4 E.out.ret.lt)
      have CH4 : Hid (Blk w4 g #[.int .i64 (nj : Int), .int .i64 n, .int .i64 start, .int .i64 stop, .slice (some ⟨gt, 0, none⟩) 1 1, .slice (some ⟨gp, 0, none⟩) pl pl] 32) := Lib.hid (E.out.chain.below hb4 E.out.chain.lt)
      have TB4 : Hid (Blk w4 gt #[.slice (some ⟨bA, oA, none⟩) n c] 39) := Lib.hid (E.out.tab.below hb4 E.out.tab.lt)
      have PL4 : Hid (Own w.heap.size w4 (some ⟨gp, 0, none⟩) pl pl (List.replicate pl 0)) := Lib.hid (E.out.pls.below hb4)
      have BEL4 : Hid (Below w.heap.size w w4) := Lib.hid (E.out.bel.trans (hb4.mono hs3))
      have hs4 := BEL4.out.size
      have CP := copied_any (some ⟨bA, oA, none⟩) n c t w4.drew (HR.out.below (((BEL4.out.trans ((Below.refl _ w4).drew.mono hs4))).mono hB)) (show B ≤ w4.heap.size by omega) hn9 HS.out
      clear hb4 CV i0 i1 i2 i3 i4 i5
      go_wp2_with fail
      refine region_last 5 5 (fun w' => w'.cell? ⟨g, 4, none⟩ = some (.slice (some ⟨gt, 0, none⟩) 1 1)) (by kernel_rfl) (by kernel_rfl) (by kernel_rfl) (CH4.out.cell 4) (fun hS => ?_)
      refine takeD 0 (some 37) (v := ?_) rfl (by kernel_rfl) (by kernel_rfl) (by kernel_rfl) (fun _ _ _ h => h) hS (fun o ho => Or.inl ⟨by cases ho; rfl, ?_⟩) ?_
      rotate_left
      · cases ho
        intro w' hw'
        (try dsimp only at hw')
        go_simp
        (try with_reducible rfl)
      (try simp only [Act.put, List.setIfInBounds_toArray, List.set_cons_zero, List.set_cons_succ])
      refine takeD 1 (some 38) (v := ?_) rfl (by kernel_rfl) (by kernel_rfl) (by kernel_rfl) (fun _ _ _ h => h) hS (fun o ho => Or.inl ⟨by cases ho; rfl, ?_⟩) ?_
      rotate_left
      · cases ho
        intro w' hw'
        (try dsimp only at hw')
        go_simp
        (try with_reducible rfl)
      (try simp only [Act.put, List.setIfInBounds_toArray, List.set_cons_zero, List.set_cons_succ])
      refine takeD 2 (some 39) (v := ?_) rfl (by kernel_rfl) (by kernel_rfl) (by kernel_rfl) (fun _ _ _ h => h) hS (fun o ho => Or.inl ⟨by cases ho; rfl, ?_⟩) ?_
      rotate_left
      · cases ho
        intro w' hw'
        (try dsimp only at hw')
        go_simp
        (try with_reducible rfl)
      (try simp only [Act.put, List.setIfInBounds_toArray, List.set_cons_zero, List.set_cons_succ])
      refine oneD 3 (some 40) (by kernel_rfl) rfl (fun o ho K hK hdo => ?_)
      simp only [List.getElem?_toArray, List.getElem?_cons_succ, List.getElem?_cons_zero, Option.some.injEq] at ho
      subst ho
      clear hdo
      rw [if_pos (by rfl)]
      go_wp2_with fail
      (go_at_call 101; (with_reducible refine (CP).mono ?_); rintro e W5 ⟨A', c', L, rfl, hown, hbel⟩)
      have hB6 : Below w4.heap.size w4 W5 := below_of_drew hbel
      have k6 : Blk W5 gt #[.slice (some ⟨bA, oA, none⟩) n c] 39 := TB4.out.below hB6 TB4.out.lt
      have z6 : W5.cell? ⟨gt, 0, none⟩ = some (.slice (some ⟨bA, oA, none⟩) n c) := k6.cell 0
      have y6 : W5.frozen? ⟨gt, 0, none⟩ = false := k6.frozen 0
      have K6 := Lib.hid k6
      have HO6 := Lib.hid hown
      have HB6 := Lib.hid hB6
      clear k6 hown hbel
      refine hK.out _ _ ?_ (fun hS => ?_)
      · exact ((hB6.cell (p := ⟨g, 4, none⟩) CH4.out.lt).trans (CH4.out.cell 4))
      clear hK K
      (try simp only [Act.put, List.setIfInBounds_toArray, List.set_cons_zero, List.set_cons_succ])
      refine takeD 4 (some 41) (v := ?_) rfl (by kernel_rfl) (by kernel_rfl) (by kernel_rfl) (fun _ _ _ h => h) hS (fun o ho => Or.inl ⟨by cases ho; rfl, ?_⟩) ?_
      rotate_left
      · cases ho
        intro w' hw'
        (try dsimp only at hw')
        go_simp
        (try with_reducible rfl)
      (try simp only [Act.put, List.setIfInBounds_toArray, List.set_cons_zero, List.set_cons_succ])
      refine wpAnyH_done (by kernel_rfl) ?_ _
      refine thenD rfl (fun o ho K hK => ?_)
      simp only [List.getElem?_toArray, List.getElem?_cons_succ, List.getElem?_cons_zero, Option.some.injEq] at ho
      subst ho
      clear hS
      clear hB6
      go_wp2_with fail
      refine hK.out _ _ ?_
      clear hK K
      obtain ⟨W6, hW6⟩ : ∃ X, X = W5.setCell ⟨gt, 0, none⟩ (.slice A' n c') := ⟨_, rfl⟩
      rw [← hW6]
      have d1 : g ≠ gt := blk_blk CH4.out TB4.out (by decide)
      have d2 : w.heap.size ≠ gt := blk_blk R4.out TB4.out (by decide)
      have d3 : gp ≠ gt := fun e => blk_ne TB4.out PL4.out.1 (by decide) (by rw [e])
      have ch6 : Blk W6 g #[.int .i64 (nj : Int), .int .i64 n, .int .i64 start, .int .i64 stop, .slice (some ⟨gt, 0, none⟩) 1 1, .slice (some ⟨gp, 0, none⟩) pl pl] 32 := by rw [hW6]; exact (CH4.out.below HB6.out CH4.out.lt).other _ d1
      have r6 : Blk W6 w.heap.size #[.int .i64 0, .int .i64 0, .int .i64 0, .int .i64 0, nilV, nilV] 32 := by rw [hW6]; exact (R4.out.below HB6.out R4.out.lt).other _ d2
      have t6 : Blk W6 gt #[.slice A' n c'] 39 := by rw [hW6]; exact K6.out.set 0 _
      have hk6 : ∀ k, k ≠ gt → W6.heap[k]? = W5.heap[k]? := fun k hk => by rw [hW6]; exact heap_setCell_other _ _ _ _ hk
      have bl6 : Below w.heap.size w W6 := by rw [hW6]; exact (BEL4.out.trans (HB6.out.mono hs4)).setCell (p := ⟨gt, 0, none⟩) E.out.tB _
      have tlt := TB4.out.lt
      have rlt := R4.out.lt
      have own6 : Own2 w4.heap.size W6 A' n c' L t := HO6.out.keep fun k h1 h2 => hk6 k (by have : w4.heap.size ≤ k := h1; omega)
      have pl6 : Own w.heap.size W6 (some ⟨gp, 0, none⟩) pl pl (List.replicate pl 0) := (PL4.out.below HB6.out).keep fun k hk => by cases hk; exact hk6 _ d3
      have plt : gp < w4.heap.size := PL4.out.lt _ rfl
      have H8 : Hid (MadeCB w.heap.size ⟨(nj : Int), n, start, stop, [t], List.replicate pl 0⟩ true w (.returned (.tuple #[.agg #[.int .i64 (nj : Int), .int .i64 n, .int .i64 start, .int .i64 stop, .slice (some ⟨gt, 0, none⟩) 1 1, .slice (some ⟨gp, 0, none⟩) pl pl], .bool true])) (six W6 w.heap.size (.int .i64 (nj : Int)) (.int .i64 n) (.int .i64 start) (.int .i64 stop) (.slice (some ⟨gt, 0, none⟩) 1 1) (.slice (some ⟨gp, 0, none⟩) pl pl))) := Lib.hid (by
        refine ⟨some ⟨gt, 0, none⟩, 1, some ⟨gp, 0, none⟩, pl, [(A', n, c')], [L], by simp [chV], ⟨?_, ?_, ?_⟩, six_below bl6 (Nat.le_refl _) _ _ _ _ _ _⟩
        · refine own3_one ((six_heap _ _ _ _ _ _ _ _ (Ne.symm d2)).trans t6) E.out.tB ((own6.keep fun k h1 _ => six_heap _ _ _ _ _ _ _ _ (by omega)).lower (by omega))
        · simp only [List.length_replicate]
          exact pl6.keep fun k hk => by cases hk; exact six_heap _ _ _ _ _ _ _ _ (fun e => blk_ne R4.out PL4.out.1 (by decide) (by rw [e]))
        · intro L1 hL1 s hs1 k hk e
          simp at hL1
          subst hL1
          have := own6.from s hs1 k hk
          injection e with e
          injection e with e
          omega)
      have q8 : Blk (six W6 w.heap.size (.int .i64 (nj : Int)) (.int .i64 n) (.int .i64 start) (.int .i64 stop) (.slice (some ⟨gt, 0, none⟩) 1 1) (.slice (some ⟨gp, 0, none⟩) pl pl)) w.heap.size #[.int .i64 (nj : Int), .int .i64 n, .int .i64 start, .int .i64 stop, .slice (some ⟨gt, 0, none⟩) 1 1, .slice (some ⟨gp, 0, none⟩) pl pl] 32 := six_blk r6 _ _ _ _ _ _
      obtain ⟨w8, hw8⟩ : ∃ w8, w8 = six W6 w.heap.size (.int .i64 (nj : Int)) (.int .i64 n) (.int .i64 start) (.int .i64 stop) (.slice (some ⟨gt, 0, none⟩) 1 1) (.slice (some ⟨gp, 0, none⟩) pl pl) := ⟨_, rfl⟩
      rw [← hw8] at q8 H8
      have Q8 := Lib.hid q8
      unfold six at hw8
      have HW8 := Lib.hid hw8
      have i0 := ch6.cell 0
      have i1 := ch6.cell 1
      have i2 := ch6.cell 2
      have i3 := ch6.cell 3
      have i4 := ch6.cell 4
      have i5 := ch6.cell 5
      have e0 := r6.cell 0
      have f0 := r6.frozen 0
      have e1 := r6.cell 1
      have f1 := r6.frozen 1
      have e2 := r6.cell 2
      have f2 := r6.frozen 2
      have e3 := r6.cell 3
      have f3 := r6.frozen 3
      have e4 := r6.cell 4
      have f4 := r6.frozen 4
      have e5 := r6.cell 5
      have f5 := r6.frozen 5
      clear hW6 ch6 r6 t6 hk6 bl6 own6 pl6 q8 hw8 d1 d2 d3
      go_wp2_with fail
      rw [← HW8.out]
      have q0 := Q8.out.cell 0
      have q1 := Q8.out.cell 1
      have q2 := Q8.out.cell 2
      have q3 := Q8.out.cell 3
      have q4 := Q8.out.cell 4
      have q5 := Q8.out.cell 5
      refine bodyPost_ret (v := .tuple #[.agg #[.int .i64 (nj : Int), .int .i64 n, .int .i64 start, .int .i64 stop, .slice (some ⟨gt, 0, none⟩) 1 1, .slice (some ⟨gp, 0, none⟩) pl pl], .bool true]) (by simp [results, Try.results43, go_sem, q0, q1, q2, q3, q4, q5]) rfl ?_
      unfold MadeOf
      show MadeCB _ (EvenC t pl start stop) true _ _ _
      rw [HEC.out]
      exact H8.out

set_option maxRecDepth 100000 in
set_option maxHeartbeats 8000000 in
theorem implEven_any {B : Nat} (A : Option Addr) (n c : Nat) (t : List (List Int)) (pl start stop : Int) (w : World) (hr : Rows2 B w A n t) (hB : B ≤ w.heap.size) (hs : ∀ zs ∈ t, zs.length ≤ 1048576) (hnc : n ≤ c) (hn9 : n ≤ 1048576) :
    Calls Try.prog 43 #[.slice A n c, .int .i64 pl, .int .i64 start, .int .i64 stop] w (MadeCB w.heap.size (evenR t pl start stop) (evenOk t pl start stop) w) := by
  have hl := hr.len
  by_cases hgo : 0 < n ∧ inB pl 1 20 = true
  · obtain ⟨hn0, h1⟩ := hgo
    have hp := inB_true.1 h1
    obtain ⟨pn, hpn⟩ : ∃ pn : Nat, pl = pn := ⟨pl.toNat, by omega⟩
    subst hpn
    have hok : evenOk t pn start stop = (EvenC t pn start stop).ok := by
      unfold evenOk
      rw [h1]
      simp only [Bool.true_and, Int.toNat_natCast]
      rcases ho : (EvenC t pn start stop).ok with _ | _
      · simp
      · have : headOk (EvenC t pn start stop) = true := by
          unfold Ch.ok at ho
          exact (Bool.and_eq_true_iff.1 ho).1
        unfold headOk EvenC at this
        simp only [Bool.and_eq_true] at this
        rw [this.2.1]; rfl
    have h := implEven_go A n c t pn start stop w hr hB hs hnc hn0 hn9 (by omega) (by omega)
    rw [← hok] at h
    rcases ho : evenOk t pn start stop with _ | _
    · rw [evenR_no ho]
      rw [ho] at h
      exact h
    · rw [evenR_yes ho]
      rw [ho] at h
      exact h
  · obtain ⟨w1, hw1⟩ : ∃ w1, w1 = w.alloc (.cells #[.int .i64 0, .int .i64 0, .int .i64 0, .int .i64 0, nilV, nilV] 32) := ⟨_, rfl⟩
    have bel : Below w.heap.size w w1 := by rw [hw1]; exact (Below.refl _ w).alloc (Nat.le_refl _) _
    have b1 : Blk w1 w.heap.size #[.int .i64 0, .int .i64 0, .int .i64 0, .int .i64 0, nilV, nilV] 32 := by rw [hw1]; exact Blk.new _ _ _
    have BEL := Lib.hid bel
    have B1 := Lib.hid b1
    have LT1 := Lib.hid b1.lt
    have ho : evenOk t pl start stop = false := by
      unfold evenOk
      rcases h1 : inB pl 1 20 with _ | _
      · rfl
      · have : n = 0 := by
          refine Classical.byContradiction fun hne => hgo ⟨by omega, h1⟩
        rw [hl, this]; rfl
    rw [evenR_no ho, ho]
    clear ho bel b1
    by_cases hn : n = 0
    · have hn1 : ((n : Int) == 0) = true := by simp; omega
      clear hgo hl hr
      subst hn
      go_enter Try.func43, Try.ntmps43
      go_wp2_with fail
      rw [← hw1]
      have HW1 := Lib.hid hw1
      clear hw1
      have q0 := B1.out.cell 0
      have q1 := B1.out.cell 1
      have q2 := B1.out.cell 2
      have q3 := B1.out.cell 3
      have q4 := B1.out.cell 4
      have q5 := B1.out.cell 5
      refine bodyPost_ret (v := .tuple #[.agg #[.int .i64 0, .int .i64 0, .int .i64 0, .int .i64 0, .slice none 0 0, .slice none 0 0], .bool false]) (by simp [results, Try.results43, go_sem, q0, q1, q2, q3, q4, q5]) rfl ?_
      exact madeC_zero BEL.out
    · have h1 : inB pl 1 20 = false := by
        rcases h1 : inB pl 1 20 with _ | _
        · rfl
        · exact absurd ⟨by omega, h1⟩ hgo
      have C1 : Calls Try.prog 72 #[.int .i64 pl, .int .i64 1, .int .i64 20] w1 fun e w' => e = .returned (.bool false) ∧ w1 = w' := by
        rw [← h1]; exact within_any _ _ _ _
      have hn1 : ((n : Int) == 0) = false := by simp; omega
      have hn2 : ¬ (n : Int) = 0 := by omega
      clear hgo hl hr h1
      go_enter Try.func43, Try.ntmps43
      go_wp2_with fail
      rw [← hw1]
      have HW1 := Lib.hid hw1
      clear hw1
      (go_at_call 72; (with_reducible refine (C1).mono ?_); rintro e w' ⟨rfl, rfl⟩)
      have e0 := B1.out.cell 0
      have f0 := B1.out.frozen 0
      have e1 := B1.out.cell 1
      have f1 := B1.out.frozen 1
      have e2 := B1.out.cell 2
      have f2 := B1.out.frozen 2
      have e3 := B1.out.cell 3
      have f3 := B1.out.frozen 3
      have e4 := B1.out.cell 4
      have f4 := B1.out.frozen 4
      have e5 := B1.out.cell 5
      have f5 := B1.out.frozen 5
      go_wp2_with fail
      have q : Blk (six w1 w.heap.size (.int .i64 0) (.int .i64 0) (.int .i64 0) (.int .i64 0) nilV nilV) w.heap.size #[.int .i64 0, .int .i64 0, .int .i64 0, .int .i64 0, nilV, nilV] 32 := six_blk B1.out _ _ _ _ _ _
      have FB : Hid (Below w.heap.size w (six w1 w.heap.size (.int .i64 0) (.int .i64 0) (.int .i64 0) (.int .i64 0) nilV nilV)) := Lib.hid (six_below BEL.out (Nat.le_refl _) _ _ _ _ _ _)
      obtain ⟨w8, hw8⟩ : ∃ w8, w8 = six w1 w.heap.size (.int .i64 0) (.int .i64 0) (.int .i64 0) (.int .i64 0) nilV nilV := ⟨_, rfl⟩
      rw [← hw8] at q FB
      unfold six at hw8
      rw [← hw8]
      have q0 := q.cell 0
      have q1 := q.cell 1
      have q2 := q.cell 2
      have q3 := q.cell 3
      have q4 := q.cell 4
      have q5 := q.cell 5
      refine bodyPost_ret (v := .tuple #[.agg #[.int .i64 0, .int .i64 0, .int .i64 0, .int .i64 0, .slice none 0 0, .slice none 0 0], .bool false]) (by simp [results, Try.results43, go_sem, q0, q1, q2, q3, q4, q5]) rfl ?_
      skip
      exact madeC_zero FB.out
end Go.Proofs.Ytiokcflomchdcaa
