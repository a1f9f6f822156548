/-
  A region that asks for its order, and whose last operation waits for all the others: the others first, in whatever order, then that one.
-/
import Derived.Test.YtiegaebnlikjiaaDoorBasic
import Derived.OrdersHeld
import Derived.RegionTactic
import Derived.Deep.RegionHeld3
namespace Go.Proofs.YtiegaebnlikjiaaDoor
open Go Go.RowKit

section
variable {P : Program} {ops : Array Oper} {md : Region.Mode}

/-- What is asked once all the others are through: that operation T is carried out and Q holds behind it. -/
def Then (P : Program) (ops : Array Oper) (T : Nat) (Q : Exit → Act → World → Prop) : Exit → Act → World → Prop
  | .normal, a, w => wpOp P ops Q T (fun a' w' => Q .normal a' w') a w
  | e, a, w => Q e a w
theorem then_else {T : Nat} {Q : Exit → Act → World → Prop} {e : Exit} {a : Act} {w : World} (he : e ≠ .normal) (h : Then P ops T Q e a w) : Q e a w := by
  cases e <;> first | exact absurd rfl he | exact h

theorem upon_else {o : Oper} {a : Act} {K : Act → World → Prop} {Q Q' : Exit → Act → World → Prop} (hQ : ∀ e a w, e ≠ .normal → Q' e a w → Q e a w) {r : Result Next} (h : o.upon P a K Q' r) : o.upon P a K Q r := by
  cases r with
  | ok n w' =>
    cases n with
    | enter f args =>
      rw [Oper.upon_enter] at h ⊢
      exact Calls.mono h fun e w'' he => by
        cases e with
        | returned v => exact he
        | panicked c => exact hQ _ _ _ (by intro q; cases q) he
        | outgrown =>
          obtain ⟨a1, w1, h1⟩ := he
          exact ⟨a1, w1, hQ _ _ _ (by intro q; cases q) h1⟩
    | value v => exact h
    | skip => exact h
    | defer d => exact h
    | row r args => exact h
    | _ => exact h
  | halt x w' =>
    cases x with
    | panic v => exact hQ _ _ _ (by intro q; cases q) h
    | _ => exact h
theorem wpOp_else {i : Nat} {a : Act} {w : World} {K : Act → World → Prop} {Q Q' : Exit → Act → World → Prop} (hQ : ∀ e a w, e ≠ .normal → Q' e a w → Q e a w) (h : wpOp P ops Q' i K a w) : wpOp P ops Q i K a w := by
  unfold wpOp at *
  cases ho : ops[i]? with
  | none => rw [ho] at h; exact h
  | some o =>
    rw [ho] at h
    dsimp only at h ⊢
    split at h
    · next hw =>
      rw [if_pos hw]
      rcases h with h | ⟨h1, a1, w1, h2⟩
      · exact .inl (upon_else hQ h)
      · exact .inr ⟨h1, a1, w1, hQ _ _ _ (by intro q; cases q) h2⟩
    · next hw => rw [if_neg hw]; exact h

theorem last_core {T : Nat} {oT : Oper} {Q : Exit → Act → World → Prop} (hT : ops[T]? = some oT)
    (hwait : ∀ j, j < ops.size → j ≠ T → ∃ e ∈ oT.after, Region.binds md e = true ∧ e.on = j)
    (hlow : ∀ j o, ops[j]? = some o → ∀ e ∈ o.after, Region.binds md e = true → e.on < j) :
    ∀ (fuel : Nat) (listed : Array Bool) (a : Act) (w : World), listed.size = ops.size → listed.getD T true = false →
      wpAny P md ops (Then P ops T Q) fuel (listed.setIfInBounds T true) a w → wpAny P md ops Q (fuel + 1) listed a w := by
  have hsome : ∀ (listed : Array Bool), listed.size = ops.size → listed.getD T true = false → Region.ready md ops listed ≠ [] := by
    intro listed hs hun
    -- the least operation that has not come up may come up
    obtain ⟨j, hj, hmin⟩ : ∃ j, listed.getD j true = false ∧ ∀ i, i < j → listed.getD i true = true := by
      have hfind : ∀ n, (∀ i, i < n → listed.getD i true = true) ∨ ∃ j, j < n ∧ listed.getD j true = false ∧ ∀ i, i < j → listed.getD i true = true := by
        intro n
        induction n with
        | zero => exact .inl fun i hi => by omega
        | succ n ih =>
          rcases ih with h | ⟨j, h1, h2, h3⟩
          · cases hn : listed.getD n true with
            | true =>
              refine .inl fun i hi => ?_
              by_cases hin : i = n
              · rw [hin]; exact hn
              · exact h i (by omega)
            | false => exact .inr ⟨n, by omega, hn, h⟩
          · exact .inr ⟨j, by omega, h2, h3⟩
      rcases hfind (T + 1) with h | ⟨j, _, h2, h3⟩
      · have := h T (by omega); rw [hun] at this; cases this
      · exact ⟨j, h2, h3⟩
    have hjs : j < ops.size := by
      by_cases h : j < listed.size
      · omega
      · simp [Array.getElem?_eq_none (show listed.size ≤ j by omega)] at hj
    intro h0
    have : j ∈ Region.ready md ops listed := mem_ready.2 ⟨hj, ops[j], Array.getElem?_eq_getElem hjs, fun e he hb => by
      have h1 := hlow j _ (Array.getElem?_eq_getElem hjs) e he hb
      have h2 := hmin e.on h1
      have h3 : e.on < listed.size := by omega
      simpa [h3] using h2⟩
    rw [h0] at this
    cases this
  have hdone : ∀ (listed : Array Bool), T ∈ Region.ready md ops listed → Region.ready md ops (listed.setIfInBounds T true) = [] := by
    intro listed hr
    rw [List.eq_nil_iff_forall_not_mem]
    intro j hj
    obtain ⟨h0, o, ho, _⟩ := mem_ready.1 hj
    obtain ⟨_, oT', hoT, hall⟩ := mem_ready.1 hr
    rw [hT] at hoT
    have hoT := Option.some.inj hoT
    subst hoT
    have hjs : j < ops.size := (Array.getElem?_eq_some_iff.1 ho).1
    by_cases hjT : j = T
    · subst hjT
      by_cases hs : j < listed.size
      · simp [hs] at h0
      · simp at h0
    · obtain ⟨e, he, hb, hon⟩ := hwait j hjs hjT
      have h1 := hall e he hb
      rw [hon] at h1
      rw [getD_set_ne true (Ne.symm hjT)] at h0
      by_cases hs : j < listed.size
      · simp [hs] at h0 h1; rw [h0] at h1; cases h1
      · simp [Array.getElem?_eq_none (show listed.size ≤ j by omega)] at h1
  intro fuel
  induction fuel with
  | zero =>
    intro listed a w hs hun h
    refine ⟨fun h0 => absurd h0 (hsome listed hs hun), fun i hi => ?_⟩
    by_cases hiT : i = T
    · subst hiT
      exact wpOp_mono (fun a' w' hq => wpAny_done (hdone listed hi) hq _) h.2
    · have := ready_mono hi hiT
      rw [h.1] at this; cases this
  | succ fuel ih =>
    intro listed a w hs hun h
    refine ⟨fun h0 => absurd h0 (hsome listed hs hun), fun i hi => ?_⟩
    by_cases hiT : i = T
    · subst hiT
      exact wpOp_mono (fun a' w' hq => wpAny_done (hdone listed hi) hq _) (h.1 (hdone listed hi))
    · have h1 := wpOp_else (fun e a w he hq => then_else he hq) (h.2 i (ready_mono hi hiT))
      refine wpOp_mono (fun a' w' h2 => ih (listed.setIfInBounds i true) a' w' (by simpa using hs) ?_ ?_) h1
      · rw [getD_set_ne true hiT]; exact hun
      · rw [Array.setIfInBounds_comm _ _ hiT]; exact h2

/-- The conditions, to be reckoned. -/
def lastB (md : Region.Mode) (ops : Array Oper) (T : Nat) : Bool :=
  decide (0 < ops.size) && (((ops[T]?).map fun o => (List.range ops.size).all fun j => decide (j = T) || o.after.any fun e => Region.binds md e && decide (e.on = j)).getD false &&
    (List.range ops.size).all fun j => ((ops[j]?).map fun o => o.after.all fun e => !Region.binds md e || decide (e.on < j)).getD false)
theorem region_last {id : Nat} {Q : Exit → Act → World → Prop} {a : Act} {w : World} (T n : Nat) (S : World → Prop) (hm : P.follows .mixedOrders = true) (hB : lastB .any ops T = true) (hn : ops.size = n + 1) (hS : S w.drew)
    (h : S w.drew → wpAnyH P .any ops (Then P ops T Q) S n ((Array.replicate (n + 1) false).setIfInBounds T true) a w.drew) : (Code.region id ops true).wp P Q a w := by
  unfold lastB at hB
  simp only [Bool.and_eq_true, decide_eq_true_eq] at hB
  obtain ⟨h0, h1, h2⟩ := hB
  cases hT : ops[T]? with
  | none => rw [hT] at h1; cases h1
  | some oT =>
    rw [hT] at h1
    have hTs : T < ops.size := (Array.getElem?_eq_some_iff.1 hT).1
    refine wp_region_any hm ?_
    have := last_core (P := P) (md := .any) (Q := Q) hT (fun j hj hne => ?_) (fun j o ho e he hb => ?_) n (Array.replicate ops.size false) a w.drew (by simp) (by simp [hTs]) (by rw [hn]; exact wpAny_of_held _ _ _ _ (h hS))
    · rw [← hn] at this
      exact this
    · simp only [Option.map_some, Option.getD_some, List.all_eq_true, List.mem_range] at h1
      have h3 := h1 j hj
      simp only [Bool.or_eq_true, decide_eq_true_eq, Array.any_eq_true'] at h3
      rcases h3 with h3 | ⟨e, he, h3⟩
      · exact absurd h3 hne
      · simp only [Bool.and_eq_true, decide_eq_true_eq] at h3
        exact ⟨e, he, h3⟩
    · simp only [List.all_eq_true, List.mem_range] at h2
      have h3 := h2 j (Array.getElem?_eq_some_iff.1 ho).1
      rw [ho] at h3
      simp only [Option.map_some, Option.getD_some, Array.all_eq_true_iff_forall_mem, Bool.or_eq_true, Bool.not_eq_true', decide_eq_true_eq] at h3
      rcases h3 e he with h4 | h4
      · rw [hb] at h4; cases h4
      · exact h4

theorem below_of_drew {w w' : World} (h : Below w.drew.heap.size w.drew w') : Below w.heap.size w w' := ⟨h.os, h.tape, h.output, h.size, h.block⟩
/-- The beginning, with the number of operations told. -/
theorem region_held_n {id : Nat} {Q : Exit → Act → World → Prop} {a : Act} {w : World} (n : Nat) (S : World → Prop) (hm : P.follows .mixedOrders = true) (hn : ops.size = n) (hS : S w.drew)
    (h : S w.drew → wpAnyH P .any ops Q S n (Array.replicate n false) a w.drew) : (Code.region id ops true).wp P Q a w := by
  subst hn
  exact wp_region_held_drew hm hS h

/-- One step: an operation that may come up now, and whose slot is named, is taken first. -/
theorem takeD {Q : Exit → Act → World → Prop} {S : World → Prop} (i : Nat) (d : Option Tmp) {v : Value} {fuel : Nat} {listed : Array Bool} {a : Act} {w : World} (hd : (ops[i]?).map (·.dst) = some d)
    (hs : Region.noSelect ops = true) (hf : Region.free md ops listed i = true) (hr : (Region.ready md ops listed).contains i = true)
    (hQ : ∀ c a w, Q (.panic c) (a.put d v) w → Q (.panic c) a w) (hS : S w) (hy : ∀ o, ops[i]? = some o → YieldsIf P ops S o v a)
    (h : wpAnyH P md ops Q S fuel (listed.setIfInBounds i true) (a.put d v) w) : wpAnyH P md ops Q S (fuel + 1) listed a w := by
  cases ho : ops[i]? with
  | none => rw [ho] at hd; cases hd
  | some o =>
    rw [ho] at hd
    have hd := Option.some.inj hd
    subst hd
    exact wpAnyH_take ho hs hf hr hQ (hy o ho) hS h
/-- One step: the only operation that may come up. -/
theorem oneD {Q : Exit → Act → World → Prop} {S : World → Prop} (i : Nat) (d : Option Tmp) {fuel : Nat} {listed : Array Bool} {a : Act} {w : World} (hr : Region.ready md ops listed = [i]) (hd : (ops[i]?).map (·.dst) = some d)
    (h : ∀ o, ops[i]? = some o → ∀ K : Act → World → Prop, Hid (∀ v w, S w → (S w → wpAnyH P md ops Q S fuel (listed.setIfInBounds i true) (a.put d v) w) → K (a.put d v) w) → o.dst = d → if Region.wanted o (yielded ops a.tmps) = true then Oper.wp P o a w K Q else K (a.put o.dst undef) w) :
    wpAnyH P md ops Q S (fuel + 1) listed a w := by
  refine wpAnyH_ready hr (by simp) ?_
  cases ho : ops[i]? with
  | none => rw [ho] at hd; cases hd
  | some o =>
    rw [ho] at hd
    have hd := Option.some.inj hd
    exact AllReadyH.cons ho (fun K hK => h o ho K (Lib.hid fun v w hS hW => hK.out _ _ hS hW) hd) AllReadyH.nil

/-- The last step. -/
theorem thenD {Q : Exit → Act → World → Prop} {T : Nat} {a : Act} {w : World} (hT : (ops[T]?).map (·.guard) = some none)
    (h : ∀ o, ops[T]? = some o → ∀ K : Act → World → Prop, Hid (∀ a w, Q .normal a w → K a w) → Oper.wp P o a w K Q) : Then P ops T Q .normal a w := by
  cases ho : ops[T]? with
  | none => rw [ho] at hT; cases hT
  | some o =>
    rw [ho] at hT
    have hg : o.guard = none := Option.some.inj hT
    have hw : Region.wanted o (yielded ops a.tmps) = true := by simp [Region.wanted, hg]
    exact wpOp_step ho (fun K hK => by rw [if_pos hw]; exact h o ho K (Lib.hid hK))
end
end Go.Proofs.YtiegaebnlikjiaaDoor
