/-
  The same as InR, at the wide fence, outside of any round.
-/
import Derived.Test.YteggllmiapdmcaaInR
namespace Go.Proofs.Yteggllmiapdmcaa
open Go Go.RowKit

section
variable {P : Program} {ops : Array Oper}
theorem upon_wd {n : Nat} {o : Oper} {a : Act} {K : Act → World → Prop} {Q : Exit → Act → World → Prop} {r : Result Next} (h : o.upon P a K (Calm Q) r) : o.uponIn Fence.wide n P a K Q r := by
  cases r with
  | ok m w' =>
    cases m with
    | enter f args =>
      rw [Oper.upon_enter] at h
      rw [Oper.uponIn_enter]
      refine ⟨(fun hd => (by cases hd)), callsIn_wide.2 (Calls.mono h fun e w'' he => ?_)⟩
      cases e with
      | returned v => exact he
      | panicked c => exact False.elim he
      | outgrown => exact (calm_letsOut he).elim
    | row r args =>
      rw [Oper.upon_row] at h
      rw [Oper.uponIn_row]
      refine ⟨(fun hd => (by cases hd)), fun c cs _ => ?_⟩
      obtain ⟨v, w2, r1, s⟩ := h c cs
      exact ⟨v, w2, r1, stepsIn_wide.2 s⟩
    | value v => exact h
    | skip => exact h
    | defer d => exact h
    | _ => exact False.elim h
  | halt x w' =>
    cases x with
    | panic v => exact False.elim h
    | _ => exact False.elim h
theorem wpOp_wd {n i : Nat} {a : Act} {w : World} {K : Act → World → Prop} {Q : Exit → Act → World → Prop} (hd : ∀ (i : Nat) (o : Oper), ops[i]? = some o → ∀ c, o.op ≠ .defer c) (h : wpOp P ops (Calm Q) i K a w) :
    wpOpIn Fence.wide n P ops Q i K a w := by
  unfold wpOp at h
  unfold wpOpIn
  cases ho : ops[i]? with
  | none => rw [ho] at h; exact h
  | some o =>
    rw [ho] at h
    dsimp only at h ⊢
    split at h
    · next hw =>
      rw [if_pos hw]
      rcases h with h | ⟨_, h2⟩
      · refine ⟨fun _ _ => trivial, ?_⟩
        rw [Oper.semAt_plain _ _ _ (hd i o ho)]
        exact upon_wd h
      · exact (calm_letsOut h2).elim
    · next hw => rw [if_neg hw]; exact ⟨fun _ _ => trivial, h⟩
theorem wpAny_wd {md : Region.Mode} {n : Nat} {Q : Exit → Act → World → Prop} (hd : ∀ (i : Nat) (o : Oper), ops[i]? = some o → ∀ c, o.op ≠ .defer c) :
    ∀ (fuel : Nat) (listed : Array Bool) (a : Act) (w : World), wpAny P md ops (Calm Q) fuel listed a w → wpAnyIn Fence.wide n P md ops Q fuel listed a w
  | 0, _, _, _, h => h
  | fuel + 1, _, _, _, h => ⟨h.1, fun i hi => wpOpIn_mono (fun a' w' h' => wpAny_wd hd fuel _ a' w' h') (wpOp_wd hd (h.2 i hi))⟩
theorem region_last_wd {m id : Nat} {Q : Exit → Act → World → Prop} {a : Act} {w : World} (T n : Nat) (S : World → Prop) (hm : P.follows .mixedOrders = true) (hB : lastB .any ops T = true) (hn : ops.size = n + 1) (hD : noDeferB ops = true) (hS : S w.drew)
    (h : S w.drew → wpAnyH P .any ops (Then P ops T (Calm Q)) S n ((Array.replicate (n + 1) false).setIfInBounds T true) a w.drew) : (Code.region id ops true).wpIn Fence.wide m P Q a w := by
  refine wpIn_region_any hm (wpAny_wd (noDefer_spec hD) _ _ _ _ ?_)
  unfold lastB at hB
  simp only [Bool.and_eq_true, decide_eq_true_eq] at hB
  obtain ⟨h0, h1, h2⟩ := hB
  cases hT : ops[T]? with
  | none => rw [hT] at h1; cases h1
  | some oT =>
    rw [hT] at h1
    have hTs : T < ops.size := (Array.getElem?_eq_some_iff.1 hT).1
    have := last_core (P := P) (md := .any) (Q := Calm Q) hT (fun j hj hne => ?_) (fun j o ho e he hb => ?_) n (Array.replicate ops.size false) a w.drew (by simp) (by simp [hTs]) (by rw [hn]; exact wpAny_of_held _ _ _ _ (h hS))
    · rw [← hn] at this
      exact this
    · simp only [Option.map_some, Option.getD_some, List.all_eq_true, List.mem_range] at h1
      have h3 := h1 j hj
      simp only [Bool.or_eq_true, decide_eq_true_eq, Array.any_eq_true'] at h3
      rcases h3 with h3 | ⟨e, he, h3⟩
      · exact absurd h3 hne
      · simp only [Bool.and_eq_true, decide_eq_true_eq] at h3
        exact ⟨e, he, h3⟩
    · simp only [List.all_eq_true, List.mem_range] at h2
      have h3 := h2 j (Array.getElem?_eq_some_iff.1 ho).1
      rw [ho] at h3
      simp only [Option.map_some, Option.getD_some, Array.all_eq_true_iff_forall_mem, Bool.or_eq_true, Bool.not_eq_true', decide_eq_true_eq] at h3
      rcases h3 e he with h4 | h4
      · rw [hb] at h4; cases h4
      · exact h4
end
end Go.Proofs.Yteggllmiapdmcaa
