/-
  Loading and comparing two rows of 36 masks, as operations.
-/
import Derived.Test.YtiokcflomchdcabEqM
import Derived.Deep.WholeRow
namespace Go.Proofs.Ytiokcflomchdcab
open Go.RowKit

section
variable {P : Program}
theorem exec_load_agg {ev : Operand → Value} {o : Oper} {w : World} (ty : TypeId) (x : Operand) (ho : o.op = .load ty x) (g : Nat) (hx : ev x = .pointer (some ⟨g, 0, none⟩)) (t : TypeId) (cs : Array Value) (fr : Nat × Nat) (d : TypeDesc) (hg : w.heap[g]? = some (.cells cs t fr))
    (hu : P.underlying ty = some d) (hd : (match d with | .struct _ | .array _ _ => true | _ => false) = true) (hi : (P.info? ty).map (·.size) = some cs.size) : (execOp ev o).run P w = .ok (.value (.agg cs)) w := by
  unfold execOp
  simp only [ho, hx, Instr.loadAt, Instr.sureAddr, Sem.run_bind, Sem.run_pure, Result.andThen_ok, run_loadVar_row w g t ty cs fr d hg hu hd hi]
theorem exec_eql_agg {ev : Operand → Value} {o : Oper} {w : World} (t t2 : TypeId) (x y : Operand) (ho : o.op = .binOp .eql t x y t2) (xs ys : Array Value) (hx : ev x = .agg xs) (hy : ev y = .agg ys) (hm : P.eqGuardType P.depth t = false) (b : Bool)
    (he : (Op.equalIn 10000 t (.agg xs) (.agg ys)).run P w = .ok b w) : (execOp ev o).run P w = .ok (.value (.bool b)) w := by
  unfold execOp
  simp only [ho, hx, hy, Sem.run_bind, Sem.run_pure, run_eqGuard_agg w .eql t x y xs ys hm, Result.andThen_ok, run_eql_struct, he]
theorem run_part_row {t e : TypeId} {m n : Nat} {w : World} (hu : P.underlying t = some (.array m e)) (hi : (P.info? t).map (·.size) = some n) (xs : Array Value) (off : Nat) :
    (part t xs off).run P w = .ok (.agg (xs.extract off (off + n))) w := by
  obtain ⟨i, hq⟩ := info_of_underlying hu
  have hs : i.size = n := by rw [hq] at hi; simpa using hi
  simp [part, isAgg, run_underlying hu, run_sizeOf w hq, Program.cellsOf, hq, hs]
theorem extract_row (f g : Nat → Nat) {i : Nat} (h : i < 36) : ((maskArr f g).extract 0 (0 + 36))[i]? = some (.int .u64 (f i : Int)) := by
  rw [Array.getElem?_extract, maskArr_size, if_pos (by omega), Nat.zero_add]; exact maskArr_row f g h
theorem extract_col (f g : Nat → Nat) {i : Nat} (h : i < 36) : ((maskArr f g).extract 36 (36 + 36))[i]? = some (.int .u64 (g i : Int)) := by
  rw [Array.getElem?_extract, maskArr_size, if_pos (by omega)]; exact maskArr_col f g h
theorem run_equal_masks {T t e : TypeId} {w : World} (f g f' g' : Nat → Nat) (hT : P.underlying T = some (.struct (P.fieldsOf T))) (hp : P.stoodInHeld T = false)
    (hf : (P.fieldsOf T).toList.map (fun q => (q.name == "_", q.type, q.offset)) = [(false, t, 0), (false, t, 36)]) (hu : P.underlying t = some (.array 36 e)) (hi : (P.info? t).map (·.size) = some 36)
    (hue : P.underlying e = some (.int .u64)) (hpe : P.plainKey e = true) (hie : (P.info? e).map (·.size) = some 1) :
    (Op.equalIn 10000 T (.agg (maskArr f g)) (.agg (maskArr f' g'))).run P w = .ok (((List.range 36).all fun i => f i == f' i) && ((List.range 36).all fun i => g i == g' i)) w := by
  obtain ⟨ie, hqe⟩ := info_of_underlying hue
  have hce : P.cellsOf e = 1 := by
    rw [hqe] at hie
    simp [Program.cellsOf, hqe]
    simpa using hie
  have ha := run_eqItems_u64 (P := P) (d := 9997) hpe hue ((maskArr f g).extract 0 (0 + 36)) ((maskArr f' g').extract 0 (0 + 36)) f f' w (List.range 36) (fun i hi => ⟨extract_row f g (List.mem_range.1 hi), extract_row f' g' (List.mem_range.1 hi)⟩)
  have hb := run_eqItems_u64 (P := P) (d := 9997) hpe hue ((maskArr f g).extract 36 (36 + 36)) ((maskArr f' g').extract 36 (36 + 36)) g g' w (List.range 36) (fun i hi => ⟨extract_col f g (List.mem_range.1 hi), extract_col f' g' (List.mem_range.1 hi)⟩)
  have hea := run_equalIn_array (P := P) w 9998 ((maskArr f g).extract 0 (0 + 36)) ((maskArr f' g').extract 0 (0 + 36)) hu hqe
  have heb := run_equalIn_array (P := P) w 9998 ((maskArr f g).extract 36 (36 + 36)) ((maskArr f' g').extract 36 (36 + 36)) hu hqe
  rw [hce] at hea heb
  rw [run_equalIn_agg w 9999 T _ _ hT hp]
  generalize hfl : (P.fieldsOf T).toList = fl at hf ⊢
  obtain ⟨fa, fb, rfl⟩ : ∃ fa fb, fl = [fa, fb] := by
    have hlen := congrArg List.length hf
    simp only [List.length_map, List.length_cons, List.length_nil] at hlen
    cases fl with
    | nil => simp at hlen
    | cons fa r =>
      cases r with
      | nil => simp at hlen
      | cons fb r2 =>
        cases r2 with
        | nil => exact ⟨fa, fb, rfl⟩
        | cons _ _ => simp at hlen
  · skip
    simp only [List.map_cons, List.map_nil, List.cons.injEq, Prod.mk.injEq, and_true] at hf
    obtain ⟨⟨n1, t1, o1⟩, ⟨n2, t2, o2⟩⟩ := hf
    have n1' : fa.name ≠ "_" := by intro h; rw [h] at n1; simp at n1
    have n2' : fb.name ≠ "_" := by intro h; rw [h] at n2; simp at n2
    simp only [Op.eqFields, if_pos n1', if_pos n2', t1, t2, o1, o2, Sem.run_bind, run_part_row hu hi, Result.andThen_ok]
    rw [hea, ha]
    simp only [Result.andThen_ok]
    cases ((List.range 36).all fun i => f i == f' i)
    · simp
    · simp only [Bool.not_true, Bool.false_eq_true, if_false, Bool.true_and, Sem.run_bind, run_part_row hu hi, Result.andThen_ok]
      rw [heb, hb]
      simp only [Result.andThen_ok]
      cases ((List.range 36).all fun i => g i == g' i) <;> simp
end
end Go.Proofs.Ytiokcflomchdcab
