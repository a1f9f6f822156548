/-
  Contracts of SymbolOf, of the program and of the model: both return the same symbol, for every input.
-/
import Derived.Test.YtoedkaaenahjeaaDoorBasic
namespace Go.Proofs.YtoedkaaenahjeaaDoor
open Go.RowKit

abbrev twoS (s : ByteArray) (b : Bool) : Ending := .returned (.tuple #[.string s, .bool b])
theorem twoS_eq {n n' : ByteArray} {b b' : Bool} (h : n = n') (hb : b = b') : Ending.returned (.tuple #[.string n, .bool b]) = twoS n' b' := by rw [h, hb]

def symN (a : Nat) : Nat := if a < 10 then 48 + a else 55 + a
def symS (a : Nat) : ByteArray := ⟨#[UInt8.ofNat (symN a)]⟩
theorem sym_cut : ∀ a : Nat, a < 36 → ({ data := #[48, 49, 50, 51, 52, 53, 54, 55, 56, 57, 65, 66, 67, 68, 69, 70, 71, 72, 73, 74, 75, 76, 77, 78, 79, 80, 81, 82, 83, 84, 85, 86, 87, 88, 89, 90] } : ByteArray).extract a (a + 1) = symS a := by
  decide
def symOk (a : Int) : Bool := inB a 0 35
def symR (a : Int) : ByteArray := if symOk a = true then symS a.toNat else ⟨#[]⟩

set_option maxHeartbeats 400000 in
theorem l01Symbol_any (a : Nat) (w : World) (h1 : a < 36) :
    Calls Tryd.prog 82 #[.int .i64 a] w fun e w' => e = .returned (.int .u8 (symN a)) ∧ w = w' := by
  by_cases h : (a : Int) < 10
  · have H : Hid (symN a = 48 + a) := Lib.hid (by unfold symN; rw [if_pos (by omega)])
    go_enter Tryd.func82, Tryd.ntmps82
    go_wp2
    go_ret
    exact ⟨ret_int (by rw [H.out]; omega), rfl⟩
  · have H : Hid (symN a = 55 + a) := Lib.hid (by unfold symN; rw [if_neg (by omega)])
    go_enter Tryd.func82, Tryd.ntmps82
    go_wp2
    go_ret
    exact ⟨ret_int (by rw [H.out]; omega), rfl⟩
theorem symN_lt {a : Nat} (h : a < 36) : symN a < 256 := by unfold symN; split <;> omega

/-- The bytes of a row of cells, made into a text. -/
theorem convert_row {w : World} {a : Addr} {c : Nat} (ns : List Int) (h : ∀ j v, (ns.map (Value.int .u8))[j]? = some v → w.cell? (a.add j) = some v) :
    (convert 22 9 (.slice (some a) ns.length c)).run Tryd.prog w = .ok (.string (ns.foldl (fun r n => r.push (UInt8.ofNat n.toNat)) ByteArray.empty)) w := by
  rw [run_convert_bytes_string w 22 9 5 (some a) ns.length c Tryd.underlying22 Tryd.underlying5 Tryd.underlying9]
  refine run_bytesToString w a ns.length c ns ?_
  have := run_loadCells_list (P := Tryd.prog) w a (ns.map (Value.int .u8)) h
  simpa using this

end Go.Proofs.YtoedkaaenahjeaaDoor
