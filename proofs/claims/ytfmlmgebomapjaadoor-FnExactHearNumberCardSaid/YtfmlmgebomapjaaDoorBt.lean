/-
  The machine's and | or of numbers.
-/
import Derived.Test.YtfmlmgebomapjaaDoorBasic
import Derived.IntWalk
namespace Go.Proofs.YtfmlmgebomapjaaDoor
open Go Go.RowKit
theorem bv_nat (m : Nat) : BitVec.ofInt 64 (m : Int) = BitVec.ofNat 64 m := by simp
theorem bits_and {m X : Nat} (hm : m < 9223372036854775808) (hX : X < 9223372036854775808) : bits .and .u64 (m : Int) (X : Int) = ((m &&& X : Nat) : Int) := by
  have h2 : m &&& X ≤ m := Nat.and_le_left
  have e : (BitVec.ofInt 64 (m : Int) &&& BitVec.ofInt 64 (X : Int)).toNat = m &&& X := by
    rw [bv_nat, bv_nat, BitVec.toNat_and, BitVec.toNat_ofNat, BitVec.toNat_ofNat, Nat.mod_eq_of_lt (by omega), Nat.mod_eq_of_lt (by omega)]
  show IntKind.u64.wrap (((BitVec.ofInt 64 (m : Int) &&& BitVec.ofInt 64 (X : Int)).toNat : Nat) : Int) = _
  rw [e]
  exact IntWalk.u64_in _ (by omega)
theorem bits_or {m X : Nat} (hm : m < 9223372036854775808) (hX : X < 9223372036854775808) : bits .or .u64 (m : Int) (X : Int) = ((m ||| X : Nat) : Int) := by
  have h2 : m ||| X < 2 ^ 63 := Nat.or_lt_two_pow hm hX
  have e : (BitVec.ofInt 64 (m : Int) ||| BitVec.ofInt 64 (X : Int)).toNat = m ||| X := by
    rw [bv_nat, bv_nat, BitVec.toNat_or, BitVec.toNat_ofNat, BitVec.toNat_ofNat, Nat.mod_eq_of_lt (by omega), Nat.mod_eq_of_lt (by omega)]
  show IntKind.u64.wrap (((BitVec.ofInt 64 (m : Int) ||| BitVec.ofInt 64 (X : Int)).toNat : Nat) : Int) = _
  rw [e]
  exact IntWalk.u64_in _ (by omega)
end Go.Proofs.YtfmlmgebomapjaaDoor
