/- Contracts of chapter 1's small functions: what each call answers, at every world. Conditions: as each theorem states. -/
import Derived.Test.YtcolecidbalmhaaBase
import Derived.Test.YtcolecidbalmhaaMath
namespace Go.Proofs.Ytcolecidbalmhaa
open Go.RowKit

def inB (v a b : Int) : Bool := decide (a ≤ v ∧ v ≤ b)

def restB (a m : Int) : Bool := decide (1 ≤ m ∧ m ≤ 1000000 ∧ 0 ≤ a ∧ a < m)

theorem and_one (n : Int) : bits .and .i64 n 1 = n % 2 := by
  have h1 : (BitVec.ofInt 64 1).toNat = 2 ^ 1 - 1 := by decide
  have key : (BitVec.ofInt 64 n &&& BitVec.ofInt 64 1).toNat = (n % ((2 ^ 64 : Nat) : Int)).toNat % 2 ^ 1 := by
    rw [BitVec.toNat_and, BitVec.toNat_ofInt, h1, Nat.and_two_pow_sub_one_eq_mod]
  show IntKind.i64.wrap ((BitVec.ofInt 64 n &&& BitVec.ofInt 64 1).toNat : Nat) = n % 2
  rw [key, IntKind.wrap_i64]
  omega

theorem bit_of (e k : Nat) : bits .and .i64 ((e : Int) / 2 ^ k) 1 = ((e / 2 ^ k % 2 : Nat) : Int) := by
  rw [and_one]; simp

end Go.Proofs.Ytcolecidbalmhaa
