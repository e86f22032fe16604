/- Contracts of chapter 1's small functions: what each call answers, at every world. Conditions: as each theorem states. -/
import Derived.Test.YtefgimpodhjdpaaBase
import Derived.Test.YtefgimpodhjdpaaMath
namespace Go.Proofs.Ytefgimpodhjdpaa
open Go.RowKit

def inB (v a b : Int) : Bool := decide (a ≤ v ∧ v ≤ b)

theorem l1In_any (v a b : Int) (w : World) :
    Calls Try.prog 14 #[.int .i64 v, .int .i64 a, .int .i64 b] w fun e w' => e = .returned (.bool (inB v a b)) ∧ w = w' := by
  by_cases h1 : a ≤ v
  · by_cases h2 : v ≤ b
    · have e : inB v a b = true := by simp [inB, h1, h2]
      rw [e]; clear e
      go_enter Try.func14, Try.ntmps14
      go_wp2
      go_ret
      simp
    · have e : inB v a b = false := by simp [inB, h2]
      rw [e]; clear e
      go_enter Try.func14, Try.ntmps14
      go_wp2
      go_ret
      simp
  · have e : inB v a b = false := by simp [inB, h1]
    rw [e]; clear e
    go_enter Try.func14, Try.ntmps14
    go_wp2
    go_ret
    simp

def restB (a m : Int) : Bool := decide (1 ≤ m ∧ m ≤ 1000000 ∧ 0 ≤ a ∧ a < m)

theorem and_one (n : Int) : bits .and .i64 n 1 = n % 2 := by
  have h1 : (BitVec.ofInt 64 1).toNat = 2 ^ 1 - 1 := by decide
  have key : (BitVec.ofInt 64 n &&& BitVec.ofInt 64 1).toNat = (n % ((2 ^ 64 : Nat) : Int)).toNat % 2 ^ 1 := by
    rw [BitVec.toNat_and, BitVec.toNat_ofInt, h1, Nat.and_two_pow_sub_one_eq_mod]
  show IntKind.i64.wrap ((BitVec.ofInt 64 n &&& BitVec.ofInt 64 1).toNat : Nat) = n % 2
  rw [key, IntKind.wrap_i64]
  omega

theorem bit_of (e k : Nat) : bits .and .i64 ((e : Int) / 2 ^ k) 1 = ((e / 2 ^ k % 2 : Nat) : Int) := by
  rw [and_one]; simp

end Go.Proofs.Ytefgimpodhjdpaa
