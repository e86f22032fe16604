/- Contracts of the small functions of chapter 3 and of their model's: points and proofs as one complex number, what fits, nonces and challenges. Conditions: as each theorem states. -/
import Derived.Test.YtlodhleihnlchaaDoorG1
import Derived.Test.YtlodhleihnlchaaDoorC3b
import Derived.Test.YtlodhleihnlchaaDoorMath3
namespace Go.Proofs.YtlodhleihnlchaaDoor
open Go.RowKit
set_option maxRecDepth 100000

/-! Whole numbers below 2879 as floats, and back. -/
def floatBackB (n : Nat) : Bool := floatToIntVal .f64 (floatOfInt .f64 (n : Int)) .i64 == some (n : Int)
theorem float_all : M.allB floatBackB 2879 = true := by decide +kernel
theorem float_back {n : Int} (h0 : 0 ≤ n) (h1 : n ≤ 2878) : floatToIntVal .f64 (floatOfInt .f64 n) .i64 = some n := by
  obtain ⟨n, rfl⟩ := Int.eq_ofNat_of_zero_le h0
  have h := M.allB_out float_all (k := n) (by omega)
  simp only [floatBackB, beq_iff_eq] at h
  exact h
/-- The two numbers as one complex one. -/
def pairV (p q : Int) : Value := .complex .f64 (floatOfInt .f64 p) (floatOfInt .f64 q)

end Go.Proofs.YtlodhleihnlchaaDoor
