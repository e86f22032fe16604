/- Contracts of chapter 1's exported functions and of their model's. Conditions: as each theorem states. -/
import Derived.Test.YtcolecidbalmhaaC1a
namespace Go.Proofs.Ytcolecidbalmhaa
open Go.RowKit

abbrev I2 (c v : Int) : Value := .agg #[.int .i64 c, .int .i64 v]

def mulR (a b m : Int) : Int × Int := if restB a m && restB b m then (0, a * b % m) else (3, 0)
def powR (a e m : Int) : Int × Int := if restB a m && inB e 0 1000000000 then (0, M.pw a e.toNat m) else (3, 0)

theorem restB_in (a m : Int) (h : inB m 1 1000000 = true) : restB a m = inB a 0 (m - 1) := by
  simp only [inB, decide_eq_true_eq] at h
  unfold restB inB
  rw [decide_eq_decide]; omega
theorem restB_out (a m : Int) (h : inB m 1 1000000 = false) : restB a m = false := by
  simp only [inB, decide_eq_false_iff_not] at h
  simp only [restB, decide_eq_false_iff_not]; omega

end Go.Proofs.Ytcolecidbalmhaa
