/- Contracts of chapter 1's exported functions and of their model's. Conditions: as each theorem states. -/
import Derived.Test.YtjjpkphpjejpdaaDoorC1a
namespace Go.Proofs.YtjjpkphpjejpdaaDoor
open Go.RowKit

abbrev I2 (c v : Int) : Value := .agg #[.int .i64 c, .int .i64 v]

theorem fld0 (a b : Int) (w : World) : Sem.run Tryd.prog (Instr.field 27 (.agg #[.int .i64 a, .int .i64 b]) 0) w = .ok (.int .i64 a) w := by kernel_rfl
theorem fld1 (a b : Int) (w : World) : Sem.run Tryd.prog (Instr.field 27 (.agg #[.int .i64 a, .int .i64 b]) 1) w = .ok (.int .i64 b) w := by kernel_rfl

def mulR (a b m : Int) : Int × Int := if restB a m && restB b m then (0, a * b % m) else (3, 0)
def powR (a e m : Int) : Int × Int := if restB a m && inB e 0 1000000000 then (0, M.pw a e.toNat m) else (3, 0)

theorem restB_in (a m : Int) (h : inB m 1 1000000 = true) : restB a m = inB a 0 (m - 1) := by
  simp only [inB, decide_eq_true_eq] at h
  unfold restB inB
  rw [decide_eq_decide]; omega
theorem restB_out (a m : Int) (h : inB m 1 1000000 = false) : restB a m = false := by
  simp only [inB, decide_eq_false_iff_not] at h
  simp only [restB, decide_eq_false_iff_not]; omega

theorem eqInt_any (a b c d : Int) (w : World) (hac : a = c) (hbd : b = d) :
    Calls Tryd.prog 32 #[I2 a b, I2 c d] w fun r w' => r = .returned (.bool true) ∧ Below w.heap.size w w' := by
  subst hac; subst hbd
  go_enter Tryd.func32, Tryd.ntmps32
  go_wp2_with fail
  go_ret
  exact ⟨rfl, bal (bal (Below.refl _ _) _) _⟩

end Go.Proofs.YtjjpkphpjejpdaaDoor
