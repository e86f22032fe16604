/- Contracts of supplied keys that are made for a name, by the program and by its model. Conditions: as each theorem states. -/
import Derived.Test.YtcolecidbalmhaaDoorC5g
import Derived.Test.YtcolecidbalmhaaDoorC2e
import Derived.Test.YtcolecidbalmhaaDoorC1c
namespace Go.Proofs.YtcolecidbalmhaaDoor
open Go.RowKit
set_option maxRecDepth 100000
set_option linter.unusedVariables false

theorem pub_sum {p : Int} (h : pubB p = true) : M.sumB p = true := by
  simp only [pubB, inB, Bool.and_eq_true, decide_eq_true_eq] at h
  simp only [M.sumB, decide_eq_true_eq]
  omega
abbrev forT (l : List UInt8) (p m : Int) : Value := T5 (M.forC l (pubB p) m) (M.bs (M.forN l (pubB p) m)) (M.forU l (pubB p) m) (M.forM l (pubB p) m) (M.forV l (pubB p) p m)
theorem forT_no {l : List UInt8} {p m : Int} (h : ¬ M.forC l (pubB p) m = 0) : forT l p m = T5 (M.forC l (pubB p) m) { data := #[] } 0 0 0 := by
  simp [forT, M.forN, M.forU, M.forM, M.forV, h, M.bs]
theorem forT_yes {l : List UInt8} {p m : Int} (h : M.forC l (pubB p) m = 0) : forT l p m = T5 0 (M.bs (M.nrm l)) 3 m (M.valM p m) := by
  simp [forT, M.forN, M.forU, M.forM, M.forV, h]

end Go.Proofs.YtcolecidbalmhaaDoor
