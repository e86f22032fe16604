/- The function CheckSign answers, at every argument, as its model does. The walk: the law's Go text answers true and turns nothing that was there. Conditions: as the theorem states. -/
import Derived.Test.YtjlhldndomaknaaDoorC3e
import Derived.Test.YtjlhldndomaknaaDoorOpen3
import Derived.WalkKit
import Derived.Below
namespace Go.Proofs.YtjlhldndomaknaaDoor.fnExactCheckSign
open Go.RowKit
set_option linter.unusedVariables false

set_option maxRecDepth 100000 in
theorem walk (a0 : Int) (a1 : Int) (a2p a2q : Int) (w : World) (w0 : (Lit.int .i64 a0).wf = true) (w1 : (Lit.int .i64 a1).wf = true) (w2p : (Lit.int .i64 a2p).wf = true) (w2q : (Lit.int .i64 a2q).wf = true) (lab : Labels w) :
    Calls Tryd.prog 11 #[.int .i64 a0, .int .i64 a1, .agg #[.int .i64 a2p, .int .i64 a2q]] w fun e w' => e = .returned (.bool true) ∧ Below w.heap.size w w' := by
  go_enter Tryd.func11, Tryd.ntmps11
  go_wp2_with fail
  refine (toSigned_any _ _ _).mono ?_
  rintro r w1 ⟨rfl, h1⟩
  have g0_w1 : w1.cell? ⟨w.heap.size, 0, none⟩ = some (.int .i64 a2p) := cell_keep h1 (by go_simp)
  have g1_w1 : w1.cell? ⟨w.heap.size, 1, none⟩ = some (.int .i64 a2q) := cell_keep h1 (by go_simp)
  have b1 := btr (bal (Below.refl _ w) _) h1
  clear h1
  go_wp2_with fail
  refine (specCheckSign_any _ _ _ _ _).mono ?_
  rintro r w2 ⟨rfl, hb_w2⟩
  have g0_w2 := cell_keep hb_w2 g0_w1
  have g1_w2 := cell_keep hb_w2 g1_w1
  have hz_w2 := hb_w2.size
  (try simp at hz_w2)
  have b2 := btr b1 hb_w2
  clear b1 hb_w2 g0_w1 g1_w1
  go_wp2_with fail
  refine (toSigned_any _ _ _).mono ?_
  rintro r w3 ⟨rfl, h3⟩
  have b3 := btr b2 h3
  have e3 := lab.on b3
  clear b2 h3 g0_w2 g1_w2
  go_wp2_with fail
  refine (implCheckSign_any _ _ _ _ _ e3).mono ?_
  rintro r w4 ⟨rfl, h4⟩
  have b4 := btr b3 h4
  clear b3 h4 e3
  go_wp2_with fail
  go_ret
  exact ⟨rfl, b4⟩

end Go.Proofs.YtjlhldndomaknaaDoor.fnExactCheckSign
