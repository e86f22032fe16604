/- The function IsPublic answers, at every argument, as its model does. The walk: the law's Go text answers true and turns nothing that was there. Conditions: as the theorem states. -/
import Derived.Test.YtbjenjmnjlhoeaaC1c
import Derived.WalkKit
import Derived.Below
namespace Go.Proofs.Ytbjenjmnjlhoeaa.fnExactIsPublic
open Go.RowKit
set_option linter.unusedVariables false

theorem walk (a0 : Int) (w : World) (w0 : (Lit.int .i64 a0).wf = true) :
    Calls Try.prog 9 #[.int .i64 a0] w fun e w' => e = .returned (.bool true) ∧ Below w.heap.size w w' := by
  cases hP : pubB a0
  all_goals
    go_enter Try.func9, Try.ntmps9
    go_wp2_with fail
    refine (specIsPublic_any _ _).mono ?_
    rintro r w' ⟨rfl, rfl⟩
    go_wp2_with fail
    refine (implIsPublic_any _ _).mono ?_
    rintro r u2 ⟨rfl, hb_u2⟩
    obtain ⟨hc_u2, hf_u2⟩ := bcell hb_u2
    have hz_u2 := hb_u2.size
    (try simp at hz_u2)
    go_wp2_with fail
    go_ret
    exact ⟨rfl, hb_u2⟩

end Go.Proofs.Ytbjenjmnjlhoeaa.fnExactIsPublic
