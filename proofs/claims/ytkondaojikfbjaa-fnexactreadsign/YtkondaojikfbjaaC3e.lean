/- Contracts of signatures and of how they are checked, by the program and by its model. Conditions: as each theorem states. -/
import Derived.Test.YtkondaojikfbjaaC3d
namespace Go.Proofs.Ytkondaojikfbjaa
open Go.RowKit
set_option maxRecDepth 100000

theorem checkB_yes {u t p q : Int} (hu : pubB u = true) (ht : M.sumB t = true) (hg : M.sigB p q = true) : M.checkB u t p q = (M.pw 4 q.toNat 2879 == p * M.pw u (M.chalN u p t).toNat 2879 % 2879) := by
  simp only [M.checkB, hu, ht, hg, Bool.and_self, Bool.true_and]

theorem eqSigned_any (a b : Int) (w : World) :
    Calls Try.prog 14 #[I2 a b, I2 a b] w fun r w' => r = .returned (.bool true) ∧ Below w.heap.size w w' := by
  go_enter Try.func14, Try.ntmps14
  go_wp2_with fail
  go_ret
  exact ⟨rfl, bal (bal (Below.refl _ _) _) _⟩
theorem eqSignR_any (a b c : Int) (w : World) :
    Calls Try.prog 7 #[I3 a b c, I3 a b c] w fun r w' => r = .returned (.bool true) ∧ Below w.heap.size w w' := by
  go_enter Try.func7, Try.ntmps7
  go_wp2_with fail
  refine (eqSigned_any _ _ _).mono ?_
  rintro r u1 ⟨rfl, hb_u1⟩
  obtain ⟨hc_u1, hf_u1⟩ := bcell hb_u1
  have hz_u1 := hb_u1.size
  (try simp at hz_u1)
  go_wp2_with fail
  go_ret
  exact ⟨rfl, btr (bal (bal (Below.refl _ _) _) _) hb_u1⟩
end Go.Proofs.Ytkondaojikfbjaa
