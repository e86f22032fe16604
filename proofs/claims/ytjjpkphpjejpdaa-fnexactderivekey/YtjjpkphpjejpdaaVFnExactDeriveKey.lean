/- The function DeriveKey answers, at every argument, as its model does. The walk: the law's Go text answers true and turns nothing that was there. Conditions: as the theorem states. -/
import Derived.Test.YtjjpkphpjejpdaaC2d
import Derived.WalkKit
import Derived.Below
namespace Go.Proofs.Ytjjpkphpjejpdaa.fnExactDeriveKey
open Go.RowKit
set_option linter.unusedVariables false

theorem walk (a0 : Int) (a1 : ByteArray) (w : World) (w0 : (Lit.int .i64 a0).wf = true) (w1 : a1.size ≤ maxLen) :
    Calls Try.prog 5 #[.int .i64 a0, .string a1] w fun e w' => e = .returned (.bool true) ∧ Below w.heap.size w w' := by
  have hm := w1
  unfold maxLen at hm
  by_cases hbig : 1048576 < a1.size
  · have hb' : (1048576 : Int) < a1.size := by omega
    go_enter Try.func5, Try.ntmps5
    go_wp2_with fail
    go_ret
    exact ⟨rfl, Below.refl _ _⟩
  have hb' : (a1.size : Int) ≤ 1048576 := by omega
  go_enter Try.func5, Try.ntmps5
  go_wp2_with fail
  refine (specDeriveKey_any _ _ _ w1).mono ?_
  rintro r u1 ⟨rfl, hb_u1⟩
  obtain ⟨hc_u1, hf_u1⟩ := bcell hb_u1
  have hz_u1 := hb_u1.size
  (try simp at hz_u1)
  go_wp2_with fail
  refine (implDeriveKey_any _ _ _ w1).mono ?_
  rintro r u2 ⟨rfl, hb_u2⟩
  obtain ⟨hc_u2, hf_u2⟩ := bcell hb_u2
  have hz_u2 := hb_u2.size
  (try simp at hz_u2)
  have hlt : u1.heap.size < u2.heap.size := by omega
  go_wp2_with fail
  refine (eqInt_any _ _ _ _ _ rfl rfl).mono ?_
  rintro r u3 ⟨rfl, hb_u3⟩
  obtain ⟨hc_u3, hf_u3⟩ := bcell hb_u3
  have hz_u3 := hb_u3.size
  (try simp at hz_u3)
  go_wp2_with fail
  go_ret
  exact ⟨rfl, btr (bal (btr (bal hb_u1 _) hb_u2) _) hb_u3⟩

end Go.Proofs.Ytjjpkphpjejpdaa.fnExactDeriveKey
