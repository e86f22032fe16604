/- Contracts of what the laws do with hellos: compare them, copy them, count them. Conditions: as each theorem states. -/
import Derived.Test.YtepailfhagaboaaGreatDoorC6a
namespace Go.Proofs.YtepailfhagaboaaGreatDoor
open Go.RowKit
set_option maxRecDepth 100000
set_option linter.unusedVariables false

theorem toHello_any (r s : Int) (n : ByteArray) (w : World) :
    Calls Tryz.prog 26 #[H3 r s n] w fun e w' => e = .returned (H3 r s n) ∧ Below w.heap.size w w' := by
  have b0 := bal (bal (bal (Below.refl _ w) (.cells #[.int .i64 r, .int .i64 s, .string n] 53)) (.cells #[.int .i64 r, .int .i64 s, .string n] 26)) (.cells #[.int .i64 r, .int .i64 s, .string n] 26)
  go_enter Tryz.func26, Tryz.ntmps26
  go_wp2_with fail
  exact bodyPost_ret (v := H3 r s n) (by simp [results, Tryz.results26, go_sem]) rfl ⟨rfl, b0⟩
theorem szHello_any (r s : Int) (n : ByteArray) (l : Int) (w : World) (hn : n.size ≤ maxLen) (l0 : 0 ≤ l) (l1 : l ≤ 1048576) :
    Calls Tryz.prog 25 #[H3 r s n, .int .i64 l] w fun e w' => e = .returned (.int .i64 (if l < n.size then -1 else l - n.size)) ∧ Below w.heap.size w w' := by
  have hb := bal (Below.refl _ w) (.cells #[.int .i64 r, .int .i64 s, .string n] 53)
  unfold maxLen at hn
  by_cases h : l < n.size
  · have h' : l - n.size < 0 := by omega
    rw [if_pos h]
    go_enter Tryz.func25, Tryz.ntmps25
    go_wp2_with fail
    go_ret
    exact ⟨rfl, hb⟩
  · have h' : ¬ l - n.size < 0 := by omega
    rw [if_neg h]
    go_enter Tryz.func25, Tryz.ntmps25
    go_wp2_with fail
    go_ret
    exact ⟨rfl, hb⟩
end Go.Proofs.YtepailfhagaboaaGreatDoor
