/- Contracts of what the laws do with hellos: compare them, copy them, count them. Conditions: as each theorem states. -/
import Derived.Test.YtepailfhagaboaaDoorC6a
namespace Go.Proofs.YtepailfhagaboaaDoor
open Go.RowKit
set_option maxRecDepth 100000
set_option linter.unusedVariables false

theorem eqHello_any (r s : Int) (n : ByteArray) (w : World) :
    Calls Tryd.prog 42 #[H3 r s n, H3 r s n] w fun e w' => e = .returned (.bool true) ∧ Below w.heap.size w w' := by
  have b0 := bal (bal (Below.refl _ w) (.cells #[.int .i64 r, .int .i64 s, .string n] 26)) (.cells #[.int .i64 r, .int .i64 s, .string n] 26)
  go_enter Tryd.func42, Tryd.ntmps42
  go_wp2_with fail
  go_ret
  exact ⟨rfl, b0⟩
theorem eqHelloResult_any (c r s : Int) (n : ByteArray) (w : World) :
    Calls Tryd.prog 21 #[H4 c r s n, H4 c r s n] w fun e w' => e = .returned (.bool true) ∧ Below w.heap.size w w' := by
  have b0 := bal (bal (Below.refl _ w) (.cells #[.int .i64 c, .int .i64 r, .int .i64 s, .string n] 36)) (.cells #[.int .i64 c, .int .i64 r, .int .i64 s, .string n] 36)
  go_enter Tryd.func21, Tryd.ntmps21
  go_wp2_with fail
  refine (eqHello_any r s n _).mono ?_
  rintro e u1 ⟨rfl, b1⟩
  have hb := btr b0 b1
  go_wp2_with fail
  go_ret
  exact ⟨rfl, hb⟩
theorem toHello_any (r s : Int) (n : ByteArray) (w : World) :
    Calls Tryd.prog 11 #[H3 r s n] w fun e w' => e = .returned (H3 r s n) ∧ Below w.heap.size w w' := by
  have b0 := bal (bal (bal (Below.refl _ w) (.cells #[.int .i64 r, .int .i64 s, .string n] 23)) (.cells #[.int .i64 r, .int .i64 s, .string n] 26)) (.cells #[.int .i64 r, .int .i64 s, .string n] 26)
  go_enter Tryd.func11, Tryd.ntmps11
  go_wp2_with fail
  exact bodyPost_ret (v := H3 r s n) (by simp [results, Tryd.results11, go_sem]) rfl ⟨rfl, b0⟩
theorem szHello_any (r s : Int) (n : ByteArray) (l : Int) (w : World) (hn : n.size ≤ maxLen) (l0 : 0 ≤ l) (l1 : l ≤ 1048576) :
    Calls Tryd.prog 9 #[H3 r s n, .int .i64 l] w fun e w' => e = .returned (.int .i64 (if l < n.size then -1 else l - n.size)) ∧ Below w.heap.size w w' := by
  have hb := bal (Below.refl _ w) (.cells #[.int .i64 r, .int .i64 s, .string n] 23)
  unfold maxLen at hn
  by_cases h : l < n.size
  · have h' : l - n.size < 0 := by omega
    rw [if_pos h]
    go_enter Tryd.func9, Tryd.ntmps9
    go_wp2_with fail
    go_ret
    exact ⟨rfl, hb⟩
  · have h' : ¬ l - n.size < 0 := by omega
    rw [if_neg h]
    go_enter Tryd.func9, Tryd.ntmps9
    go_wp2_with fail
    go_ret
    exact ⟨rfl, hb⟩
end Go.Proofs.YtepailfhagaboaaDoor
