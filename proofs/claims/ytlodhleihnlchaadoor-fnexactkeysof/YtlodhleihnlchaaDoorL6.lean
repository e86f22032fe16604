/- Contracts of what the laws do with hellos: compare them, copy them, count them. Conditions: as each theorem states. -/
import Derived.Test.YtlodhleihnlchaaDoorC6a
namespace Go.Proofs.YtlodhleihnlchaaDoor
open Go.RowKit
set_option maxRecDepth 100000
set_option linter.unusedVariables false

theorem eqHello_any (r s : Int) (n : ByteArray) (w : World) :
    Calls Tryd.prog 52 #[H3 r s n, H3 r s n] w fun e w' => e = .returned (.bool true) ∧ Below w.heap.size w w' := by
  have b0 := bal (bal (Below.refl _ w) (.cells #[.int .i64 r, .int .i64 s, .string n] 28)) (.cells #[.int .i64 r, .int .i64 s, .string n] 28)
  go_enter Tryd.func52, Tryd.ntmps52
  go_wp2_with fail
  go_ret
  exact ⟨rfl, b0⟩
theorem toHello_any (r s : Int) (n : ByteArray) (w : World) :
    Calls Tryd.prog 22 #[H3 r s n] w fun e w' => e = .returned (H3 r s n) ∧ Below w.heap.size w w' := by
  have b0 := bal (bal (bal (Below.refl _ w) (.cells #[.int .i64 r, .int .i64 s, .string n] 23)) (.cells #[.int .i64 r, .int .i64 s, .string n] 28)) (.cells #[.int .i64 r, .int .i64 s, .string n] 28)
  go_enter Tryd.func22, Tryd.ntmps22
  go_wp2_with fail
  exact bodyPost_ret (v := H3 r s n) (by simp [results, Tryd.results22, go_sem]) rfl ⟨rfl, b0⟩
theorem szHello_any (r s : Int) (n : ByteArray) (l : Int) (w : World) (hn : n.size ≤ maxLen) (l0 : 0 ≤ l) (l1 : l ≤ 1048576) :
    Calls Tryd.prog 20 #[H3 r s n, .int .i64 l] w fun e w' => e = .returned (.int .i64 (if l < n.size then -1 else l - n.size)) ∧ Below w.heap.size w w' := by
  have hb := bal (Below.refl _ w) (.cells #[.int .i64 r, .int .i64 s, .string n] 23)
  unfold maxLen at hn
  by_cases h : l < n.size
  · have h' : l - n.size < 0 := by omega
    rw [if_pos h]
    go_enter Tryd.func20, Tryd.ntmps20
    go_wp2_with fail
    go_ret
    exact ⟨rfl, hb⟩
  · have h' : ¬ l - n.size < 0 := by omega
    rw [if_neg h]
    go_enter Tryd.func20, Tryd.ntmps20
    go_wp2_with fail
    go_ret
    exact ⟨rfl, hb⟩
end Go.Proofs.YtlodhleihnlchaaDoor
