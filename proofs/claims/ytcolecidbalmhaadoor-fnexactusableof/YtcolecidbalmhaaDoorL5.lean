/- Contracts of what the laws do with names and supplied keys: compare them, copy them, count them. Conditions: as each theorem states. -/
import Derived.Test.YtcolecidbalmhaaDoorC5g
namespace Go.Proofs.YtcolecidbalmhaaDoor
open Go.RowKit
set_option maxRecDepth 100000
set_option linter.unusedVariables false

theorem eqText_any (c : Int) (t : ByteArray) (w : World) :
    Calls Tryd.prog 22 #[X2 c t, X2 c t] w fun e w' => e = .returned (.bool true) ∧ Below w.heap.size w w' := by
  have b0 := bal (bal (Below.refl _ w) (.cells #[.int .i64 c, .string t] 46)) (.cells #[.int .i64 c, .string t] 46)
  go_enter Tryd.func22, Tryd.ntmps22
  go_wp2_with fail
  go_ret
  exact ⟨rfl, b0⟩
theorem eqTlsa_any (n : ByteArray) (u m v : Int) (w : World) :
    Calls Tryd.prog 38 #[T4 n u m v, T4 n u m v] w fun e w' => e = .returned (.bool true) ∧ Below w.heap.size w w' := by
  have b0 := bal (bal (Below.refl _ w) (.cells #[.string n, .int .i64 u, .int .i64 m, .int .i64 v] 62)) (.cells #[.string n, .int .i64 u, .int .i64 m, .int .i64 v] 62)
  go_enter Tryd.func38, Tryd.ntmps38
  go_wp2_with fail
  go_ret
  exact ⟨rfl, b0⟩
theorem toTlsa_any (n : ByteArray) (u m v : Int) (w : World) :
    Calls Tryd.prog 35 #[T4 n u m v] w fun e w' => e = .returned (T4 n u m v) ∧ Below w.heap.size w w' := by
  have b0 := bal (bal (bal (Below.refl _ w) (.cells #[.string n, .int .i64 u, .int .i64 m, .int .i64 v] 59)) (.cells #[.string n, .int .i64 u, .int .i64 m, .int .i64 v] 62)) (.cells #[.string n, .int .i64 u, .int .i64 m, .int .i64 v] 62)
  go_enter Tryd.func35, Tryd.ntmps35
  go_wp2_with fail
  exact bodyPost_ret (v := T4 n u m v) (by simp [results, Tryd.results35, go_sem]) rfl ⟨rfl, b0⟩
theorem szTlsa_any (n : ByteArray) (u m v : Int) (l : Int) (w : World) (hn : n.size ≤ maxLen) (l0 : 0 ≤ l) (l1 : l ≤ 1048576) :
    Calls Tryd.prog 31 #[T4 n u m v, .int .i64 l] w fun e w' => e = .returned (.int .i64 (if l < n.size then -1 else l - n.size)) ∧ Below w.heap.size w w' := by
  have hb := bal (Below.refl _ w) (.cells #[.string n, .int .i64 u, .int .i64 m, .int .i64 v] 59)
  unfold maxLen at hn
  by_cases h : l < n.size
  · have h' : l - n.size < 0 := by omega
    rw [if_pos h]
    go_enter Tryd.func31, Tryd.ntmps31
    go_wp2_with fail
    go_ret
    exact ⟨rfl, hb⟩
  · have h' : ¬ l - n.size < 0 := by omega
    rw [if_neg h]
    go_enter Tryd.func31, Tryd.ntmps31
    go_wp2_with fail
    go_ret
    exact ⟨rfl, hb⟩
end Go.Proofs.YtcolecidbalmhaaDoor
