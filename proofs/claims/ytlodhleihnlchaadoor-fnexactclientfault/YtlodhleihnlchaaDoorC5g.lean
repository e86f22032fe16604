/- Contracts of what is wrong with a supplied key, by the program and by its model. Conditions: as each theorem states. -/
import Derived.Test.YtlodhleihnlchaaDoorC5f
import Derived.Test.YtlodhleihnlchaaDoorLine
namespace Go.Proofs.YtlodhleihnlchaaDoor
open Go.RowKit
set_option maxRecDepth 100000
set_option linter.unusedVariables false

theorem implNormalFault_any (s : ByteArray) (w : World) (hs : s.size ≤ maxLen) :
    Calls Tryd.prog 44 #[.string s] w fun e w' => e = .returned (.int .i64 (M.normF s.data.toList)) ∧ Below w.heap.size w w' := by
  have hL : s.data.toList.length = s.size := by simp
  have F := fun w => implNameFault_any s w hs
  by_cases h0 : M.nameF s.data.toList = 0
  · obtain ⟨h20, hm⟩ := M.nameF_zero h0
    rw [hL] at h20
    have N := fun w : World => normalText_any s w h20 hm
    have Q := text_beq (M.bs (M.nrm s.data.toList)) s
    rw [M.bs_list] at Q
    by_cases hn : M.nrm s.data.toList = s.data.toList
    · rw [M.normF_yes h0 hn]
      rw [decide_eq_true hn] at Q
      simp only [h0] at F
      generalize M.bs (M.nrm s.data.toList) = R at *
      clear h0 hm hn hL
      go_enter Tryd.func44, Tryd.ntmps44
      go_wp2_with fail
      refine (F _).mono ?_
      rintro r w' ⟨rfl, rfl⟩
      go_wp2_with fail
      refine (N _).mono ?_
      rintro r u1 ⟨rfl, b1⟩
      go_wp2_with fail
      go_ret
      exact ⟨rfl, b1⟩
    · rw [M.normF_form h0 hn]
      rw [decide_eq_false hn] at Q
      simp only [h0] at F
      generalize M.bs (M.nrm s.data.toList) = R at *
      clear h0 hm hn hL
      go_enter Tryd.func44, Tryd.ntmps44
      go_wp2_with fail
      refine (F _).mono ?_
      rintro r w' ⟨rfl, rfl⟩
      go_wp2_with fail
      refine (N _).mono ?_
      rintro r u1 ⟨rfl, b1⟩
      go_wp2_with fail
      go_ret
      exact ⟨rfl, b1⟩
  · rw [M.normF_no h0]
    generalize M.nameF s.data.toList = c at *
    go_enter Tryd.func44, Tryd.ntmps44
    go_wp2_with fail
    refine (F _).mono ?_
    rintro r w' ⟨rfl, rfl⟩
    go_wp2_with fail
    go_ret
    exact ⟨rfl, Below.refl _ _⟩
theorem l1In_use (v : Int) (w : World) : Calls Tryd.prog 45 #[.int .i64 v, .int .i64 0, .int .i64 3] w fun e w' => e = .returned (.bool (M.useB v)) ∧ w = w' := l1In_any v 0 3 w
theorem l1In_mat (v : Int) (w : World) : Calls Tryd.prog 45 #[.int .i64 v, .int .i64 0, .int .i64 1] w fun e w' => e = .returned (.bool (M.matB v)) ∧ w = w' := l1In_any v 0 1 w

abbrev T4 (n : ByteArray) (u m v : Int) : Value := .agg #[.string n, .int .i64 u, .int .i64 m, .int .i64 v]
abbrev T5 (c : Int) (n : ByteArray) (u m v : Int) : Value := .agg #[.int .i64 c, .string n, .int .i64 u, .int .i64 m, .int .i64 v]
abbrev TL4 (n : ByteArray) (u m v : Int) : List Value := [.string n, .int .i64 u, .int .i64 m, .int .i64 v]
abbrev TL5 (c : Int) (n : ByteArray) (u m v : Int) : List Value := [.int .i64 c, .string n, .int .i64 u, .int .i64 m, .int .i64 v]

end Go.Proofs.YtlodhleihnlchaaDoor
