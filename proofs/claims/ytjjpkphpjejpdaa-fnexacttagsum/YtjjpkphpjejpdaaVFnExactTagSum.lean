/- The function TagSum answers, at every argument, as its model does, and leaves its argument as it was. The walk: the law's Go text answers true and turns nothing that was there. Conditions: as the theorem states. -/
import Derived.Test.YtjjpkphpjejpdaaC2d
import Derived.WalkKit
import Derived.Below
namespace Go.Proofs.Ytjjpkphpjejpdaa.fnExactTagSum
open Go.RowKit
set_option linter.unusedVariables false

set_option maxRecDepth 100000 in
theorem walk (a0 : ByteArray) (a1 : Option Addr) (len1 cap1 : Nat) (z1 : List Int) (w : World) (w0 : a0.size ≤ maxLen) (w1 : Row .i64 w w.heap.size a1 len1 cap1 z1) :
    Calls Try.prog 4 #[.string a0, .slice a1 len1 cap1] w fun e w' => e = .returned (.bool true) ∧ Below w.heap.size w w' := by
  have hl := w1.fits
  have hm := w1.most
  have hs := w0
  unfold maxLen at hm hs
  by_cases hb0 : 1048576 < a0.size
  · have hb' : (1048576 : Int) < a0.size := by omega
    go_enter Try.func4, Try.ntmps4
    go_wp2_with fail
    go_ret
    exact ⟨rfl, Below.refl _ _⟩
  have hb' : (a0.size : Int) ≤ 1048576 := by omega
  by_cases hbig : 1048576 < len1
  · go_enter Try.func4, Try.ntmps4
    go_wp2_with fail
    go_ret
    exact ⟨rfl, Below.refl _ _⟩
  go_enter Try.func4, Try.ntmps4
  go_wp2_with fail
  refine (toInt64S_any _ _ _ _ _ _ w1 (Nat.le_refl _) (by omega)).mono ?_
  rintro r u1 ⟨rfl, O1, b1⟩
  have R1 := Own.row O1 w1.wf
  go_wp2_with fail
  refine (specTagSum_any _ _ _ _ _ _ _ w0 R1 (Nat.le_refl _)).mono ?_
  rintro r u2 ⟨rfl, b2⟩
  have c2 := bal (btr b1 b2) (.cells #[.int .i64 (M.tagR a0 z1).1, .int .i64 (M.tagR a0 z1).2] 24)
  have W2 := w1.on c2
  have x0 : (u2.alloc (.cells #[.int .i64 (M.tagR a0 z1).1, .int .i64 (M.tagR a0 z1).2] 24)).cell? ⟨u2.heap.size, 0, none⟩ = some (.int .i64 (M.tagR a0 z1).1) := by go_simp
  have x1 : (u2.alloc (.cells #[.int .i64 (M.tagR a0 z1).1, .int .i64 (M.tagR a0 z1).2] 24)).cell? ⟨u2.heap.size, 1, none⟩ = some (.int .i64 (M.tagR a0 z1).2) := by go_simp
  clear O1 R1 b1 b2
  go_wp2_with fail
  generalize u2.alloc (.cells #[.int .i64 (M.tagR a0 z1).1, .int .i64 (M.tagR a0 z1).2] 24) = v2 at *
  refine (toInt64S_any _ _ _ _ _ _ W2 (Nat.le_refl _) (by omega)).mono ?_
  rintro r u3 ⟨rfl, O3, b3⟩
  have R3 := Own.row O3 w1.wf
  go_wp2_with fail
  refine (implTagSum_any _ _ _ _ _ _ _ w0 R3 (Nat.le_refl _)).mono ?_
  rintro r u4 ⟨rfl, b4⟩
  have d4 := bal (btr b3 b4) (.cells #[.int .i64 (M.tagR a0 z1).1, .int .i64 (M.tagR a0 z1).2] 24)
  have c4 := btr c2 d4
  have O4 := (O3.below b4).alloc (.cells #[.int .i64 (M.tagR a0 z1).1, .int .i64 (M.tagR a0 z1).2] 24)
  have y0 := cell_keep (btr b3 b4) x0
  have y1 := cell_keep (btr b3 b4) x1
  have lt4 : u2.heap.size < u4.heap.size := cell_lt y0
  clear W2 x0 x1 c2 O3 R3 b3 b4 d4
  go_wp2_with fail
  refine (eqInt_any _ _ _ _ _ rfl rfl).mono ?_
  rintro r u5 ⟨rfl, b5⟩
  have c5 := btr c4 b5
  have O5 := O4.below b5
  have W5 := w1.on c5
  clear O4 c4 b5 y0 y1 lt4
  go_wp2_with fail
  refine (toInt64S_any _ _ _ _ _ _ W5 (Nat.le_refl _) (by omega)).mono ?_
  rintro r u6 ⟨rfl, O6, b6⟩
  have R6 := Own.row (O5.below b6) w1.wf
  have Q6 := Own.row O6 w1.wf
  have c6 := btr c5 b6
  clear O5 O6 W5 c5 b6
  go_wp2_with fail
  refine (eqInt64S_any _ _ _ _ _ _ _ _ R6 Q6 (Nat.le_refl _)).mono ?_
  rintro r u7 ⟨rfl, b7⟩
  have c7 := btr c6 b7
  clear R6 Q6 c6 b7
  go_wp2_with fail
  go_ret
  exact ⟨rfl, c7⟩

end Go.Proofs.Ytjjpkphpjejpdaa.fnExactTagSum
