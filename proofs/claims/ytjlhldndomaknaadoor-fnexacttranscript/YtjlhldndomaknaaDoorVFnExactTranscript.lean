/- The function Transcript answers, at every argument, as its model does, and leaves its argument as it was. The walk: the law's Go text answers true and turns nothing that was there. Conditions: as the theorem states. -/
import Derived.Test.YtjlhldndomaknaaDoorL1
import Derived.Test.YtjlhldndomaknaaDoorOpen2
import Derived.WalkKit
import Derived.Below
namespace Go.Proofs.YtjlhldndomaknaaDoor.fnExactTranscript
open Go.RowKit
set_option linter.unusedVariables false

set_option maxRecDepth 100000 in
theorem walk (a0 : Option Addr) (len0 cap0 : Nat) (z0 : List (List Int)) (w : World) (w0 : Grid w w.heap.size a0 len0 cap0 z0) (v0 : ∀ zs ∈ z0, ∀ z ∈ zs, (Lit.int .u8 z).wf = true) (lab : Labels w) :
    Calls Tryd.prog 8 #[.slice a0 len0 cap0] w fun e w' => e = .returned (.bool true) ∧ Below w.heap.size w w' := by
  have hl := w0.fits
  have hm := w0.most
  unfold maxLen at hm
  have hL := Lib.hid w0.length
  by_cases hsz : (len0 : Int) + sumLens z0 ≤ 1048576
  case neg =>
    have E : szR z0 1048576 = -1 := by unfold szR; rw [hL.out, if_neg hsz]
    go_enter Tryd.func8, Tryd.ntmps8
    go_wp2_with fail
    refine (szByteSS_any _ _ _ _ _ _ _ w0 (by omega) (by omega)).mono ?_
    rintro r w' ⟨rfl, rfl⟩
    go_wp2_with fail
    go_ret
    exact ⟨rfl, Below.refl _ _⟩
  have E : szR z0 1048576 = 1048576 - len0 - sumLens z0 := by unfold szR; rw [hL.out, if_pos hsz]
  have hge : 0 ≤ (1048576 : Int) - len0 - sumLens z0 := by omega
  have HR := Lib.hid (fun zs hz => Nat.le_trans (sumLens_mem z0 zs hz) (show sumLens z0 ≤ 1048576 by omega))
  have HV := Lib.hid v0
  go_enter Tryd.func8, Tryd.ntmps8
  go_wp2_with fail
  refine (szByteSS_any _ _ _ _ _ _ _ w0 (by omega) (by omega)).mono ?_
  rintro r w' ⟨rfl, rfl⟩
  rw [E]
  clear E
  go_wp2_with fail
  refine (toByteSS_any _ _ _ _ _ _ w0 (Nat.le_refl _) (by omega) HR.out HV.out).mono ?_
  rintro r u1 ⟨rfl, G1, b1⟩
  go_wp2_with fail
  refine (specTranscript_any _ _ _ _ _ _ G1 (Nat.le_refl _)).mono ?_
  rintro r u2 ⟨rfl, b2⟩
  have c2 := bal (btr b1 b2) (.cells #[.int .i64 (M.heardR z0).1, .int .i64 (M.heardR z0).2] 27)
  have W2 := w0.on c2
  have x0 : (u2.alloc (.cells #[.int .i64 (M.heardR z0).1, .int .i64 (M.heardR z0).2] 27)).cell? ⟨u2.heap.size, 0, none⟩ = some (.int .i64 (M.heardR z0).1) := by go_simp
  have x1 : (u2.alloc (.cells #[.int .i64 (M.heardR z0).1, .int .i64 (M.heardR z0).2] 27)).cell? ⟨u2.heap.size, 1, none⟩ = some (.int .i64 (M.heardR z0).2) := by go_simp
  clear G1 b1 b2
  go_wp2_with fail
  generalize u2.alloc (.cells #[.int .i64 (M.heardR z0).1, .int .i64 (M.heardR z0).2] 27) = v2 at *
  refine (toByteSS_any _ _ _ _ _ _ W2 (Nat.le_refl _) (by omega) HR.out HV.out).mono ?_
  rintro r u3 ⟨rfl, G3, b3⟩
  have L3 := lab.on (btr c2 b3)
  go_wp2_with fail
  refine (implTranscript_any _ _ _ _ _ _ L3 G3 (Nat.le_refl _)).mono ?_
  rintro r u4 ⟨rfl, b4⟩
  have d4 := bal (btr b3 b4) (.cells #[.int .i64 (M.heardR z0).1, .int .i64 (M.heardR z0).2] 27)
  have c4 := btr c2 d4
  have G4 := G3.on (bal b4 (.cells #[.int .i64 (M.heardR z0).1, .int .i64 (M.heardR z0).2] 27))
  have y0 := cell_keep (btr b3 b4) x0
  have y1 := cell_keep (btr b3 b4) x1
  have lt4 : u2.heap.size < u4.heap.size := cell_lt y0
  clear W2 x0 x1 c2 G3 L3 b3 b4 d4
  go_wp2_with fail
  refine (eqInt_any _ _ _ _ _ rfl rfl).mono ?_
  rintro r u5 ⟨rfl, b5⟩
  have c5 := btr c4 b5
  have G5 := G4.on b5
  have W5 := w0.on c5
  clear G4 c4 b5 y0 y1 lt4
  go_wp2_with fail
  refine (toByteSS_any _ _ _ _ _ _ W5 (Nat.le_refl _) (by omega) HR.out HV.out).mono ?_
  rintro r u6 ⟨rfl, G6, b6⟩
  have Q6 := G5.on b6
  have c6 := btr c5 b6
  clear G5 W5 c5 b6
  go_wp2_with fail
  refine (eqByteSS_any _ _ _ _ _ _ _ _ Q6 G6 (Nat.le_refl _)).mono ?_
  rintro r u7 ⟨rfl, b7⟩
  have c7 := btr c6 b7
  clear G6 Q6 c6 b7
  go_wp2_with fail
  go_ret
  exact ⟨rfl, c7⟩

end Go.Proofs.YtjlhldndomaknaaDoor.fnExactTranscript
