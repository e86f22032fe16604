/- The function PackSign answers, at every argument, as its model does, in memory of its own. The walk: the law's Go text answers true and turns nothing that was there. Conditions: as the theorem states. -/
import Derived.Test.YtkondaojikfbjaaDoorC3h
import Derived.Test.YtkondaojikfbjaaDoorL0
import Derived.Test.YtkondaojikfbjaaDoorOpen3
import Derived.WalkKit
import Derived.Below
namespace Go.Proofs.YtkondaojikfbjaaDoor.fnExactPackSign
open Go.RowKit
set_option linter.unusedVariables false

theorem packL_len (p q : Int) : (M.packL p q).length ≤ 4 := by
  cases h : M.sigB p q
  · rw [M.packL_no h]; simp
  · rw [M.packL_yes h]; simp
set_option maxRecDepth 100000 in
theorem walk (a0p a0q : Int) (w : World) (w0p : (Lit.int .i64 a0p).wf = true) (w0q : (Lit.int .i64 a0q).wf = true) (ert : ErrT w) :
    Calls Tryd.prog 11 #[.agg #[.int .i64 a0p, .int .i64 a0q]] w fun e w' => e = .returned (.bool true) ∧ Below w.heap.size w w' := by
  have hn := packL_len a0p a0q
  have hw := fun z hz => byte_wf (M.packL_byte a0p a0q z hz)
  have HW := Lib.hid hw
  clear hw
  have S1 := fun w => specPackSign_any a0p a0q w
  have S2 := fun w hg => implPackSign_any a0p a0q w hg
  generalize M.packL a0p a0q = zs at *
  generalize M.sigF a0p a0q = cd at *
  go_enter Tryd.func11, Tryd.ntmps11
  go_wp2_with fail
  refine (toSigned_any _ _ _).mono ?_
  rintro r t1 ⟨rfl, h1⟩
  have G0 : t1.cell? ⟨w.heap.size, 0, none⟩ = some (.int .i64 a0p) := cell_keep h1 (by go_simp)
  have G1 : t1.cell? ⟨w.heap.size, 1, none⟩ = some (.int .i64 a0q) := cell_keep h1 (by go_simp)
  have B0 := btr (bal (Below.refl _ w) _) h1
  have E0 := ert.on B0
  clear h1
  go_wp2_with fail
  refine (S1 _).mono ?_
  rintro r u1 ⟨b1, n1, c1, rfl, O1, e1⟩
  have l1 := O1.len
  subst l1
  have f1 := bal e1 (.cells #[.int .i64 cd, .slice b1 zs.length c1] 44)
  have g0 := cell_keep f1 G0
  have g1 := cell_keep f1 G1
  have lt0 : w.heap.size < u1.heap.size := cell_lt (cell_keep e1 G0)
  have x0 : (u1.alloc (.cells #[.int .i64 cd, .slice b1 zs.length c1] 44)).cell? ⟨u1.heap.size, 0, none⟩ = some (.int .i64 cd) := by go_simp
  have x1 : (u1.alloc (.cells #[.int .i64 cd, .slice b1 zs.length c1] 44)).cell? ⟨u1.heap.size, 1, none⟩ = some (.slice b1 zs.length c1) := by go_simp
  have TN := fun (u2 : World) (c2 : Nat) (a2 : Option Addr) => TwoRes.new (t := 44) (c := cd) (c2 := c2) (a2 := a2) (u2 := u2) e1 O1 HW.out
  clear e1 O1
  go_wp2_with fail
  generalize u1.alloc (.cells #[.int .i64 cd, .slice b1 zs.length c1] 44) = v1 at *
  refine (toSigned_any _ _ _).mono ?_
  rintro r t2 ⟨rfl, h2⟩
  go_wp2_with fail
  refine (S2 _ (E0.on (btr f1 h2))).mono ?_
  rintro r u2 ⟨b2, n2, c2, rfl, O2, e2⟩
  have l2 := O2.len
  subst l2
  have T := TN u2 c2 b2 (btr h2 e2) (O2.less h2.size)
  have hlt := T.ahead
  have y0' := cell_keep (btr h2 e2) x0
  have y1' := cell_keep (btr h2 e2) x1
  clear TN h2 O2 e2 g0 g1 x0 x1 f1 lt0
  go_wp2_with fail
  generalize u2.alloc (.cells #[.int .i64 cd, .slice b2 zs.length c2] 44) = v2 at *
  refine (eqBytes_any _ _ _ _ _ _ v2.heap.size _ _ (Own.row T.own HW.out) (T.row.more (by have := T.lt1; omega)) (Nat.le_refl _)).mono ?_
  rintro r u3 ⟨rfl, e3⟩
  have T3 := T.on e3
  have y0 := T3.y0
  have y1 := T3.y1
  clear T e3 y0' y1'
  go_wp2_with fail
  refine (markBytes_any _ _ _ _ _ _ _ _ T3.own (by omega) (by omega) (by omega)).mono ?_
  rintro r u4 ⟨rfl, O4, g4⟩
  have T4 := T3.grew O4 g4
  have z0 := T4.y0
  have z1 := T4.y1
  clear T3 O4 g4 y0 y1
  go_wp2_with fail
  refine (heldBytes_any _ _ _ _ u4.heap.size _ _ (Own.row T4.own (marks_wf _ _)) (Nat.le_refl _) (by omega) (by omega) (by omega)).mono ?_
  rintro r u5 ⟨rfl, e5⟩
  have T5 := T4.on e5
  have g0 := cell_keep T5.bel G0
  have g1 := cell_keep T5.bel G1
  clear T4 e5 z0 z1
  go_wp2_with fail
  refine (toSigned_any _ _ _).mono ?_
  rintro r t3 ⟨rfl, h3⟩
  have T5b := T5.on h3
  clear T5 h3 g0 g1
  go_wp2_with fail
  refine (S2 _ (E0.on T5b.bel)).mono ?_
  rintro r u6 ⟨b3, n3, c3, rfl, O6, e6⟩
  have l6 := O6.len
  subst l6
  have T6 := T5b.on e6
  have T7 := T6.on (bal (Below.refl _ _) (.cells #[.int .i64 cd, .slice b3 zs.length c3] 44))
  have R7 := (Own.row O6 HW.out).on (bal (Below.refl _ _) (.cells #[.int .i64 cd, .slice b3 zs.length c3] 44))
  have x0 := T6.x0
  have x1 := T6.x1
  have lt6 := T6.lt1
  clear T5b O6 e6
  go_wp2_with fail
  generalize u6.alloc (.cells #[.int .i64 cd, .slice b3 zs.length c3] 44) = v6 at *
  refine (eqBytes_any _ _ _ _ _ _ v6.heap.size _ _ R7 (T7.row.more (by have := T7.lt1; omega)) (Nat.le_refl _)).mono ?_
  rintro r u8 ⟨rfl, e8⟩
  have T8 := T7.on e8
  have y0 := T8.y0
  have y1 := T8.y1
  clear T6 T7 R7 e8 x0 x1 lt6
  go_wp2_with fail
  refine (heldBytes_any _ _ _ _ u8.heap.size _ _ (Own.row T8.own (marks_wf _ _)) (Nat.le_refl _) (by omega) (by omega) (by omega)).mono ?_
  rintro r u9 ⟨rfl, e9⟩
  have hb := btr B0 (T8.on e9).bel
  clear T8 e9 y0 y1
  go_wp2_with fail
  go_ret
  exact ⟨rfl, hb⟩

end Go.Proofs.YtkondaojikfbjaaDoor.fnExactPackSign
