/- The function StreamOf answers, at every argument, as its model does, in memory of its own. The walk: the law's Go text answers true and turns nothing that was there. Conditions: as the theorem states. -/
import Derived.Test.YtjlhldndomaknaaDoorC2e
import Derived.Test.YtjlhldndomaknaaDoorL0
import Derived.WalkKit
import Derived.Below
namespace Go.Proofs.YtjlhldndomaknaaDoor.fnExactStreamOf
open Go.RowKit
set_option linter.unusedVariables false

set_option maxRecDepth 100000 in
theorem walk (a0 : Int) (a1 : Int) (a2 : Int) (w : World) (w0 : (Lit.int .i64 a0).wf = true) (w1 : (Lit.int .i64 a1).wf = true) (w2 : (Lit.int .i64 a2).wf = true) (lab : Labels w) :
    Calls Tryd.prog 7 #[.int .i64 a0, .int .i64 a1, .int .i64 a2] w fun e w' => e = .returned (.bool true) ∧ Below w.heap.size w w' := by
  have hn : (M.strL a0 a1 a2).length ≤ 200 := by
    unfold M.strL; split
    · rename_i h; obtain ⟨_, _, h0, h1⟩ := strB_yes h; rw [M.streamL_length]; omega
    · simp
  have hw := fun z hz => byte_wf (M.strL_byte a0 a1 a2 z hz)
  have HW := Lib.hid hw
  clear hw
  go_enter Tryd.func7, Tryd.ntmps7
  go_wp2_with fail
  refine (specStreamOf_any _ _ _ _).mono ?_
  rintro r u1 ⟨b1, n1, c1, rfl, O1, e1⟩
  have l1 := O1.len
  subst l1
  have L1 := lab.on (bal e1 (.cells #[.int .i64 (M.strC a0 a1 a2), .slice b1 (M.strL a0 a1 a2).length c1] 44))
  go_wp2_with fail
  refine (implStreamOf_any _ _ _ _ L1).mono ?_
  rintro r u2 ⟨b2, n2, c2, rfl, O2, e2⟩
  have l2 := O2.len
  subst l2
  have T := TwoRes.new (t := 44) e1 O1 HW.out e2 O2
  have L2 := L1.on (bal e2 (.cells #[.int .i64 (M.strC a0 a1 a2), .slice b2 (M.strL a0 a1 a2).length c2] 44))
  have hlt := T.ahead
  have x0 : u2.cell? ⟨u1.heap.size, 0, none⟩ = some (.int .i64 (M.strC a0 a1 a2)) := cell_keep e2 (by go_simp)
  have x1 : u2.cell? ⟨u1.heap.size, 1, none⟩ = some (.slice b1 (M.strL a0 a1 a2).length c1) := cell_keep e2 (by go_simp)
  clear e1 O1 L1 e2 O2
  go_wp2_with fail
  generalize u2.alloc (.cells #[.int .i64 (M.strC a0 a1 a2), .slice b2 (M.strL a0 a1 a2).length c2] 44) = v2 at *
  refine (eqBytes_any _ _ _ _ _ _ v2.heap.size _ _ (Own.row T.own HW.out) (T.row.more (by have := T.lt1; omega)) (Nat.le_refl _)).mono ?_
  rintro r u3 ⟨rfl, e3⟩
  have T3 := T.on e3
  have L3 := L2.on e3
  have y0 := T3.y0
  have y1 := T3.y1
  clear T L2 e3 x0 x1
  go_wp2_with fail
  refine (markBytes_any _ _ _ _ _ _ _ _ T3.own (by omega) (by omega) (by omega)).mono ?_
  rintro r u4 ⟨rfl, O4, g4⟩
  have T4 := T3.grew O4 g4
  have L4 : Labels u4 := L3.grew g4 (fun k hk => by have h1 := (T3.own.lt k hk).1; have h2 := T3.old; have h3 := lab.lt; omega)
  have z0 := T4.y0
  have z1 := T4.y1
  clear T3 L3 O4 g4 y0 y1
  go_wp2_with fail
  refine (heldBytes_any _ _ _ _ u4.heap.size _ _ (Own.row T4.own (marks_wf _ _)) (Nat.le_refl _) (by omega) (by omega) (by omega)).mono ?_
  rintro r u5 ⟨rfl, e5⟩
  have T5 := T4.on e5
  have L5 := L4.on e5
  clear T4 L4 e5 z0 z1
  go_wp2_with fail
  refine (implStreamOf_any _ _ _ _ L5).mono ?_
  rintro r u6 ⟨b3, n3, c3, rfl, O6, e6⟩
  have l6 := O6.len
  subst l6
  have T6 := T5.on e6
  have T7 := T6.on (bal (Below.refl _ _) (.cells #[.int .i64 (M.strC a0 a1 a2), .slice b3 (M.strL a0 a1 a2).length c3] 44))
  have R7 := (Own.row O6 HW.out).on (bal (Below.refl _ _) (.cells #[.int .i64 (M.strC a0 a1 a2), .slice b3 (M.strL a0 a1 a2).length c3] 44))
  have x0 := T6.x0
  have x1 := T6.x1
  have lt6 := T6.lt1
  clear T5 L5 O6 e6
  go_wp2_with fail
  generalize u6.alloc (.cells #[.int .i64 (M.strC a0 a1 a2), .slice b3 (M.strL a0 a1 a2).length c3] 44) = v6 at *
  refine (eqBytes_any _ _ _ _ _ _ v6.heap.size _ _ R7 (T7.row.more (by have := T7.lt1; omega)) (Nat.le_refl _)).mono ?_
  rintro r u8 ⟨rfl, e8⟩
  have T8 := T7.on e8
  have y0 := T8.y0
  have y1 := T8.y1
  clear T6 T7 R7 e8 x0 x1 lt6
  go_wp2_with fail
  refine (heldBytes_any _ _ _ _ u8.heap.size _ _ (Own.row T8.own (marks_wf _ _)) (Nat.le_refl _) (by omega) (by omega) (by omega)).mono ?_
  rintro r u9 ⟨rfl, e9⟩
  have hb := (T8.on e9).bel
  clear T8 e9 y0 y1
  go_wp2_with fail
  go_ret
  exact ⟨rfl, hb⟩

end Go.Proofs.YtjlhldndomaknaaDoor.fnExactStreamOf
