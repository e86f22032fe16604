/- The function PackPin answers, at every argument, as its model does, in memory of its own. The walk: the law's Go text answers true and turns nothing that was there. Conditions: as the theorem states. -/
import Derived.Test.YtcnpocppgghejaaDoorL0
import Derived.Test.YtcnpocppgghejaaDoorL7
import Derived.Test.YtcnpocppgghejaaDoorC7l
import Derived.Test.YtcnpocppgghejaaDoorOpen7
import Derived.WalkKit
import Derived.Below
namespace Go.Proofs.YtcnpocppgghejaaDoor.fnExactPackPin
open Go.RowKit
set_option linter.unusedVariables false

set_option maxRecDepth 100000 in
set_option maxHeartbeats 1000000 in
theorem walk (a0 : PinD) (w : World) (w0 : a0.n.size ≤ maxLen) :
    Calls Tryd.prog 8 #[P5 a0] w fun e w' => e = .returned (.bool true) ∧ Below w.heap.size w w' := by
  have hm := w0
  unfold maxLen at hm
  have b0 := bal (Below.refl _ w) (.cells #[.string a0.n, .int .i64 a0.a, .int .i64 a0.b, .int .i64 a0.e, .int .i64 a0.u] 23)
  have A0 : At w.heap.size a0.vals (w.alloc (.cells #[.string a0.n, .int .i64 a0.a, .int .i64 a0.b, .int .i64 a0.e, .int .i64 a0.u] 23)) := At.new w a0.vals 23
  have F := fun w => szPin_any a0 1048576 w w0 (by omega) (by omega)
  by_cases hbig : (1048576 : Int) < a0.n.size
  · simp only [if_pos hbig] at F
    go_enter Tryd.func8, Tryd.ntmps8
    go_wp2_with fail
    refine (F _).mono ?_
    rintro r u1 ⟨rfl, b1⟩
    have hb := btr b0 b1
    go_wp2_with fail
    go_ret
    exact ⟨rfl, hb⟩
  simp only [if_neg hbig] at F
  have hs0 : ¬ (1048576 : Int) - a0.n.size < 0 := by omega
  have hn := packPL_len a0
  have hw := fun z hz => byte_wf (packPL_byte a0 z hz)
  have HW := Lib.hid hw
  clear hw
  have S0 := fun w => toPin_any a0 w
  have S1 := fun w => specPackPin_any a0 w w0
  have S2 := fun w => implPackPin_any a0 w w0
  generalize packPL a0 = zs at *
  generalize a0.f = cd at *
  go_enter Tryd.func8, Tryd.ntmps8
  go_wp2_with fail
  generalize w.alloc (.cells #[.string a0.n, .int .i64 a0.a, .int .i64 a0.b, .int .i64 a0.e, .int .i64 a0.u] 23) = W0 at *
  refine (F _).mono ?_
  rintro r t0 ⟨rfl, h0⟩
  have A1 := A0.on h0
  have B1 := btr b0 h0
  have p0 := A1.cell 0 _ rfl
  have p1 := A1.cell 1 _ rfl
  have p2 := A1.cell 2 _ rfl
  have p3 := A1.cell 3 _ rfl
  have p4 := A1.cell 4 _ rfl
  clear h0 b0 A0 F
  go_wp2_with fail
  refine (S0 _).mono ?_
  rintro r t1 ⟨rfl, h1⟩
  have A2 := A1.on h1
  have B0 := btr B1 h1
  clear h1 A1 B1 p0 p1 p2 p3 p4
  go_wp2_with fail
  refine (S1 _).mono ?_
  rintro r u1 ⟨b1, n1, c1, rfl, O1, e1⟩
  have l1 := O1.len
  subst l1
  have f1 := bal e1 (.cells #[.int .i64 cd, .slice b1 zs.length c1] 52)
  have g0 := (A2.on f1).cell 0 _ rfl
  have g1 := (A2.on f1).cell 1 _ rfl
  have g2 := (A2.on f1).cell 2 _ rfl
  have g3 := (A2.on f1).cell 3 _ rfl
  have g4 := (A2.on f1).cell 4 _ rfl
  have lt0 : w.heap.size < u1.heap.size := (A2.on e1).lt (by simp [PinD.vals])
  have x0 : (u1.alloc (.cells #[.int .i64 cd, .slice b1 zs.length c1] 52)).cell? ⟨u1.heap.size, 0, none⟩ = some (.int .i64 cd) := by go_simp
  have x1 : (u1.alloc (.cells #[.int .i64 cd, .slice b1 zs.length c1] 52)).cell? ⟨u1.heap.size, 1, none⟩ = some (.slice b1 zs.length c1) := by go_simp
  have TN := fun (u2 : World) (c2 : Nat) (a2 : Option Addr) => TwoRes.new (t := 52) (c := cd) (c2 := c2) (a2 := a2) (u2 := u2) e1 O1 HW.out
  clear e1 O1
  go_wp2_with fail
  generalize u1.alloc (.cells #[.int .i64 cd, .slice b1 zs.length c1] 52) = v1 at *
  refine (S0 _).mono ?_
  rintro r t2 ⟨rfl, h2⟩
  go_wp2_with fail
  refine (S2 _).mono ?_
  rintro r u2 ⟨b2, n2, c2, rfl, O2, e2⟩
  have l2 := O2.len
  subst l2
  have T := TN u2 c2 b2 (btr h2 e2) (O2.less h2.size)
  have hlt := T.ahead
  have y0' := cell_keep (btr h2 e2) x0
  have y1' := cell_keep (btr h2 e2) x1
  clear TN h2 O2 e2 g0 g1 g2 g3 g4 x0 x1 f1 lt0
  go_wp2_with fail
  generalize u2.alloc (.cells #[.int .i64 cd, .slice b2 zs.length c2] 52) = v2 at *
  refine (eqBytes_any _ _ _ _ _ _ v2.heap.size _ _ (Own.row T.own HW.out) (T.row.more (by have := T.lt1; omega)) (Nat.le_refl _)).mono ?_
  rintro r u3 ⟨rfl, e3⟩
  have T3 := T.on e3
  have y0 := T3.y0
  have y1 := T3.y1
  clear T e3 y0' y1'
  go_wp2_with fail
  refine (markBytes_any _ _ _ _ _ _ _ _ T3.own (by omega) (by omega) (by omega)).mono ?_
  rintro r u4 ⟨rfl, O4, g4⟩
  have T4 := T3.grew O4 g4
  have z0 := T4.y0
  have z1 := T4.y1
  clear T3 O4 g4 y0 y1
  go_wp2_with fail
  refine (heldBytes_any _ _ _ _ u4.heap.size _ _ (Own.row T4.own (marks_wf _ _)) (Nat.le_refl _) (by omega) (by omega) (by omega)).mono ?_
  rintro r u5 ⟨rfl, e5⟩
  have T5 := T4.on e5
  have g0 := (A2.on T5.bel).cell 0 _ rfl
  have g1 := (A2.on T5.bel).cell 1 _ rfl
  have g2 := (A2.on T5.bel).cell 2 _ rfl
  have g3 := (A2.on T5.bel).cell 3 _ rfl
  have g4 := (A2.on T5.bel).cell 4 _ rfl
  clear T4 e5 z0 z1
  have hk1 : ¬ (1 : Int) + (zs.length : Int) < 0 := by omega
  go_wp2_with fail
  refine (S0 _).mono ?_
  rintro r t3 ⟨rfl, h3⟩
  have T5b := T5.on h3
  clear T5 h3 g0 g1 g2 g3 g4
  go_wp2_with fail
  refine (S2 _).mono ?_
  rintro r u6 ⟨b3, n3, c3, rfl, O6, e6⟩
  have l6 := O6.len
  subst l6
  have T6 := T5b.on e6
  have T7 := T6.on (bal (Below.refl _ _) (.cells #[.int .i64 cd, .slice b3 zs.length c3] 52))
  have R7 := (Own.row O6 HW.out).on (bal (Below.refl _ _) (.cells #[.int .i64 cd, .slice b3 zs.length c3] 52))
  have x0 := T6.x0
  have x1 := T6.x1
  have lt6 := T6.lt1
  clear T5b O6 e6
  go_wp2_with fail
  generalize u6.alloc (.cells #[.int .i64 cd, .slice b3 zs.length c3] 52) = v6 at *
  refine (eqBytes_any _ _ _ _ _ _ v6.heap.size _ _ R7 (T7.row.more (by have := T7.lt1; omega)) (Nat.le_refl _)).mono ?_
  rintro r u8 ⟨rfl, e8⟩
  have T8 := T7.on e8
  have y0 := T8.y0
  have y1 := T8.y1
  clear T6 T7 R7 e8 x0 x1 lt6
  go_wp2_with fail
  refine (heldBytes_any _ _ _ _ u8.heap.size _ _ (Own.row T8.own (marks_wf _ _)) (Nat.le_refl _) (by omega) (by omega) (by omega)).mono ?_
  rintro r u9 ⟨rfl, e9⟩
  have hb := btr B0 (T8.on e9).bel
  clear T8 e9 y0 y1
  go_wp2_with fail
  go_ret
  exact ⟨rfl, hb⟩

end Go.Proofs.YtcnpocppgghejaaDoor.fnExactPackPin
