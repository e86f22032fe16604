/- The function CheckRoll answers, at every argument, as its model does. The walk: the law's Go text answers true and turns nothing that was there. Conditions: as the theorem states. -/
import Derived.Test.YtmdknbgpddnplaaGreatDoorS5
import Derived.Test.YtmdknbgpddnplaaGreatDoorS7
import Derived.WalkKit
import Derived.Below
namespace Go.Proofs.YtmdknbgpddnplaaGreatDoor.fnExactCheckRoll
open Go.RowKit
set_option linter.unusedVariables false

set_option maxRecDepth 100000 in
set_option maxHeartbeats 1000000 in
theorem walk (a0 : PinD) (a1 : RollD) (a2 : Int) (w : World) (w0 : a0.n.size ≤ maxLen) (w1 : a1.p.n.size ≤ maxLen) (w2 : (Lit.int .i64 a2).wf = true) (lab : Labels w) (ert : ErrT w) :
    Calls Tryz.prog 6 #[P5 a0, R8 a1, .int .i64 a2] w fun e w' => e = .returned (.bool true) ∧ Below w.heap.size w w' := by
  have hm0 := w0
  have hm1 := w1
  unfold maxLen at hm0 hm1
  have b0 := bal (bal (Below.refl _ w) (.cells #[.string a0.n, .int .i64 a0.a, .int .i64 a0.b, .int .i64 a0.e, .int .i64 a0.u] 60)) (.cells #[.string a1.p.n, .int .i64 a1.p.a, .int .i64 a1.p.b, .int .i64 a1.p.e, .int .i64 a1.p.u, .int .i64 a1.b, .int .i64 a1.x, .int .i64 a1.y] 67)
  have A0 : At w.heap.size a0.vals ((w.alloc (.cells #[.string a0.n, .int .i64 a0.a, .int .i64 a0.b, .int .i64 a0.e, .int .i64 a0.u] 60)).alloc (.cells #[.string a1.p.n, .int .i64 a1.p.a, .int .i64 a1.p.b, .int .i64 a1.p.e, .int .i64 a1.p.u, .int .i64 a1.b, .int .i64 a1.x, .int .i64 a1.y] 67)) := (At.new w a0.vals 60).alloc _
  have Q0 : At (w.heap.size + 1) a1.vals ((w.alloc (.cells #[.string a0.n, .int .i64 a0.a, .int .i64 a0.b, .int .i64 a0.e, .int .i64 a0.u] 60)).alloc (.cells #[.string a1.p.n, .int .i64 a1.p.a, .int .i64 a1.p.b, .int .i64 a1.p.e, .int .i64 a1.p.u, .int .i64 a1.b, .int .i64 a1.x, .int .i64 a1.y] 67)) := At.newN (w := w.alloc (.cells #[.string a0.n, .int .i64 a0.a, .int .i64 a0.b, .int .i64 a0.e, .int .i64 a0.u] 60)) a1.vals 67 (by simp)
  have F := fun w => szPin_any a0 1048576 w w0 (by omega) (by omega)
  by_cases hbig : (1048576 : Int) < a0.n.size
  · simp only [if_pos hbig] at F
    go_enter Tryz.func6, Tryz.ntmps6
    go_wp2_with fail
    refine (F _).mono ?_
    rintro r u1 ⟨rfl, b1⟩
    have hb := btr b0 b1
    go_wp2_with fail
    go_ret
    exact ⟨rfl, hb⟩
  simp only [if_neg hbig] at F
  have hs0 : ¬ (1048576 : Int) - a0.n.size < 0 := by omega
  have G := fun w => szRoll_any a1 (1048576 - a0.n.size) w w1 (by omega) (by omega)
  by_cases hbig2 : (1048576 : Int) - a0.n.size < a1.p.n.size
  · simp only [if_pos hbig2] at G
    go_enter Tryz.func6, Tryz.ntmps6
    go_wp2_with fail
    generalize (w.alloc (.cells #[.string a0.n, .int .i64 a0.a, .int .i64 a0.b, .int .i64 a0.e, .int .i64 a0.u] 60)).alloc (.cells #[.string a1.p.n, .int .i64 a1.p.a, .int .i64 a1.p.b, .int .i64 a1.p.e, .int .i64 a1.p.u, .int .i64 a1.b, .int .i64 a1.x, .int .i64 a1.y] 67) = W0 at *
    refine (F _).mono ?_
    rintro r u1 ⟨rfl, b1⟩
    have A1 := A0.on b1
    have Q1 := Q0.on b1
    have B1 := btr b0 b1
    have q0 := Q1.cell 0 _ rfl
    have q1 := Q1.cell 1 _ rfl
    have q2 := Q1.cell 2 _ rfl
    have q3 := Q1.cell 3 _ rfl
    have q4 := Q1.cell 4 _ rfl
    have q5 := Q1.cell 5 _ rfl
    have q6 := Q1.cell 6 _ rfl
    have q7 := Q1.cell 7 _ rfl
    clear b1 b0 A0 Q0 F
    go_wp2_with fail
    refine (G _).mono ?_
    rintro r u2 ⟨rfl, b2⟩
    have hb := btr B1 b2
    go_wp2_with fail
    go_ret
    exact ⟨rfl, hb⟩
  simp only [if_neg hbig2] at G
  have hs1 : ¬ (1048576 : Int) - a0.n.size - a1.p.n.size < 0 := by omega
  have P := fun w => toPin_any a0 w
  have S := fun w => toRoll_any a1 w
  have C1 := fun w => specCheckRoll_any a0 a1 a2 w w0 w1
  have C2 := fun w l e => implCheckRoll_any a0 a1 a2 w l e w0 w1
  generalize checkF a0 a1 a2 = cd at *
  go_enter Tryz.func6, Tryz.ntmps6
  go_wp2_with fail
  generalize (w.alloc (.cells #[.string a0.n, .int .i64 a0.a, .int .i64 a0.b, .int .i64 a0.e, .int .i64 a0.u] 60)).alloc (.cells #[.string a1.p.n, .int .i64 a1.p.a, .int .i64 a1.p.b, .int .i64 a1.p.e, .int .i64 a1.p.u, .int .i64 a1.b, .int .i64 a1.x, .int .i64 a1.y] 67) = W0 at *
  refine (F _).mono ?_
  rintro r u1 ⟨rfl, b1⟩
  have A1 := A0.on b1
  have Q1 := Q0.on b1
  have B1 := btr b0 b1
  have q0 := Q1.cell 0 _ rfl
  have q1 := Q1.cell 1 _ rfl
  have q2 := Q1.cell 2 _ rfl
  have q3 := Q1.cell 3 _ rfl
  have q4 := Q1.cell 4 _ rfl
  have q5 := Q1.cell 5 _ rfl
  have q6 := Q1.cell 6 _ rfl
  have q7 := Q1.cell 7 _ rfl
  clear b1 b0 A0 Q0 F
  go_wp2_with fail
  refine (G _).mono ?_
  rintro r u2 ⟨rfl, b2⟩
  have A2 := A1.on b2
  have Q2 := Q1.on b2
  have B2 := btr B1 b2
  clear A1 Q1 B1 b2 q0 q1 q2 q3 q4 q5 q6 q7 G
  have p0 := A2.cell 0 _ rfl
  have p1 := A2.cell 1 _ rfl
  have p2 := A2.cell 2 _ rfl
  have p3 := A2.cell 3 _ rfl
  have p4 := A2.cell 4 _ rfl
  have q0 := Q2.cell 0 _ rfl
  have q1 := Q2.cell 1 _ rfl
  have q2 := Q2.cell 2 _ rfl
  have q3 := Q2.cell 3 _ rfl
  have q4 := Q2.cell 4 _ rfl
  have q5 := Q2.cell 5 _ rfl
  have q6 := Q2.cell 6 _ rfl
  have q7 := Q2.cell 7 _ rfl
  go_wp2_with fail
  refine wp_region_line (Bel u2) [(0, true), (2, true), (4, true), (1, false), (3, false), (5, false), (6, true)] (by kernel_rfl) (by kernel_rfl) (fun _ _ d _ _ h => by cases d <;> exact h) (Bel.drew u2) ?_
  have hst := Bel.drew u2
  have inst : Nonempty (Of (Bel u2)) := ⟨⟨_, hst⟩⟩
  have x0 := bel_cell p0
  have x1 := bel_cell p1
  have x2 := bel_cell p2
  have x3 := bel_cell p3
  have x4 := bel_cell p4
  have y0 := bel_cell q0
  have y1 := bel_cell q1
  have y2 := bel_cell q2
  have y3 := bel_cell q3
  have y4 := bel_cell q4
  have y5 := bel_cell q5
  have y6 := bel_cell q6
  have y7 := bel_cell q7
  generalize u2.drew = V2 at *
  iterate 3 (refine line_read rfl (by kernel_rfl) (fun K hK => ?_); go_big_quiet_op; refine hK _ ?_; clear hK K)
  refine line_alone rfl (by kernel_rfl) (fun K hK => ?_)
  refine call_wp (args := #[P5 a0]) rfl (by kernel_rfl) (by kernel_rfl) (P _) (fun wn hbn => ?_)
  have hst2 := hst.on hbn
  refine hK _ _ hst2 ?_
  clear hK K hst hbn
  have hst := hst2
  clear hst2
  simp only [Act.put, List.setIfInBounds_toArray, List.set_cons_zero, List.set_cons_succ]
  refine line_alone rfl (by kernel_rfl) (fun K hK => ?_)
  refine call_wp (args := #[R8 a1]) rfl (by kernel_rfl) (by kernel_rfl) (S _) (fun wn hbn => ?_)
  have hst2 := hst.on hbn
  refine hK _ _ hst2 ?_
  clear hK K hst hbn
  have hst := hst2
  clear hst2
  simp only [Act.put, List.setIfInBounds_toArray, List.set_cons_zero, List.set_cons_succ]
  refine line_alone rfl (by kernel_rfl) (fun K hK => ?_)
  refine call_wp (args := #[P5 a0, R8 a1, .int .i64 a2]) rfl (by kernel_rfl) (by kernel_rfl) (C1 _) (fun wn hbn => ?_)
  have hst2 := hst.on hbn
  refine hK _ _ hst2 ?_
  clear hK K hst hbn
  have hst := hst2
  clear hst2
  simp only [Act.put, List.setIfInBounds_toArray, List.set_cons_zero, List.set_cons_succ]
  iterate 1 (refine line_read rfl (by kernel_rfl) (fun K hK => ?_); go_big_quiet_op; refine hK _ ?_; clear hK K)
  refine line_nil ?_
  have B3 := btr B2 hst.out
  have A3 := A2.on hst.out
  have Q3 := Q2.on hst.out
  clear hst inst x0 x1 x2 x3 x4 y0 y1 y2 y3 y4 y5 y6 y7 p0 p1 p2 p3 p4 q0 q1 q2 q3 q4 q5 q6 q7 A2 Q2 B2
  have lab3 := lab.on B3
  have ert3 := ert.on B3
  have p0 := A3.cell 0 _ rfl
  have p1 := A3.cell 1 _ rfl
  have p2 := A3.cell 2 _ rfl
  have p3 := A3.cell 3 _ rfl
  have p4 := A3.cell 4 _ rfl
  have q0 := Q3.cell 0 _ rfl
  have q1 := Q3.cell 1 _ rfl
  have q2 := Q3.cell 2 _ rfl
  have q3 := Q3.cell 3 _ rfl
  have q4 := Q3.cell 4 _ rfl
  have q5 := Q3.cell 5 _ rfl
  have q6 := Q3.cell 6 _ rfl
  have q7 := Q3.cell 7 _ rfl
  go_wp2_with fail
  refine wp_region_line (Bel wn) [(0, true), (2, true), (4, true), (1, false), (3, false), (5, false), (6, true)] (by kernel_rfl) (by kernel_rfl) (fun _ _ d _ _ h => by cases d <;> exact h) (Bel.drew wn) ?_
  have hst := Bel.drew wn
  have inst : Nonempty (Of (Bel wn)) := ⟨⟨_, hst⟩⟩
  have x0 := bel_cell p0
  have x1 := bel_cell p1
  have x2 := bel_cell p2
  have x3 := bel_cell p3
  have x4 := bel_cell p4
  have y0 := bel_cell q0
  have y1 := bel_cell q1
  have y2 := bel_cell q2
  have y3 := bel_cell q3
  have y4 := bel_cell q4
  have y5 := bel_cell q5
  have y6 := bel_cell q6
  have y7 := bel_cell q7
  generalize wn.drew = V3 at *
  iterate 3 (refine line_read rfl (by kernel_rfl) (fun K hK => ?_); go_big_quiet_op; refine hK _ ?_; clear hK K)
  refine line_alone rfl (by kernel_rfl) (fun K hK => ?_)
  refine call_wp (args := #[P5 a0]) rfl (by kernel_rfl) (by kernel_rfl) (P _) (fun wn hbn => ?_)
  have hst2 := hst.on hbn
  refine hK _ _ hst2 ?_
  clear hK K hst hbn
  have hst := hst2
  clear hst2
  simp only [Act.put, List.setIfInBounds_toArray, List.set_cons_zero, List.set_cons_succ]
  refine line_alone rfl (by kernel_rfl) (fun K hK => ?_)
  refine call_wp (args := #[R8 a1]) rfl (by kernel_rfl) (by kernel_rfl) (S _) (fun wn hbn => ?_)
  have hst2 := hst.on hbn
  refine hK _ _ hst2 ?_
  clear hK K hst hbn
  have hst := hst2
  clear hst2
  simp only [Act.put, List.setIfInBounds_toArray, List.set_cons_zero, List.set_cons_succ]
  refine line_alone rfl (by kernel_rfl) (fun K hK => ?_)
  refine call_wp (args := #[P5 a0, R8 a1, .int .i64 a2]) rfl (by kernel_rfl) (by kernel_rfl) (C2 _ (lab3.on hst.out) (ert3.on hst.out)) (fun wn hbn => ?_)
  have hst2 := hst.on hbn
  refine hK _ _ hst2 ?_
  clear hK K hst hbn
  have hst := hst2
  clear hst2
  simp only [Act.put, List.setIfInBounds_toArray, List.set_cons_zero, List.set_cons_succ]
  iterate 1 (refine line_read rfl (by kernel_rfl) (fun K hK => ?_); go_big_quiet_op; refine hK _ ?_; clear hK K)
  refine line_nil ?_
  have B4 := btr B3 hst.out
  have A4 := A3.on hst.out
  have Q4 := Q3.on hst.out
  clear hst inst x0 x1 x2 x3 x4 y0 y1 y2 y3 y4 y5 y6 y7 p0 p1 p2 p3 p4 q0 q1 q2 q3 q4 q5 q6 q7 A3 Q3 B3
  go_wp2_with fail
  go_ret
  exact ⟨rfl, B4⟩

end Go.Proofs.YtmdknbgpddnplaaGreatDoor.fnExactCheckRoll
