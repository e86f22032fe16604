/- The function RecordFault answers, at every argument, as its model does, and leaves its argument as it was. The walk: the law's Go text answers true and turns nothing that was there. Conditions: as the theorem states. -/
import Derived.Test.YtolikdpghnokeaaC4b
import Derived.Test.YtolikdpghnokeaaOpen4
import Derived.WalkKit
import Derived.Below
namespace Go.Proofs.Ytolikdpghnokeaa.fnExactRecordFault
open Go.RowKit
set_option linter.unusedVariables false

set_option maxRecDepth 100000 in
theorem walk (a0s a0k : Int) (a0 : Option Addr) (len0 cap0 : Nat) (z0 : List Int) (a0t : Int) (w : World) (w0s : (Lit.int .i64 a0s).wf = true) (w0k : (Lit.int .i64 a0k).wf = true) (w0t : (Lit.int .i64 a0t).wf = true) (w0 : Row .u8 w w.heap.size a0 len0 cap0 z0) :
    Calls Try.prog 3 #[.agg #[.int .i64 a0s, .int .i64 a0k, .slice a0 len0 cap0, .int .i64 a0t]] w fun e w' => e = .returned (.bool true) ∧ Below w.heap.size w w' := by
  have hl := w0.fits
  have hm := w0.most
  have hmx : len0 ≤ maxLen := Nat.le_trans hl hm
  unfold maxLen at hm
  have b0 := bal (Below.refl _ w) (.cells #[.int .i64 a0s, .int .i64 a0k, .slice a0 len0 cap0, .int .i64 a0t] 24)
  have A0 := At.new w (L4 a0s a0k a0 len0 cap0 a0t) 24
  have F := fun w => szRecord_any a0s a0k a0 len0 cap0 a0t 1048576 w hmx (by omega) (by omega)
  by_cases hbig : (1048576 : Int) < len0
  · simp only [if_pos hbig] at F
    go_enter Try.func3, Try.ntmps3
    go_wp2_with fail
    refine (F _).mono ?_
    rintro r u1 ⟨rfl, b1⟩
    have hb := btr b0 b1
    go_wp2_with fail
    go_ret
    exact ⟨rfl, hb⟩
  simp only [if_neg hbig] at F
  have hs0 : ¬ (1048576 : Int) - len0 < 0 := by omega
  have hl2 : len0 ≤ 1048576 := by omega
  have S1 := fun a c w => specRecordFault_any a0s a0k a len0 c a0t w hmx
  have S2 := fun a c w => implRecordFault_any a0s a0k a len0 c a0t w hmx
  generalize M.recF a0s a0k a0t len0 = cd at *
  go_enter Try.func3, Try.ntmps3
  go_wp2_with fail
  generalize w.alloc (.cells #[.int .i64 a0s, .int .i64 a0k, .slice a0 len0 cap0, .int .i64 a0t] 24) = W0 at *
  refine (F _).mono ?_
  rintro r u1 ⟨rfl, b1⟩
  have A1 := A0.on b1
  have B1 := btr b0 b1
  have R1 := w0.on B1
  have p0 := A1.cell 0 _ rfl
  have p1 := A1.cell 1 _ rfl
  have p2 := A1.cell 2 _ rfl
  have p3 := A1.cell 3 _ rfl
  clear b1 b0 A0
  go_wp2_with fail
  refine (toRecord_any a0s a0k a0 len0 cap0 a0t _ _ _ R1 (Nat.le_refl _) hl2).mono ?_
  rintro r u2 ⟨a2, c2, rfl, O2, b2⟩
  go_wp2_with fail
  refine (S1 a2 c2 _).mono ?_
  rintro r u3 ⟨rfl, b3⟩
  have b13 := btr b2 b3
  have A3 := A1.on b13
  have B3 := btr B1 b13
  have R3 := w0.on B3
  have q0 := A3.cell 0 _ rfl
  have q1 := A3.cell 1 _ rfl
  have q2 := A3.cell 2 _ rfl
  have q3 := A3.cell 3 _ rfl
  clear O2 b2 b3 b13 A1 B1 R1 p0 p1 p2 p3
  go_wp2_with fail
  refine (toRecord_any a0s a0k a0 len0 cap0 a0t _ _ _ R3 (Nat.le_refl _) hl2).mono ?_
  rintro r u4 ⟨a4, c4, rfl, O4, b4⟩
  have b4a := bal b4 (.cells #[.int .i64 a0s, .int .i64 a0k, .slice a4 len0 c4, .int .i64 a0t] 27)
  have A4 := A3.on b4a
  have X4 := At.new u4 (L4 a0s a0k a4 len0 c4 a0t) 27
  have O4a := O4.alloc (.cells #[.int .i64 a0s, .int .i64 a0k, .slice a4 len0 c4, .int .i64 a0t] 27)
  have B4 := btr B3 b4a
  clear O4 b4 b4a A3 B3 R3 q0 q1 q2 q3
  go_wp2_with fail
  generalize u4.alloc (.cells #[.int .i64 a0s, .int .i64 a0k, .slice a4 len0 c4, .int .i64 a0t] 27) = v4 at *
  refine (S2 a4 c4 _).mono ?_
  rintro r u5 ⟨rfl, b5⟩
  have A5 := A4.on b5
  have X5 := X4.on b5
  have R5 := (Own.row O4a w0.wf).on b5
  have B5 := btr B4 b5
  clear A4 X4 O4a B4 b5
  go_wp2_with fail
  have p0 := A5.cell 0 _ rfl
  have p1 := A5.cell 1 _ rfl
  have p2 := A5.cell 2 _ rfl
  have p3 := A5.cell 3 _ rfl
  have x0 := X5.cell 0 _ rfl
  have x1 := X5.cell 1 _ rfl
  have x2 := X5.cell 2 _ rfl
  have x3 := X5.cell 3 _ rfl
  refine wp_region_line (Bel u5) [(0, true), (1, true), (2, false), (3, false), (4, true)] (by kernel_rfl) (by kernel_rfl) (fun _ _ d _ _ h => by cases d <;> exact h) (Bel.drew u5) ?_
  have hst := Bel.drew u5
  have inst : Nonempty (Of (Bel u5)) := ⟨⟨_, hst⟩⟩
  have k0 := bel_cell p0
  have k1 := bel_cell p1
  have k2 := bel_cell p2
  have k3 := bel_cell p3
  have m0 := bel_cell x0
  have m1 := bel_cell x1
  have m2 := bel_cell x2
  have m3 := bel_cell x3
  iterate 2 (refine line_read rfl (by kernel_rfl) (fun K hK => ?_); go_big_quiet_op; refine hK _ ?_; clear hK K)
  refine line_alone rfl (by kernel_rfl) (fun K hK => ?_)
  refine call_any (args := #[.agg #[.int .i64 a0s, .int .i64 a0k, .slice a0 len0 cap0, .int .i64 a0t]]) rfl (by kernel_rfl) (by kernel_rfl) (toRecord_any a0s a0k a0 len0 cap0 a0t _ _ _ ((w0.on B5).on hst.out) (Nat.le_refl _) hl2) ?_
  rintro e u6 ⟨a6, c6, rfl, O6, b6⟩
  have hst2 := hst.on b6
  refine ⟨_, rfl, hK _ _ hst2 ?_⟩
  have Q6 := Own.row O6 w0.wf
  have R6 := R5.on hst2.out
  clear hK K hst O6 b6 R5
  simp only [Act.put, List.setIfInBounds_toArray, List.set_cons_zero, List.set_cons_succ]
  refine line_alone rfl (by kernel_rfl) (fun K hK => ?_)
  refine call_any (args := #[.agg #[.int .i64 a0s, .int .i64 a0k, .slice a4 len0 c4, .int .i64 a0t], .agg #[.int .i64 a0s, .int .i64 a0k, .slice a6 len0 c6, .int .i64 a0t]]) rfl (by kernel_rfl) (by kernel_rfl) (eqRecord_any _ _ _ _ _ _ _ _ _ _ _ R6 Q6 (Nat.le_refl _)) ?_
  rintro e u7 ⟨rfl, b7⟩
  have hst := hst2.on b7
  refine ⟨_, rfl, hK _ _ hst ?_⟩
  have B7 := btr B5 hst.out
  clear hK K hst2 R6 Q6 b7
  simp only [Act.put, List.setIfInBounds_toArray, List.set_cons_zero, List.set_cons_succ]
  iterate 1 (refine line_read rfl (by kernel_rfl) (fun K hK => ?_); go_big_quiet_op; refine hK _ ?_; clear hK K)
  refine line_nil ?_
  go_wp2_with fail
  go_ret
  exact ⟨rfl, B7⟩

end Go.Proofs.Ytolikdpghnokeaa.fnExactRecordFault
