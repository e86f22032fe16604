/- The function SameRecords answers, at every pair of arguments, as its model does, and leaves its arguments as they were. The walk: the law's Go text answers true and turns nothing that was there. Conditions: as the theorem states. -/
import Derived.Test.YtolikdpghnokeaaC4b
import Derived.Test.YtolikdpghnokeaaOpen4
import Derived.WalkKit
import Derived.Below
namespace Go.Proofs.Ytolikdpghnokeaa.fnExactSameRecords
open Go.RowKit
set_option linter.unusedVariables false

set_option maxRecDepth 100000 in
set_option maxHeartbeats 1000000 in
theorem walk (a0s a0k : Int) (a0 : Option Addr) (len0 cap0 : Nat) (z0 : List Int) (a0t : Int) (a1s a1k : Int) (a1 : Option Addr) (len1 cap1 : Nat) (z1 : List Int) (a1t : Int) (w : World) (w0s : (Lit.int .i64 a0s).wf = true) (w0k : (Lit.int .i64 a0k).wf = true) (w0t : (Lit.int .i64 a0t).wf = true) (w0 : Row .u8 w w.heap.size a0 len0 cap0 z0) (w1s : (Lit.int .i64 a1s).wf = true) (w1k : (Lit.int .i64 a1k).wf = true) (w1t : (Lit.int .i64 a1t).wf = true) (w1 : Row .u8 w w.heap.size a1 len1 cap1 z1) :
    Calls Try.prog 6 #[.agg #[.int .i64 a0s, .int .i64 a0k, .slice a0 len0 cap0, .int .i64 a0t], .agg #[.int .i64 a1s, .int .i64 a1k, .slice a1 len1 cap1, .int .i64 a1t]] w fun e w' => e = .returned (.bool true) ∧ Below w.heap.size w w' := by
  have hl := w0.fits
  have hm := w0.most
  have hmx : len0 ≤ maxLen := Nat.le_trans hl hm
  unfold maxLen at hm
  have hl1 := w1.fits
  have hm1 := w1.most
  have hmx1 : len1 ≤ maxLen := Nat.le_trans hl1 hm1
  unfold maxLen at hm1
  have b0 := bal (bal (Below.refl _ w) (.cells #[.int .i64 a0s, .int .i64 a0k, .slice a0 len0 cap0, .int .i64 a0t] 24)) (.cells #[.int .i64 a1s, .int .i64 a1k, .slice a1 len1 cap1, .int .i64 a1t] 24)
  have A0 := (At.new w (L4 a0s a0k a0 len0 cap0 a0t) 24).alloc (.cells #[.int .i64 a1s, .int .i64 a1k, .slice a1 len1 cap1, .int .i64 a1t] 24)
  have C0 := At.new (w.alloc (.cells #[.int .i64 a0s, .int .i64 a0k, .slice a0 len0 cap0, .int .i64 a0t] 24)) (L4 a1s a1k a1 len1 cap1 a1t) 24
  simp only [World.size_alloc] at A0 C0
  have F := fun w => szRecord_any a0s a0k a0 len0 cap0 a0t 1048576 w hmx (by omega) (by omega)
  by_cases hbig : (1048576 : Int) < len0
  · simp only [if_pos hbig] at F
    go_enter Try.func6, Try.ntmps6
    go_wp2_with fail
    refine (F _).mono ?_
    rintro r u1 ⟨rfl, b1⟩
    have hb := btr b0 b1
    go_wp2_with fail
    go_ret
    exact ⟨rfl, hb⟩
  simp only [if_neg hbig] at F
  have hs0 : ¬ (1048576 : Int) - len0 < 0 := by omega
  have hl2 : len0 ≤ 1048576 := by omega
  have G := fun w => szRecord_any a1s a1k a1 len1 cap1 a1t (1048576 - len0) w hmx1 (by omega) (by omega)
  by_cases hbig1 : (1048576 : Int) - len0 < len1
  · simp only [if_pos hbig1] at G
    go_enter Try.func6, Try.ntmps6
    go_wp2_with fail
    generalize (w.alloc (.cells #[.int .i64 a0s, .int .i64 a0k, .slice a0 len0 cap0, .int .i64 a0t] 24)).alloc (.cells #[.int .i64 a1s, .int .i64 a1k, .slice a1 len1 cap1, .int .i64 a1t] 24) = W0 at *
    refine (F _).mono ?_
    rintro r u1 ⟨rfl, b1⟩
    have p0 := (C0.on b1).cell 0 _ rfl
    have p1 := (C0.on b1).cell 1 _ rfl
    have p2 := (C0.on b1).cell 2 _ rfl
    have p3 := (C0.on b1).cell 3 _ rfl
    go_wp2_with fail
    refine (G _).mono ?_
    rintro r u2 ⟨rfl, b2⟩
    have hb := btr (btr b0 b1) b2
    go_wp2_with fail
    go_ret
    exact ⟨rfl, hb⟩
  simp only [if_neg hbig1] at G
  have hs1 : ¬ (1048576 : Int) - len0 - len1 < 0 := by omega
  have hl3 : len1 ≤ 1048576 := by omega
  have S1 := fun a c a' c' B w hR hQ hB => specSameRecords_any a0s a0k a len0 c a0t a1s a1k a' len1 c' a1t B z0 z1 w hR hQ hB
  have S2 := fun a c a' c' B w hR hQ hB => implSameRecords_any a0s a0k a len0 c a0t a1s a1k a' len1 c' a1t B z0 z1 w hR hQ hB
  generalize M.sameR a0s a0k z0 a0t a1s a1k z1 a1t = cd at *
  go_enter Try.func6, Try.ntmps6
  go_wp2_with fail
  generalize (w.alloc (.cells #[.int .i64 a0s, .int .i64 a0k, .slice a0 len0 cap0, .int .i64 a0t] 24)).alloc (.cells #[.int .i64 a1s, .int .i64 a1k, .slice a1 len1 cap1, .int .i64 a1t] 24) = W0 at *
  refine (F _).mono ?_
  rintro r u1 ⟨rfl, b1⟩
  have C1 := C0.on b1
  have A1 := A0.on b1
  have B1 := btr b0 b1
  have p0 := C1.cell 0 _ rfl
  have p1 := C1.cell 1 _ rfl
  have p2 := C1.cell 2 _ rfl
  have p3 := C1.cell 3 _ rfl
  clear b1 b0 A0 C0
  go_wp2_with fail
  refine (G _).mono ?_
  rintro r u2 ⟨rfl, b2⟩
  have C2 := C1.on b2
  have A2 := A1.on b2
  have B2 := btr B1 b2
  clear b2 B1 A1 C1 p0 p1 p2 p3 F G
  go_wp2_with fail
  have p0 := A2.cell 0 _ rfl
  have p1 := A2.cell 1 _ rfl
  have p2 := A2.cell 2 _ rfl
  have p3 := A2.cell 3 _ rfl
  have x0 := C2.cell 0 _ rfl
  have x1 := C2.cell 1 _ rfl
  have x2 := C2.cell 2 _ rfl
  have x3 := C2.cell 3 _ rfl
  refine wp_region_line (Bel u2) [(0, true), (2, true), (1, false), (3, false), (4, false), (5, true)] (by kernel_rfl) (by kernel_rfl) (fun _ _ d _ _ h => by cases d <;> exact h) (Bel.drew u2) ?_
  have hst := Bel.drew u2
  have inst : Nonempty (Of (Bel u2)) := ⟨⟨_, hst⟩⟩
  have k0 := bel_cell p0
  have k1 := bel_cell p1
  have k2 := bel_cell p2
  have k3 := bel_cell p3
  have m0 := bel_cell x0
  have m1 := bel_cell x1
  have m2 := bel_cell x2
  have m3 := bel_cell x3
  iterate 2 (refine line_read rfl (by kernel_rfl) (fun K hK => ?_); go_big_quiet_op; refine hK _ ?_; clear hK K)
  refine line_alone rfl (by kernel_rfl) (fun K hK => ?_)
  refine call_any (args := #[.agg #[.int .i64 a0s, .int .i64 a0k, .slice a0 len0 cap0, .int .i64 a0t]]) rfl (by kernel_rfl) (by kernel_rfl) (toRecord_any a0s a0k a0 len0 cap0 a0t _ _ _ ((w0.on B2).on hst.out) (Nat.le_refl _) hl2) ?_
  rintro e u3 ⟨a3, c3, rfl, O3, b3⟩
  have hst2 := hst.on b3
  refine ⟨_, rfl, hK _ _ hst2 ?_⟩
  have R3 := Own.row O3 w0.wf
  clear hK K hst O3 b3
  simp only [Act.put, List.setIfInBounds_toArray, List.set_cons_zero, List.set_cons_succ]
  refine line_alone rfl (by kernel_rfl) (fun K hK => ?_)
  refine call_any (args := #[.agg #[.int .i64 a1s, .int .i64 a1k, .slice a1 len1 cap1, .int .i64 a1t]]) rfl (by kernel_rfl) (by kernel_rfl) (toRecord_any a1s a1k a1 len1 cap1 a1t _ _ _ ((w1.on B2).on hst2.out) (Nat.le_refl _) hl3) ?_
  rintro e u4 ⟨a4, c4, rfl, O4, b4⟩
  have hst := hst2.on b4
  refine ⟨_, rfl, hK _ _ hst ?_⟩
  have R4 := R3.on b4
  have Q4 := Own.row O4 w1.wf
  clear hK K hst2 O4 b4 R3
  simp only [Act.put, List.setIfInBounds_toArray, List.set_cons_zero, List.set_cons_succ]
  refine line_alone rfl (by kernel_rfl) (fun K hK => ?_)
  refine call_any (args := #[.agg #[.int .i64 a0s, .int .i64 a0k, .slice a3 len0 c3, .int .i64 a0t], .agg #[.int .i64 a1s, .int .i64 a1k, .slice a4 len1 c4, .int .i64 a1t]]) rfl (by kernel_rfl) (by kernel_rfl) (S1 _ _ _ _ _ _ R4 Q4 (Nat.le_refl _)) ?_
  rintro e u5 ⟨rfl, b5⟩
  have hst2 := hst.on b5
  refine ⟨_, rfl, hK _ _ hst2 ?_⟩
  clear hK K hst R4 Q4 b5
  simp only [Act.put, List.setIfInBounds_toArray, List.set_cons_zero, List.set_cons_succ]
  iterate 1 (refine line_read rfl (by kernel_rfl) (fun K hK => ?_); go_big_quiet_op; refine hK _ ?_; clear hK K)
  refine line_nil ?_
  have B5 := btr B2 hst2.out
  have A5 := A2.on hst2.out
  have C5 := C2.on hst2.out
  clear hst2 A2 C2 B2 inst k0 k1 k2 k3 m0 m1 m2 m3 p0 p1 p2 p3 x0 x1 x2 x3
  have p0 := A5.cell 0 _ rfl
  have p1 := A5.cell 1 _ rfl
  have p2 := A5.cell 2 _ rfl
  have p3 := A5.cell 3 _ rfl
  go_wp2_with fail
  refine (toRecord_any a0s a0k a0 len0 cap0 a0t _ _ _ (w0.on B5) (Nat.le_refl _) hl2).mono ?_
  rintro r u6 ⟨a6, c6, rfl, O6, b6⟩
  have b6a := bal b6 (.cells #[.int .i64 a0s, .int .i64 a0k, .slice a6 len0 c6, .int .i64 a0t] 27)
  have B6 := btr B5 b6a
  have A6 := A5.on b6a
  have C6 := C5.on b6a
  have X6 := At.new u6 (L4 a0s a0k a6 len0 c6 a0t) 27
  have O6a := O6.alloc (.cells #[.int .i64 a0s, .int .i64 a0k, .slice a6 len0 c6, .int .i64 a0t] 27)
  have y0 := (C5.on b6).cell 0 _ rfl
  have y1 := (C5.on b6).cell 1 _ rfl
  have y2 := (C5.on b6).cell 2 _ rfl
  have y3 := (C5.on b6).cell 3 _ rfl
  have lt6 : w.heap.size + 1 < u6.heap.size := (C5.on b6).lt (by simp)
  clear O6 b6 b6a B5 A5 C5 p0 p1 p2 p3
  go_wp2_with fail
  generalize u6.alloc (.cells #[.int .i64 a0s, .int .i64 a0k, .slice a6 len0 c6, .int .i64 a0t] 27) = v6 at *
  refine (toRecord_any a1s a1k a1 len1 cap1 a1t _ _ _ (w1.on B6) (Nat.le_refl _) hl3).mono ?_
  rintro r u7 ⟨a7, c7, rfl, O7, b7⟩
  have b7a := bal b7 (.cells #[.int .i64 a1s, .int .i64 a1k, .slice a7 len1 c7, .int .i64 a1t] 27)
  have B7 := btr B6 b7a
  have A7 := A6.on b7a
  have C7 := C6.on b7a
  have X7 := X6.on b7a
  have Y7 := At.new u7 (L4 a1s a1k a7 len1 c7 a1t) 27
  have R7 := (Own.row O6a w0.wf).on b7a
  have Q7 := (Own.row O7 w1.wf).on (bal (Below.refl _ u7) (.cells #[.int .i64 a1s, .int .i64 a1k, .slice a7 len1 c7, .int .i64 a1t] 27))
  have p0 := (X6.on b7).cell 0 _ rfl
  have p1 := (X6.on b7).cell 1 _ rfl
  have p2 := (X6.on b7).cell 2 _ rfl
  have p3 := (X6.on b7).cell 3 _ rfl
  have lt7 : u6.heap.size < u7.heap.size := (X6.on b7).lt (by simp)
  clear O6a O7 b7 b7a B6 A6 C6 X6 y0 y1 y2 y3
  go_wp2_with fail
  generalize u7.alloc (.cells #[.int .i64 a1s, .int .i64 a1k, .slice a7 len1 c7, .int .i64 a1t] 27) = v7 at *
  refine (S2 _ _ _ _ _ _ R7 Q7 (Nat.le_refl _)).mono ?_
  rintro r u8 ⟨rfl, b8⟩
  have B8 := btr B7 b8
  have A8 := A7.on b8
  have C8 := C7.on b8
  have X8 := X7.on b8
  have Y8 := Y7.on b8
  have R8 := R7.on b8
  have Q8 := Q7.on b8
  clear b8 B7 A7 C7 X7 Y7 R7 Q7 p0 p1 p2 p3
  have p0 := A8.cell 0 _ rfl
  have p1 := A8.cell 1 _ rfl
  have p2 := A8.cell 2 _ rfl
  have p3 := A8.cell 3 _ rfl
  have x0 := X8.cell 0 _ rfl
  have x1 := X8.cell 1 _ rfl
  have x2 := X8.cell 2 _ rfl
  have x3 := X8.cell 3 _ rfl
  go_wp2_with fail
  refine wp_region_line (Bel u8) [(0, true), (1, true), (2, false), (3, false), (4, true)] (by kernel_rfl) (by kernel_rfl) (fun _ _ d _ _ h => by cases d <;> exact h) (Bel.drew u8) ?_
  have hst := Bel.drew u8
  have inst : Nonempty (Of (Bel u8)) := ⟨⟨_, hst⟩⟩
  have k0 := bel_cell p0
  have k1 := bel_cell p1
  have k2 := bel_cell p2
  have k3 := bel_cell p3
  have m0 := bel_cell x0
  have m1 := bel_cell x1
  have m2 := bel_cell x2
  have m3 := bel_cell x3
  iterate 2 (refine line_read rfl (by kernel_rfl) (fun K hK => ?_); go_big_quiet_op; refine hK _ ?_; clear hK K)
  refine line_alone rfl (by kernel_rfl) (fun K hK => ?_)
  refine call_any (args := #[.agg #[.int .i64 a0s, .int .i64 a0k, .slice a0 len0 cap0, .int .i64 a0t]]) rfl (by kernel_rfl) (by kernel_rfl) (toRecord_any a0s a0k a0 len0 cap0 a0t _ _ _ ((w0.on B8).on hst.out) (Nat.le_refl _) hl2) ?_
  rintro e u9 ⟨a9, c9, rfl, O9, b9⟩
  have hst2 := hst.on b9
  refine ⟨_, rfl, hK _ _ hst2 ?_⟩
  have Q9 := Own.row O9 w0.wf
  have R9 := R8.on hst2.out
  clear hK K hst O9 b9
  simp only [Act.put, List.setIfInBounds_toArray, List.set_cons_zero, List.set_cons_succ]
  refine line_alone rfl (by kernel_rfl) (fun K hK => ?_)
  refine call_any (args := #[.agg #[.int .i64 a0s, .int .i64 a0k, .slice a6 len0 c6, .int .i64 a0t], .agg #[.int .i64 a0s, .int .i64 a0k, .slice a9 len0 c9, .int .i64 a0t]]) rfl (by kernel_rfl) (by kernel_rfl) (eqRecord_any _ _ _ _ _ _ _ _ _ _ _ R9 Q9 (Nat.le_refl _)) ?_
  rintro e u10 ⟨rfl, b10⟩
  have hst := hst2.on b10
  refine ⟨_, rfl, hK _ _ hst ?_⟩
  clear hK K hst2 R9 Q9 b10
  simp only [Act.put, List.setIfInBounds_toArray, List.set_cons_zero, List.set_cons_succ]
  iterate 1 (refine line_read rfl (by kernel_rfl) (fun K hK => ?_); go_big_quiet_op; refine hK _ ?_; clear hK K)
  refine line_nil ?_
  have B10 := btr B8 hst.out
  have C10 := C8.on hst.out
  have Y10 := Y8.on hst.out
  have Q10 := Q8.on hst.out
  clear hst A8 C8 X8 Y8 R8 Q8 B8 inst k0 k1 k2 k3 m0 m1 m2 m3 p0 p1 p2 p3 x0 x1 x2 x3
  have p0 := C10.cell 0 _ rfl
  have p1 := C10.cell 1 _ rfl
  have p2 := C10.cell 2 _ rfl
  have p3 := C10.cell 3 _ rfl
  have x0 := Y10.cell 0 _ rfl
  have x1 := Y10.cell 1 _ rfl
  have x2 := Y10.cell 2 _ rfl
  have x3 := Y10.cell 3 _ rfl
  go_wp2_with fail
  refine wp_region_line (Bel u10) [(0, true), (1, true), (2, false), (3, false), (4, true)] (by kernel_rfl) (by kernel_rfl) (fun _ _ d _ _ h => by cases d <;> exact h) (Bel.drew u10) ?_
  have hst := Bel.drew u10
  have inst : Nonempty (Of (Bel u10)) := ⟨⟨_, hst⟩⟩
  have k0 := bel_cell p0
  have k1 := bel_cell p1
  have k2 := bel_cell p2
  have k3 := bel_cell p3
  have m0 := bel_cell x0
  have m1 := bel_cell x1
  have m2 := bel_cell x2
  have m3 := bel_cell x3
  iterate 2 (refine line_read rfl (by kernel_rfl) (fun K hK => ?_); go_big_quiet_op; refine hK _ ?_; clear hK K)
  refine line_alone rfl (by kernel_rfl) (fun K hK => ?_)
  refine call_any (args := #[.agg #[.int .i64 a1s, .int .i64 a1k, .slice a1 len1 cap1, .int .i64 a1t]]) rfl (by kernel_rfl) (by kernel_rfl) (toRecord_any a1s a1k a1 len1 cap1 a1t _ _ _ ((w1.on B10).on hst.out) (Nat.le_refl _) hl3) ?_
  rintro e u11 ⟨a11, c11, rfl, O11, b11⟩
  have hst2 := hst.on b11
  refine ⟨_, rfl, hK _ _ hst2 ?_⟩
  have Q11 := Own.row O11 w1.wf
  have R11 := Q10.on hst2.out
  clear hK K hst O11 b11
  simp only [Act.put, List.setIfInBounds_toArray, List.set_cons_zero, List.set_cons_succ]
  refine line_alone rfl (by kernel_rfl) (fun K hK => ?_)
  refine call_any (args := #[.agg #[.int .i64 a1s, .int .i64 a1k, .slice a7 len1 c7, .int .i64 a1t], .agg #[.int .i64 a1s, .int .i64 a1k, .slice a11 len1 c11, .int .i64 a1t]]) rfl (by kernel_rfl) (by kernel_rfl) (eqRecord_any _ _ _ _ _ _ _ _ _ _ _ R11 Q11 (Nat.le_refl _)) ?_
  rintro e u12 ⟨rfl, b12⟩
  have hst := hst2.on b12
  refine ⟨_, rfl, hK _ _ hst ?_⟩
  have B12 := btr B10 hst.out
  clear hK K hst2 R11 Q11 b12
  simp only [Act.put, List.setIfInBounds_toArray, List.set_cons_zero, List.set_cons_succ]
  iterate 1 (refine line_read rfl (by kernel_rfl) (fun K hK => ?_); go_big_quiet_op; refine hK _ ?_; clear hK K)
  refine line_nil ?_
  go_wp2_with fail
  go_ret
  exact ⟨rfl, B12⟩

end Go.Proofs.Ytolikdpghnokeaa.fnExactSameRecords
