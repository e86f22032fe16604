/- Texts of this seat that several laws rest on, laid into one. Conditions: as each theorem states. -/
import Derived.Test.YtepailfhagaboaaDoorPk0
import Derived.Test.YtepailfhagaboaaDoorPk1
namespace Go.Proofs.YtepailfhagaboaaDoor
open Go.RowKit
set_option maxRecDepth 100000
set_option linter.unusedVariables false

set_option maxHeartbeats 1000000 in
theorem l6ReadReply_any (a : Option Addr) (len cap B : Nat) (zs : List Int) (w : World) (hR : Row .u8 w B a len cap zs) (hB : B ≤ w.heap.size) :
    Calls Tryd.prog 47 #[.slice a len cap] w (RepRead zs w) := by
  have hlen := hR.fits
  have hmost := hR.most
  have hzl := hR.length
  have hm2 := hmost
  unfold maxLen at hm2
  have b0 := bal (Below.refl _ w) (.cells #[.int .i64 0, .int .i64 0, .int .i64 0, .int .i64 0, .int .i64 0, .int .i64 0] 49)
  have A0 := At.new w (RL6 0 0 0 0 0 0) 49
  by_cases h13 : len = 13
  · subst h13
    obtain ⟨b, off, rfl, hb, hc⟩ := hR.cells (by omega)
    have d0 := cell_keep b0 (hc 0 (by omega))
    rw [Nat.add_zero] at d0
    by_cases hz1 : zs.getD 0 0 = 2
    · have R1 := (hR.below (b0.mono hB)).sub 7 4 (cap - 7) (by omega) (by omega) (by omega)
      have hWB : B ≤ (w.alloc (.cells #[.int .i64 0, .int .i64 0, .int .i64 0, .int .i64 0, .int .i64 0, .int .i64 0] 49)).heap.size := by simp; omega
      have L1 := fun w' R => l3Read_any (some ⟨b, off + 7, none⟩) 4 (cap - 7) B (sigZ zs) w' R
      rw [if_pos (sigZ_P hzl).2.2, (sigZ_P hzl).1, (sigZ_P hzl).2.1, sigZ_B hzl] at L1
      have T1 := fun (w' : World) d c => l1At_any b off 13 cap 1 (zs.getD 1 0) (zs.getD 2 0) w' (by omega) (by omega) hlen hmost d c (hR.byte 1).1 (hR.byte 1).2 (hR.byte 2).1 (hR.byte 2).2
      have e1 : tw zs 1 = 256 * zs.getD 1 0 + zs.getD 2 0 := rfl
      rw [← e1] at T1
      clear e1
      have T2 := fun (w' : World) d c => l1At_any b off 13 cap 3 (zs.getD 3 0) (zs.getD 4 0) w' (by omega) (by omega) hlen hmost d c (hR.byte 3).1 (hR.byte 3).2 (hR.byte 4).1 (hR.byte 4).2
      have e3 : tw zs 3 = 256 * zs.getD 3 0 + zs.getD 4 0 := rfl
      rw [← e3] at T2
      clear e3
      have T3 := fun (w' : World) d c => l1At_any b off 13 cap 5 (zs.getD 5 0) (zs.getD 6 0) w' (by omega) (by omega) hlen hmost d c (hR.byte 5).1 (hR.byte 5).2 (hR.byte 6).1 (hR.byte 6).2
      have e5 : tw zs 5 = 256 * zs.getD 5 0 + zs.getD 6 0 := rfl
      rw [← e5] at T3
      clear e5
      have T4 := fun (w' : World) d c => l1At_any b off 13 cap 11 (zs.getD 11 0) (zs.getD 12 0) w' (by omega) (by omega) hlen hmost d c (hR.byte 11).1 (hR.byte 11).2 (hR.byte 12).1 (hR.byte 12).2
      have e11 : tw zs 11 = 256 * zs.getD 11 0 + zs.getD 12 0 := rfl
      rw [← e11] at T4
      clear e11
      have d1 := cell_keep b0 (hc 1 (by omega))
      have d2 := cell_keep b0 (hc 2 (by omega))
      have d3 := cell_keep b0 (hc 3 (by omega))
      have d4 := cell_keep b0 (hc 4 (by omega))
      have d5 := cell_keep b0 (hc 5 (by omega))
      have d6 := cell_keep b0 (hc 6 (by omega))
      have d11 := cell_keep b0 (hc 11 (by omega))
      have d12 := cell_keep b0 (hc 12 (by omega))
      have hF := fun g w A => l6Reply_any g (tw zs 1) (tw zs 3) (tw zs 5) (tw zs 7) (tw zs 9) (tw zs 11) w A
      have hOk : repOk zs = (repF (tw zs 1) (tw zs 3) (tw zs 5) (tw zs 7) (tw zs 9) (tw zs 11) == 0) := by
        unfold repOk repB
        rw [hz1, decide_eq_true hzl]
        simp
        rw [Bool.eq_iff_iff]
        simp
      have hNo : M.sigB (tw zs 7) (tw zs 9) = false → repOk zs = false := fun h => by
        rw [hOk, beq_eq_false_iff_ne]
        intro h0
        rw [(repF_zero h0).2.2.2.2] at h
        cases h
      have HP : ∀ w' : World, Below w.heap.size w w' → RepRead zs w (.returned (.tuple #[R6 (tw zs 1) (tw zs 3) (tw zs 5) (tw zs 7) (tw zs 9) (tw zs 11), .bool (repF (tw zs 1) (tw zs 3) (tw zs 5) (tw zs 7) (tw zs 9) (tw zs 11) == 0)])) w' := fun w' hb => ⟨_, _, _, _, _, _, by rw [hOk], (fun _ => ⟨rfl, rfl, rfl, rfl, rfl, rfl⟩), hb⟩
      have HN : M.sigB (tw zs 7) (tw zs 9) = false → ∀ w' : World, Below w.heap.size w w' → RepRead zs w (.returned (.tuple #[R6 (tw zs 1) (tw zs 3) (tw zs 5) (tw zs 7) (tw zs 9) (tw zs 11), .bool false])) w' := fun h w' hb => ⟨_, _, _, _, _, _, by rw [hNo h], (fun _ => ⟨rfl, rfl, rfl, rfl, rfl, rfl⟩), hb⟩
      rw [hz1] at d0
      clear hOk hNo
      generalize HQ : RepRead zs w = Q at *
      clear HQ
      generalize repF (tw zs 1) (tw zs 3) (tw zs 5) (tw zs 7) (tw zs 9) (tw zs 11) = cd at *
      generalize tw zs 1 = y1 at *
      generalize tw zs 3 = y3 at *
      generalize tw zs 5 = y5 at *
      generalize tw zs 7 = y7 at *
      generalize tw zs 9 = y9 at *
      generalize tw zs 11 = y11 at *
      clear hR hc hmost
      cases hsg : M.sigB y7 y9
      · rw [hsg] at L1
        go_enter Tryd.func47, Tryd.ntmps47
        go_wp2_with fail
        generalize w.alloc (.cells #[.int .i64 0, .int .i64 0, .int .i64 0, .int .i64 0, .int .i64 0, .int .i64 0] 49) = W0 at *
        refine (L1 _ R1 hWB).mono ?_
        rintro e u1 ⟨rfl, b1⟩
        have G1 := At.new u1 [.int .i64 y7, .int .i64 y9] 47
        have b2 := bal b1 (.cells #[.int .i64 y7, .int .i64 y9] 47)
        have b3 := btr b0 b2
        have A1 := A0.on b2
        have lt0 : w.heap.size < u1.heap.size := (A0.on b1).lt (by simp)
        have c1 := cell_keep b2 d1
        have c2 := cell_keep b2 d2
        have c3 := cell_keep b2 d3
        have c4 := cell_keep b2 d4
        have c5 := cell_keep b2 d5
        have c6 := cell_keep b2 d6
        have c11 := cell_keep b2 d11
        have c12 := cell_keep b2 d12
        clear R1 L1 b1 b0 A0 d0
        go_upto_region 4 with fail
        generalize u1.alloc (.cells #[.int .i64 y7, .int .i64 y9] 47) = W1 at *
        go_cut [6] from 23 to 33 (fun v' wx => CellsAt W1 [.int .i64 y1, .int .i64 y3, .int .i64 y5, .int .i64 y7, .int .i64 y9, .int .i64 y11] v' wx)
        case first =>
          refine wp_region_fork (Bel W1) (by kernel_rfl) (Bel.drew W1) ?_
          have hst : (Bel W1) _ := (Bel.drew W1)
          have inst : Nonempty (Of (Bel W1)) := ⟨⟨_, hst⟩⟩
          have q0 := bel_cell (G1.cell 0 _ rfl)
          have q1 := bel_cell (G1.cell 1 _ rfl)
          generalize W1.drew = V1 at *
          refine any_seg 7 [(0, true), (2, true), (4, true), (6, true), (7, true)] (by kernel_rfl) (fun _ _ d _ _ h => by cases d <;> exact h) ?_
          iterate 5 (refine line_read rfl (by kernel_rfl) (fun K hK => ?_); go_big_quiet_op; refine hK _ ?_; clear hK K)
          refine line_nil ?_
          clear q0 q1
          refine any_fork 1 10 (by kernel_rfl) rfl rfl (by kernel_rfl) (by kernel_rfl) (fun K hK => ?_) (fun K hK => ?_)
          · refine call_any (args := #[.slice (some ⟨b, off, none⟩) 13 cap, .int .i64 1]) rfl (by kernel_rfl) (by kernel_rfl) (T1 _ (cell_keep hst.out c1) (cell_keep hst.out c2)) ?_
            rintro e x0 ⟨rfl, hbn⟩
            have hst2 := hst.on hbn
            refine ⟨_, rfl, hK _ _ hst2 ?_⟩
            clear hK K hst hbn
            have hst := hst2
            clear hst2
            simp only [Act.put, List.setIfInBounds_toArray, List.set_cons_zero, List.set_cons_succ]
            refine any_fork 3 10 (by kernel_rfl) rfl rfl (by kernel_rfl) (by kernel_rfl) (fun K hK => ?_) (fun K hK => ?_)
            · refine call_any (args := #[.slice (some ⟨b, off, none⟩) 13 cap, .int .i64 3]) rfl (by kernel_rfl) (by kernel_rfl) (T2 _ (cell_keep hst.out c3) (cell_keep hst.out c4)) ?_
              rintro e x1 ⟨rfl, hbn⟩
              have hst2 := hst.on hbn
              refine ⟨_, rfl, hK _ _ hst2 ?_⟩
              clear hK K hst hbn
              have hst := hst2
              clear hst2
              simp only [Act.put, List.setIfInBounds_toArray, List.set_cons_zero, List.set_cons_succ]
              refine any_fork 5 10 (by kernel_rfl) rfl rfl (by kernel_rfl) (by kernel_rfl) (fun K hK => ?_) (fun K hK => ?_)
              · refine call_any (args := #[.slice (some ⟨b, off, none⟩) 13 cap, .int .i64 5]) rfl (by kernel_rfl) (by kernel_rfl) (T3 _ (cell_keep hst.out c5) (cell_keep hst.out c6)) ?_
                rintro e x2 ⟨rfl, hbn⟩
                have hst2 := hst.on hbn
                refine ⟨_, rfl, hK _ _ hst2 ?_⟩
                clear hK K hst hbn
                have hst := hst2
                clear hst2
                simp only [Act.put, List.setIfInBounds_toArray, List.set_cons_zero, List.set_cons_succ]
                refine any_fork 8 10 (by kernel_rfl) rfl rfl (by kernel_rfl) (by kernel_rfl) (fun K hK => ?_) (fun K hK => ?_)
                · refine call_any (args := #[.slice (some ⟨b, off, none⟩) 13 cap, .int .i64 11]) rfl (by kernel_rfl) (by kernel_rfl) (T4 _ (cell_keep hst.out c11) (cell_keep hst.out c12)) ?_
                  rintro e x3 ⟨rfl, hbn⟩
                  have hst2 := hst.on hbn
                  refine ⟨_, rfl, hK _ _ hst2 ?_⟩
                  clear hK K hst hbn
                  have hst := hst2
                  clear hst2
                  simp only [Act.put, List.setIfInBounds_toArray, List.set_cons_zero, List.set_cons_succ]
                  refine any_rest [(9, true), (10, false), (11, false)] (by kernel_rfl) (fun _ _ d _ _ h => by cases d <;> exact h) ?_
                  refine line_readv (v := R6 y1 y3 y5 y7 y9 y11) rfl (by kernel_rfl) (fun _ => by kernel_rfl) ?_
                  simp only [Act.put, List.setIfInBounds_toArray, List.set_cons_zero, List.set_cons_succ]
                  refine line_alone rfl (by kernel_rfl) (fun K hK => ?_)
                  go_big_op
                  have hst2 := hst.on (bal (Below.refl _ x3) (.cells #[.int .i64 0, .int .i64 0, .int .i64 0, .int .i64 0, .int .i64 0, .int .i64 0] 49))
                  have A := At.new x3 [.int .i64 0, .int .i64 0, .int .i64 0, .int .i64 0, .int .i64 0, .int .i64 0] 49
                  have leA : W1.heap.size ≤ x3.heap.size := hst.out.size
                  refine hK _ _ hst2 ?_
                  clear hK K hst
                  have hst := hst2
                  clear hst2
                  generalize x3.alloc (.cells #[.int .i64 0, .int .i64 0, .int .i64 0, .int .i64 0, .int .i64 0, .int .i64 0] 49) = xa at *
                  have p0 := A.cell 0 _ rfl
                  have p1 := A.cell 1 _ rfl
                  have p2 := A.cell 2 _ rfl
                  have p3 := A.cell 3 _ rfl
                  have p4 := A.cell 4 _ rfl
                  have p5 := A.cell 5 _ rfl
                  have f0 := A.free 0 _ rfl
                  have f1 := A.free 1 _ rfl
                  have f2 := A.free 2 _ rfl
                  have f3 := A.free 3 _ rfl
                  have f4 := A.free 4 _ rfl
                  have f5 := A.free 5 _ rfl
                  refine line_alone rfl (by kernel_rfl) (fun K hK => ?_)
                  go_big_op
                  refine hK _ _ (⟨(by (iterate 6 (refine bset ?_ (by dsimp only; omega) _)); exact hst.out)⟩) ?_
                  clear hK K
                  have A9 := ((((((A.set 0 (.int .i64 y1)).set 1 (.int .i64 y3)).set 2 (.int .i64 y5)).set 3 (.int .i64 y7)).set 4 (.int .i64 y9)).set 5 (.int .i64 y11))
                  refine line_nil ?_
                  go_wp2_with fail
                  go_meet
                  case rel => exact ⟨_, rfl, A9, (by (iterate 6 (refine bset ?_ (by dsimp only; omega) _)); exact hst.out), leA⟩
                · go_big_op
                  have hst2 := hst.on (bal (Below.refl _ x2) (.cells #[.int .i64 0, .int .i64 0, .int .i64 0, .int .i64 0, .int .i64 0, .int .i64 0] 49))
                  have A := At.new x2 [.int .i64 0, .int .i64 0, .int .i64 0, .int .i64 0, .int .i64 0, .int .i64 0] 49
                  have leA : W1.heap.size ≤ x2.heap.size := hst.out.size
                  refine hK _ _ hst2 ?_
                  clear hK K hst
                  have hst := hst2
                  clear hst2
                  generalize x2.alloc (.cells #[.int .i64 0, .int .i64 0, .int .i64 0, .int .i64 0, .int .i64 0, .int .i64 0] 49) = xa at *
                  refine any_rest [(8, false), (9, true), (11, false)] (by kernel_rfl) (fun _ _ d _ _ h => by cases d <;> exact h) ?_
                  refine line_alone rfl (by kernel_rfl) (fun K hK => ?_)
                  refine call_any (args := #[.slice (some ⟨b, off, none⟩) 13 cap, .int .i64 11]) rfl (by kernel_rfl) (by kernel_rfl) (T4 _ (cell_keep hst.out c11) (cell_keep hst.out c12)) ?_
                  rintro e kw3 ⟨rfl, hbn⟩
                  have hst2 := hst.on hbn
                  have A2 := A.on hbn
                  clear A
                  have A := A2
                  clear A2
                  refine ⟨_, rfl, hK _ _ hst2 ?_⟩
                  clear hK K hst hbn
                  have hst := hst2
                  clear hst2
                  simp only [Act.put, List.setIfInBounds_toArray, List.set_cons_zero, List.set_cons_succ]
                  refine line_readv (v := R6 y1 y3 y5 y7 y9 y11) rfl (by kernel_rfl) (fun _ => by kernel_rfl) ?_
                  simp only [Act.put, List.setIfInBounds_toArray, List.set_cons_zero, List.set_cons_succ]
                  have p0 := A.cell 0 _ rfl
                  have p1 := A.cell 1 _ rfl
                  have p2 := A.cell 2 _ rfl
                  have p3 := A.cell 3 _ rfl
                  have p4 := A.cell 4 _ rfl
                  have p5 := A.cell 5 _ rfl
                  have f0 := A.free 0 _ rfl
                  have f1 := A.free 1 _ rfl
                  have f2 := A.free 2 _ rfl
                  have f3 := A.free 3 _ rfl
                  have f4 := A.free 4 _ rfl
                  have f5 := A.free 5 _ rfl
                  refine line_alone rfl (by kernel_rfl) (fun K hK => ?_)
                  go_big_op
                  refine hK _ _ (⟨(by (iterate 6 (refine bset ?_ (by dsimp only; omega) _)); exact hst.out)⟩) ?_
                  clear hK K
                  have A9 := ((((((A.set 0 (.int .i64 y1)).set 1 (.int .i64 y3)).set 2 (.int .i64 y5)).set 3 (.int .i64 y7)).set 4 (.int .i64 y9)).set 5 (.int .i64 y11))
                  refine line_nil ?_
                  go_wp2_with fail
                  go_meet
                  case rel => exact ⟨_, rfl, A9, (by (iterate 6 (refine bset ?_ (by dsimp only; omega) _)); exact hst.out), leA⟩
              · go_big_op
                have hst2 := hst.on (bal (Below.refl _ x1) (.cells #[.int .i64 0, .int .i64 0, .int .i64 0, .int .i64 0, .int .i64 0, .int .i64 0] 49))
                have A := At.new x1 [.int .i64 0, .int .i64 0, .int .i64 0, .int .i64 0, .int .i64 0, .int .i64 0] 49
                have leA : W1.heap.size ≤ x1.heap.size := hst.out.size
                refine hK _ _ hst2 ?_
                clear hK K hst
                have hst := hst2
                clear hst2
                generalize x1.alloc (.cells #[.int .i64 0, .int .i64 0, .int .i64 0, .int .i64 0, .int .i64 0, .int .i64 0] 49) = xa at *
                refine any_rest [(5, false), (8, false), (9, true), (11, false)] (by kernel_rfl) (fun _ _ d _ _ h => by cases d <;> exact h) ?_
                refine line_alone rfl (by kernel_rfl) (fun K hK => ?_)
                refine call_any (args := #[.slice (some ⟨b, off, none⟩) 13 cap, .int .i64 5]) rfl (by kernel_rfl) (by kernel_rfl) (T3 _ (cell_keep hst.out c5) (cell_keep hst.out c6)) ?_
                rintro e kw2 ⟨rfl, hbn⟩
                have hst2 := hst.on hbn
                have A2 := A.on hbn
                clear A
                have A := A2
                clear A2
                refine ⟨_, rfl, hK _ _ hst2 ?_⟩
                clear hK K hst hbn
                have hst := hst2
                clear hst2
                simp only [Act.put, List.setIfInBounds_toArray, List.set_cons_zero, List.set_cons_succ]
                refine line_alone rfl (by kernel_rfl) (fun K hK => ?_)
                refine call_any (args := #[.slice (some ⟨b, off, none⟩) 13 cap, .int .i64 11]) rfl (by kernel_rfl) (by kernel_rfl) (T4 _ (cell_keep hst.out c11) (cell_keep hst.out c12)) ?_
                rintro e kw3 ⟨rfl, hbn⟩
                have hst2 := hst.on hbn
                have A2 := A.on hbn
                clear A
                have A := A2
                clear A2
                refine ⟨_, rfl, hK _ _ hst2 ?_⟩
                clear hK K hst hbn
                have hst := hst2
                clear hst2
                simp only [Act.put, List.setIfInBounds_toArray, List.set_cons_zero, List.set_cons_succ]
                refine line_readv (v := R6 y1 y3 y5 y7 y9 y11) rfl (by kernel_rfl) (fun _ => by kernel_rfl) ?_
                simp only [Act.put, List.setIfInBounds_toArray, List.set_cons_zero, List.set_cons_succ]
                have p0 := A.cell 0 _ rfl
                have p1 := A.cell 1 _ rfl
                have p2 := A.cell 2 _ rfl
                have p3 := A.cell 3 _ rfl
                have p4 := A.cell 4 _ rfl
                have p5 := A.cell 5 _ rfl
                have f0 := A.free 0 _ rfl
                have f1 := A.free 1 _ rfl
                have f2 := A.free 2 _ rfl
                have f3 := A.free 3 _ rfl
                have f4 := A.free 4 _ rfl
                have f5 := A.free 5 _ rfl
                refine line_alone rfl (by kernel_rfl) (fun K hK => ?_)
                go_big_op
                refine hK _ _ (⟨(by (iterate 6 (refine bset ?_ (by dsimp only; omega) _)); exact hst.out)⟩) ?_
                clear hK K
                have A9 := ((((((A.set 0 (.int .i64 y1)).set 1 (.int .i64 y3)).set 2 (.int .i64 y5)).set 3 (.int .i64 y7)).set 4 (.int .i64 y9)).set 5 (.int .i64 y11))
                refine line_nil ?_
                go_wp2_with fail
                go_meet
                case rel => exact ⟨_, rfl, A9, (by (iterate 6 (refine bset ?_ (by dsimp only; omega) _)); exact hst.out), leA⟩
            · go_big_op
              have hst2 := hst.on (bal (Below.refl _ x0) (.cells #[.int .i64 0, .int .i64 0, .int .i64 0, .int .i64 0, .int .i64 0, .int .i64 0] 49))
              have A := At.new x0 [.int .i64 0, .int .i64 0, .int .i64 0, .int .i64 0, .int .i64 0, .int .i64 0] 49
              have leA : W1.heap.size ≤ x0.heap.size := hst.out.size
              refine hK _ _ hst2 ?_
              clear hK K hst
              have hst := hst2
              clear hst2
              generalize x0.alloc (.cells #[.int .i64 0, .int .i64 0, .int .i64 0, .int .i64 0, .int .i64 0, .int .i64 0] 49) = xa at *
              refine any_rest [(3, false), (5, false), (8, false), (9, true), (11, false)] (by kernel_rfl) (fun _ _ d _ _ h => by cases d <;> exact h) ?_
              refine line_alone rfl (by kernel_rfl) (fun K hK => ?_)
              refine call_any (args := #[.slice (some ⟨b, off, none⟩) 13 cap, .int .i64 3]) rfl (by kernel_rfl) (by kernel_rfl) (T2 _ (cell_keep hst.out c3) (cell_keep hst.out c4)) ?_
              rintro e kw1 ⟨rfl, hbn⟩
              have hst2 := hst.on hbn
              have A2 := A.on hbn
              clear A
              have A := A2
              clear A2
              refine ⟨_, rfl, hK _ _ hst2 ?_⟩
              clear hK K hst hbn
              have hst := hst2
              clear hst2
              simp only [Act.put, List.setIfInBounds_toArray, List.set_cons_zero, List.set_cons_succ]
              refine line_alone rfl (by kernel_rfl) (fun K hK => ?_)
              refine call_any (args := #[.slice (some ⟨b, off, none⟩) 13 cap, .int .i64 5]) rfl (by kernel_rfl) (by kernel_rfl) (T3 _ (cell_keep hst.out c5) (cell_keep hst.out c6)) ?_
              rintro e kw2 ⟨rfl, hbn⟩
              have hst2 := hst.on hbn
              have A2 := A.on hbn
              clear A
              have A := A2
              clear A2
              refine ⟨_, rfl, hK _ _ hst2 ?_⟩
              clear hK K hst hbn
              have hst := hst2
              clear hst2
              simp only [Act.put, List.setIfInBounds_toArray, List.set_cons_zero, List.set_cons_succ]
              refine line_alone rfl (by kernel_rfl) (fun K hK => ?_)
              refine call_any (args := #[.slice (some ⟨b, off, none⟩) 13 cap, .int .i64 11]) rfl (by kernel_rfl) (by kernel_rfl) (T4 _ (cell_keep hst.out c11) (cell_keep hst.out c12)) ?_
              rintro e kw3 ⟨rfl, hbn⟩
              have hst2 := hst.on hbn
              have A2 := A.on hbn
              clear A
              have A := A2
              clear A2
              refine ⟨_, rfl, hK _ _ hst2 ?_⟩
              clear hK K hst hbn
              have hst := hst2
              clear hst2
              simp only [Act.put, List.setIfInBounds_toArray, List.set_cons_zero, List.set_cons_succ]
              refine line_readv (v := R6 y1 y3 y5 y7 y9 y11) rfl (by kernel_rfl) (fun _ => by kernel_rfl) ?_
              simp only [Act.put, List.setIfInBounds_toArray, List.set_cons_zero, List.set_cons_succ]
              have p0 := A.cell 0 _ rfl
              have p1 := A.cell 1 _ rfl
              have p2 := A.cell 2 _ rfl
              have p3 := A.cell 3 _ rfl
              have p4 := A.cell 4 _ rfl
              have p5 := A.cell 5 _ rfl
              have f0 := A.free 0 _ rfl
              have f1 := A.free 1 _ rfl
              have f2 := A.free 2 _ rfl
              have f3 := A.free 3 _ rfl
              have f4 := A.free 4 _ rfl
              have f5 := A.free 5 _ rfl
              refine line_alone rfl (by kernel_rfl) (fun K hK => ?_)
              go_big_op
              refine hK _ _ (⟨(by (iterate 6 (refine bset ?_ (by dsimp only; omega) _)); exact hst.out)⟩) ?_
              clear hK K
              have A9 := ((((((A.set 0 (.int .i64 y1)).set 1 (.int .i64 y3)).set 2 (.int .i64 y5)).set 3 (.int .i64 y7)).set 4 (.int .i64 y9)).set 5 (.int .i64 y11))
              refine line_nil ?_
              go_wp2_with fail
              go_meet
              case rel => exact ⟨_, rfl, A9, (by (iterate 6 (refine bset ?_ (by dsimp only; omega) _)); exact hst.out), leA⟩
          · go_big_op
            have hst2 := hst.on (bal (Below.refl _ V1) (.cells #[.int .i64 0, .int .i64 0, .int .i64 0, .int .i64 0, .int .i64 0, .int .i64 0] 49))
            have A := At.new V1 [.int .i64 0, .int .i64 0, .int .i64 0, .int .i64 0, .int .i64 0, .int .i64 0] 49
            have leA : W1.heap.size ≤ V1.heap.size := hst.out.size
            refine hK _ _ hst2 ?_
            clear hK K hst
            have hst := hst2
            clear hst2
            generalize V1.alloc (.cells #[.int .i64 0, .int .i64 0, .int .i64 0, .int .i64 0, .int .i64 0, .int .i64 0] 49) = xa at *
            refine any_rest [(1, false), (3, false), (5, false), (8, false), (9, true), (11, false)] (by kernel_rfl) (fun _ _ d _ _ h => by cases d <;> exact h) ?_
            refine line_alone rfl (by kernel_rfl) (fun K hK => ?_)
            refine call_any (args := #[.slice (some ⟨b, off, none⟩) 13 cap, .int .i64 1]) rfl (by kernel_rfl) (by kernel_rfl) (T1 _ (cell_keep hst.out c1) (cell_keep hst.out c2)) ?_
            rintro e kw0 ⟨rfl, hbn⟩
            have hst2 := hst.on hbn
            have A2 := A.on hbn
            clear A
            have A := A2
            clear A2
            refine ⟨_, rfl, hK _ _ hst2 ?_⟩
            clear hK K hst hbn
            have hst := hst2
            clear hst2
            simp only [Act.put, List.setIfInBounds_toArray, List.set_cons_zero, List.set_cons_succ]
            refine line_alone rfl (by kernel_rfl) (fun K hK => ?_)
            refine call_any (args := #[.slice (some ⟨b, off, none⟩) 13 cap, .int .i64 3]) rfl (by kernel_rfl) (by kernel_rfl) (T2 _ (cell_keep hst.out c3) (cell_keep hst.out c4)) ?_
            rintro e kw1 ⟨rfl, hbn⟩
            have hst2 := hst.on hbn
            have A2 := A.on hbn
            clear A
            have A := A2
            clear A2
            refine ⟨_, rfl, hK _ _ hst2 ?_⟩
            clear hK K hst hbn
            have hst := hst2
            clear hst2
            simp only [Act.put, List.setIfInBounds_toArray, List.set_cons_zero, List.set_cons_succ]
            refine line_alone rfl (by kernel_rfl) (fun K hK => ?_)
            refine call_any (args := #[.slice (some ⟨b, off, none⟩) 13 cap, .int .i64 5]) rfl (by kernel_rfl) (by kernel_rfl) (T3 _ (cell_keep hst.out c5) (cell_keep hst.out c6)) ?_
            rintro e kw2 ⟨rfl, hbn⟩
            have hst2 := hst.on hbn
            have A2 := A.on hbn
            clear A
            have A := A2
            clear A2
            refine ⟨_, rfl, hK _ _ hst2 ?_⟩
            clear hK K hst hbn
            have hst := hst2
            clear hst2
            simp only [Act.put, List.setIfInBounds_toArray, List.set_cons_zero, List.set_cons_succ]
            refine line_alone rfl (by kernel_rfl) (fun K hK => ?_)
            refine call_any (args := #[.slice (some ⟨b, off, none⟩) 13 cap, .int .i64 11]) rfl (by kernel_rfl) (by kernel_rfl) (T4 _ (cell_keep hst.out c11) (cell_keep hst.out c12)) ?_
            rintro e kw3 ⟨rfl, hbn⟩
            have hst2 := hst.on hbn
            have A2 := A.on hbn
            clear A
            have A := A2
            clear A2
            refine ⟨_, rfl, hK _ _ hst2 ?_⟩
            clear hK K hst hbn
            have hst := hst2
            clear hst2
            simp only [Act.put, List.setIfInBounds_toArray, List.set_cons_zero, List.set_cons_succ]
            refine line_readv (v := R6 y1 y3 y5 y7 y9 y11) rfl (by kernel_rfl) (fun _ => by kernel_rfl) ?_
            simp only [Act.put, List.setIfInBounds_toArray, List.set_cons_zero, List.set_cons_succ]
            have p0 := A.cell 0 _ rfl
            have p1 := A.cell 1 _ rfl
            have p2 := A.cell 2 _ rfl
            have p3 := A.cell 3 _ rfl
            have p4 := A.cell 4 _ rfl
            have p5 := A.cell 5 _ rfl
            have f0 := A.free 0 _ rfl
            have f1 := A.free 1 _ rfl
            have f2 := A.free 2 _ rfl
            have f3 := A.free 3 _ rfl
            have f4 := A.free 4 _ rfl
            have f5 := A.free 5 _ rfl
            refine line_alone rfl (by kernel_rfl) (fun K hK => ?_)
            go_big_op
            refine hK _ _ (⟨(by (iterate 6 (refine bset ?_ (by dsimp only; omega) _)); exact hst.out)⟩) ?_
            clear hK K
            have A9 := ((((((A.set 0 (.int .i64 y1)).set 1 (.int .i64 y3)).set 2 (.int .i64 y5)).set 3 (.int .i64 y7)).set 4 (.int .i64 y9)).set 5 (.int .i64 y11))
            refine line_nil ?_
            go_wp2_with fail
            go_meet
            case rel => exact ⟨_, rfl, A9, (by (iterate 6 (refine bset ?_ (by dsimp only; omega) _)); exact hst.out), leA⟩
        case rest =>
          obtain ⟨g, rfl, A3, b4, hg⟩ := hcut
          have lt1 : w.heap.size < W1.heap.size := A1.lt (by simp)
          have b5 := btr b3 b4
          have A4 := A1.on b4
          clear A1 b3 G1 b2
          go_wp2_with fail
          have S0 : Hold w g [.int .i64 y1, .int .i64 y3, .int .i64 y5, .int .i64 y7, .int .i64 y9, .int .i64 y11] wc.drew := ⟨b5.drew, A3.on (bdrew wc)⟩
          have AA := A4.on (bdrew wc)
          refine wp_region_line (Hold w g [.int .i64 y1, .int .i64 y3, .int .i64 y5, .int .i64 y7, .int .i64 y9, .int .i64 y11]) [(0, true), (1, true), (2, true), (3, false), (4, true), (5, true), (6, false), (7, true)] (by kernel_rfl) (by kernel_rfl) (fun _ _ d _ _ h => by cases d <;> exact h) S0 ?_
          have hst := S0
          have inst : Nonempty (Of (Hold w g [.int .i64 y1, .int .i64 y3, .int .i64 y5, .int .i64 y7, .int .i64 y9, .int .i64 y11])) := ⟨⟨_, hst⟩⟩
          have q0 := hold_cell (W := w) (g := g) (cs := [.int .i64 y1, .int .i64 y3, .int .i64 y5, .int .i64 y7, .int .i64 y9, .int .i64 y11]) 0 _ rfl
          have q1 := hold_cell (W := w) (g := g) (cs := [.int .i64 y1, .int .i64 y3, .int .i64 y5, .int .i64 y7, .int .i64 y9, .int .i64 y11]) 1 _ rfl
          have q2 := hold_cell (W := w) (g := g) (cs := [.int .i64 y1, .int .i64 y3, .int .i64 y5, .int .i64 y7, .int .i64 y9, .int .i64 y11]) 2 _ rfl
          have q3 := hold_cell (W := w) (g := g) (cs := [.int .i64 y1, .int .i64 y3, .int .i64 y5, .int .i64 y7, .int .i64 y9, .int .i64 y11]) 3 _ rfl
          have q4 := hold_cell (W := w) (g := g) (cs := [.int .i64 y1, .int .i64 y3, .int .i64 y5, .int .i64 y7, .int .i64 y9, .int .i64 y11]) 4 _ rfl
          have q5 := hold_cell (W := w) (g := g) (cs := [.int .i64 y1, .int .i64 y3, .int .i64 y5, .int .i64 y7, .int .i64 y9, .int .i64 y11]) 5 _ rfl
          clear S0 A3 A4 b4 b5
          generalize wc.drew = V2 at *
          iterate 3 (refine line_read rfl (by kernel_rfl) (fun K hK => ?_); go_big_quiet_op; refine hK _ ?_; clear hK K)
          clear q0 q1 q2 q3 q4 q5
          iterate 2 (refine line_skip rfl (by kernel_rfl) ?_; simp only [Act.put, List.setIfInBounds_toArray, List.set_cons_zero, List.set_cons_succ])
          iterate 1 (refine line_read rfl (by kernel_rfl) (fun K hK => ?_); go_big_quiet_op; refine hK _ ?_; clear hK K)
          have p0 := AA.cell 0 _ rfl
          have p1 := AA.cell 1 _ rfl
          have p2 := AA.cell 2 _ rfl
          have p3 := AA.cell 3 _ rfl
          have p4 := AA.cell 4 _ rfl
          have p5 := AA.cell 5 _ rfl
          have z0 := AA.free 0 _ rfl
          have z1 := AA.free 1 _ rfl
          have z2 := AA.free 2 _ rfl
          have z3 := AA.free 3 _ rfl
          have z4 := AA.free 4 _ rfl
          have z5 := AA.free 5 _ rfl
          refine line_alone rfl (by kernel_rfl) (fun K hK => ?_)
          go_big_op
          refine hK _ _ ((by (iterate 6 (refine Hold.setB ?_ (by dsimp only; omega) (by dsimp only; omega) _)); exact hst)) ?_
          clear hK K
          iterate 1 (refine line_read rfl (by kernel_rfl) (fun K hK => ?_); go_big_quiet_op; refine hK _ ?_; clear hK K)
          refine line_nil ?_
          have HB := Lib.hid hst.bel
          clear hst inst AA
          go_wp2_with fail
          refine bodyPost_ret (v := .tuple #[R6 y1 y3 y5 y7 y9 y11, .bool false]) (by simp [results, Tryd.results47, go_sem, p0, p1, p2, p3, p4, p5]) rfl (HN hsg _ ?_)
          exact (by (iterate 6 (refine bset ?_ (by dsimp only; omega) _)); exact HB.out)
      · rw [hsg] at L1
        go_enter Tryd.func47, Tryd.ntmps47
        go_wp2_with fail
        generalize w.alloc (.cells #[.int .i64 0, .int .i64 0, .int .i64 0, .int .i64 0, .int .i64 0, .int .i64 0] 49) = W0 at *
        refine (L1 _ R1 hWB).mono ?_
        rintro e u1 ⟨rfl, b1⟩
        have G1 := At.new u1 [.int .i64 y7, .int .i64 y9] 47
        have b2 := bal b1 (.cells #[.int .i64 y7, .int .i64 y9] 47)
        have b3 := btr b0 b2
        have A1 := A0.on b2
        have lt0 : w.heap.size < u1.heap.size := (A0.on b1).lt (by simp)
        have c1 := cell_keep b2 d1
        have c2 := cell_keep b2 d2
        have c3 := cell_keep b2 d3
        have c4 := cell_keep b2 d4
        have c5 := cell_keep b2 d5
        have c6 := cell_keep b2 d6
        have c11 := cell_keep b2 d11
        have c12 := cell_keep b2 d12
        clear R1 L1 b1 b0 A0 d0
        go_upto_region 4 with fail
        generalize u1.alloc (.cells #[.int .i64 y7, .int .i64 y9] 47) = W1 at *
        go_cut [6] from 23 to 33 (fun v' wx => CellsAt W1 [.int .i64 y1, .int .i64 y3, .int .i64 y5, .int .i64 y7, .int .i64 y9, .int .i64 y11] v' wx)
        case first =>
          refine wp_region_fork (Bel W1) (by kernel_rfl) (Bel.drew W1) ?_
          have hst : (Bel W1) _ := (Bel.drew W1)
          have inst : Nonempty (Of (Bel W1)) := ⟨⟨_, hst⟩⟩
          have q0 := bel_cell (G1.cell 0 _ rfl)
          have q1 := bel_cell (G1.cell 1 _ rfl)
          generalize W1.drew = V1 at *
          refine any_seg 7 [(0, true), (2, true), (4, true), (6, true), (7, true)] (by kernel_rfl) (fun _ _ d _ _ h => by cases d <;> exact h) ?_
          iterate 5 (refine line_read rfl (by kernel_rfl) (fun K hK => ?_); go_big_quiet_op; refine hK _ ?_; clear hK K)
          refine line_nil ?_
          clear q0 q1
          refine any_fork 1 10 (by kernel_rfl) rfl rfl (by kernel_rfl) (by kernel_rfl) (fun K hK => ?_) (fun K hK => ?_)
          · refine call_any (args := #[.slice (some ⟨b, off, none⟩) 13 cap, .int .i64 1]) rfl (by kernel_rfl) (by kernel_rfl) (T1 _ (cell_keep hst.out c1) (cell_keep hst.out c2)) ?_
            rintro e x0 ⟨rfl, hbn⟩
            have hst2 := hst.on hbn
            refine ⟨_, rfl, hK _ _ hst2 ?_⟩
            clear hK K hst hbn
            have hst := hst2
            clear hst2
            simp only [Act.put, List.setIfInBounds_toArray, List.set_cons_zero, List.set_cons_succ]
            refine any_fork 3 10 (by kernel_rfl) rfl rfl (by kernel_rfl) (by kernel_rfl) (fun K hK => ?_) (fun K hK => ?_)
            · refine call_any (args := #[.slice (some ⟨b, off, none⟩) 13 cap, .int .i64 3]) rfl (by kernel_rfl) (by kernel_rfl) (T2 _ (cell_keep hst.out c3) (cell_keep hst.out c4)) ?_
              rintro e x1 ⟨rfl, hbn⟩
              have hst2 := hst.on hbn
              refine ⟨_, rfl, hK _ _ hst2 ?_⟩
              clear hK K hst hbn
              have hst := hst2
              clear hst2
              simp only [Act.put, List.setIfInBounds_toArray, List.set_cons_zero, List.set_cons_succ]
              refine any_fork 5 10 (by kernel_rfl) rfl rfl (by kernel_rfl) (by kernel_rfl) (fun K hK => ?_) (fun K hK => ?_)
              · refine call_any (args := #[.slice (some ⟨b, off, none⟩) 13 cap, .int .i64 5]) rfl (by kernel_rfl) (by kernel_rfl) (T3 _ (cell_keep hst.out c5) (cell_keep hst.out c6)) ?_
                rintro e x2 ⟨rfl, hbn⟩
                have hst2 := hst.on hbn
                refine ⟨_, rfl, hK _ _ hst2 ?_⟩
                clear hK K hst hbn
                have hst := hst2
                clear hst2
                simp only [Act.put, List.setIfInBounds_toArray, List.set_cons_zero, List.set_cons_succ]
                refine any_fork 8 10 (by kernel_rfl) rfl rfl (by kernel_rfl) (by kernel_rfl) (fun K hK => ?_) (fun K hK => ?_)
                · refine call_any (args := #[.slice (some ⟨b, off, none⟩) 13 cap, .int .i64 11]) rfl (by kernel_rfl) (by kernel_rfl) (T4 _ (cell_keep hst.out c11) (cell_keep hst.out c12)) ?_
                  rintro e x3 ⟨rfl, hbn⟩
                  have hst2 := hst.on hbn
                  refine ⟨_, rfl, hK _ _ hst2 ?_⟩
                  clear hK K hst hbn
                  have hst := hst2
                  clear hst2
                  simp only [Act.put, List.setIfInBounds_toArray, List.set_cons_zero, List.set_cons_succ]
                  refine any_rest [(9, true), (10, false), (11, false)] (by kernel_rfl) (fun _ _ d _ _ h => by cases d <;> exact h) ?_
                  refine line_readv (v := R6 y1 y3 y5 y7 y9 y11) rfl (by kernel_rfl) (fun _ => by kernel_rfl) ?_
                  simp only [Act.put, List.setIfInBounds_toArray, List.set_cons_zero, List.set_cons_succ]
                  refine line_alone rfl (by kernel_rfl) (fun K hK => ?_)
                  go_big_op
                  have hst2 := hst.on (bal (Below.refl _ x3) (.cells #[.int .i64 0, .int .i64 0, .int .i64 0, .int .i64 0, .int .i64 0, .int .i64 0] 49))
                  have A := At.new x3 [.int .i64 0, .int .i64 0, .int .i64 0, .int .i64 0, .int .i64 0, .int .i64 0] 49
                  have leA : W1.heap.size ≤ x3.heap.size := hst.out.size
                  refine hK _ _ hst2 ?_
                  clear hK K hst
                  have hst := hst2
                  clear hst2
                  generalize x3.alloc (.cells #[.int .i64 0, .int .i64 0, .int .i64 0, .int .i64 0, .int .i64 0, .int .i64 0] 49) = xa at *
                  have p0 := A.cell 0 _ rfl
                  have p1 := A.cell 1 _ rfl
                  have p2 := A.cell 2 _ rfl
                  have p3 := A.cell 3 _ rfl
                  have p4 := A.cell 4 _ rfl
                  have p5 := A.cell 5 _ rfl
                  have f0 := A.free 0 _ rfl
                  have f1 := A.free 1 _ rfl
                  have f2 := A.free 2 _ rfl
                  have f3 := A.free 3 _ rfl
                  have f4 := A.free 4 _ rfl
                  have f5 := A.free 5 _ rfl
                  refine line_alone rfl (by kernel_rfl) (fun K hK => ?_)
                  go_big_op
                  refine hK _ _ (⟨(by (iterate 6 (refine bset ?_ (by dsimp only; omega) _)); exact hst.out)⟩) ?_
                  clear hK K
                  have A9 := ((((((A.set 0 (.int .i64 y1)).set 1 (.int .i64 y3)).set 2 (.int .i64 y5)).set 3 (.int .i64 y7)).set 4 (.int .i64 y9)).set 5 (.int .i64 y11))
                  refine line_nil ?_
                  go_wp2_with fail
                  go_meet
                  case rel => exact ⟨_, rfl, A9, (by (iterate 6 (refine bset ?_ (by dsimp only; omega) _)); exact hst.out), leA⟩
                · go_big_op
                  have hst2 := hst.on (bal (Below.refl _ x2) (.cells #[.int .i64 0, .int .i64 0, .int .i64 0, .int .i64 0, .int .i64 0, .int .i64 0] 49))
                  have A := At.new x2 [.int .i64 0, .int .i64 0, .int .i64 0, .int .i64 0, .int .i64 0, .int .i64 0] 49
                  have leA : W1.heap.size ≤ x2.heap.size := hst.out.size
                  refine hK _ _ hst2 ?_
                  clear hK K hst
                  have hst := hst2
                  clear hst2
                  generalize x2.alloc (.cells #[.int .i64 0, .int .i64 0, .int .i64 0, .int .i64 0, .int .i64 0, .int .i64 0] 49) = xa at *
                  refine any_rest [(8, false), (9, true), (11, false)] (by kernel_rfl) (fun _ _ d _ _ h => by cases d <;> exact h) ?_
                  refine line_alone rfl (by kernel_rfl) (fun K hK => ?_)
                  refine call_any (args := #[.slice (some ⟨b, off, none⟩) 13 cap, .int .i64 11]) rfl (by kernel_rfl) (by kernel_rfl) (T4 _ (cell_keep hst.out c11) (cell_keep hst.out c12)) ?_
                  rintro e kw3 ⟨rfl, hbn⟩
                  have hst2 := hst.on hbn
                  have A2 := A.on hbn
                  clear A
                  have A := A2
                  clear A2
                  refine ⟨_, rfl, hK _ _ hst2 ?_⟩
                  clear hK K hst hbn
                  have hst := hst2
                  clear hst2
                  simp only [Act.put, List.setIfInBounds_toArray, List.set_cons_zero, List.set_cons_succ]
                  refine line_readv (v := R6 y1 y3 y5 y7 y9 y11) rfl (by kernel_rfl) (fun _ => by kernel_rfl) ?_
                  simp only [Act.put, List.setIfInBounds_toArray, List.set_cons_zero, List.set_cons_succ]
                  have p0 := A.cell 0 _ rfl
                  have p1 := A.cell 1 _ rfl
                  have p2 := A.cell 2 _ rfl
                  have p3 := A.cell 3 _ rfl
                  have p4 := A.cell 4 _ rfl
                  have p5 := A.cell 5 _ rfl
                  have f0 := A.free 0 _ rfl
                  have f1 := A.free 1 _ rfl
                  have f2 := A.free 2 _ rfl
                  have f3 := A.free 3 _ rfl
                  have f4 := A.free 4 _ rfl
                  have f5 := A.free 5 _ rfl
                  refine line_alone rfl (by kernel_rfl) (fun K hK => ?_)
                  go_big_op
                  refine hK _ _ (⟨(by (iterate 6 (refine bset ?_ (by dsimp only; omega) _)); exact hst.out)⟩) ?_
                  clear hK K
                  have A9 := ((((((A.set 0 (.int .i64 y1)).set 1 (.int .i64 y3)).set 2 (.int .i64 y5)).set 3 (.int .i64 y7)).set 4 (.int .i64 y9)).set 5 (.int .i64 y11))
                  refine line_nil ?_
                  go_wp2_with fail
                  go_meet
                  case rel => exact ⟨_, rfl, A9, (by (iterate 6 (refine bset ?_ (by dsimp only; omega) _)); exact hst.out), leA⟩
              · go_big_op
                have hst2 := hst.on (bal (Below.refl _ x1) (.cells #[.int .i64 0, .int .i64 0, .int .i64 0, .int .i64 0, .int .i64 0, .int .i64 0] 49))
                have A := At.new x1 [.int .i64 0, .int .i64 0, .int .i64 0, .int .i64 0, .int .i64 0, .int .i64 0] 49
                have leA : W1.heap.size ≤ x1.heap.size := hst.out.size
                refine hK _ _ hst2 ?_
                clear hK K hst
                have hst := hst2
                clear hst2
                generalize x1.alloc (.cells #[.int .i64 0, .int .i64 0, .int .i64 0, .int .i64 0, .int .i64 0, .int .i64 0] 49) = xa at *
                refine any_rest [(5, false), (8, false), (9, true), (11, false)] (by kernel_rfl) (fun _ _ d _ _ h => by cases d <;> exact h) ?_
                refine line_alone rfl (by kernel_rfl) (fun K hK => ?_)
                refine call_any (args := #[.slice (some ⟨b, off, none⟩) 13 cap, .int .i64 5]) rfl (by kernel_rfl) (by kernel_rfl) (T3 _ (cell_keep hst.out c5) (cell_keep hst.out c6)) ?_
                rintro e kw2 ⟨rfl, hbn⟩
                have hst2 := hst.on hbn
                have A2 := A.on hbn
                clear A
                have A := A2
                clear A2
                refine ⟨_, rfl, hK _ _ hst2 ?_⟩
                clear hK K hst hbn
                have hst := hst2
                clear hst2
                simp only [Act.put, List.setIfInBounds_toArray, List.set_cons_zero, List.set_cons_succ]
                refine line_alone rfl (by kernel_rfl) (fun K hK => ?_)
                refine call_any (args := #[.slice (some ⟨b, off, none⟩) 13 cap, .int .i64 11]) rfl (by kernel_rfl) (by kernel_rfl) (T4 _ (cell_keep hst.out c11) (cell_keep hst.out c12)) ?_
                rintro e kw3 ⟨rfl, hbn⟩
                have hst2 := hst.on hbn
                have A2 := A.on hbn
                clear A
                have A := A2
                clear A2
                refine ⟨_, rfl, hK _ _ hst2 ?_⟩
                clear hK K hst hbn
                have hst := hst2
                clear hst2
                simp only [Act.put, List.setIfInBounds_toArray, List.set_cons_zero, List.set_cons_succ]
                refine line_readv (v := R6 y1 y3 y5 y7 y9 y11) rfl (by kernel_rfl) (fun _ => by kernel_rfl) ?_
                simp only [Act.put, List.setIfInBounds_toArray, List.set_cons_zero, List.set_cons_succ]
                have p0 := A.cell 0 _ rfl
                have p1 := A.cell 1 _ rfl
                have p2 := A.cell 2 _ rfl
                have p3 := A.cell 3 _ rfl
                have p4 := A.cell 4 _ rfl
                have p5 := A.cell 5 _ rfl
                have f0 := A.free 0 _ rfl
                have f1 := A.free 1 _ rfl
                have f2 := A.free 2 _ rfl
                have f3 := A.free 3 _ rfl
                have f4 := A.free 4 _ rfl
                have f5 := A.free 5 _ rfl
                refine line_alone rfl (by kernel_rfl) (fun K hK => ?_)
                go_big_op
                refine hK _ _ (⟨(by (iterate 6 (refine bset ?_ (by dsimp only; omega) _)); exact hst.out)⟩) ?_
                clear hK K
                have A9 := ((((((A.set 0 (.int .i64 y1)).set 1 (.int .i64 y3)).set 2 (.int .i64 y5)).set 3 (.int .i64 y7)).set 4 (.int .i64 y9)).set 5 (.int .i64 y11))
                refine line_nil ?_
                go_wp2_with fail
                go_meet
                case rel => exact ⟨_, rfl, A9, (by (iterate 6 (refine bset ?_ (by dsimp only; omega) _)); exact hst.out), leA⟩
            · go_big_op
              have hst2 := hst.on (bal (Below.refl _ x0) (.cells #[.int .i64 0, .int .i64 0, .int .i64 0, .int .i64 0, .int .i64 0, .int .i64 0] 49))
              have A := At.new x0 [.int .i64 0, .int .i64 0, .int .i64 0, .int .i64 0, .int .i64 0, .int .i64 0] 49
              have leA : W1.heap.size ≤ x0.heap.size := hst.out.size
              refine hK _ _ hst2 ?_
              clear hK K hst
              have hst := hst2
              clear hst2
              generalize x0.alloc (.cells #[.int .i64 0, .int .i64 0, .int .i64 0, .int .i64 0, .int .i64 0, .int .i64 0] 49) = xa at *
              refine any_rest [(3, false), (5, false), (8, false), (9, true), (11, false)] (by kernel_rfl) (fun _ _ d _ _ h => by cases d <;> exact h) ?_
              refine line_alone rfl (by kernel_rfl) (fun K hK => ?_)
              refine call_any (args := #[.slice (some ⟨b, off, none⟩) 13 cap, .int .i64 3]) rfl (by kernel_rfl) (by kernel_rfl) (T2 _ (cell_keep hst.out c3) (cell_keep hst.out c4)) ?_
              rintro e kw1 ⟨rfl, hbn⟩
              have hst2 := hst.on hbn
              have A2 := A.on hbn
              clear A
              have A := A2
              clear A2
              refine ⟨_, rfl, hK _ _ hst2 ?_⟩
              clear hK K hst hbn
              have hst := hst2
              clear hst2
              simp only [Act.put, List.setIfInBounds_toArray, List.set_cons_zero, List.set_cons_succ]
              refine line_alone rfl (by kernel_rfl) (fun K hK => ?_)
              refine call_any (args := #[.slice (some ⟨b, off, none⟩) 13 cap, .int .i64 5]) rfl (by kernel_rfl) (by kernel_rfl) (T3 _ (cell_keep hst.out c5) (cell_keep hst.out c6)) ?_
              rintro e kw2 ⟨rfl, hbn⟩
              have hst2 := hst.on hbn
              have A2 := A.on hbn
              clear A
              have A := A2
              clear A2
              refine ⟨_, rfl, hK _ _ hst2 ?_⟩
              clear hK K hst hbn
              have hst := hst2
              clear hst2
              simp only [Act.put, List.setIfInBounds_toArray, List.set_cons_zero, List.set_cons_succ]
              refine line_alone rfl (by kernel_rfl) (fun K hK => ?_)
              refine call_any (args := #[.slice (some ⟨b, off, none⟩) 13 cap, .int .i64 11]) rfl (by kernel_rfl) (by kernel_rfl) (T4 _ (cell_keep hst.out c11) (cell_keep hst.out c12)) ?_
              rintro e kw3 ⟨rfl, hbn⟩
              have hst2 := hst.on hbn
              have A2 := A.on hbn
              clear A
              have A := A2
              clear A2
              refine ⟨_, rfl, hK _ _ hst2 ?_⟩
              clear hK K hst hbn
              have hst := hst2
              clear hst2
              simp only [Act.put, List.setIfInBounds_toArray, List.set_cons_zero, List.set_cons_succ]
              refine line_readv (v := R6 y1 y3 y5 y7 y9 y11) rfl (by kernel_rfl) (fun _ => by kernel_rfl) ?_
              simp only [Act.put, List.setIfInBounds_toArray, List.set_cons_zero, List.set_cons_succ]
              have p0 := A.cell 0 _ rfl
              have p1 := A.cell 1 _ rfl
              have p2 := A.cell 2 _ rfl
              have p3 := A.cell 3 _ rfl
              have p4 := A.cell 4 _ rfl
              have p5 := A.cell 5 _ rfl
              have f0 := A.free 0 _ rfl
              have f1 := A.free 1 _ rfl
              have f2 := A.free 2 _ rfl
              have f3 := A.free 3 _ rfl
              have f4 := A.free 4 _ rfl
              have f5 := A.free 5 _ rfl
              refine line_alone rfl (by kernel_rfl) (fun K hK => ?_)
              go_big_op
              refine hK _ _ (⟨(by (iterate 6 (refine bset ?_ (by dsimp only; omega) _)); exact hst.out)⟩) ?_
              clear hK K
              have A9 := ((((((A.set 0 (.int .i64 y1)).set 1 (.int .i64 y3)).set 2 (.int .i64 y5)).set 3 (.int .i64 y7)).set 4 (.int .i64 y9)).set 5 (.int .i64 y11))
              refine line_nil ?_
              go_wp2_with fail
              go_meet
              case rel => exact ⟨_, rfl, A9, (by (iterate 6 (refine bset ?_ (by dsimp only; omega) _)); exact hst.out), leA⟩
          · go_big_op
            have hst2 := hst.on (bal (Below.refl _ V1) (.cells #[.int .i64 0, .int .i64 0, .int .i64 0, .int .i64 0, .int .i64 0, .int .i64 0] 49))
            have A := At.new V1 [.int .i64 0, .int .i64 0, .int .i64 0, .int .i64 0, .int .i64 0, .int .i64 0] 49
            have leA : W1.heap.size ≤ V1.heap.size := hst.out.size
            refine hK _ _ hst2 ?_
            clear hK K hst
            have hst := hst2
            clear hst2
            generalize V1.alloc (.cells #[.int .i64 0, .int .i64 0, .int .i64 0, .int .i64 0, .int .i64 0, .int .i64 0] 49) = xa at *
            refine any_rest [(1, false), (3, false), (5, false), (8, false), (9, true), (11, false)] (by kernel_rfl) (fun _ _ d _ _ h => by cases d <;> exact h) ?_
            refine line_alone rfl (by kernel_rfl) (fun K hK => ?_)
            refine call_any (args := #[.slice (some ⟨b, off, none⟩) 13 cap, .int .i64 1]) rfl (by kernel_rfl) (by kernel_rfl) (T1 _ (cell_keep hst.out c1) (cell_keep hst.out c2)) ?_
            rintro e kw0 ⟨rfl, hbn⟩
            have hst2 := hst.on hbn
            have A2 := A.on hbn
            clear A
            have A := A2
            clear A2
            refine ⟨_, rfl, hK _ _ hst2 ?_⟩
            clear hK K hst hbn
            have hst := hst2
            clear hst2
            simp only [Act.put, List.setIfInBounds_toArray, List.set_cons_zero, List.set_cons_succ]
            refine line_alone rfl (by kernel_rfl) (fun K hK => ?_)
            refine call_any (args := #[.slice (some ⟨b, off, none⟩) 13 cap, .int .i64 3]) rfl (by kernel_rfl) (by kernel_rfl) (T2 _ (cell_keep hst.out c3) (cell_keep hst.out c4)) ?_
            rintro e kw1 ⟨rfl, hbn⟩
            have hst2 := hst.on hbn
            have A2 := A.on hbn
            clear A
            have A := A2
            clear A2
            refine ⟨_, rfl, hK _ _ hst2 ?_⟩
            clear hK K hst hbn
            have hst := hst2
            clear hst2
            simp only [Act.put, List.setIfInBounds_toArray, List.set_cons_zero, List.set_cons_succ]
            refine line_alone rfl (by kernel_rfl) (fun K hK => ?_)
            refine call_any (args := #[.slice (some ⟨b, off, none⟩) 13 cap, .int .i64 5]) rfl (by kernel_rfl) (by kernel_rfl) (T3 _ (cell_keep hst.out c5) (cell_keep hst.out c6)) ?_
            rintro e kw2 ⟨rfl, hbn⟩
            have hst2 := hst.on hbn
            have A2 := A.on hbn
            clear A
            have A := A2
            clear A2
            refine ⟨_, rfl, hK _ _ hst2 ?_⟩
            clear hK K hst hbn
            have hst := hst2
            clear hst2
            simp only [Act.put, List.setIfInBounds_toArray, List.set_cons_zero, List.set_cons_succ]
            refine line_alone rfl (by kernel_rfl) (fun K hK => ?_)
            refine call_any (args := #[.slice (some ⟨b, off, none⟩) 13 cap, .int .i64 11]) rfl (by kernel_rfl) (by kernel_rfl) (T4 _ (cell_keep hst.out c11) (cell_keep hst.out c12)) ?_
            rintro e kw3 ⟨rfl, hbn⟩
            have hst2 := hst.on hbn
            have A2 := A.on hbn
            clear A
            have A := A2
            clear A2
            refine ⟨_, rfl, hK _ _ hst2 ?_⟩
            clear hK K hst hbn
            have hst := hst2
            clear hst2
            simp only [Act.put, List.setIfInBounds_toArray, List.set_cons_zero, List.set_cons_succ]
            refine line_readv (v := R6 y1 y3 y5 y7 y9 y11) rfl (by kernel_rfl) (fun _ => by kernel_rfl) ?_
            simp only [Act.put, List.setIfInBounds_toArray, List.set_cons_zero, List.set_cons_succ]
            have p0 := A.cell 0 _ rfl
            have p1 := A.cell 1 _ rfl
            have p2 := A.cell 2 _ rfl
            have p3 := A.cell 3 _ rfl
            have p4 := A.cell 4 _ rfl
            have p5 := A.cell 5 _ rfl
            have f0 := A.free 0 _ rfl
            have f1 := A.free 1 _ rfl
            have f2 := A.free 2 _ rfl
            have f3 := A.free 3 _ rfl
            have f4 := A.free 4 _ rfl
            have f5 := A.free 5 _ rfl
            refine line_alone rfl (by kernel_rfl) (fun K hK => ?_)
            go_big_op
            refine hK _ _ (⟨(by (iterate 6 (refine bset ?_ (by dsimp only; omega) _)); exact hst.out)⟩) ?_
            clear hK K
            have A9 := ((((((A.set 0 (.int .i64 y1)).set 1 (.int .i64 y3)).set 2 (.int .i64 y5)).set 3 (.int .i64 y7)).set 4 (.int .i64 y9)).set 5 (.int .i64 y11))
            refine line_nil ?_
            go_wp2_with fail
            go_meet
            case rel => exact ⟨_, rfl, A9, (by (iterate 6 (refine bset ?_ (by dsimp only; omega) _)); exact hst.out), leA⟩
        case rest =>
          obtain ⟨g, rfl, A3, b4, hg⟩ := hcut
          have lt1 : w.heap.size < W1.heap.size := A1.lt (by simp)
          have b5 := btr b3 b4
          have A4 := A1.on b4
          clear A1 b3 G1 b2
          go_wp2_with fail
          have S0 : Hold w g [.int .i64 y1, .int .i64 y3, .int .i64 y5, .int .i64 y7, .int .i64 y9, .int .i64 y11] wc.drew := ⟨b5.drew, A3.on (bdrew wc)⟩
          have AA := A4.on (bdrew wc)
          refine wp_region_line (Hold w g [.int .i64 y1, .int .i64 y3, .int .i64 y5, .int .i64 y7, .int .i64 y9, .int .i64 y11]) [(0, true), (1, true), (2, true), (3, false), (4, true), (5, true), (6, false), (7, true)] (by kernel_rfl) (by kernel_rfl) (fun _ _ d _ _ h => by cases d <;> exact h) S0 ?_
          have hst := S0
          have inst : Nonempty (Of (Hold w g [.int .i64 y1, .int .i64 y3, .int .i64 y5, .int .i64 y7, .int .i64 y9, .int .i64 y11])) := ⟨⟨_, hst⟩⟩
          have q0 := hold_cell (W := w) (g := g) (cs := [.int .i64 y1, .int .i64 y3, .int .i64 y5, .int .i64 y7, .int .i64 y9, .int .i64 y11]) 0 _ rfl
          have q1 := hold_cell (W := w) (g := g) (cs := [.int .i64 y1, .int .i64 y3, .int .i64 y5, .int .i64 y7, .int .i64 y9, .int .i64 y11]) 1 _ rfl
          have q2 := hold_cell (W := w) (g := g) (cs := [.int .i64 y1, .int .i64 y3, .int .i64 y5, .int .i64 y7, .int .i64 y9, .int .i64 y11]) 2 _ rfl
          have q3 := hold_cell (W := w) (g := g) (cs := [.int .i64 y1, .int .i64 y3, .int .i64 y5, .int .i64 y7, .int .i64 y9, .int .i64 y11]) 3 _ rfl
          have q4 := hold_cell (W := w) (g := g) (cs := [.int .i64 y1, .int .i64 y3, .int .i64 y5, .int .i64 y7, .int .i64 y9, .int .i64 y11]) 4 _ rfl
          have q5 := hold_cell (W := w) (g := g) (cs := [.int .i64 y1, .int .i64 y3, .int .i64 y5, .int .i64 y7, .int .i64 y9, .int .i64 y11]) 5 _ rfl
          clear S0 A3 A4 b4 b5
          generalize wc.drew = V2 at *
          iterate 3 (refine line_read rfl (by kernel_rfl) (fun K hK => ?_); go_big_quiet_op; refine hK _ ?_; clear hK K)
          clear q0 q1 q2 q3 q4 q5
          refine line_alone rfl (by kernel_rfl) (fun K hK => ?_)
          refine call_any (args := #[.pointer (some ⟨g, 0, none⟩)]) rfl (by kernel_rfl) (by kernel_rfl) (hF _ _ hst.at') ?_
          rintro e x9 ⟨rfl, rfl⟩
          refine ⟨_, rfl, hK _ _ hst ?_⟩
          clear hK K
          simp only [Act.put, List.setIfInBounds_toArray, List.set_cons_zero, List.set_cons_succ]
          iterate 2 (refine line_read rfl (by kernel_rfl) (fun K hK => ?_); go_big_quiet_op; refine hK _ ?_; clear hK K)
          have p0 := AA.cell 0 _ rfl
          have p1 := AA.cell 1 _ rfl
          have p2 := AA.cell 2 _ rfl
          have p3 := AA.cell 3 _ rfl
          have p4 := AA.cell 4 _ rfl
          have p5 := AA.cell 5 _ rfl
          have z0 := AA.free 0 _ rfl
          have z1 := AA.free 1 _ rfl
          have z2 := AA.free 2 _ rfl
          have z3 := AA.free 3 _ rfl
          have z4 := AA.free 4 _ rfl
          have z5 := AA.free 5 _ rfl
          refine line_alone rfl (by kernel_rfl) (fun K hK => ?_)
          go_big_op
          refine hK _ _ ((by (iterate 6 (refine Hold.setB ?_ (by dsimp only; omega) (by dsimp only; omega) _)); exact hst)) ?_
          clear hK K
          iterate 1 (refine line_read rfl (by kernel_rfl) (fun K hK => ?_); go_big_quiet_op; refine hK _ ?_; clear hK K)
          refine line_nil ?_
          have HB := Lib.hid hst.bel
          clear hst inst AA
          go_wp2_with fail
          refine bodyPost_ret (v := .tuple #[R6 y1 y3 y5 y7 y9 y11, .bool (cd == 0)]) (by simp [results, Tryd.results47, go_sem, p0, p1, p2, p3, p4, p5]) rfl (HP _ ?_)
          exact (by (iterate 6 (refine bset ?_ (by dsimp only; omega) _)); exact HB.out)
    · have hno : repOk zs = false := by simp only [repOk, decide_eq_false hz1, Bool.and_false, Bool.false_and]
      have F : RepRead zs w (.returned (.tuple #[R6 0 0 0 0 0 0, .bool false])) (w.alloc (.cells #[.int .i64 0, .int .i64 0, .int .i64 0, .int .i64 0, .int .i64 0, .int .i64 0] 49)) := ⟨_, _, _, _, _, _, by rw [hno], (fun h => by rw [hno] at h; cases h), b0⟩
      have q1 : (zs.getD 0 0 != 2) = true := by simpa using hz1
      generalize zs.getD 0 0 = z at *
      clear hR hc hno
      go_enter Tryd.func47, Tryd.ntmps47
      go_wp2_with fail
      exact bodyPost_ret (v := .tuple #[R6 0 0 0 0 0 0, .bool false]) (by simp [results, Tryd.results47, go_sem]) rfl F
  · have hno : repOk zs = false := by simp only [repOk, hzl, decide_eq_false h13, Bool.false_and]
    have F : RepRead zs w (.returned (.tuple #[R6 0 0 0 0 0 0, .bool false])) (w.alloc (.cells #[.int .i64 0, .int .i64 0, .int .i64 0, .int .i64 0, .int .i64 0, .int .i64 0] 49)) := ⟨_, _, _, _, _, _, by rw [hno], (fun h => by rw [hno] at h; cases h), b0⟩
    have q1 : ((len : Int) != 13) = true := by simp; omega
    clear hR hno
    go_enter Tryd.func47, Tryd.ntmps47
    go_wp2_with fail
    exact bodyPost_ret (v := .tuple #[R6 0 0 0 0 0 0, .bool false]) (by simp [results, Tryd.results47, go_sem]) rfl F
theorem specReadReply_any (a : Option Addr) (len cap B : Nat) (zs : List Int) (w : World) (hR : Row .u8 w B a len cap zs) (hB : B ≤ w.heap.size) :
    Calls Tryd.prog 28 #[.slice a len cap] w fun e w' => e = .returned (repT zs) ∧ Below w.heap.size w w' := by
  have b0 := bal (Below.refl _ w) (.cells #[.int .i64 0, .int .i64 0, .int .i64 0, .int .i64 0, .int .i64 0, .int .i64 0, .int .i64 0] 54)
  have A0 := At.new w (RL7 0 0 0 0 0 0 0) 54
  have F := fun w R hB => l6ReadReply_any a len cap B zs w R hB
  have R0 := hR.below (b0.mono hB)
  have hB0 : B ≤ (w.alloc (.cells #[.int .i64 0, .int .i64 0, .int .i64 0, .int .i64 0, .int .i64 0, .int .i64 0, .int .i64 0] 54)).heap.size := by simp; omega
  clear hR
  cases hh : repOk zs
  · rw [repT_no hh]
    go_enter Tryd.func28, Tryd.ntmps28
    go_wp2_with fail
    generalize w.alloc (.cells #[.int .i64 0, .int .i64 0, .int .i64 0, .int .i64 0, .int .i64 0, .int .i64 0, .int .i64 0] 54) = W0 at *
    refine (F _ R0 hB0).mono ?_
    rintro e u1 ⟨r, s, p, x, y, f, rfl, hv, b1⟩
    rw [hh] at hv ⊢
    have lt1 : w.heap.size < u1.heap.size := (A0.on b1).lt (by simp)
    have k0 := (A0.on b1).cell 0 _ rfl
    have k1 := (A0.on b1).cell 1 _ rfl
    have k2 := (A0.on b1).cell 2 _ rfl
    have k3 := (A0.on b1).cell 3 _ rfl
    have k4 := (A0.on b1).cell 4 _ rfl
    have k5 := (A0.on b1).cell 5 _ rfl
    have k6 := (A0.on b1).cell 6 _ rfl
    have z0 := (A0.on b1).free 0 _ rfl
    have z1 := (A0.on b1).free 1 _ rfl
    have z2 := (A0.on b1).free 2 _ rfl
    have z3 := (A0.on b1).free 3 _ rfl
    have z4 := (A0.on b1).free 4 _ rfl
    have z5 := (A0.on b1).free 5 _ rfl
    have z6 := (A0.on b1).free 6 _ rfl
    have A9 := ((((((((A0.on b1).set 0 (.int .i64 5)).set 1 (.int .i64 0)).set 2 (.int .i64 0)).set 3 (.int .i64 0)).set 4 (.int .i64 0)).set 5 (.int .i64 0)).set 6 (.int .i64 0)).alloc (.cells #[.int .i64 r, .int .i64 s, .int .i64 p, .int .i64 x, .int .i64 y, .int .i64 f] 49)
    have q0 := A9.cell 0 _ rfl
    have q1 := A9.cell 1 _ rfl
    have q2 := A9.cell 2 _ rfl
    have q3 := A9.cell 3 _ rfl
    have q4 := A9.cell 4 _ rfl
    have q5 := A9.cell 5 _ rfl
    have q6 := A9.cell 6 _ rfl
    have HB := Lib.hid (bal (bset (bset (bset (bset (bset (bset (bset (btr b0 b1) (p := ⟨w.heap.size, 0, none⟩) (Nat.le_refl _) (.int .i64 5)) (p := ⟨w.heap.size, 1, none⟩) (Nat.le_refl _) (.int .i64 0)) (p := ⟨w.heap.size, 2, none⟩) (Nat.le_refl _) (.int .i64 0)) (p := ⟨w.heap.size, 3, none⟩) (Nat.le_refl _) (.int .i64 0)) (p := ⟨w.heap.size, 4, none⟩) (Nat.le_refl _) (.int .i64 0)) (p := ⟨w.heap.size, 5, none⟩) (Nat.le_refl _) (.int .i64 0)) (p := ⟨w.heap.size, 6, none⟩) (Nat.le_refl _) (.int .i64 0)) (.cells #[.int .i64 r, .int .i64 s, .int .i64 p, .int .i64 x, .int .i64 y, .int .i64 f] 49))
    clear A0 A9 b0 b1 hv F R0
    go_wp2_with fail
    refine bodyPost_ret (v := R7 5 0 0 0 0 0 0) (by simp [results, Tryd.results28, go_sem, q0, q1, q2, q3, q4, q5, q6]) rfl ⟨rfl, HB.out⟩
  · rw [repT_yes hh]
    go_enter Tryd.func28, Tryd.ntmps28
    go_wp2_with fail
    generalize w.alloc (.cells #[.int .i64 0, .int .i64 0, .int .i64 0, .int .i64 0, .int .i64 0, .int .i64 0, .int .i64 0] 54) = W0 at *
    refine (F _ R0 hB0).mono ?_
    rintro e u1 ⟨r, s, p, x, y, f, rfl, hv, b1⟩
    rw [hh] at hv ⊢
    have lt1 : w.heap.size < u1.heap.size := (A0.on b1).lt (by simp)
    have k0 := (A0.on b1).cell 0 _ rfl
    have k1 := (A0.on b1).cell 1 _ rfl
    have k2 := (A0.on b1).cell 2 _ rfl
    have k3 := (A0.on b1).cell 3 _ rfl
    have k4 := (A0.on b1).cell 4 _ rfl
    have k5 := (A0.on b1).cell 5 _ rfl
    have k6 := (A0.on b1).cell 6 _ rfl
    have z0 := (A0.on b1).free 0 _ rfl
    have z1 := (A0.on b1).free 1 _ rfl
    have z2 := (A0.on b1).free 2 _ rfl
    have z3 := (A0.on b1).free 3 _ rfl
    have z4 := (A0.on b1).free 4 _ rfl
    have z5 := (A0.on b1).free 5 _ rfl
    have z6 := (A0.on b1).free 6 _ rfl
    obtain ⟨rfl, rfl, rfl, rfl, rfl, rfl⟩ := hv rfl
    generalize e1 : tw zs 1 = y1 at *
    generalize e3 : tw zs 3 = y3 at *
    generalize e5 : tw zs 5 = y5 at *
    generalize e7 : tw zs 7 = y7 at *
    generalize e9 : tw zs 9 = y9 at *
    generalize e11 : tw zs 11 = y11 at *
    have A9 := ((((((((A0.on b1).set 0 (.int .i64 0)).set 1 (.int .i64 y1)).set 2 (.int .i64 y3)).set 3 (.int .i64 y5)).set 4 (.int .i64 y7)).set 5 (.int .i64 y9)).set 6 (.int .i64 y11)).alloc (.cells #[.int .i64 y1, .int .i64 y3, .int .i64 y5, .int .i64 y7, .int .i64 y9, .int .i64 y11] 49)
    have q0 := A9.cell 0 _ rfl
    have q1 := A9.cell 1 _ rfl
    have q2 := A9.cell 2 _ rfl
    have q3 := A9.cell 3 _ rfl
    have q4 := A9.cell 4 _ rfl
    have q5 := A9.cell 5 _ rfl
    have q6 := A9.cell 6 _ rfl
    have HB := Lib.hid (bal (bset (bset (bset (bset (bset (bset (bset (btr b0 b1) (p := ⟨w.heap.size, 0, none⟩) (Nat.le_refl _) (.int .i64 0)) (p := ⟨w.heap.size, 1, none⟩) (Nat.le_refl _) (.int .i64 y1)) (p := ⟨w.heap.size, 2, none⟩) (Nat.le_refl _) (.int .i64 y3)) (p := ⟨w.heap.size, 3, none⟩) (Nat.le_refl _) (.int .i64 y5)) (p := ⟨w.heap.size, 4, none⟩) (Nat.le_refl _) (.int .i64 y7)) (p := ⟨w.heap.size, 5, none⟩) (Nat.le_refl _) (.int .i64 y9)) (p := ⟨w.heap.size, 6, none⟩) (Nat.le_refl _) (.int .i64 y11)) (.cells #[.int .i64 y1, .int .i64 y3, .int .i64 y5, .int .i64 y7, .int .i64 y9, .int .i64 y11] 49))
    clear A0 A9 b0 b1 hv F R0
    go_wp2_with fail
    refine bodyPost_ret (v := R7 0 y1 y3 y5 y7 y9 y11) (by simp [results, Tryd.results28, go_sem, q0, q1, q2, q3, q4, q5, q6]) rfl ⟨by rw [e1, e3, e5, e7, e9, e11], HB.out⟩
end Go.Proofs.YtepailfhagaboaaDoor
