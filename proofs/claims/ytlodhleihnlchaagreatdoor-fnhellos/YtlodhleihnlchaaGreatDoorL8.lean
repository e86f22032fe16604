/- Texts of this seat that several laws rest on, laid into one. Conditions: as each theorem states. -/
import Derived.Test.YtlodhleihnlchaaGreatDoorL2
import Derived.Test.YtlodhleihnlchaaGreatDoorL4
import Derived.Test.YtlodhleihnlchaaGreatDoorL6
import Derived.Test.YtlodhleihnlchaaGreatDoorL7
import Derived.KernelRfl
import Derived.Test.YtlodhleihnlchaaGreatDoorRows
import Derived.Test.YtlodhleihnlchaaGreatDoorTie
import Derived.Test.YtlodhleihnlchaaGreatDoorCards
import Derived.LaidHandle
import Derived.LaidLaws
import Derived.ProofKit
import Derived.OpenShut
import Derived.WalkSmall
import Derived.Carry
import Derived.Below
import Derived.Deep.DeepHandedRow
import Derived.Lib.LaidTab
import Derived.Lay
import Derived.MakeChecks
import Derived.LaidMore
import Derived.Stop.Joined
namespace Go.Proofs.YtlodhleihnlchaaGreatDoor
open Go.RowKit
set_option maxRecDepth 100000
set_option linter.unusedVariables false

set_option maxHeartbeats 1000000 in
theorem l6ReadReply_any (a : Option Addr) (len cap B : Nat) (zs : List Int) (w : World) (hR : Row .u8 w B a len cap zs) (hB : B ≤ w.heap.size) :
    Calls Tryz.prog 103 #[.slice a len cap] w (RepRead zs w) := by
  have hlen := hR.fits
  have hmost := hR.most
  have hzl := hR.length
  have hm2 := hmost
  unfold maxLen at hm2
  have b0 := bal (Below.refl _ w) (.cells #[.int .i64 0, .int .i64 0, .int .i64 0, .int .i64 0, .int .i64 0, .int .i64 0] 33)
  have A0 := At.new w (RL6 0 0 0 0 0 0) 33
  by_cases h13 : len = 13
  · subst h13
    obtain ⟨b, off, rfl, hb, hc⟩ := hR.cells (by omega)
    have d0 := cell_keep b0 (hc 0 (by omega))
    rw [Nat.add_zero] at d0
    by_cases hz1 : zs.getD 0 0 = 2
    · have R1 := (hR.below (b0.mono hB)).sub 7 4 (cap - 7) (by omega) (by omega) (by omega)
      have hWB : B ≤ (w.alloc (.cells #[.int .i64 0, .int .i64 0, .int .i64 0, .int .i64 0, .int .i64 0, .int .i64 0] 33)).heap.size := by simp; omega
      have L1 := fun w' R => l3Read_any (some ⟨b, off + 7, none⟩) 4 (cap - 7) B (sigZ zs) w' R
      rw [if_pos (sigZ_P hzl).2.2, (sigZ_P hzl).1, (sigZ_P hzl).2.1, sigZ_B hzl] at L1
      have T1 := fun (w' : World) d c => l1At_any b off 13 cap 1 (zs.getD 1 0) (zs.getD 2 0) w' (by omega) (by omega) hlen hmost d c (hR.byte 1).1 (hR.byte 1).2 (hR.byte 2).1 (hR.byte 2).2
      have e1 : tw zs 1 = 256 * zs.getD 1 0 + zs.getD 2 0 := rfl
      rw [← e1] at T1
      clear e1
      have T2 := fun (w' : World) d c => l1At_any b off 13 cap 3 (zs.getD 3 0) (zs.getD 4 0) w' (by omega) (by omega) hlen hmost d c (hR.byte 3).1 (hR.byte 3).2 (hR.byte 4).1 (hR.byte 4).2
      have e3 : tw zs 3 = 256 * zs.getD 3 0 + zs.getD 4 0 := rfl
      rw [← e3] at T2
      clear e3
      have T3 := fun (w' : World) d c => l1At_any b off 13 cap 5 (zs.getD 5 0) (zs.getD 6 0) w' (by omega) (by omega) hlen hmost d c (hR.byte 5).1 (hR.byte 5).2 (hR.byte 6).1 (hR.byte 6).2
      have e5 : tw zs 5 = 256 * zs.getD 5 0 + zs.getD 6 0 := rfl
      rw [← e5] at T3
      clear e5
      have T4 := fun (w' : World) d c => l1At_any b off 13 cap 11 (zs.getD 11 0) (zs.getD 12 0) w' (by omega) (by omega) hlen hmost d c (hR.byte 11).1 (hR.byte 11).2 (hR.byte 12).1 (hR.byte 12).2
      have e11 : tw zs 11 = 256 * zs.getD 11 0 + zs.getD 12 0 := rfl
      rw [← e11] at T4
      clear e11
      have d1 := cell_keep b0 (hc 1 (by omega))
      have d2 := cell_keep b0 (hc 2 (by omega))
      have d3 := cell_keep b0 (hc 3 (by omega))
      have d4 := cell_keep b0 (hc 4 (by omega))
      have d5 := cell_keep b0 (hc 5 (by omega))
      have d6 := cell_keep b0 (hc 6 (by omega))
      have d11 := cell_keep b0 (hc 11 (by omega))
      have d12 := cell_keep b0 (hc 12 (by omega))
      have hF := fun g w A => l6Reply_any g (tw zs 1) (tw zs 3) (tw zs 5) (tw zs 7) (tw zs 9) (tw zs 11) w A
      have hOk : repOk zs = (repF (tw zs 1) (tw zs 3) (tw zs 5) (tw zs 7) (tw zs 9) (tw zs 11) == 0) := by
        unfold repOk repB
        rw [hz1, decide_eq_true hzl]
        simp
        rw [Bool.eq_iff_iff]
        simp
      have hNo : M.sigB (tw zs 7) (tw zs 9) = false → repOk zs = false := fun h => by
        rw [hOk, beq_eq_false_iff_ne]
        intro h0
        rw [(repF_zero h0).2.2.2.2] at h
        cases h
      have HP : ∀ w' : World, Below w.heap.size w w' → RepRead zs w (.returned (.tuple #[R6 (tw zs 1) (tw zs 3) (tw zs 5) (tw zs 7) (tw zs 9) (tw zs 11), .bool (repF (tw zs 1) (tw zs 3) (tw zs 5) (tw zs 7) (tw zs 9) (tw zs 11) == 0)])) w' := fun w' hb => ⟨_, _, _, _, _, _, by rw [hOk], (fun _ => ⟨rfl, rfl, rfl, rfl, rfl, rfl⟩), hb⟩
      have HN : M.sigB (tw zs 7) (tw zs 9) = false → ∀ w' : World, Below w.heap.size w w' → RepRead zs w (.returned (.tuple #[R6 (tw zs 1) (tw zs 3) (tw zs 5) (tw zs 7) (tw zs 9) (tw zs 11), .bool false])) w' := fun h w' hb => ⟨_, _, _, _, _, _, by rw [hNo h], (fun _ => ⟨rfl, rfl, rfl, rfl, rfl, rfl⟩), hb⟩
      rw [hz1] at d0
      clear hOk hNo
      generalize HQ : RepRead zs w = Q at *
      clear HQ
      generalize repF (tw zs 1) (tw zs 3) (tw zs 5) (tw zs 7) (tw zs 9) (tw zs 11) = cd at *
      generalize tw zs 1 = y1 at *
      generalize tw zs 3 = y3 at *
      generalize tw zs 5 = y5 at *
      generalize tw zs 7 = y7 at *
      generalize tw zs 9 = y9 at *
      generalize tw zs 11 = y11 at *
      clear hR hc hmost
      cases hsg : M.sigB y7 y9
      · rw [hsg] at L1
        go_enter Tryz.func103, Tryz.ntmps103
        go_wp2_with fail
        generalize w.alloc (.cells #[.int .i64 0, .int .i64 0, .int .i64 0, .int .i64 0, .int .i64 0, .int .i64 0] 33) = W0 at *
        refine (L1 _ R1 hWB).mono ?_
        rintro e u1 ⟨rfl, b1⟩
        have G1 := At.new u1 [.int .i64 y7, .int .i64 y9] 31
        have b2 := bal b1 (.cells #[.int .i64 y7, .int .i64 y9] 31)
        have b3 := btr b0 b2
        have A1 := A0.on b2
        have lt0 : w.heap.size < u1.heap.size := (A0.on b1).lt (by simp)
        have c1 := cell_keep b2 d1
        have c2 := cell_keep b2 d2
        have c3 := cell_keep b2 d3
        have c4 := cell_keep b2 d4
        have c5 := cell_keep b2 d5
        have c6 := cell_keep b2 d6
        have c11 := cell_keep b2 d11
        have c12 := cell_keep b2 d12
        clear R1 L1 b1 b0 A0 d0
        go_upto_region 4 with fail
        generalize u1.alloc (.cells #[.int .i64 y7, .int .i64 y9] 31) = W1 at *
        go_cut [6] from 23 to 33 (fun v' wx => CellsAt W1 [.int .i64 y1, .int .i64 y3, .int .i64 y5, .int .i64 y7, .int .i64 y9, .int .i64 y11] v' wx)
        case first =>
          refine wp_region_fork (Bel W1) (by kernel_rfl) (Bel.drew W1) ?_
          have hst : (Bel W1) _ := (Bel.drew W1)
          have inst : Nonempty (Of (Bel W1)) := ⟨⟨_, hst⟩⟩
          have q0 := bel_cell (G1.cell 0 _ rfl)
          have q1 := bel_cell (G1.cell 1 _ rfl)
          generalize W1.drew = V1 at *
          refine any_seg 7 [(0, true), (2, true), (4, true), (6, true), (7, true)] (by kernel_rfl) (fun _ _ d _ _ h => by cases d <;> exact h) ?_
          iterate 5 (refine line_read rfl (by kernel_rfl) (fun K hK => ?_); go_big_quiet_op; refine hK _ ?_; clear hK K)
          refine line_nil ?_
          clear q0 q1
          refine any_fork 1 10 (by kernel_rfl) rfl rfl (by kernel_rfl) (by kernel_rfl) (fun K hK => ?_) (fun K hK => ?_)
          · refine call_any (args := #[.slice (some ⟨b, off, none⟩) 13 cap, .int .i64 1]) rfl (by kernel_rfl) (by kernel_rfl) (T1 _ (cell_keep hst.out c1) (cell_keep hst.out c2)) ?_
            rintro e x0 ⟨rfl, hbn⟩
            have hst2 := hst.on hbn
            refine ⟨_, rfl, hK _ _ hst2 ?_⟩
            clear hK K hst hbn
            have hst := hst2
            clear hst2
            simp only [Act.put, List.setIfInBounds_toArray, List.set_cons_zero, List.set_cons_succ]
            refine any_fork 3 10 (by kernel_rfl) rfl rfl (by kernel_rfl) (by kernel_rfl) (fun K hK => ?_) (fun K hK => ?_)
            · refine call_any (args := #[.slice (some ⟨b, off, none⟩) 13 cap, .int .i64 3]) rfl (by kernel_rfl) (by kernel_rfl) (T2 _ (cell_keep hst.out c3) (cell_keep hst.out c4)) ?_
              rintro e x1 ⟨rfl, hbn⟩
              have hst2 := hst.on hbn
              refine ⟨_, rfl, hK _ _ hst2 ?_⟩
              clear hK K hst hbn
              have hst := hst2
              clear hst2
              simp only [Act.put, List.setIfInBounds_toArray, List.set_cons_zero, List.set_cons_succ]
              refine any_fork 5 10 (by kernel_rfl) rfl rfl (by kernel_rfl) (by kernel_rfl) (fun K hK => ?_) (fun K hK => ?_)
              · refine call_any (args := #[.slice (some ⟨b, off, none⟩) 13 cap, .int .i64 5]) rfl (by kernel_rfl) (by kernel_rfl) (T3 _ (cell_keep hst.out c5) (cell_keep hst.out c6)) ?_
                rintro e x2 ⟨rfl, hbn⟩
                have hst2 := hst.on hbn
                refine ⟨_, rfl, hK _ _ hst2 ?_⟩
                clear hK K hst hbn
                have hst := hst2
                clear hst2
                simp only [Act.put, List.setIfInBounds_toArray, List.set_cons_zero, List.set_cons_succ]
                refine any_fork 8 10 (by kernel_rfl) rfl rfl (by kernel_rfl) (by kernel_rfl) (fun K hK => ?_) (fun K hK => ?_)
                · refine call_any (args := #[.slice (some ⟨b, off, none⟩) 13 cap, .int .i64 11]) rfl (by kernel_rfl) (by kernel_rfl) (T4 _ (cell_keep hst.out c11) (cell_keep hst.out c12)) ?_
                  rintro e x3 ⟨rfl, hbn⟩
                  have hst2 := hst.on hbn
                  refine ⟨_, rfl, hK _ _ hst2 ?_⟩
                  clear hK K hst hbn
                  have hst := hst2
                  clear hst2
                  simp only [Act.put, List.setIfInBounds_toArray, List.set_cons_zero, List.set_cons_succ]
                  refine any_rest [(9, true), (10, false), (11, false)] (by kernel_rfl) (fun _ _ d _ _ h => by cases d <;> exact h) ?_
                  refine line_readv (v := R6 y1 y3 y5 y7 y9 y11) rfl (by kernel_rfl) (fun _ => by kernel_rfl) ?_
                  simp only [Act.put, List.setIfInBounds_toArray, List.set_cons_zero, List.set_cons_succ]
                  refine line_alone rfl (by kernel_rfl) (fun K hK => ?_)
                  go_big_op
                  have hst2 := hst.on (bal (Below.refl _ x3) (.cells #[.int .i64 0, .int .i64 0, .int .i64 0, .int .i64 0, .int .i64 0, .int .i64 0] 33))
                  have A := At.new x3 [.int .i64 0, .int .i64 0, .int .i64 0, .int .i64 0, .int .i64 0, .int .i64 0] 33
                  have leA : W1.heap.size ≤ x3.heap.size := hst.out.size
                  refine hK _ _ hst2 ?_
                  clear hK K hst
                  have hst := hst2
                  clear hst2
                  generalize x3.alloc (.cells #[.int .i64 0, .int .i64 0, .int .i64 0, .int .i64 0, .int .i64 0, .int .i64 0] 33) = xa at *
                  have p0 := A.cell 0 _ rfl
                  have p1 := A.cell 1 _ rfl
                  have p2 := A.cell 2 _ rfl
                  have p3 := A.cell 3 _ rfl
                  have p4 := A.cell 4 _ rfl
                  have p5 := A.cell 5 _ rfl
                  have f0 := A.free 0 _ rfl
                  have f1 := A.free 1 _ rfl
                  have f2 := A.free 2 _ rfl
                  have f3 := A.free 3 _ rfl
                  have f4 := A.free 4 _ rfl
                  have f5 := A.free 5 _ rfl
                  refine line_alone rfl (by kernel_rfl) (fun K hK => ?_)
                  go_big_op
                  refine hK _ _ (⟨(by (iterate 6 (refine bset ?_ (by dsimp only; omega) _)); exact hst.out)⟩) ?_
                  clear hK K
                  have A9 := ((((((A.set 0 (.int .i64 y1)).set 1 (.int .i64 y3)).set 2 (.int .i64 y5)).set 3 (.int .i64 y7)).set 4 (.int .i64 y9)).set 5 (.int .i64 y11))
                  refine line_nil ?_
                  go_wp2_with fail
                  go_meet
                  case rel => exact ⟨_, rfl, A9, (by (iterate 6 (refine bset ?_ (by dsimp only; omega) _)); exact hst.out), leA⟩
                · go_big_op
                  have hst2 := hst.on (bal (Below.refl _ x2) (.cells #[.int .i64 0, .int .i64 0, .int .i64 0, .int .i64 0, .int .i64 0, .int .i64 0] 33))
                  have A := At.new x2 [.int .i64 0, .int .i64 0, .int .i64 0, .int .i64 0, .int .i64 0, .int .i64 0] 33
                  have leA : W1.heap.size ≤ x2.heap.size := hst.out.size
                  refine hK _ _ hst2 ?_
                  clear hK K hst
                  have hst := hst2
                  clear hst2
                  generalize x2.alloc (.cells #[.int .i64 0, .int .i64 0, .int .i64 0, .int .i64 0, .int .i64 0, .int .i64 0] 33) = xa at *
                  refine any_rest [(8, false), (9, true), (11, false)] (by kernel_rfl) (fun _ _ d _ _ h => by cases d <;> exact h) ?_
                  refine line_alone rfl (by kernel_rfl) (fun K hK => ?_)
                  refine call_any (args := #[.slice (some ⟨b, off, none⟩) 13 cap, .int .i64 11]) rfl (by kernel_rfl) (by kernel_rfl) (T4 _ (cell_keep hst.out c11) (cell_keep hst.out c12)) ?_
                  rintro e kw3 ⟨rfl, hbn⟩
                  have hst2 := hst.on hbn
                  have A2 := A.on hbn
                  clear A
                  have A := A2
                  clear A2
                  refine ⟨_, rfl, hK _ _ hst2 ?_⟩
                  clear hK K hst hbn
                  have hst := hst2
                  clear hst2
                  simp only [Act.put, List.setIfInBounds_toArray, List.set_cons_zero, List.set_cons_succ]
                  refine line_readv (v := R6 y1 y3 y5 y7 y9 y11) rfl (by kernel_rfl) (fun _ => by kernel_rfl) ?_
                  simp only [Act.put, List.setIfInBounds_toArray, List.set_cons_zero, List.set_cons_succ]
                  have p0 := A.cell 0 _ rfl
                  have p1 := A.cell 1 _ rfl
                  have p2 := A.cell 2 _ rfl
                  have p3 := A.cell 3 _ rfl
                  have p4 := A.cell 4 _ rfl
                  have p5 := A.cell 5 _ rfl
                  have f0 := A.free 0 _ rfl
                  have f1 := A.free 1 _ rfl
                  have f2 := A.free 2 _ rfl
                  have f3 := A.free 3 _ rfl
                  have f4 := A.free 4 _ rfl
                  have f5 := A.free 5 _ rfl
                  refine line_alone rfl (by kernel_rfl) (fun K hK => ?_)
                  go_big_op
                  refine hK _ _ (⟨(by (iterate 6 (refine bset ?_ (by dsimp only; omega) _)); exact hst.out)⟩) ?_
                  clear hK K
                  have A9 := ((((((A.set 0 (.int .i64 y1)).set 1 (.int .i64 y3)).set 2 (.int .i64 y5)).set 3 (.int .i64 y7)).set 4 (.int .i64 y9)).set 5 (.int .i64 y11))
                  refine line_nil ?_
                  go_wp2_with fail
                  go_meet
                  case rel => exact ⟨_, rfl, A9, (by (iterate 6 (refine bset ?_ (by dsimp only; omega) _)); exact hst.out), leA⟩
              · go_big_op
                have hst2 := hst.on (bal (Below.refl _ x1) (.cells #[.int .i64 0, .int .i64 0, .int .i64 0, .int .i64 0, .int .i64 0, .int .i64 0] 33))
                have A := At.new x1 [.int .i64 0, .int .i64 0, .int .i64 0, .int .i64 0, .int .i64 0, .int .i64 0] 33
                have leA : W1.heap.size ≤ x1.heap.size := hst.out.size
                refine hK _ _ hst2 ?_
                clear hK K hst
                have hst := hst2
                clear hst2
                generalize x1.alloc (.cells #[.int .i64 0, .int .i64 0, .int .i64 0, .int .i64 0, .int .i64 0, .int .i64 0] 33) = xa at *
                refine any_rest [(5, false), (8, false), (9, true), (11, false)] (by kernel_rfl) (fun _ _ d _ _ h => by cases d <;> exact h) ?_
                refine line_alone rfl (by kernel_rfl) (fun K hK => ?_)
                refine call_any (args := #[.slice (some ⟨b, off, none⟩) 13 cap, .int .i64 5]) rfl (by kernel_rfl) (by kernel_rfl) (T3 _ (cell_keep hst.out c5) (cell_keep hst.out c6)) ?_
                rintro e kw2 ⟨rfl, hbn⟩
                have hst2 := hst.on hbn
                have A2 := A.on hbn
                clear A
                have A := A2
                clear A2
                refine ⟨_, rfl, hK _ _ hst2 ?_⟩
                clear hK K hst hbn
                have hst := hst2
                clear hst2
                simp only [Act.put, List.setIfInBounds_toArray, List.set_cons_zero, List.set_cons_succ]
                refine line_alone rfl (by kernel_rfl) (fun K hK => ?_)
                refine call_any (args := #[.slice (some ⟨b, off, none⟩) 13 cap, .int .i64 11]) rfl (by kernel_rfl) (by kernel_rfl) (T4 _ (cell_keep hst.out c11) (cell_keep hst.out c12)) ?_
                rintro e kw3 ⟨rfl, hbn⟩
                have hst2 := hst.on hbn
                have A2 := A.on hbn
                clear A
                have A := A2
                clear A2
                refine ⟨_, rfl, hK _ _ hst2 ?_⟩
                clear hK K hst hbn
                have hst := hst2
                clear hst2
                simp only [Act.put, List.setIfInBounds_toArray, List.set_cons_zero, List.set_cons_succ]
                refine line_readv (v := R6 y1 y3 y5 y7 y9 y11) rfl (by kernel_rfl) (fun _ => by kernel_rfl) ?_
                simp only [Act.put, List.setIfInBounds_toArray, List.set_cons_zero, List.set_cons_succ]
                have p0 := A.cell 0 _ rfl
                have p1 := A.cell 1 _ rfl
                have p2 := A.cell 2 _ rfl
                have p3 := A.cell 3 _ rfl
                have p4 := A.cell 4 _ rfl
                have p5 := A.cell 5 _ rfl
                have f0 := A.free 0 _ rfl
                have f1 := A.free 1 _ rfl
                have f2 := A.free 2 _ rfl
                have f3 := A.free 3 _ rfl
                have f4 := A.free 4 _ rfl
                have f5 := A.free 5 _ rfl
                refine line_alone rfl (by kernel_rfl) (fun K hK => ?_)
                go_big_op
                refine hK _ _ (⟨(by (iterate 6 (refine bset ?_ (by dsimp only; omega) _)); exact hst.out)⟩) ?_
                clear hK K
                have A9 := ((((((A.set 0 (.int .i64 y1)).set 1 (.int .i64 y3)).set 2 (.int .i64 y5)).set 3 (.int .i64 y7)).set 4 (.int .i64 y9)).set 5 (.int .i64 y11))
                refine line_nil ?_
                go_wp2_with fail
                go_meet
                case rel => exact ⟨_, rfl, A9, (by (iterate 6 (refine bset ?_ (by dsimp only; omega) _)); exact hst.out), leA⟩
            · go_big_op
              have hst2 := hst.on (bal (Below.refl _ x0) (.cells #[.int .i64 0, .int .i64 0, .int .i64 0, .int .i64 0, .int .i64 0, .int .i64 0] 33))
              have A := At.new x0 [.int .i64 0, .int .i64 0, .int .i64 0, .int .i64 0, .int .i64 0, .int .i64 0] 33
              have leA : W1.heap.size ≤ x0.heap.size := hst.out.size
              refine hK _ _ hst2 ?_
              clear hK K hst
              have hst := hst2
              clear hst2
              generalize x0.alloc (.cells #[.int .i64 0, .int .i64 0, .int .i64 0, .int .i64 0, .int .i64 0, .int .i64 0] 33) = xa at *
              refine any_rest [(3, false), (5, false), (8, false), (9, true), (11, false)] (by kernel_rfl) (fun _ _ d _ _ h => by cases d <;> exact h) ?_
              refine line_alone rfl (by kernel_rfl) (fun K hK => ?_)
              refine call_any (args := #[.slice (some ⟨b, off, none⟩) 13 cap, .int .i64 3]) rfl (by kernel_rfl) (by kernel_rfl) (T2 _ (cell_keep hst.out c3) (cell_keep hst.out c4)) ?_
              rintro e kw1 ⟨rfl, hbn⟩
              have hst2 := hst.on hbn
              have A2 := A.on hbn
              clear A
              have A := A2
              clear A2
              refine ⟨_, rfl, hK _ _ hst2 ?_⟩
              clear hK K hst hbn
              have hst := hst2
              clear hst2
              simp only [Act.put, List.setIfInBounds_toArray, List.set_cons_zero, List.set_cons_succ]
              refine line_alone rfl (by kernel_rfl) (fun K hK => ?_)
              refine call_any (args := #[.slice (some ⟨b, off, none⟩) 13 cap, .int .i64 5]) rfl (by kernel_rfl) (by kernel_rfl) (T3 _ (cell_keep hst.out c5) (cell_keep hst.out c6)) ?_
              rintro e kw2 ⟨rfl, hbn⟩
              have hst2 := hst.on hbn
              have A2 := A.on hbn
              clear A
              have A := A2
              clear A2
              refine ⟨_, rfl, hK _ _ hst2 ?_⟩
              clear hK K hst hbn
              have hst := hst2
              clear hst2
              simp only [Act.put, List.setIfInBounds_toArray, List.set_cons_zero, List.set_cons_succ]
              refine line_alone rfl (by kernel_rfl) (fun K hK => ?_)
              refine call_any (args := #[.slice (some ⟨b, off, none⟩) 13 cap, .int .i64 11]) rfl (by kernel_rfl) (by kernel_rfl) (T4 _ (cell_keep hst.out c11) (cell_keep hst.out c12)) ?_
              rintro e kw3 ⟨rfl, hbn⟩
              have hst2 := hst.on hbn
              have A2 := A.on hbn
              clear A
              have A := A2
              clear A2
              refine ⟨_, rfl, hK _ _ hst2 ?_⟩
              clear hK K hst hbn
              have hst := hst2
              clear hst2
              simp only [Act.put, List.setIfInBounds_toArray, List.set_cons_zero, List.set_cons_succ]
              refine line_readv (v := R6 y1 y3 y5 y7 y9 y11) rfl (by kernel_rfl) (fun _ => by kernel_rfl) ?_
              simp only [Act.put, List.setIfInBounds_toArray, List.set_cons_zero, List.set_cons_succ]
              have p0 := A.cell 0 _ rfl
              have p1 := A.cell 1 _ rfl
              have p2 := A.cell 2 _ rfl
              have p3 := A.cell 3 _ rfl
              have p4 := A.cell 4 _ rfl
              have p5 := A.cell 5 _ rfl
              have f0 := A.free 0 _ rfl
              have f1 := A.free 1 _ rfl
              have f2 := A.free 2 _ rfl
              have f3 := A.free 3 _ rfl
              have f4 := A.free 4 _ rfl
              have f5 := A.free 5 _ rfl
              refine line_alone rfl (by kernel_rfl) (fun K hK => ?_)
              go_big_op
              refine hK _ _ (⟨(by (iterate 6 (refine bset ?_ (by dsimp only; omega) _)); exact hst.out)⟩) ?_
              clear hK K
              have A9 := ((((((A.set 0 (.int .i64 y1)).set 1 (.int .i64 y3)).set 2 (.int .i64 y5)).set 3 (.int .i64 y7)).set 4 (.int .i64 y9)).set 5 (.int .i64 y11))
              refine line_nil ?_
              go_wp2_with fail
              go_meet
              case rel => exact ⟨_, rfl, A9, (by (iterate 6 (refine bset ?_ (by dsimp only; omega) _)); exact hst.out), leA⟩
          · go_big_op
            have hst2 := hst.on (bal (Below.refl _ V1) (.cells #[.int .i64 0, .int .i64 0, .int .i64 0, .int .i64 0, .int .i64 0, .int .i64 0] 33))
            have A := At.new V1 [.int .i64 0, .int .i64 0, .int .i64 0, .int .i64 0, .int .i64 0, .int .i64 0] 33
            have leA : W1.heap.size ≤ V1.heap.size := hst.out.size
            refine hK _ _ hst2 ?_
            clear hK K hst
            have hst := hst2
            clear hst2
            generalize V1.alloc (.cells #[.int .i64 0, .int .i64 0, .int .i64 0, .int .i64 0, .int .i64 0, .int .i64 0] 33) = xa at *
            refine any_rest [(1, false), (3, false), (5, false), (8, false), (9, true), (11, false)] (by kernel_rfl) (fun _ _ d _ _ h => by cases d <;> exact h) ?_
            refine line_alone rfl (by kernel_rfl) (fun K hK => ?_)
            refine call_any (args := #[.slice (some ⟨b, off, none⟩) 13 cap, .int .i64 1]) rfl (by kernel_rfl) (by kernel_rfl) (T1 _ (cell_keep hst.out c1) (cell_keep hst.out c2)) ?_
            rintro e kw0 ⟨rfl, hbn⟩
            have hst2 := hst.on hbn
            have A2 := A.on hbn
            clear A
            have A := A2
            clear A2
            refine ⟨_, rfl, hK _ _ hst2 ?_⟩
            clear hK K hst hbn
            have hst := hst2
            clear hst2
            simp only [Act.put, List.setIfInBounds_toArray, List.set_cons_zero, List.set_cons_succ]
            refine line_alone rfl (by kernel_rfl) (fun K hK => ?_)
            refine call_any (args := #[.slice (some ⟨b, off, none⟩) 13 cap, .int .i64 3]) rfl (by kernel_rfl) (by kernel_rfl) (T2 _ (cell_keep hst.out c3) (cell_keep hst.out c4)) ?_
            rintro e kw1 ⟨rfl, hbn⟩
            have hst2 := hst.on hbn
            have A2 := A.on hbn
            clear A
            have A := A2
            clear A2
            refine ⟨_, rfl, hK _ _ hst2 ?_⟩
            clear hK K hst hbn
            have hst := hst2
            clear hst2
            simp only [Act.put, List.setIfInBounds_toArray, List.set_cons_zero, List.set_cons_succ]
            refine line_alone rfl (by kernel_rfl) (fun K hK => ?_)
            refine call_any (args := #[.slice (some ⟨b, off, none⟩) 13 cap, .int .i64 5]) rfl (by kernel_rfl) (by kernel_rfl) (T3 _ (cell_keep hst.out c5) (cell_keep hst.out c6)) ?_
            rintro e kw2 ⟨rfl, hbn⟩
            have hst2 := hst.on hbn
            have A2 := A.on hbn
            clear A
            have A := A2
            clear A2
            refine ⟨_, rfl, hK _ _ hst2 ?_⟩
            clear hK K hst hbn
            have hst := hst2
            clear hst2
            simp only [Act.put, List.setIfInBounds_toArray, List.set_cons_zero, List.set_cons_succ]
            refine line_alone rfl (by kernel_rfl) (fun K hK => ?_)
            refine call_any (args := #[.slice (some ⟨b, off, none⟩) 13 cap, .int .i64 11]) rfl (by kernel_rfl) (by kernel_rfl) (T4 _ (cell_keep hst.out c11) (cell_keep hst.out c12)) ?_
            rintro e kw3 ⟨rfl, hbn⟩
            have hst2 := hst.on hbn
            have A2 := A.on hbn
            clear A
            have A := A2
            clear A2
            refine ⟨_, rfl, hK _ _ hst2 ?_⟩
            clear hK K hst hbn
            have hst := hst2
            clear hst2
            simp only [Act.put, List.setIfInBounds_toArray, List.set_cons_zero, List.set_cons_succ]
            refine line_readv (v := R6 y1 y3 y5 y7 y9 y11) rfl (by kernel_rfl) (fun _ => by kernel_rfl) ?_
            simp only [Act.put, List.setIfInBounds_toArray, List.set_cons_zero, List.set_cons_succ]
            have p0 := A.cell 0 _ rfl
            have p1 := A.cell 1 _ rfl
            have p2 := A.cell 2 _ rfl
            have p3 := A.cell 3 _ rfl
            have p4 := A.cell 4 _ rfl
            have p5 := A.cell 5 _ rfl
            have f0 := A.free 0 _ rfl
            have f1 := A.free 1 _ rfl
            have f2 := A.free 2 _ rfl
            have f3 := A.free 3 _ rfl
            have f4 := A.free 4 _ rfl
            have f5 := A.free 5 _ rfl
            refine line_alone rfl (by kernel_rfl) (fun K hK => ?_)
            go_big_op
            refine hK _ _ (⟨(by (iterate 6 (refine bset ?_ (by dsimp only; omega) _)); exact hst.out)⟩) ?_
            clear hK K
            have A9 := ((((((A.set 0 (.int .i64 y1)).set 1 (.int .i64 y3)).set 2 (.int .i64 y5)).set 3 (.int .i64 y7)).set 4 (.int .i64 y9)).set 5 (.int .i64 y11))
            refine line_nil ?_
            go_wp2_with fail
            go_meet
            case rel => exact ⟨_, rfl, A9, (by (iterate 6 (refine bset ?_ (by dsimp only; omega) _)); exact hst.out), leA⟩
        case rest =>
          obtain ⟨g, rfl, A3, b4, hg⟩ := hcut
          have lt1 : w.heap.size < W1.heap.size := A1.lt (by simp)
          have b5 := btr b3 b4
          have A4 := A1.on b4
          clear A1 b3 G1 b2
          go_wp2_with fail
          have S0 : Hold w g [.int .i64 y1, .int .i64 y3, .int .i64 y5, .int .i64 y7, .int .i64 y9, .int .i64 y11] wc.drew := ⟨b5.drew, A3.on (bdrew wc)⟩
          have AA := A4.on (bdrew wc)
          refine wp_region_line (Hold w g [.int .i64 y1, .int .i64 y3, .int .i64 y5, .int .i64 y7, .int .i64 y9, .int .i64 y11]) [(0, true), (1, true), (2, true), (3, false), (4, true), (5, true), (6, false), (7, true)] (by kernel_rfl) (by kernel_rfl) (fun _ _ d _ _ h => by cases d <;> exact h) S0 ?_
          have hst := S0
          have inst : Nonempty (Of (Hold w g [.int .i64 y1, .int .i64 y3, .int .i64 y5, .int .i64 y7, .int .i64 y9, .int .i64 y11])) := ⟨⟨_, hst⟩⟩
          have q0 := hold_cell (W := w) (g := g) (cs := [.int .i64 y1, .int .i64 y3, .int .i64 y5, .int .i64 y7, .int .i64 y9, .int .i64 y11]) 0 _ rfl
          have q1 := hold_cell (W := w) (g := g) (cs := [.int .i64 y1, .int .i64 y3, .int .i64 y5, .int .i64 y7, .int .i64 y9, .int .i64 y11]) 1 _ rfl
          have q2 := hold_cell (W := w) (g := g) (cs := [.int .i64 y1, .int .i64 y3, .int .i64 y5, .int .i64 y7, .int .i64 y9, .int .i64 y11]) 2 _ rfl
          have q3 := hold_cell (W := w) (g := g) (cs := [.int .i64 y1, .int .i64 y3, .int .i64 y5, .int .i64 y7, .int .i64 y9, .int .i64 y11]) 3 _ rfl
          have q4 := hold_cell (W := w) (g := g) (cs := [.int .i64 y1, .int .i64 y3, .int .i64 y5, .int .i64 y7, .int .i64 y9, .int .i64 y11]) 4 _ rfl
          have q5 := hold_cell (W := w) (g := g) (cs := [.int .i64 y1, .int .i64 y3, .int .i64 y5, .int .i64 y7, .int .i64 y9, .int .i64 y11]) 5 _ rfl
          clear S0 A3 A4 b4 b5
          generalize wc.drew = V2 at *
          iterate 3 (refine line_read rfl (by kernel_rfl) (fun K hK => ?_); go_big_quiet_op; refine hK _ ?_; clear hK K)
          clear q0 q1 q2 q3 q4 q5
          iterate 2 (refine line_skip rfl (by kernel_rfl) ?_; simp only [Act.put, List.setIfInBounds_toArray, List.set_cons_zero, List.set_cons_succ])
          iterate 1 (refine line_read rfl (by kernel_rfl) (fun K hK => ?_); go_big_quiet_op; refine hK _ ?_; clear hK K)
          have p0 := AA.cell 0 _ rfl
          have p1 := AA.cell 1 _ rfl
          have p2 := AA.cell 2 _ rfl
          have p3 := AA.cell 3 _ rfl
          have p4 := AA.cell 4 _ rfl
          have p5 := AA.cell 5 _ rfl
          have z0 := AA.free 0 _ rfl
          have z1 := AA.free 1 _ rfl
          have z2 := AA.free 2 _ rfl
          have z3 := AA.free 3 _ rfl
          have z4 := AA.free 4 _ rfl
          have z5 := AA.free 5 _ rfl
          refine line_alone rfl (by kernel_rfl) (fun K hK => ?_)
          go_big_op
          refine hK _ _ ((by (iterate 6 (refine Hold.setB ?_ (by dsimp only; omega) (by dsimp only; omega) _)); exact hst)) ?_
          clear hK K
          iterate 1 (refine line_read rfl (by kernel_rfl) (fun K hK => ?_); go_big_quiet_op; refine hK _ ?_; clear hK K)
          refine line_nil ?_
          have HB := Lib.hid hst.bel
          clear hst inst AA
          go_wp2_with fail
          refine bodyPost_ret (v := .tuple #[R6 y1 y3 y5 y7 y9 y11, .bool false]) (by simp [results, Tryz.results103, go_sem, p0, p1, p2, p3, p4, p5]) rfl (HN hsg _ ?_)
          exact (by (iterate 6 (refine bset ?_ (by dsimp only; omega) _)); exact HB.out)
      · rw [hsg] at L1
        go_enter Tryz.func103, Tryz.ntmps103
        go_wp2_with fail
        generalize w.alloc (.cells #[.int .i64 0, .int .i64 0, .int .i64 0, .int .i64 0, .int .i64 0, .int .i64 0] 33) = W0 at *
        refine (L1 _ R1 hWB).mono ?_
        rintro e u1 ⟨rfl, b1⟩
        have G1 := At.new u1 [.int .i64 y7, .int .i64 y9] 31
        have b2 := bal b1 (.cells #[.int .i64 y7, .int .i64 y9] 31)
        have b3 := btr b0 b2
        have A1 := A0.on b2
        have lt0 : w.heap.size < u1.heap.size := (A0.on b1).lt (by simp)
        have c1 := cell_keep b2 d1
        have c2 := cell_keep b2 d2
        have c3 := cell_keep b2 d3
        have c4 := cell_keep b2 d4
        have c5 := cell_keep b2 d5
        have c6 := cell_keep b2 d6
        have c11 := cell_keep b2 d11
        have c12 := cell_keep b2 d12
        clear R1 L1 b1 b0 A0 d0
        go_upto_region 4 with fail
        generalize u1.alloc (.cells #[.int .i64 y7, .int .i64 y9] 31) = W1 at *
        go_cut [6] from 23 to 33 (fun v' wx => CellsAt W1 [.int .i64 y1, .int .i64 y3, .int .i64 y5, .int .i64 y7, .int .i64 y9, .int .i64 y11] v' wx)
        case first =>
          refine wp_region_fork (Bel W1) (by kernel_rfl) (Bel.drew W1) ?_
          have hst : (Bel W1) _ := (Bel.drew W1)
          have inst : Nonempty (Of (Bel W1)) := ⟨⟨_, hst⟩⟩
          have q0 := bel_cell (G1.cell 0 _ rfl)
          have q1 := bel_cell (G1.cell 1 _ rfl)
          generalize W1.drew = V1 at *
          refine any_seg 7 [(0, true), (2, true), (4, true), (6, true), (7, true)] (by kernel_rfl) (fun _ _ d _ _ h => by cases d <;> exact h) ?_
          iterate 5 (refine line_read rfl (by kernel_rfl) (fun K hK => ?_); go_big_quiet_op; refine hK _ ?_; clear hK K)
          refine line_nil ?_
          clear q0 q1
          refine any_fork 1 10 (by kernel_rfl) rfl rfl (by kernel_rfl) (by kernel_rfl) (fun K hK => ?_) (fun K hK => ?_)
          · refine call_any (args := #[.slice (some ⟨b, off, none⟩) 13 cap, .int .i64 1]) rfl (by kernel_rfl) (by kernel_rfl) (T1 _ (cell_keep hst.out c1) (cell_keep hst.out c2)) ?_
            rintro e x0 ⟨rfl, hbn⟩
            have hst2 := hst.on hbn
            refine ⟨_, rfl, hK _ _ hst2 ?_⟩
            clear hK K hst hbn
            have hst := hst2
            clear hst2
            simp only [Act.put, List.setIfInBounds_toArray, List.set_cons_zero, List.set_cons_succ]
            refine any_fork 3 10 (by kernel_rfl) rfl rfl (by kernel_rfl) (by kernel_rfl) (fun K hK => ?_) (fun K hK => ?_)
            · refine call_any (args := #[.slice (some ⟨b, off, none⟩) 13 cap, .int .i64 3]) rfl (by kernel_rfl) (by kernel_rfl) (T2 _ (cell_keep hst.out c3) (cell_keep hst.out c4)) ?_
              rintro e x1 ⟨rfl, hbn⟩
              have hst2 := hst.on hbn
              refine ⟨_, rfl, hK _ _ hst2 ?_⟩
              clear hK K hst hbn
              have hst := hst2
              clear hst2
              simp only [Act.put, List.setIfInBounds_toArray, List.set_cons_zero, List.set_cons_succ]
              refine any_fork 5 10 (by kernel_rfl) rfl rfl (by kernel_rfl) (by kernel_rfl) (fun K hK => ?_) (fun K hK => ?_)
              · refine call_any (args := #[.slice (some ⟨b, off, none⟩) 13 cap, .int .i64 5]) rfl (by kernel_rfl) (by kernel_rfl) (T3 _ (cell_keep hst.out c5) (cell_keep hst.out c6)) ?_
                rintro e x2 ⟨rfl, hbn⟩
                have hst2 := hst.on hbn
                refine ⟨_, rfl, hK _ _ hst2 ?_⟩
                clear hK K hst hbn
                have hst := hst2
                clear hst2
                simp only [Act.put, List.setIfInBounds_toArray, List.set_cons_zero, List.set_cons_succ]
                refine any_fork 8 10 (by kernel_rfl) rfl rfl (by kernel_rfl) (by kernel_rfl) (fun K hK => ?_) (fun K hK => ?_)
                · refine call_any (args := #[.slice (some ⟨b, off, none⟩) 13 cap, .int .i64 11]) rfl (by kernel_rfl) (by kernel_rfl) (T4 _ (cell_keep hst.out c11) (cell_keep hst.out c12)) ?_
                  rintro e x3 ⟨rfl, hbn⟩
                  have hst2 := hst.on hbn
                  refine ⟨_, rfl, hK _ _ hst2 ?_⟩
                  clear hK K hst hbn
                  have hst := hst2
                  clear hst2
                  simp only [Act.put, List.setIfInBounds_toArray, List.set_cons_zero, List.set_cons_succ]
                  refine any_rest [(9, true), (10, false), (11, false)] (by kernel_rfl) (fun _ _ d _ _ h => by cases d <;> exact h) ?_
                  refine line_readv (v := R6 y1 y3 y5 y7 y9 y11) rfl (by kernel_rfl) (fun _ => by kernel_rfl) ?_
                  simp only [Act.put, List.setIfInBounds_toArray, List.set_cons_zero, List.set_cons_succ]
                  refine line_alone rfl (by kernel_rfl) (fun K hK => ?_)
                  go_big_op
                  have hst2 := hst.on (bal (Below.refl _ x3) (.cells #[.int .i64 0, .int .i64 0, .int .i64 0, .int .i64 0, .int .i64 0, .int .i64 0] 33))
                  have A := At.new x3 [.int .i64 0, .int .i64 0, .int .i64 0, .int .i64 0, .int .i64 0, .int .i64 0] 33
                  have leA : W1.heap.size ≤ x3.heap.size := hst.out.size
                  refine hK _ _ hst2 ?_
                  clear hK K hst
                  have hst := hst2
                  clear hst2
                  generalize x3.alloc (.cells #[.int .i64 0, .int .i64 0, .int .i64 0, .int .i64 0, .int .i64 0, .int .i64 0] 33) = xa at *
                  have p0 := A.cell 0 _ rfl
                  have p1 := A.cell 1 _ rfl
                  have p2 := A.cell 2 _ rfl
                  have p3 := A.cell 3 _ rfl
                  have p4 := A.cell 4 _ rfl
                  have p5 := A.cell 5 _ rfl
                  have f0 := A.free 0 _ rfl
                  have f1 := A.free 1 _ rfl
                  have f2 := A.free 2 _ rfl
                  have f3 := A.free 3 _ rfl
                  have f4 := A.free 4 _ rfl
                  have f5 := A.free 5 _ rfl
                  refine line_alone rfl (by kernel_rfl) (fun K hK => ?_)
                  go_big_op
                  refine hK _ _ (⟨(by (iterate 6 (refine bset ?_ (by dsimp only; omega) _)); exact hst.out)⟩) ?_
                  clear hK K
                  have A9 := ((((((A.set 0 (.int .i64 y1)).set 1 (.int .i64 y3)).set 2 (.int .i64 y5)).set 3 (.int .i64 y7)).set 4 (.int .i64 y9)).set 5 (.int .i64 y11))
                  refine line_nil ?_
                  go_wp2_with fail
                  go_meet
                  case rel => exact ⟨_, rfl, A9, (by (iterate 6 (refine bset ?_ (by dsimp only; omega) _)); exact hst.out), leA⟩
                · go_big_op
                  have hst2 := hst.on (bal (Below.refl _ x2) (.cells #[.int .i64 0, .int .i64 0, .int .i64 0, .int .i64 0, .int .i64 0, .int .i64 0] 33))
                  have A := At.new x2 [.int .i64 0, .int .i64 0, .int .i64 0, .int .i64 0, .int .i64 0, .int .i64 0] 33
                  have leA : W1.heap.size ≤ x2.heap.size := hst.out.size
                  refine hK _ _ hst2 ?_
                  clear hK K hst
                  have hst := hst2
                  clear hst2
                  generalize x2.alloc (.cells #[.int .i64 0, .int .i64 0, .int .i64 0, .int .i64 0, .int .i64 0, .int .i64 0] 33) = xa at *
                  refine any_rest [(8, false), (9, true), (11, false)] (by kernel_rfl) (fun _ _ d _ _ h => by cases d <;> exact h) ?_
                  refine line_alone rfl (by kernel_rfl) (fun K hK => ?_)
                  refine call_any (args := #[.slice (some ⟨b, off, none⟩) 13 cap, .int .i64 11]) rfl (by kernel_rfl) (by kernel_rfl) (T4 _ (cell_keep hst.out c11) (cell_keep hst.out c12)) ?_
                  rintro e kw3 ⟨rfl, hbn⟩
                  have hst2 := hst.on hbn
                  have A2 := A.on hbn
                  clear A
                  have A := A2
                  clear A2
                  refine ⟨_, rfl, hK _ _ hst2 ?_⟩
                  clear hK K hst hbn
                  have hst := hst2
                  clear hst2
                  simp only [Act.put, List.setIfInBounds_toArray, List.set_cons_zero, List.set_cons_succ]
                  refine line_readv (v := R6 y1 y3 y5 y7 y9 y11) rfl (by kernel_rfl) (fun _ => by kernel_rfl) ?_
                  simp only [Act.put, List.setIfInBounds_toArray, List.set_cons_zero, List.set_cons_succ]
                  have p0 := A.cell 0 _ rfl
                  have p1 := A.cell 1 _ rfl
                  have p2 := A.cell 2 _ rfl
                  have p3 := A.cell 3 _ rfl
                  have p4 := A.cell 4 _ rfl
                  have p5 := A.cell 5 _ rfl
                  have f0 := A.free 0 _ rfl
                  have f1 := A.free 1 _ rfl
                  have f2 := A.free 2 _ rfl
                  have f3 := A.free 3 _ rfl
                  have f4 := A.free 4 _ rfl
                  have f5 := A.free 5 _ rfl
                  refine line_alone rfl (by kernel_rfl) (fun K hK => ?_)
                  go_big_op
                  refine hK _ _ (⟨(by (iterate 6 (refine bset ?_ (by dsimp only; omega) _)); exact hst.out)⟩) ?_
                  clear hK K
                  have A9 := ((((((A.set 0 (.int .i64 y1)).set 1 (.int .i64 y3)).set 2 (.int .i64 y5)).set 3 (.int .i64 y7)).set 4 (.int .i64 y9)).set 5 (.int .i64 y11))
                  refine line_nil ?_
                  go_wp2_with fail
                  go_meet
                  case rel => exact ⟨_, rfl, A9, (by (iterate 6 (refine bset ?_ (by dsimp only; omega) _)); exact hst.out), leA⟩
              · go_big_op
                have hst2 := hst.on (bal (Below.refl _ x1) (.cells #[.int .i64 0, .int .i64 0, .int .i64 0, .int .i64 0, .int .i64 0, .int .i64 0] 33))
                have A := At.new x1 [.int .i64 0, .int .i64 0, .int .i64 0, .int .i64 0, .int .i64 0, .int .i64 0] 33
                have leA : W1.heap.size ≤ x1.heap.size := hst.out.size
                refine hK _ _ hst2 ?_
                clear hK K hst
                have hst := hst2
                clear hst2
                generalize x1.alloc (.cells #[.int .i64 0, .int .i64 0, .int .i64 0, .int .i64 0, .int .i64 0, .int .i64 0] 33) = xa at *
                refine any_rest [(5, false), (8, false), (9, true), (11, false)] (by kernel_rfl) (fun _ _ d _ _ h => by cases d <;> exact h) ?_
                refine line_alone rfl (by kernel_rfl) (fun K hK => ?_)
                refine call_any (args := #[.slice (some ⟨b, off, none⟩) 13 cap, .int .i64 5]) rfl (by kernel_rfl) (by kernel_rfl) (T3 _ (cell_keep hst.out c5) (cell_keep hst.out c6)) ?_
                rintro e kw2 ⟨rfl, hbn⟩
                have hst2 := hst.on hbn
                have A2 := A.on hbn
                clear A
                have A := A2
                clear A2
                refine ⟨_, rfl, hK _ _ hst2 ?_⟩
                clear hK K hst hbn
                have hst := hst2
                clear hst2
                simp only [Act.put, List.setIfInBounds_toArray, List.set_cons_zero, List.set_cons_succ]
                refine line_alone rfl (by kernel_rfl) (fun K hK => ?_)
                refine call_any (args := #[.slice (some ⟨b, off, none⟩) 13 cap, .int .i64 11]) rfl (by kernel_rfl) (by kernel_rfl) (T4 _ (cell_keep hst.out c11) (cell_keep hst.out c12)) ?_
                rintro e kw3 ⟨rfl, hbn⟩
                have hst2 := hst.on hbn
                have A2 := A.on hbn
                clear A
                have A := A2
                clear A2
                refine ⟨_, rfl, hK _ _ hst2 ?_⟩
                clear hK K hst hbn
                have hst := hst2
                clear hst2
                simp only [Act.put, List.setIfInBounds_toArray, List.set_cons_zero, List.set_cons_succ]
                refine line_readv (v := R6 y1 y3 y5 y7 y9 y11) rfl (by kernel_rfl) (fun _ => by kernel_rfl) ?_
                simp only [Act.put, List.setIfInBounds_toArray, List.set_cons_zero, List.set_cons_succ]
                have p0 := A.cell 0 _ rfl
                have p1 := A.cell 1 _ rfl
                have p2 := A.cell 2 _ rfl
                have p3 := A.cell 3 _ rfl
                have p4 := A.cell 4 _ rfl
                have p5 := A.cell 5 _ rfl
                have f0 := A.free 0 _ rfl
                have f1 := A.free 1 _ rfl
                have f2 := A.free 2 _ rfl
                have f3 := A.free 3 _ rfl
                have f4 := A.free 4 _ rfl
                have f5 := A.free 5 _ rfl
                refine line_alone rfl (by kernel_rfl) (fun K hK => ?_)
                go_big_op
                refine hK _ _ (⟨(by (iterate 6 (refine bset ?_ (by dsimp only; omega) _)); exact hst.out)⟩) ?_
                clear hK K
                have A9 := ((((((A.set 0 (.int .i64 y1)).set 1 (.int .i64 y3)).set 2 (.int .i64 y5)).set 3 (.int .i64 y7)).set 4 (.int .i64 y9)).set 5 (.int .i64 y11))
                refine line_nil ?_
                go_wp2_with fail
                go_meet
                case rel => exact ⟨_, rfl, A9, (by (iterate 6 (refine bset ?_ (by dsimp only; omega) _)); exact hst.out), leA⟩
            · go_big_op
              have hst2 := hst.on (bal (Below.refl _ x0) (.cells #[.int .i64 0, .int .i64 0, .int .i64 0, .int .i64 0, .int .i64 0, .int .i64 0] 33))
              have A := At.new x0 [.int .i64 0, .int .i64 0, .int .i64 0, .int .i64 0, .int .i64 0, .int .i64 0] 33
              have leA : W1.heap.size ≤ x0.heap.size := hst.out.size
              refine hK _ _ hst2 ?_
              clear hK K hst
              have hst := hst2
              clear hst2
              generalize x0.alloc (.cells #[.int .i64 0, .int .i64 0, .int .i64 0, .int .i64 0, .int .i64 0, .int .i64 0] 33) = xa at *
              refine any_rest [(3, false), (5, false), (8, false), (9, true), (11, false)] (by kernel_rfl) (fun _ _ d _ _ h => by cases d <;> exact h) ?_
              refine line_alone rfl (by kernel_rfl) (fun K hK => ?_)
              refine call_any (args := #[.slice (some ⟨b, off, none⟩) 13 cap, .int .i64 3]) rfl (by kernel_rfl) (by kernel_rfl) (T2 _ (cell_keep hst.out c3) (cell_keep hst.out c4)) ?_
              rintro e kw1 ⟨rfl, hbn⟩
              have hst2 := hst.on hbn
              have A2 := A.on hbn
              clear A
              have A := A2
              clear A2
              refine ⟨_, rfl, hK _ _ hst2 ?_⟩
              clear hK K hst hbn
              have hst := hst2
              clear hst2
              simp only [Act.put, List.setIfInBounds_toArray, List.set_cons_zero, List.set_cons_succ]
              refine line_alone rfl (by kernel_rfl) (fun K hK => ?_)
              refine call_any (args := #[.slice (some ⟨b, off, none⟩) 13 cap, .int .i64 5]) rfl (by kernel_rfl) (by kernel_rfl) (T3 _ (cell_keep hst.out c5) (cell_keep hst.out c6)) ?_
              rintro e kw2 ⟨rfl, hbn⟩
              have hst2 := hst.on hbn
              have A2 := A.on hbn
              clear A
              have A := A2
              clear A2
              refine ⟨_, rfl, hK _ _ hst2 ?_⟩
              clear hK K hst hbn
              have hst := hst2
              clear hst2
              simp only [Act.put, List.setIfInBounds_toArray, List.set_cons_zero, List.set_cons_succ]
              refine line_alone rfl (by kernel_rfl) (fun K hK => ?_)
              refine call_any (args := #[.slice (some ⟨b, off, none⟩) 13 cap, .int .i64 11]) rfl (by kernel_rfl) (by kernel_rfl) (T4 _ (cell_keep hst.out c11) (cell_keep hst.out c12)) ?_
              rintro e kw3 ⟨rfl, hbn⟩
              have hst2 := hst.on hbn
              have A2 := A.on hbn
              clear A
              have A := A2
              clear A2
              refine ⟨_, rfl, hK _ _ hst2 ?_⟩
              clear hK K hst hbn
              have hst := hst2
              clear hst2
              simp only [Act.put, List.setIfInBounds_toArray, List.set_cons_zero, List.set_cons_succ]
              refine line_readv (v := R6 y1 y3 y5 y7 y9 y11) rfl (by kernel_rfl) (fun _ => by kernel_rfl) ?_
              simp only [Act.put, List.setIfInBounds_toArray, List.set_cons_zero, List.set_cons_succ]
              have p0 := A.cell 0 _ rfl
              have p1 := A.cell 1 _ rfl
              have p2 := A.cell 2 _ rfl
              have p3 := A.cell 3 _ rfl
              have p4 := A.cell 4 _ rfl
              have p5 := A.cell 5 _ rfl
              have f0 := A.free 0 _ rfl
              have f1 := A.free 1 _ rfl
              have f2 := A.free 2 _ rfl
              have f3 := A.free 3 _ rfl
              have f4 := A.free 4 _ rfl
              have f5 := A.free 5 _ rfl
              refine line_alone rfl (by kernel_rfl) (fun K hK => ?_)
              go_big_op
              refine hK _ _ (⟨(by (iterate 6 (refine bset ?_ (by dsimp only; omega) _)); exact hst.out)⟩) ?_
              clear hK K
              have A9 := ((((((A.set 0 (.int .i64 y1)).set 1 (.int .i64 y3)).set 2 (.int .i64 y5)).set 3 (.int .i64 y7)).set 4 (.int .i64 y9)).set 5 (.int .i64 y11))
              refine line_nil ?_
              go_wp2_with fail
              go_meet
              case rel => exact ⟨_, rfl, A9, (by (iterate 6 (refine bset ?_ (by dsimp only; omega) _)); exact hst.out), leA⟩
          · go_big_op
            have hst2 := hst.on (bal (Below.refl _ V1) (.cells #[.int .i64 0, .int .i64 0, .int .i64 0, .int .i64 0, .int .i64 0, .int .i64 0] 33))
            have A := At.new V1 [.int .i64 0, .int .i64 0, .int .i64 0, .int .i64 0, .int .i64 0, .int .i64 0] 33
            have leA : W1.heap.size ≤ V1.heap.size := hst.out.size
            refine hK _ _ hst2 ?_
            clear hK K hst
            have hst := hst2
            clear hst2
            generalize V1.alloc (.cells #[.int .i64 0, .int .i64 0, .int .i64 0, .int .i64 0, .int .i64 0, .int .i64 0] 33) = xa at *
            refine any_rest [(1, false), (3, false), (5, false), (8, false), (9, true), (11, false)] (by kernel_rfl) (fun _ _ d _ _ h => by cases d <;> exact h) ?_
            refine line_alone rfl (by kernel_rfl) (fun K hK => ?_)
            refine call_any (args := #[.slice (some ⟨b, off, none⟩) 13 cap, .int .i64 1]) rfl (by kernel_rfl) (by kernel_rfl) (T1 _ (cell_keep hst.out c1) (cell_keep hst.out c2)) ?_
            rintro e kw0 ⟨rfl, hbn⟩
            have hst2 := hst.on hbn
            have A2 := A.on hbn
            clear A
            have A := A2
            clear A2
            refine ⟨_, rfl, hK _ _ hst2 ?_⟩
            clear hK K hst hbn
            have hst := hst2
            clear hst2
            simp only [Act.put, List.setIfInBounds_toArray, List.set_cons_zero, List.set_cons_succ]
            refine line_alone rfl (by kernel_rfl) (fun K hK => ?_)
            refine call_any (args := #[.slice (some ⟨b, off, none⟩) 13 cap, .int .i64 3]) rfl (by kernel_rfl) (by kernel_rfl) (T2 _ (cell_keep hst.out c3) (cell_keep hst.out c4)) ?_
            rintro e kw1 ⟨rfl, hbn⟩
            have hst2 := hst.on hbn
            have A2 := A.on hbn
            clear A
            have A := A2
            clear A2
            refine ⟨_, rfl, hK _ _ hst2 ?_⟩
            clear hK K hst hbn
            have hst := hst2
            clear hst2
            simp only [Act.put, List.setIfInBounds_toArray, List.set_cons_zero, List.set_cons_succ]
            refine line_alone rfl (by kernel_rfl) (fun K hK => ?_)
            refine call_any (args := #[.slice (some ⟨b, off, none⟩) 13 cap, .int .i64 5]) rfl (by kernel_rfl) (by kernel_rfl) (T3 _ (cell_keep hst.out c5) (cell_keep hst.out c6)) ?_
            rintro e kw2 ⟨rfl, hbn⟩
            have hst2 := hst.on hbn
            have A2 := A.on hbn
            clear A
            have A := A2
            clear A2
            refine ⟨_, rfl, hK _ _ hst2 ?_⟩
            clear hK K hst hbn
            have hst := hst2
            clear hst2
            simp only [Act.put, List.setIfInBounds_toArray, List.set_cons_zero, List.set_cons_succ]
            refine line_alone rfl (by kernel_rfl) (fun K hK => ?_)
            refine call_any (args := #[.slice (some ⟨b, off, none⟩) 13 cap, .int .i64 11]) rfl (by kernel_rfl) (by kernel_rfl) (T4 _ (cell_keep hst.out c11) (cell_keep hst.out c12)) ?_
            rintro e kw3 ⟨rfl, hbn⟩
            have hst2 := hst.on hbn
            have A2 := A.on hbn
            clear A
            have A := A2
            clear A2
            refine ⟨_, rfl, hK _ _ hst2 ?_⟩
            clear hK K hst hbn
            have hst := hst2
            clear hst2
            simp only [Act.put, List.setIfInBounds_toArray, List.set_cons_zero, List.set_cons_succ]
            refine line_readv (v := R6 y1 y3 y5 y7 y9 y11) rfl (by kernel_rfl) (fun _ => by kernel_rfl) ?_
            simp only [Act.put, List.setIfInBounds_toArray, List.set_cons_zero, List.set_cons_succ]
            have p0 := A.cell 0 _ rfl
            have p1 := A.cell 1 _ rfl
            have p2 := A.cell 2 _ rfl
            have p3 := A.cell 3 _ rfl
            have p4 := A.cell 4 _ rfl
            have p5 := A.cell 5 _ rfl
            have f0 := A.free 0 _ rfl
            have f1 := A.free 1 _ rfl
            have f2 := A.free 2 _ rfl
            have f3 := A.free 3 _ rfl
            have f4 := A.free 4 _ rfl
            have f5 := A.free 5 _ rfl
            refine line_alone rfl (by kernel_rfl) (fun K hK => ?_)
            go_big_op
            refine hK _ _ (⟨(by (iterate 6 (refine bset ?_ (by dsimp only; omega) _)); exact hst.out)⟩) ?_
            clear hK K
            have A9 := ((((((A.set 0 (.int .i64 y1)).set 1 (.int .i64 y3)).set 2 (.int .i64 y5)).set 3 (.int .i64 y7)).set 4 (.int .i64 y9)).set 5 (.int .i64 y11))
            refine line_nil ?_
            go_wp2_with fail
            go_meet
            case rel => exact ⟨_, rfl, A9, (by (iterate 6 (refine bset ?_ (by dsimp only; omega) _)); exact hst.out), leA⟩
        case rest =>
          obtain ⟨g, rfl, A3, b4, hg⟩ := hcut
          have lt1 : w.heap.size < W1.heap.size := A1.lt (by simp)
          have b5 := btr b3 b4
          have A4 := A1.on b4
          clear A1 b3 G1 b2
          go_wp2_with fail
          have S0 : Hold w g [.int .i64 y1, .int .i64 y3, .int .i64 y5, .int .i64 y7, .int .i64 y9, .int .i64 y11] wc.drew := ⟨b5.drew, A3.on (bdrew wc)⟩
          have AA := A4.on (bdrew wc)
          refine wp_region_line (Hold w g [.int .i64 y1, .int .i64 y3, .int .i64 y5, .int .i64 y7, .int .i64 y9, .int .i64 y11]) [(0, true), (1, true), (2, true), (3, false), (4, true), (5, true), (6, false), (7, true)] (by kernel_rfl) (by kernel_rfl) (fun _ _ d _ _ h => by cases d <;> exact h) S0 ?_
          have hst := S0
          have inst : Nonempty (Of (Hold w g [.int .i64 y1, .int .i64 y3, .int .i64 y5, .int .i64 y7, .int .i64 y9, .int .i64 y11])) := ⟨⟨_, hst⟩⟩
          have q0 := hold_cell (W := w) (g := g) (cs := [.int .i64 y1, .int .i64 y3, .int .i64 y5, .int .i64 y7, .int .i64 y9, .int .i64 y11]) 0 _ rfl
          have q1 := hold_cell (W := w) (g := g) (cs := [.int .i64 y1, .int .i64 y3, .int .i64 y5, .int .i64 y7, .int .i64 y9, .int .i64 y11]) 1 _ rfl
          have q2 := hold_cell (W := w) (g := g) (cs := [.int .i64 y1, .int .i64 y3, .int .i64 y5, .int .i64 y7, .int .i64 y9, .int .i64 y11]) 2 _ rfl
          have q3 := hold_cell (W := w) (g := g) (cs := [.int .i64 y1, .int .i64 y3, .int .i64 y5, .int .i64 y7, .int .i64 y9, .int .i64 y11]) 3 _ rfl
          have q4 := hold_cell (W := w) (g := g) (cs := [.int .i64 y1, .int .i64 y3, .int .i64 y5, .int .i64 y7, .int .i64 y9, .int .i64 y11]) 4 _ rfl
          have q5 := hold_cell (W := w) (g := g) (cs := [.int .i64 y1, .int .i64 y3, .int .i64 y5, .int .i64 y7, .int .i64 y9, .int .i64 y11]) 5 _ rfl
          clear S0 A3 A4 b4 b5
          generalize wc.drew = V2 at *
          iterate 3 (refine line_read rfl (by kernel_rfl) (fun K hK => ?_); go_big_quiet_op; refine hK _ ?_; clear hK K)
          clear q0 q1 q2 q3 q4 q5
          refine line_alone rfl (by kernel_rfl) (fun K hK => ?_)
          refine call_any (args := #[.pointer (some ⟨g, 0, none⟩)]) rfl (by kernel_rfl) (by kernel_rfl) (hF _ _ hst.at') ?_
          rintro e x9 ⟨rfl, rfl⟩
          refine ⟨_, rfl, hK _ _ hst ?_⟩
          clear hK K
          simp only [Act.put, List.setIfInBounds_toArray, List.set_cons_zero, List.set_cons_succ]
          iterate 2 (refine line_read rfl (by kernel_rfl) (fun K hK => ?_); go_big_quiet_op; refine hK _ ?_; clear hK K)
          have p0 := AA.cell 0 _ rfl
          have p1 := AA.cell 1 _ rfl
          have p2 := AA.cell 2 _ rfl
          have p3 := AA.cell 3 _ rfl
          have p4 := AA.cell 4 _ rfl
          have p5 := AA.cell 5 _ rfl
          have z0 := AA.free 0 _ rfl
          have z1 := AA.free 1 _ rfl
          have z2 := AA.free 2 _ rfl
          have z3 := AA.free 3 _ rfl
          have z4 := AA.free 4 _ rfl
          have z5 := AA.free 5 _ rfl
          refine line_alone rfl (by kernel_rfl) (fun K hK => ?_)
          go_big_op
          refine hK _ _ ((by (iterate 6 (refine Hold.setB ?_ (by dsimp only; omega) (by dsimp only; omega) _)); exact hst)) ?_
          clear hK K
          iterate 1 (refine line_read rfl (by kernel_rfl) (fun K hK => ?_); go_big_quiet_op; refine hK _ ?_; clear hK K)
          refine line_nil ?_
          have HB := Lib.hid hst.bel
          clear hst inst AA
          go_wp2_with fail
          refine bodyPost_ret (v := .tuple #[R6 y1 y3 y5 y7 y9 y11, .bool (cd == 0)]) (by simp [results, Tryz.results103, go_sem, p0, p1, p2, p3, p4, p5]) rfl (HP _ ?_)
          exact (by (iterate 6 (refine bset ?_ (by dsimp only; omega) _)); exact HB.out)
    · have hno : repOk zs = false := by simp only [repOk, decide_eq_false hz1, Bool.and_false, Bool.false_and]
      have F : RepRead zs w (.returned (.tuple #[R6 0 0 0 0 0 0, .bool false])) (w.alloc (.cells #[.int .i64 0, .int .i64 0, .int .i64 0, .int .i64 0, .int .i64 0, .int .i64 0] 33)) := ⟨_, _, _, _, _, _, by rw [hno], (fun h => by rw [hno] at h; cases h), b0⟩
      have q1 : (zs.getD 0 0 != 2) = true := by simpa using hz1
      generalize zs.getD 0 0 = z at *
      clear hR hc hno
      go_enter Tryz.func103, Tryz.ntmps103
      go_wp2_with fail
      exact bodyPost_ret (v := .tuple #[R6 0 0 0 0 0 0, .bool false]) (by simp [results, Tryz.results103, go_sem]) rfl F
  · have hno : repOk zs = false := by simp only [repOk, hzl, decide_eq_false h13, Bool.false_and]
    have F : RepRead zs w (.returned (.tuple #[R6 0 0 0 0 0 0, .bool false])) (w.alloc (.cells #[.int .i64 0, .int .i64 0, .int .i64 0, .int .i64 0, .int .i64 0, .int .i64 0] 33)) := ⟨_, _, _, _, _, _, by rw [hno], (fun h => by rw [hno] at h; cases h), b0⟩
    have q1 : ((len : Int) != 13) = true := by simp; omega
    clear hR hno
    go_enter Tryz.func103, Tryz.ntmps103
    go_wp2_with fail
    exact bodyPost_ret (v := .tuple #[R6 0 0 0 0 0 0, .bool false]) (by simp [results, Tryz.results103, go_sem]) rfl F
theorem specReadReply_any (a : Option Addr) (len cap B : Nat) (zs : List Int) (w : World) (hR : Row .u8 w B a len cap zs) (hB : B ≤ w.heap.size) :
    Calls Tryz.prog 22 #[.slice a len cap] w fun e w' => e = .returned (repT zs) ∧ Below w.heap.size w w' := by
  have b0 := bal (Below.refl _ w) (.cells #[.int .i64 0, .int .i64 0, .int .i64 0, .int .i64 0, .int .i64 0, .int .i64 0, .int .i64 0] 35)
  have A0 := At.new w (RL7 0 0 0 0 0 0 0) 35
  have F := fun w R hB => l6ReadReply_any a len cap B zs w R hB
  have R0 := hR.below (b0.mono hB)
  have hB0 : B ≤ (w.alloc (.cells #[.int .i64 0, .int .i64 0, .int .i64 0, .int .i64 0, .int .i64 0, .int .i64 0, .int .i64 0] 35)).heap.size := by simp; omega
  clear hR
  cases hh : repOk zs
  · rw [repT_no hh]
    go_enter Tryz.func22, Tryz.ntmps22
    go_wp2_with fail
    generalize w.alloc (.cells #[.int .i64 0, .int .i64 0, .int .i64 0, .int .i64 0, .int .i64 0, .int .i64 0, .int .i64 0] 35) = W0 at *
    refine (F _ R0 hB0).mono ?_
    rintro e u1 ⟨r, s, p, x, y, f, rfl, hv, b1⟩
    rw [hh] at hv ⊢
    have lt1 : w.heap.size < u1.heap.size := (A0.on b1).lt (by simp)
    have k0 := (A0.on b1).cell 0 _ rfl
    have k1 := (A0.on b1).cell 1 _ rfl
    have k2 := (A0.on b1).cell 2 _ rfl
    have k3 := (A0.on b1).cell 3 _ rfl
    have k4 := (A0.on b1).cell 4 _ rfl
    have k5 := (A0.on b1).cell 5 _ rfl
    have k6 := (A0.on b1).cell 6 _ rfl
    have z0 := (A0.on b1).free 0 _ rfl
    have z1 := (A0.on b1).free 1 _ rfl
    have z2 := (A0.on b1).free 2 _ rfl
    have z3 := (A0.on b1).free 3 _ rfl
    have z4 := (A0.on b1).free 4 _ rfl
    have z5 := (A0.on b1).free 5 _ rfl
    have z6 := (A0.on b1).free 6 _ rfl
    have A9 := ((((((((A0.on b1).set 0 (.int .i64 5)).set 1 (.int .i64 0)).set 2 (.int .i64 0)).set 3 (.int .i64 0)).set 4 (.int .i64 0)).set 5 (.int .i64 0)).set 6 (.int .i64 0)).alloc (.cells #[.int .i64 r, .int .i64 s, .int .i64 p, .int .i64 x, .int .i64 y, .int .i64 f] 33)
    have q0 := A9.cell 0 _ rfl
    have q1 := A9.cell 1 _ rfl
    have q2 := A9.cell 2 _ rfl
    have q3 := A9.cell 3 _ rfl
    have q4 := A9.cell 4 _ rfl
    have q5 := A9.cell 5 _ rfl
    have q6 := A9.cell 6 _ rfl
    have HB := Lib.hid (bal (bset (bset (bset (bset (bset (bset (bset (btr b0 b1) (p := ⟨w.heap.size, 0, none⟩) (Nat.le_refl _) (.int .i64 5)) (p := ⟨w.heap.size, 1, none⟩) (Nat.le_refl _) (.int .i64 0)) (p := ⟨w.heap.size, 2, none⟩) (Nat.le_refl _) (.int .i64 0)) (p := ⟨w.heap.size, 3, none⟩) (Nat.le_refl _) (.int .i64 0)) (p := ⟨w.heap.size, 4, none⟩) (Nat.le_refl _) (.int .i64 0)) (p := ⟨w.heap.size, 5, none⟩) (Nat.le_refl _) (.int .i64 0)) (p := ⟨w.heap.size, 6, none⟩) (Nat.le_refl _) (.int .i64 0)) (.cells #[.int .i64 r, .int .i64 s, .int .i64 p, .int .i64 x, .int .i64 y, .int .i64 f] 33))
    clear A0 A9 b0 b1 hv F R0
    go_wp2_with fail
    refine bodyPost_ret (v := R7 5 0 0 0 0 0 0) (by simp [results, Tryz.results22, go_sem, q0, q1, q2, q3, q4, q5, q6]) rfl ⟨rfl, HB.out⟩
  · rw [repT_yes hh]
    go_enter Tryz.func22, Tryz.ntmps22
    go_wp2_with fail
    generalize w.alloc (.cells #[.int .i64 0, .int .i64 0, .int .i64 0, .int .i64 0, .int .i64 0, .int .i64 0, .int .i64 0] 35) = W0 at *
    refine (F _ R0 hB0).mono ?_
    rintro e u1 ⟨r, s, p, x, y, f, rfl, hv, b1⟩
    rw [hh] at hv ⊢
    have lt1 : w.heap.size < u1.heap.size := (A0.on b1).lt (by simp)
    have k0 := (A0.on b1).cell 0 _ rfl
    have k1 := (A0.on b1).cell 1 _ rfl
    have k2 := (A0.on b1).cell 2 _ rfl
    have k3 := (A0.on b1).cell 3 _ rfl
    have k4 := (A0.on b1).cell 4 _ rfl
    have k5 := (A0.on b1).cell 5 _ rfl
    have k6 := (A0.on b1).cell 6 _ rfl
    have z0 := (A0.on b1).free 0 _ rfl
    have z1 := (A0.on b1).free 1 _ rfl
    have z2 := (A0.on b1).free 2 _ rfl
    have z3 := (A0.on b1).free 3 _ rfl
    have z4 := (A0.on b1).free 4 _ rfl
    have z5 := (A0.on b1).free 5 _ rfl
    have z6 := (A0.on b1).free 6 _ rfl
    obtain ⟨rfl, rfl, rfl, rfl, rfl, rfl⟩ := hv rfl
    generalize e1 : tw zs 1 = y1 at *
    generalize e3 : tw zs 3 = y3 at *
    generalize e5 : tw zs 5 = y5 at *
    generalize e7 : tw zs 7 = y7 at *
    generalize e9 : tw zs 9 = y9 at *
    generalize e11 : tw zs 11 = y11 at *
    have A9 := ((((((((A0.on b1).set 0 (.int .i64 0)).set 1 (.int .i64 y1)).set 2 (.int .i64 y3)).set 3 (.int .i64 y5)).set 4 (.int .i64 y7)).set 5 (.int .i64 y9)).set 6 (.int .i64 y11)).alloc (.cells #[.int .i64 y1, .int .i64 y3, .int .i64 y5, .int .i64 y7, .int .i64 y9, .int .i64 y11] 33)
    have q0 := A9.cell 0 _ rfl
    have q1 := A9.cell 1 _ rfl
    have q2 := A9.cell 2 _ rfl
    have q3 := A9.cell 3 _ rfl
    have q4 := A9.cell 4 _ rfl
    have q5 := A9.cell 5 _ rfl
    have q6 := A9.cell 6 _ rfl
    have HB := Lib.hid (bal (bset (bset (bset (bset (bset (bset (bset (btr b0 b1) (p := ⟨w.heap.size, 0, none⟩) (Nat.le_refl _) (.int .i64 0)) (p := ⟨w.heap.size, 1, none⟩) (Nat.le_refl _) (.int .i64 y1)) (p := ⟨w.heap.size, 2, none⟩) (Nat.le_refl _) (.int .i64 y3)) (p := ⟨w.heap.size, 3, none⟩) (Nat.le_refl _) (.int .i64 y5)) (p := ⟨w.heap.size, 4, none⟩) (Nat.le_refl _) (.int .i64 y7)) (p := ⟨w.heap.size, 5, none⟩) (Nat.le_refl _) (.int .i64 y9)) (p := ⟨w.heap.size, 6, none⟩) (Nat.le_refl _) (.int .i64 y11)) (.cells #[.int .i64 y1, .int .i64 y3, .int .i64 y5, .int .i64 y7, .int .i64 y9, .int .i64 y11] 33))
    clear A0 A9 b0 b1 hv F R0
    go_wp2_with fail
    refine bodyPost_ret (v := R7 0 y1 y3 y5 y7 y9 y11) (by simp [results, Tryz.results22, go_sem, q0, q1, q2, q3, q4, q5, q6]) rfl ⟨by rw [e1, e3, e5, e7, e9, e11], HB.out⟩
end Go.Proofs.YtlodhleihnlchaaGreatDoor
namespace Go.Proofs.YtlodhleihnlchaaGreatDoor
open Go.RowKit

def regs : Code → List (Nat × Array Oper)
  | .region i ops _ => [(i, ops)]
  | .seq a b => regs a ++ regs b
  | .cond _ a b => regs a ++ regs b
  | .block _ b => regs b
  | .loop b => regs b
  | .scope b => regs b
  | .rangeFunc _ _ a b => regs a ++ regs b
  | _ => []
def regAt (c : Option Code) (id : Nat) : Array Oper := match (regs (c.getD .skip)).find? (fun x => x.1 == id) with
  | some x => x.2
  | none => #[]
structure Piece (ops : Array Oper) (L : Array Bool) (π : List (Nat × Bool)) (L' : Array Bool) : Prop where
  seg : segB .any ops π L = true
  went : marked L π = L'
theorem segB_append (md : Region.Mode) (ops : Array Oper) : ∀ (p q : List (Nat × Bool)) (L : Array Bool), segB md ops (p ++ q) L = (segB md ops p L && segB md ops q (marked L p))
  | [], q, L => by simp [segB, marked]
  | (i, m) :: p, q, L => by
    rw [List.cons_append, segB, segB, segB_append md ops p q, marked, Bool.and_assoc]
theorem marked_append : ∀ (p q : List (Nat × Bool)) (L : Array Bool), marked L (p ++ q) = marked (marked L p) q
  | [], q, L => rfl
  | (i, m) :: p, q, L => by
    rw [List.cons_append, marked, marked, marked_append p q]
theorem Piece.app {ops : Array Oper} {L L1 L2 : Array Bool} {p q : List (Nat × Bool)} (h1 : Piece ops L p L1) (h2 : Piece ops L1 q L2) : Piece ops L (p ++ q) L2 :=
  ⟨by rw [segB_append, h1.seg, h1.went, h2.seg]; rfl, by rw [marked_append, h1.went, h2.went]⟩
theorem wp_region_pieces {P : Program} {Q : Exit → Act → World → Prop} {id : Nat} {a : Act} {w : World} {l : List Oper} (S : World → Prop) (π : List (Nat × Bool)) (ops : Array Oper) (L0 L1 : Array Bool) (hops : l.toArray = ops) (hm : P.follows .mixedOrders = true)
    (hN : Region.noSelect ops = true) (hl : π.length = l.length) (h0 : Array.replicate ops.size false = L0) (hp : Piece ops L0 π L1) (he : (Region.ready .any ops L1).isEmpty = true) (hQ : ∀ c a d v w, Q (.panic c) (a.put d v) w → Q (.panic c) a w)
    (hS : S w.drew) (h : LineP P l.toArray S Q (Q .normal) π a w.drew) : (Code.region id l.toArray true).wp P Q a w := by
  refine wp_region_line S π hm ?_ hQ hS h
  rw [hops, h0, hp.went, hN, hp.seg, he, decide_eq_true hl]
  rfl
end Go.Proofs.YtlodhleihnlchaaGreatDoor
namespace Go.Proofs.YtlodhleihnlchaaGreatDoor.fnHellos
open Go.RowKit
set_option maxRecDepth 100000

noncomputable def ops : Array Oper := regAt Tryz.f3.body 11
def L0 : Array Bool := #[false, false, false, false, false, false, false, false, false, false, false, false, false, false, false, false, false, false, false, false, false, false, false, false, false, false, false, false, false, false, false, false, false, false, false, false, false, false, false, false, false, false, false, false, false, false, false, false, false, false, false, false, false, false, false, false, false, false, false, false, false, false, false, false, false, false, false, false, false, false, false, false, false, false, false, false, false, false, false, false, false, false, false, false, false, false, false, false, false, false, false, false, false, false, false, false]
def L1 : Array Bool := #[true, true, true, true, true, true, true, true, true, true, false, false, false, false, false, false, false, false, false, false, false, false, false, false, false, false, false, false, false, false, false, false, false, false, false, false, false, false, false, false, false, false, false, false, false, false, false, false, false, false, false, false, false, false, false, false, false, false, false, false, false, false, false, false, false, false, false, false, false, false, false, false, false, false, false, false, false, false, false, false, false, false, false, false, false, false, false, false, false, false, false, false, false, false, false, false]
theorem c0 : Piece ops L0 [(0, true), (1, true), (2, true), (3, false), (4, true), (5, true), (6, true), (7, true), (8, true), (9, true)] L1 := ⟨by kernel_rfl, by kernel_rfl⟩
def L2 : Array Bool := #[true, true, true, true, true, true, true, true, true, true, true, true, true, true, true, true, true, true, true, true, false, false, false, false, false, false, false, false, false, false, false, false, false, false, false, false, false, false, false, false, false, false, false, false, false, false, false, false, false, false, false, false, false, false, false, false, false, false, false, false, false, false, false, false, false, false, false, false, false, false, false, false, false, false, false, false, false, false, false, false, false, false, false, false, false, false, false, false, false, false, false, false, false, false, false, false]
theorem c1 : Piece ops L1 [(10, true), (11, true), (12, true), (15, true), (13, false), (14, true), (16, false), (17, true), (18, true), (19, true)] L2 := ⟨by kernel_rfl, by kernel_rfl⟩
def L3 : Array Bool := #[true, true, true, true, true, true, true, true, true, true, true, true, true, true, true, true, true, true, true, true, true, true, true, true, true, true, true, true, true, true, false, false, false, false, false, false, false, false, false, false, false, false, false, false, false, false, false, false, false, false, false, false, false, false, false, false, false, false, false, false, false, false, false, false, false, false, false, false, false, false, false, false, false, false, false, false, false, false, false, false, false, false, false, false, false, false, false, false, false, false, false, false, false, false, false, false]
theorem c2 : Piece ops L2 [(20, true), (21, true), (22, true), (23, true), (24, false), (25, true), (26, true), (27, true), (28, true), (29, true)] L3 := ⟨by kernel_rfl, by kernel_rfl⟩
def L4 : Array Bool := #[true, true, true, true, true, true, true, true, true, true, true, true, true, true, true, true, true, true, true, true, true, true, true, true, true, true, true, true, true, true, true, true, true, true, true, true, true, true, true, true, false, false, false, false, false, false, false, false, false, false, false, false, false, false, false, false, false, false, false, false, false, false, false, false, false, false, false, false, false, false, false, false, false, false, false, false, false, false, false, false, false, false, false, false, false, false, false, false, false, false, false, false, false, false, false, false]
theorem c3 : Piece ops L3 [(30, true), (31, true), (32, true), (33, true), (34, true), (37, true), (35, false), (36, true), (38, false), (39, true)] L4 := ⟨by kernel_rfl, by kernel_rfl⟩
def L5 : Array Bool := #[true, true, true, true, true, true, true, true, true, true, true, true, true, true, true, true, true, true, true, true, true, true, true, true, true, true, true, true, true, true, true, true, true, true, true, true, true, true, true, true, true, true, true, true, true, true, true, true, true, true, false, false, false, false, false, false, false, false, false, false, false, false, false, false, false, false, false, false, false, false, false, false, false, false, false, false, false, false, false, false, false, false, false, false, false, false, false, false, false, false, false, false, false, false, false, false]
theorem c4 : Piece ops L4 [(40, true), (41, true), (42, true), (43, true), (44, true), (45, true), (46, false), (47, true), (48, true), (49, true)] L5 := ⟨by kernel_rfl, by kernel_rfl⟩
def L6 : Array Bool := #[true, true, true, true, true, true, true, true, true, true, true, true, true, true, true, true, true, true, true, true, true, true, true, true, true, true, true, true, true, true, true, true, true, true, true, true, true, true, true, true, true, true, true, true, true, true, true, true, true, true, true, true, true, true, true, true, true, true, true, true, false, false, false, false, false, false, false, false, false, false, false, false, false, false, false, false, false, false, false, false, false, false, false, false, false, false, false, false, false, false, false, false, false, false, false, false]
theorem c5 : Piece ops L5 [(50, true), (51, true), (52, true), (53, false), (54, true), (55, true), (56, true), (57, true), (58, true), (59, true)] L6 := ⟨by kernel_rfl, by kernel_rfl⟩
def L7 : Array Bool := #[true, true, true, true, true, true, true, true, true, true, true, true, true, true, true, true, true, true, true, true, true, true, true, true, true, true, true, true, true, true, true, true, true, true, true, true, true, true, true, true, true, true, true, true, true, true, true, true, true, true, true, true, true, true, true, true, true, true, true, true, true, true, true, true, true, true, true, true, true, true, false, false, false, false, false, false, false, false, false, false, false, false, false, false, false, false, false, false, false, false, false, false, false, false, false, false]
theorem c6 : Piece ops L6 [(60, false), (61, true), (62, true), (63, true), (64, true), (65, true), (66, true), (67, false), (68, true), (69, true)] L7 := ⟨by kernel_rfl, by kernel_rfl⟩
def L8 : Array Bool := #[true, true, true, true, true, true, true, true, true, true, true, true, true, true, true, true, true, true, true, true, true, true, true, true, true, true, true, true, true, true, true, true, true, true, true, true, true, true, true, true, true, true, true, true, true, true, true, true, true, true, true, true, true, true, true, true, true, true, true, true, true, true, true, true, true, true, true, true, true, true, true, true, true, true, true, true, true, true, true, true, false, false, false, false, false, false, false, false, false, false, false, false, false, false, false, false]
theorem c7 : Piece ops L7 [(70, true), (71, true), (72, true), (73, true), (74, true), (75, true), (76, true), (79, true), (77, false), (78, true)] L8 := ⟨by kernel_rfl, by kernel_rfl⟩
def L9 : Array Bool := #[true, true, true, true, true, true, true, true, true, true, true, true, true, true, true, true, true, true, true, true, true, true, true, true, true, true, true, true, true, true, true, true, true, true, true, true, true, true, true, true, true, true, true, true, true, true, true, true, true, true, true, true, true, true, true, true, true, true, true, true, true, true, true, true, true, true, true, true, true, true, true, true, true, true, true, true, true, true, true, true, true, true, true, true, true, true, true, true, true, true, false, false, false, false, false, false]
theorem c8 : Piece ops L8 [(80, true), (81, true), (82, true), (83, true), (84, true), (85, true), (86, true), (87, true), (88, true), (89, true)] L9 := ⟨by kernel_rfl, by kernel_rfl⟩
def L10 : Array Bool := #[true, true, true, true, true, true, true, true, true, true, true, true, true, true, true, true, true, true, true, true, true, true, true, true, true, true, true, true, true, true, true, true, true, true, true, true, true, true, true, true, true, true, true, true, true, true, true, true, true, true, true, true, true, true, true, true, true, true, true, true, true, true, true, true, true, true, true, true, true, true, true, true, true, true, true, true, true, true, true, true, true, true, true, true, true, true, true, true, true, true, true, true, true, true, true, true]
theorem c9 : Piece ops L9 [(92, true), (90, false), (91, true), (93, true), (94, true), (95, true)] L10 := ⟨by kernel_rfl, by kernel_rfl⟩
theorem line : Piece ops L0 [(0, true), (1, true), (2, true), (3, false), (4, true), (5, true), (6, true), (7, true), (8, true), (9, true), (10, true), (11, true), (12, true), (15, true), (13, false), (14, true), (16, false), (17, true), (18, true), (19, true), (20, true), (21, true), (22, true), (23, true), (24, false), (25, true), (26, true), (27, true), (28, true), (29, true), (30, true), (31, true), (32, true), (33, true), (34, true), (37, true), (35, false), (36, true), (38, false), (39, true), (40, true), (41, true), (42, true), (43, true), (44, true), (45, true), (46, false), (47, true), (48, true), (49, true), (50, true), (51, true), (52, true), (53, false), (54, true), (55, true), (56, true), (57, true), (58, true), (59, true), (60, false), (61, true), (62, true), (63, true), (64, true), (65, true), (66, true), (67, false), (68, true), (69, true), (70, true), (71, true), (72, true), (73, true), (74, true), (75, true), (76, true), (79, true), (77, false), (78, true), (80, true), (81, true), (82, true), (83, true), (84, true), (85, true), (86, true), (87, true), (88, true), (89, true), (92, true), (90, false), (91, true), (93, true), (94, true), (95, true)] L10 := c0.app (c1.app (c2.app (c3.app (c4.app (c5.app (c6.app (c7.app (c8.app (c9)))))))))
theorem noSel : Region.noSelect ops = true := by kernel_rfl
theorem start : Array.replicate ops.size false = L0 := by kernel_rfl
theorem done : (Region.ready .any ops L10).isEmpty = true := by kernel_rfl
end Go.Proofs.YtlodhleihnlchaaGreatDoor.fnHellos
namespace Go.Proofs.YtlodhleihnlchaaGreatDoor
open Go.ChangeShapes Go.WideShapes Go.ChangeAt Go.RowKit

theorem own : ownKnob Tryz.prog.godebug = none := by kernel_rfl
theorem laidOut : laidOutB Tryz.prog = true := by kernel_rfl

def varsOk (P : Program) (names : List String) : Bool :=
  names.all fun n => match P.globalNamed n with
    | some g => match (P.globals[g]?).map (·.type) with
      | some t => P.readableRec t && decide (t < P.types.size)
      | Option.none => false
    | Option.none => false
theorem vars_keep {H : Type} {enc : TypeId × Value → H} {P : Program} (hl : laidOutB P = true) {W W' : World} (bel : Below W.heap.size W W') : ∀ (names : List String) (gs : List (DataW H)) (q : List MemPlace),
    varsOk P names = true → DataW.TrodVars enc P W (fun _ => true) names gs q → (∀ x ∈ q, x.block < W.heap.size) → DataW.TrodVars enc P W' (fun b => decide (b < W.heap.size)) names gs q
  | [], gs, q, _, h, _ => by
    obtain ⟨rfl, rfl⟩ := trodVars_none h
    exact rfl
  | n :: r, [], q, _, h, _ => by simp [DataW.TrodVars] at h
  | n :: r, d :: ds, q, hok, h, hlt => by
    obtain ⟨g, t, cs, fuel, p, q2, h1, h2, h3, h4, h5, rfl⟩ := h
    simp only [varsOk, List.all_cons, Bool.and_eq_true] at hok
    obtain ⟨ho, hor⟩ := hok
    simp only [h1, h2, Bool.and_eq_true, decide_eq_true_eq] at ho
    have hg : g < W.heap.size := by
      rcases Nat.lt_or_ge g W.heap.size with hlt | hge
      · exact hlt
      · simp [World.var?, h1, Array.getElem?_eq_none hge] at h3
    have hT : DataW.Trod enc P W 0 (fun _ => true) true t (.agg cs) d p := ⟨fuel, h4⟩
    obtain ⟨fuel', h4'⟩ := Below.trod hl ho.1 ho.2 hT bel (fun x hx => hlt x (by simp [hx]))
    exact ⟨g, t, cs, fuel', p, q2, h1, h2, var?_below bel h1 hg h3, h4', vars_keep hl bel r ds q2 hor h5 (fun x hx => hlt x (by simp [hx])), rfl⟩

theorem cells_of_words {H : Type} {enc : TypeId × Value → H} {P : Program} {w : World} {base : Nat} {sp : Nat → Bool} {held : Bool} {fuel : Nat} {t e : TypeId} {n : Nat} {cs : List Value} {ss : List (List UInt8)} {p : List MemPlace}
    (ht : P.underlying t = some (.array n e)) (he : P.underlying e = some .string) (hce : P.cellsOf e = 1) (hct : P.cellsOf t = n)
    (h : DataW.trod enc P w base sp held fuel t cs = some (.agg (ss.map fun s => .lit (.string s)), p)) : cs = ss.map fun s => Value.string ⟨s.toArray⟩ := by
  cases fuel with
  | zero => simp [DataW.trod] at h
  | succ fuel =>
    simp only [DataW.trod, ht, hce, hct, Nat.mul_one] at h
    split at h
    · rename_i hl
      obtain ⟨xs, hm, hx⟩ := Option.map_eq_some_iff.1 h
      have hxs : xs.map (·.1) = ss.map fun s => (DataW.lit (.string s) : DataW H) := by
        have := congrArg Prod.fst hx
        simpa using this
      have hxl : xs.length = n := by simpa using Lib.mapM_length hm
      have hzl : ss.length = n := by
        have := congrArg List.length hxs
        simp at this
        omega
      apply List.ext_getElem?
      intro i
      by_cases hi : i < n
      · obtain ⟨b, hb, hf⟩ := Lib.mapM_at hm i i (by simp [hi])
        obtain ⟨s, hc, rfl, _⟩ := DataW.trod_string he hf
        have h1 : cs[i]? = some (.string s) := by
          have := congrArg (·[0]?) hc
          simpa [List.getElem?_take, List.getElem?_drop] using this
        have h2 : (xs.map (·.1))[i]? = some (DataW.lit (.string s.data.toList) : DataW H) := by simp [hb]
        rw [hxs] at h2
        simp only [List.getElem?_map, Option.map_eq_some_iff, DataW.lit.injEq, Lit.string.injEq] at h2
        obtain ⟨z', hz', e'⟩ := h2
        rw [h1]
        simp [hz', e']
      · rw [List.getElem?_eq_none (by omega), List.getElem?_eq_none (by simp; omega)]
    · cases h

theorem gLabels : Tryz.prog.globalNamed "loop.example/g00618/impl.labels" = some 1 := by kernel_rfl
theorem gLabelsType : (Tryz.prog.globals[1]?).map (·.type) = some 178 := by kernel_rfl
theorem cLabels : Tryz.prog.cellsOf 178 = 13 := by kernel_rfl
theorem cWord : Tryz.prog.cellsOf 9 = 1 := by kernel_rfl
theorem gErrT : Tryz.prog.globalNamed "errors.errorType" = some 3 := by kernel_rfl
theorem rtErrT : (Tryz.prog.cutTypes.find? (·.1 == "internal/reflectlite.rtype")).map (·.2) = some 384 := by kernel_rfl
theorem rowErrT : ((List.range 466).filter fun t => Tryz.prog.rowNamed t [101, 114, 114, 111, 114]) = [160] := by kernel_rfl
theorem sizeErrT : Tryz.prog.types.size = 466 := by kernel_rfl
theorem ErrT_of {W : World} (h : handlesMet Tryz.prog [("errors.errorType", Rows.laid_errors_errorType)] W) : ErrT W := by
  obtain ⟨name, u, ty, e1, e2, e3, e4, e5⟩ := h _ (List.mem_singleton.2 rfl)
  have en : name = [101, 114, 114, 111, 114] := (Option.some.inj e1).symm
  subst en
  obtain rfl := Option.some.inj (rtErrT.symm.trans e2)
  have hm : ty ∈ (List.range 466).filter fun t => Tryz.prog.rowNamed t [101, 114, 114, 111, 114] := List.mem_filter.2 ⟨List.mem_range.2 (by rw [← sizeErrT]; exact e3), e4⟩
  rw [rowErrT] at hm
  obtain rfl := List.mem_singleton.1 hm
  have hh : typeHandle Tryz.prog 160 = .pointer (some ⟨8, 160, none⟩) := by kernel_rfl
  rw [hh] at e5
  exact ⟨by simpa using World.var?_cell gErrT e5 0⟩
noncomputable def laidWorld (os : Os) : World :=
  { World.holding Tryz.prog os ⟨#[], #[], []⟩ with heap := ((World.holding Tryz.prog os ⟨#[], #[], []⟩).heap
       |>.modify 1 (fun | .cells _ t frozen => .cells #[.string M.streamS, .string M.heardS, .string M.nonceS, .string M.signS, .string M.macS, .string M.sealS, .string M.spkiS, .string M.rollS, .string M.masterS, .string M.verifyS, .string M.finishS, .string M.upS, .string M.downS] t frozen | o => o)
       |>.modify 3 (fun | .cells _ t frozen => .cells #[.iface 384 (.agg #[.pointer (some ⟨8, 160, none⟩)])] t frozen | o => o)
    ) }
end Go.Proofs.YtlodhleihnlchaaGreatDoor
namespace Go.Proofs.YtlodhleihnlchaaGreatDoor
open Go.ChangeShapes Go.WideShapes Go.ChangeAt Go.RowKit

theorem laid_mem {P : Program} {w : World} : ∀ (l : List (String × DataW Unit)) (ps : List MemPlace), DataW.LaidVars P w l ps → ∀ n d, (n, d) ∈ l →
    ∃ g t cs fuel p, P.globalNamed n = some g ∧ (P.globals[g]?).map (·.type) = some t ∧ w.var? P n = some cs ∧ DataW.trod (fun _ => ()) P w 0 (fun _ => true) false fuel t cs.toList = some (d, p)
  | [], _, _, n, d, h => by cases h
  | (n', d') :: r, ps, ⟨g, t, cs, fuel, p, q, h1, h2, h3, h4, h5, _⟩, n, d, h => by
    rcases List.mem_cons.1 h with e | h
    · injection e with e1 e2
      subst e1
      subst e2
      exact ⟨g, t, cs, fuel, p, h1, h2, h3, h4⟩
    · exact laid_mem r q h5 n d h
theorem witness_tabs {H : Type} {enc : TypeId × Value → H} {C : Checked} {os : Os} {f : FuncId} {fn : Func} {s : OpenSpec} {conds : List PathCond} {apart : Bool} {laid : List (String × DataW Unit)} (modest : Bool) (w0 : World) (args : Array Value) (hos : w0.os = os)
    (hsh : (w0.forCall (fun _ _ => 0) ⟨#[], args, []⟩).Shaped C.prog)
    (hok : Input.okWideB C.prog (w0.forCall (fun _ _ => 0) ⟨#[], args, []⟩) f ⟨#[], args, []⟩ = true)
    (hrow : s.preRow enc C.prog fn conds apart laid (w0.forCall (fun _ _ => 0) ⟨#[], args, []⟩).memory args) :
    ∃ (w : World) (tape : Tape) (i : Input), w.os = os ∧ (w.forCall tape i).Shaped C.prog ∧ i.vars = [] ∧ Input.okWide C.prog (w.forCall tape i) .any w.heap.size f i ∧
      s.preRow enc C.prog fn conds apart laid (w.forCall tape i).memory i.args ∧ ({ modest := modest } : Assume).holds C.prog (lone (Frame.enter C.prog f i.args .normal) [] (w.forCall tape i)) :=
  ⟨w0, fun _ _ => 0, ⟨#[], args, []⟩, hos, hsh, (Input.okWide_of_okWideB (base := 0) hok).1, (Input.okWide_of_okWideB hok).2, hrow, by
    simp only [Assume.holds]
    exact ⟨by simp, by simp, fun _ => Modest.zero, by simp, by simp⟩⟩

end Go.Proofs.YtlodhleihnlchaaGreatDoor
namespace Go.Proofs.YtlodhleihnlchaaGreatDoor
open Go.ChangeShapes Go.WideShapes Go.ChangeAt Go.RowKit

theorem gErrU : Tryz.prog.globalNamed "loop.example/g00618/impl.errUnread" = some 0 := by kernel_rfl
theorem gErrUType : (Tryz.prog.globals[0]?).map (·.type) = some 160 := by kernel_rfl
theorem ErrU_of {W : World} {l : List (String × DataW Unit)} {ps : List MemPlace} (hv : DataW.LaidVars Tryz.prog W l ps) (hm : ("loop.example/g00618/impl.errUnread", Rows.laid_loop_example_g00618_impl_errUnread) ∈ l) : ErrU W := by
  obtain ⟨g, t, cs, fuel, p, hg, ht, hvar, hd⟩ := laid_mem _ _ hv _ _ hm
  obtain rfl := Option.some.inj (gErrU.symm.trans hg)
  obtain rfl := Option.some.inj (gErrUType.symm.trans ht)
  obtain ⟨fuel', u, v, hcs, -, -⟩ := iface_of_trod Tryz.underlying160 hd
  have c0 := World.var?_cell hg hvar 0
  have a0 : cs[0]? = some (.iface u v) := by rw [← Array.getElem?_toList, hcs]; rfl
  exact ⟨u, v, ⟨c0.trans a0⟩⟩
end Go.Proofs.YtlodhleihnlchaaGreatDoor
namespace Go.Proofs.YtlodhleihnlchaaGreatDoor
open Go.ChangeShapes Go.WideShapes Go.ChangeAt Go.RowKit

def listA : List (String × DataW Unit) := [("unicode/utf8.acceptRanges", Rows.laid_unicode_utf8_acceptRanges), ("errors.errorType", Rows.laid_errors_errorType), ("loop.example/g00618/impl.labels", Rows.laid_loop_example_g00618_impl_labels), ("loop.example/g00618/impl.errUnread", Rows.laid_loop_example_g00618_impl_errUnread), ("unicode.CaseRanges", Rows.laid_unicode_CaseRanges), ("unicode/utf8.first", Rows.laid_unicode_utf8_first)]
def listB : List (String × DataW Unit) := [("unicode/utf8.acceptRanges", Rows.laid_unicode_utf8_acceptRanges), ("loop.example/g00618/impl.labels", Rows.laid_loop_example_g00618_impl_labels), ("loop.example/g00618/impl.errUnread", Rows.laid_loop_example_g00618_impl_errUnread), ("unicode.CaseRanges", Rows.laid_unicode_CaseRanges), ("unicode/utf8.first", Rows.laid_unicode_utf8_first)]
theorem listA_handle : (listA.filter fun x => x.2.handleName?.isSome) = [("errors.errorType", Rows.laid_errors_errorType)] := by kernel_rfl
theorem listA_plain : (listA.filter fun x => x.2.handleName?.isNone) = listB := by kernel_rfl
theorem all_laid {W : World} (h : laidMetH Tryz.prog listA W) : laidMet Tryz.prog listB W ∧ handlesMet Tryz.prog [("errors.errorType", Rows.laid_errors_errorType)] W := by
  unfold laidMetH at h
  rw [listA_handle, listA_plain] at h
  exact h
theorem ErrT_all {W : World} (h : laidMetH Tryz.prog listA W) : ErrT W := ErrT_of (all_laid h).2
theorem ErrU_all {W : World} (h : laidMetH Tryz.prog listA W) : ErrU W := by
  obtain ⟨ps, hv, _⟩ := (all_laid h).1
  exact ErrU_of hv (List.mem_cons_of_mem _ (List.mem_cons_of_mem _ (List.mem_cons_self ..)))
theorem Labels_all {W : World} (h : laidMetH Tryz.prog listA W) : Labels W := by
  obtain ⟨ps, hv, _⟩ := (all_laid h).1
  obtain ⟨g, t, cs, fuel, p, hg, ht, hvar, hd⟩ := laid_mem _ _ hv "loop.example/g00618/impl.labels" Rows.laid_loop_example_g00618_impl_labels (List.mem_cons_of_mem _ (List.mem_cons_self ..))
  obtain rfl := Option.some.inj (gLabels.symm.trans hg)
  obtain rfl := Option.some.inj (gLabelsType.symm.trans ht)
  have e := cells_of_words (ss := [[115, 116, 114, 101, 97, 109], [104, 101, 97, 114, 100], [110, 111, 110, 99, 101], [115, 105, 103, 110], [109, 97, 99], [115, 101, 97, 108], [115, 112, 107, 105], [114, 111, 108, 108], [109, 97, 115, 116, 101, 114], [118, 101, 114, 105, 102, 121], [102, 105, 110, 105, 115, 104], [117, 112], [100, 111, 119, 110]]) Tryz.underlying178 Tryz.underlying9 cWord cLabels hd
  have c := fun i => World.var?_cell hg hvar i
  have a0 : cs[0]? = some (.string M.streamS) := by rw [← Array.getElem?_toList, e]; rfl
  have a1 : cs[1]? = some (.string M.heardS) := by rw [← Array.getElem?_toList, e]; rfl
  have a2 : cs[2]? = some (.string M.nonceS) := by rw [← Array.getElem?_toList, e]; rfl
  have a3 : cs[3]? = some (.string M.signS) := by rw [← Array.getElem?_toList, e]; rfl
  have a4 : cs[4]? = some (.string M.macS) := by rw [← Array.getElem?_toList, e]; rfl
  have a5 : cs[5]? = some (.string M.sealS) := by rw [← Array.getElem?_toList, e]; rfl
  have a6 : cs[6]? = some (.string M.spkiS) := by rw [← Array.getElem?_toList, e]; rfl
  have a7 : cs[7]? = some (.string M.rollS) := by rw [← Array.getElem?_toList, e]; rfl
  have a8 : cs[8]? = some (.string M.masterS) := by rw [← Array.getElem?_toList, e]; rfl
  have a9 : cs[9]? = some (.string M.verifyS) := by rw [← Array.getElem?_toList, e]; rfl
  have a10 : cs[10]? = some (.string M.finishS) := by rw [← Array.getElem?_toList, e]; rfl
  have a11 : cs[11]? = some (.string M.upS) := by rw [← Array.getElem?_toList, e]; rfl
  have a12 : cs[12]? = some (.string M.downS) := by rw [← Array.getElem?_toList, e]; rfl
  exact ⟨(c 0).trans a0, (c 1).trans a1, (c 2).trans a2, (c 3).trans a3, (c 4).trans a4, (c 5).trans a5, (c 6).trans a6, (c 7).trans a7, (c 8).trans a8, (c 9).trans a9, (c 10).trans a10, (c 11).trans a11, (c 12).trans a12⟩
theorem trodVars_two {H : Type} {enc : TypeId × Value → H} {P : Program} {w : World} {spare : Nat → Bool} {n m : String} {gs : List (DataW H)} {ps : List MemPlace} (h : DataW.TrodVars enc P w spare [n, m] gs ps) : ∃ g1 g2, gs = [g1, g2] := by
  match gs, h with
  | [], h => simp [DataW.TrodVars] at h
  | [d], h =>
    obtain ⟨g, t, cs, fuel, p, q, h1, h2, h3, h4, hs, e⟩ := h
    simp [DataW.TrodVars] at hs
  | [d1, d2], h => exact ⟨d1, d2, rfl⟩
  | d1 :: d2 :: d3 :: r, h =>
    obtain ⟨g, t, cs, fuel, p, q, h1, h2, h3, h4, hs, e⟩ := h
    obtain ⟨g, t, cs, fuel, p, q, h1, h2, h3, h4, hs, e⟩ := hs
    simp [DataW.TrodVars] at hs

noncomputable def heldW (os : Os) : World :=
  { World.holding Tryz.prog os ⟨#[], #[], []⟩ with heap := (World.holding Tryz.prog os ⟨#[], #[], []⟩).heap.modify 3 (fun | .cells _ t frozen => .cells #[.iface 384 (.agg #[.pointer (some ⟨8, 160, none⟩)])] t frozen | o => o) }
noncomputable def laidA (os : Os) : World := (heldW os).layVars Tryz.prog listB
theorem laidA_os (os : Os) : (laidA os).os = os := World.layVars_os _ _ _
theorem laidMet_on {P : Program} {w0 : World} {laid : List (String × DataW Unit)} (args : Array Value) (hf : w0.layFits P laid [] = true) (hi : w0.layIfaces P laid (w0.layVars P laid) = true) :
    laidMet P laid ((w0.layVars P laid).forCall (fun _ _ => 0) ⟨#[], args, []⟩).memory := by
  have e1 : (laid.filter fun x => (laid.map (·.1)).contains x.1) = laid := List.filter_eq_self.2 fun x hx => List.contains_iff_mem.2 (List.mem_map.2 ⟨x, hx, rfl⟩)
  have e2 : (laid.filter fun x => !(laid.map (·.1)).contains x.1) = [] := List.filter_eq_nil_iff.2 fun x hx => by rw [List.contains_iff_mem.2 (List.mem_map.2 ⟨x, hx, rfl⟩)]; simp
  have h : laidMet P laid (w0.layVars P laid) := laidMet_layVars (w0 := w0) (laid.map (·.1)) [] (by rw [e1]) (by rw [e1]; exact hf) (by rw [e1]; exact hi) (by rw [e2]; exact LaidIn.none)
  exact h.of_heap (by simp [World.memory, World.forCall, Input.heap])
theorem shapedA (os : Os) (args : Array Value) : ((laidA os).forCall (fun _ _ => 0) ⟨#[], args, []⟩).Shaped Tryz.prog := World.shaped_of_ZipB (by kernel_rfl) (by kernel_rfl)
theorem metA (os : Os) (args : Array Value) : laidMetH Tryz.prog listA ((laidA os).forCall (fun _ _ => 0) ⟨#[], args, []⟩).memory :=
  laidMetH_of_parts (by rw [listA_plain]; exact laidMet_on args (by kernel_rfl) (by kernel_rfl)) (by rw [listA_handle]; kernel_rfl)
end Go.Proofs.YtlodhleihnlchaaGreatDoor
