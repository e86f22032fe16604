/- The function HeardOf answers, at every argument, as its model does. The walk: the law's Go text answers true and turns nothing that was there. Conditions: as the theorem states. -/
import Derived.Test.YtlodhleihnlchaaGreatDoorE3
import Derived.Test.YtlodhleihnlchaaGreatDoorE4
import Derived.Test.YtlodhleihnlchaaGreatDoorE6
import Derived.Test.YtlodhleihnlchaaGreatDoorE8
import Derived.WalkKit
import Derived.Below
namespace Go.Proofs.YtlodhleihnlchaaGreatDoor.fnExactHeardOf
open Go.RowKit
set_option linter.unusedVariables false

/-- A value lies in a block of its own. -/
def PairAt (V : World) (cs : List Value) (v : Value) (wx : World) : Prop := ∃ g, v = .pointer (some ⟨g, 0, none⟩) ∧ At g cs wx ∧ Below V.heap.size V wx ∧ V.heap.size ≤ g
set_option maxRecDepth 100000 in
set_option maxHeartbeats 1000000 in
theorem walk (a0r a0s : Int) (a0n : ByteArray) (a1r a1s a1p a1x a1y a1f : Int) (w : World) (w0r : (Lit.int .i64 a0r).wf = true) (w0s : (Lit.int .i64 a0s).wf = true) (w0n : a0n.size ≤ maxLen) (w1r : (Lit.int .i64 a1r).wf = true) (w1s : (Lit.int .i64 a1s).wf = true) (w1p : (Lit.int .i64 a1p).wf = true) (w1x : (Lit.int .i64 a1x).wf = true) (w1y : (Lit.int .i64 a1y).wf = true) (w1f : (Lit.int .i64 a1f).wf = true) (lab : Labels w) (ert : ErrT w) :
    Calls Tryz.prog 8 #[.agg #[.int .i64 a0r, .int .i64 a0s, .string a0n], .agg #[.int .i64 a1r, .int .i64 a1s, .int .i64 a1p, .int .i64 a1x, .int .i64 a1y, .int .i64 a1f]] w fun e w' => e = .returned (.bool true) ∧ Below w.heap.size w w' := by
  have hm := w0n
  unfold maxLen at hm
  have b0 := bal (bal (Below.refl _ w) (.cells #[.int .i64 a0r, .int .i64 a0s, .string a0n] 133)) (.cells #[.int .i64 a1r, .int .i64 a1s, .int .i64 a1p, .int .i64 a1x, .int .i64 a1y, .int .i64 a1f] 136)
  have A0 := (At.new w (HL3 a0r a0s a0n) 133).alloc (.cells #[.int .i64 a1r, .int .i64 a1s, .int .i64 a1p, .int .i64 a1x, .int .i64 a1y, .int .i64 a1f] 136)
  have A1 := At.new (w.alloc (.cells #[.int .i64 a0r, .int .i64 a0s, .string a0n] 133)) (RL6 a1r a1s a1p a1x a1y a1f) 136
  simp only [World.size_alloc] at A0 A1
  have F := fun w => szHello_any a0r a0s a0n 1048576 w w0n (by omega) (by omega)
  by_cases hbig : (1048576 : Int) < a0n.size
  · simp only [if_pos hbig] at F
    go_enter Tryz.func8, Tryz.ntmps8
    go_wp2_with fail
    generalize (w.alloc (.cells #[.int .i64 a0r, .int .i64 a0s, .string a0n] 133)).alloc (.cells #[.int .i64 a1r, .int .i64 a1s, .int .i64 a1p, .int .i64 a1x, .int .i64 a1y, .int .i64 a1f] 136) = W0 at *
    refine (F _).mono ?_
    rintro r u1 ⟨rfl, b1⟩
    have hb := btr b0 b1
    go_wp2_with fail
    go_ret
    exact ⟨rfl, hb⟩
  simp only [if_neg hbig] at F
  have hs0 : ¬ (1048576 : Int) - a0n.size < 0 := by omega
  have S0 := fun w => toHello_any a0r a0s a0n w
  have S1 := fun w => toReply_any a1r a1s a1p a1x a1y a1f w
  have S2 := fun w => specHeardOf_any a0n a0r a0s a1r a1s a1p a1x a1y a1f w w0n
  have S3 := fun w L E => implHeardOf_any a0n a0r a0s a1r a1s a1p a1x a1y a1f w L E w0n
  generalize heaC a0n a0r a0s a1r a1s a1p a1x a1y a1f = cd at *
  generalize heaV a0n a0r a0s a1r a1s a1p a1x a1y a1f = hv at *
  have L0 := lab.on b0
  have E0 := ert.on b0
  clear lab ert
  go_enter Tryz.func8, Tryz.ntmps8
  go_wp2_with fail
  generalize (w.alloc (.cells #[.int .i64 a0r, .int .i64 a0s, .string a0n] 133)).alloc (.cells #[.int .i64 a1r, .int .i64 a1s, .int .i64 a1p, .int .i64 a1x, .int .i64 a1y, .int .i64 a1f] 136) = W0 at *
  refine (F _).mono ?_
  rintro r u1 ⟨rfl, b1⟩
  have A0' := A0.on b1
  have A1' := A1.on b1
  have B1 := btr b0 b1
  have L1 := L0.on b1
  have E1 := E0.on b1
  have p0 := A0'.cell 0 _ rfl
  have p1 := A0'.cell 1 _ rfl
  have p2 := A0'.cell 2 _ rfl
  have d0 := A1'.cell 0 _ rfl
  have d1 := A1'.cell 1 _ rfl
  have d2 := A1'.cell 2 _ rfl
  have d3 := A1'.cell 3 _ rfl
  have d4 := A1'.cell 4 _ rfl
  have d5 := A1'.cell 5 _ rfl
  clear b1 b0 A0 A1 L0 E0
  go_upto_region 5 with fail
  go_cut [6] from 13 to 18 (fun v' wx => PairAt u1 [.int .i64 cd, .int .i64 hv] v' wx)
  case first =>
    refine wp_region_fork (Bel u1) (by kernel_rfl) (Bel.drew u1) ?_
    have hst : (Bel u1) _ := (Bel.drew u1)
    have inst : Nonempty (Of (Bel u1)) := ⟨⟨_, hst⟩⟩
    have q0 := bel_cell p0
    have q1 := bel_cell p1
    have q2 := bel_cell p2
    have r0 := bel_cell d0
    have r1 := bel_cell d1
    have r2 := bel_cell d2
    have r3 := bel_cell d3
    have r4 := bel_cell d4
    have r5 := bel_cell d5
    generalize u1.drew = V1 at *
    refine any_seg 5 [(0, true), (2, true)] (by kernel_rfl) (fun _ _ d _ _ h => by cases d <;> exact h) ?_
    iterate 2 (refine line_read rfl (by kernel_rfl) (fun K hK => ?_); go_big_quiet_op; refine hK _ ?_; clear hK K)
    refine line_nil ?_
    clear q0 q1 q2 r0 r1 r2 r3 r4 r5
    refine any_fork 1 5 (by kernel_rfl) rfl rfl (by kernel_rfl) (by kernel_rfl) (fun K hK => ?_) (fun K hK => ?_)
    · refine call_any (args := #[H3 a0r a0s a0n]) rfl (by kernel_rfl) (by kernel_rfl) (S0 _) ?_
      rintro e x0 ⟨rfl, hbn⟩
      have hst2 := hst.on hbn
      refine ⟨_, rfl, hK _ _ hst2 ?_⟩
      clear hK K hst hbn
      have hst := hst2
      clear hst2
      simp only [Act.put, List.setIfInBounds_toArray, List.set_cons_zero, List.set_cons_succ]
      refine any_fork 3 5 (by kernel_rfl) rfl rfl (by kernel_rfl) (by kernel_rfl) (fun K hK => ?_) (fun K hK => ?_)
      · refine call_any (args := #[R6 a1r a1s a1p a1x a1y a1f]) rfl (by kernel_rfl) (by kernel_rfl) (S1 _) ?_
        rintro e x1 ⟨rfl, hbn⟩
        have hst2 := hst.on hbn
        refine ⟨_, rfl, hK _ _ hst2 ?_⟩
        clear hK K hst hbn
        have hst := hst2
        clear hst2
        simp only [Act.put, List.setIfInBounds_toArray, List.set_cons_zero, List.set_cons_succ]
        refine any_fork 4 5 (by kernel_rfl) rfl rfl (by kernel_rfl) (by kernel_rfl) (fun K hK => ?_) (fun K hK => ?_)
        · refine call_any (args := #[H3 a0r a0s a0n, R6 a1r a1s a1p a1x a1y a1f]) rfl (by kernel_rfl) (by kernel_rfl) (S2 _) ?_
          rintro e x2 ⟨rfl, hbn⟩
          have hst2 := hst.on hbn
          refine ⟨_, rfl, hK _ _ hst2 ?_⟩
          clear hK K hst hbn
          have hst := hst2
          clear hst2
          simp only [Act.put, List.setIfInBounds_toArray, List.set_cons_zero, List.set_cons_succ]
          refine any_rest [(5, false), (6, false)] (by kernel_rfl) (fun _ _ d _ _ h => by cases d <;> exact h) ?_
          refine line_alone rfl (by kernel_rfl) (fun K hK => ?_)
          go_big_op
          have hst2 := hst.on (bal (Below.refl _ x2) (.cells #[.int .i64 0, .int .i64 0] 49))
          have A := At.new x2 [.int .i64 0, .int .i64 0] 49
          have leA : u1.heap.size ≤ x2.heap.size := hst.out.size
          refine hK _ _ hst2 ?_
          clear hK K hst
          have hst := hst2
          clear hst2
          generalize x2.alloc (.cells #[.int .i64 0, .int .i64 0] 49) = xa at *
          have h0 := A.cell 0 _ rfl
          have h1 := A.cell 1 _ rfl
          have f0 := A.free 0 _ rfl
          have f1 := A.free 1 _ rfl
          refine line_alone rfl (by kernel_rfl) (fun K hK => ?_)
          go_big_op
          refine hK _ _ (⟨(by (iterate 2 (refine bset ?_ (by dsimp only; omega) _)); exact hst.out)⟩) ?_
          clear hK K
          have A9 := ((A.set 0 (.int .i64 cd)).set 1 (.int .i64 hv))
          refine line_nil ?_
          go_wp2_with fail
          go_meet
          case rel => exact ⟨_, rfl, A9, (by (iterate 2 (refine bset ?_ (by dsimp only; omega) _)); exact hst.out), leA⟩
        · go_big_op
          have hst2 := hst.on (bal (Below.refl _ x1) (.cells #[.int .i64 0, .int .i64 0] 49))
          have A := At.new x1 [.int .i64 0, .int .i64 0] 49
          have leA : u1.heap.size ≤ x1.heap.size := hst.out.size
          refine hK _ _ hst2 ?_
          clear hK K hst
          have hst := hst2
          clear hst2
          generalize x1.alloc (.cells #[.int .i64 0, .int .i64 0] 49) = xa at *
          refine any_rest [(4, false), (6, false)] (by kernel_rfl) (fun _ _ d _ _ h => by cases d <;> exact h) ?_
          refine line_alone rfl (by kernel_rfl) (fun K hK => ?_)
          refine call_any (args := #[H3 a0r a0s a0n, R6 a1r a1s a1p a1x a1y a1f]) rfl (by kernel_rfl) (by kernel_rfl) (S2 _) ?_
          rintro e kw2 ⟨rfl, hbn⟩
          have hst2 := hst.on hbn
          have A2 := A.on hbn
          clear A
          have A := A2
          clear A2
          refine ⟨_, rfl, hK _ _ hst2 ?_⟩
          clear hK K hst hbn
          have hst := hst2
          clear hst2
          simp only [Act.put, List.setIfInBounds_toArray, List.set_cons_zero, List.set_cons_succ]
          have h0 := A.cell 0 _ rfl
          have h1 := A.cell 1 _ rfl
          have f0 := A.free 0 _ rfl
          have f1 := A.free 1 _ rfl
          refine line_alone rfl (by kernel_rfl) (fun K hK => ?_)
          go_big_op
          refine hK _ _ (⟨(by (iterate 2 (refine bset ?_ (by dsimp only; omega) _)); exact hst.out)⟩) ?_
          clear hK K
          have A9 := ((A.set 0 (.int .i64 cd)).set 1 (.int .i64 hv))
          refine line_nil ?_
          go_wp2_with fail
          go_meet
          case rel => exact ⟨_, rfl, A9, (by (iterate 2 (refine bset ?_ (by dsimp only; omega) _)); exact hst.out), leA⟩
      · go_big_op
        have hst2 := hst.on (bal (Below.refl _ x0) (.cells #[.int .i64 0, .int .i64 0] 49))
        have A := At.new x0 [.int .i64 0, .int .i64 0] 49
        have leA : u1.heap.size ≤ x0.heap.size := hst.out.size
        refine hK _ _ hst2 ?_
        clear hK K hst
        have hst := hst2
        clear hst2
        generalize x0.alloc (.cells #[.int .i64 0, .int .i64 0] 49) = xa at *
        refine any_rest [(3, false), (4, false), (6, false)] (by kernel_rfl) (fun _ _ d _ _ h => by cases d <;> exact h) ?_
        refine line_alone rfl (by kernel_rfl) (fun K hK => ?_)
        refine call_any (args := #[R6 a1r a1s a1p a1x a1y a1f]) rfl (by kernel_rfl) (by kernel_rfl) (S1 _) ?_
        rintro e kw1 ⟨rfl, hbn⟩
        have hst2 := hst.on hbn
        have A2 := A.on hbn
        clear A
        have A := A2
        clear A2
        refine ⟨_, rfl, hK _ _ hst2 ?_⟩
        clear hK K hst hbn
        have hst := hst2
        clear hst2
        simp only [Act.put, List.setIfInBounds_toArray, List.set_cons_zero, List.set_cons_succ]
        refine line_alone rfl (by kernel_rfl) (fun K hK => ?_)
        refine call_any (args := #[H3 a0r a0s a0n, R6 a1r a1s a1p a1x a1y a1f]) rfl (by kernel_rfl) (by kernel_rfl) (S2 _) ?_
        rintro e kw2 ⟨rfl, hbn⟩
        have hst2 := hst.on hbn
        have A2 := A.on hbn
        clear A
        have A := A2
        clear A2
        refine ⟨_, rfl, hK _ _ hst2 ?_⟩
        clear hK K hst hbn
        have hst := hst2
        clear hst2
        simp only [Act.put, List.setIfInBounds_toArray, List.set_cons_zero, List.set_cons_succ]
        have h0 := A.cell 0 _ rfl
        have h1 := A.cell 1 _ rfl
        have f0 := A.free 0 _ rfl
        have f1 := A.free 1 _ rfl
        refine line_alone rfl (by kernel_rfl) (fun K hK => ?_)
        go_big_op
        refine hK _ _ (⟨(by (iterate 2 (refine bset ?_ (by dsimp only; omega) _)); exact hst.out)⟩) ?_
        clear hK K
        have A9 := ((A.set 0 (.int .i64 cd)).set 1 (.int .i64 hv))
        refine line_nil ?_
        go_wp2_with fail
        go_meet
        case rel => exact ⟨_, rfl, A9, (by (iterate 2 (refine bset ?_ (by dsimp only; omega) _)); exact hst.out), leA⟩
    · go_big_op
      have hst2 := hst.on (bal (Below.refl _ V1) (.cells #[.int .i64 0, .int .i64 0] 49))
      have A := At.new V1 [.int .i64 0, .int .i64 0] 49
      have leA : u1.heap.size ≤ V1.heap.size := hst.out.size
      refine hK _ _ hst2 ?_
      clear hK K hst
      have hst := hst2
      clear hst2
      generalize V1.alloc (.cells #[.int .i64 0, .int .i64 0] 49) = xa at *
      refine any_rest [(1, false), (3, false), (4, false), (6, false)] (by kernel_rfl) (fun _ _ d _ _ h => by cases d <;> exact h) ?_
      refine line_alone rfl (by kernel_rfl) (fun K hK => ?_)
      refine call_any (args := #[H3 a0r a0s a0n]) rfl (by kernel_rfl) (by kernel_rfl) (S0 _) ?_
      rintro e kw0 ⟨rfl, hbn⟩
      have hst2 := hst.on hbn
      have A2 := A.on hbn
      clear A
      have A := A2
      clear A2
      refine ⟨_, rfl, hK _ _ hst2 ?_⟩
      clear hK K hst hbn
      have hst := hst2
      clear hst2
      simp only [Act.put, List.setIfInBounds_toArray, List.set_cons_zero, List.set_cons_succ]
      refine line_alone rfl (by kernel_rfl) (fun K hK => ?_)
      refine call_any (args := #[R6 a1r a1s a1p a1x a1y a1f]) rfl (by kernel_rfl) (by kernel_rfl) (S1 _) ?_
      rintro e kw1 ⟨rfl, hbn⟩
      have hst2 := hst.on hbn
      have A2 := A.on hbn
      clear A
      have A := A2
      clear A2
      refine ⟨_, rfl, hK _ _ hst2 ?_⟩
      clear hK K hst hbn
      have hst := hst2
      clear hst2
      simp only [Act.put, List.setIfInBounds_toArray, List.set_cons_zero, List.set_cons_succ]
      refine line_alone rfl (by kernel_rfl) (fun K hK => ?_)
      refine call_any (args := #[H3 a0r a0s a0n, R6 a1r a1s a1p a1x a1y a1f]) rfl (by kernel_rfl) (by kernel_rfl) (S2 _) ?_
      rintro e kw2 ⟨rfl, hbn⟩
      have hst2 := hst.on hbn
      have A2 := A.on hbn
      clear A
      have A := A2
      clear A2
      refine ⟨_, rfl, hK _ _ hst2 ?_⟩
      clear hK K hst hbn
      have hst := hst2
      clear hst2
      simp only [Act.put, List.setIfInBounds_toArray, List.set_cons_zero, List.set_cons_succ]
      have h0 := A.cell 0 _ rfl
      have h1 := A.cell 1 _ rfl
      have f0 := A.free 0 _ rfl
      have f1 := A.free 1 _ rfl
      refine line_alone rfl (by kernel_rfl) (fun K hK => ?_)
      go_big_op
      refine hK _ _ (⟨(by (iterate 2 (refine bset ?_ (by dsimp only; omega) _)); exact hst.out)⟩) ?_
      clear hK K
      have A9 := ((A.set 0 (.int .i64 cd)).set 1 (.int .i64 hv))
      refine line_nil ?_
      go_wp2_with fail
      go_meet
      case rel => exact ⟨_, rfl, A9, (by (iterate 2 (refine bset ?_ (by dsimp only; omega) _)); exact hst.out), leA⟩
  case rest =>
    obtain ⟨g, rfl, X1, b2, hg⟩ := hcut
    have B2 := btr B1 b2
    have L2 := L1.on b2
    have E2 := E1.on b2
    have A0b := A0'.on b2
    have A1b := A1'.on b2
    clear A0' A1' p0 p1 p2 d0 d1 d2 d3 d4 d5 B1 L1 E1 b2
    have p0 := A0b.cell 0 _ rfl
    have p1 := A0b.cell 1 _ rfl
    have p2 := A0b.cell 2 _ rfl
    have d0 := A1b.cell 0 _ rfl
    have d1 := A1b.cell 1 _ rfl
    have d2 := A1b.cell 2 _ rfl
    have d3 := A1b.cell 3 _ rfl
    have d4 := A1b.cell 4 _ rfl
    have d5 := A1b.cell 5 _ rfl
    go_upto_region 6 with fail
    go_cut [7] from 18 to 23 (fun v' wx => PairAt wc [.int .i64 cd, .int .i64 hv] v' wx)
    case first =>
      refine wp_region_fork (Bel wc) (by kernel_rfl) (Bel.drew wc) ?_
      have hst : (Bel wc) _ := (Bel.drew wc)
      have inst : Nonempty (Of (Bel wc)) := ⟨⟨_, hst⟩⟩
      have q0 := bel_cell p0
      have q1 := bel_cell p1
      have q2 := bel_cell p2
      have r0 := bel_cell d0
      have r1 := bel_cell d1
      have r2 := bel_cell d2
      have r3 := bel_cell d3
      have r4 := bel_cell d4
      have r5 := bel_cell d5
      generalize wc.drew = V1 at *
      refine any_seg 5 [(0, true), (2, true)] (by kernel_rfl) (fun _ _ d _ _ h => by cases d <;> exact h) ?_
      iterate 2 (refine line_read rfl (by kernel_rfl) (fun K hK => ?_); go_big_quiet_op; refine hK _ ?_; clear hK K)
      refine line_nil ?_
      clear q0 q1 q2 r0 r1 r2 r3 r4 r5
      refine any_fork 1 5 (by kernel_rfl) rfl rfl (by kernel_rfl) (by kernel_rfl) (fun K hK => ?_) (fun K hK => ?_)
      · refine call_any (args := #[H3 a0r a0s a0n]) rfl (by kernel_rfl) (by kernel_rfl) (S0 _) ?_
        rintro e x0 ⟨rfl, hbn⟩
        have hst2 := hst.on hbn
        refine ⟨_, rfl, hK _ _ hst2 ?_⟩
        clear hK K hst hbn
        have hst := hst2
        clear hst2
        simp only [Act.put, List.setIfInBounds_toArray, List.set_cons_zero, List.set_cons_succ]
        refine any_fork 3 5 (by kernel_rfl) rfl rfl (by kernel_rfl) (by kernel_rfl) (fun K hK => ?_) (fun K hK => ?_)
        · refine call_any (args := #[R6 a1r a1s a1p a1x a1y a1f]) rfl (by kernel_rfl) (by kernel_rfl) (S1 _) ?_
          rintro e x1 ⟨rfl, hbn⟩
          have hst2 := hst.on hbn
          refine ⟨_, rfl, hK _ _ hst2 ?_⟩
          clear hK K hst hbn
          have hst := hst2
          clear hst2
          simp only [Act.put, List.setIfInBounds_toArray, List.set_cons_zero, List.set_cons_succ]
          refine any_fork 4 5 (by kernel_rfl) rfl rfl (by kernel_rfl) (by kernel_rfl) (fun K hK => ?_) (fun K hK => ?_)
          · refine call_any (args := #[H3 a0r a0s a0n, R6 a1r a1s a1p a1x a1y a1f]) rfl (by kernel_rfl) (by kernel_rfl) (S3 _ (L2.on hst.out) (E2.on hst.out)) ?_
            rintro e x2 ⟨rfl, hbn⟩
            have hst2 := hst.on hbn
            refine ⟨_, rfl, hK _ _ hst2 ?_⟩
            clear hK K hst hbn
            have hst := hst2
            clear hst2
            simp only [Act.put, List.setIfInBounds_toArray, List.set_cons_zero, List.set_cons_succ]
            refine any_rest [(5, false), (6, false)] (by kernel_rfl) (fun _ _ d _ _ h => by cases d <;> exact h) ?_
            refine line_alone rfl (by kernel_rfl) (fun K hK => ?_)
            go_big_op
            have hst2 := hst.on (bal (Below.refl _ x2) (.cells #[.int .i64 0, .int .i64 0] 49))
            have A := At.new x2 [.int .i64 0, .int .i64 0] 49
            have leA : wc.heap.size ≤ x2.heap.size := hst.out.size
            refine hK _ _ hst2 ?_
            clear hK K hst
            have hst := hst2
            clear hst2
            generalize x2.alloc (.cells #[.int .i64 0, .int .i64 0] 49) = xa at *
            have h0 := A.cell 0 _ rfl
            have h1 := A.cell 1 _ rfl
            have f0 := A.free 0 _ rfl
            have f1 := A.free 1 _ rfl
            refine line_alone rfl (by kernel_rfl) (fun K hK => ?_)
            go_big_op
            refine hK _ _ (⟨(by (iterate 2 (refine bset ?_ (by dsimp only; omega) _)); exact hst.out)⟩) ?_
            clear hK K
            have A9 := ((A.set 0 (.int .i64 cd)).set 1 (.int .i64 hv))
            refine line_nil ?_
            go_wp2_with fail
            go_meet
            case rel => exact ⟨_, rfl, A9, (by (iterate 2 (refine bset ?_ (by dsimp only; omega) _)); exact hst.out), leA⟩
          · go_big_op
            have hst2 := hst.on (bal (Below.refl _ x1) (.cells #[.int .i64 0, .int .i64 0] 49))
            have A := At.new x1 [.int .i64 0, .int .i64 0] 49
            have leA : wc.heap.size ≤ x1.heap.size := hst.out.size
            refine hK _ _ hst2 ?_
            clear hK K hst
            have hst := hst2
            clear hst2
            generalize x1.alloc (.cells #[.int .i64 0, .int .i64 0] 49) = xa at *
            refine any_rest [(4, false), (6, false)] (by kernel_rfl) (fun _ _ d _ _ h => by cases d <;> exact h) ?_
            refine line_alone rfl (by kernel_rfl) (fun K hK => ?_)
            refine call_any (args := #[H3 a0r a0s a0n, R6 a1r a1s a1p a1x a1y a1f]) rfl (by kernel_rfl) (by kernel_rfl) (S3 _ (L2.on hst.out) (E2.on hst.out)) ?_
            rintro e kw2 ⟨rfl, hbn⟩
            have hst2 := hst.on hbn
            have A2 := A.on hbn
            clear A
            have A := A2
            clear A2
            refine ⟨_, rfl, hK _ _ hst2 ?_⟩
            clear hK K hst hbn
            have hst := hst2
            clear hst2
            simp only [Act.put, List.setIfInBounds_toArray, List.set_cons_zero, List.set_cons_succ]
            have h0 := A.cell 0 _ rfl
            have h1 := A.cell 1 _ rfl
            have f0 := A.free 0 _ rfl
            have f1 := A.free 1 _ rfl
            refine line_alone rfl (by kernel_rfl) (fun K hK => ?_)
            go_big_op
            refine hK _ _ (⟨(by (iterate 2 (refine bset ?_ (by dsimp only; omega) _)); exact hst.out)⟩) ?_
            clear hK K
            have A9 := ((A.set 0 (.int .i64 cd)).set 1 (.int .i64 hv))
            refine line_nil ?_
            go_wp2_with fail
            go_meet
            case rel => exact ⟨_, rfl, A9, (by (iterate 2 (refine bset ?_ (by dsimp only; omega) _)); exact hst.out), leA⟩
        · go_big_op
          have hst2 := hst.on (bal (Below.refl _ x0) (.cells #[.int .i64 0, .int .i64 0] 49))
          have A := At.new x0 [.int .i64 0, .int .i64 0] 49
          have leA : wc.heap.size ≤ x0.heap.size := hst.out.size
          refine hK _ _ hst2 ?_
          clear hK K hst
          have hst := hst2
          clear hst2
          generalize x0.alloc (.cells #[.int .i64 0, .int .i64 0] 49) = xa at *
          refine any_rest [(3, false), (4, false), (6, false)] (by kernel_rfl) (fun _ _ d _ _ h => by cases d <;> exact h) ?_
          refine line_alone rfl (by kernel_rfl) (fun K hK => ?_)
          refine call_any (args := #[R6 a1r a1s a1p a1x a1y a1f]) rfl (by kernel_rfl) (by kernel_rfl) (S1 _) ?_
          rintro e kw1 ⟨rfl, hbn⟩
          have hst2 := hst.on hbn
          have A2 := A.on hbn
          clear A
          have A := A2
          clear A2
          refine ⟨_, rfl, hK _ _ hst2 ?_⟩
          clear hK K hst hbn
          have hst := hst2
          clear hst2
          simp only [Act.put, List.setIfInBounds_toArray, List.set_cons_zero, List.set_cons_succ]
          refine line_alone rfl (by kernel_rfl) (fun K hK => ?_)
          refine call_any (args := #[H3 a0r a0s a0n, R6 a1r a1s a1p a1x a1y a1f]) rfl (by kernel_rfl) (by kernel_rfl) (S3 _ (L2.on hst.out) (E2.on hst.out)) ?_
          rintro e kw2 ⟨rfl, hbn⟩
          have hst2 := hst.on hbn
          have A2 := A.on hbn
          clear A
          have A := A2
          clear A2
          refine ⟨_, rfl, hK _ _ hst2 ?_⟩
          clear hK K hst hbn
          have hst := hst2
          clear hst2
          simp only [Act.put, List.setIfInBounds_toArray, List.set_cons_zero, List.set_cons_succ]
          have h0 := A.cell 0 _ rfl
          have h1 := A.cell 1 _ rfl
          have f0 := A.free 0 _ rfl
          have f1 := A.free 1 _ rfl
          refine line_alone rfl (by kernel_rfl) (fun K hK => ?_)
          go_big_op
          refine hK _ _ (⟨(by (iterate 2 (refine bset ?_ (by dsimp only; omega) _)); exact hst.out)⟩) ?_
          clear hK K
          have A9 := ((A.set 0 (.int .i64 cd)).set 1 (.int .i64 hv))
          refine line_nil ?_
          go_wp2_with fail
          go_meet
          case rel => exact ⟨_, rfl, A9, (by (iterate 2 (refine bset ?_ (by dsimp only; omega) _)); exact hst.out), leA⟩
      · go_big_op
        have hst2 := hst.on (bal (Below.refl _ V1) (.cells #[.int .i64 0, .int .i64 0] 49))
        have A := At.new V1 [.int .i64 0, .int .i64 0] 49
        have leA : wc.heap.size ≤ V1.heap.size := hst.out.size
        refine hK _ _ hst2 ?_
        clear hK K hst
        have hst := hst2
        clear hst2
        generalize V1.alloc (.cells #[.int .i64 0, .int .i64 0] 49) = xa at *
        refine any_rest [(1, false), (3, false), (4, false), (6, false)] (by kernel_rfl) (fun _ _ d _ _ h => by cases d <;> exact h) ?_
        refine line_alone rfl (by kernel_rfl) (fun K hK => ?_)
        refine call_any (args := #[H3 a0r a0s a0n]) rfl (by kernel_rfl) (by kernel_rfl) (S0 _) ?_
        rintro e kw0 ⟨rfl, hbn⟩
        have hst2 := hst.on hbn
        have A2 := A.on hbn
        clear A
        have A := A2
        clear A2
        refine ⟨_, rfl, hK _ _ hst2 ?_⟩
        clear hK K hst hbn
        have hst := hst2
        clear hst2
        simp only [Act.put, List.setIfInBounds_toArray, List.set_cons_zero, List.set_cons_succ]
        refine line_alone rfl (by kernel_rfl) (fun K hK => ?_)
        refine call_any (args := #[R6 a1r a1s a1p a1x a1y a1f]) rfl (by kernel_rfl) (by kernel_rfl) (S1 _) ?_
        rintro e kw1 ⟨rfl, hbn⟩
        have hst2 := hst.on hbn
        have A2 := A.on hbn
        clear A
        have A := A2
        clear A2
        refine ⟨_, rfl, hK _ _ hst2 ?_⟩
        clear hK K hst hbn
        have hst := hst2
        clear hst2
        simp only [Act.put, List.setIfInBounds_toArray, List.set_cons_zero, List.set_cons_succ]
        refine line_alone rfl (by kernel_rfl) (fun K hK => ?_)
        refine call_any (args := #[H3 a0r a0s a0n, R6 a1r a1s a1p a1x a1y a1f]) rfl (by kernel_rfl) (by kernel_rfl) (S3 _ (L2.on hst.out) (E2.on hst.out)) ?_
        rintro e kw2 ⟨rfl, hbn⟩
        have hst2 := hst.on hbn
        have A2 := A.on hbn
        clear A
        have A := A2
        clear A2
        refine ⟨_, rfl, hK _ _ hst2 ?_⟩
        clear hK K hst hbn
        have hst := hst2
        clear hst2
        simp only [Act.put, List.setIfInBounds_toArray, List.set_cons_zero, List.set_cons_succ]
        have h0 := A.cell 0 _ rfl
        have h1 := A.cell 1 _ rfl
        have f0 := A.free 0 _ rfl
        have f1 := A.free 1 _ rfl
        refine line_alone rfl (by kernel_rfl) (fun K hK => ?_)
        go_big_op
        refine hK _ _ (⟨(by (iterate 2 (refine bset ?_ (by dsimp only; omega) _)); exact hst.out)⟩) ?_
        clear hK K
        have A9 := ((A.set 0 (.int .i64 cd)).set 1 (.int .i64 hv))
        refine line_nil ?_
        go_wp2_with fail
        go_meet
        case rel => exact ⟨_, rfl, A9, (by (iterate 2 (refine bset ?_ (by dsimp only; omega) _)); exact hst.out), leA⟩
    case rest =>
      obtain ⟨g2, rfl, X2, b3, hg2⟩ := hcut
      have B3 := btr B2 b3
      have x0 := (X1.on b3).cell 0 _ rfl
      have x1 := (X1.on b3).cell 1 _ rfl
      have y0 := X2.cell 0 _ rfl
      have y1 := X2.cell 1 _ rfl
      clear A0b A1b p0 p1 p2 d0 d1 d2 d3 d4 d5 B2 L2 E2 b3 X1 X2
      go_wp2_with fail
      refine (eqInt_any _ _ _ _ _ rfl rfl).mono ?_
      rintro r u9 ⟨rfl, b9⟩
      have hb := btr B3 b9
      go_wp2_with fail
      go_ret
      exact ⟨rfl, hb⟩

end Go.Proofs.YtlodhleihnlchaaGreatDoor.fnExactHeardOf
