/- The function TakeReply answers, at every argument, as its model does. The walk: the law's Go text answers true and turns nothing that was there. Conditions: as the theorem states. -/
import Derived.Test.YtlodhleihnlchaaGreatDoorE4
import Derived.Test.YtlodhleihnlchaaGreatDoorE7
import Derived.Test.YtlodhleihnlchaaGreatDoorE8
import Derived.WalkKit
import Derived.Below
namespace Go.Proofs.YtlodhleihnlchaaGreatDoor.fnExactTakeReply
open Go.RowKit
set_option linter.unusedVariables false

/-- A value lies in a block of its own. -/
def BlkAt (V : World) (cs : List Value) (v : Value) (wx : World) : Prop := ∃ g, v = .pointer (some ⟨g, 0, none⟩) ∧ At g cs wx ∧ Below V.heap.size V wx ∧ V.heap.size ≤ g
set_option maxRecDepth 100000 in
set_option maxHeartbeats 4000000 in
theorem walk (a0k a0r a0s : Int) (a0n : ByteArray) (a1r a1s a1p a1x a1y a1f : Int) (w : World) (w0k : (Lit.int .i64 a0k).wf = true) (w0r : (Lit.int .i64 a0r).wf = true) (w0s : (Lit.int .i64 a0s).wf = true) (w0n : a0n.size ≤ maxLen) (w1r : (Lit.int .i64 a1r).wf = true) (w1s : (Lit.int .i64 a1s).wf = true) (w1p : (Lit.int .i64 a1p).wf = true) (w1x : (Lit.int .i64 a1x).wf = true) (w1y : (Lit.int .i64 a1y).wf = true) (w1f : (Lit.int .i64 a1f).wf = true) (lab : Labels w) (ert : ErrT w) :
    Calls Tryz.prog 10 #[.agg #[.int .i64 a0k, .int .i64 a0r, .int .i64 a0s, .string a0n], .agg #[.int .i64 a1r, .int .i64 a1s, .int .i64 a1p, .int .i64 a1x, .int .i64 a1y, .int .i64 a1f]] w fun e w' => e = .returned (.bool true) ∧ Below w.heap.size w w' := by
  have hm := w0n
  unfold maxLen at hm
  have b0 := bal (bal (Below.refl _ w) (.cells #[.int .i64 a0k, .int .i64 a0r, .int .i64 a0s, .string a0n] 145)) (.cells #[.int .i64 a1r, .int .i64 a1s, .int .i64 a1p, .int .i64 a1x, .int .i64 a1y, .int .i64 a1f] 136)
  have A0 := (At.new w (HL4 a0k a0r a0s a0n) 145).alloc (.cells #[.int .i64 a1r, .int .i64 a1s, .int .i64 a1p, .int .i64 a1x, .int .i64 a1y, .int .i64 a1f] 136)
  have A1 := At.new (w.alloc (.cells #[.int .i64 a0k, .int .i64 a0r, .int .i64 a0s, .string a0n] 145)) (RL6 a1r a1s a1p a1x a1y a1f) 136
  simp only [World.size_alloc] at A0 A1
  have F := fun w => szClient_any a0k a0r a0s a0n 1048576 w w0n (by omega) (by omega)
  by_cases hbig : (1048576 : Int) < a0n.size
  · simp only [if_pos hbig] at F
    go_enter Tryz.func10, Tryz.ntmps10
    go_wp2_with fail
    generalize (w.alloc (.cells #[.int .i64 a0k, .int .i64 a0r, .int .i64 a0s, .string a0n] 145)).alloc (.cells #[.int .i64 a1r, .int .i64 a1s, .int .i64 a1p, .int .i64 a1x, .int .i64 a1y, .int .i64 a1f] 136) = W0 at *
    refine (F _).mono ?_
    rintro r u1 ⟨rfl, b1⟩
    have hb := btr b0 b1
    go_wp2_with fail
    go_ret
    exact ⟨rfl, hb⟩
  simp only [if_neg hbig] at F
  have hs0 : ¬ (1048576 : Int) - a0n.size < 0 := by omega
  have S0 := fun w => toClient_any a0k a0r a0s a0n w
  have S1 := fun w => toReply_any a1r a1s a1p a1x a1y a1f w
  have S2 := fun w => specTakeReply_any a0k a0r a0s a0n a1r a1s a1p a1x a1y a1f w w0n
  have S3 := fun w L E => implTakeReply_any a0k a0r a0s a0n a1r a1s a1p a1x a1y a1f w L E w0n
  generalize takT a0k a0r a0s a0n a1r a1s a1p a1x a1y a1f = t at *
  obtain ⟨c, r, s, p, x, y, f, u, d, h, k⟩ := t
  have EQ := fun w => eqTaken_any ⟨c, r, s, p, x, y, f, u, d, h, k⟩ w
  have L0 := lab.on b0
  have E0 := ert.on b0
  clear lab ert
  go_enter Tryz.func10, Tryz.ntmps10
  go_wp2_with fail
  generalize (w.alloc (.cells #[.int .i64 a0k, .int .i64 a0r, .int .i64 a0s, .string a0n] 145)).alloc (.cells #[.int .i64 a1r, .int .i64 a1s, .int .i64 a1p, .int .i64 a1x, .int .i64 a1y, .int .i64 a1f] 136) = W0 at *
  refine (F _).mono ?_
  rintro e u1 ⟨rfl, b1⟩
  have A0' := A0.on b1
  have A1' := A1.on b1
  have B1 := btr b0 b1
  have L1 := L0.on b1
  have E1 := E0.on b1
  have pp0 := A0'.cell 0 _ rfl
  have pp1 := A0'.cell 1 _ rfl
  have pp2 := A0'.cell 2 _ rfl
  have pp3 := A0'.cell 3 _ rfl
  have dd0 := A1'.cell 0 _ rfl
  have dd1 := A1'.cell 1 _ rfl
  have dd2 := A1'.cell 2 _ rfl
  have dd3 := A1'.cell 3 _ rfl
  have dd4 := A1'.cell 4 _ rfl
  have dd5 := A1'.cell 5 _ rfl
  clear b1 b0 A0 A1 L0 E0 F
  go_upto_region 5 with fail
  go_cut [6] from 13 to 18 (fun v' wy => BlkAt u1 [.int .i64 c, .int .i64 r, .int .i64 s, .int .i64 p, .int .i64 x, .int .i64 y, .int .i64 f, .int .i64 u, .int .i64 d, .int .i64 h, .int .i64 k] v' wy)
  case first =>
    refine wp_region_fork (Bel u1) (by kernel_rfl) (Bel.drew u1) ?_
    have hst : (Bel u1) _ := (Bel.drew u1)
    have inst : Nonempty (Of (Bel u1)) := ⟨⟨_, hst⟩⟩
    have qp0 := bel_cell pp0
    have qp1 := bel_cell pp1
    have qp2 := bel_cell pp2
    have qp3 := bel_cell pp3
    have qd0 := bel_cell dd0
    have qd1 := bel_cell dd1
    have qd2 := bel_cell dd2
    have qd3 := bel_cell dd3
    have qd4 := bel_cell dd4
    have qd5 := bel_cell dd5
    generalize u1.drew = V1 at *
    refine any_seg 5 [(0, true), (2, true)] (by kernel_rfl) (fun _ _ d _ _ h => by cases d <;> exact h) ?_
    iterate 2 (refine line_read rfl (by kernel_rfl) (fun K hK => ?_); go_big_quiet_op; refine hK _ ?_; clear hK K)
    refine line_nil ?_
    clear qp0 qp1 qp2 qp3 qd0 qd1 qd2 qd3 qd4 qd5
    refine any_fork 1 5 (by kernel_rfl) rfl rfl (by kernel_rfl) (by kernel_rfl) (fun K hK => ?_) (fun K hK => ?_)
    · refine call_any (args := #[H4 a0k a0r a0s a0n]) rfl (by kernel_rfl) (by kernel_rfl) (S0 _) ?_
      rintro e x0 ⟨rfl, hbn⟩
      have hst2 := hst.on hbn
      refine ⟨_, rfl, hK _ _ hst2 ?_⟩
      clear hK K hst hbn
      have hst := hst2
      clear hst2
      simp only [Act.put, List.setIfInBounds_toArray, List.set_cons_zero, List.set_cons_succ]
      refine any_fork 3 5 (by kernel_rfl) rfl rfl (by kernel_rfl) (by kernel_rfl) (fun K hK => ?_) (fun K hK => ?_)
      · refine call_any (args := #[R6 a1r a1s a1p a1x a1y a1f]) rfl (by kernel_rfl) (by kernel_rfl) (S1 _) ?_
        rintro e x1 ⟨rfl, hbn⟩
        have hst2 := hst.on hbn
        refine ⟨_, rfl, hK _ _ hst2 ?_⟩
        clear hK K hst hbn
        have hst := hst2
        clear hst2
        simp only [Act.put, List.setIfInBounds_toArray, List.set_cons_zero, List.set_cons_succ]
        refine any_fork 4 5 (by kernel_rfl) rfl rfl (by kernel_rfl) (by kernel_rfl) (fun K hK => ?_) (fun K hK => ?_)
        · refine call_any (args := #[H4 a0k a0r a0s a0n, R6 a1r a1s a1p a1x a1y a1f]) rfl (by kernel_rfl) (by kernel_rfl) (S2 _) ?_
          rintro e x2 ⟨rfl, hbn⟩
          have hst2 := hst.on hbn
          refine ⟨_, rfl, hK _ _ hst2 ?_⟩
          clear hK K hst hbn
          have hst := hst2
          clear hst2
          simp only [Act.put, List.setIfInBounds_toArray, List.set_cons_zero, List.set_cons_succ]
          refine any_rest [(5, false), (6, false)] (by kernel_rfl) (fun _ _ d _ _ h => by cases d <;> exact h) ?_
          refine line_alone rfl (by kernel_rfl) (fun K hK => ?_)
          go_big_op
          have hst2 := hst.on (bal (Below.refl _ x2) (.cells #[.int .i64 0, .int .i64 0, .int .i64 0, .int .i64 0, .int .i64 0, .int .i64 0, .int .i64 0, .int .i64 0, .int .i64 0, .int .i64 0, .int .i64 0] 112))
          have A : Blk x2.heap.size [.int .i64 0, .int .i64 0, .int .i64 0, .int .i64 0, .int .i64 0, .int .i64 0, .int .i64 0, .int .i64 0, .int .i64 0, .int .i64 0, .int .i64 0] 112 (x2.alloc (.cells #[.int .i64 0, .int .i64 0, .int .i64 0, .int .i64 0, .int .i64 0, .int .i64 0, .int .i64 0, .int .i64 0, .int .i64 0, .int .i64 0, .int .i64 0] 112)) := Blk.new x2 [.int .i64 0, .int .i64 0, .int .i64 0, .int .i64 0, .int .i64 0, .int .i64 0, .int .i64 0, .int .i64 0, .int .i64 0, .int .i64 0, .int .i64 0] 112
          have leA : u1.heap.size ≤ x2.heap.size := hst.out.size
          refine hK _ _ hst2 ?_
          clear hK K hst
          have hst := hst2
          clear hst2
          generalize x2.alloc (.cells #[.int .i64 0, .int .i64 0, .int .i64 0, .int .i64 0, .int .i64 0, .int .i64 0, .int .i64 0, .int .i64 0, .int .i64 0, .int .i64 0, .int .i64 0] 112) = xa at *
          refine line_alone rfl (by kernel_rfl) (fun K hK => ?_)
          refine wp_store_row 112 (.tmp 6) (.tmp 17) rfl x2.heap.size #[.int .i64 c, .int .i64 r, .int .i64 s, .int .i64 p, .int .i64 x, .int .i64 y, .int .i64 f, .int .i64 u, .int .i64 d, .int .i64 h, .int .i64 k] rfl rfl 112 _ A (by kernel_rfl) rfl (by simp [Value.oneCell']) ?_
          have A9 := (A.row [.int .i64 c, .int .i64 r, .int .i64 s, .int .i64 p, .int .i64 x, .int .i64 y, .int .i64 f, .int .i64 u, .int .i64 d, .int .i64 h, .int .i64 k]).cells
          have B9 := below_row hst.out leA #[.int .i64 c, .int .i64 r, .int .i64 s, .int .i64 p, .int .i64 x, .int .i64 y, .int .i64 f, .int .i64 u, .int .i64 d, .int .i64 h, .int .i64 k]
          refine hK _ _ ⟨B9⟩ ?_
          clear hK K hst A
          refine line_nil ?_
          have HB := Lib.hid B9
          clear B9
          go_wp2_with fail
          go_meet
          case rel => exact ⟨_, rfl, A9, HB.out, leA⟩
        · go_big_op
          have hst2 := hst.on (bal (Below.refl _ x1) (.cells #[.int .i64 0, .int .i64 0, .int .i64 0, .int .i64 0, .int .i64 0, .int .i64 0, .int .i64 0, .int .i64 0, .int .i64 0, .int .i64 0, .int .i64 0] 112))
          have A : Blk x1.heap.size [.int .i64 0, .int .i64 0, .int .i64 0, .int .i64 0, .int .i64 0, .int .i64 0, .int .i64 0, .int .i64 0, .int .i64 0, .int .i64 0, .int .i64 0] 112 (x1.alloc (.cells #[.int .i64 0, .int .i64 0, .int .i64 0, .int .i64 0, .int .i64 0, .int .i64 0, .int .i64 0, .int .i64 0, .int .i64 0, .int .i64 0, .int .i64 0] 112)) := Blk.new x1 [.int .i64 0, .int .i64 0, .int .i64 0, .int .i64 0, .int .i64 0, .int .i64 0, .int .i64 0, .int .i64 0, .int .i64 0, .int .i64 0, .int .i64 0] 112
          have leA : u1.heap.size ≤ x1.heap.size := hst.out.size
          refine hK _ _ hst2 ?_
          clear hK K hst
          have hst := hst2
          clear hst2
          generalize x1.alloc (.cells #[.int .i64 0, .int .i64 0, .int .i64 0, .int .i64 0, .int .i64 0, .int .i64 0, .int .i64 0, .int .i64 0, .int .i64 0, .int .i64 0, .int .i64 0] 112) = xa at *
          refine any_rest [(4, false), (6, false)] (by kernel_rfl) (fun _ _ d _ _ h => by cases d <;> exact h) ?_
          refine line_alone rfl (by kernel_rfl) (fun K hK => ?_)
          refine call_any (args := #[H4 a0k a0r a0s a0n, R6 a1r a1s a1p a1x a1y a1f]) rfl (by kernel_rfl) (by kernel_rfl) (S2 _) ?_
          rintro e kw2 ⟨rfl, hbn⟩
          have hst2 := hst.on hbn
          have A2 := A.on hbn
          clear A
          have A := A2
          clear A2
          refine ⟨_, rfl, hK _ _ hst2 ?_⟩
          clear hK K hst hbn
          have hst := hst2
          clear hst2
          simp only [Act.put, List.setIfInBounds_toArray, List.set_cons_zero, List.set_cons_succ]
          refine line_alone rfl (by kernel_rfl) (fun K hK => ?_)
          refine wp_store_row 112 (.tmp 6) (.tmp 17) rfl x1.heap.size #[.int .i64 c, .int .i64 r, .int .i64 s, .int .i64 p, .int .i64 x, .int .i64 y, .int .i64 f, .int .i64 u, .int .i64 d, .int .i64 h, .int .i64 k] rfl rfl 112 _ A (by kernel_rfl) rfl (by simp [Value.oneCell']) ?_
          have A9 := (A.row [.int .i64 c, .int .i64 r, .int .i64 s, .int .i64 p, .int .i64 x, .int .i64 y, .int .i64 f, .int .i64 u, .int .i64 d, .int .i64 h, .int .i64 k]).cells
          have B9 := below_row hst.out leA #[.int .i64 c, .int .i64 r, .int .i64 s, .int .i64 p, .int .i64 x, .int .i64 y, .int .i64 f, .int .i64 u, .int .i64 d, .int .i64 h, .int .i64 k]
          refine hK _ _ ⟨B9⟩ ?_
          clear hK K hst A
          refine line_nil ?_
          have HB := Lib.hid B9
          clear B9
          go_wp2_with fail
          go_meet
          case rel => exact ⟨_, rfl, A9, HB.out, leA⟩
      · go_big_op
        have hst2 := hst.on (bal (Below.refl _ x0) (.cells #[.int .i64 0, .int .i64 0, .int .i64 0, .int .i64 0, .int .i64 0, .int .i64 0, .int .i64 0, .int .i64 0, .int .i64 0, .int .i64 0, .int .i64 0] 112))
        have A : Blk x0.heap.size [.int .i64 0, .int .i64 0, .int .i64 0, .int .i64 0, .int .i64 0, .int .i64 0, .int .i64 0, .int .i64 0, .int .i64 0, .int .i64 0, .int .i64 0] 112 (x0.alloc (.cells #[.int .i64 0, .int .i64 0, .int .i64 0, .int .i64 0, .int .i64 0, .int .i64 0, .int .i64 0, .int .i64 0, .int .i64 0, .int .i64 0, .int .i64 0] 112)) := Blk.new x0 [.int .i64 0, .int .i64 0, .int .i64 0, .int .i64 0, .int .i64 0, .int .i64 0, .int .i64 0, .int .i64 0, .int .i64 0, .int .i64 0, .int .i64 0] 112
        have leA : u1.heap.size ≤ x0.heap.size := hst.out.size
        refine hK _ _ hst2 ?_
        clear hK K hst
        have hst := hst2
        clear hst2
        generalize x0.alloc (.cells #[.int .i64 0, .int .i64 0, .int .i64 0, .int .i64 0, .int .i64 0, .int .i64 0, .int .i64 0, .int .i64 0, .int .i64 0, .int .i64 0, .int .i64 0] 112) = xa at *
        refine any_rest [(3, false), (4, false), (6, false)] (by kernel_rfl) (fun _ _ d _ _ h => by cases d <;> exact h) ?_
        refine line_alone rfl (by kernel_rfl) (fun K hK => ?_)
        refine call_any (args := #[R6 a1r a1s a1p a1x a1y a1f]) rfl (by kernel_rfl) (by kernel_rfl) (S1 _) ?_
        rintro e kw1 ⟨rfl, hbn⟩
        have hst2 := hst.on hbn
        have A2 := A.on hbn
        clear A
        have A := A2
        clear A2
        refine ⟨_, rfl, hK _ _ hst2 ?_⟩
        clear hK K hst hbn
        have hst := hst2
        clear hst2
        simp only [Act.put, List.setIfInBounds_toArray, List.set_cons_zero, List.set_cons_succ]
        refine line_alone rfl (by kernel_rfl) (fun K hK => ?_)
        refine call_any (args := #[H4 a0k a0r a0s a0n, R6 a1r a1s a1p a1x a1y a1f]) rfl (by kernel_rfl) (by kernel_rfl) (S2 _) ?_
        rintro e kw2 ⟨rfl, hbn⟩
        have hst2 := hst.on hbn
        have A2 := A.on hbn
        clear A
        have A := A2
        clear A2
        refine ⟨_, rfl, hK _ _ hst2 ?_⟩
        clear hK K hst hbn
        have hst := hst2
        clear hst2
        simp only [Act.put, List.setIfInBounds_toArray, List.set_cons_zero, List.set_cons_succ]
        refine line_alone rfl (by kernel_rfl) (fun K hK => ?_)
        refine wp_store_row 112 (.tmp 6) (.tmp 17) rfl x0.heap.size #[.int .i64 c, .int .i64 r, .int .i64 s, .int .i64 p, .int .i64 x, .int .i64 y, .int .i64 f, .int .i64 u, .int .i64 d, .int .i64 h, .int .i64 k] rfl rfl 112 _ A (by kernel_rfl) rfl (by simp [Value.oneCell']) ?_
        have A9 := (A.row [.int .i64 c, .int .i64 r, .int .i64 s, .int .i64 p, .int .i64 x, .int .i64 y, .int .i64 f, .int .i64 u, .int .i64 d, .int .i64 h, .int .i64 k]).cells
        have B9 := below_row hst.out leA #[.int .i64 c, .int .i64 r, .int .i64 s, .int .i64 p, .int .i64 x, .int .i64 y, .int .i64 f, .int .i64 u, .int .i64 d, .int .i64 h, .int .i64 k]
        refine hK _ _ ⟨B9⟩ ?_
        clear hK K hst A
        refine line_nil ?_
        have HB := Lib.hid B9
        clear B9
        go_wp2_with fail
        go_meet
        case rel => exact ⟨_, rfl, A9, HB.out, leA⟩
    · go_big_op
      have hst2 := hst.on (bal (Below.refl _ V1) (.cells #[.int .i64 0, .int .i64 0, .int .i64 0, .int .i64 0, .int .i64 0, .int .i64 0, .int .i64 0, .int .i64 0, .int .i64 0, .int .i64 0, .int .i64 0] 112))
      have A : Blk V1.heap.size [.int .i64 0, .int .i64 0, .int .i64 0, .int .i64 0, .int .i64 0, .int .i64 0, .int .i64 0, .int .i64 0, .int .i64 0, .int .i64 0, .int .i64 0] 112 (V1.alloc (.cells #[.int .i64 0, .int .i64 0, .int .i64 0, .int .i64 0, .int .i64 0, .int .i64 0, .int .i64 0, .int .i64 0, .int .i64 0, .int .i64 0, .int .i64 0] 112)) := Blk.new V1 [.int .i64 0, .int .i64 0, .int .i64 0, .int .i64 0, .int .i64 0, .int .i64 0, .int .i64 0, .int .i64 0, .int .i64 0, .int .i64 0, .int .i64 0] 112
      have leA : u1.heap.size ≤ V1.heap.size := hst.out.size
      refine hK _ _ hst2 ?_
      clear hK K hst
      have hst := hst2
      clear hst2
      generalize V1.alloc (.cells #[.int .i64 0, .int .i64 0, .int .i64 0, .int .i64 0, .int .i64 0, .int .i64 0, .int .i64 0, .int .i64 0, .int .i64 0, .int .i64 0, .int .i64 0] 112) = xa at *
      refine any_rest [(1, false), (3, false), (4, false), (6, false)] (by kernel_rfl) (fun _ _ d _ _ h => by cases d <;> exact h) ?_
      refine line_alone rfl (by kernel_rfl) (fun K hK => ?_)
      refine call_any (args := #[H4 a0k a0r a0s a0n]) rfl (by kernel_rfl) (by kernel_rfl) (S0 _) ?_
      rintro e kw0 ⟨rfl, hbn⟩
      have hst2 := hst.on hbn
      have A2 := A.on hbn
      clear A
      have A := A2
      clear A2
      refine ⟨_, rfl, hK _ _ hst2 ?_⟩
      clear hK K hst hbn
      have hst := hst2
      clear hst2
      simp only [Act.put, List.setIfInBounds_toArray, List.set_cons_zero, List.set_cons_succ]
      refine line_alone rfl (by kernel_rfl) (fun K hK => ?_)
      refine call_any (args := #[R6 a1r a1s a1p a1x a1y a1f]) rfl (by kernel_rfl) (by kernel_rfl) (S1 _) ?_
      rintro e kw1 ⟨rfl, hbn⟩
      have hst2 := hst.on hbn
      have A2 := A.on hbn
      clear A
      have A := A2
      clear A2
      refine ⟨_, rfl, hK _ _ hst2 ?_⟩
      clear hK K hst hbn
      have hst := hst2
      clear hst2
      simp only [Act.put, List.setIfInBounds_toArray, List.set_cons_zero, List.set_cons_succ]
      refine line_alone rfl (by kernel_rfl) (fun K hK => ?_)
      refine call_any (args := #[H4 a0k a0r a0s a0n, R6 a1r a1s a1p a1x a1y a1f]) rfl (by kernel_rfl) (by kernel_rfl) (S2 _) ?_
      rintro e kw2 ⟨rfl, hbn⟩
      have hst2 := hst.on hbn
      have A2 := A.on hbn
      clear A
      have A := A2
      clear A2
      refine ⟨_, rfl, hK _ _ hst2 ?_⟩
      clear hK K hst hbn
      have hst := hst2
      clear hst2
      simp only [Act.put, List.setIfInBounds_toArray, List.set_cons_zero, List.set_cons_succ]
      refine line_alone rfl (by kernel_rfl) (fun K hK => ?_)
      refine wp_store_row 112 (.tmp 6) (.tmp 17) rfl V1.heap.size #[.int .i64 c, .int .i64 r, .int .i64 s, .int .i64 p, .int .i64 x, .int .i64 y, .int .i64 f, .int .i64 u, .int .i64 d, .int .i64 h, .int .i64 k] rfl rfl 112 _ A (by kernel_rfl) rfl (by simp [Value.oneCell']) ?_
      have A9 := (A.row [.int .i64 c, .int .i64 r, .int .i64 s, .int .i64 p, .int .i64 x, .int .i64 y, .int .i64 f, .int .i64 u, .int .i64 d, .int .i64 h, .int .i64 k]).cells
      have B9 := below_row hst.out leA #[.int .i64 c, .int .i64 r, .int .i64 s, .int .i64 p, .int .i64 x, .int .i64 y, .int .i64 f, .int .i64 u, .int .i64 d, .int .i64 h, .int .i64 k]
      refine hK _ _ ⟨B9⟩ ?_
      clear hK K hst A
      refine line_nil ?_
      have HB := Lib.hid B9
      clear B9
      go_wp2_with fail
      go_meet
      case rel => exact ⟨_, rfl, A9, HB.out, leA⟩
  case rest =>
    rename World => wx
    obtain ⟨g, rfl, X1, b2, hg⟩ := hcut
    have B2 := btr B1 b2
    have L2 := L1.on b2
    have E2 := E1.on b2
    have A0b := A0'.on b2
    have A1b := A1'.on b2
    clear A0' A1' pp0 pp1 pp2 pp3 dd0 dd1 dd2 dd3 dd4 dd5 B1 L1 E1 b2
    have pp0 := A0b.cell 0 _ rfl
    have pp1 := A0b.cell 1 _ rfl
    have pp2 := A0b.cell 2 _ rfl
    have pp3 := A0b.cell 3 _ rfl
    have dd0 := A1b.cell 0 _ rfl
    have dd1 := A1b.cell 1 _ rfl
    have dd2 := A1b.cell 2 _ rfl
    have dd3 := A1b.cell 3 _ rfl
    have dd4 := A1b.cell 4 _ rfl
    have dd5 := A1b.cell 5 _ rfl
    go_upto_region 6 with fail
    go_cut [7] from 18 to 23 (fun v' wy => BlkAt wx [.int .i64 c, .int .i64 r, .int .i64 s, .int .i64 p, .int .i64 x, .int .i64 y, .int .i64 f, .int .i64 u, .int .i64 d, .int .i64 h, .int .i64 k] v' wy)
    case first =>
      refine wp_region_fork (Bel wx) (by kernel_rfl) (Bel.drew wx) ?_
      have hst : (Bel wx) _ := (Bel.drew wx)
      have inst : Nonempty (Of (Bel wx)) := ⟨⟨_, hst⟩⟩
      have qp0 := bel_cell pp0
      have qp1 := bel_cell pp1
      have qp2 := bel_cell pp2
      have qp3 := bel_cell pp3
      have qd0 := bel_cell dd0
      have qd1 := bel_cell dd1
      have qd2 := bel_cell dd2
      have qd3 := bel_cell dd3
      have qd4 := bel_cell dd4
      have qd5 := bel_cell dd5
      generalize wx.drew = V1 at *
      refine any_seg 5 [(0, true), (2, true)] (by kernel_rfl) (fun _ _ d _ _ h => by cases d <;> exact h) ?_
      iterate 2 (refine line_read rfl (by kernel_rfl) (fun K hK => ?_); go_big_quiet_op; refine hK _ ?_; clear hK K)
      refine line_nil ?_
      clear qp0 qp1 qp2 qp3 qd0 qd1 qd2 qd3 qd4 qd5
      refine any_fork 1 5 (by kernel_rfl) rfl rfl (by kernel_rfl) (by kernel_rfl) (fun K hK => ?_) (fun K hK => ?_)
      · refine call_any (args := #[H4 a0k a0r a0s a0n]) rfl (by kernel_rfl) (by kernel_rfl) (S0 _) ?_
        rintro e x0 ⟨rfl, hbn⟩
        have hst2 := hst.on hbn
        refine ⟨_, rfl, hK _ _ hst2 ?_⟩
        clear hK K hst hbn
        have hst := hst2
        clear hst2
        simp only [Act.put, List.setIfInBounds_toArray, List.set_cons_zero, List.set_cons_succ]
        refine any_fork 3 5 (by kernel_rfl) rfl rfl (by kernel_rfl) (by kernel_rfl) (fun K hK => ?_) (fun K hK => ?_)
        · refine call_any (args := #[R6 a1r a1s a1p a1x a1y a1f]) rfl (by kernel_rfl) (by kernel_rfl) (S1 _) ?_
          rintro e x1 ⟨rfl, hbn⟩
          have hst2 := hst.on hbn
          refine ⟨_, rfl, hK _ _ hst2 ?_⟩
          clear hK K hst hbn
          have hst := hst2
          clear hst2
          simp only [Act.put, List.setIfInBounds_toArray, List.set_cons_zero, List.set_cons_succ]
          refine any_fork 4 5 (by kernel_rfl) rfl rfl (by kernel_rfl) (by kernel_rfl) (fun K hK => ?_) (fun K hK => ?_)
          · refine call_any (args := #[H4 a0k a0r a0s a0n, R6 a1r a1s a1p a1x a1y a1f]) rfl (by kernel_rfl) (by kernel_rfl) (S3 _ (L2.on hst.out) (E2.on hst.out)) ?_
            rintro e x2 ⟨rfl, hbn⟩
            have hst2 := hst.on hbn
            refine ⟨_, rfl, hK _ _ hst2 ?_⟩
            clear hK K hst hbn
            have hst := hst2
            clear hst2
            simp only [Act.put, List.setIfInBounds_toArray, List.set_cons_zero, List.set_cons_succ]
            refine any_rest [(5, false), (6, false)] (by kernel_rfl) (fun _ _ d _ _ h => by cases d <;> exact h) ?_
            refine line_alone rfl (by kernel_rfl) (fun K hK => ?_)
            go_big_op
            have hst2 := hst.on (bal (Below.refl _ x2) (.cells #[.int .i64 0, .int .i64 0, .int .i64 0, .int .i64 0, .int .i64 0, .int .i64 0, .int .i64 0, .int .i64 0, .int .i64 0, .int .i64 0, .int .i64 0] 112))
            have A : Blk x2.heap.size [.int .i64 0, .int .i64 0, .int .i64 0, .int .i64 0, .int .i64 0, .int .i64 0, .int .i64 0, .int .i64 0, .int .i64 0, .int .i64 0, .int .i64 0] 112 (x2.alloc (.cells #[.int .i64 0, .int .i64 0, .int .i64 0, .int .i64 0, .int .i64 0, .int .i64 0, .int .i64 0, .int .i64 0, .int .i64 0, .int .i64 0, .int .i64 0] 112)) := Blk.new x2 [.int .i64 0, .int .i64 0, .int .i64 0, .int .i64 0, .int .i64 0, .int .i64 0, .int .i64 0, .int .i64 0, .int .i64 0, .int .i64 0, .int .i64 0] 112
            have leA : wx.heap.size ≤ x2.heap.size := hst.out.size
            refine hK _ _ hst2 ?_
            clear hK K hst
            have hst := hst2
            clear hst2
            generalize x2.alloc (.cells #[.int .i64 0, .int .i64 0, .int .i64 0, .int .i64 0, .int .i64 0, .int .i64 0, .int .i64 0, .int .i64 0, .int .i64 0, .int .i64 0, .int .i64 0] 112) = xa at *
            refine line_alone rfl (by kernel_rfl) (fun K hK => ?_)
            refine wp_store_row 112 (.tmp 7) (.tmp 22) rfl x2.heap.size #[.int .i64 c, .int .i64 r, .int .i64 s, .int .i64 p, .int .i64 x, .int .i64 y, .int .i64 f, .int .i64 u, .int .i64 d, .int .i64 h, .int .i64 k] rfl rfl 112 _ A (by kernel_rfl) rfl (by simp [Value.oneCell']) ?_
            have A9 := (A.row [.int .i64 c, .int .i64 r, .int .i64 s, .int .i64 p, .int .i64 x, .int .i64 y, .int .i64 f, .int .i64 u, .int .i64 d, .int .i64 h, .int .i64 k]).cells
            have B9 := below_row hst.out leA #[.int .i64 c, .int .i64 r, .int .i64 s, .int .i64 p, .int .i64 x, .int .i64 y, .int .i64 f, .int .i64 u, .int .i64 d, .int .i64 h, .int .i64 k]
            refine hK _ _ ⟨B9⟩ ?_
            clear hK K hst A
            refine line_nil ?_
            have HB := Lib.hid B9
            clear B9
            go_wp2_with fail
            go_meet
            case rel => exact ⟨_, rfl, A9, HB.out, leA⟩
          · go_big_op
            have hst2 := hst.on (bal (Below.refl _ x1) (.cells #[.int .i64 0, .int .i64 0, .int .i64 0, .int .i64 0, .int .i64 0, .int .i64 0, .int .i64 0, .int .i64 0, .int .i64 0, .int .i64 0, .int .i64 0] 112))
            have A : Blk x1.heap.size [.int .i64 0, .int .i64 0, .int .i64 0, .int .i64 0, .int .i64 0, .int .i64 0, .int .i64 0, .int .i64 0, .int .i64 0, .int .i64 0, .int .i64 0] 112 (x1.alloc (.cells #[.int .i64 0, .int .i64 0, .int .i64 0, .int .i64 0, .int .i64 0, .int .i64 0, .int .i64 0, .int .i64 0, .int .i64 0, .int .i64 0, .int .i64 0] 112)) := Blk.new x1 [.int .i64 0, .int .i64 0, .int .i64 0, .int .i64 0, .int .i64 0, .int .i64 0, .int .i64 0, .int .i64 0, .int .i64 0, .int .i64 0, .int .i64 0] 112
            have leA : wx.heap.size ≤ x1.heap.size := hst.out.size
            refine hK _ _ hst2 ?_
            clear hK K hst
            have hst := hst2
            clear hst2
            generalize x1.alloc (.cells #[.int .i64 0, .int .i64 0, .int .i64 0, .int .i64 0, .int .i64 0, .int .i64 0, .int .i64 0, .int .i64 0, .int .i64 0, .int .i64 0, .int .i64 0] 112) = xa at *
            refine any_rest [(4, false), (6, false)] (by kernel_rfl) (fun _ _ d _ _ h => by cases d <;> exact h) ?_
            refine line_alone rfl (by kernel_rfl) (fun K hK => ?_)
            refine call_any (args := #[H4 a0k a0r a0s a0n, R6 a1r a1s a1p a1x a1y a1f]) rfl (by kernel_rfl) (by kernel_rfl) (S3 _ (L2.on hst.out) (E2.on hst.out)) ?_
            rintro e kw2 ⟨rfl, hbn⟩
            have hst2 := hst.on hbn
            have A2 := A.on hbn
            clear A
            have A := A2
            clear A2
            refine ⟨_, rfl, hK _ _ hst2 ?_⟩
            clear hK K hst hbn
            have hst := hst2
            clear hst2
            simp only [Act.put, List.setIfInBounds_toArray, List.set_cons_zero, List.set_cons_succ]
            refine line_alone rfl (by kernel_rfl) (fun K hK => ?_)
            refine wp_store_row 112 (.tmp 7) (.tmp 22) rfl x1.heap.size #[.int .i64 c, .int .i64 r, .int .i64 s, .int .i64 p, .int .i64 x, .int .i64 y, .int .i64 f, .int .i64 u, .int .i64 d, .int .i64 h, .int .i64 k] rfl rfl 112 _ A (by kernel_rfl) rfl (by simp [Value.oneCell']) ?_
            have A9 := (A.row [.int .i64 c, .int .i64 r, .int .i64 s, .int .i64 p, .int .i64 x, .int .i64 y, .int .i64 f, .int .i64 u, .int .i64 d, .int .i64 h, .int .i64 k]).cells
            have B9 := below_row hst.out leA #[.int .i64 c, .int .i64 r, .int .i64 s, .int .i64 p, .int .i64 x, .int .i64 y, .int .i64 f, .int .i64 u, .int .i64 d, .int .i64 h, .int .i64 k]
            refine hK _ _ ⟨B9⟩ ?_
            clear hK K hst A
            refine line_nil ?_
            have HB := Lib.hid B9
            clear B9
            go_wp2_with fail
            go_meet
            case rel => exact ⟨_, rfl, A9, HB.out, leA⟩
        · go_big_op
          have hst2 := hst.on (bal (Below.refl _ x0) (.cells #[.int .i64 0, .int .i64 0, .int .i64 0, .int .i64 0, .int .i64 0, .int .i64 0, .int .i64 0, .int .i64 0, .int .i64 0, .int .i64 0, .int .i64 0] 112))
          have A : Blk x0.heap.size [.int .i64 0, .int .i64 0, .int .i64 0, .int .i64 0, .int .i64 0, .int .i64 0, .int .i64 0, .int .i64 0, .int .i64 0, .int .i64 0, .int .i64 0] 112 (x0.alloc (.cells #[.int .i64 0, .int .i64 0, .int .i64 0, .int .i64 0, .int .i64 0, .int .i64 0, .int .i64 0, .int .i64 0, .int .i64 0, .int .i64 0, .int .i64 0] 112)) := Blk.new x0 [.int .i64 0, .int .i64 0, .int .i64 0, .int .i64 0, .int .i64 0, .int .i64 0, .int .i64 0, .int .i64 0, .int .i64 0, .int .i64 0, .int .i64 0] 112
          have leA : wx.heap.size ≤ x0.heap.size := hst.out.size
          refine hK _ _ hst2 ?_
          clear hK K hst
          have hst := hst2
          clear hst2
          generalize x0.alloc (.cells #[.int .i64 0, .int .i64 0, .int .i64 0, .int .i64 0, .int .i64 0, .int .i64 0, .int .i64 0, .int .i64 0, .int .i64 0, .int .i64 0, .int .i64 0] 112) = xa at *
          refine any_rest [(3, false), (4, false), (6, false)] (by kernel_rfl) (fun _ _ d _ _ h => by cases d <;> exact h) ?_
          refine line_alone rfl (by kernel_rfl) (fun K hK => ?_)
          refine call_any (args := #[R6 a1r a1s a1p a1x a1y a1f]) rfl (by kernel_rfl) (by kernel_rfl) (S1 _) ?_
          rintro e kw1 ⟨rfl, hbn⟩
          have hst2 := hst.on hbn
          have A2 := A.on hbn
          clear A
          have A := A2
          clear A2
          refine ⟨_, rfl, hK _ _ hst2 ?_⟩
          clear hK K hst hbn
          have hst := hst2
          clear hst2
          simp only [Act.put, List.setIfInBounds_toArray, List.set_cons_zero, List.set_cons_succ]
          refine line_alone rfl (by kernel_rfl) (fun K hK => ?_)
          refine call_any (args := #[H4 a0k a0r a0s a0n, R6 a1r a1s a1p a1x a1y a1f]) rfl (by kernel_rfl) (by kernel_rfl) (S3 _ (L2.on hst.out) (E2.on hst.out)) ?_
          rintro e kw2 ⟨rfl, hbn⟩
          have hst2 := hst.on hbn
          have A2 := A.on hbn
          clear A
          have A := A2
          clear A2
          refine ⟨_, rfl, hK _ _ hst2 ?_⟩
          clear hK K hst hbn
          have hst := hst2
          clear hst2
          simp only [Act.put, List.setIfInBounds_toArray, List.set_cons_zero, List.set_cons_succ]
          refine line_alone rfl (by kernel_rfl) (fun K hK => ?_)
          refine wp_store_row 112 (.tmp 7) (.tmp 22) rfl x0.heap.size #[.int .i64 c, .int .i64 r, .int .i64 s, .int .i64 p, .int .i64 x, .int .i64 y, .int .i64 f, .int .i64 u, .int .i64 d, .int .i64 h, .int .i64 k] rfl rfl 112 _ A (by kernel_rfl) rfl (by simp [Value.oneCell']) ?_
          have A9 := (A.row [.int .i64 c, .int .i64 r, .int .i64 s, .int .i64 p, .int .i64 x, .int .i64 y, .int .i64 f, .int .i64 u, .int .i64 d, .int .i64 h, .int .i64 k]).cells
          have B9 := below_row hst.out leA #[.int .i64 c, .int .i64 r, .int .i64 s, .int .i64 p, .int .i64 x, .int .i64 y, .int .i64 f, .int .i64 u, .int .i64 d, .int .i64 h, .int .i64 k]
          refine hK _ _ ⟨B9⟩ ?_
          clear hK K hst A
          refine line_nil ?_
          have HB := Lib.hid B9
          clear B9
          go_wp2_with fail
          go_meet
          case rel => exact ⟨_, rfl, A9, HB.out, leA⟩
      · go_big_op
        have hst2 := hst.on (bal (Below.refl _ V1) (.cells #[.int .i64 0, .int .i64 0, .int .i64 0, .int .i64 0, .int .i64 0, .int .i64 0, .int .i64 0, .int .i64 0, .int .i64 0, .int .i64 0, .int .i64 0] 112))
        have A : Blk V1.heap.size [.int .i64 0, .int .i64 0, .int .i64 0, .int .i64 0, .int .i64 0, .int .i64 0, .int .i64 0, .int .i64 0, .int .i64 0, .int .i64 0, .int .i64 0] 112 (V1.alloc (.cells #[.int .i64 0, .int .i64 0, .int .i64 0, .int .i64 0, .int .i64 0, .int .i64 0, .int .i64 0, .int .i64 0, .int .i64 0, .int .i64 0, .int .i64 0] 112)) := Blk.new V1 [.int .i64 0, .int .i64 0, .int .i64 0, .int .i64 0, .int .i64 0, .int .i64 0, .int .i64 0, .int .i64 0, .int .i64 0, .int .i64 0, .int .i64 0] 112
        have leA : wx.heap.size ≤ V1.heap.size := hst.out.size
        refine hK _ _ hst2 ?_
        clear hK K hst
        have hst := hst2
        clear hst2
        generalize V1.alloc (.cells #[.int .i64 0, .int .i64 0, .int .i64 0, .int .i64 0, .int .i64 0, .int .i64 0, .int .i64 0, .int .i64 0, .int .i64 0, .int .i64 0, .int .i64 0] 112) = xa at *
        refine any_rest [(1, false), (3, false), (4, false), (6, false)] (by kernel_rfl) (fun _ _ d _ _ h => by cases d <;> exact h) ?_
        refine line_alone rfl (by kernel_rfl) (fun K hK => ?_)
        refine call_any (args := #[H4 a0k a0r a0s a0n]) rfl (by kernel_rfl) (by kernel_rfl) (S0 _) ?_
        rintro e kw0 ⟨rfl, hbn⟩
        have hst2 := hst.on hbn
        have A2 := A.on hbn
        clear A
        have A := A2
        clear A2
        refine ⟨_, rfl, hK _ _ hst2 ?_⟩
        clear hK K hst hbn
        have hst := hst2
        clear hst2
        simp only [Act.put, List.setIfInBounds_toArray, List.set_cons_zero, List.set_cons_succ]
        refine line_alone rfl (by kernel_rfl) (fun K hK => ?_)
        refine call_any (args := #[R6 a1r a1s a1p a1x a1y a1f]) rfl (by kernel_rfl) (by kernel_rfl) (S1 _) ?_
        rintro e kw1 ⟨rfl, hbn⟩
        have hst2 := hst.on hbn
        have A2 := A.on hbn
        clear A
        have A := A2
        clear A2
        refine ⟨_, rfl, hK _ _ hst2 ?_⟩
        clear hK K hst hbn
        have hst := hst2
        clear hst2
        simp only [Act.put, List.setIfInBounds_toArray, List.set_cons_zero, List.set_cons_succ]
        refine line_alone rfl (by kernel_rfl) (fun K hK => ?_)
        refine call_any (args := #[H4 a0k a0r a0s a0n, R6 a1r a1s a1p a1x a1y a1f]) rfl (by kernel_rfl) (by kernel_rfl) (S3 _ (L2.on hst.out) (E2.on hst.out)) ?_
        rintro e kw2 ⟨rfl, hbn⟩
        have hst2 := hst.on hbn
        have A2 := A.on hbn
        clear A
        have A := A2
        clear A2
        refine ⟨_, rfl, hK _ _ hst2 ?_⟩
        clear hK K hst hbn
        have hst := hst2
        clear hst2
        simp only [Act.put, List.setIfInBounds_toArray, List.set_cons_zero, List.set_cons_succ]
        refine line_alone rfl (by kernel_rfl) (fun K hK => ?_)
        refine wp_store_row 112 (.tmp 7) (.tmp 22) rfl V1.heap.size #[.int .i64 c, .int .i64 r, .int .i64 s, .int .i64 p, .int .i64 x, .int .i64 y, .int .i64 f, .int .i64 u, .int .i64 d, .int .i64 h, .int .i64 k] rfl rfl 112 _ A (by kernel_rfl) rfl (by simp [Value.oneCell']) ?_
        have A9 := (A.row [.int .i64 c, .int .i64 r, .int .i64 s, .int .i64 p, .int .i64 x, .int .i64 y, .int .i64 f, .int .i64 u, .int .i64 d, .int .i64 h, .int .i64 k]).cells
        have B9 := below_row hst.out leA #[.int .i64 c, .int .i64 r, .int .i64 s, .int .i64 p, .int .i64 x, .int .i64 y, .int .i64 f, .int .i64 u, .int .i64 d, .int .i64 h, .int .i64 k]
        refine hK _ _ ⟨B9⟩ ?_
        clear hK K hst A
        refine line_nil ?_
        have HB := Lib.hid B9
        clear B9
        go_wp2_with fail
        go_meet
        case rel => exact ⟨_, rfl, A9, HB.out, leA⟩
    case rest =>
      obtain ⟨g2, rfl, X2, b3, hg2⟩ := hcut
      have B3 := btr B2 b3
      have xx0 := (X1.on b3).cell 0 _ rfl
      have xx1 := (X1.on b3).cell 1 _ rfl
      have xx2 := (X1.on b3).cell 2 _ rfl
      have xx3 := (X1.on b3).cell 3 _ rfl
      have xx4 := (X1.on b3).cell 4 _ rfl
      have xx5 := (X1.on b3).cell 5 _ rfl
      have xx6 := (X1.on b3).cell 6 _ rfl
      have xx7 := (X1.on b3).cell 7 _ rfl
      have xx8 := (X1.on b3).cell 8 _ rfl
      have xx9 := (X1.on b3).cell 9 _ rfl
      have xx10 := (X1.on b3).cell 10 _ rfl
      have yy0 := X2.cell 0 _ rfl
      have yy1 := X2.cell 1 _ rfl
      have yy2 := X2.cell 2 _ rfl
      have yy3 := X2.cell 3 _ rfl
      have yy4 := X2.cell 4 _ rfl
      have yy5 := X2.cell 5 _ rfl
      have yy6 := X2.cell 6 _ rfl
      have yy7 := X2.cell 7 _ rfl
      have yy8 := X2.cell 8 _ rfl
      have yy9 := X2.cell 9 _ rfl
      have yy10 := X2.cell 10 _ rfl
      clear A0b A1b pp0 pp1 pp2 pp3 dd0 dd1 dd2 dd3 dd4 dd5 B2 L2 E2 b3 X1 X2
      go_wp2_with fail
      refine (EQ _).mono ?_
      rintro e u9 ⟨rfl, b9⟩
      have hb := btr B3 b9
      go_wp2_with fail
      go_ret
      exact ⟨rfl, hb⟩

end Go.Proofs.YtlodhleihnlchaaGreatDoor.fnExactTakeReply
