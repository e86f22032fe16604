/- The function ApplyRoll answers, at every argument, as its model does, in memory of its own, and leaves its argument as it was. The walk: the law's Go text answers true and turns nothing that was there. Conditions: as the theorem states. -/
import Derived.Test.YtmdknbgpddnplaaGreatDoorS7
import Derived.Test.YtmdknbgpddnplaaGreatDoorS10
import Derived.WalkKit
import Derived.Below
namespace Go.Proofs.YtmdknbgpddnplaaGreatDoor.fnExactApplyRoll
open Go.RowKit
set_option linter.unusedVariables false

set_option maxRecDepth 100000 in
set_option maxHeartbeats 2000000 in
theorem walk (a0 : Option Addr) (len0 cap0 : Nat) (z0 : List PinD) (a1 : RollD) (a2 : Int) (w : World) (w0 : PRow w w.heap.size a0 len0 cap0 z0) (w1 : a1.p.n.size ≤ maxLen) (w2 : (Lit.int .i64 a2).wf = true) (lab : Labels w) (ert : ErrT w) :
    Calls Tryz.prog 7 #[.slice a0 len0 cap0, R8 a1, .int .i64 a2] w fun e w' => e = .returned (.bool true) ∧ Below w.heap.size w w' := by
  have hl0 := w0.fits
  have hm0 := w0.most
  have hm1 := w1
  unfold maxLen at hm0 hm1
  have b0 := bal (Below.refl _ w) (.cells #[.string a1.p.n, .int .i64 a1.p.a, .int .i64 a1.p.b, .int .i64 a1.p.e, .int .i64 a1.p.u, .int .i64 a1.b, .int .i64 a1.x, .int .i64 a1.y] 67)
  have A0 : At w.heap.size a1.vals (w.alloc (.cells #[.string a1.p.n, .int .i64 a1.p.a, .int .i64 a1.p.b, .int .i64 a1.p.e, .int .i64 a1.p.u, .int .i64 a1.b, .int .i64 a1.x, .int .i64 a1.y] 67)) := At.new w a1.vals 67
  have e0 := Lib.hid w0.length
  have hN0 := Lib.hid w0.names
  have S0 := szPinS_any a0 len0 cap0 w.heap.size z0 1048576 _ (w0.below b0) b0.size (by omega) (by omega)
  by_cases h0 : 0 ≤ szP z0 1048576
  case neg =>
    generalize szP z0 1048576 = t0 at *
    go_enter Tryz.func7, Tryz.ntmps7
    go_wp2_with fail
    refine S0.mono ?_
    rintro r u1 ⟨rfl, b1⟩
    have hb := btr b0 b1
    go_wp2_with fail
    go_ret
    exact ⟨rfl, hb⟩
  obtain ⟨g0, -, t1⟩ := szP_ok h0
  have hk0 : len0 ≤ 1048576 := by have := e0.out; omega
  generalize szP z0 1048576 = t0 at *
  have F := fun w => szRoll_any a1 t0 w w1 h0 t1
  by_cases hbig : t0 < a1.p.n.size
  · simp only [if_pos hbig] at F
    have hh0 : ¬ t0 < 0 := by omega
    go_enter Tryz.func7, Tryz.ntmps7
    go_wp2_with fail
    generalize w.alloc (.cells #[.string a1.p.n, .int .i64 a1.p.a, .int .i64 a1.p.b, .int .i64 a1.p.e, .int .i64 a1.p.u, .int .i64 a1.b, .int .i64 a1.x, .int .i64 a1.y] 67) = W0 at *
    refine S0.mono ?_
    rintro r u1 ⟨rfl, b1⟩
    have A1 := A0.on b1
    have p0 := A1.cell 0 _ rfl
    have p1 := A1.cell 1 _ rfl
    have p2 := A1.cell 2 _ rfl
    have p3 := A1.cell 3 _ rfl
    have p4 := A1.cell 4 _ rfl
    have p5 := A1.cell 5 _ rfl
    have p6 := A1.cell 6 _ rfl
    have p7 := A1.cell 7 _ rfl
    go_wp2_with fail
    refine (F _).mono ?_
    rintro r u2 ⟨rfl, b2⟩
    have hb := btr (btr b0 b1) b2
    go_wp2_with fail
    go_ret
    exact ⟨rfl, hb⟩
  simp only [if_neg hbig] at F
  have hh0 : ¬ t0 < 0 := by omega
  have hs0 : ¬ t0 - a1.p.n.size < 0 := by omega
  have hn := applyL_len z0 a1 a2
  have HW := Lib.hid (applyL_names (t := a2) hN0.out w1)
  have T0 := fun (W : World) (R : PRow W W.heap.size a0 len0 cap0 z0) => toPinS_any a0 len0 cap0 W.heap.size z0 W R (Nat.le_refl _) hk0
  have P0 := fun W => toRoll_any a1 W
  have C1 := fun (W : World) (x : Option Addr) (c : Nat) (R : PRow W W.heap.size x len0 c z0) => specApplyRoll_any x len0 c W.heap.size z0 a1 a2 W R (Nat.le_refl _) w1
  have C2 := fun (W : World) (l : Labels W) (e : ErrT W) (x : Option Addr) (c : Nat) (R : PRow W W.heap.size x len0 c z0) => implApplyRoll_any x len0 c W.heap.size z0 a1 a2 W l e R (Nat.le_refl _) w1
  generalize applyC z0 a1 a2 = cd at *
  generalize applyL z0 a1 a2 = zs at *
  clear g0
  have hgz : zs.length ≤ 1048576 := by omega
  go_enter Tryz.func7, Tryz.ntmps7
  go_wp2_with fail
  generalize w.alloc (.cells #[.string a1.p.n, .int .i64 a1.p.a, .int .i64 a1.p.b, .int .i64 a1.p.e, .int .i64 a1.p.u, .int .i64 a1.b, .int .i64 a1.x, .int .i64 a1.y] 67) = W0 at *
  refine S0.mono ?_
  rintro r u0 ⟨rfl, h1⟩
  have A1 := A0.on h1
  have B1 := btr b0 h1
  have p0 := A1.cell 0 _ rfl
  have p1 := A1.cell 1 _ rfl
  have p2 := A1.cell 2 _ rfl
  have p3 := A1.cell 3 _ rfl
  have p4 := A1.cell 4 _ rfl
  have p5 := A1.cell 5 _ rfl
  have p6 := A1.cell 6 _ rfl
  have p7 := A1.cell 7 _ rfl
  clear S0 h1 A0 b0
  go_wp2_with fail
  refine (F _).mono ?_
  rintro r u1 ⟨rfl, h2⟩
  have A2 := A1.on h2
  have B2 := btr B1 h2
  clear h2 A1 B1 p0 p1 p2 p3 p4 p5 p6 p7 F
  have p0 := A2.cell 0 _ rfl
  have p1 := A2.cell 1 _ rfl
  have p2 := A2.cell 2 _ rfl
  have p3 := A2.cell 3 _ rfl
  have p4 := A2.cell 4 _ rfl
  have p5 := A2.cell 5 _ rfl
  have p6 := A2.cell 6 _ rfl
  have p7 := A2.cell 7 _ rfl
  go_upto_region 8 with fail
  go_cut [8] from 25 to 31 (fun v' wx => PinsAt u1 cd zs v' wx)
  case first =>
    refine wp_region_fork (Bel u1) (by kernel_rfl) (Bel.drew u1) ?_
    have hst : (Bel u1) _ := (Bel.drew u1)
    have inst : Nonempty (Of (Bel u1)) := ⟨⟨_, hst⟩⟩
    have q0 := bel_cell p0
    have q1 := bel_cell p1
    have q2 := bel_cell p2
    have q3 := bel_cell p3
    have q4 := bel_cell p4
    have q5 := bel_cell p5
    have q6 := bel_cell p6
    have q7 := bel_cell p7
    generalize u1.drew = V1 at *
    refine any_seg 5 [(0, true), (2, true), (4, true)] (by kernel_rfl) (fun _ _ d _ _ h => by cases d <;> exact h) ?_
    iterate 3 (refine line_read rfl (by kernel_rfl) (fun K hK => ?_); go_big_quiet_op; refine hK _ ?_; clear hK K)
    refine line_nil ?_
    clear q0 q1 q2 q3 q4 q5 q6 q7 p0 p1 p2 p3 p4 p5 p6 p7
    refine any_fork 1 6 (by kernel_rfl) rfl rfl (by kernel_rfl) (by kernel_rfl) (fun K hK => ?_) (fun K hK => ?_)
    · refine call_any (args := #[.slice a0 len0 cap0]) rfl (by kernel_rfl) (by kernel_rfl) (T0 _ ((w0.on B2).on hst.out)) ?_
      rintro e x1 ⟨rfl, OS, hbn⟩
      have hst2 := hst.on hbn
      have RS := OS.row hN0.out
      refine ⟨_, rfl, hK _ _ hst2 ?_⟩
      clear hK K hst hbn OS
      have hst := hst2
      clear hst2
      simp only [Act.put, List.setIfInBounds_toArray, List.set_cons_zero, List.set_cons_succ]
      refine any_fork 3 6 (by kernel_rfl) rfl rfl (by kernel_rfl) (by kernel_rfl) (fun K hK => ?_) (fun K hK => ?_)
      · refine call_any (args := #[R8 a1]) rfl (by kernel_rfl) (by kernel_rfl) (P0 _) ?_
        rintro e x3 ⟨rfl, hbn⟩
        have hst2 := hst.on hbn
        have RS2 := RS.on hbn
        clear RS
        have RS := RS2
        clear RS2
        refine ⟨_, rfl, hK _ _ hst2 ?_⟩
        clear hK K hst hbn
        have hst := hst2
        clear hst2
        simp only [Act.put, List.setIfInBounds_toArray, List.set_cons_zero, List.set_cons_succ]
        refine any_fork 5 6 (by kernel_rfl) rfl rfl (by kernel_rfl) (by kernel_rfl) (fun K hK => ?_) (fun K hK => ?_)
        · refine call_any (args := #[.slice (some ⟨V1.heap.size, 0, none⟩) len0 len0, R8 a1, .int .i64 a2]) rfl (by kernel_rfl) (by kernel_rfl) (C1 _ _ _ RS) ?_
          rintro e x4 ⟨ba, bn, bc, rfl, OR, hbn⟩
          have lbn := OR.len
          subst lbn
          have leO := hst.out.size
          have OR2 := OR.less leO
          have hst2 := hst.on hbn
          refine ⟨_, rfl, hK _ _ hst2 ?_⟩
          clear hK K hst hbn OR
          have hst := hst2
          clear hst2
          simp only [Act.put, List.setIfInBounds_toArray, List.set_cons_zero, List.set_cons_succ]
          refine any_rest [(6, false), (7, false)] (by kernel_rfl) (fun _ _ d _ _ h => by cases d <;> exact h) ?_
          refine line_alone rfl (by kernel_rfl) (fun K hK => ?_)
          go_big_op
          have hst2 := hst.on (bal (Below.refl _ x4) (.cells #[.int .i64 0, .slice none 0 0] 37))
          have A := At.new x4 [.int .i64 0, .slice none 0 0] 37
          have leA : u1.heap.size ≤ x4.heap.size := hst.out.size
          have neA : ∀ k, Value.ownBlock (.slice ba zs.length bc) = some k → k ≠ x4.heap.size := fun k hk e => by have := (OR2.lt k hk).2; omega
          have OR3 := OR2.alloc (.cells #[.int .i64 0, .slice none 0 0] 37)
          clear OR2
          have OR2 := OR3
          clear OR3
          refine hK _ _ hst2 ?_
          clear hK K hst
          have hst := hst2
          clear hst2
          generalize x4.alloc (.cells #[.int .i64 0, .slice none 0 0] 37) = xa at *
          generalize x4.heap.size = ga at *
          have OR3 := Own.setCell (Own.setCell OR2 (p := ⟨ga, 0, none⟩) neA (.int .i64 cd)) (p := ⟨ga, 1, none⟩) neA (.slice ba zs.length bc)
          have h0 := A.cell 0 _ rfl
          have h1 := A.cell 1 _ rfl
          have f0 := A.free 0 _ rfl
          have f1 := A.free 1 _ rfl
          refine line_alone rfl (by kernel_rfl) (fun K hK => ?_)
          go_big_op
          refine hK _ _ (⟨(by (iterate 2 (refine bset ?_ (by dsimp only; omega) _)); exact hst.out)⟩) ?_
          clear hK K
          have A9 := ((A.set 0 (.int .i64 cd)).set 1 (.slice ba zs.length bc))
          refine line_nil ?_
          go_wp2_with fail
          go_meet
          case rel => exact ⟨_, _, _, rfl, A9, OR3, (by (iterate 2 (refine bset ?_ (by dsimp only; omega) _)); exact hst.out), leA⟩
        · go_big_op
          have hst2 := hst.on (bal (Below.refl _ x3) (.cells #[.int .i64 0, .slice none 0 0] 37))
          have A := At.new x3 [.int .i64 0, .slice none 0 0] 37
          have leA : u1.heap.size ≤ x3.heap.size := hst.out.size
          have RS2 := RS.on (bal (Below.refl _ x3) (.cells #[.int .i64 0, .slice none 0 0] 37))
          clear RS
          have RS := RS2
          clear RS2
          refine hK _ _ hst2 ?_
          clear hK K hst
          have hst := hst2
          clear hst2
          generalize x3.alloc (.cells #[.int .i64 0, .slice none 0 0] 37) = xa at *
          generalize x3.heap.size = ga at *
          refine any_rest [(5, false), (7, false)] (by kernel_rfl) (fun _ _ d _ _ h => by cases d <;> exact h) ?_
          refine line_alone rfl (by kernel_rfl) (fun K hK => ?_)
          refine call_any (args := #[.slice (some ⟨V1.heap.size, 0, none⟩) len0 len0, R8 a1, .int .i64 a2]) rfl (by kernel_rfl) (by kernel_rfl) (C1 _ _ _ RS) ?_
          rintro e k4 ⟨ba, bn, bc, rfl, OR, hbn⟩
          have lbn := OR.len
          subst lbn
          have leO := hst.out.size
          have OR2 := OR.less leO
          have ltA := A.lt (by simp)
          have neA : ∀ k, Value.ownBlock (.slice ba zs.length bc) = some k → k ≠ ga := fun k hk e => by have := (OR.lt k hk).1; omega
          have hst2 := hst.on hbn
          have A2 := A.on hbn
          clear A
          have A := A2
          clear A2
          refine ⟨_, rfl, hK _ _ hst2 ?_⟩
          clear hK K hst hbn OR
          have hst := hst2
          clear hst2
          simp only [Act.put, List.setIfInBounds_toArray, List.set_cons_zero, List.set_cons_succ]
          have OR3 := Own.setCell (Own.setCell OR2 (p := ⟨ga, 0, none⟩) neA (.int .i64 cd)) (p := ⟨ga, 1, none⟩) neA (.slice ba zs.length bc)
          have h0 := A.cell 0 _ rfl
          have h1 := A.cell 1 _ rfl
          have f0 := A.free 0 _ rfl
          have f1 := A.free 1 _ rfl
          refine line_alone rfl (by kernel_rfl) (fun K hK => ?_)
          go_big_op
          refine hK _ _ (⟨(by (iterate 2 (refine bset ?_ (by dsimp only; omega) _)); exact hst.out)⟩) ?_
          clear hK K
          have A9 := ((A.set 0 (.int .i64 cd)).set 1 (.slice ba zs.length bc))
          refine line_nil ?_
          go_wp2_with fail
          go_meet
          case rel => exact ⟨_, _, _, rfl, A9, OR3, (by (iterate 2 (refine bset ?_ (by dsimp only; omega) _)); exact hst.out), leA⟩
      · go_big_op
        have hst2 := hst.on (bal (Below.refl _ x1) (.cells #[.int .i64 0, .slice none 0 0] 37))
        have A := At.new x1 [.int .i64 0, .slice none 0 0] 37
        have leA : u1.heap.size ≤ x1.heap.size := hst.out.size
        have RS2 := RS.on (bal (Below.refl _ x1) (.cells #[.int .i64 0, .slice none 0 0] 37))
        clear RS
        have RS := RS2
        clear RS2
        refine hK _ _ hst2 ?_
        clear hK K hst
        have hst := hst2
        clear hst2
        generalize x1.alloc (.cells #[.int .i64 0, .slice none 0 0] 37) = xa at *
        generalize x1.heap.size = ga at *
        refine any_rest [(3, false), (5, false), (7, false)] (by kernel_rfl) (fun _ _ d _ _ h => by cases d <;> exact h) ?_
        refine line_alone rfl (by kernel_rfl) (fun K hK => ?_)
        refine call_any (args := #[R8 a1]) rfl (by kernel_rfl) (by kernel_rfl) (P0 _) ?_
        rintro e k3 ⟨rfl, hbn⟩
        have hst2 := hst.on hbn
        have A2 := A.on hbn
        clear A
        have A := A2
        clear A2
        have RS2 := RS.on hbn
        clear RS
        have RS := RS2
        clear RS2
        refine ⟨_, rfl, hK _ _ hst2 ?_⟩
        clear hK K hst hbn
        have hst := hst2
        clear hst2
        simp only [Act.put, List.setIfInBounds_toArray, List.set_cons_zero, List.set_cons_succ]
        refine line_alone rfl (by kernel_rfl) (fun K hK => ?_)
        refine call_any (args := #[.slice (some ⟨V1.heap.size, 0, none⟩) len0 len0, R8 a1, .int .i64 a2]) rfl (by kernel_rfl) (by kernel_rfl) (C1 _ _ _ RS) ?_
        rintro e k4 ⟨ba, bn, bc, rfl, OR, hbn⟩
        have lbn := OR.len
        subst lbn
        have leO := hst.out.size
        have OR2 := OR.less leO
        have ltA := A.lt (by simp)
        have neA : ∀ k, Value.ownBlock (.slice ba zs.length bc) = some k → k ≠ ga := fun k hk e => by have := (OR.lt k hk).1; omega
        have hst2 := hst.on hbn
        have A2 := A.on hbn
        clear A
        have A := A2
        clear A2
        refine ⟨_, rfl, hK _ _ hst2 ?_⟩
        clear hK K hst hbn OR
        have hst := hst2
        clear hst2
        simp only [Act.put, List.setIfInBounds_toArray, List.set_cons_zero, List.set_cons_succ]
        have OR3 := Own.setCell (Own.setCell OR2 (p := ⟨ga, 0, none⟩) neA (.int .i64 cd)) (p := ⟨ga, 1, none⟩) neA (.slice ba zs.length bc)
        have h0 := A.cell 0 _ rfl
        have h1 := A.cell 1 _ rfl
        have f0 := A.free 0 _ rfl
        have f1 := A.free 1 _ rfl
        refine line_alone rfl (by kernel_rfl) (fun K hK => ?_)
        go_big_op
        refine hK _ _ (⟨(by (iterate 2 (refine bset ?_ (by dsimp only; omega) _)); exact hst.out)⟩) ?_
        clear hK K
        have A9 := ((A.set 0 (.int .i64 cd)).set 1 (.slice ba zs.length bc))
        refine line_nil ?_
        go_wp2_with fail
        go_meet
        case rel => exact ⟨_, _, _, rfl, A9, OR3, (by (iterate 2 (refine bset ?_ (by dsimp only; omega) _)); exact hst.out), leA⟩
    · go_big_op
      have hst2 := hst.on (bal (Below.refl _ V1) (.cells #[.int .i64 0, .slice none 0 0] 37))
      have A := At.new V1 [.int .i64 0, .slice none 0 0] 37
      have leA : u1.heap.size ≤ V1.heap.size := hst.out.size
      refine hK _ _ hst2 ?_
      clear hK K hst
      have hst := hst2
      clear hst2
      generalize V1.alloc (.cells #[.int .i64 0, .slice none 0 0] 37) = xa at *
      generalize V1.heap.size = ga at *
      refine any_rest [(1, false), (3, false), (5, false), (7, false)] (by kernel_rfl) (fun _ _ d _ _ h => by cases d <;> exact h) ?_
      refine line_alone rfl (by kernel_rfl) (fun K hK => ?_)
      refine call_any (args := #[.slice a0 len0 cap0]) rfl (by kernel_rfl) (by kernel_rfl) (T0 _ ((w0.on B2).on hst.out)) ?_
      rintro e k1 ⟨rfl, OS, hbn⟩
      have hst2 := hst.on hbn
      have A2 := A.on hbn
      clear A
      have A := A2
      clear A2
      have RS := OS.row hN0.out
      refine ⟨_, rfl, hK _ _ hst2 ?_⟩
      clear hK K hst hbn OS
      have hst := hst2
      clear hst2
      simp only [Act.put, List.setIfInBounds_toArray, List.set_cons_zero, List.set_cons_succ]
      refine line_alone rfl (by kernel_rfl) (fun K hK => ?_)
      refine call_any (args := #[R8 a1]) rfl (by kernel_rfl) (by kernel_rfl) (P0 _) ?_
      rintro e k3 ⟨rfl, hbn⟩
      have hst2 := hst.on hbn
      have A2 := A.on hbn
      clear A
      have A := A2
      clear A2
      have RS2 := RS.on hbn
      clear RS
      have RS := RS2
      clear RS2
      refine ⟨_, rfl, hK _ _ hst2 ?_⟩
      clear hK K hst hbn
      have hst := hst2
      clear hst2
      simp only [Act.put, List.setIfInBounds_toArray, List.set_cons_zero, List.set_cons_succ]
      refine line_alone rfl (by kernel_rfl) (fun K hK => ?_)
      refine call_any (args := #[.slice (some ⟨xa.heap.size, 0, none⟩) len0 len0, R8 a1, .int .i64 a2]) rfl (by kernel_rfl) (by kernel_rfl) (C1 _ _ _ RS) ?_
      rintro e k4 ⟨ba, bn, bc, rfl, OR, hbn⟩
      have lbn := OR.len
      subst lbn
      have leO := hst.out.size
      have OR2 := OR.less leO
      have ltA := A.lt (by simp)
      have neA : ∀ k, Value.ownBlock (.slice ba zs.length bc) = some k → k ≠ ga := fun k hk e => by have := (OR.lt k hk).1; omega
      have hst2 := hst.on hbn
      have A2 := A.on hbn
      clear A
      have A := A2
      clear A2
      refine ⟨_, rfl, hK _ _ hst2 ?_⟩
      clear hK K hst hbn OR
      have hst := hst2
      clear hst2
      simp only [Act.put, List.setIfInBounds_toArray, List.set_cons_zero, List.set_cons_succ]
      have OR3 := Own.setCell (Own.setCell OR2 (p := ⟨ga, 0, none⟩) neA (.int .i64 cd)) (p := ⟨ga, 1, none⟩) neA (.slice ba zs.length bc)
      have h0 := A.cell 0 _ rfl
      have h1 := A.cell 1 _ rfl
      have f0 := A.free 0 _ rfl
      have f1 := A.free 1 _ rfl
      refine line_alone rfl (by kernel_rfl) (fun K hK => ?_)
      go_big_op
      refine hK _ _ (⟨(by (iterate 2 (refine bset ?_ (by dsimp only; omega) _)); exact hst.out)⟩) ?_
      clear hK K
      have A9 := ((A.set 0 (.int .i64 cd)).set 1 (.slice ba zs.length bc))
      refine line_nil ?_
      go_wp2_with fail
      go_meet
      case rel => exact ⟨_, _, _, rfl, A9, OR3, (by (iterate 2 (refine bset ?_ (by dsimp only; omega) _)); exact hst.out), leA⟩
  case rest =>
    obtain ⟨g1, b1, c1, rfl, X5, O1, f1, hg1⟩ := hcut
    have B5 := btr B2 f1
    have A5 := A2.on f1
    have R1 := O1.row HW.out
    have x0 := X5.cell 0 _ rfl
    have x1 := X5.cell 1 _ rfl
    have TN := fun (ux uy : World) (a2 a3 : Option Addr) (c2 m c3 : Nat) (xs : List PinD) => TwoP.new (t := 37) (a2 := a2) (a3 := a3) (c2 := c2) (m := m) (c3 := c3) (xs := xs) (u2 := ux) (u3 := uy) f1 X5 R1
    clear f1 O1 p0 p1 p2 p3 p4 p5 p6 p7
    go_wp2_with fail
    refine (T0 _ (w0.on B5)).mono ?_
    rintro r u5 ⟨rfl, O5, h5⟩
    have A6 := A5.on h5
    have B6 := btr B5 h5
    have R6' := O5.row hN0.out
    have p0 := A6.cell 0 _ rfl
    have p1 := A6.cell 1 _ rfl
    have p2 := A6.cell 2 _ rfl
    have p3 := A6.cell 3 _ rfl
    have p4 := A6.cell 4 _ rfl
    have p5 := A6.cell 5 _ rfl
    have p6 := A6.cell 6 _ rfl
    have p7 := A6.cell 7 _ rfl
    clear B5
    go_wp2_with fail
    refine (P0 _).mono ?_
    rintro r u6 ⟨rfl, h6⟩
    have R7 := R6'.on h6
    have B7 := btr B6 h6
    clear R6' p0 p1 p2 p3 p4 p5 p6 p7
    go_wp2_with fail
    refine (C2 _ (lab.on B7) (ert.on B7) _ _ R7).mono ?_
    rintro r u7 ⟨b2, n2, c2, rfl, O2, e2⟩
    have l2 := O2.len
    subst l2
    have T := TN u5 u7 b2 _ c2 _ _ z0 h5 O5 (btr h6 e2) (O2.less h6.size)
    have hlt : g1 < u7.heap.size := Nat.lt_of_lt_of_le T.hi T.ahead
    have y0' := cell_keep (btr h5 (btr h6 e2)) x0
    have y1' := cell_keep (btr h5 (btr h6 e2)) x1
    clear TN h5 h6 O5 O2 e2 R7 x0 x1 B6 B7 A5 X5 R1
    go_wp2_with fail
    generalize u7.alloc (.cells #[.int .i64 cd, .slice b2 zs.length c2] 37) = v7 at *
    refine (eqPinsResult_any _ _ _ _ _ _ v7.heap.size _ _ (OwnP.row T.own HW.out) (T.row.more (by have := T.lt1; omega)) (Nat.le_refl _)).mono ?_
    rintro r u8 ⟨rfl, e8⟩
    have T8 := T.on e8
    clear T e8 y0' y1'
    go_wp2_with fail
    refine (T0 _ (w0.on (btr B2 T8.bel))).mono ?_
    rintro r u9 ⟨rfl, O9, e9⟩
    have T9 := T8.on e9
    have R9 := O9.row hN0.out
    clear T8 e9 O9
    go_wp2_with fail
    refine (eqPinS_any _ _ _ _ _ _ _ _ (OwnP.row T9.arg hN0.out) R9 (Nat.le_refl _)).mono ?_
    rintro r u10 ⟨rfl, e10⟩
    have T10 := T9.on e10
    clear T9 e10 R9
    go_wp2_with fail
    refine (markPinS_any _ _ _ _ 1 _ _ T10.arg (by omega) (by omega) hk0).mono ?_
    rintro r u11 ⟨rfl, O11, g11⟩
    have T11 := T10.grewA O11 g11
    have x0 := T11.x0
    have x1 := T11.x1
    have y0 := T11.y0
    have y1 := T11.y1
    clear T10 O11 g11
    have hq1 : ¬ (((1 + 5 * len0 : Nat) : Int) < 0) := by omega
    go_wp2_with fail
    refine (eqPinsResult_any _ _ _ _ _ _ u11.heap.size _ _ (OwnP.row T11.own HW.out) (T11.row.more (by have := T11.lt1; omega)) (Nat.le_refl _)).mono ?_
    rintro r u12 ⟨rfl, e12⟩
    have T12 := T11.on e12
    clear T11 e12 x0 x1 y0 y1
    have y0 := T12.y0
    have y1 := T12.y1
    go_wp2_with fail
    refine (markPinsResult_any _ _ _ _ _ 1 _ _ T12.own (by omega) (by omega) hgz).mono ?_
    rintro r u13 ⟨rfl, O13, g13⟩
    have T13 := T12.grew O13 g13
    clear T12 O13 g13 y0 y1
    have y0 := T13.y0
    have y1 := T13.y1
    go_wp2_with fail
    refine (heldPinsResult_any _ _ _ _ u13.heap.size 1 _ (OwnP.row T13.own (marksP_names _ _ (by omega) hgz)) (Nat.le_refl _) (by omega) (by omega) hgz).mono ?_
    rintro r u14 ⟨rfl, e14⟩
    have T14 := T13.on e14
    clear T13 e14 y0 y1
    have hk1 : ¬ (((1 + 5 * zs.length : Nat) : Int) < 0) := by omega
    have B14 := btr B2 T14.bel
    have A14 := A2.on T14.bel
    have p0 := A14.cell 0 _ rfl
    have p1 := A14.cell 1 _ rfl
    have p2 := A14.cell 2 _ rfl
    have p3 := A14.cell 3 _ rfl
    have p4 := A14.cell 4 _ rfl
    have p5 := A14.cell 5 _ rfl
    have p6 := A14.cell 6 _ rfl
    have p7 := A14.cell 7 _ rfl
    go_upto_region 27 with fail
    go_cut [14] from 69 to 75 (fun v' wx => PinsAt u14 cd zs v' wx)
    case first =>
      refine wp_region_fork (Bel u14) (by kernel_rfl) (Bel.drew u14) ?_
      have hst : (Bel u14) _ := (Bel.drew u14)
      have inst : Nonempty (Of (Bel u14)) := ⟨⟨_, hst⟩⟩
      have q0 := bel_cell p0
      have q1 := bel_cell p1
      have q2 := bel_cell p2
      have q3 := bel_cell p3
      have q4 := bel_cell p4
      have q5 := bel_cell p5
      have q6 := bel_cell p6
      have q7 := bel_cell p7
      generalize u14.drew = V1 at *
      refine any_seg 5 [(0, true), (2, true), (4, true)] (by kernel_rfl) (fun _ _ d _ _ h => by cases d <;> exact h) ?_
      iterate 3 (refine line_read rfl (by kernel_rfl) (fun K hK => ?_); go_big_quiet_op; refine hK _ ?_; clear hK K)
      refine line_nil ?_
      clear q0 q1 q2 q3 q4 q5 q6 q7 p0 p1 p2 p3 p4 p5 p6 p7
      refine any_fork 1 6 (by kernel_rfl) rfl rfl (by kernel_rfl) (by kernel_rfl) (fun K hK => ?_) (fun K hK => ?_)
      · refine call_any (args := #[.slice a0 len0 cap0]) rfl (by kernel_rfl) (by kernel_rfl) (T0 _ ((w0.on B14).on hst.out)) ?_
        rintro e x1 ⟨rfl, OS, hbn⟩
        have hst2 := hst.on hbn
        have RS := OS.row hN0.out
        refine ⟨_, rfl, hK _ _ hst2 ?_⟩
        clear hK K hst hbn OS
        have hst := hst2
        clear hst2
        simp only [Act.put, List.setIfInBounds_toArray, List.set_cons_zero, List.set_cons_succ]
        refine any_fork 3 6 (by kernel_rfl) rfl rfl (by kernel_rfl) (by kernel_rfl) (fun K hK => ?_) (fun K hK => ?_)
        · refine call_any (args := #[R8 a1]) rfl (by kernel_rfl) (by kernel_rfl) (P0 _) ?_
          rintro e x3 ⟨rfl, hbn⟩
          have hst2 := hst.on hbn
          have RS2 := RS.on hbn
          clear RS
          have RS := RS2
          clear RS2
          refine ⟨_, rfl, hK _ _ hst2 ?_⟩
          clear hK K hst hbn
          have hst := hst2
          clear hst2
          simp only [Act.put, List.setIfInBounds_toArray, List.set_cons_zero, List.set_cons_succ]
          refine any_fork 5 6 (by kernel_rfl) rfl rfl (by kernel_rfl) (by kernel_rfl) (fun K hK => ?_) (fun K hK => ?_)
          · refine call_any (args := #[.slice (some ⟨V1.heap.size, 0, none⟩) len0 len0, R8 a1, .int .i64 a2]) rfl (by kernel_rfl) (by kernel_rfl) (C2 _ (lab.on (btr B14 hst.out)) (ert.on (btr B14 hst.out)) _ _ RS) ?_
            rintro e x4 ⟨ba, bn, bc, rfl, OR, hbn⟩
            have lbn := OR.len
            subst lbn
            have leO := hst.out.size
            have OR2 := OR.less leO
            have hst2 := hst.on hbn
            refine ⟨_, rfl, hK _ _ hst2 ?_⟩
            clear hK K hst hbn OR
            have hst := hst2
            clear hst2
            simp only [Act.put, List.setIfInBounds_toArray, List.set_cons_zero, List.set_cons_succ]
            refine any_rest [(6, false), (7, false)] (by kernel_rfl) (fun _ _ d _ _ h => by cases d <;> exact h) ?_
            refine line_alone rfl (by kernel_rfl) (fun K hK => ?_)
            go_big_op
            have hst2 := hst.on (bal (Below.refl _ x4) (.cells #[.int .i64 0, .slice none 0 0] 37))
            have A := At.new x4 [.int .i64 0, .slice none 0 0] 37
            have leA : u14.heap.size ≤ x4.heap.size := hst.out.size
            have neA : ∀ k, Value.ownBlock (.slice ba zs.length bc) = some k → k ≠ x4.heap.size := fun k hk e => by have := (OR2.lt k hk).2; omega
            have OR3 := OR2.alloc (.cells #[.int .i64 0, .slice none 0 0] 37)
            clear OR2
            have OR2 := OR3
            clear OR3
            refine hK _ _ hst2 ?_
            clear hK K hst
            have hst := hst2
            clear hst2
            generalize x4.alloc (.cells #[.int .i64 0, .slice none 0 0] 37) = xa at *
            generalize x4.heap.size = ga at *
            have OR3 := Own.setCell (Own.setCell OR2 (p := ⟨ga, 0, none⟩) neA (.int .i64 cd)) (p := ⟨ga, 1, none⟩) neA (.slice ba zs.length bc)
            have h0 := A.cell 0 _ rfl
            have h1 := A.cell 1 _ rfl
            have f0 := A.free 0 _ rfl
            have f1 := A.free 1 _ rfl
            refine line_alone rfl (by kernel_rfl) (fun K hK => ?_)
            go_big_op
            refine hK _ _ (⟨(by (iterate 2 (refine bset ?_ (by dsimp only; omega) _)); exact hst.out)⟩) ?_
            clear hK K
            have A9 := ((A.set 0 (.int .i64 cd)).set 1 (.slice ba zs.length bc))
            refine line_nil ?_
            go_wp2_with fail
            go_meet
            case rel => exact ⟨_, _, _, rfl, A9, OR3, (by (iterate 2 (refine bset ?_ (by dsimp only; omega) _)); exact hst.out), leA⟩
          · go_big_op
            have hst2 := hst.on (bal (Below.refl _ x3) (.cells #[.int .i64 0, .slice none 0 0] 37))
            have A := At.new x3 [.int .i64 0, .slice none 0 0] 37
            have leA : u14.heap.size ≤ x3.heap.size := hst.out.size
            have RS2 := RS.on (bal (Below.refl _ x3) (.cells #[.int .i64 0, .slice none 0 0] 37))
            clear RS
            have RS := RS2
            clear RS2
            refine hK _ _ hst2 ?_
            clear hK K hst
            have hst := hst2
            clear hst2
            generalize x3.alloc (.cells #[.int .i64 0, .slice none 0 0] 37) = xa at *
            generalize x3.heap.size = ga at *
            refine any_rest [(5, false), (7, false)] (by kernel_rfl) (fun _ _ d _ _ h => by cases d <;> exact h) ?_
            refine line_alone rfl (by kernel_rfl) (fun K hK => ?_)
            refine call_any (args := #[.slice (some ⟨V1.heap.size, 0, none⟩) len0 len0, R8 a1, .int .i64 a2]) rfl (by kernel_rfl) (by kernel_rfl) (C2 _ (lab.on (btr B14 hst.out)) (ert.on (btr B14 hst.out)) _ _ RS) ?_
            rintro e k4 ⟨ba, bn, bc, rfl, OR, hbn⟩
            have lbn := OR.len
            subst lbn
            have leO := hst.out.size
            have OR2 := OR.less leO
            have ltA := A.lt (by simp)
            have neA : ∀ k, Value.ownBlock (.slice ba zs.length bc) = some k → k ≠ ga := fun k hk e => by have := (OR.lt k hk).1; omega
            have hst2 := hst.on hbn
            have A2 := A.on hbn
            clear A
            have A := A2
            clear A2
            refine ⟨_, rfl, hK _ _ hst2 ?_⟩
            clear hK K hst hbn OR
            have hst := hst2
            clear hst2
            simp only [Act.put, List.setIfInBounds_toArray, List.set_cons_zero, List.set_cons_succ]
            have OR3 := Own.setCell (Own.setCell OR2 (p := ⟨ga, 0, none⟩) neA (.int .i64 cd)) (p := ⟨ga, 1, none⟩) neA (.slice ba zs.length bc)
            have h0 := A.cell 0 _ rfl
            have h1 := A.cell 1 _ rfl
            have f0 := A.free 0 _ rfl
            have f1 := A.free 1 _ rfl
            refine line_alone rfl (by kernel_rfl) (fun K hK => ?_)
            go_big_op
            refine hK _ _ (⟨(by (iterate 2 (refine bset ?_ (by dsimp only; omega) _)); exact hst.out)⟩) ?_
            clear hK K
            have A9 := ((A.set 0 (.int .i64 cd)).set 1 (.slice ba zs.length bc))
            refine line_nil ?_
            go_wp2_with fail
            go_meet
            case rel => exact ⟨_, _, _, rfl, A9, OR3, (by (iterate 2 (refine bset ?_ (by dsimp only; omega) _)); exact hst.out), leA⟩
        · go_big_op
          have hst2 := hst.on (bal (Below.refl _ x1) (.cells #[.int .i64 0, .slice none 0 0] 37))
          have A := At.new x1 [.int .i64 0, .slice none 0 0] 37
          have leA : u14.heap.size ≤ x1.heap.size := hst.out.size
          have RS2 := RS.on (bal (Below.refl _ x1) (.cells #[.int .i64 0, .slice none 0 0] 37))
          clear RS
          have RS := RS2
          clear RS2
          refine hK _ _ hst2 ?_
          clear hK K hst
          have hst := hst2
          clear hst2
          generalize x1.alloc (.cells #[.int .i64 0, .slice none 0 0] 37) = xa at *
          generalize x1.heap.size = ga at *
          refine any_rest [(3, false), (5, false), (7, false)] (by kernel_rfl) (fun _ _ d _ _ h => by cases d <;> exact h) ?_
          refine line_alone rfl (by kernel_rfl) (fun K hK => ?_)
          refine call_any (args := #[R8 a1]) rfl (by kernel_rfl) (by kernel_rfl) (P0 _) ?_
          rintro e k3 ⟨rfl, hbn⟩
          have hst2 := hst.on hbn
          have A2 := A.on hbn
          clear A
          have A := A2
          clear A2
          have RS2 := RS.on hbn
          clear RS
          have RS := RS2
          clear RS2
          refine ⟨_, rfl, hK _ _ hst2 ?_⟩
          clear hK K hst hbn
          have hst := hst2
          clear hst2
          simp only [Act.put, List.setIfInBounds_toArray, List.set_cons_zero, List.set_cons_succ]
          refine line_alone rfl (by kernel_rfl) (fun K hK => ?_)
          refine call_any (args := #[.slice (some ⟨V1.heap.size, 0, none⟩) len0 len0, R8 a1, .int .i64 a2]) rfl (by kernel_rfl) (by kernel_rfl) (C2 _ (lab.on (btr B14 hst.out)) (ert.on (btr B14 hst.out)) _ _ RS) ?_
          rintro e k4 ⟨ba, bn, bc, rfl, OR, hbn⟩
          have lbn := OR.len
          subst lbn
          have leO := hst.out.size
          have OR2 := OR.less leO
          have ltA := A.lt (by simp)
          have neA : ∀ k, Value.ownBlock (.slice ba zs.length bc) = some k → k ≠ ga := fun k hk e => by have := (OR.lt k hk).1; omega
          have hst2 := hst.on hbn
          have A2 := A.on hbn
          clear A
          have A := A2
          clear A2
          refine ⟨_, rfl, hK _ _ hst2 ?_⟩
          clear hK K hst hbn OR
          have hst := hst2
          clear hst2
          simp only [Act.put, List.setIfInBounds_toArray, List.set_cons_zero, List.set_cons_succ]
          have OR3 := Own.setCell (Own.setCell OR2 (p := ⟨ga, 0, none⟩) neA (.int .i64 cd)) (p := ⟨ga, 1, none⟩) neA (.slice ba zs.length bc)
          have h0 := A.cell 0 _ rfl
          have h1 := A.cell 1 _ rfl
          have f0 := A.free 0 _ rfl
          have f1 := A.free 1 _ rfl
          refine line_alone rfl (by kernel_rfl) (fun K hK => ?_)
          go_big_op
          refine hK _ _ (⟨(by (iterate 2 (refine bset ?_ (by dsimp only; omega) _)); exact hst.out)⟩) ?_
          clear hK K
          have A9 := ((A.set 0 (.int .i64 cd)).set 1 (.slice ba zs.length bc))
          refine line_nil ?_
          go_wp2_with fail
          go_meet
          case rel => exact ⟨_, _, _, rfl, A9, OR3, (by (iterate 2 (refine bset ?_ (by dsimp only; omega) _)); exact hst.out), leA⟩
      · go_big_op
        have hst2 := hst.on (bal (Below.refl _ V1) (.cells #[.int .i64 0, .slice none 0 0] 37))
        have A := At.new V1 [.int .i64 0, .slice none 0 0] 37
        have leA : u14.heap.size ≤ V1.heap.size := hst.out.size
        refine hK _ _ hst2 ?_
        clear hK K hst
        have hst := hst2
        clear hst2
        generalize V1.alloc (.cells #[.int .i64 0, .slice none 0 0] 37) = xa at *
        generalize V1.heap.size = ga at *
        refine any_rest [(1, false), (3, false), (5, false), (7, false)] (by kernel_rfl) (fun _ _ d _ _ h => by cases d <;> exact h) ?_
        refine line_alone rfl (by kernel_rfl) (fun K hK => ?_)
        refine call_any (args := #[.slice a0 len0 cap0]) rfl (by kernel_rfl) (by kernel_rfl) (T0 _ ((w0.on B14).on hst.out)) ?_
        rintro e k1 ⟨rfl, OS, hbn⟩
        have hst2 := hst.on hbn
        have A2 := A.on hbn
        clear A
        have A := A2
        clear A2
        have RS := OS.row hN0.out
        refine ⟨_, rfl, hK _ _ hst2 ?_⟩
        clear hK K hst hbn OS
        have hst := hst2
        clear hst2
        simp only [Act.put, List.setIfInBounds_toArray, List.set_cons_zero, List.set_cons_succ]
        refine line_alone rfl (by kernel_rfl) (fun K hK => ?_)
        refine call_any (args := #[R8 a1]) rfl (by kernel_rfl) (by kernel_rfl) (P0 _) ?_
        rintro e k3 ⟨rfl, hbn⟩
        have hst2 := hst.on hbn
        have A2 := A.on hbn
        clear A
        have A := A2
        clear A2
        have RS2 := RS.on hbn
        clear RS
        have RS := RS2
        clear RS2
        refine ⟨_, rfl, hK _ _ hst2 ?_⟩
        clear hK K hst hbn
        have hst := hst2
        clear hst2
        simp only [Act.put, List.setIfInBounds_toArray, List.set_cons_zero, List.set_cons_succ]
        refine line_alone rfl (by kernel_rfl) (fun K hK => ?_)
        refine call_any (args := #[.slice (some ⟨xa.heap.size, 0, none⟩) len0 len0, R8 a1, .int .i64 a2]) rfl (by kernel_rfl) (by kernel_rfl) (C2 _ (lab.on (btr B14 hst.out)) (ert.on (btr B14 hst.out)) _ _ RS) ?_
        rintro e k4 ⟨ba, bn, bc, rfl, OR, hbn⟩
        have lbn := OR.len
        subst lbn
        have leO := hst.out.size
        have OR2 := OR.less leO
        have ltA := A.lt (by simp)
        have neA : ∀ k, Value.ownBlock (.slice ba zs.length bc) = some k → k ≠ ga := fun k hk e => by have := (OR.lt k hk).1; omega
        have hst2 := hst.on hbn
        have A2 := A.on hbn
        clear A
        have A := A2
        clear A2
        refine ⟨_, rfl, hK _ _ hst2 ?_⟩
        clear hK K hst hbn OR
        have hst := hst2
        clear hst2
        simp only [Act.put, List.setIfInBounds_toArray, List.set_cons_zero, List.set_cons_succ]
        have OR3 := Own.setCell (Own.setCell OR2 (p := ⟨ga, 0, none⟩) neA (.int .i64 cd)) (p := ⟨ga, 1, none⟩) neA (.slice ba zs.length bc)
        have h0 := A.cell 0 _ rfl
        have h1 := A.cell 1 _ rfl
        have f0 := A.free 0 _ rfl
        have f1 := A.free 1 _ rfl
        refine line_alone rfl (by kernel_rfl) (fun K hK => ?_)
        go_big_op
        refine hK _ _ (⟨(by (iterate 2 (refine bset ?_ (by dsimp only; omega) _)); exact hst.out)⟩) ?_
        clear hK K
        have A9 := ((A.set 0 (.int .i64 cd)).set 1 (.slice ba zs.length bc))
        refine line_nil ?_
        go_wp2_with fail
        go_meet
        case rel => exact ⟨_, _, _, rfl, A9, OR3, (by (iterate 2 (refine bset ?_ (by dsimp only; omega) _)); exact hst.out), leA⟩
    case rest =>
      obtain ⟨g3, b3, c3, rfl, X17, O17, f17, hg3⟩ := hcut
      have T18 := T14.on f17
      have R18 := O17.row HW.out
      have x0 := T18.x0
      have x1 := T18.x1
      have z0' := X17.cell 0 _ rfl
      have z1' := X17.cell 1 _ rfl
      clear T14 f17 O17 p0 p1 p2 p3 p4 p5 p6 p7
      go_wp2_with fail
      refine (eqPinsResult_any _ _ _ _ _ _ _ _ _ R18 (T18.row.more T18.lt1) (Nat.le_refl _)).mono ?_
      rintro r u19 ⟨rfl, e19⟩
      have T19 := T18.on e19
      have y0 := T19.y0
      have y1 := T19.y1
      clear T18 R18 e19 x0 x1 z0' z1'
      go_wp2_with fail
      refine (heldPinsResult_any _ _ _ _ u19.heap.size 1 _ (OwnP.row T19.own (marksP_names _ _ (by omega) hgz)) (Nat.le_refl _) (by omega) (by omega) hgz).mono ?_
      rintro r u20 ⟨rfl, e20⟩
      have hb := btr B2 (T19.on e20).bel
      clear T19 e20 y0 y1
      go_wp2_with fail
      go_ret
      exact ⟨rfl, hb⟩

end Go.Proofs.YtmdknbgpddnplaaGreatDoor.fnExactApplyRoll
