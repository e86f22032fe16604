/- Contracts of how a pin is read out of bytes, by the program and by its model. Conditions: as each theorem states. -/
import Derived.Test.YtcnpocppgghejaaDoorC7e
import Derived.Test.YtcnpocppgghejaaDoorC5k
namespace Go.Proofs.YtcnpocppgghejaaDoor
open Go.RowKit
set_option maxRecDepth 100000
set_option linter.unusedVariables false

/-- The name that stands in bytes; the pin. -/
def pinNm (zs : List Int) : List UInt8 := (zs.drop 7).map fun z => UInt8.ofNat z.toNat
theorem pinNm_str (zs : List Int) : strOf (zs.drop 7) = M.bs (pinNm zs) := by
  rw [← M.bs_data (strOf _), strOf, strOf_data]
  simp [pinNm]
def pinZ (zs : List Int) : PinD := ⟨M.bs (pinNm zs), 256 * zs.getD 0 0 + zs.getD 1 0, 256 * zs.getD 2 0 + zs.getD 3 0, zs.getD 4 0, 256 * zs.getD 5 0 + zs.getD 6 0⟩
def pinOk (zs : List Int) : Bool := decide (7 ≤ zs.length) && decide ((pinZ zs).f = 0)
def readC (zs : List Int) : Int := if pinOk zs then 0 else 5
def readR (zs : List Int) : PinD := if pinOk zs then pinZ zs else pin0
theorem pinOk_short {zs : List Int} (h : zs.length < 8) : pinOk zs = false := by
  unfold pinOk
  by_cases h7 : 7 ≤ zs.length
  · have e : (pinZ zs).nm = [] := by
      show (M.bs (pinNm zs)).data.toList = []
      rw [M.bs_list]
      unfold pinNm
      rw [List.drop_of_length_le (by omega)]
      rfl
    have : (pinZ zs).f = 5 := by
      unfold PinD.f
      rw [e]
      have h5 : M.nameF [] = 5 := by decide
      have h6 : M.normF [] = 5 := by rw [M.normF_no (by rw [h5]; omega), h5]
      rw [pinF_norm (by rw [h6]; omega), h6]
    rw [this]
    simp
  · simp [h7]
theorem pinZ_size (zs : List Int) (h : zs.length ≤ maxLen) : (pinZ zs).n.size ≤ maxLen := by
  show (M.bs (pinNm zs)).size ≤ maxLen
  rw [M.bs_size]
  simp only [pinNm, List.length_map, List.length_drop]
  omega
/-- A pin lies in a block of its own. -/
def PinAt (V : World) (p : PinD) (v : Value) (wx : World) : Prop := ∃ g, v = .pointer (some ⟨g, 0, none⟩) ∧ At g p.vals wx ∧ Below V.heap.size V wx ∧ V.heap.size ≤ g

theorem implReadPin_any (a : Option Addr) (len cap B : Nat) (zs : List Int) (w : World) (hR : Row .u8 w B a len cap zs) (hB : B ≤ w.heap.size) :
    Calls Tryd.prog 37 #[.slice a len cap] w fun r w' => r = .returned (R6 (readC zs) (readR zs)) ∧ Below w.heap.size w w' := by
  have hlen := hR.fits
  have hmost := hR.most
  have b0 := bal (Below.refl _ w) (.cells #[.int .i64 0, .string { data := #[] }, .int .i64 0, .int .i64 0, .int .i64 0, .int .i64 0] 37)
  have A0 := At.new w [.int .i64 0, .string { data := #[] }, .int .i64 0, .int .i64 0, .int .i64 0, .int .i64 0] 37
  have hzl := hR.length
  by_cases h7 : len < 7
  · have eno : pinOk zs = false := pinOk_short (by omega)
    rw [show readC zs = 5 by simp [readC, eno], show readR zs = pin0 by simp [readR, eno]]
    have h7' : (len : Int) < 7 := by omega
    have b5 := bal (Below.refl _ w) (.cells #[.int .i64 5, .string { data := #[] }, .int .i64 0, .int .i64 0, .int .i64 0, .int .i64 0] 37)
    unfold maxLen at hmost
    clear hR
    go_enter Tryd.func37, Tryd.ntmps37
    go_wp2_with fail
    exact bodyPost_ret (v := R6 5 ⟨{ data := #[] }, 0, 0, 0, 0⟩) (by simp [results, Tryd.results37, go_sem]) rfl ⟨rfl, b5⟩
  obtain ⟨b, off, rfl, hb, hc⟩ := hR.cells (by omega)
  have z0 := hR.byte 0
  have z1 := hR.byte 1
  have z2 := hR.byte 2
  have z3 := hR.byte 3
  have z4 := hR.byte 4
  have z5 := hR.byte 5
  have z6 := hR.byte 6
  have d0 := cell_keep b0 (hc 0 (by omega))
  rw [Nat.add_zero] at d0
  have d1 := cell_keep b0 (hc 1 (by omega))
  have d2 := cell_keep b0 (hc 2 (by omega))
  have d3 := cell_keep b0 (hc 3 (by omega))
  have d4 := cell_keep b0 (hc 4 (by omega))
  have d5 := cell_keep b0 (hc 5 (by omega))
  have d6 := cell_keep b0 (hc 6 (by omega))
  have R1 := hR.below (b0.mono hB)
  have hWB : B ≤ (w.alloc (.cells #[.int .i64 0, .string { data := #[] }, .int .i64 0, .int .i64 0, .int .i64 0, .int .i64 0] 37)).heap.size := by simp; omega
  have hsub := fun (w' : World) (R : Row .u8 w' B (some ⟨b, off, none⟩) len cap zs) => conv_row (R.sub 7 (len - 7) (cap - 7) (by omega) (by omega) (by omega))
  have edrop : (zs.drop 7).take (len - 7) = zs.drop 7 := List.take_of_length_le (by simp; omega)
  simp only [edrop, pinNm_str] at hsub
  have T0 := fun (w' : World) d0 d1 => readTwo_any b off len cap (zs.getD 0 0) (zs.getD 1 0) w' (by omega) (by omega) (by omega) d0 d1 z0.1 z0.2 z1.1 z1.2
  have T1 := fun (w' : World) d2 d3 => readTwo_any b (off + 2) (len - 2) (cap - 2) (zs.getD 2 0) (zs.getD 3 0) w' (by omega) (by omega) (by omega) d2 d3 z2.1 z2.2 z3.1 z3.2
  have T2 := fun (w' : World) d5 d6 => readTwo_any b (off + 5) (len - 5) (cap - 5) (zs.getD 5 0) (zs.getD 6 0) w' (by omega) (by omega) (by omega) d5 d6 z5.1 z5.2 z6.1 z6.2
  have hF := fun w => implPinFault_any (pinZ zs) w (pinZ_size zs (by rw [hzl]; omega))
  have hm2 := hmost
  unfold maxLen at hm2
  have h7' : ¬ (len : Int) < 7 := by omega
  have hC : readC zs = if (pinZ zs).f = 0 then 0 else 5 := by
    by_cases h : (pinZ zs).f = 0
    · simp [readC, pinOk, h, hzl]; omega
    · simp [readC, pinOk, h]
  have hP : readR zs = if (pinZ zs).f = 0 then pinZ zs else pin0 := by
    by_cases h : (pinZ zs).f = 0
    · simp [readR, pinOk, h, hzl]; omega
    · simp [readR, pinOk, h]
  rw [hC, hP]
  have eZ : pinZ zs = ⟨M.bs (pinNm zs), 256 * zs.getD 0 0 + zs.getD 1 0, 256 * zs.getD 2 0 + zs.getD 3 0, zs.getD 4 0, 256 * zs.getD 5 0 + zs.getD 6 0⟩ := rfl
  generalize pinZ zs = Z at *
  generalize M.bs (pinNm zs) = N at *
  generalize zs.getD 0 0 = y0 at *
  generalize zs.getD 1 0 = y1 at *
  generalize zs.getD 2 0 = y2 at *
  generalize zs.getD 3 0 = y3 at *
  generalize zs.getD 4 0 = y4 at *
  generalize zs.getD 5 0 = y5 at *
  generalize zs.getD 6 0 = y6 at *
  clear hR hc hC hP edrop hmost
  have EZ := Lib.hid eZ
  clear eZ
  go_enter Tryd.func37, Tryd.ntmps37
  go_upto_region 3 with fail
  generalize w.alloc (.cells #[.int .i64 0, .string { data := #[] }, .int .i64 0, .int .i64 0, .int .i64 0, .int .i64 0] 37) = W0 at *
  go_cut [3] from 8 to 23 (fun v' wx => ∃ g, v' = .pointer (some ⟨g, 0, none⟩) ∧ At g [.string N, .int .i64 (256 * y0 + y1), .int .i64 (256 * y2 + y3), .int .i64 y4, .int .i64 (256 * y5 + y6)] wx ∧ Below W0.heap.size W0 wx ∧ W0.heap.size ≤ g)
  case first =>
    refine wp_region_fork (Bel W0) (by kernel_rfl) (Bel.drew W0) ?_
    have hst : (Bel W0) _ := (Bel.drew W0)
    have inst : Nonempty (Of (Bel W0)) := ⟨⟨_, hst⟩⟩
    have u4 := bel_cell d4
    have cv : ∀ z : Of (Bel W0), (convert 50 9 (.slice (if cap = 7 then some ⟨b, off, none⟩ else some ⟨b, off + 7, none⟩) (len - 7) (cap - 7))).run Tryd.prog z.val = .ok (.string N) z.val := fun z => by
      have h := hsub _ (R1.below (z.prop.out.mono hWB))
      split
      · rename_i hcap
        have e := conv_none (some ⟨b, off, none⟩) (some ⟨b, off + 7, none⟩) (cap - 7) (cap - 7) z.val (by simp only [maxLen]; omega) (by simp only [maxLen]; omega)
        rw [show len - 7 = 0 by omega] at h ⊢
        rw [e]
        exact h
      · exact h
    generalize W0.drew = V1 at *
    refine any_seg 6 [(0, true), (1, true), (2, true), (3, true), (5, true), (6, true), (8, true), (9, true), (10, true), (11, true), (12, true), (13, true)] (by kernel_rfl) (fun _ _ d _ _ h => by cases d <;> exact h) ?_
    iterate 12 (refine line_read rfl (by kernel_rfl) (fun K hK => ?_); go_big_quiet_op; refine hK _ ?_; clear hK K)
    refine line_nil ?_
    clear cv u4
    generalize (if cap = 7 then some (⟨b, off, none⟩ : Addr) else some ⟨b, off + 7, none⟩) = ad
    have szV1 := hst.out.size
    refine any_fork 4 16 (by kernel_rfl) rfl rfl (by kernel_rfl) (by kernel_rfl) (fun K hK => ?_) (fun K hK => ?_)
    · refine call_any (args := #[.slice (some ⟨b, off, none⟩) len cap]) rfl (by kernel_rfl) (by kernel_rfl) (T0 _ (cell_keep hst.out d0) (cell_keep hst.out d1)) ?_
      rintro e x1 ⟨rfl, hbn⟩
      have hst2 := hst.on hbn
      refine ⟨_, rfl, hK _ _ hst2 ?_⟩
      clear hK K hst hbn
      have hst := hst2
      clear hst2
      simp only [Act.put, List.setIfInBounds_toArray, List.set_cons_zero, List.set_cons_succ]
      refine any_fork 7 16 (by kernel_rfl) rfl rfl (by kernel_rfl) (by kernel_rfl) (fun K hK => ?_) (fun K hK => ?_)
      · refine call_any (args := #[.slice (some ⟨b, off + 2, none⟩) (len - 2) (cap - 2)]) rfl (by kernel_rfl) (by kernel_rfl) (T1 _ (cell_keep hst.out d2) (cell_keep hst.out d3)) ?_
        rintro e x2 ⟨rfl, hbn⟩
        have hst2 := hst.on hbn
        refine ⟨_, rfl, hK _ _ hst2 ?_⟩
        clear hK K hst hbn
        have hst := hst2
        clear hst2
        simp only [Act.put, List.setIfInBounds_toArray, List.set_cons_zero, List.set_cons_succ]
        refine any_fork 14 16 (by kernel_rfl) rfl rfl (by kernel_rfl) (by kernel_rfl) (fun K hK => ?_) (fun K hK => ?_)
        · refine call_any (args := #[.slice (some ⟨b, off + 5, none⟩) (len - 5) (cap - 5)]) rfl (by kernel_rfl) (by kernel_rfl) (T2 _ (cell_keep hst.out d5) (cell_keep hst.out d6)) ?_
          rintro e x3 ⟨rfl, hbn⟩
          have hst2 := hst.on hbn
          refine ⟨_, rfl, hK _ _ hst2 ?_⟩
          clear hK K hst hbn
          have hst := hst2
          clear hst2
          simp only [Act.put, List.setIfInBounds_toArray, List.set_cons_zero, List.set_cons_succ]
          refine any_rest [(15, true), (16, false), (17, false)] (by kernel_rfl) (fun _ _ d _ _ h => by cases d <;> exact h) ?_
          refine line_readv (v := .agg #[.string N, .int .i64 (256 * y0 + y1), .int .i64 (256 * y2 + y3), .int .i64 y4, .int .i64 (256 * y5 + y6)]) rfl (by kernel_rfl) (fun _ => by kernel_rfl) ?_
          simp only [Act.put, List.setIfInBounds_toArray, List.set_cons_zero, List.set_cons_succ]
          refine line_alone rfl (by kernel_rfl) (fun K hK => ?_)
          go_big_op
          have hst2 := hst.on (bal (Below.refl _ x3) (.cells #[.string { data := #[] }, .int .i64 0, .int .i64 0, .int .i64 0, .int .i64 0] 26))
          have A := At.new x3 [.string { data := #[] }, .int .i64 0, .int .i64 0, .int .i64 0, .int .i64 0] 26
          have leA : W0.heap.size ≤ x3.heap.size := hst.out.size
          refine hK _ _ hst2 ?_
          clear hK K hst
          have hst := hst2
          clear hst2
          generalize x3.alloc (.cells #[.string { data := #[] }, .int .i64 0, .int .i64 0, .int .i64 0, .int .i64 0] 26) = xa at *
          have p0 := A.cell 0 _ rfl
          have p1 := A.cell 1 _ rfl
          have p2 := A.cell 2 _ rfl
          have p3 := A.cell 3 _ rfl
          have p4 := A.cell 4 _ rfl
          have f0 := A.free 0 _ rfl
          have f1 := A.free 1 _ rfl
          have f2 := A.free 2 _ rfl
          have f3 := A.free 3 _ rfl
          have f4 := A.free 4 _ rfl
          refine line_alone rfl (by kernel_rfl) (fun K hK => ?_)
          go_big_op
          refine hK _ _ (⟨(by (iterate 5 (refine bset ?_ (by dsimp only; omega) _)); exact hst.out)⟩) ?_
          clear hK K
          have A9 := (((((A.set 0 (.string N)).set 1 (.int .i64 (256 * y0 + y1))).set 2 (.int .i64 (256 * y2 + y3))).set 3 (.int .i64 y4)).set 4 (.int .i64 (256 * y5 + y6)))
          refine line_nil ?_
          go_wp2_with fail
          go_meet
          case rel => exact ⟨_, rfl, A9, (by (iterate 5 (refine bset ?_ (by dsimp only; omega) _)); exact hst.out), leA⟩
        · go_big_op
          have hst2 := hst.on (bal (Below.refl _ x2) (.cells #[.string { data := #[] }, .int .i64 0, .int .i64 0, .int .i64 0, .int .i64 0] 26))
          have A := At.new x2 [.string { data := #[] }, .int .i64 0, .int .i64 0, .int .i64 0, .int .i64 0] 26
          have leA : W0.heap.size ≤ x2.heap.size := hst.out.size
          refine hK _ _ hst2 ?_
          clear hK K hst
          have hst := hst2
          clear hst2
          generalize x2.alloc (.cells #[.string { data := #[] }, .int .i64 0, .int .i64 0, .int .i64 0, .int .i64 0] 26) = xa at *
          refine any_rest [(14, false), (15, true), (17, false)] (by kernel_rfl) (fun _ _ d _ _ h => by cases d <;> exact h) ?_
          refine line_alone rfl (by kernel_rfl) (fun K hK => ?_)
          refine call_any (args := #[.slice (some ⟨b, off + 5, none⟩) (len - 5) (cap - 5)]) rfl (by kernel_rfl) (by kernel_rfl) (T2 _ (cell_keep hst.out d5) (cell_keep hst.out d6)) ?_
          rintro e x4 ⟨rfl, hbn⟩
          have hst2 := hst.on hbn
          have A2 := A.on hbn
          clear A
          have A := A2
          clear A2
          refine ⟨_, rfl, hK _ _ hst2 ?_⟩
          clear hK K hst hbn
          have hst := hst2
          clear hst2
          simp only [Act.put, List.setIfInBounds_toArray, List.set_cons_zero, List.set_cons_succ]
          refine line_readv (v := .agg #[.string N, .int .i64 (256 * y0 + y1), .int .i64 (256 * y2 + y3), .int .i64 y4, .int .i64 (256 * y5 + y6)]) rfl (by kernel_rfl) (fun _ => by kernel_rfl) ?_
          simp only [Act.put, List.setIfInBounds_toArray, List.set_cons_zero, List.set_cons_succ]
          have p0 := A.cell 0 _ rfl
          have p1 := A.cell 1 _ rfl
          have p2 := A.cell 2 _ rfl
          have p3 := A.cell 3 _ rfl
          have p4 := A.cell 4 _ rfl
          have f0 := A.free 0 _ rfl
          have f1 := A.free 1 _ rfl
          have f2 := A.free 2 _ rfl
          have f3 := A.free 3 _ rfl
          have f4 := A.free 4 _ rfl
          refine line_alone rfl (by kernel_rfl) (fun K hK => ?_)
          go_big_op
          refine hK _ _ (⟨(by (iterate 5 (refine bset ?_ (by dsimp only; omega) _)); exact hst.out)⟩) ?_
          clear hK K
          have A9 := (((((A.set 0 (.string N)).set 1 (.int .i64 (256 * y0 + y1))).set 2 (.int .i64 (256 * y2 + y3))).set 3 (.int .i64 y4)).set 4 (.int .i64 (256 * y5 + y6)))
          refine line_nil ?_
          go_wp2_with fail
          go_meet
          case rel => exact ⟨_, rfl, A9, (by (iterate 5 (refine bset ?_ (by dsimp only; omega) _)); exact hst.out), leA⟩
      · go_big_op
        have hst2 := hst.on (bal (Below.refl _ x1) (.cells #[.string { data := #[] }, .int .i64 0, .int .i64 0, .int .i64 0, .int .i64 0] 26))
        have A := At.new x1 [.string { data := #[] }, .int .i64 0, .int .i64 0, .int .i64 0, .int .i64 0] 26
        have leA : W0.heap.size ≤ x1.heap.size := hst.out.size
        refine hK _ _ hst2 ?_
        clear hK K hst
        have hst := hst2
        clear hst2
        generalize x1.alloc (.cells #[.string { data := #[] }, .int .i64 0, .int .i64 0, .int .i64 0, .int .i64 0] 26) = xa at *
        refine any_rest [(7, false), (14, false), (15, true), (17, false)] (by kernel_rfl) (fun _ _ d _ _ h => by cases d <;> exact h) ?_
        refine line_alone rfl (by kernel_rfl) (fun K hK => ?_)
        refine call_any (args := #[.slice (some ⟨b, off + 2, none⟩) (len - 2) (cap - 2)]) rfl (by kernel_rfl) (by kernel_rfl) (T1 _ (cell_keep hst.out d2) (cell_keep hst.out d3)) ?_
        rintro e x5 ⟨rfl, hbn⟩
        have hst2 := hst.on hbn
        have A2 := A.on hbn
        clear A
        have A := A2
        clear A2
        refine ⟨_, rfl, hK _ _ hst2 ?_⟩
        clear hK K hst hbn
        have hst := hst2
        clear hst2
        simp only [Act.put, List.setIfInBounds_toArray, List.set_cons_zero, List.set_cons_succ]
        refine line_alone rfl (by kernel_rfl) (fun K hK => ?_)
        refine call_any (args := #[.slice (some ⟨b, off + 5, none⟩) (len - 5) (cap - 5)]) rfl (by kernel_rfl) (by kernel_rfl) (T2 _ (cell_keep hst.out d5) (cell_keep hst.out d6)) ?_
        rintro e x6 ⟨rfl, hbn⟩
        have hst2 := hst.on hbn
        have A2 := A.on hbn
        clear A
        have A := A2
        clear A2
        refine ⟨_, rfl, hK _ _ hst2 ?_⟩
        clear hK K hst hbn
        have hst := hst2
        clear hst2
        simp only [Act.put, List.setIfInBounds_toArray, List.set_cons_zero, List.set_cons_succ]
        refine line_readv (v := .agg #[.string N, .int .i64 (256 * y0 + y1), .int .i64 (256 * y2 + y3), .int .i64 y4, .int .i64 (256 * y5 + y6)]) rfl (by kernel_rfl) (fun _ => by kernel_rfl) ?_
        simp only [Act.put, List.setIfInBounds_toArray, List.set_cons_zero, List.set_cons_succ]
        have p0 := A.cell 0 _ rfl
        have p1 := A.cell 1 _ rfl
        have p2 := A.cell 2 _ rfl
        have p3 := A.cell 3 _ rfl
        have p4 := A.cell 4 _ rfl
        have f0 := A.free 0 _ rfl
        have f1 := A.free 1 _ rfl
        have f2 := A.free 2 _ rfl
        have f3 := A.free 3 _ rfl
        have f4 := A.free 4 _ rfl
        refine line_alone rfl (by kernel_rfl) (fun K hK => ?_)
        go_big_op
        refine hK _ _ (⟨(by (iterate 5 (refine bset ?_ (by dsimp only; omega) _)); exact hst.out)⟩) ?_
        clear hK K
        have A9 := (((((A.set 0 (.string N)).set 1 (.int .i64 (256 * y0 + y1))).set 2 (.int .i64 (256 * y2 + y3))).set 3 (.int .i64 y4)).set 4 (.int .i64 (256 * y5 + y6)))
        refine line_nil ?_
        go_wp2_with fail
        go_meet
        case rel => exact ⟨_, rfl, A9, (by (iterate 5 (refine bset ?_ (by dsimp only; omega) _)); exact hst.out), leA⟩
    · go_big_op
      have hst2 := hst.on (bal (Below.refl _ V1) (.cells #[.string { data := #[] }, .int .i64 0, .int .i64 0, .int .i64 0, .int .i64 0] 26))
      have A := At.new V1 [.string { data := #[] }, .int .i64 0, .int .i64 0, .int .i64 0, .int .i64 0] 26
      have leA : W0.heap.size ≤ V1.heap.size := hst.out.size
      refine hK _ _ hst2 ?_
      clear hK K hst
      have hst := hst2
      clear hst2
      generalize V1.alloc (.cells #[.string { data := #[] }, .int .i64 0, .int .i64 0, .int .i64 0, .int .i64 0] 26) = xa at *
      refine any_rest [(4, false), (7, false), (14, false), (15, true), (17, false)] (by kernel_rfl) (fun _ _ d _ _ h => by cases d <;> exact h) ?_
      refine line_alone rfl (by kernel_rfl) (fun K hK => ?_)
      refine call_any (args := #[.slice (some ⟨b, off, none⟩) len cap]) rfl (by kernel_rfl) (by kernel_rfl) (T0 _ (cell_keep hst.out d0) (cell_keep hst.out d1)) ?_
      rintro e x7 ⟨rfl, hbn⟩
      have hst2 := hst.on hbn
      have A2 := A.on hbn
      clear A
      have A := A2
      clear A2
      refine ⟨_, rfl, hK _ _ hst2 ?_⟩
      clear hK K hst hbn
      have hst := hst2
      clear hst2
      simp only [Act.put, List.setIfInBounds_toArray, List.set_cons_zero, List.set_cons_succ]
      refine line_alone rfl (by kernel_rfl) (fun K hK => ?_)
      refine call_any (args := #[.slice (some ⟨b, off + 2, none⟩) (len - 2) (cap - 2)]) rfl (by kernel_rfl) (by kernel_rfl) (T1 _ (cell_keep hst.out d2) (cell_keep hst.out d3)) ?_
      rintro e x8 ⟨rfl, hbn⟩
      have hst2 := hst.on hbn
      have A2 := A.on hbn
      clear A
      have A := A2
      clear A2
      refine ⟨_, rfl, hK _ _ hst2 ?_⟩
      clear hK K hst hbn
      have hst := hst2
      clear hst2
      simp only [Act.put, List.setIfInBounds_toArray, List.set_cons_zero, List.set_cons_succ]
      refine line_alone rfl (by kernel_rfl) (fun K hK => ?_)
      refine call_any (args := #[.slice (some ⟨b, off + 5, none⟩) (len - 5) (cap - 5)]) rfl (by kernel_rfl) (by kernel_rfl) (T2 _ (cell_keep hst.out d5) (cell_keep hst.out d6)) ?_
      rintro e x9 ⟨rfl, hbn⟩
      have hst2 := hst.on hbn
      have A2 := A.on hbn
      clear A
      have A := A2
      clear A2
      refine ⟨_, rfl, hK _ _ hst2 ?_⟩
      clear hK K hst hbn
      have hst := hst2
      clear hst2
      simp only [Act.put, List.setIfInBounds_toArray, List.set_cons_zero, List.set_cons_succ]
      refine line_readv (v := .agg #[.string N, .int .i64 (256 * y0 + y1), .int .i64 (256 * y2 + y3), .int .i64 y4, .int .i64 (256 * y5 + y6)]) rfl (by kernel_rfl) (fun _ => by kernel_rfl) ?_
      simp only [Act.put, List.setIfInBounds_toArray, List.set_cons_zero, List.set_cons_succ]
      have p0 := A.cell 0 _ rfl
      have p1 := A.cell 1 _ rfl
      have p2 := A.cell 2 _ rfl
      have p3 := A.cell 3 _ rfl
      have p4 := A.cell 4 _ rfl
      have f0 := A.free 0 _ rfl
      have f1 := A.free 1 _ rfl
      have f2 := A.free 2 _ rfl
      have f3 := A.free 3 _ rfl
      have f4 := A.free 4 _ rfl
      refine line_alone rfl (by kernel_rfl) (fun K hK => ?_)
      go_big_op
      refine hK _ _ (⟨(by (iterate 5 (refine bset ?_ (by dsimp only; omega) _)); exact hst.out)⟩) ?_
      clear hK K
      have A9 := (((((A.set 0 (.string N)).set 1 (.int .i64 (256 * y0 + y1))).set 2 (.int .i64 (256 * y2 + y3))).set 3 (.int .i64 y4)).set 4 (.int .i64 (256 * y5 + y6)))
      refine line_nil ?_
      go_wp2_with fail
      go_meet
      case rel => exact ⟨_, rfl, A9, (by (iterate 5 (refine bset ?_ (by dsimp only; omega) _)); exact hst.out), leA⟩
  case rest =>
    obtain ⟨g, rfl, A1, b1, hg⟩ := hcut
    have x0 := A1.cell 0 _ rfl
    have x1 := A1.cell 1 _ rfl
    have x2 := A1.cell 2 _ rfl
    have x3 := A1.cell 3 _ rfl
    have x4 := A1.cell 4 _ rfl
    have ltA := A1.lt (by simp)
    have eZ := EZ.out
    by_cases hcd : Z.f = 0
    · rw [hcd] at hF
      have HW := Lib.hid hcd
      clear hcd
      subst eZ
      go_wp2_with fail
      refine (hF _).mono ?_
      rintro r w2 ⟨rfl, b2⟩
      have s0 := (A1.on b2).cell 0 _ rfl
      have s1 := (A1.on b2).cell 1 _ rfl
      have s2 := (A1.on b2).cell 2 _ rfl
      have s3 := (A1.on b2).cell 3 _ rfl
      have s4 := (A1.on b2).cell 4 _ rfl
      have bb := btr b1 b2
      have p0 := (A0.on bb).cell 0 _ rfl
      have p1 := (A0.on bb).cell 1 _ rfl
      have p2 := (A0.on bb).cell 2 _ rfl
      have p3 := (A0.on bb).cell 3 _ rfl
      have p4 := (A0.on bb).cell 4 _ rfl
      have p5 := (A0.on bb).cell 5 _ rfl
      have z0 := (A0.on bb).free 0 _ rfl
      have z1 := (A0.on bb).free 1 _ rfl
      have z2 := (A0.on bb).free 2 _ rfl
      have z3 := (A0.on bb).free 3 _ rfl
      have z4 := (A0.on bb).free 4 _ rfl
      have z5 := (A0.on bb).free 5 _ rfl
      have B3 := btr b0 bb
      clear A1 A0 b1 b2 bb x0 x1 x2 x3 x4 hF
      go_wp2_with fail
      refine bodyPost_ret (v := R6 0 ⟨N, 256 * y0 + y1, 256 * y2 + y3, y4, 256 * y5 + y6⟩) (by simp [results, Tryd.results37, go_sem, p0, p1, p2, p3, p4, p5]) rfl ⟨by first | rfl | (rw [if_pos HW.out]; rfl), ?_⟩
      exact (by (iterate 6 (refine bset ?_ (by dsimp only; omega) _)); exact B3)
    · have HW := Lib.hid hcd
      have hcd2 := hcd
      generalize hZ : Z.f = cd at hF hcd2
      have q : (cd == 0) = false := by simpa using hcd2
      clear hcd
      subst eZ
      go_wp2_with fail
      refine (hF _).mono ?_
      rintro r w2 ⟨rfl, b2⟩
      have bb := btr b1 b2
      have p0 := (A0.on bb).cell 0 _ rfl
      have p1 := (A0.on bb).cell 1 _ rfl
      have p2 := (A0.on bb).cell 2 _ rfl
      have p3 := (A0.on bb).cell 3 _ rfl
      have p4 := (A0.on bb).cell 4 _ rfl
      have p5 := (A0.on bb).cell 5 _ rfl
      have z0 := (A0.on bb).free 0 _ rfl
      have z1 := (A0.on bb).free 1 _ rfl
      have z2 := (A0.on bb).free 2 _ rfl
      have z3 := (A0.on bb).free 3 _ rfl
      have z4 := (A0.on bb).free 4 _ rfl
      have z5 := (A0.on bb).free 5 _ rfl
      have B3 := btr b0 bb
      clear A1 A0 b1 b2 bb x0 x1 x2 x3 x4 hF
      go_wp2_with fail
      refine bodyPost_ret (v := R6 5 ⟨{ data := #[] }, 0, 0, 0, 0⟩) (by simp [results, Tryd.results37, go_sem, p0, p1, p2, p3, p4, p5]) rfl ⟨by first | rfl | (rw [if_neg HW.out]; rfl), ?_⟩
      exact (by (iterate 6 (refine bset ?_ (by dsimp only; omega) _)); exact B3)

/-- What the model reads: the pin, and whether it is one. -/
def PinRead (zs : List Int) (w : World) (e : Ending) (w' : World) : Prop := ∃ p : PinD, e = .returned (.tuple #[P5 p, .bool (pinOk zs)]) ∧ (pinOk zs = true → p = pinZ zs) ∧ Below w.heap.size w w'
theorem l7Read_any (a : Option Addr) (len cap B : Nat) (zs : List Int) (w : World) (hR : Row .u8 w B a len cap zs) (hB : B ≤ w.heap.size) :
    Calls Tryd.prog 63 #[.slice a len cap] w (PinRead zs w) := by
  have hlen := hR.fits
  have hmost := hR.most
  have b0 := bal (Below.refl _ w) (.cells #[.string { data := #[] }, .int .i64 0, .int .i64 0, .int .i64 0, .int .i64 0] 26)
  have A0 := At.new w [.string { data := #[] }, .int .i64 0, .int .i64 0, .int .i64 0, .int .i64 0] 26
  have hzl := hR.length
  by_cases h7 : len < 8
  · have eno : pinOk zs = false := pinOk_short (by omega)
    have F : PinRead zs w (.returned (.tuple #[P5 pin0, .bool false])) (w.alloc (.cells #[.string { data := #[] }, .int .i64 0, .int .i64 0, .int .i64 0, .int .i64 0] 26)) := ⟨pin0, by rw [eno], (fun h => by rw [eno] at h; cases h), b0⟩
    have h7' : (len : Int) < 8 := by omega
    unfold maxLen at hmost
    clear hR
    go_enter Tryd.func63, Tryd.ntmps63
    go_wp2_with fail
    exact bodyPost_ret (v := .tuple #[P5 ⟨{ data := #[] }, 0, 0, 0, 0⟩, .bool false]) (by simp [results, Tryd.results63, go_sem]) rfl F
  obtain ⟨b, off, rfl, hb, hc⟩ := hR.cells (by omega)
  have z0 := hR.byte 0
  have z1 := hR.byte 1
  have z2 := hR.byte 2
  have z3 := hR.byte 3
  have z4 := hR.byte 4
  have z5 := hR.byte 5
  have z6 := hR.byte 6
  have d0 := cell_keep b0 (hc 0 (by omega))
  have d1 := cell_keep b0 (hc 1 (by omega))
  have d2 := cell_keep b0 (hc 2 (by omega))
  have d3 := cell_keep b0 (hc 3 (by omega))
  have d4 := cell_keep b0 (hc 4 (by omega))
  have d5 := cell_keep b0 (hc 5 (by omega))
  have d6 := cell_keep b0 (hc 6 (by omega))
  have R1 := hR.below (b0.mono hB)
  have hWB : B ≤ (w.alloc (.cells #[.string { data := #[] }, .int .i64 0, .int .i64 0, .int .i64 0, .int .i64 0] 26)).heap.size := by simp; omega
  have hsub := fun (w' : World) (R : Row .u8 w' B (some ⟨b, off, none⟩) len cap zs) => conv_row (R.sub 7 (len - 7) (cap - 7) (by omega) (by omega) (by omega))
  have edrop : (zs.drop 7).take (len - 7) = zs.drop 7 := List.take_of_length_le (by simp; omega)
  simp only [edrop, pinNm_str] at hsub
  have T0 := fun (w' : World) d0 d1 => l1At_any b off len cap 0 (zs.getD 0 0) (zs.getD 1 0) w' (by omega) (by omega) hlen hmost d0 d1 z0.1 z0.2 z1.1 z1.2
  have T1 := fun (w' : World) d2 d3 => l1At_any b off len cap 2 (zs.getD 2 0) (zs.getD 3 0) w' (by omega) (by omega) hlen hmost d2 d3 z2.1 z2.2 z3.1 z3.2
  have T2 := fun (w' : World) d5 d6 => l1At_any b off len cap 5 (zs.getD 5 0) (zs.getD 6 0) w' (by omega) (by omega) hlen hmost d5 d6 z5.1 z5.2 z6.1 z6.2
  have hF := fun g w A => l7Fault_any g (pinZ zs) w A (pinZ_size zs (by rw [hzl]; omega))
  have hm2 := hmost
  unfold maxLen at hm2
  have h7' : ¬ (len : Int) < 8 := by omega
  have hOk : pinOk zs = ((pinZ zs).f == 0) := by
    unfold pinOk
    rw [decide_eq_true (show 7 ≤ zs.length by omega), Bool.true_and]
    by_cases h : (pinZ zs).f = 0 <;> simp [h]
  have HP := Lib.hid (fun (w' : World) (hb : Below w.heap.size w w') => show PinRead zs w (.returned (.tuple #[P5 (pinZ zs), .bool ((pinZ zs).f == 0)])) w' from ⟨pinZ zs, by rw [hOk], fun _ => rfl, hb⟩)
  have eZ : pinZ zs = ⟨M.bs (pinNm zs), 256 * zs.getD 0 0 + zs.getD 1 0, 256 * zs.getD 2 0 + zs.getD 3 0, zs.getD 4 0, 256 * zs.getD 5 0 + zs.getD 6 0⟩ := rfl
  clear hOk
  generalize HQ : PinRead zs w = Q at *
  clear HQ
  generalize pinZ zs = Z at *
  generalize M.bs (pinNm zs) = N at *
  generalize zs.getD 0 0 = y0 at *
  generalize zs.getD 1 0 = y1 at *
  generalize zs.getD 2 0 = y2 at *
  generalize zs.getD 3 0 = y3 at *
  generalize zs.getD 4 0 = y4 at *
  generalize zs.getD 5 0 = y5 at *
  generalize zs.getD 6 0 = y6 at *
  clear hR hc edrop hmost
  have EZ := Lib.hid eZ
  clear eZ
  go_enter Tryd.func63, Tryd.ntmps63
  go_upto_region 3 with fail
  generalize w.alloc (.cells #[.string { data := #[] }, .int .i64 0, .int .i64 0, .int .i64 0, .int .i64 0] 26) = W0 at *
  go_cut [4] from 10 to 23 (fun v' wx => ∃ g, v' = .pointer (some ⟨g, 0, none⟩) ∧ At g [.string N, .int .i64 (256 * y0 + y1), .int .i64 (256 * y2 + y3), .int .i64 y4, .int .i64 (256 * y5 + y6)] wx ∧ Below W0.heap.size W0 wx ∧ W0.heap.size ≤ g)
  case first =>
    refine wp_region_fork (Bel W0) (by kernel_rfl) (Bel.drew W0) ?_
    have hst : (Bel W0) _ := (Bel.drew W0)
    have inst : Nonempty (Of (Bel W0)) := ⟨⟨_, hst⟩⟩
    have u4 := bel_cell d4
    have cv : ∀ z : Of (Bel W0), (convert 50 9 (.slice (some ⟨b, off + 7, none⟩) (len - 7) (cap - 7))).run Tryd.prog z.val = .ok (.string N) z.val := fun z => hsub _ (R1.below (z.prop.out.mono hWB))
    generalize W0.drew = V1 at *
    refine any_seg 6 [(0, true), (2, true), (4, true), (5, true), (6, true), (7, true), (8, true), (10, true), (11, true), (12, true)] (by kernel_rfl) (fun _ _ d _ _ h => by cases d <;> exact h) ?_
    iterate 10 (refine line_read rfl (by kernel_rfl) (fun K hK => ?_); go_big_quiet_op; refine hK _ ?_; clear hK K)
    refine line_nil ?_
    clear cv u4
    have szV1 := hst.out.size
    refine any_fork 1 14 (by kernel_rfl) rfl rfl (by kernel_rfl) (by kernel_rfl) (fun K hK => ?_) (fun K hK => ?_)
    · refine call_any (args := #[.slice (some ⟨b, off, none⟩) len cap, .int .i64 0]) rfl (by kernel_rfl) (by kernel_rfl) (T0 _ (cell_keep hst.out d0) (cell_keep hst.out d1)) ?_
      rintro e x1 ⟨rfl, hbn⟩
      have hst2 := hst.on hbn
      refine ⟨_, rfl, hK _ _ hst2 ?_⟩
      clear hK K hst hbn
      have hst := hst2
      clear hst2
      simp only [Act.put, List.setIfInBounds_toArray, List.set_cons_zero, List.set_cons_succ]
      refine any_fork 3 14 (by kernel_rfl) rfl rfl (by kernel_rfl) (by kernel_rfl) (fun K hK => ?_) (fun K hK => ?_)
      · refine call_any (args := #[.slice (some ⟨b, off, none⟩) len cap, .int .i64 2]) rfl (by kernel_rfl) (by kernel_rfl) (T1 _ (cell_keep hst.out d2) (cell_keep hst.out d3)) ?_
        rintro e x2 ⟨rfl, hbn⟩
        have hst2 := hst.on hbn
        refine ⟨_, rfl, hK _ _ hst2 ?_⟩
        clear hK K hst hbn
        have hst := hst2
        clear hst2
        simp only [Act.put, List.setIfInBounds_toArray, List.set_cons_zero, List.set_cons_succ]
        refine any_fork 9 14 (by kernel_rfl) rfl rfl (by kernel_rfl) (by kernel_rfl) (fun K hK => ?_) (fun K hK => ?_)
        · refine call_any (args := #[.slice (some ⟨b, off, none⟩) len cap, .int .i64 5]) rfl (by kernel_rfl) (by kernel_rfl) (T2 _ (cell_keep hst.out d5) (cell_keep hst.out d6)) ?_
          rintro e x3 ⟨rfl, hbn⟩
          have hst2 := hst.on hbn
          refine ⟨_, rfl, hK _ _ hst2 ?_⟩
          clear hK K hst hbn
          have hst := hst2
          clear hst2
          simp only [Act.put, List.setIfInBounds_toArray, List.set_cons_zero, List.set_cons_succ]
          refine any_rest [(13, true), (14, false), (15, false)] (by kernel_rfl) (fun _ _ d _ _ h => by cases d <;> exact h) ?_
          refine line_readv (v := .agg #[.string N, .int .i64 (256 * y0 + y1), .int .i64 (256 * y2 + y3), .int .i64 y4, .int .i64 (256 * y5 + y6)]) rfl (by kernel_rfl) (fun _ => by kernel_rfl) ?_
          simp only [Act.put, List.setIfInBounds_toArray, List.set_cons_zero, List.set_cons_succ]
          refine line_alone rfl (by kernel_rfl) (fun K hK => ?_)
          go_big_op
          have hst2 := hst.on (bal (Below.refl _ x3) (.cells #[.string { data := #[] }, .int .i64 0, .int .i64 0, .int .i64 0, .int .i64 0] 26))
          have A := At.new x3 [.string { data := #[] }, .int .i64 0, .int .i64 0, .int .i64 0, .int .i64 0] 26
          have leA : W0.heap.size ≤ x3.heap.size := hst.out.size
          refine hK _ _ hst2 ?_
          clear hK K hst
          have hst := hst2
          clear hst2
          generalize x3.alloc (.cells #[.string { data := #[] }, .int .i64 0, .int .i64 0, .int .i64 0, .int .i64 0] 26) = xa at *
          have p0 := A.cell 0 _ rfl
          have p1 := A.cell 1 _ rfl
          have p2 := A.cell 2 _ rfl
          have p3 := A.cell 3 _ rfl
          have p4 := A.cell 4 _ rfl
          have f0 := A.free 0 _ rfl
          have f1 := A.free 1 _ rfl
          have f2 := A.free 2 _ rfl
          have f3 := A.free 3 _ rfl
          have f4 := A.free 4 _ rfl
          refine line_alone rfl (by kernel_rfl) (fun K hK => ?_)
          go_big_op
          refine hK _ _ (⟨(by (iterate 5 (refine bset ?_ (by dsimp only; omega) _)); exact hst.out)⟩) ?_
          clear hK K
          have A9 := (((((A.set 0 (.string N)).set 1 (.int .i64 (256 * y0 + y1))).set 2 (.int .i64 (256 * y2 + y3))).set 3 (.int .i64 y4)).set 4 (.int .i64 (256 * y5 + y6)))
          refine line_nil ?_
          go_wp2_with fail
          go_meet
          case rel => exact ⟨_, rfl, A9, (by (iterate 5 (refine bset ?_ (by dsimp only; omega) _)); exact hst.out), leA⟩
        · go_big_op
          have hst2 := hst.on (bal (Below.refl _ x2) (.cells #[.string { data := #[] }, .int .i64 0, .int .i64 0, .int .i64 0, .int .i64 0] 26))
          have A := At.new x2 [.string { data := #[] }, .int .i64 0, .int .i64 0, .int .i64 0, .int .i64 0] 26
          have leA : W0.heap.size ≤ x2.heap.size := hst.out.size
          refine hK _ _ hst2 ?_
          clear hK K hst
          have hst := hst2
          clear hst2
          generalize x2.alloc (.cells #[.string { data := #[] }, .int .i64 0, .int .i64 0, .int .i64 0, .int .i64 0] 26) = xa at *
          refine any_rest [(9, false), (13, true), (15, false)] (by kernel_rfl) (fun _ _ d _ _ h => by cases d <;> exact h) ?_
          refine line_alone rfl (by kernel_rfl) (fun K hK => ?_)
          refine call_any (args := #[.slice (some ⟨b, off, none⟩) len cap, .int .i64 5]) rfl (by kernel_rfl) (by kernel_rfl) (T2 _ (cell_keep hst.out d5) (cell_keep hst.out d6)) ?_
          rintro e x4 ⟨rfl, hbn⟩
          have hst2 := hst.on hbn
          have A2 := A.on hbn
          clear A
          have A := A2
          clear A2
          refine ⟨_, rfl, hK _ _ hst2 ?_⟩
          clear hK K hst hbn
          have hst := hst2
          clear hst2
          simp only [Act.put, List.setIfInBounds_toArray, List.set_cons_zero, List.set_cons_succ]
          refine line_readv (v := .agg #[.string N, .int .i64 (256 * y0 + y1), .int .i64 (256 * y2 + y3), .int .i64 y4, .int .i64 (256 * y5 + y6)]) rfl (by kernel_rfl) (fun _ => by kernel_rfl) ?_
          simp only [Act.put, List.setIfInBounds_toArray, List.set_cons_zero, List.set_cons_succ]
          have p0 := A.cell 0 _ rfl
          have p1 := A.cell 1 _ rfl
          have p2 := A.cell 2 _ rfl
          have p3 := A.cell 3 _ rfl
          have p4 := A.cell 4 _ rfl
          have f0 := A.free 0 _ rfl
          have f1 := A.free 1 _ rfl
          have f2 := A.free 2 _ rfl
          have f3 := A.free 3 _ rfl
          have f4 := A.free 4 _ rfl
          refine line_alone rfl (by kernel_rfl) (fun K hK => ?_)
          go_big_op
          refine hK _ _ (⟨(by (iterate 5 (refine bset ?_ (by dsimp only; omega) _)); exact hst.out)⟩) ?_
          clear hK K
          have A9 := (((((A.set 0 (.string N)).set 1 (.int .i64 (256 * y0 + y1))).set 2 (.int .i64 (256 * y2 + y3))).set 3 (.int .i64 y4)).set 4 (.int .i64 (256 * y5 + y6)))
          refine line_nil ?_
          go_wp2_with fail
          go_meet
          case rel => exact ⟨_, rfl, A9, (by (iterate 5 (refine bset ?_ (by dsimp only; omega) _)); exact hst.out), leA⟩
      · go_big_op
        have hst2 := hst.on (bal (Below.refl _ x1) (.cells #[.string { data := #[] }, .int .i64 0, .int .i64 0, .int .i64 0, .int .i64 0] 26))
        have A := At.new x1 [.string { data := #[] }, .int .i64 0, .int .i64 0, .int .i64 0, .int .i64 0] 26
        have leA : W0.heap.size ≤ x1.heap.size := hst.out.size
        refine hK _ _ hst2 ?_
        clear hK K hst
        have hst := hst2
        clear hst2
        generalize x1.alloc (.cells #[.string { data := #[] }, .int .i64 0, .int .i64 0, .int .i64 0, .int .i64 0] 26) = xa at *
        refine any_rest [(3, false), (9, false), (13, true), (15, false)] (by kernel_rfl) (fun _ _ d _ _ h => by cases d <;> exact h) ?_
        refine line_alone rfl (by kernel_rfl) (fun K hK => ?_)
        refine call_any (args := #[.slice (some ⟨b, off, none⟩) len cap, .int .i64 2]) rfl (by kernel_rfl) (by kernel_rfl) (T1 _ (cell_keep hst.out d2) (cell_keep hst.out d3)) ?_
        rintro e x5 ⟨rfl, hbn⟩
        have hst2 := hst.on hbn
        have A2 := A.on hbn
        clear A
        have A := A2
        clear A2
        refine ⟨_, rfl, hK _ _ hst2 ?_⟩
        clear hK K hst hbn
        have hst := hst2
        clear hst2
        simp only [Act.put, List.setIfInBounds_toArray, List.set_cons_zero, List.set_cons_succ]
        refine line_alone rfl (by kernel_rfl) (fun K hK => ?_)
        refine call_any (args := #[.slice (some ⟨b, off, none⟩) len cap, .int .i64 5]) rfl (by kernel_rfl) (by kernel_rfl) (T2 _ (cell_keep hst.out d5) (cell_keep hst.out d6)) ?_
        rintro e x6 ⟨rfl, hbn⟩
        have hst2 := hst.on hbn
        have A2 := A.on hbn
        clear A
        have A := A2
        clear A2
        refine ⟨_, rfl, hK _ _ hst2 ?_⟩
        clear hK K hst hbn
        have hst := hst2
        clear hst2
        simp only [Act.put, List.setIfInBounds_toArray, List.set_cons_zero, List.set_cons_succ]
        refine line_readv (v := .agg #[.string N, .int .i64 (256 * y0 + y1), .int .i64 (256 * y2 + y3), .int .i64 y4, .int .i64 (256 * y5 + y6)]) rfl (by kernel_rfl) (fun _ => by kernel_rfl) ?_
        simp only [Act.put, List.setIfInBounds_toArray, List.set_cons_zero, List.set_cons_succ]
        have p0 := A.cell 0 _ rfl
        have p1 := A.cell 1 _ rfl
        have p2 := A.cell 2 _ rfl
        have p3 := A.cell 3 _ rfl
        have p4 := A.cell 4 _ rfl
        have f0 := A.free 0 _ rfl
        have f1 := A.free 1 _ rfl
        have f2 := A.free 2 _ rfl
        have f3 := A.free 3 _ rfl
        have f4 := A.free 4 _ rfl
        refine line_alone rfl (by kernel_rfl) (fun K hK => ?_)
        go_big_op
        refine hK _ _ (⟨(by (iterate 5 (refine bset ?_ (by dsimp only; omega) _)); exact hst.out)⟩) ?_
        clear hK K
        have A9 := (((((A.set 0 (.string N)).set 1 (.int .i64 (256 * y0 + y1))).set 2 (.int .i64 (256 * y2 + y3))).set 3 (.int .i64 y4)).set 4 (.int .i64 (256 * y5 + y6)))
        refine line_nil ?_
        go_wp2_with fail
        go_meet
        case rel => exact ⟨_, rfl, A9, (by (iterate 5 (refine bset ?_ (by dsimp only; omega) _)); exact hst.out), leA⟩
    · go_big_op
      have hst2 := hst.on (bal (Below.refl _ V1) (.cells #[.string { data := #[] }, .int .i64 0, .int .i64 0, .int .i64 0, .int .i64 0] 26))
      have A := At.new V1 [.string { data := #[] }, .int .i64 0, .int .i64 0, .int .i64 0, .int .i64 0] 26
      have leA : W0.heap.size ≤ V1.heap.size := hst.out.size
      refine hK _ _ hst2 ?_
      clear hK K hst
      have hst := hst2
      clear hst2
      generalize V1.alloc (.cells #[.string { data := #[] }, .int .i64 0, .int .i64 0, .int .i64 0, .int .i64 0] 26) = xa at *
      refine any_rest [(1, false), (3, false), (9, false), (13, true), (15, false)] (by kernel_rfl) (fun _ _ d _ _ h => by cases d <;> exact h) ?_
      refine line_alone rfl (by kernel_rfl) (fun K hK => ?_)
      refine call_any (args := #[.slice (some ⟨b, off, none⟩) len cap, .int .i64 0]) rfl (by kernel_rfl) (by kernel_rfl) (T0 _ (cell_keep hst.out d0) (cell_keep hst.out d1)) ?_
      rintro e x7 ⟨rfl, hbn⟩
      have hst2 := hst.on hbn
      have A2 := A.on hbn
      clear A
      have A := A2
      clear A2
      refine ⟨_, rfl, hK _ _ hst2 ?_⟩
      clear hK K hst hbn
      have hst := hst2
      clear hst2
      simp only [Act.put, List.setIfInBounds_toArray, List.set_cons_zero, List.set_cons_succ]
      refine line_alone rfl (by kernel_rfl) (fun K hK => ?_)
      refine call_any (args := #[.slice (some ⟨b, off, none⟩) len cap, .int .i64 2]) rfl (by kernel_rfl) (by kernel_rfl) (T1 _ (cell_keep hst.out d2) (cell_keep hst.out d3)) ?_
      rintro e x8 ⟨rfl, hbn⟩
      have hst2 := hst.on hbn
      have A2 := A.on hbn
      clear A
      have A := A2
      clear A2
      refine ⟨_, rfl, hK _ _ hst2 ?_⟩
      clear hK K hst hbn
      have hst := hst2
      clear hst2
      simp only [Act.put, List.setIfInBounds_toArray, List.set_cons_zero, List.set_cons_succ]
      refine line_alone rfl (by kernel_rfl) (fun K hK => ?_)
      refine call_any (args := #[.slice (some ⟨b, off, none⟩) len cap, .int .i64 5]) rfl (by kernel_rfl) (by kernel_rfl) (T2 _ (cell_keep hst.out d5) (cell_keep hst.out d6)) ?_
      rintro e x9 ⟨rfl, hbn⟩
      have hst2 := hst.on hbn
      have A2 := A.on hbn
      clear A
      have A := A2
      clear A2
      refine ⟨_, rfl, hK _ _ hst2 ?_⟩
      clear hK K hst hbn
      have hst := hst2
      clear hst2
      simp only [Act.put, List.setIfInBounds_toArray, List.set_cons_zero, List.set_cons_succ]
      refine line_readv (v := .agg #[.string N, .int .i64 (256 * y0 + y1), .int .i64 (256 * y2 + y3), .int .i64 y4, .int .i64 (256 * y5 + y6)]) rfl (by kernel_rfl) (fun _ => by kernel_rfl) ?_
      simp only [Act.put, List.setIfInBounds_toArray, List.set_cons_zero, List.set_cons_succ]
      have p0 := A.cell 0 _ rfl
      have p1 := A.cell 1 _ rfl
      have p2 := A.cell 2 _ rfl
      have p3 := A.cell 3 _ rfl
      have p4 := A.cell 4 _ rfl
      have f0 := A.free 0 _ rfl
      have f1 := A.free 1 _ rfl
      have f2 := A.free 2 _ rfl
      have f3 := A.free 3 _ rfl
      have f4 := A.free 4 _ rfl
      refine line_alone rfl (by kernel_rfl) (fun K hK => ?_)
      go_big_op
      refine hK _ _ (⟨(by (iterate 5 (refine bset ?_ (by dsimp only; omega) _)); exact hst.out)⟩) ?_
      clear hK K
      have A9 := (((((A.set 0 (.string N)).set 1 (.int .i64 (256 * y0 + y1))).set 2 (.int .i64 (256 * y2 + y3))).set 3 (.int .i64 y4)).set 4 (.int .i64 (256 * y5 + y6)))
      refine line_nil ?_
      go_wp2_with fail
      go_meet
      case rel => exact ⟨_, rfl, A9, (by (iterate 5 (refine bset ?_ (by dsimp only; omega) _)); exact hst.out), leA⟩
  case rest =>
    obtain ⟨g, rfl, A1, b1, hg⟩ := hcut
    have eZ := EZ.out
    have ltA := A1.lt (by simp)
    have lt0 : w.heap.size < W0.heap.size := A0.lt (by simp)
    generalize Z.f = cd at *
    subst eZ
    go_wp2_with fail
    have S0 : Hold w g [.string N, .int .i64 (256 * y0 + y1), .int .i64 (256 * y2 + y3), .int .i64 y4, .int .i64 (256 * y5 + y6)] wc.drew := ⟨(btr b0 b1).drew, A1.on (bdrew wc)⟩
    have AA := (A0.on b1).on (bdrew wc)
    refine wp_region_line (Hold w g [.string N, .int .i64 (256 * y0 + y1), .int .i64 (256 * y2 + y3), .int .i64 y4, .int .i64 (256 * y5 + y6)]) [(0, true), (1, false), (2, true), (3, false), (4, true)] (by kernel_rfl) (by kernel_rfl) (fun _ _ d _ _ h => by cases d <;> exact h) S0 ?_
    have hst := S0
    have inst : Nonempty (Of (Hold w g [.string N, .int .i64 (256 * y0 + y1), .int .i64 (256 * y2 + y3), .int .i64 y4, .int .i64 (256 * y5 + y6)])) := ⟨⟨_, hst⟩⟩
    have q0 := hold_cell (W := w) (g := g) (cs := [.string N, .int .i64 (256 * y0 + y1), .int .i64 (256 * y2 + y3), .int .i64 y4, .int .i64 (256 * y5 + y6)]) 0 _ rfl
    have q1 := hold_cell (W := w) (g := g) (cs := [.string N, .int .i64 (256 * y0 + y1), .int .i64 (256 * y2 + y3), .int .i64 y4, .int .i64 (256 * y5 + y6)]) 1 _ rfl
    have q2 := hold_cell (W := w) (g := g) (cs := [.string N, .int .i64 (256 * y0 + y1), .int .i64 (256 * y2 + y3), .int .i64 y4, .int .i64 (256 * y5 + y6)]) 2 _ rfl
    have q3 := hold_cell (W := w) (g := g) (cs := [.string N, .int .i64 (256 * y0 + y1), .int .i64 (256 * y2 + y3), .int .i64 y4, .int .i64 (256 * y5 + y6)]) 3 _ rfl
    have q4 := hold_cell (W := w) (g := g) (cs := [.string N, .int .i64 (256 * y0 + y1), .int .i64 (256 * y2 + y3), .int .i64 y4, .int .i64 (256 * y5 + y6)]) 4 _ rfl
    clear S0 A1 A0 b1 b0
    generalize wc.drew = V2 at *
    iterate 1 (refine line_read rfl (by kernel_rfl) (fun K hK => ?_); go_big_quiet_op; refine hK _ ?_; clear hK K)
    clear q0 q1 q2 q3 q4
    refine line_alone rfl (by kernel_rfl) (fun K hK => ?_)
    refine call_any (args := #[.pointer (some ⟨g, 0, none⟩)]) rfl (by kernel_rfl) (by kernel_rfl) (hF _ _ hst.at') ?_
    rintro e x9 ⟨rfl, hbn⟩
    have hst2 := hst.on hbn
    have AA2 := AA.on hbn
    refine ⟨_, rfl, hK _ _ hst2 ?_⟩
    clear hK K hst hbn AA
    have hst := hst2
    clear hst2
    simp only [Act.put, List.setIfInBounds_toArray, List.set_cons_zero, List.set_cons_succ]
    iterate 1 (refine line_read rfl (by kernel_rfl) (fun K hK => ?_); go_big_quiet_op; refine hK _ ?_; clear hK K)
    have p0 := AA2.cell 0 _ rfl
    have p1 := AA2.cell 1 _ rfl
    have p2 := AA2.cell 2 _ rfl
    have p3 := AA2.cell 3 _ rfl
    have p4 := AA2.cell 4 _ rfl
    have z0 := AA2.free 0 _ rfl
    have z1 := AA2.free 1 _ rfl
    have z2 := AA2.free 2 _ rfl
    have z3 := AA2.free 3 _ rfl
    have z4 := AA2.free 4 _ rfl
    refine line_alone rfl (by kernel_rfl) (fun K hK => ?_)
    go_big_op
    refine hK _ _ ((by (iterate 5 (refine Hold.setB ?_ (by dsimp only; omega) (by dsimp only; omega) _)); exact hst)) ?_
    clear hK K
    iterate 1 (refine line_read rfl (by kernel_rfl) (fun K hK => ?_); go_big_quiet_op; refine hK _ ?_; clear hK K)
    refine line_nil ?_
    have HB := Lib.hid hst.bel
    clear hst inst AA2
    go_wp2_with fail
    refine bodyPost_ret (v := .tuple #[P5 ⟨N, 256 * y0 + y1, 256 * y2 + y3, y4, 256 * y5 + y6⟩, .bool (cd == 0)]) (by simp [results, Tryd.results63, go_sem, p0, p1, p2, p3, p4]) rfl (HP.out _ ?_)
    exact (by (iterate 5 (refine bset ?_ (by dsimp only; omega) _)); exact HB.out)
theorem specReadPin_any (a : Option Addr) (len cap B : Nat) (zs : List Int) (w : World) (hR : Row .u8 w B a len cap zs) (hB : B ≤ w.heap.size) :
    Calls Tryd.prog 35 #[.slice a len cap] w fun r w' => r = .returned (R6 (readC zs) (readR zs)) ∧ Below w.heap.size w w' := by
  have b0 := bal (Below.refl _ w) (.cells #[.int .i64 0, .string { data := #[] }, .int .i64 0, .int .i64 0, .int .i64 0, .int .i64 0] 37)
  have A0 := At.new w [.int .i64 0, .string { data := #[] }, .int .i64 0, .int .i64 0, .int .i64 0, .int .i64 0] 37
  have F := l7Read_any a len cap B zs _ (hR.below (b0.mono hB)) (Nat.le_trans hB b0.size)
  clear hR
  cases hk : pinOk zs
  · rw [show readC zs = 5 by simp [readC, hk], show readR zs = pin0 by simp [readR, hk]]
    go_enter Tryd.func35, Tryd.ntmps35
    go_wp2_with fail
    generalize w.alloc (.cells #[.int .i64 0, .string { data := #[] }, .int .i64 0, .int .i64 0, .int .i64 0, .int .i64 0] 37) = W0 at *
    refine F.mono ?_
    rintro r u1 ⟨p, rfl, -, b1⟩
    rw [hk]
    have q0 := (A0.on b1).cell 0 _ rfl
    have q1 := (A0.on b1).cell 1 _ rfl
    have q2 := (A0.on b1).cell 2 _ rfl
    have q3 := (A0.on b1).cell 3 _ rfl
    have q4 := (A0.on b1).cell 4 _ rfl
    have q5 := (A0.on b1).cell 5 _ rfl
    have z0 := (A0.on b1).free 0 _ rfl
    have z1 := (A0.on b1).free 1 _ rfl
    have z2 := (A0.on b1).free 2 _ rfl
    have z3 := (A0.on b1).free 3 _ rfl
    have z4 := (A0.on b1).free 4 _ rfl
    have z5 := (A0.on b1).free 5 _ rfl
    have lt1 := (A0.on b1).lt (by simp)
    have B1 := btr b0 b1
    clear A0 b0 b1 F
    go_wp2_with fail
    refine bodyPost_ret (v := R6 5 ⟨{ data := #[] }, 0, 0, 0, 0⟩) (by simp [results, Tryd.results35, go_sem, q0, q1, q2, q3, q4, q5, lt1]) rfl ⟨rfl, ?_⟩
    exact bal (by (iterate 6 (refine bset ?_ (by dsimp only; omega) _)); exact B1) _
  · rw [show readC zs = 0 by simp [readC, hk], show readR zs = pinZ zs by simp [readR, hk]]
    generalize eZ : pinZ zs = Z at *
    have EZ := Lib.hid eZ
    clear eZ
    go_enter Tryd.func35, Tryd.ntmps35
    go_wp2_with fail
    generalize w.alloc (.cells #[.int .i64 0, .string { data := #[] }, .int .i64 0, .int .i64 0, .int .i64 0, .int .i64 0] 37) = W0 at *
    refine F.mono ?_
    rintro r u1 ⟨p, rfl, hp, b1⟩
    obtain rfl : p = Z := (hp hk).trans EZ.out
    rw [hk]
    have q0 := (A0.on b1).cell 0 _ rfl
    have q1 := (A0.on b1).cell 1 _ rfl
    have q2 := (A0.on b1).cell 2 _ rfl
    have q3 := (A0.on b1).cell 3 _ rfl
    have q4 := (A0.on b1).cell 4 _ rfl
    have q5 := (A0.on b1).cell 5 _ rfl
    have z0 := (A0.on b1).free 0 _ rfl
    have z1 := (A0.on b1).free 1 _ rfl
    have z2 := (A0.on b1).free 2 _ rfl
    have z3 := (A0.on b1).free 3 _ rfl
    have z4 := (A0.on b1).free 4 _ rfl
    have z5 := (A0.on b1).free 5 _ rfl
    have lt1 := (A0.on b1).lt (by simp)
    have B1 := btr b0 b1
    clear A0 b0 b1 F hp
    go_wp2_with fail
    refine bodyPost_ret (v := R6 0 p) (by simp [results, Tryd.results35, go_sem, q0, q1, q2, q3, q4, q5, lt1]) rfl ⟨rfl, ?_⟩
    exact bal (by (iterate 6 (refine bset ?_ (by dsimp only; omega) _)); exact B1) _
end Go.Proofs.YtcnpocppgghejaaDoor
