/- Texts of this seat that several laws rest on, laid into one. Conditions: as each theorem states. -/
import Derived.Test.YtcolecidbalmhaaGreatDoorS3
import Derived.Test.YtcolecidbalmhaaGreatDoorS5
import Derived.Test.YtcolecidbalmhaaGreatDoorS6
import Derived.Test.YtcolecidbalmhaaGreatDoorS7
import Derived.Laws.StructEq
namespace Go.Proofs.YtcolecidbalmhaaGreatDoor
open Go.RowKit
set_option maxRecDepth 100000
set_option linter.unusedVariables false

/-- The name that stands in bytes; the pin. -/
def pinNm (zs : List Int) : List UInt8 := (zs.drop 7).map fun z => UInt8.ofNat z.toNat
theorem pinNm_str (zs : List Int) : strOf (zs.drop 7) = M.bs (pinNm zs) := by
  rw [← M.bs_data (strOf _), strOf, strOf_data]
  simp [pinNm]
def pinZ (zs : List Int) : PinD := ⟨M.bs (pinNm zs), 256 * zs.getD 0 0 + zs.getD 1 0, 256 * zs.getD 2 0 + zs.getD 3 0, zs.getD 4 0, 256 * zs.getD 5 0 + zs.getD 6 0⟩
def pinOk (zs : List Int) : Bool := decide (7 ≤ zs.length) && decide ((pinZ zs).f = 0)
def readC (zs : List Int) : Int := if pinOk zs then 0 else 5
def readR (zs : List Int) : PinD := if pinOk zs then pinZ zs else pin0
theorem pinOk_short {zs : List Int} (h : zs.length < 8) : pinOk zs = false := by
  unfold pinOk
  by_cases h7 : 7 ≤ zs.length
  · have e : (pinZ zs).nm = [] := by
      show (M.bs (pinNm zs)).data.toList = []
      rw [M.bs_list]
      unfold pinNm
      rw [List.drop_of_length_le (by omega)]
      rfl
    have : (pinZ zs).f = 5 := by
      unfold PinD.f
      rw [e]
      have h5 : M.nameF [] = 5 := by decide
      have h6 : M.normF [] = 5 := by rw [M.normF_no (by rw [h5]; omega), h5]
      rw [pinF_norm (by rw [h6]; omega), h6]
    rw [this]
    simp
  · simp [h7]
theorem pinZ_size (zs : List Int) (h : zs.length ≤ maxLen) : (pinZ zs).n.size ≤ maxLen := by
  show (M.bs (pinNm zs)).size ≤ maxLen
  rw [M.bs_size]
  simp only [pinNm, List.length_map, List.length_drop]
  omega
/-- A pin lies in a block of its own. -/
def PinAt (V : World) (p : PinD) (v : Value) (wx : World) : Prop := ∃ g, v = .pointer (some ⟨g, 0, none⟩) ∧ At g p.vals wx ∧ Below V.heap.size V wx ∧ V.heap.size ≤ g

theorem implReadPin_any (a : Option Addr) (len cap B : Nat) (zs : List Int) (w : World) (hR : Row .u8 w B a len cap zs) (hB : B ≤ w.heap.size) :
    Calls Tryz.prog 159 #[.slice a len cap] w fun r w' => r = .returned (RP6 (readC zs) (readR zs)) ∧ Below w.heap.size w w' := by
  have hlen := hR.fits
  have hmost := hR.most
  have b0 := bal (Below.refl _ w) (.cells #[.int .i64 0, .string { data := #[] }, .int .i64 0, .int .i64 0, .int .i64 0, .int .i64 0] 48)
  have A0 := At.new w [.int .i64 0, .string { data := #[] }, .int .i64 0, .int .i64 0, .int .i64 0, .int .i64 0] 48
  have hzl := hR.length
  by_cases h7 : len < 7
  · have eno : pinOk zs = false := pinOk_short (by omega)
    rw [show readC zs = 5 by simp [readC, eno], show readR zs = pin0 by simp [readR, eno]]
    have h7' : (len : Int) < 7 := by omega
    have b5 := bal (Below.refl _ w) (.cells #[.int .i64 5, .string { data := #[] }, .int .i64 0, .int .i64 0, .int .i64 0, .int .i64 0] 48)
    unfold maxLen at hmost
    clear hR
    go_enter Tryz.func159, Tryz.ntmps159
    go_wp2_with fail
    exact bodyPost_ret (v := RP6 5 ⟨{ data := #[] }, 0, 0, 0, 0⟩) (by simp [results, Tryz.results159, go_sem]) rfl ⟨rfl, b5⟩
  obtain ⟨b, off, rfl, hb, hc⟩ := hR.cells (by omega)
  have z0 := hR.byte 0
  have z1 := hR.byte 1
  have z2 := hR.byte 2
  have z3 := hR.byte 3
  have z4 := hR.byte 4
  have z5 := hR.byte 5
  have z6 := hR.byte 6
  have d0 := cell_keep b0 (hc 0 (by omega))
  rw [Nat.add_zero] at d0
  have d1 := cell_keep b0 (hc 1 (by omega))
  have d2 := cell_keep b0 (hc 2 (by omega))
  have d3 := cell_keep b0 (hc 3 (by omega))
  have d4 := cell_keep b0 (hc 4 (by omega))
  have d5 := cell_keep b0 (hc 5 (by omega))
  have d6 := cell_keep b0 (hc 6 (by omega))
  have R1 := hR.below (b0.mono hB)
  have hWB : B ≤ (w.alloc (.cells #[.int .i64 0, .string { data := #[] }, .int .i64 0, .int .i64 0, .int .i64 0, .int .i64 0] 48)).heap.size := by simp; omega
  have hsub := fun (w' : World) (R : Row .u8 w' B (some ⟨b, off, none⟩) len cap zs) => conv_row (R.sub 7 (len - 7) (cap - 7) (by omega) (by omega) (by omega))
  have edrop : (zs.drop 7).take (len - 7) = zs.drop 7 := List.take_of_length_le (by simp; omega)
  simp only [edrop, pinNm_str] at hsub
  have T0 := fun (w' : World) d0 d1 => readTwo_any b off len cap (zs.getD 0 0) (zs.getD 1 0) w' (by omega) (by omega) (by omega) d0 d1 z0.1 z0.2 z1.1 z1.2
  have T1 := fun (w' : World) d2 d3 => readTwo_any b (off + 2) (len - 2) (cap - 2) (zs.getD 2 0) (zs.getD 3 0) w' (by omega) (by omega) (by omega) d2 d3 z2.1 z2.2 z3.1 z3.2
  have T2 := fun (w' : World) d5 d6 => readTwo_any b (off + 5) (len - 5) (cap - 5) (zs.getD 5 0) (zs.getD 6 0) w' (by omega) (by omega) (by omega) d5 d6 z5.1 z5.2 z6.1 z6.2
  have hF := fun w => implPinFault_any (pinZ zs) w (pinZ_size zs (by rw [hzl]; omega))
  have hm2 := hmost
  unfold maxLen at hm2
  have h7' : ¬ (len : Int) < 7 := by omega
  have hC : readC zs = if (pinZ zs).f = 0 then 0 else 5 := by
    by_cases h : (pinZ zs).f = 0
    · simp [readC, pinOk, h, hzl]; omega
    · simp [readC, pinOk, h]
  have hP : readR zs = if (pinZ zs).f = 0 then pinZ zs else pin0 := by
    by_cases h : (pinZ zs).f = 0
    · simp [readR, pinOk, h, hzl]; omega
    · simp [readR, pinOk, h]
  rw [hC, hP]
  have eZ : pinZ zs = ⟨M.bs (pinNm zs), 256 * zs.getD 0 0 + zs.getD 1 0, 256 * zs.getD 2 0 + zs.getD 3 0, zs.getD 4 0, 256 * zs.getD 5 0 + zs.getD 6 0⟩ := rfl
  generalize pinZ zs = Z at *
  generalize M.bs (pinNm zs) = N at *
  generalize zs.getD 0 0 = y0 at *
  generalize zs.getD 1 0 = y1 at *
  generalize zs.getD 2 0 = y2 at *
  generalize zs.getD 3 0 = y3 at *
  generalize zs.getD 4 0 = y4 at *
  generalize zs.getD 5 0 = y5 at *
  generalize zs.getD 6 0 = y6 at *
  clear hR hc hC hP edrop hmost
  have EZ := Lib.hid eZ
  clear eZ
  go_enter Tryz.func159, Tryz.ntmps159
  go_upto_region 3 with fail
  generalize w.alloc (.cells #[.int .i64 0, .string { data := #[] }, .int .i64 0, .int .i64 0, .int .i64 0, .int .i64 0] 48) = W0 at *
  go_cut [3] from 8 to 23 (fun v' wx => ∃ g, v' = .pointer (some ⟨g, 0, none⟩) ∧ At g [.string N, .int .i64 (256 * y0 + y1), .int .i64 (256 * y2 + y3), .int .i64 y4, .int .i64 (256 * y5 + y6)] wx ∧ Below W0.heap.size W0 wx ∧ W0.heap.size ≤ g)
  case first =>
    refine wp_region_fork (Bel W0) (by kernel_rfl) (Bel.drew W0) ?_
    have hst : (Bel W0) _ := (Bel.drew W0)
    have inst : Nonempty (Of (Bel W0)) := ⟨⟨_, hst⟩⟩
    have u4 := bel_cell d4
    have cv : ∀ z : Of (Bel W0), (convert 22 9 (.slice (if cap = 7 then some ⟨b, off, none⟩ else some ⟨b, off + 7, none⟩) (len - 7) (cap - 7))).run Tryz.prog z.val = .ok (.string N) z.val := fun z => by
      have h := hsub _ (R1.below (z.prop.out.mono hWB))
      split
      · rename_i hcap
        have e := conv_none (some ⟨b, off, none⟩) (some ⟨b, off + 7, none⟩) (cap - 7) (cap - 7) z.val (by simp only [maxLen]; omega) (by simp only [maxLen]; omega)
        rw [show len - 7 = 0 by omega] at h ⊢
        rw [e]
        exact h
      · exact h
    generalize W0.drew = V1 at *
    refine any_seg 6 [(0, true), (1, true), (2, true), (3, true), (5, true), (6, true), (8, true), (9, true), (10, true), (11, true), (12, true), (13, true)] (by kernel_rfl) (fun _ _ d _ _ h => by cases d <;> exact h) ?_
    iterate 12 (refine line_read rfl (by kernel_rfl) (fun K hK => ?_); go_big_quiet_op; refine hK _ ?_; clear hK K)
    refine line_nil ?_
    clear cv u4
    generalize (if cap = 7 then some (⟨b, off, none⟩ : Addr) else some ⟨b, off + 7, none⟩) = ad
    have szV1 := hst.out.size
    refine any_fork 4 16 (by kernel_rfl) rfl rfl (by kernel_rfl) (by kernel_rfl) (fun K hK => ?_) (fun K hK => ?_)
    · refine call_any (args := #[.slice (some ⟨b, off, none⟩) len cap]) rfl (by kernel_rfl) (by kernel_rfl) (T0 _ (cell_keep hst.out d0) (cell_keep hst.out d1)) ?_
      rintro e x1 ⟨rfl, hbn⟩
      have hst2 := hst.on hbn
      refine ⟨_, rfl, hK _ _ hst2 ?_⟩
      clear hK K hst hbn
      have hst := hst2
      clear hst2
      simp only [Act.put, List.setIfInBounds_toArray, List.set_cons_zero, List.set_cons_succ]
      refine any_fork 7 16 (by kernel_rfl) rfl rfl (by kernel_rfl) (by kernel_rfl) (fun K hK => ?_) (fun K hK => ?_)
      · refine call_any (args := #[.slice (some ⟨b, off + 2, none⟩) (len - 2) (cap - 2)]) rfl (by kernel_rfl) (by kernel_rfl) (T1 _ (cell_keep hst.out d2) (cell_keep hst.out d3)) ?_
        rintro e x2 ⟨rfl, hbn⟩
        have hst2 := hst.on hbn
        refine ⟨_, rfl, hK _ _ hst2 ?_⟩
        clear hK K hst hbn
        have hst := hst2
        clear hst2
        simp only [Act.put, List.setIfInBounds_toArray, List.set_cons_zero, List.set_cons_succ]
        refine any_fork 14 16 (by kernel_rfl) rfl rfl (by kernel_rfl) (by kernel_rfl) (fun K hK => ?_) (fun K hK => ?_)
        · refine call_any (args := #[.slice (some ⟨b, off + 5, none⟩) (len - 5) (cap - 5)]) rfl (by kernel_rfl) (by kernel_rfl) (T2 _ (cell_keep hst.out d5) (cell_keep hst.out d6)) ?_
          rintro e x3 ⟨rfl, hbn⟩
          have hst2 := hst.on hbn
          refine ⟨_, rfl, hK _ _ hst2 ?_⟩
          clear hK K hst hbn
          have hst := hst2
          clear hst2
          simp only [Act.put, List.setIfInBounds_toArray, List.set_cons_zero, List.set_cons_succ]
          refine any_rest [(15, true), (16, false), (17, false)] (by kernel_rfl) (fun _ _ d _ _ h => by cases d <;> exact h) ?_
          refine line_readv (v := .agg #[.string N, .int .i64 (256 * y0 + y1), .int .i64 (256 * y2 + y3), .int .i64 y4, .int .i64 (256 * y5 + y6)]) rfl (by kernel_rfl) (fun _ => by kernel_rfl) ?_
          simp only [Act.put, List.setIfInBounds_toArray, List.set_cons_zero, List.set_cons_succ]
          refine line_alone rfl (by kernel_rfl) (fun K hK => ?_)
          go_big_op
          have hst2 := hst.on (bal (Below.refl _ x3) (.cells #[.string { data := #[] }, .int .i64 0, .int .i64 0, .int .i64 0, .int .i64 0] 31))
          have A := At.new x3 [.string { data := #[] }, .int .i64 0, .int .i64 0, .int .i64 0, .int .i64 0] 31
          have leA : W0.heap.size ≤ x3.heap.size := hst.out.size
          refine hK _ _ hst2 ?_
          clear hK K hst
          have hst := hst2
          clear hst2
          generalize x3.alloc (.cells #[.string { data := #[] }, .int .i64 0, .int .i64 0, .int .i64 0, .int .i64 0] 31) = xa at *
          have p0 := A.cell 0 _ rfl
          have p1 := A.cell 1 _ rfl
          have p2 := A.cell 2 _ rfl
          have p3 := A.cell 3 _ rfl
          have p4 := A.cell 4 _ rfl
          have f0 := A.free 0 _ rfl
          have f1 := A.free 1 _ rfl
          have f2 := A.free 2 _ rfl
          have f3 := A.free 3 _ rfl
          have f4 := A.free 4 _ rfl
          refine line_alone rfl (by kernel_rfl) (fun K hK => ?_)
          go_big_op
          refine hK _ _ (⟨(by (iterate 5 (refine bset ?_ (by dsimp only; omega) _)); exact hst.out)⟩) ?_
          clear hK K
          have A9 := (((((A.set 0 (.string N)).set 1 (.int .i64 (256 * y0 + y1))).set 2 (.int .i64 (256 * y2 + y3))).set 3 (.int .i64 y4)).set 4 (.int .i64 (256 * y5 + y6)))
          refine line_nil ?_
          go_wp2_with fail
          go_meet
          case rel => exact ⟨_, rfl, A9, (by (iterate 5 (refine bset ?_ (by dsimp only; omega) _)); exact hst.out), leA⟩
        · go_big_op
          have hst2 := hst.on (bal (Below.refl _ x2) (.cells #[.string { data := #[] }, .int .i64 0, .int .i64 0, .int .i64 0, .int .i64 0] 31))
          have A := At.new x2 [.string { data := #[] }, .int .i64 0, .int .i64 0, .int .i64 0, .int .i64 0] 31
          have leA : W0.heap.size ≤ x2.heap.size := hst.out.size
          refine hK _ _ hst2 ?_
          clear hK K hst
          have hst := hst2
          clear hst2
          generalize x2.alloc (.cells #[.string { data := #[] }, .int .i64 0, .int .i64 0, .int .i64 0, .int .i64 0] 31) = xa at *
          refine any_rest [(14, false), (15, true), (17, false)] (by kernel_rfl) (fun _ _ d _ _ h => by cases d <;> exact h) ?_
          refine line_alone rfl (by kernel_rfl) (fun K hK => ?_)
          refine call_any (args := #[.slice (some ⟨b, off + 5, none⟩) (len - 5) (cap - 5)]) rfl (by kernel_rfl) (by kernel_rfl) (T2 _ (cell_keep hst.out d5) (cell_keep hst.out d6)) ?_
          rintro e x4 ⟨rfl, hbn⟩
          have hst2 := hst.on hbn
          have A2 := A.on hbn
          clear A
          have A := A2
          clear A2
          refine ⟨_, rfl, hK _ _ hst2 ?_⟩
          clear hK K hst hbn
          have hst := hst2
          clear hst2
          simp only [Act.put, List.setIfInBounds_toArray, List.set_cons_zero, List.set_cons_succ]
          refine line_readv (v := .agg #[.string N, .int .i64 (256 * y0 + y1), .int .i64 (256 * y2 + y3), .int .i64 y4, .int .i64 (256 * y5 + y6)]) rfl (by kernel_rfl) (fun _ => by kernel_rfl) ?_
          simp only [Act.put, List.setIfInBounds_toArray, List.set_cons_zero, List.set_cons_succ]
          have p0 := A.cell 0 _ rfl
          have p1 := A.cell 1 _ rfl
          have p2 := A.cell 2 _ rfl
          have p3 := A.cell 3 _ rfl
          have p4 := A.cell 4 _ rfl
          have f0 := A.free 0 _ rfl
          have f1 := A.free 1 _ rfl
          have f2 := A.free 2 _ rfl
          have f3 := A.free 3 _ rfl
          have f4 := A.free 4 _ rfl
          refine line_alone rfl (by kernel_rfl) (fun K hK => ?_)
          go_big_op
          refine hK _ _ (⟨(by (iterate 5 (refine bset ?_ (by dsimp only; omega) _)); exact hst.out)⟩) ?_
          clear hK K
          have A9 := (((((A.set 0 (.string N)).set 1 (.int .i64 (256 * y0 + y1))).set 2 (.int .i64 (256 * y2 + y3))).set 3 (.int .i64 y4)).set 4 (.int .i64 (256 * y5 + y6)))
          refine line_nil ?_
          go_wp2_with fail
          go_meet
          case rel => exact ⟨_, rfl, A9, (by (iterate 5 (refine bset ?_ (by dsimp only; omega) _)); exact hst.out), leA⟩
      · go_big_op
        have hst2 := hst.on (bal (Below.refl _ x1) (.cells #[.string { data := #[] }, .int .i64 0, .int .i64 0, .int .i64 0, .int .i64 0] 31))
        have A := At.new x1 [.string { data := #[] }, .int .i64 0, .int .i64 0, .int .i64 0, .int .i64 0] 31
        have leA : W0.heap.size ≤ x1.heap.size := hst.out.size
        refine hK _ _ hst2 ?_
        clear hK K hst
        have hst := hst2
        clear hst2
        generalize x1.alloc (.cells #[.string { data := #[] }, .int .i64 0, .int .i64 0, .int .i64 0, .int .i64 0] 31) = xa at *
        refine any_rest [(7, false), (14, false), (15, true), (17, false)] (by kernel_rfl) (fun _ _ d _ _ h => by cases d <;> exact h) ?_
        refine line_alone rfl (by kernel_rfl) (fun K hK => ?_)
        refine call_any (args := #[.slice (some ⟨b, off + 2, none⟩) (len - 2) (cap - 2)]) rfl (by kernel_rfl) (by kernel_rfl) (T1 _ (cell_keep hst.out d2) (cell_keep hst.out d3)) ?_
        rintro e x5 ⟨rfl, hbn⟩
        have hst2 := hst.on hbn
        have A2 := A.on hbn
        clear A
        have A := A2
        clear A2
        refine ⟨_, rfl, hK _ _ hst2 ?_⟩
        clear hK K hst hbn
        have hst := hst2
        clear hst2
        simp only [Act.put, List.setIfInBounds_toArray, List.set_cons_zero, List.set_cons_succ]
        refine line_alone rfl (by kernel_rfl) (fun K hK => ?_)
        refine call_any (args := #[.slice (some ⟨b, off + 5, none⟩) (len - 5) (cap - 5)]) rfl (by kernel_rfl) (by kernel_rfl) (T2 _ (cell_keep hst.out d5) (cell_keep hst.out d6)) ?_
        rintro e x6 ⟨rfl, hbn⟩
        have hst2 := hst.on hbn
        have A2 := A.on hbn
        clear A
        have A := A2
        clear A2
        refine ⟨_, rfl, hK _ _ hst2 ?_⟩
        clear hK K hst hbn
        have hst := hst2
        clear hst2
        simp only [Act.put, List.setIfInBounds_toArray, List.set_cons_zero, List.set_cons_succ]
        refine line_readv (v := .agg #[.string N, .int .i64 (256 * y0 + y1), .int .i64 (256 * y2 + y3), .int .i64 y4, .int .i64 (256 * y5 + y6)]) rfl (by kernel_rfl) (fun _ => by kernel_rfl) ?_
        simp only [Act.put, List.setIfInBounds_toArray, List.set_cons_zero, List.set_cons_succ]
        have p0 := A.cell 0 _ rfl
        have p1 := A.cell 1 _ rfl
        have p2 := A.cell 2 _ rfl
        have p3 := A.cell 3 _ rfl
        have p4 := A.cell 4 _ rfl
        have f0 := A.free 0 _ rfl
        have f1 := A.free 1 _ rfl
        have f2 := A.free 2 _ rfl
        have f3 := A.free 3 _ rfl
        have f4 := A.free 4 _ rfl
        refine line_alone rfl (by kernel_rfl) (fun K hK => ?_)
        go_big_op
        refine hK _ _ (⟨(by (iterate 5 (refine bset ?_ (by dsimp only; omega) _)); exact hst.out)⟩) ?_
        clear hK K
        have A9 := (((((A.set 0 (.string N)).set 1 (.int .i64 (256 * y0 + y1))).set 2 (.int .i64 (256 * y2 + y3))).set 3 (.int .i64 y4)).set 4 (.int .i64 (256 * y5 + y6)))
        refine line_nil ?_
        go_wp2_with fail
        go_meet
        case rel => exact ⟨_, rfl, A9, (by (iterate 5 (refine bset ?_ (by dsimp only; omega) _)); exact hst.out), leA⟩
    · go_big_op
      have hst2 := hst.on (bal (Below.refl _ V1) (.cells #[.string { data := #[] }, .int .i64 0, .int .i64 0, .int .i64 0, .int .i64 0] 31))
      have A := At.new V1 [.string { data := #[] }, .int .i64 0, .int .i64 0, .int .i64 0, .int .i64 0] 31
      have leA : W0.heap.size ≤ V1.heap.size := hst.out.size
      refine hK _ _ hst2 ?_
      clear hK K hst
      have hst := hst2
      clear hst2
      generalize V1.alloc (.cells #[.string { data := #[] }, .int .i64 0, .int .i64 0, .int .i64 0, .int .i64 0] 31) = xa at *
      refine any_rest [(4, false), (7, false), (14, false), (15, true), (17, false)] (by kernel_rfl) (fun _ _ d _ _ h => by cases d <;> exact h) ?_
      refine line_alone rfl (by kernel_rfl) (fun K hK => ?_)
      refine call_any (args := #[.slice (some ⟨b, off, none⟩) len cap]) rfl (by kernel_rfl) (by kernel_rfl) (T0 _ (cell_keep hst.out d0) (cell_keep hst.out d1)) ?_
      rintro e x7 ⟨rfl, hbn⟩
      have hst2 := hst.on hbn
      have A2 := A.on hbn
      clear A
      have A := A2
      clear A2
      refine ⟨_, rfl, hK _ _ hst2 ?_⟩
      clear hK K hst hbn
      have hst := hst2
      clear hst2
      simp only [Act.put, List.setIfInBounds_toArray, List.set_cons_zero, List.set_cons_succ]
      refine line_alone rfl (by kernel_rfl) (fun K hK => ?_)
      refine call_any (args := #[.slice (some ⟨b, off + 2, none⟩) (len - 2) (cap - 2)]) rfl (by kernel_rfl) (by kernel_rfl) (T1 _ (cell_keep hst.out d2) (cell_keep hst.out d3)) ?_
      rintro e x8 ⟨rfl, hbn⟩
      have hst2 := hst.on hbn
      have A2 := A.on hbn
      clear A
      have A := A2
      clear A2
      refine ⟨_, rfl, hK _ _ hst2 ?_⟩
      clear hK K hst hbn
      have hst := hst2
      clear hst2
      simp only [Act.put, List.setIfInBounds_toArray, List.set_cons_zero, List.set_cons_succ]
      refine line_alone rfl (by kernel_rfl) (fun K hK => ?_)
      refine call_any (args := #[.slice (some ⟨b, off + 5, none⟩) (len - 5) (cap - 5)]) rfl (by kernel_rfl) (by kernel_rfl) (T2 _ (cell_keep hst.out d5) (cell_keep hst.out d6)) ?_
      rintro e x9 ⟨rfl, hbn⟩
      have hst2 := hst.on hbn
      have A2 := A.on hbn
      clear A
      have A := A2
      clear A2
      refine ⟨_, rfl, hK _ _ hst2 ?_⟩
      clear hK K hst hbn
      have hst := hst2
      clear hst2
      simp only [Act.put, List.setIfInBounds_toArray, List.set_cons_zero, List.set_cons_succ]
      refine line_readv (v := .agg #[.string N, .int .i64 (256 * y0 + y1), .int .i64 (256 * y2 + y3), .int .i64 y4, .int .i64 (256 * y5 + y6)]) rfl (by kernel_rfl) (fun _ => by kernel_rfl) ?_
      simp only [Act.put, List.setIfInBounds_toArray, List.set_cons_zero, List.set_cons_succ]
      have p0 := A.cell 0 _ rfl
      have p1 := A.cell 1 _ rfl
      have p2 := A.cell 2 _ rfl
      have p3 := A.cell 3 _ rfl
      have p4 := A.cell 4 _ rfl
      have f0 := A.free 0 _ rfl
      have f1 := A.free 1 _ rfl
      have f2 := A.free 2 _ rfl
      have f3 := A.free 3 _ rfl
      have f4 := A.free 4 _ rfl
      refine line_alone rfl (by kernel_rfl) (fun K hK => ?_)
      go_big_op
      refine hK _ _ (⟨(by (iterate 5 (refine bset ?_ (by dsimp only; omega) _)); exact hst.out)⟩) ?_
      clear hK K
      have A9 := (((((A.set 0 (.string N)).set 1 (.int .i64 (256 * y0 + y1))).set 2 (.int .i64 (256 * y2 + y3))).set 3 (.int .i64 y4)).set 4 (.int .i64 (256 * y5 + y6)))
      refine line_nil ?_
      go_wp2_with fail
      go_meet
      case rel => exact ⟨_, rfl, A9, (by (iterate 5 (refine bset ?_ (by dsimp only; omega) _)); exact hst.out), leA⟩
  case rest =>
    obtain ⟨g, rfl, A1, b1, hg⟩ := hcut
    have x0 := A1.cell 0 _ rfl
    have x1 := A1.cell 1 _ rfl
    have x2 := A1.cell 2 _ rfl
    have x3 := A1.cell 3 _ rfl
    have x4 := A1.cell 4 _ rfl
    have ltA := A1.lt (by simp)
    have eZ := EZ.out
    by_cases hcd : Z.f = 0
    · rw [hcd] at hF
      have HW := Lib.hid hcd
      clear hcd
      subst eZ
      go_wp2_with fail
      refine (hF _).mono ?_
      rintro r w2 ⟨rfl, b2⟩
      have s0 := (A1.on b2).cell 0 _ rfl
      have s1 := (A1.on b2).cell 1 _ rfl
      have s2 := (A1.on b2).cell 2 _ rfl
      have s3 := (A1.on b2).cell 3 _ rfl
      have s4 := (A1.on b2).cell 4 _ rfl
      have bb := btr b1 b2
      have p0 := (A0.on bb).cell 0 _ rfl
      have p1 := (A0.on bb).cell 1 _ rfl
      have p2 := (A0.on bb).cell 2 _ rfl
      have p3 := (A0.on bb).cell 3 _ rfl
      have p4 := (A0.on bb).cell 4 _ rfl
      have p5 := (A0.on bb).cell 5 _ rfl
      have z0 := (A0.on bb).free 0 _ rfl
      have z1 := (A0.on bb).free 1 _ rfl
      have z2 := (A0.on bb).free 2 _ rfl
      have z3 := (A0.on bb).free 3 _ rfl
      have z4 := (A0.on bb).free 4 _ rfl
      have z5 := (A0.on bb).free 5 _ rfl
      have B3 := btr b0 bb
      clear A1 A0 b1 b2 bb x0 x1 x2 x3 x4 hF
      go_wp2_with fail
      refine bodyPost_ret (v := RP6 0 ⟨N, 256 * y0 + y1, 256 * y2 + y3, y4, 256 * y5 + y6⟩) (by simp [results, Tryz.results159, go_sem, p0, p1, p2, p3, p4, p5]) rfl ⟨by first | rfl | (rw [if_pos HW.out]; rfl), ?_⟩
      exact (by (iterate 6 (refine bset ?_ (by dsimp only; omega) _)); exact B3)
    · have HW := Lib.hid hcd
      have hcd2 := hcd
      generalize hZ : Z.f = cd at hF hcd2
      have q : (cd == 0) = false := by simpa using hcd2
      clear hcd
      subst eZ
      go_wp2_with fail
      refine (hF _).mono ?_
      rintro r w2 ⟨rfl, b2⟩
      have bb := btr b1 b2
      have p0 := (A0.on bb).cell 0 _ rfl
      have p1 := (A0.on bb).cell 1 _ rfl
      have p2 := (A0.on bb).cell 2 _ rfl
      have p3 := (A0.on bb).cell 3 _ rfl
      have p4 := (A0.on bb).cell 4 _ rfl
      have p5 := (A0.on bb).cell 5 _ rfl
      have z0 := (A0.on bb).free 0 _ rfl
      have z1 := (A0.on bb).free 1 _ rfl
      have z2 := (A0.on bb).free 2 _ rfl
      have z3 := (A0.on bb).free 3 _ rfl
      have z4 := (A0.on bb).free 4 _ rfl
      have z5 := (A0.on bb).free 5 _ rfl
      have B3 := btr b0 bb
      clear A1 A0 b1 b2 bb x0 x1 x2 x3 x4 hF
      go_wp2_with fail
      refine bodyPost_ret (v := RP6 5 ⟨{ data := #[] }, 0, 0, 0, 0⟩) (by simp [results, Tryz.results159, go_sem, p0, p1, p2, p3, p4, p5]) rfl ⟨by first | rfl | (rw [if_neg HW.out]; rfl), ?_⟩
      exact (by (iterate 6 (refine bset ?_ (by dsimp only; omega) _)); exact B3)

/-- What the model reads: the pin, and whether it is one. -/
def PinRead (zs : List Int) (w : World) (e : Ending) (w' : World) : Prop := ∃ p : PinD, e = .returned (.tuple #[P5 p, .bool (pinOk zs)]) ∧ (pinOk zs = true → p = pinZ zs) ∧ Below w.heap.size w w'
theorem l7Read_any (a : Option Addr) (len cap B : Nat) (zs : List Int) (w : World) (hR : Row .u8 w B a len cap zs) (hB : B ≤ w.heap.size) :
    Calls Tryz.prog 218 #[.slice a len cap] w (PinRead zs w) := by
  have hlen := hR.fits
  have hmost := hR.most
  have b0 := bal (Below.refl _ w) (.cells #[.string { data := #[] }, .int .i64 0, .int .i64 0, .int .i64 0, .int .i64 0] 31)
  have A0 := At.new w [.string { data := #[] }, .int .i64 0, .int .i64 0, .int .i64 0, .int .i64 0] 31
  have hzl := hR.length
  by_cases h7 : len < 8
  · have eno : pinOk zs = false := pinOk_short (by omega)
    have F : PinRead zs w (.returned (.tuple #[P5 pin0, .bool false])) (w.alloc (.cells #[.string { data := #[] }, .int .i64 0, .int .i64 0, .int .i64 0, .int .i64 0] 31)) := ⟨pin0, by rw [eno], (fun h => by rw [eno] at h; cases h), b0⟩
    have h7' : (len : Int) < 8 := by omega
    unfold maxLen at hmost
    clear hR
    go_enter Tryz.func218, Tryz.ntmps218
    go_wp2_with fail
    exact bodyPost_ret (v := .tuple #[P5 ⟨{ data := #[] }, 0, 0, 0, 0⟩, .bool false]) (by simp [results, Tryz.results218, go_sem]) rfl F
  obtain ⟨b, off, rfl, hb, hc⟩ := hR.cells (by omega)
  have z0 := hR.byte 0
  have z1 := hR.byte 1
  have z2 := hR.byte 2
  have z3 := hR.byte 3
  have z4 := hR.byte 4
  have z5 := hR.byte 5
  have z6 := hR.byte 6
  have d0 := cell_keep b0 (hc 0 (by omega))
  have d1 := cell_keep b0 (hc 1 (by omega))
  have d2 := cell_keep b0 (hc 2 (by omega))
  have d3 := cell_keep b0 (hc 3 (by omega))
  have d4 := cell_keep b0 (hc 4 (by omega))
  have d5 := cell_keep b0 (hc 5 (by omega))
  have d6 := cell_keep b0 (hc 6 (by omega))
  have R1 := hR.below (b0.mono hB)
  have hWB : B ≤ (w.alloc (.cells #[.string { data := #[] }, .int .i64 0, .int .i64 0, .int .i64 0, .int .i64 0] 31)).heap.size := by simp; omega
  have hsub := fun (w' : World) (R : Row .u8 w' B (some ⟨b, off, none⟩) len cap zs) => conv_row (R.sub 7 (len - 7) (cap - 7) (by omega) (by omega) (by omega))
  have edrop : (zs.drop 7).take (len - 7) = zs.drop 7 := List.take_of_length_le (by simp; omega)
  simp only [edrop, pinNm_str] at hsub
  have T0 := fun (w' : World) d0 d1 => l1At_any b off len cap 0 (zs.getD 0 0) (zs.getD 1 0) w' (by omega) (by omega) hlen hmost d0 d1 z0.1 z0.2 z1.1 z1.2
  have T1 := fun (w' : World) d2 d3 => l1At_any b off len cap 2 (zs.getD 2 0) (zs.getD 3 0) w' (by omega) (by omega) hlen hmost d2 d3 z2.1 z2.2 z3.1 z3.2
  have T2 := fun (w' : World) d5 d6 => l1At_any b off len cap 5 (zs.getD 5 0) (zs.getD 6 0) w' (by omega) (by omega) hlen hmost d5 d6 z5.1 z5.2 z6.1 z6.2
  have hF := fun g w A => l7Fault_any g (pinZ zs) w A (pinZ_size zs (by rw [hzl]; omega))
  have hm2 := hmost
  unfold maxLen at hm2
  have h7' : ¬ (len : Int) < 8 := by omega
  have hOk : pinOk zs = ((pinZ zs).f == 0) := by
    unfold pinOk
    rw [decide_eq_true (show 7 ≤ zs.length by omega), Bool.true_and]
    by_cases h : (pinZ zs).f = 0 <;> simp [h]
  have HP := Lib.hid (fun (w' : World) (hb : Below w.heap.size w w') => show PinRead zs w (.returned (.tuple #[P5 (pinZ zs), .bool ((pinZ zs).f == 0)])) w' from ⟨pinZ zs, by rw [hOk], fun _ => rfl, hb⟩)
  have eZ : pinZ zs = ⟨M.bs (pinNm zs), 256 * zs.getD 0 0 + zs.getD 1 0, 256 * zs.getD 2 0 + zs.getD 3 0, zs.getD 4 0, 256 * zs.getD 5 0 + zs.getD 6 0⟩ := rfl
  clear hOk
  generalize HQ : PinRead zs w = Q at *
  clear HQ
  generalize pinZ zs = Z at *
  generalize M.bs (pinNm zs) = N at *
  generalize zs.getD 0 0 = y0 at *
  generalize zs.getD 1 0 = y1 at *
  generalize zs.getD 2 0 = y2 at *
  generalize zs.getD 3 0 = y3 at *
  generalize zs.getD 4 0 = y4 at *
  generalize zs.getD 5 0 = y5 at *
  generalize zs.getD 6 0 = y6 at *
  clear hR hc edrop hmost
  have EZ := Lib.hid eZ
  clear eZ
  go_enter Tryz.func218, Tryz.ntmps218
  go_upto_region 3 with fail
  generalize w.alloc (.cells #[.string { data := #[] }, .int .i64 0, .int .i64 0, .int .i64 0, .int .i64 0] 31) = W0 at *
  go_cut [4] from 10 to 23 (fun v' wx => ∃ g, v' = .pointer (some ⟨g, 0, none⟩) ∧ At g [.string N, .int .i64 (256 * y0 + y1), .int .i64 (256 * y2 + y3), .int .i64 y4, .int .i64 (256 * y5 + y6)] wx ∧ Below W0.heap.size W0 wx ∧ W0.heap.size ≤ g)
  case first =>
    refine wp_region_fork (Bel W0) (by kernel_rfl) (Bel.drew W0) ?_
    have hst : (Bel W0) _ := (Bel.drew W0)
    have inst : Nonempty (Of (Bel W0)) := ⟨⟨_, hst⟩⟩
    have u4 := bel_cell d4
    have cv : ∀ z : Of (Bel W0), (convert 22 9 (.slice (some ⟨b, off + 7, none⟩) (len - 7) (cap - 7))).run Tryz.prog z.val = .ok (.string N) z.val := fun z => hsub _ (R1.below (z.prop.out.mono hWB))
    generalize W0.drew = V1 at *
    refine any_seg 6 [(0, true), (2, true), (4, true), (5, true), (6, true), (7, true), (8, true), (10, true), (11, true), (12, true)] (by kernel_rfl) (fun _ _ d _ _ h => by cases d <;> exact h) ?_
    iterate 10 (refine line_read rfl (by kernel_rfl) (fun K hK => ?_); go_big_quiet_op; refine hK _ ?_; clear hK K)
    refine line_nil ?_
    clear cv u4
    have szV1 := hst.out.size
    refine any_fork 1 14 (by kernel_rfl) rfl rfl (by kernel_rfl) (by kernel_rfl) (fun K hK => ?_) (fun K hK => ?_)
    · refine call_any (args := #[.slice (some ⟨b, off, none⟩) len cap, .int .i64 0]) rfl (by kernel_rfl) (by kernel_rfl) (T0 _ (cell_keep hst.out d0) (cell_keep hst.out d1)) ?_
      rintro e x1 ⟨rfl, hbn⟩
      have hst2 := hst.on hbn
      refine ⟨_, rfl, hK _ _ hst2 ?_⟩
      clear hK K hst hbn
      have hst := hst2
      clear hst2
      simp only [Act.put, List.setIfInBounds_toArray, List.set_cons_zero, List.set_cons_succ]
      refine any_fork 3 14 (by kernel_rfl) rfl rfl (by kernel_rfl) (by kernel_rfl) (fun K hK => ?_) (fun K hK => ?_)
      · refine call_any (args := #[.slice (some ⟨b, off, none⟩) len cap, .int .i64 2]) rfl (by kernel_rfl) (by kernel_rfl) (T1 _ (cell_keep hst.out d2) (cell_keep hst.out d3)) ?_
        rintro e x2 ⟨rfl, hbn⟩
        have hst2 := hst.on hbn
        refine ⟨_, rfl, hK _ _ hst2 ?_⟩
        clear hK K hst hbn
        have hst := hst2
        clear hst2
        simp only [Act.put, List.setIfInBounds_toArray, List.set_cons_zero, List.set_cons_succ]
        refine any_fork 9 14 (by kernel_rfl) rfl rfl (by kernel_rfl) (by kernel_rfl) (fun K hK => ?_) (fun K hK => ?_)
        · refine call_any (args := #[.slice (some ⟨b, off, none⟩) len cap, .int .i64 5]) rfl (by kernel_rfl) (by kernel_rfl) (T2 _ (cell_keep hst.out d5) (cell_keep hst.out d6)) ?_
          rintro e x3 ⟨rfl, hbn⟩
          have hst2 := hst.on hbn
          refine ⟨_, rfl, hK _ _ hst2 ?_⟩
          clear hK K hst hbn
          have hst := hst2
          clear hst2
          simp only [Act.put, List.setIfInBounds_toArray, List.set_cons_zero, List.set_cons_succ]
          refine any_rest [(13, true), (14, false), (15, false)] (by kernel_rfl) (fun _ _ d _ _ h => by cases d <;> exact h) ?_
          refine line_readv (v := .agg #[.string N, .int .i64 (256 * y0 + y1), .int .i64 (256 * y2 + y3), .int .i64 y4, .int .i64 (256 * y5 + y6)]) rfl (by kernel_rfl) (fun _ => by kernel_rfl) ?_
          simp only [Act.put, List.setIfInBounds_toArray, List.set_cons_zero, List.set_cons_succ]
          refine line_alone rfl (by kernel_rfl) (fun K hK => ?_)
          go_big_op
          have hst2 := hst.on (bal (Below.refl _ x3) (.cells #[.string { data := #[] }, .int .i64 0, .int .i64 0, .int .i64 0, .int .i64 0] 31))
          have A := At.new x3 [.string { data := #[] }, .int .i64 0, .int .i64 0, .int .i64 0, .int .i64 0] 31
          have leA : W0.heap.size ≤ x3.heap.size := hst.out.size
          refine hK _ _ hst2 ?_
          clear hK K hst
          have hst := hst2
          clear hst2
          generalize x3.alloc (.cells #[.string { data := #[] }, .int .i64 0, .int .i64 0, .int .i64 0, .int .i64 0] 31) = xa at *
          have p0 := A.cell 0 _ rfl
          have p1 := A.cell 1 _ rfl
          have p2 := A.cell 2 _ rfl
          have p3 := A.cell 3 _ rfl
          have p4 := A.cell 4 _ rfl
          have f0 := A.free 0 _ rfl
          have f1 := A.free 1 _ rfl
          have f2 := A.free 2 _ rfl
          have f3 := A.free 3 _ rfl
          have f4 := A.free 4 _ rfl
          refine line_alone rfl (by kernel_rfl) (fun K hK => ?_)
          go_big_op
          refine hK _ _ (⟨(by (iterate 5 (refine bset ?_ (by dsimp only; omega) _)); exact hst.out)⟩) ?_
          clear hK K
          have A9 := (((((A.set 0 (.string N)).set 1 (.int .i64 (256 * y0 + y1))).set 2 (.int .i64 (256 * y2 + y3))).set 3 (.int .i64 y4)).set 4 (.int .i64 (256 * y5 + y6)))
          refine line_nil ?_
          go_wp2_with fail
          go_meet
          case rel => exact ⟨_, rfl, A9, (by (iterate 5 (refine bset ?_ (by dsimp only; omega) _)); exact hst.out), leA⟩
        · go_big_op
          have hst2 := hst.on (bal (Below.refl _ x2) (.cells #[.string { data := #[] }, .int .i64 0, .int .i64 0, .int .i64 0, .int .i64 0] 31))
          have A := At.new x2 [.string { data := #[] }, .int .i64 0, .int .i64 0, .int .i64 0, .int .i64 0] 31
          have leA : W0.heap.size ≤ x2.heap.size := hst.out.size
          refine hK _ _ hst2 ?_
          clear hK K hst
          have hst := hst2
          clear hst2
          generalize x2.alloc (.cells #[.string { data := #[] }, .int .i64 0, .int .i64 0, .int .i64 0, .int .i64 0] 31) = xa at *
          refine any_rest [(9, false), (13, true), (15, false)] (by kernel_rfl) (fun _ _ d _ _ h => by cases d <;> exact h) ?_
          refine line_alone rfl (by kernel_rfl) (fun K hK => ?_)
          refine call_any (args := #[.slice (some ⟨b, off, none⟩) len cap, .int .i64 5]) rfl (by kernel_rfl) (by kernel_rfl) (T2 _ (cell_keep hst.out d5) (cell_keep hst.out d6)) ?_
          rintro e x4 ⟨rfl, hbn⟩
          have hst2 := hst.on hbn
          have A2 := A.on hbn
          clear A
          have A := A2
          clear A2
          refine ⟨_, rfl, hK _ _ hst2 ?_⟩
          clear hK K hst hbn
          have hst := hst2
          clear hst2
          simp only [Act.put, List.setIfInBounds_toArray, List.set_cons_zero, List.set_cons_succ]
          refine line_readv (v := .agg #[.string N, .int .i64 (256 * y0 + y1), .int .i64 (256 * y2 + y3), .int .i64 y4, .int .i64 (256 * y5 + y6)]) rfl (by kernel_rfl) (fun _ => by kernel_rfl) ?_
          simp only [Act.put, List.setIfInBounds_toArray, List.set_cons_zero, List.set_cons_succ]
          have p0 := A.cell 0 _ rfl
          have p1 := A.cell 1 _ rfl
          have p2 := A.cell 2 _ rfl
          have p3 := A.cell 3 _ rfl
          have p4 := A.cell 4 _ rfl
          have f0 := A.free 0 _ rfl
          have f1 := A.free 1 _ rfl
          have f2 := A.free 2 _ rfl
          have f3 := A.free 3 _ rfl
          have f4 := A.free 4 _ rfl
          refine line_alone rfl (by kernel_rfl) (fun K hK => ?_)
          go_big_op
          refine hK _ _ (⟨(by (iterate 5 (refine bset ?_ (by dsimp only; omega) _)); exact hst.out)⟩) ?_
          clear hK K
          have A9 := (((((A.set 0 (.string N)).set 1 (.int .i64 (256 * y0 + y1))).set 2 (.int .i64 (256 * y2 + y3))).set 3 (.int .i64 y4)).set 4 (.int .i64 (256 * y5 + y6)))
          refine line_nil ?_
          go_wp2_with fail
          go_meet
          case rel => exact ⟨_, rfl, A9, (by (iterate 5 (refine bset ?_ (by dsimp only; omega) _)); exact hst.out), leA⟩
      · go_big_op
        have hst2 := hst.on (bal (Below.refl _ x1) (.cells #[.string { data := #[] }, .int .i64 0, .int .i64 0, .int .i64 0, .int .i64 0] 31))
        have A := At.new x1 [.string { data := #[] }, .int .i64 0, .int .i64 0, .int .i64 0, .int .i64 0] 31
        have leA : W0.heap.size ≤ x1.heap.size := hst.out.size
        refine hK _ _ hst2 ?_
        clear hK K hst
        have hst := hst2
        clear hst2
        generalize x1.alloc (.cells #[.string { data := #[] }, .int .i64 0, .int .i64 0, .int .i64 0, .int .i64 0] 31) = xa at *
        refine any_rest [(3, false), (9, false), (13, true), (15, false)] (by kernel_rfl) (fun _ _ d _ _ h => by cases d <;> exact h) ?_
        refine line_alone rfl (by kernel_rfl) (fun K hK => ?_)
        refine call_any (args := #[.slice (some ⟨b, off, none⟩) len cap, .int .i64 2]) rfl (by kernel_rfl) (by kernel_rfl) (T1 _ (cell_keep hst.out d2) (cell_keep hst.out d3)) ?_
        rintro e x5 ⟨rfl, hbn⟩
        have hst2 := hst.on hbn
        have A2 := A.on hbn
        clear A
        have A := A2
        clear A2
        refine ⟨_, rfl, hK _ _ hst2 ?_⟩
        clear hK K hst hbn
        have hst := hst2
        clear hst2
        simp only [Act.put, List.setIfInBounds_toArray, List.set_cons_zero, List.set_cons_succ]
        refine line_alone rfl (by kernel_rfl) (fun K hK => ?_)
        refine call_any (args := #[.slice (some ⟨b, off, none⟩) len cap, .int .i64 5]) rfl (by kernel_rfl) (by kernel_rfl) (T2 _ (cell_keep hst.out d5) (cell_keep hst.out d6)) ?_
        rintro e x6 ⟨rfl, hbn⟩
        have hst2 := hst.on hbn
        have A2 := A.on hbn
        clear A
        have A := A2
        clear A2
        refine ⟨_, rfl, hK _ _ hst2 ?_⟩
        clear hK K hst hbn
        have hst := hst2
        clear hst2
        simp only [Act.put, List.setIfInBounds_toArray, List.set_cons_zero, List.set_cons_succ]
        refine line_readv (v := .agg #[.string N, .int .i64 (256 * y0 + y1), .int .i64 (256 * y2 + y3), .int .i64 y4, .int .i64 (256 * y5 + y6)]) rfl (by kernel_rfl) (fun _ => by kernel_rfl) ?_
        simp only [Act.put, List.setIfInBounds_toArray, List.set_cons_zero, List.set_cons_succ]
        have p0 := A.cell 0 _ rfl
        have p1 := A.cell 1 _ rfl
        have p2 := A.cell 2 _ rfl
        have p3 := A.cell 3 _ rfl
        have p4 := A.cell 4 _ rfl
        have f0 := A.free 0 _ rfl
        have f1 := A.free 1 _ rfl
        have f2 := A.free 2 _ rfl
        have f3 := A.free 3 _ rfl
        have f4 := A.free 4 _ rfl
        refine line_alone rfl (by kernel_rfl) (fun K hK => ?_)
        go_big_op
        refine hK _ _ (⟨(by (iterate 5 (refine bset ?_ (by dsimp only; omega) _)); exact hst.out)⟩) ?_
        clear hK K
        have A9 := (((((A.set 0 (.string N)).set 1 (.int .i64 (256 * y0 + y1))).set 2 (.int .i64 (256 * y2 + y3))).set 3 (.int .i64 y4)).set 4 (.int .i64 (256 * y5 + y6)))
        refine line_nil ?_
        go_wp2_with fail
        go_meet
        case rel => exact ⟨_, rfl, A9, (by (iterate 5 (refine bset ?_ (by dsimp only; omega) _)); exact hst.out), leA⟩
    · go_big_op
      have hst2 := hst.on (bal (Below.refl _ V1) (.cells #[.string { data := #[] }, .int .i64 0, .int .i64 0, .int .i64 0, .int .i64 0] 31))
      have A := At.new V1 [.string { data := #[] }, .int .i64 0, .int .i64 0, .int .i64 0, .int .i64 0] 31
      have leA : W0.heap.size ≤ V1.heap.size := hst.out.size
      refine hK _ _ hst2 ?_
      clear hK K hst
      have hst := hst2
      clear hst2
      generalize V1.alloc (.cells #[.string { data := #[] }, .int .i64 0, .int .i64 0, .int .i64 0, .int .i64 0] 31) = xa at *
      refine any_rest [(1, false), (3, false), (9, false), (13, true), (15, false)] (by kernel_rfl) (fun _ _ d _ _ h => by cases d <;> exact h) ?_
      refine line_alone rfl (by kernel_rfl) (fun K hK => ?_)
      refine call_any (args := #[.slice (some ⟨b, off, none⟩) len cap, .int .i64 0]) rfl (by kernel_rfl) (by kernel_rfl) (T0 _ (cell_keep hst.out d0) (cell_keep hst.out d1)) ?_
      rintro e x7 ⟨rfl, hbn⟩
      have hst2 := hst.on hbn
      have A2 := A.on hbn
      clear A
      have A := A2
      clear A2
      refine ⟨_, rfl, hK _ _ hst2 ?_⟩
      clear hK K hst hbn
      have hst := hst2
      clear hst2
      simp only [Act.put, List.setIfInBounds_toArray, List.set_cons_zero, List.set_cons_succ]
      refine line_alone rfl (by kernel_rfl) (fun K hK => ?_)
      refine call_any (args := #[.slice (some ⟨b, off, none⟩) len cap, .int .i64 2]) rfl (by kernel_rfl) (by kernel_rfl) (T1 _ (cell_keep hst.out d2) (cell_keep hst.out d3)) ?_
      rintro e x8 ⟨rfl, hbn⟩
      have hst2 := hst.on hbn
      have A2 := A.on hbn
      clear A
      have A := A2
      clear A2
      refine ⟨_, rfl, hK _ _ hst2 ?_⟩
      clear hK K hst hbn
      have hst := hst2
      clear hst2
      simp only [Act.put, List.setIfInBounds_toArray, List.set_cons_zero, List.set_cons_succ]
      refine line_alone rfl (by kernel_rfl) (fun K hK => ?_)
      refine call_any (args := #[.slice (some ⟨b, off, none⟩) len cap, .int .i64 5]) rfl (by kernel_rfl) (by kernel_rfl) (T2 _ (cell_keep hst.out d5) (cell_keep hst.out d6)) ?_
      rintro e x9 ⟨rfl, hbn⟩
      have hst2 := hst.on hbn
      have A2 := A.on hbn
      clear A
      have A := A2
      clear A2
      refine ⟨_, rfl, hK _ _ hst2 ?_⟩
      clear hK K hst hbn
      have hst := hst2
      clear hst2
      simp only [Act.put, List.setIfInBounds_toArray, List.set_cons_zero, List.set_cons_succ]
      refine line_readv (v := .agg #[.string N, .int .i64 (256 * y0 + y1), .int .i64 (256 * y2 + y3), .int .i64 y4, .int .i64 (256 * y5 + y6)]) rfl (by kernel_rfl) (fun _ => by kernel_rfl) ?_
      simp only [Act.put, List.setIfInBounds_toArray, List.set_cons_zero, List.set_cons_succ]
      have p0 := A.cell 0 _ rfl
      have p1 := A.cell 1 _ rfl
      have p2 := A.cell 2 _ rfl
      have p3 := A.cell 3 _ rfl
      have p4 := A.cell 4 _ rfl
      have f0 := A.free 0 _ rfl
      have f1 := A.free 1 _ rfl
      have f2 := A.free 2 _ rfl
      have f3 := A.free 3 _ rfl
      have f4 := A.free 4 _ rfl
      refine line_alone rfl (by kernel_rfl) (fun K hK => ?_)
      go_big_op
      refine hK _ _ (⟨(by (iterate 5 (refine bset ?_ (by dsimp only; omega) _)); exact hst.out)⟩) ?_
      clear hK K
      have A9 := (((((A.set 0 (.string N)).set 1 (.int .i64 (256 * y0 + y1))).set 2 (.int .i64 (256 * y2 + y3))).set 3 (.int .i64 y4)).set 4 (.int .i64 (256 * y5 + y6)))
      refine line_nil ?_
      go_wp2_with fail
      go_meet
      case rel => exact ⟨_, rfl, A9, (by (iterate 5 (refine bset ?_ (by dsimp only; omega) _)); exact hst.out), leA⟩
  case rest =>
    obtain ⟨g, rfl, A1, b1, hg⟩ := hcut
    have eZ := EZ.out
    have ltA := A1.lt (by simp)
    have lt0 : w.heap.size < W0.heap.size := A0.lt (by simp)
    generalize Z.f = cd at *
    subst eZ
    go_wp2_with fail
    have S0 : Hold w g [.string N, .int .i64 (256 * y0 + y1), .int .i64 (256 * y2 + y3), .int .i64 y4, .int .i64 (256 * y5 + y6)] wc.drew := ⟨(btr b0 b1).drew, A1.on (bdrew wc)⟩
    have AA := (A0.on b1).on (bdrew wc)
    refine wp_region_line (Hold w g [.string N, .int .i64 (256 * y0 + y1), .int .i64 (256 * y2 + y3), .int .i64 y4, .int .i64 (256 * y5 + y6)]) [(0, true), (1, false), (2, true), (3, false), (4, true)] (by kernel_rfl) (by kernel_rfl) (fun _ _ d _ _ h => by cases d <;> exact h) S0 ?_
    have hst := S0
    have inst : Nonempty (Of (Hold w g [.string N, .int .i64 (256 * y0 + y1), .int .i64 (256 * y2 + y3), .int .i64 y4, .int .i64 (256 * y5 + y6)])) := ⟨⟨_, hst⟩⟩
    have q0 := hold_cell (W := w) (g := g) (cs := [.string N, .int .i64 (256 * y0 + y1), .int .i64 (256 * y2 + y3), .int .i64 y4, .int .i64 (256 * y5 + y6)]) 0 _ rfl
    have q1 := hold_cell (W := w) (g := g) (cs := [.string N, .int .i64 (256 * y0 + y1), .int .i64 (256 * y2 + y3), .int .i64 y4, .int .i64 (256 * y5 + y6)]) 1 _ rfl
    have q2 := hold_cell (W := w) (g := g) (cs := [.string N, .int .i64 (256 * y0 + y1), .int .i64 (256 * y2 + y3), .int .i64 y4, .int .i64 (256 * y5 + y6)]) 2 _ rfl
    have q3 := hold_cell (W := w) (g := g) (cs := [.string N, .int .i64 (256 * y0 + y1), .int .i64 (256 * y2 + y3), .int .i64 y4, .int .i64 (256 * y5 + y6)]) 3 _ rfl
    have q4 := hold_cell (W := w) (g := g) (cs := [.string N, .int .i64 (256 * y0 + y1), .int .i64 (256 * y2 + y3), .int .i64 y4, .int .i64 (256 * y5 + y6)]) 4 _ rfl
    clear S0 A1 A0 b1 b0
    generalize wc.drew = V2 at *
    iterate 1 (refine line_read rfl (by kernel_rfl) (fun K hK => ?_); go_big_quiet_op; refine hK _ ?_; clear hK K)
    clear q0 q1 q2 q3 q4
    refine line_alone rfl (by kernel_rfl) (fun K hK => ?_)
    refine call_any (args := #[.pointer (some ⟨g, 0, none⟩)]) rfl (by kernel_rfl) (by kernel_rfl) (hF _ _ hst.at') ?_
    rintro e x9 ⟨rfl, hbn⟩
    have hst2 := hst.on hbn
    have AA2 := AA.on hbn
    refine ⟨_, rfl, hK _ _ hst2 ?_⟩
    clear hK K hst hbn AA
    have hst := hst2
    clear hst2
    simp only [Act.put, List.setIfInBounds_toArray, List.set_cons_zero, List.set_cons_succ]
    iterate 1 (refine line_read rfl (by kernel_rfl) (fun K hK => ?_); go_big_quiet_op; refine hK _ ?_; clear hK K)
    have p0 := AA2.cell 0 _ rfl
    have p1 := AA2.cell 1 _ rfl
    have p2 := AA2.cell 2 _ rfl
    have p3 := AA2.cell 3 _ rfl
    have p4 := AA2.cell 4 _ rfl
    have z0 := AA2.free 0 _ rfl
    have z1 := AA2.free 1 _ rfl
    have z2 := AA2.free 2 _ rfl
    have z3 := AA2.free 3 _ rfl
    have z4 := AA2.free 4 _ rfl
    refine line_alone rfl (by kernel_rfl) (fun K hK => ?_)
    go_big_op
    refine hK _ _ ((by (iterate 5 (refine Hold.setB ?_ (by dsimp only; omega) (by dsimp only; omega) _)); exact hst)) ?_
    clear hK K
    iterate 1 (refine line_read rfl (by kernel_rfl) (fun K hK => ?_); go_big_quiet_op; refine hK _ ?_; clear hK K)
    refine line_nil ?_
    have HB := Lib.hid hst.bel
    clear hst inst AA2
    go_wp2_with fail
    refine bodyPost_ret (v := .tuple #[P5 ⟨N, 256 * y0 + y1, 256 * y2 + y3, y4, 256 * y5 + y6⟩, .bool (cd == 0)]) (by simp [results, Tryz.results218, go_sem, p0, p1, p2, p3, p4]) rfl (HP.out _ ?_)
    exact (by (iterate 5 (refine bset ?_ (by dsimp only; omega) _)); exact HB.out)
end Go.Proofs.YtcolecidbalmhaaGreatDoor
namespace Go.Proofs.YtcolecidbalmhaaGreatDoor
open Go.RowKit
set_option maxRecDepth 100000
set_option linter.unusedVariables false

/-- The bytes ahead of a pin's name; the bytes of a pin. -/
def headP (a b e u : Int) : List Int := M.two a ++ M.two b ++ [e] ++ M.two u
theorem headP_length (a b e u : Int) : (headP a b e u).length = 7 := rfl
def packP (p : PinD) : List Int := headP p.a p.b p.e p.u ++ M.textL p.n
def packPL (p : PinD) : List Int := if p.f = 0 then packP p else []
theorem packP_length (p : PinD) : (packP p).length = 7 + p.n.size := by
  unfold packP
  rw [List.length_append, headP_length, M.textL_length]
theorem pin_bounds {p : PinD} (h : p.f = 0) : p.n.size ≤ 20 ∧ M.sumB p.a = true ∧ M.sumB p.b = true ∧ (1 ≤ p.e ∧ p.e ≤ 200) ∧ M.sumB p.u = true := by
  obtain ⟨-, h1, h2, h3, h4, -⟩ := pinF_zero h
  refine ⟨pin_size h, pub_sum6 h1, ?_, by simpa [epB] using h3, ?_⟩
  · simp only [bakB, Bool.or_eq_true, decide_eq_true_eq] at h2
    rcases h2 with h2 | h2
    · rw [h2]; rfl
    · exact pub_sum6 h2
  · simp only [timB, decide_eq_true_eq] at h4
    simp only [M.sumB, decide_eq_true_eq]
    omega
theorem packP_byte {p : PinD} (h : p.f = 0) : ∀ z ∈ packP p, M.byteB z := by
  intro z hz
  obtain ⟨-, h1, h2, h3, h4⟩ := pin_bounds h
  simp only [packP, headP, List.mem_append] at hz
  rcases hz with (((hz | hz) | hz) | hz) | hz
  · exact two_byte h1 z hz
  · exact two_byte h2 z hz
  · simp only [List.mem_cons, List.not_mem_nil, or_false] at hz
    unfold M.byteB
    omega
  · exact two_byte h4 z hz
  · exact M.textL_byte p.n z hz
theorem packPL_byte (p : PinD) : ∀ z ∈ packPL p, M.byteB z := by
  intro z hz
  unfold packPL at hz
  split at hz
  · rename_i h
    exact packP_byte h z hz
  · cases hz

theorem l7Pack_any (g : Nat) (p : PinD) (w : World) (hA : At g p.vals w) (h : p.f = 0) :
    Calls Tryz.prog 162 #[.pointer (some ⟨g, 0, none⟩)] w (Made (packP p) w) := by
  obtain ⟨hn, ha, hb, ⟨he0, he1⟩, hu⟩ := pin_bounds h
  have he2 : 0 ≤ p.e := by omega
  have hnm : p.n.size ≤ maxLen := size_max hn
  obtain ⟨i0, hi0, hz0, hz1, hz2⟩ := info_parts u8_info
  have hcv := fun (W : World) => run_bytes_of_string (P := Tryz.prog) W 9 22 5 p.n Tryz.underlying9 Tryz.underlying22 Tryz.underlying5
  have ltg := hA.lt (by simp [PinD.vals])
  clear h
  have d0 := hA.cell 0 _ rfl
  have d1 := hA.cell 1 _ rfl
  have d2 := hA.cell 2 _ rfl
  have d3 := hA.cell 3 _ rfl
  have d4 := hA.cell 4 _ rfl
  go_enter Tryz.func162, Tryz.ntmps162
  go_wp2_with fail
  refine wp_region_line (Bel w) [(0, true), (1, true), (2, true), (3, true), (5, true), (6, true), (7, true), (8, true), (4, false), (9, false), (10, false), (11, true)] (by kernel_rfl) (by kernel_rfl) (fun _ _ d _ _ h => by cases d <;> exact h) (Bel.drew w) ?_
  have hst := Bel.drew w
  have inst : Nonempty (Of (Bel w)) := ⟨⟨_, hst⟩⟩
  have u1 := bel_cell d1
  have u2 := bel_cell d2
  have eV := Lib.hid (show w.drew.heap.size = w.heap.size from rfl)
  generalize w.drew = V1 at *
  iterate 8 (refine line_read rfl (by kernel_rfl) (fun K hK => ?_); go_big_quiet_op; refine hK _ ?_; clear hK K)
  refine line_alone rfl (by kernel_rfl) (fun K hK => ?_)
  refine call_any (args := #[.int .i64 p.a]) rfl (by kernel_rfl) (by kernel_rfl) (l1Two_any p.a _ ha) ?_
  rintro e w3 ⟨rfl, rfl⟩
  have st3 := hst.on (bal (Below.refl _ V1) (.cells #[.int .u8 (p.a / 256), .int .u8 (p.a % 256)] 5))
  have O3 : OwnK .u8 (V1.alloc (.cells #[.int .u8 (p.a / 256), .int .u8 (p.a % 256)] 5)) w.heap.size (.slice (some ⟨V1.heap.size, 0, none⟩) 2 2) (M.two p.a) := own_lit (k := .u8) V1 (M.two p.a) 2 5 (B := w.heap.size) (by have := eV.out; omega) rfl (by simp only [maxLen]; omega)
  refine ⟨_, rfl, hK _ _ st3 ?_⟩
  clear hK K hst
  simp only [Act.put, List.setIfInBounds_toArray, List.set_cons_zero, List.set_cons_succ]
  generalize V1.alloc (.cells #[.int .u8 (p.a / 256), .int .u8 (p.a % 256)] 5) = V2 at *
  refine line_alone rfl (by kernel_rfl) (fun K hK => ?_)
  refine call_any (args := #[.int .i64 p.b]) rfl (by kernel_rfl) (by kernel_rfl) (l1Two_any p.b _ hb) ?_
  rintro e w4 ⟨rfl, rfl⟩
  have st4 := st3.on (bal (Below.refl _ V2) (.cells #[.int .u8 (p.b / 256), .int .u8 (p.b % 256)] 5))
  refine ⟨_, rfl, hK _ _ st4 ?_⟩
  clear hK K
  simp only [Act.put, List.setIfInBounds_toArray, List.set_cons_zero, List.set_cons_succ]
  refine line_alone rfl (by kernel_rfl) (fun K hK => ?_)
  refine wp_append_src _ (.tmp 8) (.tmp 13) 22 22 rfl w.heap.size 5 i0 (.int .u8 0) 1 1 Tryz.underlying22 hi0 hz0 hz1 hz2 rfl _ 2 ((M.two p.a).map (Value.int .u8)) rfl (Own.alloc O3 _) _ 2 [.int .u8 (p.b / 256), .int .u8 (p.b % 256)] rfl (src_new V2 _ 2 2 _ _ _ Tryz.underlying22 rfl (ints_oneCell .u8 [p.b / 256, p.b % 256])) (by simp only [maxLen]; omega) (by omega) (by have := st3.out.size; simp; omega) (fun v5 w5 hown hgrow hat => ?_)
  have b5 : Below w.heap.size w w5 := (Own.alloc O3 (.cells #[.int .u8 (p.b / 256), .int .u8 (p.b % 256)] 5)).grown st4.out (by have := st3.out.size; simp; omega) hgrow
  have O5 : OwnK .u8 w5 w.heap.size v5 (M.two p.a ++ M.two p.b) := by unfold OwnK; simpa [M.two] using hown
  refine hK _ _ ⟨b5⟩ ?_
  clear hK K st3 st4 O3 hown hgrow hat inst u1 u2 eV
  simp only [Act.put, List.setIfInBounds_toArray, List.set_cons_zero, List.set_cons_succ]
  have inst : Nonempty (Of (Bel w)) := ⟨⟨_, ⟨b5⟩⟩⟩
  iterate 1 (refine line_read rfl (by kernel_rfl) (fun K hK => ?_); go_big_quiet_op; refine hK _ ?_; clear hK K)
  refine line_nil ?_
  have S0 : Bel w w5.drew := ⟨b5.drew⟩
  have O5d : OwnK .u8 w5.drew w.heap.size v5 (M.two p.a ++ M.two p.b) := O5
  have hz5 : w.heap.size ≤ w5.drew.heap.size := b5.size
  clear inst b5 O5
  go_wp2_with fail
  refine wp_region_line (Bel w) [(0, true), (1, true), (2, true), (3, true), (4, true), (5, true), (8, true), (9, true), (10, true), (11, true), (6, false), (7, false), (12, false), (13, false), (14, true)] (by kernel_rfl) (by kernel_rfl) (fun _ _ d _ _ h => by cases d <;> exact h) S0 ?_
  have hst := S0
  have inst : Nonempty (Of (Bel w)) := ⟨⟨_, hst⟩⟩
  have u3 := bel_cell d3
  have u4 := bel_cell d4
  generalize w5.drew = V5 at *
  clear S0
  iterate 10 (refine line_read rfl (by kernel_rfl) (fun K hK => ?_); go_big_quiet_op; refine hK _ ?_; clear hK K)
  refine line_alone rfl (by kernel_rfl) (fun K hK => ?_)
  go_big_op
  refine hK _ _ (hst.on (bal (Below.refl _ V5) _)) ?_
  clear hK K
  have O6 := O5d.alloc (.cells #[.int .u8 p.e] 5)
  have st6 := hst.on (bal (Below.refl _ V5) (.cells #[.int .u8 p.e] 5))
  refine line_alone rfl (by kernel_rfl) (fun K hK => ?_)
  refine wp_append_src _ (.tmp 15) (.tmp 21) 22 22 rfl w.heap.size 5 i0 (.int .u8 0) 1 1 Tryz.underlying22 hi0 hz0 hz1 hz2 rfl _ 4 ((M.two p.a ++ M.two p.b).map (Value.int .u8)) rfl O6 _ 1 [.int .u8 p.e] rfl (src_new V5 _ 1 1 _ _ _ Tryz.underlying22 rfl (ints_oneCell .u8 [p.e])) (by simp only [maxLen]; omega) (by omega) (by simp; omega) (fun v7 w7 hown hgrow hat => ?_)
  have b7 : Below w.heap.size w w7 := Own.grown O6 st6.out st6.out.size hgrow
  have O7 : OwnK .u8 w7 w.heap.size v7 (M.two p.a ++ M.two p.b ++ [p.e]) := by unfold OwnK; simpa [M.two] using hown
  refine hK _ _ ⟨b7⟩ ?_
  clear hK K st6 O6 O5d hown hgrow hat hst
  simp only [Act.put, List.setIfInBounds_toArray, List.set_cons_zero, List.set_cons_succ]
  refine line_alone rfl (by kernel_rfl) (fun K hK => ?_)
  refine call_any (args := #[.int .i64 p.u]) rfl (by kernel_rfl) (by kernel_rfl) (l1Two_any p.u _ hu) ?_
  rintro e w8 ⟨rfl, rfl⟩
  have st8 : Bel w (w7.alloc (.cells #[.int .u8 (p.u / 256), .int .u8 (p.u % 256)] 5)) := ⟨bal b7 _⟩
  refine ⟨_, rfl, hK _ _ st8 ?_⟩
  clear hK K
  simp only [Act.put, List.setIfInBounds_toArray, List.set_cons_zero, List.set_cons_succ]
  refine line_alone rfl (by kernel_rfl) (fun K hK => ?_)
  refine wp_append_src _ (.tmp 22) (.tmp 27) 22 22 rfl w.heap.size 5 i0 (.int .u8 0) 1 1 Tryz.underlying22 hi0 hz0 hz1 hz2 rfl _ 5 ((M.two p.a ++ M.two p.b ++ [p.e]).map (Value.int .u8)) rfl (Own.alloc O7 _) _ 2 [.int .u8 (p.u / 256), .int .u8 (p.u % 256)] rfl (src_new w7 _ 2 2 _ _ _ Tryz.underlying22 rfl (ints_oneCell .u8 [p.u / 256, p.u % 256])) (by simp only [maxLen]; omega) (by omega) (by have := b7.size; simp; omega) (fun v9 w9 hown hgrow hat => ?_)
  have b9 : Below w.heap.size w w9 := (Own.alloc O7 (.cells #[.int .u8 (p.u / 256), .int .u8 (p.u % 256)] 5)).grown st8.out (by have := b7.size; simp; omega) hgrow
  have O9 : OwnK .u8 w9 w.heap.size v9 (headP p.a p.b p.e p.u) := by unfold OwnK headP; simpa [M.two] using hown
  refine hK _ _ ⟨b9⟩ ?_
  clear hK K st8 O7 b7 hown hgrow hat u3 u4 inst
  simp only [Act.put, List.setIfInBounds_toArray, List.set_cons_zero, List.set_cons_succ]
  have inst : Nonempty (Of (Bel w)) := ⟨⟨_, ⟨b9⟩⟩⟩
  iterate 1 (refine line_read rfl (by kernel_rfl) (fun K hK => ?_); go_big_quiet_op; refine hK _ ?_; clear hK K)
  refine line_nil ?_
  have hz4 := b9.size
  have x0 := (hA.on b9).cell 0 _ rfl
  have hsrc := text_src w9 p.n hnm
  have O10 := (O9.alloc (textObj w9 p.n 5)).drew
  have b10 := (bal b9 (textObj w9 p.n 5)).drew
  clear hA d0 d1 d2 d3 d4 inst
  go_wp2_with (at_builtin; refine wpList_append_src _ rfl (.tmp 29) (.tmp 34) 22 22 rfl w.heap.size 5 i0 (.int .u8 0) 1 1 Tryz.underlying22 hi0 hz0 hz1 hz2 rfl _ _ _ rfl O10 _ p.n.size _ rfl hsrc (by rw [headP_length]; simp only [maxLen]; omega) (by rw [headP_length]; omega) (by simp; omega) ?_; intro v5 w5 hown hgrow hat)
  have O11 : OwnK .u8 w5 w.heap.size v5 (packP p) := by
    unfold OwnK packP
    rw [List.length_append, M.textL_length]
    simpa using hown
  have b11 : Below w.heap.size w w5 := O10.grown b10 (by simp; omega) hgrow
  obtain ⟨a6, c6, hv6, -⟩ := O11.form
  have HT := Lib.hid (And.intro O11 b11)
  clear hown hgrow hat O10 O11 b10 b11 hsrc O9 b9 hcv
  subst hv6
  go_wp2_with fail
  go_ret
  exact ⟨_, _, _, rfl, HT.out.1, HT.out.2⟩
end Go.Proofs.YtcolecidbalmhaaGreatDoor
namespace Go.Proofs.YtcolecidbalmhaaGreatDoor
open Go.RowKit
set_option maxRecDepth 100000
set_option linter.unusedVariables false

def pinEq (p q : PinD) : Bool := decide (p.n.toList = q.n.toList ∧ p.a = q.a ∧ p.b = q.b ∧ p.e = q.e ∧ p.u = q.u)
theorem pinEq_iff (p q : PinD) : pinEq p q = true ↔ p = q := by
  obtain ⟨n, a, b, e, u⟩ := p
  obtain ⟨n', a', b', e', u'⟩ := q
  simp only [pinEq, decide_eq_true_eq, PinD.mk.injEq, ByteArray.toList_eq]
  exact ⟨fun ⟨h, r⟩ => ⟨nm_inj h, r⟩, fun ⟨h, r⟩ => ⟨by rw [h], r⟩⟩
theorem pinEq_self (p : PinD) : pinEq p p = true := (pinEq_iff p p).2 rfl
theorem pin_eq (p q : PinD) (w : World) : (Op.equalIn 10000 31 (P5 p) (P5 q)).run Tryz.prog w = .ok (pinEq p q) w := by
  have u3 := Tryz.underlying2
  have a3 := Tryz.isAgg2
  have z3 := Tryz.sizeOf2
  have u9 := Tryz.underlying9
  have a9 := Tryz.isAgg9
  have z9 := Tryz.sizeOf9
  have hS : Tryz.prog.underlying 31 = some (.struct (Tryz.prog.fieldsOf 31)) := by kernel_rfl
  have hp : Tryz.prog.stoodInHeld 31 = false := by kernel_rfl
  rw [show (10000 : Nat) = 9999 + 1 from rfl, run_equalIn_agg w 9999 31 _ _ hS hp]
  simp only [Program.fieldsOf, Tryz.underlying31]
  go_simp
  unfold pinEq
  by_cases h0 : p.n.toList = q.n.toList <;> by_cases h1 : p.a = q.a <;> by_cases h2 : p.b = q.b <;> by_cases h3 : p.e = q.e <;> by_cases h4 : p.u = q.u <;> simp only [h0, h1, h2, h3, h4, if_true, if_false, and_true, and_false, and_self, decide_true, decide_false]
theorem pin_neq (p q : PinD) (w : World) : (binOp .neq 31 (P5 p) (P5 q)).run Tryz.prog w = .ok (.bool (!pinEq p q)) w := by
  rw [run_neq_struct, pin_eq]
  rfl
theorem pin_guard (op : BinOp) (x y : Operand) (p q : PinD) (w : World) : (eqGuard op 31 x y (P5 p) (P5 q)).run Tryz.prog w = .ok () w := run_eqGuard_agg w op 31 x y _ _ (by kernel_rfl)

def sameL : List PinD → List PinD → Bool
  | [], [] => true
  | p :: r, q :: s => pinEq p q && sameL r s
  | _, _ => false
theorem sameL_self : ∀ ps : List PinD, sameL ps ps = true
  | [] => rfl
  | p :: r => by rw [sameL, pinEq_self, sameL_self r]; rfl
theorem sameL_len : ∀ {ps qs : List PinD}, ps.length ≠ qs.length → sameL ps qs = false
  | [], [], h => absurd rfl h
  | [], _ :: _, _ => rfl
  | _ :: _, [], _ => rfl
  | p :: r, q :: s, h => by rw [sameL, sameL_len (ps := r) (qs := s) (by simpa using h), Bool.and_false]
theorem sameL_step {ps qs : List PinD} {k : Nat} (h1 : k < ps.length) (h2 : k < qs.length) : sameL (ps.drop k) (qs.drop k) = (pinEq (ps[k]?.getD pin0) (qs[k]?.getD pin0) && sameL (ps.drop (k + 1)) (qs.drop (k + 1))) := by
  have e : ∀ {ps : List PinD}, k < ps.length → ps.drop k = (ps[k]?.getD pin0) :: ps.drop (k + 1) := fun hk => by
    rw [List.drop_eq_getElem_cons hk, List.getElem?_eq_getElem hk]
    rfl
  rw [e h1, e h2]
  rfl
def SameRel (w : World) (ps qs : List PinD) (t : Bool) (k : Nat) (wr : World) : Prop := sameL (ps.drop k) (qs.drop k) = t ∧ Below w.heap.size w wr
theorem specSamePins_any (a b : Option Addr) (n m c1 c2 B : Nat) (ps qs : List PinD) (w : World) (hR : PRow w B a n c1 ps) (hQ : PRow w B b m c2 qs) (hB : B ≤ w.heap.size) :
    Calls Tryz.prog 147 #[.slice a n c1, .slice b m c2] w fun e w' => e = .returned (.bool (sameL ps qs)) ∧ Below w.heap.size w w' := by
  have f1 := hR.fits
  have m1 := hR.most
  have f2 := hQ.fits
  have m2 := hQ.most
  unfold maxLen at m1 m2
  have L1 := Lib.hid hR.length
  have L2 := Lib.hid hQ.length
  by_cases hnm : n = m
  · subst hnm
    have T0 : SameRel w ps qs (sameL ps qs) 0 w := ⟨rfl, Below.refl _ _⟩
    generalize sameL ps qs = t at *
    go_enter Tryz.func147, Tryz.ntmps147
    go_wp2_with fail
    go_loopw [5] (fun i wr => ∃ k : Nat, k ≤ n ∧ i = .int .i64 k ∧ SameRel w ps qs t k wr) (fun i _ => n - (intOf i).toNat)
    case atStart => exact ⟨0, Nat.zero_le _, rfl, T0⟩
    case round =>
      obtain ⟨k, hk, rfl, ht, hb⟩ := hrel
      by_cases hlt : k < n
      · obtain ⟨b1, o1, ha1, hb1, c0, c1, c2, c3, c4⟩ := (hR.below (hb.mono hB)).at' hlt
        obtain ⟨b2, o2, ha2, hb2, d0, d1, d2, d3, d4⟩ := (hQ.below (hb.mono hB)).at' hlt
        have hs := sameL_step (k := k) (ps := ps) (qs := qs) (by rw [L1.out]; exact hlt) (by rw [L2.out]; exact hlt)
        rw [ht] at hs
        have N := fun w => pin_neq (ps[k]?.getD pin0) (qs[k]?.getD pin0) w
        have G := fun op x y w => pin_guard op x y (ps[k]?.getD pin0) (qs[k]?.getD pin0) w
        have HB := Lib.hid hb
        clear hb hR hQ ht T0
        subst ha1
        subst ha2
        generalize ps[k]?.getD pin0 = p at *
        generalize qs[k]?.getD pin0 = q at *
        generalize pinEq p q = c at *
        cases c
        · rw [Bool.false_and] at hs
          subst hs
          go_wp2_with fail
          refine wp_region_line (Bel wr) [(0, true), (1, true), (2, true), (3, true), (4, true), (5, true), (6, true), (7, true), (8, true)] (by kernel_rfl) (by kernel_rfl) (fun _ _ d _ _ h => by cases d <;> exact h) (Bel.drew wr) ?_
          have hst := Bel.drew wr
          have inst : Nonempty (Of (Bel wr)) := ⟨⟨_, hst⟩⟩
          have q0 := bel_cell c0
          have q1 := bel_cell c1
          have q2 := bel_cell c2
          have q3 := bel_cell c3
          have q4 := bel_cell c4
          have y0 := bel_cell d0
          have y1 := bel_cell d1
          have y2 := bel_cell d2
          have y3 := bel_cell d3
          have y4 := bel_cell d4
          iterate 9 (refine line_read rfl (by kernel_rfl) (fun K hK => ?_); go_big_quiet_op; refine hK _ ?_; clear hK K)
          refine line_nil ?_
          have bb := btr HB.out hst.out
          clear hst inst q0 q1 q2 q3 q4 y0 y1 y2 y3 y4 c0 c1 c2 c3 c4 d0 d1 d2 d3 d4 HB N G
          go_wp2_with fail
          go_ret
          exact ⟨rfl, bb⟩
        · rw [Bool.true_and] at hs
          have HS := Lib.hid hs
          clear hs
          go_wp2_with fail
          refine wp_region_line (Bel wr) [(0, true), (1, true), (2, true), (3, true), (4, true), (5, true), (6, true), (7, true), (8, true)] (by kernel_rfl) (by kernel_rfl) (fun _ _ d _ _ h => by cases d <;> exact h) (Bel.drew wr) ?_
          have hst := Bel.drew wr
          have inst : Nonempty (Of (Bel wr)) := ⟨⟨_, hst⟩⟩
          have q0 := bel_cell c0
          have q1 := bel_cell c1
          have q2 := bel_cell c2
          have q3 := bel_cell c3
          have q4 := bel_cell c4
          have y0 := bel_cell d0
          have y1 := bel_cell d1
          have y2 := bel_cell d2
          have y3 := bel_cell d3
          have y4 := bel_cell d4
          iterate 9 (refine line_read rfl (by kernel_rfl) (fun K hK => ?_); go_big_quiet_op; refine hK _ ?_; clear hK K)
          refine line_nil ?_
          have bb := btr HB.out hst.out
          clear hst inst q0 q1 q2 q3 q4 y0 y1 y2 y3 y4 c0 c1 c2 c3 c4 d0 d1 d2 d3 d4 HB N G
          go_wp2_with fail
          go_roundw
          case rel => exact ⟨k + 1, by omega, by go_num, HS.out.symm, bb⟩
          case measure => simp [intOf]; omega
      · obtain rfl : k = n := by omega
        have e1 : ps.drop k = [] := List.drop_of_length_le (by rw [L1.out]; omega)
        have e2 : qs.drop k = [] := List.drop_of_length_le (by rw [L2.out]; omega)
        rw [e1, e2] at ht
        have ht' : true = t := ht
        subst ht'
        clear ht e1 e2
        go_wp2_with fail
        go_ret
        exact ⟨rfl, hb⟩
  · have hl : ps.length ≠ qs.length := by rw [L1.out, L2.out]; exact hnm
    rw [sameL_len hl]
    have hnm' : ((n : Int) == (m : Int)) = false := by
      rw [beq_eq_false_iff_ne]
      omega
    clear hR hQ hl
    go_enter Tryz.func147, Tryz.ntmps147
    go_wp2_with fail
    go_ret
    exact ⟨rfl, Below.refl _ _⟩
theorem slicesEqual_any (a b : Option Addr) (n m c1 c2 B : Nat) (ps qs : List PinD) (w : World) (hR : PRow w B a n c1 ps) (hQ : PRow w B b m c2 qs) (hB : B ≤ w.heap.size) :
    Calls Tryz.prog 97 #[.slice a n c1, .slice b m c2] w fun e w' => e = .returned (.bool (sameL ps qs)) ∧ Below w.heap.size w w' := by
  have f1 := hR.fits
  have m1 := hR.most
  have f2 := hQ.fits
  have m2 := hQ.most
  unfold maxLen at m1 m2
  have L1 := Lib.hid hR.length
  have L2 := Lib.hid hQ.length
  by_cases hnm : n = m
  · subst hnm
    have T0 : SameRel w ps qs (sameL ps qs) 0 w := ⟨rfl, Below.refl _ _⟩
    generalize sameL ps qs = t at *
    go_enter Tryz.func97, Tryz.ntmps97
    go_wp2_with fail
    go_loopw [13] (fun i wr => ∃ k : Nat, k ≤ n ∧ i = .int .i64 k ∧ SameRel w ps qs t k wr) (fun i _ => n - (intOf i).toNat)
    case atStart => exact ⟨0, Nat.zero_le _, rfl, T0⟩
    case round =>
      obtain ⟨k, hk, rfl, ht, hb⟩ := hrel
      by_cases hlt : k < n
      · obtain ⟨b1, o1, ha1, hb1, c0, c1, c2, c3, c4⟩ := (hR.below (hb.mono hB)).at' hlt
        obtain ⟨b2, o2, ha2, hb2, d0, d1, d2, d3, d4⟩ := (hQ.below (hb.mono hB)).at' hlt
        have hs := sameL_step (k := k) (ps := ps) (qs := qs) (by rw [L1.out]; exact hlt) (by rw [L2.out]; exact hlt)
        rw [ht] at hs
        have N := fun w => pin_neq (ps[k]?.getD pin0) (qs[k]?.getD pin0) w
        have G := fun op x y w => pin_guard op x y (ps[k]?.getD pin0) (qs[k]?.getD pin0) w
        have HB := Lib.hid hb
        clear hb hR hQ ht T0
        subst ha1
        subst ha2
        generalize ps[k]?.getD pin0 = p at *
        generalize qs[k]?.getD pin0 = q at *
        generalize pinEq p q = c at *
        cases c
        · rw [Bool.false_and] at hs
          subst hs
          go_wp2_with fail
          refine wp_region_line (Bel wr) [(0, true), (1, true), (2, true), (3, true), (4, true), (5, true), (6, true), (7, true), (8, true)] (by kernel_rfl) (by kernel_rfl) (fun _ _ d _ _ h => by cases d <;> exact h) (Bel.drew wr) ?_
          have hst := Bel.drew wr
          have inst : Nonempty (Of (Bel wr)) := ⟨⟨_, hst⟩⟩
          have q0 := bel_cell c0
          have q1 := bel_cell c1
          have q2 := bel_cell c2
          have q3 := bel_cell c3
          have q4 := bel_cell c4
          have y0 := bel_cell d0
          have y1 := bel_cell d1
          have y2 := bel_cell d2
          have y3 := bel_cell d3
          have y4 := bel_cell d4
          iterate 9 (refine line_read rfl (by kernel_rfl) (fun K hK => ?_); go_big_quiet_op; refine hK _ ?_; clear hK K)
          refine line_nil ?_
          have bb := btr HB.out hst.out
          clear hst inst q0 q1 q2 q3 q4 y0 y1 y2 y3 y4 c0 c1 c2 c3 c4 d0 d1 d2 d3 d4 HB N G
          go_wp2_with fail
          go_ret
          exact ⟨rfl, bb⟩
        · rw [Bool.true_and] at hs
          have HS := Lib.hid hs
          clear hs
          go_wp2_with fail
          refine wp_region_line (Bel wr) [(0, true), (1, true), (2, true), (3, true), (4, true), (5, true), (6, true), (7, true), (8, true)] (by kernel_rfl) (by kernel_rfl) (fun _ _ d _ _ h => by cases d <;> exact h) (Bel.drew wr) ?_
          have hst := Bel.drew wr
          have inst : Nonempty (Of (Bel wr)) := ⟨⟨_, hst⟩⟩
          have q0 := bel_cell c0
          have q1 := bel_cell c1
          have q2 := bel_cell c2
          have q3 := bel_cell c3
          have q4 := bel_cell c4
          have y0 := bel_cell d0
          have y1 := bel_cell d1
          have y2 := bel_cell d2
          have y3 := bel_cell d3
          have y4 := bel_cell d4
          iterate 9 (refine line_read rfl (by kernel_rfl) (fun K hK => ?_); go_big_quiet_op; refine hK _ ?_; clear hK K)
          refine line_nil ?_
          have bb := btr HB.out hst.out
          clear hst inst q0 q1 q2 q3 q4 y0 y1 y2 y3 y4 c0 c1 c2 c3 c4 d0 d1 d2 d3 d4 HB N G
          go_wp2_with fail
          go_roundw
          case rel => exact ⟨k + 1, by omega, by go_num, HS.out.symm, bb⟩
          case measure => simp [intOf]; omega
      · obtain rfl : k = n := by omega
        have e1 : ps.drop k = [] := List.drop_of_length_le (by rw [L1.out]; omega)
        have e2 : qs.drop k = [] := List.drop_of_length_le (by rw [L2.out]; omega)
        rw [e1, e2] at ht
        have ht' : true = t := ht
        subst ht'
        clear ht e1 e2
        go_wp2_with fail
        go_ret
        exact ⟨rfl, hb⟩
  · have hl : ps.length ≠ qs.length := by rw [L1.out, L2.out]; exact hnm
    rw [sameL_len hl]
    have hnm' : ((n : Int) == (m : Int)) = false := by
      rw [beq_eq_false_iff_ne]
      omega
    clear hR hQ hl
    go_enter Tryz.func97, Tryz.ntmps97
    go_wp2_with fail
    go_ret
    exact ⟨rfl, Below.refl _ _⟩
theorem implSamePins_any (a b : Option Addr) (n m c1 c2 B : Nat) (ps qs : List PinD) (w : World) (hR : PRow w B a n c1 ps) (hQ : PRow w B b m c2 qs) (hB : B ≤ w.heap.size) :
    Calls Tryz.prog 34 #[.slice a n c1, .slice b m c2] w fun e w' => e = .returned (.bool (sameL ps qs)) ∧ Below w.heap.size w w' := by
  have S := slicesEqual_any a b n m c1 c2 B ps qs w hR hQ hB
  generalize sameL ps qs = t at *
  clear hR hQ
  go_enter Tryz.func34, Tryz.ntmps34
  go_wp2_with fail
  refine S.mono ?_
  rintro r u1 ⟨rfl, b1⟩
  go_wp2_with fail
  go_ret
  exact ⟨rfl, b1⟩
end Go.Proofs.YtcolecidbalmhaaGreatDoor
namespace Go.Proofs.YtcolecidbalmhaaGreatDoor
open Go.RowKit
set_option maxRecDepth 100000
set_option linter.unusedVariables false

theorem sum_val7 {v : Int} (h : M.sumB v = true) : 256 * (v / 256) + v % 256 = v := by omega
theorem pin_back {p : PinD} (h : p.f = 0) : readR (packPL p) = p ∧ readC (packPL p) = 0 := by
  obtain ⟨-, h1, h2, h3, h4⟩ := pin_bounds h
  have e : pinZ (packP p) = p := by
    obtain ⟨n, a, b, e, u⟩ := p
    have en : pinNm (packP ⟨n, a, b, e, u⟩) = n.data.toList := by
      have : (packP ⟨n, a, b, e, u⟩).drop 7 = M.textL n := rfl
      unfold pinNm
      rw [this]
      unfold M.textL
      rw [List.map_map]
      have : n.data.toList.map ((fun z : Int => UInt8.ofNat z.toNat) ∘ fun c : UInt8 => (c.toNat : Int)) = n.data.toList.map id := List.map_congr_left fun c _ => by simp
      rw [this, List.map_id]
    show PinD.mk (M.bs (pinNm (packP ⟨n, a, b, e, u⟩))) (256 * (a / 256) + a % 256) (256 * (b / 256) + b % 256) e (256 * (u / 256) + u % 256) = _
    rw [en, M.bs_data, sum_val7 h1, sum_val7 h2, sum_val7 h4]
  have ok : pinOk (packP p) = true := by
    unfold pinOk
    rw [e, h, packP_length]
    simp
  have ep : packPL p = packP p := by simp [packPL, h]
  rw [ep]
  unfold readR readC
  rw [ok, e]
  exact ⟨rfl, rfl⟩
/-- What holds once a pin was put. -/
structure PutOk (ps : List PinD) (p : PinD) : Prop where
  fp : p.f = 0
  fr : pinsF (putR ps p) = 0
  fc : findC (putR ps p) p.n.data.toList = 0
  ff : findR (putR ps p) p.n.data.toList = p
  old : putC (putR ps p) p = 11
  was : findC ps p.n.data.toList ≠ 0 ∨ (findC ps p.n.data.toList = 0 ∧ (findR ps p.n.data.toList).e < p.e)
theorem put_ok {ps : List PinD} {p : PinD} (h : putC ps p = 0) : PutOk ps p := by
  have h0 : pinsF ps = 0 := by
    by_cases e : pinsF ps = 0
    · exact e
    · exact absurd ((putC_list (p := p) e).1.symm.trans h) e
  have h1 : p.f = 0 := by
    by_cases e : p.f = 0
    · exact e
    · exact absurd ((putC_pin h0 e).1.symm.trans h) e
  obtain ⟨hl, hf, hr⟩ := pinsF_zero h0
  have er : putR ps p = putL ps p := by unfold putR; rw [if_pos h]
  have hmem : p ∈ putL ps p := (putG_perm p ps).mem_iff.2 (by simp)
  have hr2 := putL_rise p hr
  have hf2 : ∀ q ∈ putL ps p, q.f = 0 := fun q hq => by
    rcases putL_mem hq with rfl | hq
    · exact h1
    · exact hf q hq
  have hlen : (putL ps p).length = (Others ps p).length + 1 := by
    exact (putG_perm p ps).length_eq.trans (List.length_cons ..)
  have hl2 : (putL ps p).length ≤ 4 := by
    rw [hlen]
    cases hq : findP ps p.nm with
    | none =>
      have h4 : ps.length ≠ 4 := fun e => by have := (putC_full h0 h1 hq e).1; omega
      rw [others_none hq]
      omega
    | some q =>
      have := others_lt hq
      omega
  have hp2 := pinsF_make hl2 hf2 hr2
  have hfd : findP (putL ps p) p.nm = some p := findP_of hr2 hmem
  obtain ⟨hn, hb⟩ := M.normF_zero (pinF_zero h1).1
  have hn' : M.nameF p.n.data.toList = 0 := hn
  have hb' : M.nrm p.n.data.toList = p.nm := hb
  refine ⟨h1, by rw [er]; exact hp2, ?_, ?_, ?_, ?_⟩
  · unfold findC
    rw [er, hp2, hn', hb', hfd]
    simp
  · unfold findR
    rw [er, hp2, hn', hb', hfd]
    simp
  · unfold putC
    rw [er, hp2, h1, hfd]
    simp
  · have ec : findC ps p.n.data.toList = match findP ps p.nm with | some _ => 0 | none => 4 := by
      unfold findC
      rw [h0, hn', hb']
      simp only [ne_eq, not_true_eq_false, if_false]
      cases findP ps p.nm <;> rfl
    have efr : findR ps p.n.data.toList = (findP ps p.nm).getD pin0 := by
      unfold findR
      rw [h0, hn', hb']
      simp
    cases hq : findP ps p.nm with
    | none =>
      rw [hq] at ec
      left
      rw [ec]
      decide
    | some q =>
      rw [hq] at ec efr
      right
      refine ⟨ec, ?_⟩
      rw [efr]
      show q.e < p.e
      have : putC ps p = if q.e ≥ p.e then 11 else 0 := by
        unfold putC
        rw [h0, h1, hq]
        simp
      rw [this] at h
      split at h
      · cases h
      · omega
end Go.Proofs.YtcolecidbalmhaaGreatDoor
namespace Go.Proofs.YtcolecidbalmhaaGreatDoor
open Go.RowKit
set_option linter.unusedVariables false

/-- A record of a pin. -/
def recP (p : PinD) : List Int := packP p ++ M.two (M.sumL (packP p))
theorem recP_length (p : PinD) : (recP p).length = 9 + p.n.size := by
  unfold recP
  rw [List.length_append, packP_length]
  show 7 + p.n.size + 2 = _
  omega
theorem sumL_sum9 (zs : List Int) : M.sumB (M.sumL zs) = true := by
  have := M.sumL_bd zs
  simp only [M.sumB, decide_eq_true_eq]; omega
theorem recP_byte {p : PinD} (h : p.f = 0) : ∀ z ∈ recP p, M.byteB z := by
  intro z hz
  rcases List.mem_append.1 hz with hz | hz
  · exact packP_byte h z hz
  · exact M.two_byte (sumL_sum9 _) z hz
/-- A record without its sum; its sum. -/
def body (zs : List Int) : List Int := zs.take (zs.length - 2)
def tailN (zs : List Int) : Int := 256 * zs.getD (zs.length - 2) 0 + zs.getD (zs.length - 1) 0
def recOk (zs : List Int) : Bool := decide (2 ≤ zs.length) && (decide (tailN zs = M.sumL (body zs)) && pinOk (body zs))
theorem body_app (xs : List Int) (n : Int) : body (xs ++ M.two n) = xs := by
  unfold body
  have : (xs ++ M.two n).length - 2 = xs.length := by simp [M.two]
  rw [this, List.take_left]
theorem tail_app (xs : List Int) (n : Int) : tailN (xs ++ M.two n) = n := by
  unfold tailN
  have e : (xs ++ M.two n).length = xs.length + 2 := by simp [M.two]
  rw [e]
  have e0 : (xs ++ M.two n).getD (xs.length + 2 - 2) 0 = n / 256 := by simp [M.two]
  have e1 : (xs ++ M.two n).getD (xs.length + 2 - 1) 0 = n % 256 := by
    rw [show xs.length + 2 - 1 = xs.length + 1 by omega]
    simp [M.two]
  rw [e0, e1]
  omega
theorem pin_back9 {p : PinD} (h : p.f = 0) : pinOk (packP p) = true ∧ pinZ (packP p) = p := by
  obtain ⟨h1, h2⟩ := pin_back h
  have ep : packPL p = packP p := by simp [packPL, h]
  rw [ep] at h1 h2
  cases ok : pinOk (packP p)
  · simp [readC, ok] at h2
  · refine ⟨rfl, ?_⟩
    simpa [readR, ok] using h1
theorem rec_back {p : PinD} (h : p.f = 0) : recOk (recP p) = true ∧ pinZ (body (recP p)) = p := by
  obtain ⟨h1, h2⟩ := pin_back9 h
  have hl := recP_length p
  unfold recOk
  have eb : body (recP p) = packP p := body_app _ _
  have et : tailN (recP p) = M.sumL (packP p) := tail_app _ _
  rw [eb, et, h1, h2]
  refine ⟨?_, rfl⟩
  have : 2 ≤ (recP p).length := by omega
  simp [this]
theorem recOk_pin {zs : List Int} (h : recOk zs = true) : (pinZ (body zs)).f = 0 ∧ 2 ≤ zs.length ∧ tailN zs = M.sumL (body zs) ∧ pinOk (body zs) = true := by
  simp only [recOk, Bool.and_eq_true, decide_eq_true_eq] at h
  have hp := h.2.2
  simp only [pinOk, Bool.and_eq_true, decide_eq_true_eq] at hp
  exact ⟨hp.2, h.1, h.2.1, h.2.2⟩

/-- What a journal tells, from given pins on. -/
def openG : List PinD → List (List Int) → Int × List PinD
  | ps, [] => (0, ps)
  | ps, r :: rs => if recOk r then (if put0 ps (pinZ (body r)) = 0 then openG (putL ps (pinZ (body r))) rs else (put0 ps (pinZ (body r)), [])) else (5, [])
theorem openG_nil (ps : List PinD) : openG ps [] = (0, ps) := by rw [openG]
theorem openG_no {ps : List PinD} {r : List Int} {rs : List (List Int)} (h : recOk r = false) : openG ps (r :: rs) = (5, []) := by rw [openG, h]; rfl
theorem openG_bad {ps : List PinD} {r : List Int} {rs : List (List Int)} (h : recOk r = true) (h1 : put0 ps (pinZ (body r)) ≠ 0) : openG ps (r :: rs) = (put0 ps (pinZ (body r)), []) := by rw [openG, if_pos h, if_neg h1]
theorem openG_put {ps : List PinD} {r : List Int} {rs : List (List Int)} (h : recOk r = true) (h1 : put0 ps (pinZ (body r)) = 0) : openG ps (r :: rs) = openG (putL ps (pinZ (body r))) rs := by rw [openG, if_pos h, if_pos h1]
theorem openG_cases {ps : List PinD} {r : List Int} {rs : List (List Int)} : (recOk r = false ∧ openG ps (r :: rs) = (5, [])) ∨ (recOk r = true ∧ put0 ps (pinZ (body r)) ≠ 0 ∧ openG ps (r :: rs) = (put0 ps (pinZ (body r)), [])) ∨ (recOk r = true ∧ put0 ps (pinZ (body r)) = 0 ∧ openG ps (r :: rs) = openG (putL ps (pinZ (body r))) rs) := by
  cases h : recOk r
  · exact .inl ⟨rfl, openG_no h⟩
  · by_cases h1 : put0 ps (pinZ (body r)) = 0
    · exact .inr (.inr ⟨rfl, h1, openG_put h h1⟩)
    · exact .inr (.inl ⟨rfl, h1, openG_bad h h1⟩)
theorem openG_drop {ps : List PinD} {rs : List (List Int)} {k : Nat} (hk : k < rs.length) : openG ps (rs.drop k) = openG ps ((rs[k]?.getD []) :: rs.drop (k + 1)) := by
  congr 1
  rw [List.drop_eq_getElem_cons hk, List.getElem?_eq_getElem hk]
  rfl
theorem openG_append : ∀ (rs qs : List (List Int)) (ps : List PinD), openG ps (rs ++ qs) = if (openG ps rs).1 = 0 then openG (openG ps rs).2 qs else openG ps rs
  | [], qs, ps => by rw [openG_nil, if_pos rfl]; rfl
  | r :: rs, qs, ps => by
    rw [List.cons_append]
    cases h : recOk r
    · rw [openG_no h, openG_no h]; rfl
    · by_cases h1 : put0 ps (pinZ (body r)) = 0
      · rw [openG_put h h1, openG_put h h1]; exact openG_append rs qs _
      · rw [openG_bad h h1, openG_bad h h1, if_neg h1]
/-- Pins stay right. -/
theorem put_right {ps : List PinD} {p : PinD} (h : pinsF ps = 0) (h1 : p.f = 0) (h2 : put0 ps p = 0) : pinsF (putL ps p) = 0 := by
  have e := put0_code h h1
  have hc : putC ps p = 0 := by rw [e.1]; exact h2
  have := (put_ok hc).fr
  unfold putR at this
  rwa [if_pos hc] at this
theorem openG_right : ∀ {rs : List (List Int)} {ps : List PinD}, pinsF ps = 0 → (openG ps rs).1 = 0 → pinsF (openG ps rs).2 = 0
  | [], ps, h, _ => by rw [openG_nil]; exact h
  | r :: rs, ps, h, h0 => by
    rcases openG_cases (ps := ps) (r := r) (rs := rs) with ⟨_, e⟩ | ⟨_, hp, e⟩ | ⟨ho, hp, e⟩
    · rw [e] at h0; cases h0
    · rw [e] at h0; exact absurd h0 hp
    · rw [e] at h0 ⊢
      exact openG_right (put_right h (recOk_pin ho).1 hp) h0
/-- A pin that is noted. -/
theorem openG_note {rs : List (List Int)} {p : PinD} (h : (openG [] rs).1 = 0) (hp : p.f = 0) : openG [] (rs ++ [recP p]) = if put0 (openG [] rs).2 p = 0 then (0, putL (openG [] rs).2 p) else (put0 (openG [] rs).2 p, []) := by
  obtain ⟨h1, h2⟩ := rec_back hp
  rw [openG_append, if_pos h, openG, if_pos h1, h2, openG_nil]
end Go.Proofs.YtcolecidbalmhaaGreatDoor
namespace Go.Proofs.YtcolecidbalmhaaGreatDoor
set_option linter.unusedVariables false

/-- A rollover: a pin, who says it, a signature. -/
structure RollD where
  p : PinD
  b : Int
  x : Int
  y : Int
def roll0 : RollD := ⟨pin0, 0, 0, 0⟩
instance : Inhabited RollD := ⟨roll0⟩
abbrev R8 (r : RollD) : Value := .agg #[.string r.p.n, .int .i64 r.p.a, .int .i64 r.p.b, .int .i64 r.p.e, .int .i64 r.p.u, .int .i64 r.b, .int .i64 r.x, .int .i64 r.y]
def RollD.vals (r : RollD) : List Value := [.string r.p.n, .int .i64 r.p.a, .int .i64 r.p.b, .int .i64 r.p.e, .int .i64 r.p.u, .int .i64 r.b, .int .i64 r.x, .int .i64 r.y]
theorem RollD.vals_length (r : RollD) : r.vals.length = 8 := rfl
/-- A code and a rollover. -/
abbrev R9 (c : Int) (r : RollD) : Value := .agg #[.int .i64 c, .string r.p.n, .int .i64 r.p.a, .int .i64 r.p.b, .int .i64 r.p.e, .int .i64 r.p.u, .int .i64 r.b, .int .i64 r.x, .int .i64 r.y]
def RL9 (c : Int) (r : RollD) : List Value := [.int .i64 c, .string r.p.n, .int .i64 r.p.a, .int .i64 r.p.b, .int .i64 r.p.e, .int .i64 r.p.u, .int .i64 r.b, .int .i64 r.x, .int .i64 r.y]
/-- The cells of rollovers. -/
def flatR (rs : List RollD) : List Value := rs.flatMap RollD.vals
theorem flatR_cons (p : RollD) (ps : List RollD) : flatR (p :: ps) = p.vals ++ flatR ps := by simp [flatR]
theorem flatR_length : ∀ ps : List RollD, (flatR ps).length = ps.length * 8
  | [] => rfl
  | p :: r => by rw [flatR_cons, List.length_append, flatR_length r, RollD.vals_length, List.length_cons]; omega
theorem flatR_get : ∀ (ps : List RollD) (j i : Nat) (v : Value), j < ps.length → (ps[j]?.getD roll0).vals[i]? = some v → (flatR ps)[j * 8 + i]? = some v
  | [], j, i, v, hj, _ => by simp at hj
  | p :: r, 0, i, v, _, h => by
    have hi : i < 8 := by have := (List.getElem?_eq_some_iff.1 h).1; simpa [RollD.vals_length] using this
    rw [flatR_cons, Nat.zero_mul, Nat.zero_add, List.getElem?_append_left (by rw [RollD.vals_length]; exact hi)]
    simpa using h
  | p :: r, j + 1, i, v, hj, h => by
    have := flatR_get r j i v (by simpa using hj) (by simpa using h)
    rw [flatR_cons, List.getElem?_append_right (by rw [RollD.vals_length]; omega), RollD.vals_length, show (j + 1) * 8 + i - 8 = j * 8 + i by omega]
    exact this

/-- What is wrong with a rollover. -/
def RollD.f (r : RollD) : Int := if r.p.f = 0 then (if pubB r.b then M.sigF r.x r.y else 3) else r.p.f
theorem rollF_pin {r : RollD} (h : r.p.f ≠ 0) : r.f = r.p.f := by unfold RollD.f; rw [if_neg h]
theorem rollF_by {r : RollD} (h : r.p.f = 0) (h1 : pubB r.b = false) : r.f = 3 := by unfold RollD.f; rw [if_pos h, h1]; rfl
theorem rollF_sig {r : RollD} (h : r.p.f = 0) (h1 : pubB r.b = true) : r.f = M.sigF r.x r.y := by unfold RollD.f; rw [if_pos h, if_pos h1]
theorem sigF_no {x y : Int} (h : M.sigB x y = false) : M.sigF x y = 3 := by simp [M.sigF, h]
theorem sigF_yes {x y : Int} (h : M.sigB x y = true) : M.sigF x y = 0 := by simp [M.sigF, h]
theorem rollF_zero {r : RollD} (h : r.f = 0) : r.p.f = 0 ∧ pubB r.b = true ∧ M.sigB r.x r.y = true := by
  by_cases h0 : r.p.f = 0
  · cases h1 : pubB r.b
    · rw [rollF_by h0 h1] at h; omega
    · rw [rollF_sig h0 h1] at h
      cases h2 : M.sigB r.x r.y
      · rw [sigF_no h2] at h; omega
      · exact ⟨h0, rfl, rfl⟩
  · rw [rollF_pin h0] at h; exact absurd h h0
/-- What who names a pin as the next one signs. -/
def rsum (p : PinD) : Int := M.tagL M.rollS [M.sumL (packP p)]
def rsumV (p : PinD) : Int := if p.f = 0 then rsum p else 0
/-- Why a rollover may not follow a pin. -/
def chk (o : PinD) (r : RollD) (t : Int) : Int :=
  if r.p.nm = o.nm then (if r.p.e = o.e + 1 then (if r.b = o.a ∨ r.b = o.b then (if t ≤ o.u then (if M.checkB r.b (rsum r.p) r.x r.y then 0 else 9) else 11) else 10) else 11) else 1
theorem chk_name {o : PinD} {r : RollD} {t : Int} (h : r.p.nm ≠ o.nm) : chk o r t = 1 := by unfold chk; rw [if_neg h]
theorem chk_ep {o : PinD} {r : RollD} {t : Int} (h : r.p.nm = o.nm) (h1 : r.p.e ≠ o.e + 1) : chk o r t = 11 := by unfold chk; rw [if_pos h, if_neg h1]
theorem chk_by {o : PinD} {r : RollD} {t : Int} (h : r.p.nm = o.nm) (h1 : r.p.e = o.e + 1) (h2 : r.b ≠ o.a) (h3 : r.b ≠ o.b) : chk o r t = 10 := by
  unfold chk; rw [if_pos h, if_pos h1, if_neg (by rintro (h | h); exact h2 h; exact h3 h)]
theorem chk_old {o : PinD} {r : RollD} {t : Int} (h : r.p.nm = o.nm) (h1 : r.p.e = o.e + 1) (h2 : r.b = o.a ∨ r.b = o.b) (h3 : ¬ t ≤ o.u) : chk o r t = 11 := by unfold chk; rw [if_pos h, if_pos h1, if_pos h2, if_neg h3]
theorem chk_sign {o : PinD} {r : RollD} {t : Int} (h : r.p.nm = o.nm) (h1 : r.p.e = o.e + 1) (h2 : r.b = o.a ∨ r.b = o.b) (h3 : t ≤ o.u) (h4 : M.checkB r.b (rsum r.p) r.x r.y = false) : chk o r t = 9 := by unfold chk; rw [if_pos h, if_pos h1, if_pos h2, if_pos h3, h4]; rfl
theorem chk_yes {o : PinD} {r : RollD} {t : Int} (h : r.p.nm = o.nm) (h1 : r.p.e = o.e + 1) (h2 : r.b = o.a ∨ r.b = o.b) (h3 : t ≤ o.u) (h4 : M.checkB r.b (rsum r.p) r.x r.y = true) : chk o r t = 0 := by unfold chk; rw [if_pos h, if_pos h1, if_pos h2, if_pos h3, if_pos h4]
def checkF (o : PinD) (r : RollD) (t : Int) : Int := if o.f = 0 then (if r.f = 0 then (if timB t then chk o r t else 3) else r.f) else o.f
theorem checkF_old {o : PinD} {r : RollD} {t : Int} (h : o.f ≠ 0) : checkF o r t = o.f := by unfold checkF; rw [if_neg h]
theorem checkF_roll {o : PinD} {r : RollD} {t : Int} (h : o.f = 0) (h1 : r.f ≠ 0) : checkF o r t = r.f := by unfold checkF; rw [if_pos h, if_neg h1]
theorem checkF_time {o : PinD} {r : RollD} {t : Int} (h : o.f = 0) (h1 : r.f = 0) (h2 : timB t = false) : checkF o r t = 3 := by unfold checkF; rw [if_pos h, if_pos h1, h2]; rfl
theorem checkF_chk {o : PinD} {r : RollD} {t : Int} (h : o.f = 0) (h1 : r.f = 0) (h2 : timB t = true) : checkF o r t = chk o r t := by unfold checkF; rw [if_pos h, if_pos h1, if_pos h2]
/-- Chains of rollovers. -/
def chainG : PinD → List RollD → Int → Int
  | _, [], _ => 0
  | o, r :: rs, t => if checkF o r t = 0 then chainG r.p rs t else checkF o r t
def chainF (o : PinD) (rs : List RollD) (t : Int) : Int := if o.f = 0 then (if 8 < rs.length then 2 else chainG o rs t) else o.f
/-- The pin ahead of rollover k. -/
def prevP (o : PinD) (rs : List RollD) : Nat → PinD
  | 0 => o
  | k + 1 => (rs[k]?.getD roll0).p
/-- A rollover among pins. -/
def applyC (ps : List PinD) (r : RollD) (t : Int) : Int :=
  if pinsF ps = 0 then (if r.f = 0 then (match findP ps r.p.nm with
    | none => 4
    | some q => if checkF q r t = 0 then putC ps r.p else checkF q r t) else r.f) else pinsF ps
def applyL (ps : List PinD) (r : RollD) (t : Int) : List PinD := if applyC ps r t = 0 then putR ps r.p else []
theorem applyC_list {ps : List PinD} {r : RollD} {t : Int} (h : pinsF ps ≠ 0) : applyC ps r t = pinsF ps ∧ applyL ps r t = [] := by
  have e : applyC ps r t = pinsF ps := by unfold applyC; rw [if_neg h]
  exact ⟨e, by unfold applyL; rw [e, if_neg h]⟩
theorem applyC_roll {ps : List PinD} {r : RollD} {t : Int} (h : pinsF ps = 0) (h1 : r.f ≠ 0) : applyC ps r t = r.f ∧ applyL ps r t = [] := by
  have e : applyC ps r t = r.f := by unfold applyC; rw [if_pos h, if_neg h1]
  exact ⟨e, by unfold applyL; rw [e, if_neg h1]⟩
theorem applyC_none {ps : List PinD} {r : RollD} {t : Int} (h : pinsF ps = 0) (h1 : r.f = 0) (h2 : findP ps r.p.nm = none) : applyC ps r t = 4 ∧ applyL ps r t = [] := by
  have e : applyC ps r t = 4 := by unfold applyC; rw [if_pos h, if_pos h1, h2]
  exact ⟨e, by unfold applyL; rw [e]; rfl⟩
theorem applyC_check {ps : List PinD} {r : RollD} {t : Int} {q : PinD} (h : pinsF ps = 0) (h1 : r.f = 0) (h2 : findP ps r.p.nm = some q) (h3 : checkF q r t ≠ 0) : applyC ps r t = checkF q r t ∧ applyL ps r t = [] := by
  have e : applyC ps r t = checkF q r t := by
    unfold applyC; rw [if_pos h, if_pos h1, h2]
    simp only
    rw [if_neg h3]
  exact ⟨e, by unfold applyL; rw [e, if_neg h3]⟩
theorem applyC_put {ps : List PinD} {r : RollD} {t : Int} {q : PinD} (h : pinsF ps = 0) (h1 : r.f = 0) (h2 : findP ps r.p.nm = some q) (h3 : checkF q r t = 0) : applyC ps r t = putC ps r.p ∧ applyL ps r t = putR ps r.p := by
  have e : applyC ps r t = putC ps r.p := by
    unfold applyC; rw [if_pos h, if_pos h1, h2]
    simp only
    rw [if_pos h3]
  refine ⟨e, ?_⟩
  unfold applyL
  rw [e]
  by_cases h4 : putC ps r.p = 0
  · rw [if_pos h4]
  · rw [if_neg h4]; unfold putR; rw [if_neg h4]
theorem applyC_zero {ps : List PinD} {r : RollD} {t : Int} (h : applyC ps r t = 0) : pinsF ps = 0 ∧ r.f = 0 ∧ ∃ q, findP ps r.p.nm = some q ∧ checkF q r t = 0 ∧ putC ps r.p = 0 ∧ applyL ps r t = putR ps r.p := by
  by_cases h0 : pinsF ps = 0
  · by_cases h1 : r.f = 0
    · cases h2 : findP ps r.p.nm with
      | none => rw [(applyC_none h0 h1 h2).1] at h; omega
      | some q =>
        by_cases h3 : checkF q r t = 0
        · obtain ⟨e1, e2⟩ := applyC_put h0 h1 h2 h3
          exact ⟨h0, h1, q, rfl, h3, e1 ▸ h, e2⟩
        · rw [(applyC_check h0 h1 h2 h3).1] at h; exact absurd h h3
    · rw [(applyC_roll h0 h1).1] at h; exact absurd h h1
  · rw [(applyC_list h0).1] at h; exact absurd h h0
/-- A rollover that is signed. -/
def signD (s : Int) (p : PinD) : RollD := ⟨p, M.pubN s, M.sigPt s (rsum p), M.sigPr s (rsum p)⟩
def signC (s : Int) (p : PinD) : Int := if inB s 1 1438 then p.f else 3
def signL (s : Int) (p : PinD) : RollD := if signC s p = 0 then signD s p else roll0
end Go.Proofs.YtcolecidbalmhaaGreatDoor
namespace Go.Proofs.YtcolecidbalmhaaGreatDoor
open Go.RowKit
set_option maxRecDepth 100000
set_option linter.unusedVariables false

def liveB (p : PinD) (t : Int) : Bool := decide (p.f = 0) && timB t && decide (t ≤ p.u)
theorem implIsLive_any (p : PinD) (t : Int) (w : World) (hn : p.n.size ≤ maxLen) :
    Calls Tryz.prog 49 #[P5 p, .int .i64 t] w fun e w' => e = .returned (.bool (liveB p t)) ∧ Below w.heap.size w w' := by
  have b0 := bal (Below.refl _ w) (.cells #[.string p.n, .int .i64 p.a, .int .i64 p.b, .int .i64 p.e, .int .i64 p.u] 31)
  have A0 : At w.heap.size p.vals (w.alloc (.cells #[.string p.n, .int .i64 p.a, .int .i64 p.b, .int .i64 p.e, .int .i64 p.u] 31)) := At.new w p.vals 31
  have F := fun w => implPinFault_any p w hn
  by_cases h0 : p.f = 0
  · rw [h0] at F
    cases ht : timB t
    · rw [show liveB p t = false by simp [liveB, ht]]
      go_enter Tryz.func49, Tryz.ntmps49
      go_wp2_with fail
      generalize w.alloc (.cells #[.string p.n, .int .i64 p.a, .int .i64 p.b, .int .i64 p.e, .int .i64 p.u] 31) = W0 at *
      refine (F _).mono ?_
      rintro r u1 ⟨rfl, b1⟩
      have c4 := (A0.on b1).cell 4 _ rfl
      have B1 := btr b0 b1
      clear A0 b0 b1 F
      go_wp2_with fail
      refine (isTime_any _ _).mono ?_
      rintro r w' ⟨rfl, rfl⟩
      go_wp2_with fail
      go_ret
      exact ⟨rfl, B1⟩
    by_cases hu : t ≤ p.u
    · rw [show liveB p t = true by simp [liveB, h0, ht, hu]]
      go_enter Tryz.func49, Tryz.ntmps49
      go_wp2_with fail
      generalize w.alloc (.cells #[.string p.n, .int .i64 p.a, .int .i64 p.b, .int .i64 p.e, .int .i64 p.u] 31) = W0 at *
      refine (F _).mono ?_
      rintro r u1 ⟨rfl, b1⟩
      have c4 := (A0.on b1).cell 4 _ rfl
      have B1 := btr b0 b1
      clear A0 b0 b1 F
      go_wp2_with fail
      refine (isTime_any _ _).mono ?_
      rintro r w' ⟨rfl, rfl⟩
      go_wp2_with fail
      go_ret
      exact ⟨rfl, B1⟩
    · rw [show liveB p t = false by simp [liveB, hu]]
      go_enter Tryz.func49, Tryz.ntmps49
      go_wp2_with fail
      generalize w.alloc (.cells #[.string p.n, .int .i64 p.a, .int .i64 p.b, .int .i64 p.e, .int .i64 p.u] 31) = W0 at *
      refine (F _).mono ?_
      rintro r u1 ⟨rfl, b1⟩
      have c4 := (A0.on b1).cell 4 _ rfl
      have B1 := btr b0 b1
      clear A0 b0 b1 F
      go_wp2_with fail
      refine (isTime_any _ _).mono ?_
      rintro r w' ⟨rfl, rfl⟩
      go_wp2_with fail
      go_ret
      exact ⟨by simpa using hu, B1⟩
  · rw [show liveB p t = false by simp [liveB, h0]]
    generalize p.f = c at *
    have q0 : (c == 0) = false := by simpa using h0
    go_enter Tryz.func49, Tryz.ntmps49
    go_wp2_with fail
    generalize w.alloc (.cells #[.string p.n, .int .i64 p.a, .int .i64 p.b, .int .i64 p.e, .int .i64 p.u] 31) = W0 at *
    refine (F _).mono ?_
    rintro r u1 ⟨rfl, b1⟩
    have c4 := (A0.on b1).cell 4 _ rfl
    have B1 := btr b0 b1
    clear A0 b0 b1 F
    go_wp2_with fail
    go_ret
    exact ⟨rfl, B1⟩
theorem l7Live_any (g : Nat) (p : PinD) (t : Int) (w : World) (A : At g p.vals w) : Calls Tryz.prog 226 #[.pointer (some ⟨g, 0, none⟩), .int .i64 t] w fun e w' => e = .returned (.bool (decide (t ≤ p.u))) ∧ Below w.heap.size w w' := by
  have c4 := A.cell 4 _ rfl
  go_enter Tryz.func226, Tryz.ntmps226
  go_wp2_with fail
  go_ret
  exact ⟨rfl, Below.refl _ _⟩
end Go.Proofs.YtcolecidbalmhaaGreatDoor
namespace Go.Proofs.YtcolecidbalmhaaGreatDoor
set_option linter.unusedVariables false

/-- What holds once a rollover was applied. -/
structure AppOk (ps : List PinD) (r : RollD) (t : Int) : Prop where
  res : applyL ps r t = putR ps r.p
  fr : pinsF (putR ps r.p) = 0
  ff : findR (putR ps r.p) r.p.n.data.toList = r.p
  len : (putR ps r.p).length = ps.length
  once : applyC (putR ps r.p) r t ≠ 0
/-- What holds of a rollover that may follow. -/
structure ChkOk (o : PinD) (r : RollD) (t : Int) : Prop where
  ep : r.p.e = o.e + 1
  who : r.b = o.a ∨ r.b = o.b
  live : liveB o t = true
  pf : r.p.f = 0
  sign : M.checkB r.b (rsumV r.p) r.x r.y = true
end Go.Proofs.YtcolecidbalmhaaGreatDoor
