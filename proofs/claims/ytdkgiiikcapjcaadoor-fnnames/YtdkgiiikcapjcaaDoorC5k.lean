/- Contracts of how supplied keys are read out of bytes, by the program and by its model. Conditions: as each theorem states. -/
import Derived.Test.YtdkgiiikcapjcaaDoorC5j
namespace Go.Proofs.YtdkgiiikcapjcaaDoor
open Go.RowKit
set_option maxRecDepth 100000
set_option linter.unusedVariables false

/-- The name that stands in bytes. -/
def keyNm (zs : List Int) : List UInt8 := (zs.drop 4).map fun z => UInt8.ofNat z.toNat
theorem keyNm_str (zs : List Int) : strOf (zs.drop 4) = M.bs (keyNm zs) := by
  rw [← M.bs_data (strOf _), strOf, strOf_data]
  simp [keyNm]
def keyF (zs : List Int) : Int := M.tlsaF (keyNm zs) (zs.getD 0 0) (zs.getD 1 0) (256 * zs.getD 2 0 + zs.getD 3 0)
def keyOk (zs : List Int) : Bool := decide (4 ≤ zs.length) && decide (keyF zs = 0)
abbrev keyT (zs : List Int) : Value := T5 (if keyOk zs then 0 else 5) (M.bs (if keyOk zs then keyNm zs else [])) (if keyOk zs then zs.getD 0 0 else 0) (if keyOk zs then zs.getD 1 0 else 0) (if keyOk zs then 256 * zs.getD 2 0 + zs.getD 3 0 else 0)
theorem keyT_no {zs : List Int} (h : keyOk zs = false) : keyT zs = T5 5 { data := #[] } 0 0 0 := by simp [keyT, h, M.bs]
theorem keyT_yes {zs : List Int} (h : keyOk zs = true) : keyT zs = T5 0 (M.bs (keyNm zs)) (zs.getD 0 0) (zs.getD 1 0) (256 * zs.getD 2 0 + zs.getD 3 0) := by simp [keyT, h]
theorem keyOk_short {zs : List Int} (h : zs.length < 5) : keyOk zs = false := by
  unfold keyOk
  by_cases h4 : 4 ≤ zs.length
  · have e : keyNm zs = [] := by
      unfold keyNm
      rw [List.drop_of_length_le (by omega)]
      rfl
    have : keyF zs = 5 := by
      unfold keyF
      rw [e]
      have h5 : M.nameF [] = 5 := by decide
      have h6 : M.normF [] = 5 := by rw [M.normF_no (by rw [h5]; omega), h5]
      rw [M.tlsaF_norm (by rw [h6]; omega), h6]
    rw [this]
    simp
  · simp [h4]
/-- A supplied key lies in a block of its own. -/
def KeyAt (V : World) (n : ByteArray) (u m x : Int) (v : Value) (wx : World) : Prop := ∃ g, v = .pointer (some ⟨g, 0, none⟩) ∧ At g (TL4 n u m x) wx ∧ Below V.heap.size V wx ∧ V.heap.size ≤ g

/-- No byte makes no text, wherever it is taken from. -/
theorem conv_none (a a' : Option Addr) (c c' : Nat) (w : World) (hc : c ≤ maxLen) (hc' : c' ≤ maxLen) : (convert 22 9 (.slice a 0 c)).run Tryd.prog w = (convert 22 9 (.slice a' 0 c')).run Tryd.prog w := by
  have hR : ∀ (a : Option Addr) (c : Nat), c ≤ maxLen → Row .u8 w 0 a 0 c [] := fun a c hc => ⟨rfl, (fun _ h => by cases h), Nat.zero_le _, hc, fun h => absurd h (by omega)⟩
  rw [conv_row (hR a c hc), conv_row (hR a' c' hc')]

theorem implReadTlsa_any (a : Option Addr) (len cap B : Nat) (zs : List Int) (w : World) (hR : Row .u8 w B a len cap zs) (hB : B ≤ w.heap.size) :
    Calls Tryd.prog 14 #[.slice a len cap] w fun r w' => r = .returned (keyT zs) ∧ Below w.heap.size w w' := by
  have hlen := hR.fits
  have hmost := hR.most
  have b0 := bal (Below.refl _ w) (.cells #[.int .i64 0, .string { data := #[] }, .int .i64 0, .int .i64 0, .int .i64 0] 32)
  have A0 := At.new w (TL5 0 { data := #[] } 0 0 0) 32
  have hzl := hR.length
  by_cases h4 : len < 4
  · rw [keyT_no (by simp [keyOk, hzl]; omega)]
    have h4' : (len : Int) < 4 := by omega
    have b5 := bal (Below.refl _ w) (.cells #[.int .i64 5, .string { data := #[] }, .int .i64 0, .int .i64 0, .int .i64 0] 32)
    unfold maxLen at hmost
    clear hR
    go_enter Tryd.func14, Tryd.ntmps14
    go_wp2_with fail
    exact bodyPost_ret (v := T5 5 { data := #[] } 0 0 0) (by simp [results, Tryd.results14, go_sem]) rfl ⟨rfl, b5⟩
  obtain ⟨b, off, rfl, hb, hc⟩ := hR.cells (by omega)
  have z0 := hR.byte 0
  have z1 := hR.byte 1
  have z2 := hR.byte 2
  have z3 := hR.byte 3
  have d0 := cell_keep b0 (hc 0 (by omega))
  rw [Nat.add_zero] at d0
  have d1 := cell_keep b0 (hc 1 (by omega))
  have d2 := cell_keep b0 (hc 2 (by omega))
  have d3 := cell_keep b0 (hc 3 (by omega))
  have R1 := hR.below (b0.mono hB)
  have hWB : B ≤ (w.alloc (.cells #[.int .i64 0, .string { data := #[] }, .int .i64 0, .int .i64 0, .int .i64 0] 32)).heap.size := by simp; omega
  have hsub := fun (w' : World) (R : Row .u8 w' B (some ⟨b, off, none⟩) len cap zs) => conv_row (R.sub 4 (len - 4) (cap - 4) (by omega) (by omega) (by omega))
  have edrop : (zs.drop 4).take (len - 4) = zs.drop 4 := List.take_of_length_le (by simp; omega)
  simp only [edrop, keyNm_str] at hsub
  have T1 := fun (w' : World) d2 d3 => readTwo_any b (off + 2) (len - 2) (cap - 2) (zs.getD 2 0) (zs.getD 3 0) w' (by omega) (by omega) (by omega) d2 d3 z2.1 z2.2 z3.1 z3.2
  have hF := fun w => implTlsaFault_any (M.bs (keyNm zs)) (zs.getD 0 0) (zs.getD 1 0) (256 * zs.getD 2 0 + zs.getD 3 0) w (by rw [M.bs_size]; simp only [keyNm, List.length_map, List.length_drop]; omega)
  rw [M.bs_list] at hF
  have hm2 := hmost
  unfold maxLen at hm2
  have h4' : ¬ (len : Int) < 4 := by omega
  have hT : keyT zs = if keyF zs = 0 then T5 0 (M.bs (keyNm zs)) (zs.getD 0 0) (zs.getD 1 0) (256 * zs.getD 2 0 + zs.getD 3 0) else T5 5 { data := #[] } 0 0 0 := by
    by_cases h : keyF zs = 0
    · rw [if_pos h, keyT_yes (by simp [keyOk, h, hzl]; omega)]
    · rw [if_neg h, keyT_no (by simp [keyOk, h])]
  rw [hT]
  change ∀ w, Calls Tryd.prog 23 _ w fun e w' => e = .returned (.int .i64 (keyF zs)) ∧ _ at hF
  generalize keyF zs = cd at *
  generalize M.bs (keyNm zs) = N at *
  generalize zs.getD 0 0 = y0 at *
  generalize zs.getD 1 0 = y1 at *
  generalize zs.getD 2 0 = y2 at *
  generalize zs.getD 3 0 = y3 at *
  clear hR hc hT edrop hmost
  obtain ⟨VV, hVV⟩ : ∃ VV, VV = if cd = 0 then T5 0 N y0 y1 (256 * y2 + y3) else T5 5 { data := #[] } 0 0 0 := ⟨_, rfl⟩
  rw [← hVV]
  have HV := Lib.hid hVV
  clear hVV
  go_enter Tryd.func14, Tryd.ntmps14
  go_upto_region 3 with fail
  generalize w.alloc (.cells #[.int .i64 0, .string { data := #[] }, .int .i64 0, .int .i64 0, .int .i64 0] 32) = W0 at *
  go_cut [3] from 8 to 22 (fun v' wx => KeyAt W0 N y0 y1 (256 * y2 + y3) v' wx)
  case first =>
    refine wp_region_fork (Bel W0) (by kernel_rfl) (Bel.drew W0) ?_
    have hst : (Bel W0) _ := (Bel.drew W0)
    have inst : Nonempty (Of (Bel W0)) := ⟨⟨_, hst⟩⟩
    have u0 := bel_cell d0
    have u1 := bel_cell d1
    have cv : ∀ z : Of (Bel W0), (convert 22 9 (.slice (if cap = 4 then some ⟨b, off, none⟩ else some ⟨b, off + 4, none⟩) (len - 4) (cap - 4))).run Tryd.prog z.val = .ok (.string N) z.val := fun z => by
      have h := hsub _ (R1.below (z.prop.out.mono hWB))
      split
      · rename_i hcap
        have e := conv_none (some ⟨b, off, none⟩) (some ⟨b, off + 4, none⟩) (cap - 4) (cap - 4) z.val (by simp only [maxLen]; omega) (by simp only [maxLen]; omega)
        rw [show len - 4 = 0 by omega] at h ⊢
        rw [e]
        exact h
      · exact h
    generalize W0.drew = V1 at *
    refine any_seg 4 [(0, true), (1, true), (2, true), (3, true), (4, true), (5, true), (6, true), (7, true), (8, true), (9, true), (10, true), (11, true), (12, true)] (by kernel_rfl) (fun _ _ d _ _ h => by cases d <;> exact h) ?_
    iterate 13 (refine line_read rfl (by kernel_rfl) (fun K hK => ?_); go_big_quiet_op; refine hK _ ?_; clear hK K)
    refine line_nil ?_
    clear cv
    generalize (if cap = 4 then some (⟨b, off, none⟩ : Addr) else some ⟨b, off + 4, none⟩) = ad
    have szV1 := hst.out.size
    refine any_fork 13 15 (by kernel_rfl) rfl rfl (by kernel_rfl) (by kernel_rfl) (fun K hK => ?_) (fun K hK => ?_)
    · refine call_any (args := #[.slice (some ⟨b, off + 2, none⟩) (len - 2) (cap - 2)]) rfl (by kernel_rfl) (by kernel_rfl) (T1 _ (cell_keep hst.out d2) (cell_keep hst.out d3)) ?_
      rintro e x13 ⟨rfl, hbn⟩
      have hst2 := hst.on hbn
      refine ⟨_, rfl, hK _ _ hst2 ?_⟩
      clear hK K hst
      have hst := hst2
      clear hst2
      simp only [Act.put, List.setIfInBounds_toArray, List.set_cons_zero, List.set_cons_succ]
      clear hbn
      refine any_rest [(14, true), (15, false), (16, false)] (by kernel_rfl) (fun _ _ d _ _ h => by cases d <;> exact h) ?_
      refine line_readv (v := T4 N y0 y1 (256 * y2 + y3)) rfl (by kernel_rfl) (fun _ => by kernel_rfl) ?_
      simp only [Act.put, List.setIfInBounds_toArray, List.set_cons_zero, List.set_cons_succ]
      refine line_alone rfl (by kernel_rfl) (fun K hK => ?_)
      go_big_op
      have hst2 := hst.on (bal (Below.refl _ x13) (.cells #[.string { data := #[] }, .int .i64 0, .int .i64 0, .int .i64 0] 30))
      have A := At.new x13 (TL4 { data := #[] } 0 0 0) 30
      have leA : W0.heap.size ≤ x13.heap.size := hst.out.size
      refine hK _ _ hst2 ?_
      clear hK K hst
      have hst := hst2
      clear hst2
      generalize x13.alloc (.cells #[.string { data := #[] }, .int .i64 0, .int .i64 0, .int .i64 0] 30) = x15 at *
      have p0 := A.cell 0 _ rfl
      have p1 := A.cell 1 _ rfl
      have p2 := A.cell 2 _ rfl
      have p3 := A.cell 3 _ rfl
      have f0 := A.free 0 _ rfl
      have f1 := A.free 1 _ rfl
      have f2 := A.free 2 _ rfl
      have f3 := A.free 3 _ rfl
      refine line_alone rfl (by kernel_rfl) (fun K hK => ?_)
      go_big_op
      refine hK _ _ (⟨(by (iterate 4 (refine bset ?_ (by dsimp only; omega) _)); exact hst.out)⟩) ?_
      clear hK K
      have A9 := (((A.set 0 (.string N)).set 1 (.int .i64 y0)).set 2 (.int .i64 y1)).set 3 (.int .i64 (256 * y2 + y3))
      refine line_nil ?_
      go_wp2_with fail
      go_meet
      case rel => exact ⟨_, rfl, A9, (by (iterate 4 (refine bset ?_ (by dsimp only; omega) _)); exact hst.out), leA⟩
    · go_big_op
      have hst2 := hst.on (bal (Below.refl _ V1) (.cells #[.string { data := #[] }, .int .i64 0, .int .i64 0, .int .i64 0] 30))
      have A := At.new V1 (TL4 { data := #[] } 0 0 0) 30
      have leA : W0.heap.size ≤ V1.heap.size := hst.out.size
      refine hK _ _ hst2 ?_
      clear hK K hst
      have hst := hst2
      clear hst2
      generalize V1.alloc (.cells #[.string { data := #[] }, .int .i64 0, .int .i64 0, .int .i64 0] 30) = x15 at *
      refine any_rest [(13, false), (14, true), (16, false)] (by kernel_rfl) (fun _ _ d _ _ h => by cases d <;> exact h) ?_
      refine line_alone rfl (by kernel_rfl) (fun K hK => ?_)
      refine call_any (args := #[.slice (some ⟨b, off + 2, none⟩) (len - 2) (cap - 2)]) rfl (by kernel_rfl) (by kernel_rfl) (T1 _ (cell_keep hst.out d2) (cell_keep hst.out d3)) ?_
      rintro e x13 ⟨rfl, hbn⟩
      have hst2 := hst.on hbn
      have A2 := A.on hbn
      clear A
      have A := A2
      clear A2
      refine ⟨_, rfl, hK _ _ hst2 ?_⟩
      clear hK K hst
      have hst := hst2
      clear hst2
      simp only [Act.put, List.setIfInBounds_toArray, List.set_cons_zero, List.set_cons_succ]
      clear hbn
      refine line_readv (v := T4 N y0 y1 (256 * y2 + y3)) rfl (by kernel_rfl) (fun _ => by kernel_rfl) ?_
      simp only [Act.put, List.setIfInBounds_toArray, List.set_cons_zero, List.set_cons_succ]
      have p0 := A.cell 0 _ rfl
      have p1 := A.cell 1 _ rfl
      have p2 := A.cell 2 _ rfl
      have p3 := A.cell 3 _ rfl
      have f0 := A.free 0 _ rfl
      have f1 := A.free 1 _ rfl
      have f2 := A.free 2 _ rfl
      have f3 := A.free 3 _ rfl
      refine line_alone rfl (by kernel_rfl) (fun K hK => ?_)
      go_big_op
      refine hK _ _ (⟨(by (iterate 4 (refine bset ?_ (by dsimp only; omega) _)); exact hst.out)⟩) ?_
      clear hK K
      have A9 := (((A.set 0 (.string N)).set 1 (.int .i64 y0)).set 2 (.int .i64 y1)).set 3 (.int .i64 (256 * y2 + y3))
      refine line_nil ?_
      go_wp2_with fail
      go_meet
      case rel => exact ⟨_, rfl, A9, (by (iterate 4 (refine bset ?_ (by dsimp only; omega) _)); exact hst.out), leA⟩
  case rest =>
    obtain ⟨g, rfl, A1, b1, hg⟩ := hcut
    have x0 := A1.cell 0 _ rfl
    have x1 := A1.cell 1 _ rfl
    have x2 := A1.cell 2 _ rfl
    have x3 := A1.cell 3 _ rfl
    have ltA := A1.lt (by simp)
    by_cases hcd : cd = 0
    · have HW := Lib.hid (show VV = T5 0 N y0 y1 (256 * y2 + y3) by rw [HV.out, if_pos hcd])
      subst hcd
      go_wp2_with fail
      refine (hF _).mono ?_
      rintro r w2 ⟨rfl, b2⟩
      have s0 := (A1.on b2).cell 0 _ rfl
      have s1 := (A1.on b2).cell 1 _ rfl
      have s2 := (A1.on b2).cell 2 _ rfl
      have s3 := (A1.on b2).cell 3 _ rfl
      have bb := btr b1 b2
      have p0 := (A0.on bb).cell 0 _ rfl
      have p1 := (A0.on bb).cell 1 _ rfl
      have p2 := (A0.on bb).cell 2 _ rfl
      have p3 := (A0.on bb).cell 3 _ rfl
      have p4 := (A0.on bb).cell 4 _ rfl
      have z0 := (A0.on bb).free 0 _ rfl
      have z1 := (A0.on bb).free 1 _ rfl
      have z2 := (A0.on bb).free 2 _ rfl
      have z3 := (A0.on bb).free 3 _ rfl
      have z4 := (A0.on bb).free 4 _ rfl
      have B3 := btr b0 bb
      clear A1 A0 b1 b2 bb x0 x1 x2 x3
      go_wp2_with fail
      refine bodyPost_ret (v := T5 0 N y0 y1 (256 * y2 + y3)) (by simp [results, Tryd.results14, go_sem, p0, p1, p2, p3, p4]) rfl ⟨by rw [HW.out], ?_⟩
      exact (by (iterate 5 (refine bset ?_ (by dsimp only; omega) _)); exact B3)
    · have HW := Lib.hid (show VV = T5 5 { data := #[] } 0 0 0 by rw [HV.out, if_neg hcd])
      have q : (cd == 0) = false := by simpa using hcd
      go_wp2_with fail
      refine (hF _).mono ?_
      rintro r w2 ⟨rfl, b2⟩
      have bb := btr b1 b2
      have p0 := (A0.on bb).cell 0 _ rfl
      have p1 := (A0.on bb).cell 1 _ rfl
      have p2 := (A0.on bb).cell 2 _ rfl
      have p3 := (A0.on bb).cell 3 _ rfl
      have p4 := (A0.on bb).cell 4 _ rfl
      have z0 := (A0.on bb).free 0 _ rfl
      have z1 := (A0.on bb).free 1 _ rfl
      have z2 := (A0.on bb).free 2 _ rfl
      have z3 := (A0.on bb).free 3 _ rfl
      have z4 := (A0.on bb).free 4 _ rfl
      have B3 := btr b0 bb
      clear A1 A0 b1 b2 bb x0 x1 x2 x3
      go_wp2_with fail
      refine bodyPost_ret (v := T5 5 { data := #[] } 0 0 0) (by simp [results, Tryd.results14, go_sem, p0, p1, p2, p3, p4]) rfl ⟨by rw [HW.out], ?_⟩
      exact (by (iterate 5 (refine bset ?_ (by dsimp only; omega) _)); exact B3)

theorem specReadTlsa_any (a : Option Addr) (len cap B : Nat) (zs : List Int) (w : World) (hR : Row .u8 w B a len cap zs) (hB : B ≤ w.heap.size) :
    Calls Tryd.prog 21 #[.slice a len cap] w fun r w' => r = .returned (keyT zs) ∧ Below w.heap.size w w' := by
  have hlen := hR.fits
  have hmost := hR.most
  have b0 := bal (Below.refl _ w) (.cells #[.int .i64 0, .string { data := #[] }, .int .i64 0, .int .i64 0, .int .i64 0] 32)
  have A0 := At.new w (TL5 0 { data := #[] } 0 0 0) 32
  have hzl := hR.length
  by_cases h4 : len < 5
  · rw [keyT_no (keyOk_short (by omega))]
    have h4' : (len : Int) < 5 := by omega
    have b5 := bal (Below.refl _ w) (.cells #[.int .i64 5, .string { data := #[] }, .int .i64 0, .int .i64 0, .int .i64 0] 32)
    unfold maxLen at hmost
    clear hR
    go_enter Tryd.func21, Tryd.ntmps21
    go_wp2_with fail
    exact bodyPost_ret (v := T5 5 { data := #[] } 0 0 0) (by simp [results, Tryd.results21, go_sem]) rfl ⟨rfl, b5⟩
  obtain ⟨b, off, rfl, hb, hc⟩ := hR.cells (by omega)
  have z0 := hR.byte 0
  have z1 := hR.byte 1
  have z2 := hR.byte 2
  have z3 := hR.byte 3
  have d0 := cell_keep b0 (hc 0 (by omega))
  rw [Nat.add_zero] at d0
  have d1 := cell_keep b0 (hc 1 (by omega))
  have d2 := cell_keep b0 (hc 2 (by omega))
  have d3 := cell_keep b0 (hc 3 (by omega))
  have R1 := hR.below (b0.mono hB)
  have hWB : B ≤ (w.alloc (.cells #[.int .i64 0, .string { data := #[] }, .int .i64 0, .int .i64 0, .int .i64 0] 32)).heap.size := by simp; omega
  have hsub := fun (w' : World) (R : Row .u8 w' B (some ⟨b, off, none⟩) len cap zs) => conv_row (R.sub 4 (len - 4) (cap - 4) (by omega) (by omega) (by omega))
  have edrop : (zs.drop 4).take (len - 4) = zs.drop 4 := List.take_of_length_le (by simp; omega)
  simp only [edrop, keyNm_str] at hsub
  have T1 := fun (w' : World) d2 d3 => l1At_any b off len cap 2 (zs.getD 2 0) (zs.getD 3 0) w' (by omega) (by omega) hlen hmost d2 d3 z2.1 z2.2 z3.1 z3.2
  have hF := fun g w A => l5Tlsa_any g (M.bs (keyNm zs)) (zs.getD 0 0) (zs.getD 1 0) (256 * zs.getD 2 0 + zs.getD 3 0) w A (by rw [M.bs_size]; simp only [keyNm, List.length_map, List.length_drop]; omega)
  rw [M.bs_list] at hF
  have hm2 := hmost
  unfold maxLen at hm2
  have h4' : ¬ (len : Int) < 5 := by omega
  have hT : keyT zs = if keyF zs = 0 then T5 0 (M.bs (keyNm zs)) (zs.getD 0 0) (zs.getD 1 0) (256 * zs.getD 2 0 + zs.getD 3 0) else T5 5 { data := #[] } 0 0 0 := by
    by_cases h : keyF zs = 0
    · rw [if_pos h, keyT_yes (by simp [keyOk, h, hzl]; omega)]
    · rw [if_neg h, keyT_no (by simp [keyOk, h])]
  rw [hT]
  change ∀ g w, At g _ w → Calls Tryd.prog 56 _ w fun e w' => e = .returned (.int .i64 (keyF zs)) ∧ _ at hF
  generalize keyF zs = cd at *
  generalize M.bs (keyNm zs) = N at *
  generalize zs.getD 0 0 = y0 at *
  generalize zs.getD 1 0 = y1 at *
  generalize zs.getD 2 0 = y2 at *
  generalize zs.getD 3 0 = y3 at *
  clear hR hc hT edrop hmost
  obtain ⟨VV, hVV⟩ : ∃ VV, VV = if cd = 0 then T5 0 N y0 y1 (256 * y2 + y3) else T5 5 { data := #[] } 0 0 0 := ⟨_, rfl⟩
  rw [← hVV]
  have HV := Lib.hid hVV
  clear hVV
  go_enter Tryd.func21, Tryd.ntmps21
  go_upto_region 3 with fail
  generalize w.alloc (.cells #[.int .i64 0, .string { data := #[] }, .int .i64 0, .int .i64 0, .int .i64 0] 32) = W0 at *
  go_cut [3] from 8 to 21 (fun v' wx => KeyAt W0 N y0 y1 (256 * y2 + y3) v' wx)
  case first =>
    refine wp_region_fork (Bel W0) (by kernel_rfl) (Bel.drew W0) ?_
    have hst : (Bel W0) _ := (Bel.drew W0)
    have inst : Nonempty (Of (Bel W0)) := ⟨⟨_, hst⟩⟩
    have u0 := bel_cell d0
    have u1 := bel_cell d1
    have cv : ∀ z : Of (Bel W0), (convert 22 9 (.slice (some ⟨b, off + 4, none⟩) (len - 4) (cap - 4))).run Tryd.prog z.val = .ok (.string N) z.val := fun z => hsub _ (R1.below (z.prop.out.mono hWB))
    generalize W0.drew = V1 at *
    refine any_seg 4 [(0, true), (1, true), (2, true), (3, true), (4, true), (5, true), (6, true), (7, true), (8, true), (10, true), (11, true), (12, true)] (by kernel_rfl) (fun _ _ d _ _ h => by cases d <;> exact h) ?_
    iterate 12 (refine line_read rfl (by kernel_rfl) (fun K hK => ?_); go_big_quiet_op; refine hK _ ?_; clear hK K)
    refine line_nil ?_
    clear cv
    have szV1 := hst.out.size
    refine any_fork 9 14 (by kernel_rfl) rfl rfl (by kernel_rfl) (by kernel_rfl) (fun K hK => ?_) (fun K hK => ?_)
    · refine call_any (args := #[.slice (some ⟨b, off, none⟩) len cap, .int .i64 2]) rfl (by kernel_rfl) (by kernel_rfl) (T1 _ (cell_keep hst.out d2) (cell_keep hst.out d3)) ?_
      rintro e x13 ⟨rfl, hbn⟩
      have hst2 := hst.on hbn
      refine ⟨_, rfl, hK _ _ hst2 ?_⟩
      clear hK K hst
      have hst := hst2
      clear hst2
      simp only [Act.put, List.setIfInBounds_toArray, List.set_cons_zero, List.set_cons_succ]
      clear hbn
      refine any_rest [(13, true), (14, false), (15, false)] (by kernel_rfl) (fun _ _ d _ _ h => by cases d <;> exact h) ?_
      refine line_readv (v := T4 N y0 y1 (256 * y2 + y3)) rfl (by kernel_rfl) (fun _ => by kernel_rfl) ?_
      simp only [Act.put, List.setIfInBounds_toArray, List.set_cons_zero, List.set_cons_succ]
      refine line_alone rfl (by kernel_rfl) (fun K hK => ?_)
      go_big_op
      have hst2 := hst.on (bal (Below.refl _ x13) (.cells #[.string { data := #[] }, .int .i64 0, .int .i64 0, .int .i64 0] 30))
      have A := At.new x13 (TL4 { data := #[] } 0 0 0) 30
      have leA : W0.heap.size ≤ x13.heap.size := hst.out.size
      refine hK _ _ hst2 ?_
      clear hK K hst
      have hst := hst2
      clear hst2
      generalize x13.alloc (.cells #[.string { data := #[] }, .int .i64 0, .int .i64 0, .int .i64 0] 30) = x15 at *
      have p0 := A.cell 0 _ rfl
      have p1 := A.cell 1 _ rfl
      have p2 := A.cell 2 _ rfl
      have p3 := A.cell 3 _ rfl
      have f0 := A.free 0 _ rfl
      have f1 := A.free 1 _ rfl
      have f2 := A.free 2 _ rfl
      have f3 := A.free 3 _ rfl
      refine line_alone rfl (by kernel_rfl) (fun K hK => ?_)
      go_big_op
      refine hK _ _ (⟨(by (iterate 4 (refine bset ?_ (by dsimp only; omega) _)); exact hst.out)⟩) ?_
      clear hK K
      have A9 := (((A.set 0 (.string N)).set 1 (.int .i64 y0)).set 2 (.int .i64 y1)).set 3 (.int .i64 (256 * y2 + y3))
      refine line_nil ?_
      go_wp2_with fail
      go_meet
      case rel => exact ⟨_, rfl, A9, (by (iterate 4 (refine bset ?_ (by dsimp only; omega) _)); exact hst.out), leA⟩
    · go_big_op
      have hst2 := hst.on (bal (Below.refl _ V1) (.cells #[.string { data := #[] }, .int .i64 0, .int .i64 0, .int .i64 0] 30))
      have A := At.new V1 (TL4 { data := #[] } 0 0 0) 30
      have leA : W0.heap.size ≤ V1.heap.size := hst.out.size
      refine hK _ _ hst2 ?_
      clear hK K hst
      have hst := hst2
      clear hst2
      generalize V1.alloc (.cells #[.string { data := #[] }, .int .i64 0, .int .i64 0, .int .i64 0] 30) = x15 at *
      refine any_rest [(9, false), (13, true), (15, false)] (by kernel_rfl) (fun _ _ d _ _ h => by cases d <;> exact h) ?_
      refine line_alone rfl (by kernel_rfl) (fun K hK => ?_)
      refine call_any (args := #[.slice (some ⟨b, off, none⟩) len cap, .int .i64 2]) rfl (by kernel_rfl) (by kernel_rfl) (T1 _ (cell_keep hst.out d2) (cell_keep hst.out d3)) ?_
      rintro e x13 ⟨rfl, hbn⟩
      have hst2 := hst.on hbn
      have A2 := A.on hbn
      clear A
      have A := A2
      clear A2
      refine ⟨_, rfl, hK _ _ hst2 ?_⟩
      clear hK K hst
      have hst := hst2
      clear hst2
      simp only [Act.put, List.setIfInBounds_toArray, List.set_cons_zero, List.set_cons_succ]
      clear hbn
      refine line_readv (v := T4 N y0 y1 (256 * y2 + y3)) rfl (by kernel_rfl) (fun _ => by kernel_rfl) ?_
      simp only [Act.put, List.setIfInBounds_toArray, List.set_cons_zero, List.set_cons_succ]
      have p0 := A.cell 0 _ rfl
      have p1 := A.cell 1 _ rfl
      have p2 := A.cell 2 _ rfl
      have p3 := A.cell 3 _ rfl
      have f0 := A.free 0 _ rfl
      have f1 := A.free 1 _ rfl
      have f2 := A.free 2 _ rfl
      have f3 := A.free 3 _ rfl
      refine line_alone rfl (by kernel_rfl) (fun K hK => ?_)
      go_big_op
      refine hK _ _ (⟨(by (iterate 4 (refine bset ?_ (by dsimp only; omega) _)); exact hst.out)⟩) ?_
      clear hK K
      have A9 := (((A.set 0 (.string N)).set 1 (.int .i64 y0)).set 2 (.int .i64 y1)).set 3 (.int .i64 (256 * y2 + y3))
      refine line_nil ?_
      go_wp2_with fail
      go_meet
      case rel => exact ⟨_, rfl, A9, (by (iterate 4 (refine bset ?_ (by dsimp only; omega) _)); exact hst.out), leA⟩
  case rest =>
    obtain ⟨g, rfl, A1, b1, hg⟩ := hcut
    have x0 := A1.cell 0 _ rfl
    have x1 := A1.cell 1 _ rfl
    have x2 := A1.cell 2 _ rfl
    have x3 := A1.cell 3 _ rfl
    have ltA := A1.lt (by simp)
    by_cases hcd : cd = 0
    · have HW := Lib.hid (show VV = T5 0 N y0 y1 (256 * y2 + y3) by rw [HV.out, if_pos hcd])
      subst hcd
      go_wp2_with fail
      refine (hF _ _ A1).mono ?_
      rintro r w2 ⟨rfl, b2⟩
      have s0 := (A1.on b2).cell 0 _ rfl
      have s1 := (A1.on b2).cell 1 _ rfl
      have s2 := (A1.on b2).cell 2 _ rfl
      have s3 := (A1.on b2).cell 3 _ rfl
      have bb := btr b1 b2
      have p0 := (A0.on bb).cell 0 _ rfl
      have p1 := (A0.on bb).cell 1 _ rfl
      have p2 := (A0.on bb).cell 2 _ rfl
      have p3 := (A0.on bb).cell 3 _ rfl
      have p4 := (A0.on bb).cell 4 _ rfl
      have z0 := (A0.on bb).free 0 _ rfl
      have z1 := (A0.on bb).free 1 _ rfl
      have z2 := (A0.on bb).free 2 _ rfl
      have z3 := (A0.on bb).free 3 _ rfl
      have z4 := (A0.on bb).free 4 _ rfl
      have B3 := btr b0 bb
      clear A1 A0 b1 b2 bb x0 x1 x2 x3
      go_wp2_with fail
      refine bodyPost_ret (v := T5 0 N y0 y1 (256 * y2 + y3)) (by simp [results, Tryd.results21, go_sem, p0, p1, p2, p3, p4]) rfl ⟨by rw [HW.out], ?_⟩
      exact (by (iterate 5 (refine bset ?_ (by dsimp only; omega) _)); exact B3)
    · have HW := Lib.hid (show VV = T5 5 { data := #[] } 0 0 0 by rw [HV.out, if_neg hcd])
      have q : (cd == 0) = false := by simpa using hcd
      go_wp2_with fail
      refine (hF _ _ A1).mono ?_
      rintro r w2 ⟨rfl, b2⟩
      have bb := btr b1 b2
      have p0 := (A0.on bb).cell 0 _ rfl
      have p1 := (A0.on bb).cell 1 _ rfl
      have p2 := (A0.on bb).cell 2 _ rfl
      have p3 := (A0.on bb).cell 3 _ rfl
      have p4 := (A0.on bb).cell 4 _ rfl
      have z0 := (A0.on bb).free 0 _ rfl
      have z1 := (A0.on bb).free 1 _ rfl
      have z2 := (A0.on bb).free 2 _ rfl
      have z3 := (A0.on bb).free 3 _ rfl
      have z4 := (A0.on bb).free 4 _ rfl
      have B3 := btr b0 bb
      clear A1 A0 b1 b2 bb x0 x1 x2 x3
      go_wp2_with fail
      refine bodyPost_ret (v := T5 5 { data := #[] } 0 0 0) (by simp [results, Tryd.results21, go_sem, p0, p1, p2, p3, p4]) rfl ⟨by rw [HW.out], ?_⟩
      exact (by (iterate 5 (refine bset ?_ (by dsimp only; omega) _)); exact B3)
end Go.Proofs.YtdkgiiikcapjcaaDoor
