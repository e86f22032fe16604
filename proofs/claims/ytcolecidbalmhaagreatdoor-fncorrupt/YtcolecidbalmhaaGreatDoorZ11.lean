/- Texts of this seat that several laws rest on, laid into one. Conditions: as each theorem states. -/
import Derived.Test.YtcolecidbalmhaaGreatDoorZ3
import Derived.Test.YtcolecidbalmhaaGreatDoorZ5
import Derived.Test.YtcolecidbalmhaaGreatDoorZ6
import Derived.Test.YtcolecidbalmhaaGreatDoorZ7
import Derived.Test.YtcolecidbalmhaaGreatDoorZ8
import Derived.Test.YtcolecidbalmhaaGreatDoorZ9
import Derived.Laws.StructEq
namespace Go.Proofs.YtcolecidbalmhaaGreatDoor
open Go.RowKit
set_option maxRecDepth 100000
set_option linter.unusedVariables false

/-- The name that stands in bytes. -/
def keyNm (zs : List Int) : List UInt8 := (zs.drop 4).map fun z => UInt8.ofNat z.toNat
def keyF (zs : List Int) : Int := M.tlsaF (keyNm zs) (zs.getD 0 0) (zs.getD 1 0) (256 * zs.getD 2 0 + zs.getD 3 0)
def keyOk (zs : List Int) : Bool := decide (4 ≤ zs.length) && decide (keyF zs = 0)
abbrev keyT (zs : List Int) : Value := T5 (if keyOk zs then 0 else 5) (M.bs (if keyOk zs then keyNm zs else [])) (if keyOk zs then zs.getD 0 0 else 0) (if keyOk zs then zs.getD 1 0 else 0) (if keyOk zs then 256 * zs.getD 2 0 + zs.getD 3 0 else 0)
/-- A supplied key lies in a block of its own. -/
def KeyAt (V : World) (n : ByteArray) (u m x : Int) (v : Value) (wx : World) : Prop := ∃ g, v = .pointer (some ⟨g, 0, none⟩) ∧ At g (TL4 n u m x) wx ∧ Below V.heap.size V wx ∧ V.heap.size ≤ g

/-- No byte makes no text, wherever it is taken from. -/
theorem conv_none (a a' : Option Addr) (c c' : Nat) (w : World) (hc : c ≤ maxLen) (hc' : c' ≤ maxLen) : (convert 22 9 (.slice a 0 c)).run Tryz.prog w = (convert 22 9 (.slice a' 0 c')).run Tryz.prog w := by
  have hR : ∀ (a : Option Addr) (c : Nat), c ≤ maxLen → Row .u8 w 0 a 0 c [] := fun a c hc => ⟨rfl, (fun _ h => by cases h), Nat.zero_le _, hc, fun h => absurd h (by omega)⟩
  rw [conv_row (hR a c hc), conv_row (hR a' c' hc')]

end Go.Proofs.YtcolecidbalmhaaGreatDoor
namespace Go.Proofs.YtcolecidbalmhaaGreatDoor
open Go.RowKit
set_option maxRecDepth 100000
set_option linter.unusedVariables false

/-- The name that stands in bytes; the pin. -/
def pinNm (zs : List Int) : List UInt8 := (zs.drop 7).map fun z => UInt8.ofNat z.toNat
theorem pinNm_str (zs : List Int) : strOf (zs.drop 7) = M.bs (pinNm zs) := by
  rw [← M.bs_data (strOf _), strOf, strOf_data]
  simp [pinNm]
def pinZ (zs : List Int) : PinD := ⟨M.bs (pinNm zs), 256 * zs.getD 0 0 + zs.getD 1 0, 256 * zs.getD 2 0 + zs.getD 3 0, zs.getD 4 0, 256 * zs.getD 5 0 + zs.getD 6 0⟩
def pinOk (zs : List Int) : Bool := decide (7 ≤ zs.length) && decide ((pinZ zs).f = 0)
def readC (zs : List Int) : Int := if pinOk zs then 0 else 5
def readR (zs : List Int) : PinD := if pinOk zs then pinZ zs else pin0
theorem pinOk_short {zs : List Int} (h : zs.length < 8) : pinOk zs = false := by
  unfold pinOk
  by_cases h7 : 7 ≤ zs.length
  · have e : (pinZ zs).nm = [] := by
      show (M.bs (pinNm zs)).data.toList = []
      rw [M.bs_list]
      unfold pinNm
      rw [List.drop_of_length_le (by omega)]
      rfl
    have : (pinZ zs).f = 5 := by
      unfold PinD.f
      rw [e]
      have h5 : M.nameF [] = 5 := by decide
      have h6 : M.normF [] = 5 := by rw [M.normF_no (by rw [h5]; omega), h5]
      rw [pinF_norm (by rw [h6]; omega), h6]
    rw [this]
    simp
  · simp [h7]
theorem pinZ_size (zs : List Int) (h : zs.length ≤ maxLen) : (pinZ zs).n.size ≤ maxLen := by
  show (M.bs (pinNm zs)).size ≤ maxLen
  rw [M.bs_size]
  simp only [pinNm, List.length_map, List.length_drop]
  omega
/-- A pin lies in a block of its own. -/
def PinAt (V : World) (p : PinD) (v : Value) (wx : World) : Prop := ∃ g, v = .pointer (some ⟨g, 0, none⟩) ∧ At g p.vals wx ∧ Below V.heap.size V wx ∧ V.heap.size ≤ g

theorem implReadPin_any (a : Option Addr) (len cap B : Nat) (zs : List Int) (w : World) (hR : Row .u8 w B a len cap zs) (hB : B ≤ w.heap.size) :
    Calls Tryz.prog 159 #[.slice a len cap] w fun r w' => r = .returned (RP6 (readC zs) (readR zs)) ∧ Below w.heap.size w w' := by
  have hlen := hR.fits
  have hmost := hR.most
  have b0 := bal (Below.refl _ w) (.cells #[.int .i64 0, .string { data := #[] }, .int .i64 0, .int .i64 0, .int .i64 0, .int .i64 0] 48)
  have A0 := At.new w [.int .i64 0, .string { data := #[] }, .int .i64 0, .int .i64 0, .int .i64 0, .int .i64 0] 48
  have hzl := hR.length
  by_cases h7 : len < 7
  · have eno : pinOk zs = false := pinOk_short (by omega)
    rw [show readC zs = 5 by simp [readC, eno], show readR zs = pin0 by simp [readR, eno]]
    have h7' : (len : Int) < 7 := by omega
    have b5 := bal (Below.refl _ w) (.cells #[.int .i64 5, .string { data := #[] }, .int .i64 0, .int .i64 0, .int .i64 0, .int .i64 0] 48)
    unfold maxLen at hmost
    clear hR
    go_enter Tryz.func159, Tryz.ntmps159
    go_wp2_with fail
    exact bodyPost_ret (v := RP6 5 ⟨{ data := #[] }, 0, 0, 0, 0⟩) (by simp [results, Tryz.results159, go_sem]) rfl ⟨rfl, b5⟩
  obtain ⟨b, off, rfl, hb, hc⟩ := hR.cells (by omega)
  have z0 := hR.byte 0
  have z1 := hR.byte 1
  have z2 := hR.byte 2
  have z3 := hR.byte 3
  have z4 := hR.byte 4
  have z5 := hR.byte 5
  have z6 := hR.byte 6
  have d0 := cell_keep b0 (hc 0 (by omega))
  rw [Nat.add_zero] at d0
  have d1 := cell_keep b0 (hc 1 (by omega))
  have d2 := cell_keep b0 (hc 2 (by omega))
  have d3 := cell_keep b0 (hc 3 (by omega))
  have d4 := cell_keep b0 (hc 4 (by omega))
  have d5 := cell_keep b0 (hc 5 (by omega))
  have d6 := cell_keep b0 (hc 6 (by omega))
  have R1 := hR.below (b0.mono hB)
  have hWB : B ≤ (w.alloc (.cells #[.int .i64 0, .string { data := #[] }, .int .i64 0, .int .i64 0, .int .i64 0, .int .i64 0] 48)).heap.size := by simp; omega
  have hsub := fun (w' : World) (R : Row .u8 w' B (some ⟨b, off, none⟩) len cap zs) => conv_row (R.sub 7 (len - 7) (cap - 7) (by omega) (by omega) (by omega))
  have edrop : (zs.drop 7).take (len - 7) = zs.drop 7 := List.take_of_length_le (by simp; omega)
  simp only [edrop, pinNm_str] at hsub
  have T0 := fun (w' : World) d0 d1 => readTwo_any b off len cap (zs.getD 0 0) (zs.getD 1 0) w' (by omega) (by omega) (by omega) d0 d1 z0.1 z0.2 z1.1 z1.2
  have T1 := fun (w' : World) d2 d3 => readTwo_any b (off + 2) (len - 2) (cap - 2) (zs.getD 2 0) (zs.getD 3 0) w' (by omega) (by omega) (by omega) d2 d3 z2.1 z2.2 z3.1 z3.2
  have T2 := fun (w' : World) d5 d6 => readTwo_any b (off + 5) (len - 5) (cap - 5) (zs.getD 5 0) (zs.getD 6 0) w' (by omega) (by omega) (by omega) d5 d6 z5.1 z5.2 z6.1 z6.2
  have hF := fun w => implPinFault_any (pinZ zs) w (pinZ_size zs (by rw [hzl]; omega))
  have hm2 := hmost
  unfold maxLen at hm2
  have h7' : ¬ (len : Int) < 7 := by omega
  have hC : readC zs = if (pinZ zs).f = 0 then 0 else 5 := by
    by_cases h : (pinZ zs).f = 0
    · simp [readC, pinOk, h, hzl]; omega
    · simp [readC, pinOk, h]
  have hP : readR zs = if (pinZ zs).f = 0 then pinZ zs else pin0 := by
    by_cases h : (pinZ zs).f = 0
    · simp [readR, pinOk, h, hzl]; omega
    · simp [readR, pinOk, h]
  rw [hC, hP]
  have eZ : pinZ zs = ⟨M.bs (pinNm zs), 256 * zs.getD 0 0 + zs.getD 1 0, 256 * zs.getD 2 0 + zs.getD 3 0, zs.getD 4 0, 256 * zs.getD 5 0 + zs.getD 6 0⟩ := rfl
  generalize pinZ zs = Z at *
  generalize M.bs (pinNm zs) = N at *
  generalize zs.getD 0 0 = y0 at *
  generalize zs.getD 1 0 = y1 at *
  generalize zs.getD 2 0 = y2 at *
  generalize zs.getD 3 0 = y3 at *
  generalize zs.getD 4 0 = y4 at *
  generalize zs.getD 5 0 = y5 at *
  generalize zs.getD 6 0 = y6 at *
  clear hR hc hC hP edrop hmost
  have EZ := Lib.hid eZ
  clear eZ
  go_enter Tryz.func159, Tryz.ntmps159
  go_upto_region 3 with fail
  generalize w.alloc (.cells #[.int .i64 0, .string { data := #[] }, .int .i64 0, .int .i64 0, .int .i64 0, .int .i64 0] 48) = W0 at *
  go_cut [3] from 8 to 23 (fun v' wx => ∃ g, v' = .pointer (some ⟨g, 0, none⟩) ∧ At g [.string N, .int .i64 (256 * y0 + y1), .int .i64 (256 * y2 + y3), .int .i64 y4, .int .i64 (256 * y5 + y6)] wx ∧ Below W0.heap.size W0 wx ∧ W0.heap.size ≤ g)
  case first =>
    refine wp_region_fork (Bel W0) (by kernel_rfl) (Bel.drew W0) ?_
    have hst : (Bel W0) _ := (Bel.drew W0)
    have inst : Nonempty (Of (Bel W0)) := ⟨⟨_, hst⟩⟩
    have u4 := bel_cell d4
    have cv : ∀ z : Of (Bel W0), (convert 22 9 (.slice (if cap = 7 then some ⟨b, off, none⟩ else some ⟨b, off + 7, none⟩) (len - 7) (cap - 7))).run Tryz.prog z.val = .ok (.string N) z.val := fun z => by
      have h := hsub _ (R1.below (z.prop.out.mono hWB))
      split
      · rename_i hcap
        have e := conv_none (some ⟨b, off, none⟩) (some ⟨b, off + 7, none⟩) (cap - 7) (cap - 7) z.val (by simp only [maxLen]; omega) (by simp only [maxLen]; omega)
        rw [show len - 7 = 0 by omega] at h ⊢
        rw [e]
        exact h
      · exact h
    generalize W0.drew = V1 at *
    refine any_seg 6 [(0, true), (1, true), (2, true), (3, true), (5, true), (6, true), (8, true), (9, true), (10, true), (11, true), (12, true), (13, true)] (by kernel_rfl) (fun _ _ d _ _ h => by cases d <;> exact h) ?_
    iterate 12 (refine line_read rfl (by kernel_rfl) (fun K hK => ?_); go_big_quiet_op; refine hK _ ?_; clear hK K)
    refine line_nil ?_
    clear cv u4
    generalize (if cap = 7 then some (⟨b, off, none⟩ : Addr) else some ⟨b, off + 7, none⟩) = ad
    have szV1 := hst.out.size
    refine any_fork 4 16 (by kernel_rfl) rfl rfl (by kernel_rfl) (by kernel_rfl) (fun K hK => ?_) (fun K hK => ?_)
    · refine call_any (args := #[.slice (some ⟨b, off, none⟩) len cap]) rfl (by kernel_rfl) (by kernel_rfl) (T0 _ (cell_keep hst.out d0) (cell_keep hst.out d1)) ?_
      rintro e x1 ⟨rfl, hbn⟩
      have hst2 := hst.on hbn
      refine ⟨_, rfl, hK _ _ hst2 ?_⟩
      clear hK K hst hbn
      have hst := hst2
      clear hst2
      simp only [Act.put, List.setIfInBounds_toArray, List.set_cons_zero, List.set_cons_succ]
      refine any_fork 7 16 (by kernel_rfl) rfl rfl (by kernel_rfl) (by kernel_rfl) (fun K hK => ?_) (fun K hK => ?_)
      · refine call_any (args := #[.slice (some ⟨b, off + 2, none⟩) (len - 2) (cap - 2)]) rfl (by kernel_rfl) (by kernel_rfl) (T1 _ (cell_keep hst.out d2) (cell_keep hst.out d3)) ?_
        rintro e x2 ⟨rfl, hbn⟩
        have hst2 := hst.on hbn
        refine ⟨_, rfl, hK _ _ hst2 ?_⟩
        clear hK K hst hbn
        have hst := hst2
        clear hst2
        simp only [Act.put, List.setIfInBounds_toArray, List.set_cons_zero, List.set_cons_succ]
        refine any_fork 14 16 (by kernel_rfl) rfl rfl (by kernel_rfl) (by kernel_rfl) (fun K hK => ?_) (fun K hK => ?_)
        · refine call_any (args := #[.slice (some ⟨b, off + 5, none⟩) (len - 5) (cap - 5)]) rfl (by kernel_rfl) (by kernel_rfl) (T2 _ (cell_keep hst.out d5) (cell_keep hst.out d6)) ?_
          rintro e x3 ⟨rfl, hbn⟩
          have hst2 := hst.on hbn
          refine ⟨_, rfl, hK _ _ hst2 ?_⟩
          clear hK K hst hbn
          have hst := hst2
          clear hst2
          simp only [Act.put, List.setIfInBounds_toArray, List.set_cons_zero, List.set_cons_succ]
          refine any_rest [(15, true), (16, false), (17, false)] (by kernel_rfl) (fun _ _ d _ _ h => by cases d <;> exact h) ?_
          refine line_readv (v := .agg #[.string N, .int .i64 (256 * y0 + y1), .int .i64 (256 * y2 + y3), .int .i64 y4, .int .i64 (256 * y5 + y6)]) rfl (by kernel_rfl) (fun _ => by kernel_rfl) ?_
          simp only [Act.put, List.setIfInBounds_toArray, List.set_cons_zero, List.set_cons_succ]
          refine line_alone rfl (by kernel_rfl) (fun K hK => ?_)
          go_big_op
          have hst2 := hst.on (bal (Below.refl _ x3) (.cells #[.string { data := #[] }, .int .i64 0, .int .i64 0, .int .i64 0, .int .i64 0] 31))
          have A := At.new x3 [.string { data := #[] }, .int .i64 0, .int .i64 0, .int .i64 0, .int .i64 0] 31
          have leA : W0.heap.size ≤ x3.heap.size := hst.out.size
          refine hK _ _ hst2 ?_
          clear hK K hst
          have hst := hst2
          clear hst2
          generalize x3.alloc (.cells #[.string { data := #[] }, .int .i64 0, .int .i64 0, .int .i64 0, .int .i64 0] 31) = xa at *
          have p0 := A.cell 0 _ rfl
          have p1 := A.cell 1 _ rfl
          have p2 := A.cell 2 _ rfl
          have p3 := A.cell 3 _ rfl
          have p4 := A.cell 4 _ rfl
          have f0 := A.free 0 _ rfl
          have f1 := A.free 1 _ rfl
          have f2 := A.free 2 _ rfl
          have f3 := A.free 3 _ rfl
          have f4 := A.free 4 _ rfl
          refine line_alone rfl (by kernel_rfl) (fun K hK => ?_)
          go_big_op
          refine hK _ _ (⟨(by (iterate 5 (refine bset ?_ (by dsimp only; omega) _)); exact hst.out)⟩) ?_
          clear hK K
          have A9 := (((((A.set 0 (.string N)).set 1 (.int .i64 (256 * y0 + y1))).set 2 (.int .i64 (256 * y2 + y3))).set 3 (.int .i64 y4)).set 4 (.int .i64 (256 * y5 + y6)))
          refine line_nil ?_
          go_wp2_with fail
          go_meet
          case rel => exact ⟨_, rfl, A9, (by (iterate 5 (refine bset ?_ (by dsimp only; omega) _)); exact hst.out), leA⟩
        · go_big_op
          have hst2 := hst.on (bal (Below.refl _ x2) (.cells #[.string { data := #[] }, .int .i64 0, .int .i64 0, .int .i64 0, .int .i64 0] 31))
          have A := At.new x2 [.string { data := #[] }, .int .i64 0, .int .i64 0, .int .i64 0, .int .i64 0] 31
          have leA : W0.heap.size ≤ x2.heap.size := hst.out.size
          refine hK _ _ hst2 ?_
          clear hK K hst
          have hst := hst2
          clear hst2
          generalize x2.alloc (.cells #[.string { data := #[] }, .int .i64 0, .int .i64 0, .int .i64 0, .int .i64 0] 31) = xa at *
          refine any_rest [(14, false), (15, true), (17, false)] (by kernel_rfl) (fun _ _ d _ _ h => by cases d <;> exact h) ?_
          refine line_alone rfl (by kernel_rfl) (fun K hK => ?_)
          refine call_any (args := #[.slice (some ⟨b, off + 5, none⟩) (len - 5) (cap - 5)]) rfl (by kernel_rfl) (by kernel_rfl) (T2 _ (cell_keep hst.out d5) (cell_keep hst.out d6)) ?_
          rintro e x4 ⟨rfl, hbn⟩
          have hst2 := hst.on hbn
          have A2 := A.on hbn
          clear A
          have A := A2
          clear A2
          refine ⟨_, rfl, hK _ _ hst2 ?_⟩
          clear hK K hst hbn
          have hst := hst2
          clear hst2
          simp only [Act.put, List.setIfInBounds_toArray, List.set_cons_zero, List.set_cons_succ]
          refine line_readv (v := .agg #[.string N, .int .i64 (256 * y0 + y1), .int .i64 (256 * y2 + y3), .int .i64 y4, .int .i64 (256 * y5 + y6)]) rfl (by kernel_rfl) (fun _ => by kernel_rfl) ?_
          simp only [Act.put, List.setIfInBounds_toArray, List.set_cons_zero, List.set_cons_succ]
          have p0 := A.cell 0 _ rfl
          have p1 := A.cell 1 _ rfl
          have p2 := A.cell 2 _ rfl
          have p3 := A.cell 3 _ rfl
          have p4 := A.cell 4 _ rfl
          have f0 := A.free 0 _ rfl
          have f1 := A.free 1 _ rfl
          have f2 := A.free 2 _ rfl
          have f3 := A.free 3 _ rfl
          have f4 := A.free 4 _ rfl
          refine line_alone rfl (by kernel_rfl) (fun K hK => ?_)
          go_big_op
          refine hK _ _ (⟨(by (iterate 5 (refine bset ?_ (by dsimp only; omega) _)); exact hst.out)⟩) ?_
          clear hK K
          have A9 := (((((A.set 0 (.string N)).set 1 (.int .i64 (256 * y0 + y1))).set 2 (.int .i64 (256 * y2 + y3))).set 3 (.int .i64 y4)).set 4 (.int .i64 (256 * y5 + y6)))
          refine line_nil ?_
          go_wp2_with fail
          go_meet
          case rel => exact ⟨_, rfl, A9, (by (iterate 5 (refine bset ?_ (by dsimp only; omega) _)); exact hst.out), leA⟩
      · go_big_op
        have hst2 := hst.on (bal (Below.refl _ x1) (.cells #[.string { data := #[] }, .int .i64 0, .int .i64 0, .int .i64 0, .int .i64 0] 31))
        have A := At.new x1 [.string { data := #[] }, .int .i64 0, .int .i64 0, .int .i64 0, .int .i64 0] 31
        have leA : W0.heap.size ≤ x1.heap.size := hst.out.size
        refine hK _ _ hst2 ?_
        clear hK K hst
        have hst := hst2
        clear hst2
        generalize x1.alloc (.cells #[.string { data := #[] }, .int .i64 0, .int .i64 0, .int .i64 0, .int .i64 0] 31) = xa at *
        refine any_rest [(7, false), (14, false), (15, true), (17, false)] (by kernel_rfl) (fun _ _ d _ _ h => by cases d <;> exact h) ?_
        refine line_alone rfl (by kernel_rfl) (fun K hK => ?_)
        refine call_any (args := #[.slice (some ⟨b, off + 2, none⟩) (len - 2) (cap - 2)]) rfl (by kernel_rfl) (by kernel_rfl) (T1 _ (cell_keep hst.out d2) (cell_keep hst.out d3)) ?_
        rintro e x5 ⟨rfl, hbn⟩
        have hst2 := hst.on hbn
        have A2 := A.on hbn
        clear A
        have A := A2
        clear A2
        refine ⟨_, rfl, hK _ _ hst2 ?_⟩
        clear hK K hst hbn
        have hst := hst2
        clear hst2
        simp only [Act.put, List.setIfInBounds_toArray, List.set_cons_zero, List.set_cons_succ]
        refine line_alone rfl (by kernel_rfl) (fun K hK => ?_)
        refine call_any (args := #[.slice (some ⟨b, off + 5, none⟩) (len - 5) (cap - 5)]) rfl (by kernel_rfl) (by kernel_rfl) (T2 _ (cell_keep hst.out d5) (cell_keep hst.out d6)) ?_
        rintro e x6 ⟨rfl, hbn⟩
        have hst2 := hst.on hbn
        have A2 := A.on hbn
        clear A
        have A := A2
        clear A2
        refine ⟨_, rfl, hK _ _ hst2 ?_⟩
        clear hK K hst hbn
        have hst := hst2
        clear hst2
        simp only [Act.put, List.setIfInBounds_toArray, List.set_cons_zero, List.set_cons_succ]
        refine line_readv (v := .agg #[.string N, .int .i64 (256 * y0 + y1), .int .i64 (256 * y2 + y3), .int .i64 y4, .int .i64 (256 * y5 + y6)]) rfl (by kernel_rfl) (fun _ => by kernel_rfl) ?_
        simp only [Act.put, List.setIfInBounds_toArray, List.set_cons_zero, List.set_cons_succ]
        have p0 := A.cell 0 _ rfl
        have p1 := A.cell 1 _ rfl
        have p2 := A.cell 2 _ rfl
        have p3 := A.cell 3 _ rfl
        have p4 := A.cell 4 _ rfl
        have f0 := A.free 0 _ rfl
        have f1 := A.free 1 _ rfl
        have f2 := A.free 2 _ rfl
        have f3 := A.free 3 _ rfl
        have f4 := A.free 4 _ rfl
        refine line_alone rfl (by kernel_rfl) (fun K hK => ?_)
        go_big_op
        refine hK _ _ (⟨(by (iterate 5 (refine bset ?_ (by dsimp only; omega) _)); exact hst.out)⟩) ?_
        clear hK K
        have A9 := (((((A.set 0 (.string N)).set 1 (.int .i64 (256 * y0 + y1))).set 2 (.int .i64 (256 * y2 + y3))).set 3 (.int .i64 y4)).set 4 (.int .i64 (256 * y5 + y6)))
        refine line_nil ?_
        go_wp2_with fail
        go_meet
        case rel => exact ⟨_, rfl, A9, (by (iterate 5 (refine bset ?_ (by dsimp only; omega) _)); exact hst.out), leA⟩
    · go_big_op
      have hst2 := hst.on (bal (Below.refl _ V1) (.cells #[.string { data := #[] }, .int .i64 0, .int .i64 0, .int .i64 0, .int .i64 0] 31))
      have A := At.new V1 [.string { data := #[] }, .int .i64 0, .int .i64 0, .int .i64 0, .int .i64 0] 31
      have leA : W0.heap.size ≤ V1.heap.size := hst.out.size
      refine hK _ _ hst2 ?_
      clear hK K hst
      have hst := hst2
      clear hst2
      generalize V1.alloc (.cells #[.string { data := #[] }, .int .i64 0, .int .i64 0, .int .i64 0, .int .i64 0] 31) = xa at *
      refine any_rest [(4, false), (7, false), (14, false), (15, true), (17, false)] (by kernel_rfl) (fun _ _ d _ _ h => by cases d <;> exact h) ?_
      refine line_alone rfl (by kernel_rfl) (fun K hK => ?_)
      refine call_any (args := #[.slice (some ⟨b, off, none⟩) len cap]) rfl (by kernel_rfl) (by kernel_rfl) (T0 _ (cell_keep hst.out d0) (cell_keep hst.out d1)) ?_
      rintro e x7 ⟨rfl, hbn⟩
      have hst2 := hst.on hbn
      have A2 := A.on hbn
      clear A
      have A := A2
      clear A2
      refine ⟨_, rfl, hK _ _ hst2 ?_⟩
      clear hK K hst hbn
      have hst := hst2
      clear hst2
      simp only [Act.put, List.setIfInBounds_toArray, List.set_cons_zero, List.set_cons_succ]
      refine line_alone rfl (by kernel_rfl) (fun K hK => ?_)
      refine call_any (args := #[.slice (some ⟨b, off + 2, none⟩) (len - 2) (cap - 2)]) rfl (by kernel_rfl) (by kernel_rfl) (T1 _ (cell_keep hst.out d2) (cell_keep hst.out d3)) ?_
      rintro e x8 ⟨rfl, hbn⟩
      have hst2 := hst.on hbn
      have A2 := A.on hbn
      clear A
      have A := A2
      clear A2
      refine ⟨_, rfl, hK _ _ hst2 ?_⟩
      clear hK K hst hbn
      have hst := hst2
      clear hst2
      simp only [Act.put, List.setIfInBounds_toArray, List.set_cons_zero, List.set_cons_succ]
      refine line_alone rfl (by kernel_rfl) (fun K hK => ?_)
      refine call_any (args := #[.slice (some ⟨b, off + 5, none⟩) (len - 5) (cap - 5)]) rfl (by kernel_rfl) (by kernel_rfl) (T2 _ (cell_keep hst.out d5) (cell_keep hst.out d6)) ?_
      rintro e x9 ⟨rfl, hbn⟩
      have hst2 := hst.on hbn
      have A2 := A.on hbn
      clear A
      have A := A2
      clear A2
      refine ⟨_, rfl, hK _ _ hst2 ?_⟩
      clear hK K hst hbn
      have hst := hst2
      clear hst2
      simp only [Act.put, List.setIfInBounds_toArray, List.set_cons_zero, List.set_cons_succ]
      refine line_readv (v := .agg #[.string N, .int .i64 (256 * y0 + y1), .int .i64 (256 * y2 + y3), .int .i64 y4, .int .i64 (256 * y5 + y6)]) rfl (by kernel_rfl) (fun _ => by kernel_rfl) ?_
      simp only [Act.put, List.setIfInBounds_toArray, List.set_cons_zero, List.set_cons_succ]
      have p0 := A.cell 0 _ rfl
      have p1 := A.cell 1 _ rfl
      have p2 := A.cell 2 _ rfl
      have p3 := A.cell 3 _ rfl
      have p4 := A.cell 4 _ rfl
      have f0 := A.free 0 _ rfl
      have f1 := A.free 1 _ rfl
      have f2 := A.free 2 _ rfl
      have f3 := A.free 3 _ rfl
      have f4 := A.free 4 _ rfl
      refine line_alone rfl (by kernel_rfl) (fun K hK => ?_)
      go_big_op
      refine hK _ _ (⟨(by (iterate 5 (refine bset ?_ (by dsimp only; omega) _)); exact hst.out)⟩) ?_
      clear hK K
      have A9 := (((((A.set 0 (.string N)).set 1 (.int .i64 (256 * y0 + y1))).set 2 (.int .i64 (256 * y2 + y3))).set 3 (.int .i64 y4)).set 4 (.int .i64 (256 * y5 + y6)))
      refine line_nil ?_
      go_wp2_with fail
      go_meet
      case rel => exact ⟨_, rfl, A9, (by (iterate 5 (refine bset ?_ (by dsimp only; omega) _)); exact hst.out), leA⟩
  case rest =>
    obtain ⟨g, rfl, A1, b1, hg⟩ := hcut
    have x0 := A1.cell 0 _ rfl
    have x1 := A1.cell 1 _ rfl
    have x2 := A1.cell 2 _ rfl
    have x3 := A1.cell 3 _ rfl
    have x4 := A1.cell 4 _ rfl
    have ltA := A1.lt (by simp)
    have eZ := EZ.out
    by_cases hcd : Z.f = 0
    · rw [hcd] at hF
      have HW := Lib.hid hcd
      clear hcd
      subst eZ
      go_wp2_with fail
      refine (hF _).mono ?_
      rintro r w2 ⟨rfl, b2⟩
      have s0 := (A1.on b2).cell 0 _ rfl
      have s1 := (A1.on b2).cell 1 _ rfl
      have s2 := (A1.on b2).cell 2 _ rfl
      have s3 := (A1.on b2).cell 3 _ rfl
      have s4 := (A1.on b2).cell 4 _ rfl
      have bb := btr b1 b2
      have p0 := (A0.on bb).cell 0 _ rfl
      have p1 := (A0.on bb).cell 1 _ rfl
      have p2 := (A0.on bb).cell 2 _ rfl
      have p3 := (A0.on bb).cell 3 _ rfl
      have p4 := (A0.on bb).cell 4 _ rfl
      have p5 := (A0.on bb).cell 5 _ rfl
      have z0 := (A0.on bb).free 0 _ rfl
      have z1 := (A0.on bb).free 1 _ rfl
      have z2 := (A0.on bb).free 2 _ rfl
      have z3 := (A0.on bb).free 3 _ rfl
      have z4 := (A0.on bb).free 4 _ rfl
      have z5 := (A0.on bb).free 5 _ rfl
      have B3 := btr b0 bb
      clear A1 A0 b1 b2 bb x0 x1 x2 x3 x4 hF
      go_wp2_with fail
      refine bodyPost_ret (v := RP6 0 ⟨N, 256 * y0 + y1, 256 * y2 + y3, y4, 256 * y5 + y6⟩) (by simp [results, Tryz.results159, go_sem, p0, p1, p2, p3, p4, p5]) rfl ⟨by first | rfl | (rw [if_pos HW.out]; rfl), ?_⟩
      exact (by (iterate 6 (refine bset ?_ (by dsimp only; omega) _)); exact B3)
    · have HW := Lib.hid hcd
      have hcd2 := hcd
      generalize hZ : Z.f = cd at hF hcd2
      have q : (cd == 0) = false := by simpa using hcd2
      clear hcd
      subst eZ
      go_wp2_with fail
      refine (hF _).mono ?_
      rintro r w2 ⟨rfl, b2⟩
      have bb := btr b1 b2
      have p0 := (A0.on bb).cell 0 _ rfl
      have p1 := (A0.on bb).cell 1 _ rfl
      have p2 := (A0.on bb).cell 2 _ rfl
      have p3 := (A0.on bb).cell 3 _ rfl
      have p4 := (A0.on bb).cell 4 _ rfl
      have p5 := (A0.on bb).cell 5 _ rfl
      have z0 := (A0.on bb).free 0 _ rfl
      have z1 := (A0.on bb).free 1 _ rfl
      have z2 := (A0.on bb).free 2 _ rfl
      have z3 := (A0.on bb).free 3 _ rfl
      have z4 := (A0.on bb).free 4 _ rfl
      have z5 := (A0.on bb).free 5 _ rfl
      have B3 := btr b0 bb
      clear A1 A0 b1 b2 bb x0 x1 x2 x3 x4 hF
      go_wp2_with fail
      refine bodyPost_ret (v := RP6 5 ⟨{ data := #[] }, 0, 0, 0, 0⟩) (by simp [results, Tryz.results159, go_sem, p0, p1, p2, p3, p4, p5]) rfl ⟨by first | rfl | (rw [if_neg HW.out]; rfl), ?_⟩
      exact (by (iterate 6 (refine bset ?_ (by dsimp only; omega) _)); exact B3)

/-- What the model reads: the pin, and whether it is one. -/
def PinRead (zs : List Int) (w : World) (e : Ending) (w' : World) : Prop := ∃ p : PinD, e = .returned (.tuple #[P5 p, .bool (pinOk zs)]) ∧ (pinOk zs = true → p = pinZ zs) ∧ Below w.heap.size w w'
theorem l7Read_any (a : Option Addr) (len cap B : Nat) (zs : List Int) (w : World) (hR : Row .u8 w B a len cap zs) (hB : B ≤ w.heap.size) :
    Calls Tryz.prog 218 #[.slice a len cap] w (PinRead zs w) := by
  have hlen := hR.fits
  have hmost := hR.most
  have b0 := bal (Below.refl _ w) (.cells #[.string { data := #[] }, .int .i64 0, .int .i64 0, .int .i64 0, .int .i64 0] 31)
  have A0 := At.new w [.string { data := #[] }, .int .i64 0, .int .i64 0, .int .i64 0, .int .i64 0] 31
  have hzl := hR.length
  by_cases h7 : len < 8
  · have eno : pinOk zs = false := pinOk_short (by omega)
    have F : PinRead zs w (.returned (.tuple #[P5 pin0, .bool false])) (w.alloc (.cells #[.string { data := #[] }, .int .i64 0, .int .i64 0, .int .i64 0, .int .i64 0] 31)) := ⟨pin0, by rw [eno], (fun h => by rw [eno] at h; cases h), b0⟩
    have h7' : (len : Int) < 8 := by omega
    unfold maxLen at hmost
    clear hR
    go_enter Tryz.func218, Tryz.ntmps218
    go_wp2_with fail
    exact bodyPost_ret (v := .tuple #[P5 ⟨{ data := #[] }, 0, 0, 0, 0⟩, .bool false]) (by simp [results, Tryz.results218, go_sem]) rfl F
  obtain ⟨b, off, rfl, hb, hc⟩ := hR.cells (by omega)
  have z0 := hR.byte 0
  have z1 := hR.byte 1
  have z2 := hR.byte 2
  have z3 := hR.byte 3
  have z4 := hR.byte 4
  have z5 := hR.byte 5
  have z6 := hR.byte 6
  have d0 := cell_keep b0 (hc 0 (by omega))
  have d1 := cell_keep b0 (hc 1 (by omega))
  have d2 := cell_keep b0 (hc 2 (by omega))
  have d3 := cell_keep b0 (hc 3 (by omega))
  have d4 := cell_keep b0 (hc 4 (by omega))
  have d5 := cell_keep b0 (hc 5 (by omega))
  have d6 := cell_keep b0 (hc 6 (by omega))
  have R1 := hR.below (b0.mono hB)
  have hWB : B ≤ (w.alloc (.cells #[.string { data := #[] }, .int .i64 0, .int .i64 0, .int .i64 0, .int .i64 0] 31)).heap.size := by simp; omega
  have hsub := fun (w' : World) (R : Row .u8 w' B (some ⟨b, off, none⟩) len cap zs) => conv_row (R.sub 7 (len - 7) (cap - 7) (by omega) (by omega) (by omega))
  have edrop : (zs.drop 7).take (len - 7) = zs.drop 7 := List.take_of_length_le (by simp; omega)
  simp only [edrop, pinNm_str] at hsub
  have T0 := fun (w' : World) d0 d1 => l1At_any b off len cap 0 (zs.getD 0 0) (zs.getD 1 0) w' (by omega) (by omega) hlen hmost d0 d1 z0.1 z0.2 z1.1 z1.2
  have T1 := fun (w' : World) d2 d3 => l1At_any b off len cap 2 (zs.getD 2 0) (zs.getD 3 0) w' (by omega) (by omega) hlen hmost d2 d3 z2.1 z2.2 z3.1 z3.2
  have T2 := fun (w' : World) d5 d6 => l1At_any b off len cap 5 (zs.getD 5 0) (zs.getD 6 0) w' (by omega) (by omega) hlen hmost d5 d6 z5.1 z5.2 z6.1 z6.2
  have hF := fun g w A => l7Fault_any g (pinZ zs) w A (pinZ_size zs (by rw [hzl]; omega))
  have hm2 := hmost
  unfold maxLen at hm2
  have h7' : ¬ (len : Int) < 8 := by omega
  have hOk : pinOk zs = ((pinZ zs).f == 0) := by
    unfold pinOk
    rw [decide_eq_true (show 7 ≤ zs.length by omega), Bool.true_and]
    by_cases h : (pinZ zs).f = 0 <;> simp [h]
  have HP := Lib.hid (fun (w' : World) (hb : Below w.heap.size w w') => show PinRead zs w (.returned (.tuple #[P5 (pinZ zs), .bool ((pinZ zs).f == 0)])) w' from ⟨pinZ zs, by rw [hOk], fun _ => rfl, hb⟩)
  have eZ : pinZ zs = ⟨M.bs (pinNm zs), 256 * zs.getD 0 0 + zs.getD 1 0, 256 * zs.getD 2 0 + zs.getD 3 0, zs.getD 4 0, 256 * zs.getD 5 0 + zs.getD 6 0⟩ := rfl
  clear hOk
  generalize HQ : PinRead zs w = Q at *
  clear HQ
  generalize pinZ zs = Z at *
  generalize M.bs (pinNm zs) = N at *
  generalize zs.getD 0 0 = y0 at *
  generalize zs.getD 1 0 = y1 at *
  generalize zs.getD 2 0 = y2 at *
  generalize zs.getD 3 0 = y3 at *
  generalize zs.getD 4 0 = y4 at *
  generalize zs.getD 5 0 = y5 at *
  generalize zs.getD 6 0 = y6 at *
  clear hR hc edrop hmost
  have EZ := Lib.hid eZ
  clear eZ
  go_enter Tryz.func218, Tryz.ntmps218
  go_upto_region 3 with fail
  generalize w.alloc (.cells #[.string { data := #[] }, .int .i64 0, .int .i64 0, .int .i64 0, .int .i64 0] 31) = W0 at *
  go_cut [4] from 10 to 23 (fun v' wx => ∃ g, v' = .pointer (some ⟨g, 0, none⟩) ∧ At g [.string N, .int .i64 (256 * y0 + y1), .int .i64 (256 * y2 + y3), .int .i64 y4, .int .i64 (256 * y5 + y6)] wx ∧ Below W0.heap.size W0 wx ∧ W0.heap.size ≤ g)
  case first =>
    refine wp_region_fork (Bel W0) (by kernel_rfl) (Bel.drew W0) ?_
    have hst : (Bel W0) _ := (Bel.drew W0)
    have inst : Nonempty (Of (Bel W0)) := ⟨⟨_, hst⟩⟩
    have u4 := bel_cell d4
    have cv : ∀ z : Of (Bel W0), (convert 22 9 (.slice (some ⟨b, off + 7, none⟩) (len - 7) (cap - 7))).run Tryz.prog z.val = .ok (.string N) z.val := fun z => hsub _ (R1.below (z.prop.out.mono hWB))
    generalize W0.drew = V1 at *
    refine any_seg 6 [(0, true), (2, true), (4, true), (5, true), (6, true), (7, true), (8, true), (10, true), (11, true), (12, true)] (by kernel_rfl) (fun _ _ d _ _ h => by cases d <;> exact h) ?_
    iterate 10 (refine line_read rfl (by kernel_rfl) (fun K hK => ?_); go_big_quiet_op; refine hK _ ?_; clear hK K)
    refine line_nil ?_
    clear cv u4
    have szV1 := hst.out.size
    refine any_fork 1 14 (by kernel_rfl) rfl rfl (by kernel_rfl) (by kernel_rfl) (fun K hK => ?_) (fun K hK => ?_)
    · refine call_any (args := #[.slice (some ⟨b, off, none⟩) len cap, .int .i64 0]) rfl (by kernel_rfl) (by kernel_rfl) (T0 _ (cell_keep hst.out d0) (cell_keep hst.out d1)) ?_
      rintro e x1 ⟨rfl, hbn⟩
      have hst2 := hst.on hbn
      refine ⟨_, rfl, hK _ _ hst2 ?_⟩
      clear hK K hst hbn
      have hst := hst2
      clear hst2
      simp only [Act.put, List.setIfInBounds_toArray, List.set_cons_zero, List.set_cons_succ]
      refine any_fork 3 14 (by kernel_rfl) rfl rfl (by kernel_rfl) (by kernel_rfl) (fun K hK => ?_) (fun K hK => ?_)
      · refine call_any (args := #[.slice (some ⟨b, off, none⟩) len cap, .int .i64 2]) rfl (by kernel_rfl) (by kernel_rfl) (T1 _ (cell_keep hst.out d2) (cell_keep hst.out d3)) ?_
        rintro e x2 ⟨rfl, hbn⟩
        have hst2 := hst.on hbn
        refine ⟨_, rfl, hK _ _ hst2 ?_⟩
        clear hK K hst hbn
        have hst := hst2
        clear hst2
        simp only [Act.put, List.setIfInBounds_toArray, List.set_cons_zero, List.set_cons_succ]
        refine any_fork 9 14 (by kernel_rfl) rfl rfl (by kernel_rfl) (by kernel_rfl) (fun K hK => ?_) (fun K hK => ?_)
        · refine call_any (args := #[.slice (some ⟨b, off, none⟩) len cap, .int .i64 5]) rfl (by kernel_rfl) (by kernel_rfl) (T2 _ (cell_keep hst.out d5) (cell_keep hst.out d6)) ?_
          rintro e x3 ⟨rfl, hbn⟩
          have hst2 := hst.on hbn
          refine ⟨_, rfl, hK _ _ hst2 ?_⟩
          clear hK K hst hbn
          have hst := hst2
          clear hst2
          simp only [Act.put, List.setIfInBounds_toArray, List.set_cons_zero, List.set_cons_succ]
          refine any_rest [(13, true), (14, false), (15, false)] (by kernel_rfl) (fun _ _ d _ _ h => by cases d <;> exact h) ?_
          refine line_readv (v := .agg #[.string N, .int .i64 (256 * y0 + y1), .int .i64 (256 * y2 + y3), .int .i64 y4, .int .i64 (256 * y5 + y6)]) rfl (by kernel_rfl) (fun _ => by kernel_rfl) ?_
          simp only [Act.put, List.setIfInBounds_toArray, List.set_cons_zero, List.set_cons_succ]
          refine line_alone rfl (by kernel_rfl) (fun K hK => ?_)
          go_big_op
          have hst2 := hst.on (bal (Below.refl _ x3) (.cells #[.string { data := #[] }, .int .i64 0, .int .i64 0, .int .i64 0, .int .i64 0] 31))
          have A := At.new x3 [.string { data := #[] }, .int .i64 0, .int .i64 0, .int .i64 0, .int .i64 0] 31
          have leA : W0.heap.size ≤ x3.heap.size := hst.out.size
          refine hK _ _ hst2 ?_
          clear hK K hst
          have hst := hst2
          clear hst2
          generalize x3.alloc (.cells #[.string { data := #[] }, .int .i64 0, .int .i64 0, .int .i64 0, .int .i64 0] 31) = xa at *
          have p0 := A.cell 0 _ rfl
          have p1 := A.cell 1 _ rfl
          have p2 := A.cell 2 _ rfl
          have p3 := A.cell 3 _ rfl
          have p4 := A.cell 4 _ rfl
          have f0 := A.free 0 _ rfl
          have f1 := A.free 1 _ rfl
          have f2 := A.free 2 _ rfl
          have f3 := A.free 3 _ rfl
          have f4 := A.free 4 _ rfl
          refine line_alone rfl (by kernel_rfl) (fun K hK => ?_)
          go_big_op
          refine hK _ _ (⟨(by (iterate 5 (refine bset ?_ (by dsimp only; omega) _)); exact hst.out)⟩) ?_
          clear hK K
          have A9 := (((((A.set 0 (.string N)).set 1 (.int .i64 (256 * y0 + y1))).set 2 (.int .i64 (256 * y2 + y3))).set 3 (.int .i64 y4)).set 4 (.int .i64 (256 * y5 + y6)))
          refine line_nil ?_
          go_wp2_with fail
          go_meet
          case rel => exact ⟨_, rfl, A9, (by (iterate 5 (refine bset ?_ (by dsimp only; omega) _)); exact hst.out), leA⟩
        · go_big_op
          have hst2 := hst.on (bal (Below.refl _ x2) (.cells #[.string { data := #[] }, .int .i64 0, .int .i64 0, .int .i64 0, .int .i64 0] 31))
          have A := At.new x2 [.string { data := #[] }, .int .i64 0, .int .i64 0, .int .i64 0, .int .i64 0] 31
          have leA : W0.heap.size ≤ x2.heap.size := hst.out.size
          refine hK _ _ hst2 ?_
          clear hK K hst
          have hst := hst2
          clear hst2
          generalize x2.alloc (.cells #[.string { data := #[] }, .int .i64 0, .int .i64 0, .int .i64 0, .int .i64 0] 31) = xa at *
          refine any_rest [(9, false), (13, true), (15, false)] (by kernel_rfl) (fun _ _ d _ _ h => by cases d <;> exact h) ?_
          refine line_alone rfl (by kernel_rfl) (fun K hK => ?_)
          refine call_any (args := #[.slice (some ⟨b, off, none⟩) len cap, .int .i64 5]) rfl (by kernel_rfl) (by kernel_rfl) (T2 _ (cell_keep hst.out d5) (cell_keep hst.out d6)) ?_
          rintro e x4 ⟨rfl, hbn⟩
          have hst2 := hst.on hbn
          have A2 := A.on hbn
          clear A
          have A := A2
          clear A2
          refine ⟨_, rfl, hK _ _ hst2 ?_⟩
          clear hK K hst hbn
          have hst := hst2
          clear hst2
          simp only [Act.put, List.setIfInBounds_toArray, List.set_cons_zero, List.set_cons_succ]
          refine line_readv (v := .agg #[.string N, .int .i64 (256 * y0 + y1), .int .i64 (256 * y2 + y3), .int .i64 y4, .int .i64 (256 * y5 + y6)]) rfl (by kernel_rfl) (fun _ => by kernel_rfl) ?_
          simp only [Act.put, List.setIfInBounds_toArray, List.set_cons_zero, List.set_cons_succ]
          have p0 := A.cell 0 _ rfl
          have p1 := A.cell 1 _ rfl
          have p2 := A.cell 2 _ rfl
          have p3 := A.cell 3 _ rfl
          have p4 := A.cell 4 _ rfl
          have f0 := A.free 0 _ rfl
          have f1 := A.free 1 _ rfl
          have f2 := A.free 2 _ rfl
          have f3 := A.free 3 _ rfl
          have f4 := A.free 4 _ rfl
          refine line_alone rfl (by kernel_rfl) (fun K hK => ?_)
          go_big_op
          refine hK _ _ (⟨(by (iterate 5 (refine bset ?_ (by dsimp only; omega) _)); exact hst.out)⟩) ?_
          clear hK K
          have A9 := (((((A.set 0 (.string N)).set 1 (.int .i64 (256 * y0 + y1))).set 2 (.int .i64 (256 * y2 + y3))).set 3 (.int .i64 y4)).set 4 (.int .i64 (256 * y5 + y6)))
          refine line_nil ?_
          go_wp2_with fail
          go_meet
          case rel => exact ⟨_, rfl, A9, (by (iterate 5 (refine bset ?_ (by dsimp only; omega) _)); exact hst.out), leA⟩
      · go_big_op
        have hst2 := hst.on (bal (Below.refl _ x1) (.cells #[.string { data := #[] }, .int .i64 0, .int .i64 0, .int .i64 0, .int .i64 0] 31))
        have A := At.new x1 [.string { data := #[] }, .int .i64 0, .int .i64 0, .int .i64 0, .int .i64 0] 31
        have leA : W0.heap.size ≤ x1.heap.size := hst.out.size
        refine hK _ _ hst2 ?_
        clear hK K hst
        have hst := hst2
        clear hst2
        generalize x1.alloc (.cells #[.string { data := #[] }, .int .i64 0, .int .i64 0, .int .i64 0, .int .i64 0] 31) = xa at *
        refine any_rest [(3, false), (9, false), (13, true), (15, false)] (by kernel_rfl) (fun _ _ d _ _ h => by cases d <;> exact h) ?_
        refine line_alone rfl (by kernel_rfl) (fun K hK => ?_)
        refine call_any (args := #[.slice (some ⟨b, off, none⟩) len cap, .int .i64 2]) rfl (by kernel_rfl) (by kernel_rfl) (T1 _ (cell_keep hst.out d2) (cell_keep hst.out d3)) ?_
        rintro e x5 ⟨rfl, hbn⟩
        have hst2 := hst.on hbn
        have A2 := A.on hbn
        clear A
        have A := A2
        clear A2
        refine ⟨_, rfl, hK _ _ hst2 ?_⟩
        clear hK K hst hbn
        have hst := hst2
        clear hst2
        simp only [Act.put, List.setIfInBounds_toArray, List.set_cons_zero, List.set_cons_succ]
        refine line_alone rfl (by kernel_rfl) (fun K hK => ?_)
        refine call_any (args := #[.slice (some ⟨b, off, none⟩) len cap, .int .i64 5]) rfl (by kernel_rfl) (by kernel_rfl) (T2 _ (cell_keep hst.out d5) (cell_keep hst.out d6)) ?_
        rintro e x6 ⟨rfl, hbn⟩
        have hst2 := hst.on hbn
        have A2 := A.on hbn
        clear A
        have A := A2
        clear A2
        refine ⟨_, rfl, hK _ _ hst2 ?_⟩
        clear hK K hst hbn
        have hst := hst2
        clear hst2
        simp only [Act.put, List.setIfInBounds_toArray, List.set_cons_zero, List.set_cons_succ]
        refine line_readv (v := .agg #[.string N, .int .i64 (256 * y0 + y1), .int .i64 (256 * y2 + y3), .int .i64 y4, .int .i64 (256 * y5 + y6)]) rfl (by kernel_rfl) (fun _ => by kernel_rfl) ?_
        simp only [Act.put, List.setIfInBounds_toArray, List.set_cons_zero, List.set_cons_succ]
        have p0 := A.cell 0 _ rfl
        have p1 := A.cell 1 _ rfl
        have p2 := A.cell 2 _ rfl
        have p3 := A.cell 3 _ rfl
        have p4 := A.cell 4 _ rfl
        have f0 := A.free 0 _ rfl
        have f1 := A.free 1 _ rfl
        have f2 := A.free 2 _ rfl
        have f3 := A.free 3 _ rfl
        have f4 := A.free 4 _ rfl
        refine line_alone rfl (by kernel_rfl) (fun K hK => ?_)
        go_big_op
        refine hK _ _ (⟨(by (iterate 5 (refine bset ?_ (by dsimp only; omega) _)); exact hst.out)⟩) ?_
        clear hK K
        have A9 := (((((A.set 0 (.string N)).set 1 (.int .i64 (256 * y0 + y1))).set 2 (.int .i64 (256 * y2 + y3))).set 3 (.int .i64 y4)).set 4 (.int .i64 (256 * y5 + y6)))
        refine line_nil ?_
        go_wp2_with fail
        go_meet
        case rel => exact ⟨_, rfl, A9, (by (iterate 5 (refine bset ?_ (by dsimp only; omega) _)); exact hst.out), leA⟩
    · go_big_op
      have hst2 := hst.on (bal (Below.refl _ V1) (.cells #[.string { data := #[] }, .int .i64 0, .int .i64 0, .int .i64 0, .int .i64 0] 31))
      have A := At.new V1 [.string { data := #[] }, .int .i64 0, .int .i64 0, .int .i64 0, .int .i64 0] 31
      have leA : W0.heap.size ≤ V1.heap.size := hst.out.size
      refine hK _ _ hst2 ?_
      clear hK K hst
      have hst := hst2
      clear hst2
      generalize V1.alloc (.cells #[.string { data := #[] }, .int .i64 0, .int .i64 0, .int .i64 0, .int .i64 0] 31) = xa at *
      refine any_rest [(1, false), (3, false), (9, false), (13, true), (15, false)] (by kernel_rfl) (fun _ _ d _ _ h => by cases d <;> exact h) ?_
      refine line_alone rfl (by kernel_rfl) (fun K hK => ?_)
      refine call_any (args := #[.slice (some ⟨b, off, none⟩) len cap, .int .i64 0]) rfl (by kernel_rfl) (by kernel_rfl) (T0 _ (cell_keep hst.out d0) (cell_keep hst.out d1)) ?_
      rintro e x7 ⟨rfl, hbn⟩
      have hst2 := hst.on hbn
      have A2 := A.on hbn
      clear A
      have A := A2
      clear A2
      refine ⟨_, rfl, hK _ _ hst2 ?_⟩
      clear hK K hst hbn
      have hst := hst2
      clear hst2
      simp only [Act.put, List.setIfInBounds_toArray, List.set_cons_zero, List.set_cons_succ]
      refine line_alone rfl (by kernel_rfl) (fun K hK => ?_)
      refine call_any (args := #[.slice (some ⟨b, off, none⟩) len cap, .int .i64 2]) rfl (by kernel_rfl) (by kernel_rfl) (T1 _ (cell_keep hst.out d2) (cell_keep hst.out d3)) ?_
      rintro e x8 ⟨rfl, hbn⟩
      have hst2 := hst.on hbn
      have A2 := A.on hbn
      clear A
      have A := A2
      clear A2
      refine ⟨_, rfl, hK _ _ hst2 ?_⟩
      clear hK K hst hbn
      have hst := hst2
      clear hst2
      simp only [Act.put, List.setIfInBounds_toArray, List.set_cons_zero, List.set_cons_succ]
      refine line_alone rfl (by kernel_rfl) (fun K hK => ?_)
      refine call_any (args := #[.slice (some ⟨b, off, none⟩) len cap, .int .i64 5]) rfl (by kernel_rfl) (by kernel_rfl) (T2 _ (cell_keep hst.out d5) (cell_keep hst.out d6)) ?_
      rintro e x9 ⟨rfl, hbn⟩
      have hst2 := hst.on hbn
      have A2 := A.on hbn
      clear A
      have A := A2
      clear A2
      refine ⟨_, rfl, hK _ _ hst2 ?_⟩
      clear hK K hst hbn
      have hst := hst2
      clear hst2
      simp only [Act.put, List.setIfInBounds_toArray, List.set_cons_zero, List.set_cons_succ]
      refine line_readv (v := .agg #[.string N, .int .i64 (256 * y0 + y1), .int .i64 (256 * y2 + y3), .int .i64 y4, .int .i64 (256 * y5 + y6)]) rfl (by kernel_rfl) (fun _ => by kernel_rfl) ?_
      simp only [Act.put, List.setIfInBounds_toArray, List.set_cons_zero, List.set_cons_succ]
      have p0 := A.cell 0 _ rfl
      have p1 := A.cell 1 _ rfl
      have p2 := A.cell 2 _ rfl
      have p3 := A.cell 3 _ rfl
      have p4 := A.cell 4 _ rfl
      have f0 := A.free 0 _ rfl
      have f1 := A.free 1 _ rfl
      have f2 := A.free 2 _ rfl
      have f3 := A.free 3 _ rfl
      have f4 := A.free 4 _ rfl
      refine line_alone rfl (by kernel_rfl) (fun K hK => ?_)
      go_big_op
      refine hK _ _ (⟨(by (iterate 5 (refine bset ?_ (by dsimp only; omega) _)); exact hst.out)⟩) ?_
      clear hK K
      have A9 := (((((A.set 0 (.string N)).set 1 (.int .i64 (256 * y0 + y1))).set 2 (.int .i64 (256 * y2 + y3))).set 3 (.int .i64 y4)).set 4 (.int .i64 (256 * y5 + y6)))
      refine line_nil ?_
      go_wp2_with fail
      go_meet
      case rel => exact ⟨_, rfl, A9, (by (iterate 5 (refine bset ?_ (by dsimp only; omega) _)); exact hst.out), leA⟩
  case rest =>
    obtain ⟨g, rfl, A1, b1, hg⟩ := hcut
    have eZ := EZ.out
    have ltA := A1.lt (by simp)
    have lt0 : w.heap.size < W0.heap.size := A0.lt (by simp)
    generalize Z.f = cd at *
    subst eZ
    go_wp2_with fail
    have S0 : Hold w g [.string N, .int .i64 (256 * y0 + y1), .int .i64 (256 * y2 + y3), .int .i64 y4, .int .i64 (256 * y5 + y6)] wc.drew := ⟨(btr b0 b1).drew, A1.on (bdrew wc)⟩
    have AA := (A0.on b1).on (bdrew wc)
    refine wp_region_line (Hold w g [.string N, .int .i64 (256 * y0 + y1), .int .i64 (256 * y2 + y3), .int .i64 y4, .int .i64 (256 * y5 + y6)]) [(0, true), (1, false), (2, true), (3, false), (4, true)] (by kernel_rfl) (by kernel_rfl) (fun _ _ d _ _ h => by cases d <;> exact h) S0 ?_
    have hst := S0
    have inst : Nonempty (Of (Hold w g [.string N, .int .i64 (256 * y0 + y1), .int .i64 (256 * y2 + y3), .int .i64 y4, .int .i64 (256 * y5 + y6)])) := ⟨⟨_, hst⟩⟩
    have q0 := hold_cell (W := w) (g := g) (cs := [.string N, .int .i64 (256 * y0 + y1), .int .i64 (256 * y2 + y3), .int .i64 y4, .int .i64 (256 * y5 + y6)]) 0 _ rfl
    have q1 := hold_cell (W := w) (g := g) (cs := [.string N, .int .i64 (256 * y0 + y1), .int .i64 (256 * y2 + y3), .int .i64 y4, .int .i64 (256 * y5 + y6)]) 1 _ rfl
    have q2 := hold_cell (W := w) (g := g) (cs := [.string N, .int .i64 (256 * y0 + y1), .int .i64 (256 * y2 + y3), .int .i64 y4, .int .i64 (256 * y5 + y6)]) 2 _ rfl
    have q3 := hold_cell (W := w) (g := g) (cs := [.string N, .int .i64 (256 * y0 + y1), .int .i64 (256 * y2 + y3), .int .i64 y4, .int .i64 (256 * y5 + y6)]) 3 _ rfl
    have q4 := hold_cell (W := w) (g := g) (cs := [.string N, .int .i64 (256 * y0 + y1), .int .i64 (256 * y2 + y3), .int .i64 y4, .int .i64 (256 * y5 + y6)]) 4 _ rfl
    clear S0 A1 A0 b1 b0
    generalize wc.drew = V2 at *
    iterate 1 (refine line_read rfl (by kernel_rfl) (fun K hK => ?_); go_big_quiet_op; refine hK _ ?_; clear hK K)
    clear q0 q1 q2 q3 q4
    refine line_alone rfl (by kernel_rfl) (fun K hK => ?_)
    refine call_any (args := #[.pointer (some ⟨g, 0, none⟩)]) rfl (by kernel_rfl) (by kernel_rfl) (hF _ _ hst.at') ?_
    rintro e x9 ⟨rfl, hbn⟩
    have hst2 := hst.on hbn
    have AA2 := AA.on hbn
    refine ⟨_, rfl, hK _ _ hst2 ?_⟩
    clear hK K hst hbn AA
    have hst := hst2
    clear hst2
    simp only [Act.put, List.setIfInBounds_toArray, List.set_cons_zero, List.set_cons_succ]
    iterate 1 (refine line_read rfl (by kernel_rfl) (fun K hK => ?_); go_big_quiet_op; refine hK _ ?_; clear hK K)
    have p0 := AA2.cell 0 _ rfl
    have p1 := AA2.cell 1 _ rfl
    have p2 := AA2.cell 2 _ rfl
    have p3 := AA2.cell 3 _ rfl
    have p4 := AA2.cell 4 _ rfl
    have z0 := AA2.free 0 _ rfl
    have z1 := AA2.free 1 _ rfl
    have z2 := AA2.free 2 _ rfl
    have z3 := AA2.free 3 _ rfl
    have z4 := AA2.free 4 _ rfl
    refine line_alone rfl (by kernel_rfl) (fun K hK => ?_)
    go_big_op
    refine hK _ _ ((by (iterate 5 (refine Hold.setB ?_ (by dsimp only; omega) (by dsimp only; omega) _)); exact hst)) ?_
    clear hK K
    iterate 1 (refine line_read rfl (by kernel_rfl) (fun K hK => ?_); go_big_quiet_op; refine hK _ ?_; clear hK K)
    refine line_nil ?_
    have HB := Lib.hid hst.bel
    clear hst inst AA2
    go_wp2_with fail
    refine bodyPost_ret (v := .tuple #[P5 ⟨N, 256 * y0 + y1, 256 * y2 + y3, y4, 256 * y5 + y6⟩, .bool (cd == 0)]) (by simp [results, Tryz.results218, go_sem, p0, p1, p2, p3, p4]) rfl (HP.out _ ?_)
    exact (by (iterate 5 (refine bset ?_ (by dsimp only; omega) _)); exact HB.out)
end Go.Proofs.YtcolecidbalmhaaGreatDoor
namespace Go.Proofs.YtcolecidbalmhaaGreatDoor
open Go.RowKit
set_option maxRecDepth 100000
set_option linter.unusedVariables false

def pinEq (p q : PinD) : Bool := decide (p.n.toList = q.n.toList ∧ p.a = q.a ∧ p.b = q.b ∧ p.e = q.e ∧ p.u = q.u)
theorem pinEq_iff (p q : PinD) : pinEq p q = true ↔ p = q := by
  obtain ⟨n, a, b, e, u⟩ := p
  obtain ⟨n', a', b', e', u'⟩ := q
  simp only [pinEq, decide_eq_true_eq, PinD.mk.injEq, ByteArray.toList_eq]
  exact ⟨fun ⟨h, r⟩ => ⟨nm_inj h, r⟩, fun ⟨h, r⟩ => ⟨by rw [h], r⟩⟩
theorem pinEq_self (p : PinD) : pinEq p p = true := (pinEq_iff p p).2 rfl
theorem pin_eq (p q : PinD) (w : World) : (Op.equalIn 10000 31 (P5 p) (P5 q)).run Tryz.prog w = .ok (pinEq p q) w := by
  have u3 := Tryz.underlying2
  have a3 := Tryz.isAgg2
  have z3 := Tryz.sizeOf2
  have u9 := Tryz.underlying9
  have a9 := Tryz.isAgg9
  have z9 := Tryz.sizeOf9
  have hS : Tryz.prog.underlying 31 = some (.struct (Tryz.prog.fieldsOf 31)) := by kernel_rfl
  have hp : Tryz.prog.stoodInHeld 31 = false := by kernel_rfl
  rw [show (10000 : Nat) = 9999 + 1 from rfl, run_equalIn_agg w 9999 31 _ _ hS hp]
  simp only [Program.fieldsOf, Tryz.underlying31]
  go_simp
  unfold pinEq
  by_cases h0 : p.n.toList = q.n.toList <;> by_cases h1 : p.a = q.a <;> by_cases h2 : p.b = q.b <;> by_cases h3 : p.e = q.e <;> by_cases h4 : p.u = q.u <;> simp only [h0, h1, h2, h3, h4, if_true, if_false, and_true, and_false, and_self, decide_true, decide_false]
theorem pin_neq (p q : PinD) (w : World) : (binOp .neq 31 (P5 p) (P5 q)).run Tryz.prog w = .ok (.bool (!pinEq p q)) w := by
  rw [run_neq_struct, pin_eq]
  rfl
theorem pin_guard (op : BinOp) (x y : Operand) (p q : PinD) (w : World) : (eqGuard op 31 x y (P5 p) (P5 q)).run Tryz.prog w = .ok () w := run_eqGuard_agg w op 31 x y _ _ (by kernel_rfl)

def sameL : List PinD → List PinD → Bool
  | [], [] => true
  | p :: r, q :: s => pinEq p q && sameL r s
  | _, _ => false
theorem sameL_self : ∀ ps : List PinD, sameL ps ps = true
  | [] => rfl
  | p :: r => by rw [sameL, pinEq_self, sameL_self r]; rfl
theorem sameL_len : ∀ {ps qs : List PinD}, ps.length ≠ qs.length → sameL ps qs = false
  | [], [], h => absurd rfl h
  | [], _ :: _, _ => rfl
  | _ :: _, [], _ => rfl
  | p :: r, q :: s, h => by rw [sameL, sameL_len (ps := r) (qs := s) (by simpa using h), Bool.and_false]
theorem sameL_step {ps qs : List PinD} {k : Nat} (h1 : k < ps.length) (h2 : k < qs.length) : sameL (ps.drop k) (qs.drop k) = (pinEq (ps[k]?.getD pin0) (qs[k]?.getD pin0) && sameL (ps.drop (k + 1)) (qs.drop (k + 1))) := by
  have e : ∀ {ps : List PinD}, k < ps.length → ps.drop k = (ps[k]?.getD pin0) :: ps.drop (k + 1) := fun hk => by
    rw [List.drop_eq_getElem_cons hk, List.getElem?_eq_getElem hk]
    rfl
  rw [e h1, e h2]
  rfl
def SameRel (w : World) (ps qs : List PinD) (t : Bool) (k : Nat) (wr : World) : Prop := sameL (ps.drop k) (qs.drop k) = t ∧ Below w.heap.size w wr
theorem specSamePins_any (a b : Option Addr) (n m c1 c2 B : Nat) (ps qs : List PinD) (w : World) (hR : PRow w B a n c1 ps) (hQ : PRow w B b m c2 qs) (hB : B ≤ w.heap.size) :
    Calls Tryz.prog 147 #[.slice a n c1, .slice b m c2] w fun e w' => e = .returned (.bool (sameL ps qs)) ∧ Below w.heap.size w w' := by
  have f1 := hR.fits
  have m1 := hR.most
  have f2 := hQ.fits
  have m2 := hQ.most
  unfold maxLen at m1 m2
  have L1 := Lib.hid hR.length
  have L2 := Lib.hid hQ.length
  by_cases hnm : n = m
  · subst hnm
    have T0 : SameRel w ps qs (sameL ps qs) 0 w := ⟨rfl, Below.refl _ _⟩
    generalize sameL ps qs = t at *
    go_enter Tryz.func147, Tryz.ntmps147
    go_wp2_with fail
    go_loopw [5] (fun i wr => ∃ k : Nat, k ≤ n ∧ i = .int .i64 k ∧ SameRel w ps qs t k wr) (fun i _ => n - (intOf i).toNat)
    case atStart => exact ⟨0, Nat.zero_le _, rfl, T0⟩
    case round =>
      obtain ⟨k, hk, rfl, ht, hb⟩ := hrel
      by_cases hlt : k < n
      · obtain ⟨b1, o1, ha1, hb1, c0, c1, c2, c3, c4⟩ := (hR.below (hb.mono hB)).at' hlt
        obtain ⟨b2, o2, ha2, hb2, d0, d1, d2, d3, d4⟩ := (hQ.below (hb.mono hB)).at' hlt
        have hs := sameL_step (k := k) (ps := ps) (qs := qs) (by rw [L1.out]; exact hlt) (by rw [L2.out]; exact hlt)
        rw [ht] at hs
        have N := fun w => pin_neq (ps[k]?.getD pin0) (qs[k]?.getD pin0) w
        have G := fun op x y w => pin_guard op x y (ps[k]?.getD pin0) (qs[k]?.getD pin0) w
        have HB := Lib.hid hb
        clear hb hR hQ ht T0
        subst ha1
        subst ha2
        generalize ps[k]?.getD pin0 = p at *
        generalize qs[k]?.getD pin0 = q at *
        generalize pinEq p q = c at *
        cases c
        · rw [Bool.false_and] at hs
          subst hs
          go_wp2_with fail
          refine wp_region_line (Bel wr) [(0, true), (1, true), (2, true), (3, true), (4, true), (5, true), (6, true), (7, true), (8, true)] (by kernel_rfl) (by kernel_rfl) (fun _ _ d _ _ h => by cases d <;> exact h) (Bel.drew wr) ?_
          have hst := Bel.drew wr
          have inst : Nonempty (Of (Bel wr)) := ⟨⟨_, hst⟩⟩
          have q0 := bel_cell c0
          have q1 := bel_cell c1
          have q2 := bel_cell c2
          have q3 := bel_cell c3
          have q4 := bel_cell c4
          have y0 := bel_cell d0
          have y1 := bel_cell d1
          have y2 := bel_cell d2
          have y3 := bel_cell d3
          have y4 := bel_cell d4
          iterate 9 (refine line_read rfl (by kernel_rfl) (fun K hK => ?_); go_big_quiet_op; refine hK _ ?_; clear hK K)
          refine line_nil ?_
          have bb := btr HB.out hst.out
          clear hst inst q0 q1 q2 q3 q4 y0 y1 y2 y3 y4 c0 c1 c2 c3 c4 d0 d1 d2 d3 d4 HB N G
          go_wp2_with fail
          go_ret
          exact ⟨rfl, bb⟩
        · rw [Bool.true_and] at hs
          have HS := Lib.hid hs
          clear hs
          go_wp2_with fail
          refine wp_region_line (Bel wr) [(0, true), (1, true), (2, true), (3, true), (4, true), (5, true), (6, true), (7, true), (8, true)] (by kernel_rfl) (by kernel_rfl) (fun _ _ d _ _ h => by cases d <;> exact h) (Bel.drew wr) ?_
          have hst := Bel.drew wr
          have inst : Nonempty (Of (Bel wr)) := ⟨⟨_, hst⟩⟩
          have q0 := bel_cell c0
          have q1 := bel_cell c1
          have q2 := bel_cell c2
          have q3 := bel_cell c3
          have q4 := bel_cell c4
          have y0 := bel_cell d0
          have y1 := bel_cell d1
          have y2 := bel_cell d2
          have y3 := bel_cell d3
          have y4 := bel_cell d4
          iterate 9 (refine line_read rfl (by kernel_rfl) (fun K hK => ?_); go_big_quiet_op; refine hK _ ?_; clear hK K)
          refine line_nil ?_
          have bb := btr HB.out hst.out
          clear hst inst q0 q1 q2 q3 q4 y0 y1 y2 y3 y4 c0 c1 c2 c3 c4 d0 d1 d2 d3 d4 HB N G
          go_wp2_with fail
          go_roundw
          case rel => exact ⟨k + 1, by omega, by go_num, HS.out.symm, bb⟩
          case measure => simp [intOf]; omega
      · obtain rfl : k = n := by omega
        have e1 : ps.drop k = [] := List.drop_of_length_le (by rw [L1.out]; omega)
        have e2 : qs.drop k = [] := List.drop_of_length_le (by rw [L2.out]; omega)
        rw [e1, e2] at ht
        have ht' : true = t := ht
        subst ht'
        clear ht e1 e2
        go_wp2_with fail
        go_ret
        exact ⟨rfl, hb⟩
  · have hl : ps.length ≠ qs.length := by rw [L1.out, L2.out]; exact hnm
    rw [sameL_len hl]
    have hnm' : ((n : Int) == (m : Int)) = false := by
      rw [beq_eq_false_iff_ne]
      omega
    clear hR hQ hl
    go_enter Tryz.func147, Tryz.ntmps147
    go_wp2_with fail
    go_ret
    exact ⟨rfl, Below.refl _ _⟩
theorem slicesEqual_any (a b : Option Addr) (n m c1 c2 B : Nat) (ps qs : List PinD) (w : World) (hR : PRow w B a n c1 ps) (hQ : PRow w B b m c2 qs) (hB : B ≤ w.heap.size) :
    Calls Tryz.prog 97 #[.slice a n c1, .slice b m c2] w fun e w' => e = .returned (.bool (sameL ps qs)) ∧ Below w.heap.size w w' := by
  have f1 := hR.fits
  have m1 := hR.most
  have f2 := hQ.fits
  have m2 := hQ.most
  unfold maxLen at m1 m2
  have L1 := Lib.hid hR.length
  have L2 := Lib.hid hQ.length
  by_cases hnm : n = m
  · subst hnm
    have T0 : SameRel w ps qs (sameL ps qs) 0 w := ⟨rfl, Below.refl _ _⟩
    generalize sameL ps qs = t at *
    go_enter Tryz.func97, Tryz.ntmps97
    go_wp2_with fail
    go_loopw [13] (fun i wr => ∃ k : Nat, k ≤ n ∧ i = .int .i64 k ∧ SameRel w ps qs t k wr) (fun i _ => n - (intOf i).toNat)
    case atStart => exact ⟨0, Nat.zero_le _, rfl, T0⟩
    case round =>
      obtain ⟨k, hk, rfl, ht, hb⟩ := hrel
      by_cases hlt : k < n
      · obtain ⟨b1, o1, ha1, hb1, c0, c1, c2, c3, c4⟩ := (hR.below (hb.mono hB)).at' hlt
        obtain ⟨b2, o2, ha2, hb2, d0, d1, d2, d3, d4⟩ := (hQ.below (hb.mono hB)).at' hlt
        have hs := sameL_step (k := k) (ps := ps) (qs := qs) (by rw [L1.out]; exact hlt) (by rw [L2.out]; exact hlt)
        rw [ht] at hs
        have N := fun w => pin_neq (ps[k]?.getD pin0) (qs[k]?.getD pin0) w
        have G := fun op x y w => pin_guard op x y (ps[k]?.getD pin0) (qs[k]?.getD pin0) w
        have HB := Lib.hid hb
        clear hb hR hQ ht T0
        subst ha1
        subst ha2
        generalize ps[k]?.getD pin0 = p at *
        generalize qs[k]?.getD pin0 = q at *
        generalize pinEq p q = c at *
        cases c
        · rw [Bool.false_and] at hs
          subst hs
          go_wp2_with fail
          refine wp_region_line (Bel wr) [(0, true), (1, true), (2, true), (3, true), (4, true), (5, true), (6, true), (7, true), (8, true)] (by kernel_rfl) (by kernel_rfl) (fun _ _ d _ _ h => by cases d <;> exact h) (Bel.drew wr) ?_
          have hst := Bel.drew wr
          have inst : Nonempty (Of (Bel wr)) := ⟨⟨_, hst⟩⟩
          have q0 := bel_cell c0
          have q1 := bel_cell c1
          have q2 := bel_cell c2
          have q3 := bel_cell c3
          have q4 := bel_cell c4
          have y0 := bel_cell d0
          have y1 := bel_cell d1
          have y2 := bel_cell d2
          have y3 := bel_cell d3
          have y4 := bel_cell d4
          iterate 9 (refine line_read rfl (by kernel_rfl) (fun K hK => ?_); go_big_quiet_op; refine hK _ ?_; clear hK K)
          refine line_nil ?_
          have bb := btr HB.out hst.out
          clear hst inst q0 q1 q2 q3 q4 y0 y1 y2 y3 y4 c0 c1 c2 c3 c4 d0 d1 d2 d3 d4 HB N G
          go_wp2_with fail
          go_ret
          exact ⟨rfl, bb⟩
        · rw [Bool.true_and] at hs
          have HS := Lib.hid hs
          clear hs
          go_wp2_with fail
          refine wp_region_line (Bel wr) [(0, true), (1, true), (2, true), (3, true), (4, true), (5, true), (6, true), (7, true), (8, true)] (by kernel_rfl) (by kernel_rfl) (fun _ _ d _ _ h => by cases d <;> exact h) (Bel.drew wr) ?_
          have hst := Bel.drew wr
          have inst : Nonempty (Of (Bel wr)) := ⟨⟨_, hst⟩⟩
          have q0 := bel_cell c0
          have q1 := bel_cell c1
          have q2 := bel_cell c2
          have q3 := bel_cell c3
          have q4 := bel_cell c4
          have y0 := bel_cell d0
          have y1 := bel_cell d1
          have y2 := bel_cell d2
          have y3 := bel_cell d3
          have y4 := bel_cell d4
          iterate 9 (refine line_read rfl (by kernel_rfl) (fun K hK => ?_); go_big_quiet_op; refine hK _ ?_; clear hK K)
          refine line_nil ?_
          have bb := btr HB.out hst.out
          clear hst inst q0 q1 q2 q3 q4 y0 y1 y2 y3 y4 c0 c1 c2 c3 c4 d0 d1 d2 d3 d4 HB N G
          go_wp2_with fail
          go_roundw
          case rel => exact ⟨k + 1, by omega, by go_num, HS.out.symm, bb⟩
          case measure => simp [intOf]; omega
      · obtain rfl : k = n := by omega
        have e1 : ps.drop k = [] := List.drop_of_length_le (by rw [L1.out]; omega)
        have e2 : qs.drop k = [] := List.drop_of_length_le (by rw [L2.out]; omega)
        rw [e1, e2] at ht
        have ht' : true = t := ht
        subst ht'
        clear ht e1 e2
        go_wp2_with fail
        go_ret
        exact ⟨rfl, hb⟩
  · have hl : ps.length ≠ qs.length := by rw [L1.out, L2.out]; exact hnm
    rw [sameL_len hl]
    have hnm' : ((n : Int) == (m : Int)) = false := by
      rw [beq_eq_false_iff_ne]
      omega
    clear hR hQ hl
    go_enter Tryz.func97, Tryz.ntmps97
    go_wp2_with fail
    go_ret
    exact ⟨rfl, Below.refl _ _⟩
theorem implSamePins_any (a b : Option Addr) (n m c1 c2 B : Nat) (ps qs : List PinD) (w : World) (hR : PRow w B a n c1 ps) (hQ : PRow w B b m c2 qs) (hB : B ≤ w.heap.size) :
    Calls Tryz.prog 34 #[.slice a n c1, .slice b m c2] w fun e w' => e = .returned (.bool (sameL ps qs)) ∧ Below w.heap.size w w' := by
  have S := slicesEqual_any a b n m c1 c2 B ps qs w hR hQ hB
  generalize sameL ps qs = t at *
  clear hR hQ
  go_enter Tryz.func34, Tryz.ntmps34
  go_wp2_with fail
  refine S.mono ?_
  rintro r u1 ⟨rfl, b1⟩
  go_wp2_with fail
  go_ret
  exact ⟨rfl, b1⟩
end Go.Proofs.YtcolecidbalmhaaGreatDoor
namespace Go.Proofs.YtcolecidbalmhaaGreatDoor
open Go.RowKit
set_option maxRecDepth 100000
set_option linter.unusedVariables false

theorem sum_val7 {v : Int} (h : M.sumB v = true) : 256 * (v / 256) + v % 256 = v := by omega
theorem pin_back {p : PinD} (h : p.f = 0) : readR (packPL p) = p ∧ readC (packPL p) = 0 := by
  obtain ⟨-, h1, h2, h3, h4⟩ := pin_bounds h
  have e : pinZ (packP p) = p := by
    obtain ⟨n, a, b, e, u⟩ := p
    have en : pinNm (packP ⟨n, a, b, e, u⟩) = n.data.toList := by
      have : (packP ⟨n, a, b, e, u⟩).drop 7 = M.textL n := rfl
      unfold pinNm
      rw [this]
      unfold M.textL
      rw [List.map_map]
      have : n.data.toList.map ((fun z : Int => UInt8.ofNat z.toNat) ∘ fun c : UInt8 => (c.toNat : Int)) = n.data.toList.map id := List.map_congr_left fun c _ => by simp
      rw [this, List.map_id]
    show PinD.mk (M.bs (pinNm (packP ⟨n, a, b, e, u⟩))) (256 * (a / 256) + a % 256) (256 * (b / 256) + b % 256) e (256 * (u / 256) + u % 256) = _
    rw [en, M.bs_data, sum_val7 h1, sum_val7 h2, sum_val7 h4]
  have ok : pinOk (packP p) = true := by
    unfold pinOk
    rw [e, h, packP_length]
    simp
  have ep : packPL p = packP p := by simp [packPL, h]
  rw [ep]
  unfold readR readC
  rw [ok, e]
  exact ⟨rfl, rfl⟩
/-- What holds once a pin was put. -/
structure PutOk (ps : List PinD) (p : PinD) : Prop where
  fp : p.f = 0
  fr : pinsF (putR ps p) = 0
  fc : findC (putR ps p) p.n.data.toList = 0
  ff : findR (putR ps p) p.n.data.toList = p
  old : putC (putR ps p) p = 11
  was : findC ps p.n.data.toList ≠ 0 ∨ (findC ps p.n.data.toList = 0 ∧ (findR ps p.n.data.toList).e < p.e)
theorem put_ok {ps : List PinD} {p : PinD} (h : putC ps p = 0) : PutOk ps p := by
  have h0 : pinsF ps = 0 := by
    by_cases e : pinsF ps = 0
    · exact e
    · exact absurd ((putC_list (p := p) e).1.symm.trans h) e
  have h1 : p.f = 0 := by
    by_cases e : p.f = 0
    · exact e
    · exact absurd ((putC_pin h0 e).1.symm.trans h) e
  obtain ⟨hl, hf, hr⟩ := pinsF_zero h0
  have er : putR ps p = putL ps p := by unfold putR; rw [if_pos h]
  have hmem : p ∈ putL ps p := (putG_perm p ps).mem_iff.2 (by simp)
  have hr2 := putL_rise p hr
  have hf2 : ∀ q ∈ putL ps p, q.f = 0 := fun q hq => by
    rcases putL_mem hq with rfl | hq
    · exact h1
    · exact hf q hq
  have hlen : (putL ps p).length = (Others ps p).length + 1 := by
    exact (putG_perm p ps).length_eq.trans (List.length_cons ..)
  have hl2 : (putL ps p).length ≤ 4 := by
    rw [hlen]
    cases hq : findP ps p.nm with
    | none =>
      have h4 : ps.length ≠ 4 := fun e => by have := (putC_full h0 h1 hq e).1; omega
      rw [others_none hq]
      omega
    | some q =>
      have := others_lt hq
      omega
  have hp2 := pinsF_make hl2 hf2 hr2
  have hfd : findP (putL ps p) p.nm = some p := findP_of hr2 hmem
  obtain ⟨hn, hb⟩ := M.normF_zero (pinF_zero h1).1
  have hn' : M.nameF p.n.data.toList = 0 := hn
  have hb' : M.nrm p.n.data.toList = p.nm := hb
  refine ⟨h1, by rw [er]; exact hp2, ?_, ?_, ?_, ?_⟩
  · unfold findC
    rw [er, hp2, hn', hb', hfd]
    simp
  · unfold findR
    rw [er, hp2, hn', hb', hfd]
    simp
  · unfold putC
    rw [er, hp2, h1, hfd]
    simp
  · have ec : findC ps p.n.data.toList = match findP ps p.nm with | some _ => 0 | none => 4 := by
      unfold findC
      rw [h0, hn', hb']
      simp only [ne_eq, not_true_eq_false, if_false]
      cases findP ps p.nm <;> rfl
    have efr : findR ps p.n.data.toList = (findP ps p.nm).getD pin0 := by
      unfold findR
      rw [h0, hn', hb']
      simp
    cases hq : findP ps p.nm with
    | none =>
      rw [hq] at ec
      left
      rw [ec]
      decide
    | some q =>
      rw [hq] at ec efr
      right
      refine ⟨ec, ?_⟩
      rw [efr]
      show q.e < p.e
      have : putC ps p = if q.e ≥ p.e then 11 else 0 := by
        unfold putC
        rw [h0, h1, hq]
        simp
      rw [this] at h
      split at h
      · cases h
      · omega
end Go.Proofs.YtcolecidbalmhaaGreatDoor
namespace Go.Proofs.YtcolecidbalmhaaGreatDoor
open Go.RowKit
set_option linter.unusedVariables false

/-- A record of a pin. -/
def recP (p : PinD) : List Int := packP p ++ M.two (M.sumL (packP p))
theorem recP_length (p : PinD) : (recP p).length = 9 + p.n.size := by
  unfold recP
  rw [List.length_append, packP_length]
  show 7 + p.n.size + 2 = _
  omega
theorem sumL_sum9 (zs : List Int) : M.sumB (M.sumL zs) = true := by
  have := M.sumL_bd zs
  simp only [M.sumB, decide_eq_true_eq]; omega
theorem recP_byte {p : PinD} (h : p.f = 0) : ∀ z ∈ recP p, M.byteB z := by
  intro z hz
  rcases List.mem_append.1 hz with hz | hz
  · exact packP_byte h z hz
  · exact M.two_byte (sumL_sum9 _) z hz
/-- A record without its sum; its sum. -/
def body (zs : List Int) : List Int := zs.take (zs.length - 2)
def tailN (zs : List Int) : Int := 256 * zs.getD (zs.length - 2) 0 + zs.getD (zs.length - 1) 0
def recOk (zs : List Int) : Bool := decide (2 ≤ zs.length) && (decide (tailN zs = M.sumL (body zs)) && pinOk (body zs))
theorem body_app (xs : List Int) (n : Int) : body (xs ++ M.two n) = xs := by
  unfold body
  have : (xs ++ M.two n).length - 2 = xs.length := by simp [M.two]
  rw [this, List.take_left]
theorem tail_app (xs : List Int) (n : Int) : tailN (xs ++ M.two n) = n := by
  unfold tailN
  have e : (xs ++ M.two n).length = xs.length + 2 := by simp [M.two]
  rw [e]
  have e0 : (xs ++ M.two n).getD (xs.length + 2 - 2) 0 = n / 256 := by simp [M.two]
  have e1 : (xs ++ M.two n).getD (xs.length + 2 - 1) 0 = n % 256 := by
    rw [show xs.length + 2 - 1 = xs.length + 1 by omega]
    simp [M.two]
  rw [e0, e1]
  omega
theorem pin_back9 {p : PinD} (h : p.f = 0) : pinOk (packP p) = true ∧ pinZ (packP p) = p := by
  obtain ⟨h1, h2⟩ := pin_back h
  have ep : packPL p = packP p := by simp [packPL, h]
  rw [ep] at h1 h2
  cases ok : pinOk (packP p)
  · simp [readC, ok] at h2
  · refine ⟨rfl, ?_⟩
    simpa [readR, ok] using h1
theorem rec_back {p : PinD} (h : p.f = 0) : recOk (recP p) = true ∧ pinZ (body (recP p)) = p := by
  obtain ⟨h1, h2⟩ := pin_back9 h
  have hl := recP_length p
  unfold recOk
  have eb : body (recP p) = packP p := body_app _ _
  have et : tailN (recP p) = M.sumL (packP p) := tail_app _ _
  rw [eb, et, h1, h2]
  refine ⟨?_, rfl⟩
  have : 2 ≤ (recP p).length := by omega
  simp [this]
theorem recOk_pin {zs : List Int} (h : recOk zs = true) : (pinZ (body zs)).f = 0 ∧ 2 ≤ zs.length ∧ tailN zs = M.sumL (body zs) ∧ pinOk (body zs) = true := by
  simp only [recOk, Bool.and_eq_true, decide_eq_true_eq] at h
  have hp := h.2.2
  simp only [pinOk, Bool.and_eq_true, decide_eq_true_eq] at hp
  exact ⟨hp.2, h.1, h.2.1, h.2.2⟩

/-- What a journal tells, from given pins on. -/
def openG : List PinD → List (List Int) → Int × List PinD
  | ps, [] => (0, ps)
  | ps, r :: rs => if recOk r then (if put0 ps (pinZ (body r)) = 0 then openG (putL ps (pinZ (body r))) rs else (put0 ps (pinZ (body r)), [])) else (5, [])
theorem openG_nil (ps : List PinD) : openG ps [] = (0, ps) := by rw [openG]
theorem openG_no {ps : List PinD} {r : List Int} {rs : List (List Int)} (h : recOk r = false) : openG ps (r :: rs) = (5, []) := by rw [openG, h]; rfl
theorem openG_bad {ps : List PinD} {r : List Int} {rs : List (List Int)} (h : recOk r = true) (h1 : put0 ps (pinZ (body r)) ≠ 0) : openG ps (r :: rs) = (put0 ps (pinZ (body r)), []) := by rw [openG, if_pos h, if_neg h1]
theorem openG_put {ps : List PinD} {r : List Int} {rs : List (List Int)} (h : recOk r = true) (h1 : put0 ps (pinZ (body r)) = 0) : openG ps (r :: rs) = openG (putL ps (pinZ (body r))) rs := by rw [openG, if_pos h, if_pos h1]
theorem openG_cases {ps : List PinD} {r : List Int} {rs : List (List Int)} : (recOk r = false ∧ openG ps (r :: rs) = (5, [])) ∨ (recOk r = true ∧ put0 ps (pinZ (body r)) ≠ 0 ∧ openG ps (r :: rs) = (put0 ps (pinZ (body r)), [])) ∨ (recOk r = true ∧ put0 ps (pinZ (body r)) = 0 ∧ openG ps (r :: rs) = openG (putL ps (pinZ (body r))) rs) := by
  cases h : recOk r
  · exact .inl ⟨rfl, openG_no h⟩
  · by_cases h1 : put0 ps (pinZ (body r)) = 0
    · exact .inr (.inr ⟨rfl, h1, openG_put h h1⟩)
    · exact .inr (.inl ⟨rfl, h1, openG_bad h h1⟩)
theorem openG_drop {ps : List PinD} {rs : List (List Int)} {k : Nat} (hk : k < rs.length) : openG ps (rs.drop k) = openG ps ((rs[k]?.getD []) :: rs.drop (k + 1)) := by
  congr 1
  rw [List.drop_eq_getElem_cons hk, List.getElem?_eq_getElem hk]
  rfl
theorem openG_ne : ∀ {rs : List (List Int)} {ps : List PinD}, (openG ps rs).1 ≠ 0 → (openG ps rs).2 = []
  | [], ps, h => by rw [openG_nil] at h; exact absurd rfl h
  | r :: rs, ps, h => by
    rcases openG_cases (ps := ps) (r := r) (rs := rs) with ⟨_, e⟩ | ⟨_, _, e⟩ | ⟨_, _, e⟩
    · rw [e]
    · rw [e]
    · rw [e] at h ⊢; exact openG_ne h
theorem openG_append : ∀ (rs qs : List (List Int)) (ps : List PinD), openG ps (rs ++ qs) = if (openG ps rs).1 = 0 then openG (openG ps rs).2 qs else openG ps rs
  | [], qs, ps => by rw [openG_nil, if_pos rfl]; rfl
  | r :: rs, qs, ps => by
    rw [List.cons_append]
    cases h : recOk r
    · rw [openG_no h, openG_no h]; rfl
    · by_cases h1 : put0 ps (pinZ (body r)) = 0
      · rw [openG_put h h1, openG_put h h1]; exact openG_append rs qs _
      · rw [openG_bad h h1, openG_bad h h1, if_neg h1]
theorem openG_take {rs : List (List Int)} {ps : List PinD} (n : Nat) (h : (openG ps rs).1 = 0) : (openG ps (rs.take n)).1 = 0 ∧ openG ps rs = openG (openG ps (rs.take n)).2 (rs.drop n) := by
  have e := openG_append (rs.take n) (rs.drop n) ps
  rw [List.take_append_drop] at e
  by_cases h1 : (openG ps (rs.take n)).1 = 0
  · rw [if_pos h1] at e
    exact ⟨h1, e⟩
  · rw [if_neg h1] at e
    rw [e] at h
    exact absurd h h1
/-- Pins stay right. -/
theorem put_right {ps : List PinD} {p : PinD} (h : pinsF ps = 0) (h1 : p.f = 0) (h2 : put0 ps p = 0) : pinsF (putL ps p) = 0 := by
  have e := put0_code h h1
  have hc : putC ps p = 0 := by rw [e.1]; exact h2
  have := (put_ok hc).fr
  unfold putR at this
  rwa [if_pos hc] at this
theorem openG_right : ∀ {rs : List (List Int)} {ps : List PinD}, pinsF ps = 0 → (openG ps rs).1 = 0 → pinsF (openG ps rs).2 = 0
  | [], ps, h, _ => by rw [openG_nil]; exact h
  | r :: rs, ps, h, h0 => by
    rcases openG_cases (ps := ps) (r := r) (rs := rs) with ⟨_, e⟩ | ⟨_, hp, e⟩ | ⟨ho, hp, e⟩
    · rw [e] at h0; cases h0
    · rw [e] at h0; exact absurd h0 hp
    · rw [e] at h0 ⊢
      exact openG_right (put_right h (recOk_pin ho).1 hp) h0
theorem putL_has (ps : List PinD) (p : PinD) : p ∈ putL ps p := (putG_perm p ps).mem_iff.2 (by simp)
theorem putL_kept {ps : List PinD} {p q : PinD} (h : q ∈ ps) (hn : q.nm ≠ p.nm) : q ∈ putL ps p := (putG_perm p ps).mem_iff.2 (by simp [h, hn])
/-- What is found once a pin was put. -/
theorem findP_put {ps : List PinD} {p : PinD} (hr : Rise ps) : findP (putL ps p) p.nm = some p := findP_of (putL_rise p hr) (putL_has ps p)
theorem findP_else {ps : List PinD} {p : PinD} {l : List UInt8} (hr : Rise ps) (hn : p.nm ≠ l) : findP (putL ps p) l = findP ps l := by
  cases h : findP ps l with
  | none =>
    have hno := findP_none h
    cases h2 : findP (putL ps p) l with
    | none => rfl
    | some q =>
      obtain ⟨hm, hq⟩ := findP_mem h2
      rcases putL_mem hm with rfl | hm
      · exact absurd hq hn
      · exact absurd hq (hno q hm)
  | some q =>
    obtain ⟨hm, rfl⟩ := findP_mem h
    exact findP_of (putL_rise p hr) (putL_kept hm fun e => hn e.symm)
/-- Epochs never fall. -/
theorem openG_grow : ∀ {rs : List (List Int)} {ps : List PinD}, pinsF ps = 0 → (openG ps rs).1 = 0 → ∀ {l : List UInt8} {p : PinD}, findP ps l = some p → ∃ q, findP (openG ps rs).2 l = some q ∧ p.e ≤ q.e
  | [], ps, _, _, l, p, hf => by rw [openG_nil]; exact ⟨p, hf, Int.le_refl _⟩
  | r :: rs, ps, h, h0, l, p, hf => by
    rcases openG_cases (ps := ps) (r := r) (rs := rs) with ⟨_, e⟩ | ⟨_, hp, e⟩ | ⟨ho, hp, e⟩
    · rw [e] at h0; cases h0
    · rw [e] at h0; exact absurd h0 hp
    · rw [e] at h0 ⊢
      have hR := put_right h (recOk_pin ho).1 hp
      have hr := (pinsF_zero h).2.2
      by_cases hn : (pinZ (body r)).nm = l
      · subst hn
        obtain ⟨q, h1, h2⟩ := openG_grow hR h0 (findP_put (p := pinZ (body r)) hr)
        refine ⟨q, h1, Int.le_trans ?_ h2⟩
        by_cases hle : (pinZ (body r)).e ≤ p.e
        · rw [put0_old hf hle] at hp; cases hp
        · omega
      · exact openG_grow hR h0 (by rw [findP_else hr hn]; exact hf)
/-- A pin that is noted. -/
theorem openG_note {rs : List (List Int)} {p : PinD} (h : (openG [] rs).1 = 0) (hp : p.f = 0) : openG [] (rs ++ [recP p]) = if put0 (openG [] rs).2 p = 0 then (0, putL (openG [] rs).2 p) else (put0 (openG [] rs).2 p, []) := by
  obtain ⟨h1, h2⟩ := rec_back hp
  rw [openG_append, if_pos h, openG, if_pos h1, h2, openG_nil]
/-- A byte that is turned is told. -/
theorem step_inj {n m b : Int} (hn : 0 ≤ n ∧ n < 65521) (hm : 0 ≤ m ∧ m < 65521) (h : M.sumStep n b = M.sumStep m b) : n = m := by
  unfold M.sumStep at h
  omega
theorem step_byte {n b c : Int} (hb : M.byteB b) (hc : M.byteB c) (h : M.sumStep n b = M.sumStep n c) : b = c := by
  unfold M.sumStep at h
  unfold M.byteB at hb hc
  omega
theorem step_bd (n b : Int) : 0 ≤ M.sumStep n b ∧ M.sumStep n b < 65521 := ⟨Int.emod_nonneg _ (by omega), Int.emod_lt_of_pos _ (by omega)⟩
theorem fold_inj : ∀ (zs : List Int) {n m : Int}, 0 ≤ n ∧ n < 65521 → 0 ≤ m ∧ m < 65521 → zs.foldl M.sumStep n = zs.foldl M.sumStep m → n = m
  | [], n, m, _, _, h => h
  | z :: zs, n, m, hn, hm, h => step_inj hn hm (fold_inj zs (step_bd n z) (step_bd m z) h)
theorem fold_turn : ∀ (zs : List Int) {n b : Int} {i : Nat}, M.byteB b → (∀ z ∈ zs, M.byteB z) → i < zs.length → (zs.set i b).foldl M.sumStep n = zs.foldl M.sumStep n → zs[i]? = some b
  | [], n, b, i, _, _, hi, _ => by simp at hi
  | z :: zs, n, b, 0, hb, hz, _, h => by
    have := fold_inj zs (step_bd n b) (step_bd n z) h
    rw [step_byte hb (hz z (by simp)) this]
    rfl
  | z :: zs, n, b, i + 1, hb, hz, hi, h => by
    have := fold_turn zs hb (fun x m => hz x (by simp [m])) (by simpa using hi) (n := M.sumStep n z) (i := i) h
    simpa using this
theorem rec_turn {r : List Int} {b : Int} {i : Nat} (h : recOk r = true) (hr : ∀ z ∈ r, M.byteB z) (hb : M.byteB b) (hi : i < r.length) (hne : r[i]? ≠ some b) : recOk (r.set i b) = false := by
  obtain ⟨_, h2, ht, _⟩ := recOk_pin h
  cases e : recOk (r.set i b)
  · rfl
  exfalso
  obtain ⟨_, _, ht2, _⟩ := recOk_pin e
  have el : (r.set i b).length = r.length := List.length_set
  by_cases hlt : i < r.length - 2
  · have eb : body (r.set i b) = (body r).set i b := by
      unfold body
      rw [el, List.take_set]
    have et : tailN (r.set i b) = tailN r := by
      unfold tailN
      rw [el]
      simp only [List.getD_eq_getElem?_getD]
      rw [List.getElem?_set_ne (by omega), List.getElem?_set_ne (by omega)]
    rw [eb, et, ht] at ht2
    have hbl : i < (body r).length := by unfold body; rw [List.length_take]; omega
    have := fold_turn (body r) hb (fun z m => hr z (List.mem_of_mem_take m)) hbl ht2.symm
    unfold body at this
    rw [List.getElem?_take_of_lt hlt] at this
    exact hne this
  · have eb : body (r.set i b) = body r := by
      unfold body
      rw [el, List.take_set, List.set_eq_of_length_le (by rw [List.length_take]; omega)]
    rw [eb, ← ht] at ht2
    unfold tailN at ht2
    rw [el] at ht2
    simp only [List.getD_eq_getElem?_getD] at ht2
    have h0 : r.length - 2 < r.length := by omega
    have h1 : r.length - 1 < r.length := by omega
    have hx := hr _ (List.getElem_mem h0)
    have hy := hr _ (List.getElem_mem h1)
    have hcase : i = r.length - 2 ∨ i = r.length - 1 := by omega
    rcases hcase with rfl | rfl
    · rw [List.getElem?_set_self h0, List.getElem?_set_ne (by omega), List.getElem?_eq_getElem h0, List.getElem?_eq_getElem h1] at ht2
      rw [List.getElem?_eq_getElem h0] at hne
      simp only [Option.getD_some] at ht2
      exact hne (by congr 1; omega)
    · rw [List.getElem?_set_self h1, List.getElem?_set_ne (by omega), List.getElem?_eq_getElem h0, List.getElem?_eq_getElem h1] at ht2
      rw [List.getElem?_eq_getElem h1] at hne
      simp only [Option.getD_some] at ht2
      exact hne (by congr 1; omega)
theorem openG_turn : ∀ {rs : List (List Int)} {ps : List PinD} {k : Nat} {z : List Int}, (openG ps rs).1 = 0 → k < rs.length → recOk z = false → (openG ps (rs.set k z)).1 = 5
  | [], ps, k, z, _, hk, _ => by simp at hk
  | r :: rs, ps, 0, z, _, _, hz => by rw [List.set_cons_zero, openG_no hz]
  | r :: rs, ps, k + 1, z, h, hk, hz => by
    rw [List.set_cons_succ]
    rcases openG_cases (ps := ps) (r := r) (rs := rs) with ⟨_, e⟩ | ⟨_, hp, e⟩ | ⟨ho, hp, e⟩
    · rw [e] at h; cases h
    · rw [e] at h; exact absurd h hp
    · rw [e] at h
      rw [openG_put ho hp]
      exact openG_turn h (by simpa using hk) hz
theorem openG_ok : ∀ {rs : List (List Int)} {ps : List PinD}, (openG ps rs).1 = 0 → ∀ r ∈ rs, recOk r = true
  | [], ps, _, r, hr => by cases hr
  | x :: rs, ps, h, r, hr => by
    rcases openG_cases (ps := ps) (r := x) (rs := rs) with ⟨_, e⟩ | ⟨_, hp, e⟩ | ⟨ho, hp, e⟩
    · rw [e] at h; cases h
    · rw [e] at h; exact absurd h hp
    · rw [e] at h
      rcases List.mem_cons.1 hr with rfl | hr
      · exact ho
      · exact openG_ok h r hr
end Go.Proofs.YtcolecidbalmhaaGreatDoor
namespace Go.Proofs.YtcolecidbalmhaaGreatDoor
set_option linter.unusedVariables false

/-- What holds once a rollover was applied. -/
structure AppOk (ps : List PinD) (r : RollD) (t : Int) : Prop where
  res : applyL ps r t = putR ps r.p
  fr : pinsF (putR ps r.p) = 0
  ff : findR (putR ps r.p) r.p.n.data.toList = r.p
  len : (putR ps r.p).length = ps.length
  once : applyC (putR ps r.p) r t ≠ 0
/-- What holds of a rollover that may follow. -/
structure ChkOk (o : PinD) (r : RollD) (t : Int) : Prop where
  ep : r.p.e = o.e + 1
  who : r.b = o.a ∨ r.b = o.b
  live : liveB o t = true
  pf : r.p.f = 0
  sign : M.checkB r.b (rsumV r.p) r.x r.y = true
end Go.Proofs.YtcolecidbalmhaaGreatDoor
namespace Go.Proofs.YtcolecidbalmhaaGreatDoor
open Go.RowKit
set_option linter.unusedVariables false

theorem sameL_eq : ∀ {ps qs : List PinD}, sameL ps qs = true → ps = qs
  | [], [], _ => rfl
  | [], _ :: _, h => by cases h
  | _ :: _, [], h => by cases h
  | p :: r, q :: s, h => by
    rw [sameL, Bool.and_eq_true] at h
    rw [(pinEq_iff p q).1 h.1, sameL_eq h.2]
/-- What opening a disk answers. -/
def openC (d : DiskD) : Int := if diskF d = 0 then (openG [] d.rs).1 else diskF d
def openS (d : DiskD) : StoreD := if openC d = 0 then ⟨(openG [] d.rs).2, d⟩ else store0
theorem openC_bad {d : DiskD} (h : diskF d ≠ 0) : openC d = diskF d := by unfold openC; rw [if_neg h]
theorem openC_ok {d : DiskD} (h : diskF d = 0) : openC d = (openG [] d.rs).1 := by unfold openC; rw [if_pos h]
theorem openC_zero {d : DiskD} (h : openC d = 0) : diskF d = 0 ∧ (openG [] d.rs).1 = 0 := by
  by_cases h0 : diskF d = 0
  · rw [openC_ok h0] at h; exact ⟨h0, h⟩
  · rw [openC_bad h0] at h; exact absurd h h0
theorem openC_make {d : DiskD} (h : diskF d = 0) (h1 : (openG [] d.rs).1 = 0) : openC d = 0 := by rw [openC_ok h, h1]
theorem openS_yes {d : DiskD} (h : openC d = 0) : openS d = ⟨(openG [] d.rs).2, d⟩ := by unfold openS; rw [if_pos h]
theorem openS_no {d : DiskD} (h : openC d ≠ 0) : openS d = store0 := by unfold openS; rw [if_neg h]
/-- What is wrong with a store. -/
def storeF (s : StoreD) : Int := if openC s.d = 0 then (if sameL (openG [] s.d.rs).2 s.ps then 0 else 8) else openC s.d
theorem storeF_bad {s : StoreD} (h : openC s.d ≠ 0) : storeF s = openC s.d := by unfold storeF; rw [if_neg h]
theorem storeF_else {s : StoreD} (h : openC s.d = 0) (h1 : sameL (openG [] s.d.rs).2 s.ps = false) : storeF s = 8 := by unfold storeF; rw [if_pos h, h1]; rfl
theorem storeF_yes {s : StoreD} (h : openC s.d = 0) (h1 : sameL (openG [] s.d.rs).2 s.ps = true) : storeF s = 0 := by unfold storeF; rw [if_pos h, if_pos h1]
theorem storeF_zero {s : StoreD} (h : storeF s = 0) : openC s.d = 0 ∧ (openG [] s.d.rs).2 = s.ps := by
  by_cases h0 : openC s.d = 0
  · cases h1 : sameL (openG [] s.d.rs).2 s.ps
    · rw [storeF_else h0 h1] at h; cases h
    · exact ⟨h0, sameL_eq h1⟩
  · rw [storeF_bad h0] at h; exact absurd h h0
theorem storeF_make {s : StoreD} (h : openC s.d = 0) (h1 : (openG [] s.d.rs).2 = s.ps) : storeF s = 0 := storeF_yes h (by rw [h1]; exact sameL_self _)
theorem pins0 : pinsF [] = 0 := rfl
theorem store0_f : storeF store0 = 0 := storeF_make (openC_make rfl rfl) rfl
theorem storeF_pins {s : StoreD} (h : storeF s = 0) : pinsF s.ps = 0 := by
  obtain ⟨h1, h2⟩ := storeF_zero h
  rw [← h2]
  exact openG_right pins0 (openC_zero h1).2
theorem openS_f {d : DiskD} (h : openC d = 0) : storeF (openS d) = 0 := by
  rw [openS_yes h]
  exact storeF_make (s := ⟨(openG [] d.rs).2, d⟩) h rfl
theorem openS_self {s : StoreD} (h : storeF s = 0) : openS s.d = s := by
  obtain ⟨h1, h2⟩ := storeF_zero h
  rw [openS_yes h1, h2]
/-- Noting a pin in a right store. -/
def noted (s : StoreD) (p : PinD) : StoreD := ⟨putL s.ps p, ⟨s.d.rs ++ [recP p], s.d.s⟩⟩
def noteC (s : StoreD) (p : PinD) : Int := if storeF s = 0 then (if putC s.ps p = 0 then (if 12 ≤ s.d.rs.length then 7 else 0) else putC s.ps p) else storeF s
def noteS (s : StoreD) (p : PinD) : StoreD := if noteC s p = 0 then noted s p else store0
theorem noteC_bad {s : StoreD} {p : PinD} (h : storeF s ≠ 0) : noteC s p = storeF s := by unfold noteC; rw [if_neg h]
theorem noteC_put {s : StoreD} {p : PinD} (h : storeF s = 0) (h1 : putC s.ps p ≠ 0) : noteC s p = putC s.ps p := by unfold noteC; rw [if_pos h, if_neg h1]
theorem noteC_full {s : StoreD} {p : PinD} (h : storeF s = 0) (h1 : putC s.ps p = 0) (h2 : 12 ≤ s.d.rs.length) : noteC s p = 7 := by unfold noteC; rw [if_pos h, if_pos h1, if_pos h2]
theorem noteC_yes {s : StoreD} {p : PinD} (h : storeF s = 0) (h1 : putC s.ps p = 0) (h2 : ¬ 12 ≤ s.d.rs.length) : noteC s p = 0 := by unfold noteC; rw [if_pos h, if_pos h1, if_neg h2]
theorem noteC_zero {s : StoreD} {p : PinD} (h : noteC s p = 0) : storeF s = 0 ∧ putC s.ps p = 0 ∧ s.d.rs.length < 12 := by
  by_cases h0 : storeF s = 0
  · by_cases h1 : putC s.ps p = 0
    · by_cases h2 : 12 ≤ s.d.rs.length
      · rw [noteC_full h0 h1 h2] at h; cases h
      · exact ⟨h0, h1, by omega⟩
    · rw [noteC_put h0 h1] at h; exact absurd h h1
  · rw [noteC_bad h0] at h; exact absurd h h0
theorem recP_short {p : PinD} (h : p.f = 0) : longR (recP p) = false := by
  have := pin_size h
  have := recP_length p
  simp only [longR, decide_eq_false_iff_not]
  omega
/-- What holds once a pin was noted. -/
theorem noted_f {s : StoreD} {p : PinD} (h : storeF s = 0) (h1 : putC s.ps p = 0) (h2 : s.d.rs.length < 12) : storeF (noted s p) = 0 := by
  obtain ⟨ho, hp⟩ := storeF_zero h
  obtain ⟨hd, hg⟩ := openC_zero ho
  have P := put_ok h1
  have hput : put0 s.ps p = 0 := by rw [← (put0_code (storeF_pins h) P.fp).1]; exact h1
  have eg : openG [] (s.d.rs ++ [recP p]) = (0, putL s.ps p) := by
    rw [openG_note hg P.fp, hp, if_pos hput]
  obtain ⟨d1, d2, d3, d4⟩ := diskF_zero hd
  refine storeF_make (s := noted s p) (openC_make ?_ ?_) ?_
  · show diskF ⟨s.d.rs ++ [recP p], s.d.s⟩ = 0
    refine diskF_yes ?_ ?_ ?_
    · simp; omega
    · simp only [List.any_append, d2, List.any_cons, recP_short P.fp, List.any_nil, Bool.or_false]
    · refine ⟨d3, ?_⟩
      simp only [List.length_append, List.length_cons, List.length_nil]
      omega
  · show (openG [] (s.d.rs ++ [recP p])).1 = 0
    rw [eg]
  · show (openG [] (s.d.rs ++ [recP p])).2 = putL s.ps p
    rw [eg]
structure NoteOk (s : StoreD) (p : PinD) : Prop where
  f : storeF (noteS s p) = 0
  c : openC (noteS s p).d = 0
  o : openS (noteS s p).d = noteS s p
  fc : findC (noteS s p).ps p.n.data.toList = 0
  ff : findR (noteS s p).ps p.n.data.toList = p
  safe : (noteS s p).d.s = s.d.s
theorem note_ok {s : StoreD} {p : PinD} (h : noteC s p = 0) : NoteOk s p := by
  obtain ⟨h0, h1, h2⟩ := noteC_zero h
  have e : noteS s p = noted s p := by unfold noteS; rw [if_pos h]
  have hf := noted_f h0 h1 h2
  have P := put_ok h1
  have er : putR s.ps p = putL s.ps p := by unfold putR; rw [if_pos h1]
  have P1 := P.fc
  have P2 := P.ff
  rw [er] at P1 P2
  refine ⟨by rw [e]; exact hf, by rw [e]; exact (storeF_zero hf).1, by rw [e]; exact openS_self hf, by rw [e]; exact P1, by rw [e]; exact P2, by rw [e]; rfl⟩
/-- A rollover in a store. -/
def rollC (s : StoreD) (r : RollD) (t : Int) : Int := if storeF s = 0 then (if applyC s.ps r t = 0 then (if 12 ≤ s.d.rs.length then 7 else 0) else applyC s.ps r t) else storeF s
def rollSt (s : StoreD) (r : RollD) (t : Int) : StoreD := if rollC s r t = 0 then noted s r.p else store0
theorem rollC_bad {s : StoreD} {r : RollD} {t : Int} (h : storeF s ≠ 0) : rollC s r t = storeF s := by unfold rollC; rw [if_neg h]
theorem rollC_app {s : StoreD} {r : RollD} {t : Int} (h : storeF s = 0) (h1 : applyC s.ps r t ≠ 0) : rollC s r t = applyC s.ps r t := by unfold rollC; rw [if_pos h, if_neg h1]
theorem rollC_note {s : StoreD} {r : RollD} {t : Int} (h : storeF s = 0) (h1 : applyC s.ps r t = 0) : rollC s r t = noteC s r.p ∧ rollSt s r t = noteS s r.p := by
  obtain ⟨_, _, q, _, _, hp, _⟩ := applyC_zero h1
  have e : rollC s r t = noteC s r.p := by unfold rollC noteC; rw [if_pos h, if_pos h1, if_pos h, if_pos hp]
  exact ⟨e, by unfold rollSt noteS; rw [e]⟩
theorem rollC_zero {s : StoreD} {r : RollD} {t : Int} (h : rollC s r t = 0) : storeF s = 0 ∧ applyC s.ps r t = 0 := by
  by_cases h0 : storeF s = 0
  · by_cases h1 : applyC s.ps r t = 0
    · exact ⟨h0, h1⟩
    · rw [rollC_app h0 h1] at h; exact absurd h h1
  · rw [rollC_bad h0] at h; exact absurd h h0
theorem roll_ok {s : StoreD} {r : RollD} {t : Int} (h : rollC s r t = 0) : storeF (rollSt s r t) = 0 ∧ findC (rollSt s r t).ps r.p.n.data.toList = 0 ∧ findR (rollSt s r t).ps r.p.n.data.toList = r.p := by
  obtain ⟨h0, h1⟩ := rollC_zero h
  obtain ⟨e1, e2⟩ := rollC_note h0 h1
  rw [e1] at h
  have N := note_ok h
  rw [e2]
  exact ⟨N.f, N.fc, N.ff⟩
/-- All are safe. -/
def syncS (s : StoreD) : StoreD := if storeF s = 0 then ⟨s.ps, ⟨s.d.rs, s.d.rs.length⟩⟩ else store0
theorem diskF_s {rs : List (List Int)} {s t : Int} (h : diskF ⟨rs, s⟩ = 0) (h1 : 0 ≤ t ∧ t ≤ rs.length) : diskF ⟨rs, t⟩ = 0 := by
  obtain ⟨d1, d2, _, _⟩ := diskF_zero h
  exact diskF_yes (d := ⟨rs, t⟩) (by show ¬ 12 < rs.length; have : rs.length ≤ 12 := d1; omega) d2 h1
theorem sync_f {s : StoreD} (h : storeF s = 0) : storeF (syncS s) = 0 ∧ (syncS s).d.s = s.d.rs.length := by
  obtain ⟨ho, hp⟩ := storeF_zero h
  obtain ⟨hd, hg⟩ := openC_zero ho
  have e : syncS s = ⟨s.ps, ⟨s.d.rs, s.d.rs.length⟩⟩ := by unfold syncS; rw [if_pos h]
  rw [e]
  exact ⟨storeF_make (s := ⟨s.ps, ⟨s.d.rs, s.d.rs.length⟩⟩) (openC_make (diskF_s (s := s.d.s) hd ⟨by omega, Int.le_refl _⟩) hg) hp, rfl⟩
/-- A crash: how many are left; what is told. -/
def leftN (s : StoreD) (k : Int) : Int := s.d.s + (if k ≤ s.d.rs.length - s.d.s then k else s.d.rs.length - s.d.s)
def leftD (s : StoreD) (k : Int) : DiskD := ⟨s.d.rs.take (leftN s k).toNat, leftN s k⟩
def crashC (s : StoreD) (k : Int) : Int := if storeF s = 0 then (if k < 0 then 3 else 0) else storeF s
def crashS (s : StoreD) (k : Int) : StoreD := if crashC s k = 0 then openS (leftD s k) else store0
theorem crashC_bad {s : StoreD} {k : Int} (h : storeF s ≠ 0) : crashC s k = storeF s := by unfold crashC; rw [if_neg h]
theorem crashC_neg {s : StoreD} {k : Int} (h : storeF s = 0) (h1 : k < 0) : crashC s k = 3 := by unfold crashC; rw [if_pos h, if_pos h1]
theorem crashC_yes {s : StoreD} {k : Int} (h : storeF s = 0) (h1 : ¬ k < 0) : crashC s k = 0 := by unfold crashC; rw [if_pos h, if_neg h1]
theorem crashC_zero {s : StoreD} {k : Int} (h : crashC s k = 0) : storeF s = 0 ∧ 0 ≤ k := by
  by_cases h0 : storeF s = 0
  · by_cases h1 : k < 0
    · rw [crashC_neg h0 h1] at h; cases h
    · exact ⟨h0, by omega⟩
  · rw [crashC_bad h0] at h; exact absurd h h0
theorem left_bd {s : StoreD} {k : Int} (h : storeF s = 0) (hk : 0 ≤ k) : 0 ≤ s.d.s ∧ s.d.s ≤ leftN s k ∧ leftN s k ≤ s.d.rs.length := by
  obtain ⟨_, _, d3, d4⟩ := diskF_zero (openC_zero (storeF_zero h).1).1
  unfold leftN
  refine ⟨d3, ?_, ?_⟩
  · split <;> omega
  · split <;> omega
theorem left_len {s : StoreD} {k : Int} (h : storeF s = 0) (hk : 0 ≤ k) : ((leftD s k).rs.length : Int) = leftN s k := by
  have := left_bd h hk
  show (((s.d.rs.take (leftN s k).toNat).length : Nat) : Int) = _
  rw [List.length_take]
  omega
theorem take_disk {rs : List (List Int)} {n : Nat} {s t : Int} (h : diskF ⟨rs, s⟩ = 0) (h1 : 0 ≤ t ∧ t ≤ (rs.take n).length) : diskF ⟨rs.take n, t⟩ = 0 := by
  obtain ⟨d1, d2, _, _⟩ := diskF_zero h
  refine diskF_yes (d := ⟨rs.take n, t⟩) ?_ ?_ h1
  · show ¬ 12 < (rs.take n).length
    have : rs.length ≤ 12 := d1
    rw [List.length_take]
    omega
  · exact List.any_eq_false.2 fun r hr => List.any_eq_false.1 d2 r (List.mem_of_mem_take hr)
theorem left_open {s : StoreD} {k : Int} (h : storeF s = 0) (hk : 0 ≤ k) : openC (leftD s k) = 0 := by
  have hl := left_len h hk
  have hb := left_bd h hk
  obtain ⟨hd, hg⟩ := openC_zero (storeF_zero h).1
  refine openC_make (take_disk (s := s.d.s) hd ⟨by omega, ?_⟩) (openG_take _ hg).1
  show leftN s k ≤ ((leftD s k).rs.length : Int)
  omega
theorem safe_open {s : StoreD} (h : storeF s = 0) : openC ⟨s.d.rs.take s.d.s.toNat, 0⟩ = 0 := by
  obtain ⟨hd, hg⟩ := openC_zero (storeF_zero h).1
  exact openC_make (take_disk (s := s.d.s) hd ⟨by omega, by omega⟩) (openG_take _ hg).1
structure CrashOk (s : StoreD) (k : Int) : Prop where
  f : storeF (crashS s k) = 0
  d : (crashS s k).d = leftD s k
  safe : (crashS s k).d.s = (crashS s k).d.rs.length
  len : s.d.s ≤ (crashS s k).d.rs.length
  again : crashC (crashS s k) 0 = 0 ∧ crashS (crashS s k) 0 = crashS s k
  old : ∀ p ∈ (openS ⟨s.d.rs.take s.d.s.toNat, 0⟩).ps, findC (crashS s k).ps p.nm = 0 ∧ p.e ≤ (findR (crashS s k).ps p.nm).e
theorem findC_yes {ps : List PinD} {p q : PinD} (h : pinsF ps = 0) (hp : p.f = 0) (hf : findP ps p.nm = some q) : findC ps p.nm = 0 ∧ findR ps p.nm = q := by
  obtain ⟨hn, hb⟩ := M.normF_zero (pinF_zero hp).1
  unfold findC findR
  have hn' : M.nameF p.nm = 0 := hn
  have hb' : M.nrm p.nm = p.nm := hb
  rw [h, hn', hb', hf]
  simp
theorem crash_ok {s : StoreD} {k : Int} (h : crashC s k = 0) : CrashOk s k := by
  obtain ⟨h0, hk⟩ := crashC_zero h
  have ho := left_open h0 hk
  have hl := left_len h0 hk
  have hb := left_bd h0 hk
  have e : crashS s k = openS (leftD s k) := by unfold crashS; rw [if_pos h]
  have ed : (openS (leftD s k)).d = leftD s k := by rw [openS_yes ho]
  have ep : (openS (leftD s k)).ps = (openG [] (leftD s k).rs).2 := by rw [openS_yes ho]
  have hf := openS_f ho
  have es : (leftD s k).s = leftN s k := rfl
  refine ⟨by rw [e]; exact hf, by rw [e]; exact ed, ?_, ?_, ?_, ?_⟩
  · rw [e, ed, es, hl]
  · rw [e, ed, hl]
    exact hb.2.1
  · rw [e]
    have hc := crashC_yes (k := 0) hf (by omega)
    refine ⟨hc, ?_⟩
    have en : leftN (openS (leftD s k)) 0 = leftN s k := by
      have : leftN (openS (leftD s k)) 0 = leftN s k + (if (0 : Int) ≤ (leftD s k).rs.length - leftN s k then 0 else (leftD s k).rs.length - leftN s k) := by
        rw [show leftN (openS (leftD s k)) 0 = (openS (leftD s k)).d.s + (if (0 : Int) ≤ (openS (leftD s k)).d.rs.length - (openS (leftD s k)).d.s then 0 else (openS (leftD s k)).d.rs.length - (openS (leftD s k)).d.s) from rfl, ed, es]
      rw [this, hl, if_pos (by omega)]
      omega
    have el : leftD (openS (leftD s k)) 0 = leftD s k := by
      unfold leftD at *
      rw [en, ed]
      congr 1
      rw [List.take_take, Nat.min_self]
    unfold crashS
    rw [if_pos hc, el]
  · rw [e]
    intro p hp
    have hs := safe_open h0
    rw [openS_yes hs] at hp
    have hR := storeF_pins hf
    obtain ⟨hd, hg⟩ := openC_zero (storeF_zero h0).1
    obtain ⟨hg1, hg2⟩ := openC_zero ho
    have hsafe := (openG_take s.d.s.toNat hg).1
    have hsr := openG_right pins0 hsafe
    obtain ⟨_, sf, sr⟩ := pinsF_zero hsr
    have hm : p ∈ (openG [] (s.d.rs.take s.d.s.toNat)).2 := hp
    have hfp : findP (openG [] (s.d.rs.take s.d.s.toNat)).2 p.nm = some p := findP_of sr hm
    have et : (leftD s k).rs.take s.d.s.toNat = s.d.rs.take s.d.s.toNat := by
      show (s.d.rs.take (leftN s k).toNat).take s.d.s.toNat = _
      rw [List.take_take]
      congr 1
      omega
    have h3 := openG_take (rs := (leftD s k).rs) s.d.s.toNat hg2
    rw [et] at h3
    have hg4 : (openG (openG [] (s.d.rs.take s.d.s.toNat)).2 ((leftD s k).rs.drop s.d.s.toNat)).1 = 0 := by rw [← h3.2]; exact hg2
    obtain ⟨q, hq, hle⟩ := openG_grow hsr hg4 hfp
    rw [← h3.2] at hq
    rw [← ep] at hq
    obtain ⟨f1, f2⟩ := findC_yes hR (sf p hm) hq
    exact ⟨f1, by rw [f2]; exact hle⟩
/-- A store that is packed. -/
def packSt (s : StoreD) : StoreD := if storeF s = 0 then ⟨s.ps, ⟨s.ps.map recP, s.ps.length⟩⟩ else store0
structure PackOk (s : StoreD) : Prop where
  f : storeF (packSt s) = 0
  ps : (packSt s).ps = s.ps
  len : (packSt s).d.rs.length = s.ps.length
  few : s.ps.length ≤ s.d.rs.length
/-- A byte that is turned in a journal. -/
theorem turn_told {s : StoreD} {k i : Nat} {b : Int} (h : storeF s = 0) (hk : k < s.d.rs.length) (hr : ∀ z ∈ s.d.rs[k]?.getD [], M.byteB z) (hb : M.byteB b) (hi : i < (s.d.rs[k]?.getD []).length) (hne : (s.d.rs[k]?.getD [])[i]? ≠ some b) :
    openC ⟨s.d.rs.set k ((s.d.rs[k]?.getD []).set i b), s.d.s⟩ = 5 := by
  obtain ⟨ho, hp⟩ := storeF_zero h
  obtain ⟨hd, hg⟩ := openC_zero ho
  have hm : s.d.rs[k]?.getD [] ∈ s.d.rs := by
    rw [List.getElem?_eq_getElem hk]
    exact List.getElem_mem hk
  have hbad := rec_turn (openG_ok hg _ hm) hr hb hi hne
  obtain ⟨d1, d2, d3, d4⟩ := diskF_zero hd
  have hd2 : diskF ⟨s.d.rs.set k ((s.d.rs[k]?.getD []).set i b), s.d.s⟩ = 0 := by
    refine diskF_yes ?_ ?_ ?_
    · rw [List.length_set]; omega
    · refine List.any_eq_false.2 fun r hr => ?_
      rcases List.mem_or_eq_of_mem_set hr with hr | rfl
      · exact List.any_eq_false.1 d2 r hr
      · have := List.any_eq_false.1 d2 _ hm
        unfold longR at *
        rw [List.length_set]
        exact this
    · rw [List.length_set]
      exact ⟨d3, d4⟩
  rw [openC_ok hd2]
  exact openG_turn hg hk hbad
theorem rec_long {s : StoreD} (h : storeF s = 0) {r : List Int} (hr : r ∈ s.d.rs) : 2 ≤ r.length := (recOk_pin (openG_ok (openC_zero (storeF_zero h).1).2 r hr)).2.1
end Go.Proofs.YtcolecidbalmhaaGreatDoor
