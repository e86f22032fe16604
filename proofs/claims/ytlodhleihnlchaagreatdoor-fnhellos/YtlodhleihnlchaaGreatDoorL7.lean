/- Texts of this seat that several laws rest on, laid into one. Conditions: as each theorem states. -/
import Derived.Test.YtlodhleihnlchaaGreatDoorL2
import Derived.Test.YtlodhleihnlchaaGreatDoorL3
import Derived.Test.YtlodhleihnlchaaGreatDoorL4
import Derived.Test.YtlodhleihnlchaaGreatDoorL5
import Derived.Test.YtlodhleihnlchaaGreatDoorL6
namespace Go.Proofs.YtlodhleihnlchaaGreatDoor
open Go.RowKit
set_option maxRecDepth 100000
set_option linter.unusedVariables false

theorem conv_none (a a' : Option Addr) (c c' : Nat) (w : World) (hc : c ≤ maxLen) (hc' : c' ≤ maxLen) : (convert 22 9 (.slice a 0 c)).run Tryz.prog w = (convert 22 9 (.slice a' 0 c')).run Tryz.prog w := by
  have hR : ∀ (a : Option Addr) (c : Nat), c ≤ maxLen → Row .u8 w 0 a 0 c [] := fun a c hc => ⟨rfl, (fun _ h => by cases h), Nat.zero_le _, hc, fun h => absurd h (by omega)⟩
  rw [conv_row (hR a c hc), conv_row (hR a' c' hc')]

end Go.Proofs.YtlodhleihnlchaaGreatDoor
namespace Go.Proofs.YtlodhleihnlchaaGreatDoor
open Go.RowKit
set_option maxRecDepth 100000
set_option linter.unusedVariables false

theorem helNm_str (zs : List Int) : strOf (zs.drop 5) = M.bs (helNm zs) := by
  rw [← M.bs_data (strOf _), strOf, strOf_data]
  simp [helNm]
theorem helNm_size {zs : List Int} (n : Nat) (h : zs.length ≤ n) : (M.bs (helNm zs)).size ≤ n := by
  rw [M.bs_size]
  simp only [helNm, List.length_map, List.length_drop]
  omega

theorem helloIn_no {u : TypeId} {v : Value} (a : Option Addr) (len cap : Nat) (w : World) (hv : ErrV u v w) (h5 : len < 5) :
    Calls Tryz.prog 190 #[.slice a len cap] w fun e w' => e = unread u v ∧ Below w.heap.size w w' := by
  have b0 := bal (Below.refl _ w) (.cells #[.int .i64 0, .int .i64 0, .string { data := #[] }] 26)
  have V0 := hv.on b0
  have h5' : ¬ (5 : Int) ≤ (len : Int) := by omega
  clear hv
  go_enter Tryz.func190, Tryz.ntmps190
  go_wp2_with fail
  generalize w.alloc (.cells #[.int .i64 0, .int .i64 0, .string { data := #[] }] 26) = W0 at *
  refine (needs_no _ V0).mono ?_
  rintro e w' ⟨rfl, rfl⟩
  exact ⟨rfl, rfl, b0⟩
theorem helloIn_yes (a : Option Addr) (len cap B : Nat) (zs : List Int) (w : World) (hR : Row .u8 w B a len cap zs) (hB : B ≤ w.heap.size) (h5 : 5 ≤ len) :
    Calls Tryz.prog 190 #[.slice a len cap] w fun e w' => e = .returned (H3 (tw zs 1) (tw zs 3) (M.bs (helNm zs))) ∧ Below w.heap.size w w' := by
  have hlen := hR.fits
  have hmost := hR.most
  have hzl := hR.length
  have b0 := bal (Below.refl _ w) (.cells #[.int .i64 0, .int .i64 0, .string { data := #[] }] 26)
  have A0 := At.new w (HL3 0 0 { data := #[] }) 26
  obtain ⟨b, off, rfl, hb, hc⟩ := hR.cells (by omega)
  have z1 := hR.byte 1
  have z2 := hR.byte 2
  have z3 := hR.byte 3
  have z4 := hR.byte 4
  have d1 := hc 1 (by omega)
  have d2 := hc 2 (by omega)
  have d3 := hc 3 (by omega)
  have d4 := hc 4 (by omega)
  have hsub := fun (w' : World) (R : Row .u8 w' B (some ⟨b, off, none⟩) len cap zs) => conv_row (R.sub 5 (len - 5) (cap - 5) (by omega) (by omega) (by omega))
  have edrop : (zs.drop 5).take (len - 5) = zs.drop 5 := List.take_of_length_le (by simp; omega)
  simp only [edrop, helNm_str] at hsub
  have T1 := fun (w' : World) d1 d2 => readTwo_any b (off + 1) (len - 1) (cap - 1) (zs.getD 1 0) (zs.getD 2 0) w' (by omega) (by omega) (by omega) d1 d2 z1.1 z1.2 z2.1 z2.2
  have T2 := fun (w' : World) d3 d4 => readTwo_any b (off + 3) (len - 3) (cap - 3) (zs.getD 3 0) (zs.getD 4 0) w' (by omega) (by omega) (by omega) d3 d4 z3.1 z3.2 z4.1 z4.2
  have hm2 := hmost
  unfold maxLen at hm2
  have h5' : (5 : Int) ≤ (len : Int) := by omega
  unfold tw
  generalize M.bs (helNm zs) = N at *
  generalize zs.getD 1 0 = y1 at *
  generalize zs.getD 2 0 = y2 at *
  generalize zs.getD 3 0 = y3 at *
  generalize zs.getD 4 0 = y4 at *
  clear hc edrop hmost
  go_enter Tryz.func190, Tryz.ntmps190
  go_wp2_with fail
  generalize w.alloc (.cells #[.int .i64 0, .int .i64 0, .string { data := #[] }] 26) = W0 at *
  refine (needs_yes _).mono ?_
  rintro e w' ⟨rfl, rfl⟩
  go_wp2_with fail
  have S0 : Bel w W0.drew := ⟨b0.drew⟩
  have AA := A0.on (bdrew W0)
  refine wp_region_line (Bel w) [(0, true), (1, true), (3, true), (4, true), (6, true), (7, true), (8, true), (2, false), (5, false), (9, true), (10, false)] (by kernel_rfl) (by kernel_rfl) (fun _ _ d _ _ h => by cases d <;> exact h) S0 ?_
  have hst := S0
  have inst : Nonempty (Of (Bel w)) := ⟨⟨_, hst⟩⟩
  have cv : ∀ z : Of (Bel w), (convert 22 9 (.slice (if cap = 5 then some ⟨b, off, none⟩ else some ⟨b, off + 5, none⟩) (len - 5) (cap - 5))).run Tryz.prog z.val = .ok (.string N) z.val := fun z => by
    have h := hsub _ (hR.below (z.prop.out.mono hB))
    split
    · rename_i hcap
      have e := conv_none (some ⟨b, off, none⟩) (some ⟨b, off + 5, none⟩) (cap - 5) (cap - 5) z.val (by simp only [maxLen]; omega) (by simp only [maxLen]; omega)
      rw [show len - 5 = 0 by omega] at h ⊢
      rw [e]
      exact h
    · exact h
  clear S0 A0 b0
  generalize W0.drew = V1 at *
  iterate 7 (refine line_read rfl (by kernel_rfl) (fun K hK => ?_); go_big_quiet_op; refine hK _ ?_; clear hK K)
  clear cv
  generalize (if cap = 5 then some (⟨b, off, none⟩ : Addr) else some ⟨b, off + 5, none⟩) = ad
  refine line_alone rfl (by kernel_rfl) (fun K hK => ?_)
  refine call_any (args := #[.slice (some ⟨b, off + 1, none⟩) (len - 1) (cap - 1)]) rfl (by kernel_rfl) (by kernel_rfl) (T1 _ (cell_keep hst.out d1) (cell_keep hst.out d2)) ?_
  rintro e x1 ⟨rfl, hbn⟩
  have hst2 := hst.on hbn
  have AA2 := AA.on hbn
  refine ⟨_, rfl, hK _ _ hst2 ?_⟩
  clear hK K hst hbn AA
  have hst := hst2
  have AA := AA2
  clear hst2 AA2
  simp only [Act.put, List.setIfInBounds_toArray, List.set_cons_zero, List.set_cons_succ]
  refine line_alone rfl (by kernel_rfl) (fun K hK => ?_)
  refine call_any (args := #[.slice (some ⟨b, off + 3, none⟩) (len - 3) (cap - 3)]) rfl (by kernel_rfl) (by kernel_rfl) (T2 _ (cell_keep hst.out d3) (cell_keep hst.out d4)) ?_
  rintro e x2 ⟨rfl, hbn⟩
  have hst2 := hst.on hbn
  have AA2 := AA.on hbn
  refine ⟨_, rfl, hK _ _ hst2 ?_⟩
  clear hK K hst hbn AA
  have hst := hst2
  have AA := AA2
  clear hst2 AA2
  simp only [Act.put, List.setIfInBounds_toArray, List.set_cons_zero, List.set_cons_succ]
  refine line_readv (v := H3 (256 * y1 + y2) (256 * y3 + y4) N) rfl (by kernel_rfl) (fun _ => by kernel_rfl) ?_
  simp only [Act.put, List.setIfInBounds_toArray, List.set_cons_zero, List.set_cons_succ]
  have p0 := AA.cell 0 _ rfl
  have p1 := AA.cell 1 _ rfl
  have p2 := AA.cell 2 _ rfl
  have z0 := AA.free 0 _ rfl
  have z1 := AA.free 1 _ rfl
  have z2 := AA.free 2 _ rfl
  refine line_alone rfl (by kernel_rfl) (fun K hK => ?_)
  go_big_op
  refine hK _ _ (⟨(by (iterate 3 (refine bset ?_ (by dsimp only; omega) _)); exact hst.out)⟩) ?_
  clear hK K
  refine line_nil ?_
  have HB := Lib.hid hst.out
  clear hst inst AA
  go_wp2_with fail
  refine bodyPost_ret (v := H3 (256 * y1 + y2) (256 * y3 + y4) N) (by simp [results, Tryz.results190, go_sem, p0, p1, p2]) rfl ⟨rfl, ?_⟩
  exact (by (iterate 3 (refine bset ?_ (by dsimp only; omega) _)); exact HB.out)

theorem replyIn_short {u : TypeId} {v : Value} (a : Option Addr) (len cap : Nat) (w : World) (hv : ErrV u v w) (h5 : len ≠ 13) (hm : len ≤ maxLen) :
    Calls Tryz.prog 191 #[.slice a len cap] w fun e w' => e = unread u v ∧ Below w.heap.size w w' := by
  have b0 := bal (Below.refl _ w) (.cells #[.int .i64 0, .int .i64 0, .int .i64 0, .int .i64 0, .int .i64 0, .int .i64 0] 33)
  have V0 := hv.on b0
  have h5' : ((len : Int) == 13) = false := by rw [beq_eq_false_iff_ne]; omega
  unfold maxLen at hm
  clear hv
  go_enter Tryz.func191, Tryz.ntmps191
  go_wp2_with fail
  generalize w.alloc (.cells #[.int .i64 0, .int .i64 0, .int .i64 0, .int .i64 0, .int .i64 0, .int .i64 0] 33) = W0 at *
  refine (needs_no _ V0).mono ?_
  rintro e w' ⟨rfl, rfl⟩
  exact ⟨rfl, rfl, b0⟩
abbrev sigZ (zs : List Int) : List Int := (zs.drop 7).take 4
theorem sigZ_P {zs : List Int} (h : zs.length = 13) : M.readP (sigZ zs) = tw zs 7 ∧ M.readQ (sigZ zs) = tw zs 9 ∧ (sigZ zs).length = 4 := by
  match zs, h with
  | [z0, z1, z2, z3, z4, z5, z6, z7, z8, z9, z10, z11, z12], _ => exact ⟨rfl, rfl, rfl⟩
theorem sigZ_B {zs : List Int} (h : zs.length = 13) : M.readB (sigZ zs) = M.sigB (tw zs 7) (tw zs 9) := by
  obtain ⟨h1, h2, h3⟩ := sigZ_P h
  unfold M.readB
  rw [h1, h2, h3]
  simp
theorem replyIn_bad {u : TypeId} {v : Value} (a : Option Addr) (cap B : Nat) (zs : List Int) (w : World) (hR : Row .u8 w B a 13 cap zs) (hB : B ≤ w.heap.size) (hv : ErrV u v w) (hs : M.sigB (tw zs 7) (tw zs 9) = false) :
    Calls Tryz.prog 191 #[.slice a 13 cap] w fun e w' => e = unread u v ∧ Below w.heap.size w w' := by
  have hlen := hR.fits
  have hmost := hR.most
  have hzl := hR.length
  have b0 := bal (Below.refl _ w) (.cells #[.int .i64 0, .int .i64 0, .int .i64 0, .int .i64 0, .int .i64 0, .int .i64 0] 33)
  have V0 := hv.on b0
  obtain ⟨b, off, rfl, hb, hc⟩ := hR.cells (by omega)
  have R1 := (hR.below (b0.mono hB)).sub 7 4 (cap - 7) (by omega) (by omega) (by omega)
  have F := fun w' R => implReadSign_any (some ⟨b, off + 7, none⟩) 4 (cap - 7) B (sigZ zs) w' R
  rw [readR_no (by rw [sigZ_B hzl]; exact hs)] at F
  have hm2 := hmost
  unfold maxLen at hm2
  have hWB : B ≤ (w.alloc (.cells #[.int .i64 0, .int .i64 0, .int .i64 0, .int .i64 0, .int .i64 0, .int .i64 0] 33)).heap.size := by simp; omega
  clear hR hc hmost hv
  go_enter Tryz.func191, Tryz.ntmps191
  go_wp2_with fail
  generalize w.alloc (.cells #[.int .i64 0, .int .i64 0, .int .i64 0, .int .i64 0, .int .i64 0, .int .i64 0] 33) = W0 at *
  refine (needs_yes _).mono ?_
  rintro e w' ⟨rfl, rfl⟩
  go_wp2_with fail
  refine (F _ R1 hWB).mono ?_
  rintro e u1 ⟨rfl, b1⟩
  have V1 := (V0.on b1).on (bal (Below.refl _ u1) (.cells #[.int .i64 5, .int .i64 0, .int .i64 0] 233))
  have B1 := bal (btr b0 b1) (.cells #[.int .i64 5, .int .i64 0, .int .i64 0] 233)
  clear R1 F b1 V0 b0
  go_wp2_with fail
  refine (needs_no _ V1).mono ?_
  rintro e w' ⟨rfl, rfl⟩
  exact ⟨rfl, rfl, B1⟩
theorem replyIn_yes (a : Option Addr) (cap B : Nat) (zs : List Int) (w : World) (hR : Row .u8 w B a 13 cap zs) (hB : B ≤ w.heap.size) (hs : M.sigB (tw zs 7) (tw zs 9) = true) :
    Calls Tryz.prog 191 #[.slice a 13 cap] w fun e w' => e = .returned (R6 (tw zs 1) (tw zs 3) (tw zs 5) (tw zs 7) (tw zs 9) (tw zs 11)) ∧ Below w.heap.size w w' := by
  have hlen := hR.fits
  have hmost := hR.most
  have hzl := hR.length
  have b0 := bal (Below.refl _ w) (.cells #[.int .i64 0, .int .i64 0, .int .i64 0, .int .i64 0, .int .i64 0, .int .i64 0] 33)
  have A0 := At.new w (RL6 0 0 0 0 0 0) 33
  obtain ⟨b, off, rfl, hb, hc⟩ := hR.cells (by omega)
  have R1 := (hR.below (b0.mono hB)).sub 7 4 (cap - 7) (by omega) (by omega) (by omega)
  have F := fun w' R => implReadSign_any (some ⟨b, off + 7, none⟩) 4 (cap - 7) B (sigZ zs) w' R
  rw [readR_yes (by rw [sigZ_B hzl]; exact hs), (sigZ_P hzl).1, (sigZ_P hzl).2.1] at F
  have T1 := fun (w' : World) d c => readTwo_any b (off + 1) 12 (cap - 1) (zs.getD 1 0) (zs.getD 2 0) w' (by omega) (by omega) (by omega) d c (hR.byte 1).1 (hR.byte 1).2 (hR.byte 2).1 (hR.byte 2).2
  have T2 := fun (w' : World) d c => readTwo_any b (off + 3) 10 (cap - 3) (zs.getD 3 0) (zs.getD 4 0) w' (by omega) (by omega) (by omega) d c (hR.byte 3).1 (hR.byte 3).2 (hR.byte 4).1 (hR.byte 4).2
  have T3 := fun (w' : World) d c => readTwo_any b (off + 5) 8 (cap - 5) (zs.getD 5 0) (zs.getD 6 0) w' (by omega) (by omega) (by omega) d c (hR.byte 5).1 (hR.byte 5).2 (hR.byte 6).1 (hR.byte 6).2
  have T4 := fun (w' : World) d c => readTwo_any b (off + 11) 2 (cap - 11) (zs.getD 11 0) (zs.getD 12 0) w' (by omega) (by omega) (by omega) d c (hR.byte 11).1 (hR.byte 11).2 (hR.byte 12).1 (hR.byte 12).2
  have d1 := hc 1 (by omega)
  have d2 := hc 2 (by omega)
  have d3 := hc 3 (by omega)
  have d4 := hc 4 (by omega)
  have d5 := hc 5 (by omega)
  have d6 := hc 6 (by omega)
  have d11 := hc 11 (by omega)
  have d12 := hc 12 (by omega)
  have hm2 := hmost
  unfold maxLen at hm2
  have hWB : B ≤ (w.alloc (.cells #[.int .i64 0, .int .i64 0, .int .i64 0, .int .i64 0, .int .i64 0, .int .i64 0] 33)).heap.size := by simp; omega
  have e1 : tw zs 1 = 256 * zs.getD 1 0 + zs.getD 2 0 := rfl
  have e3 : tw zs 3 = 256 * zs.getD 3 0 + zs.getD 4 0 := rfl
  have e5 : tw zs 5 = 256 * zs.getD 5 0 + zs.getD 6 0 := rfl
  have e11 : tw zs 11 = 256 * zs.getD 11 0 + zs.getD 12 0 := rfl
  rw [← e1] at T1
  rw [← e3] at T2
  rw [← e5] at T3
  rw [← e11] at T4
  clear e1 e3 e5 e11
  generalize tw zs 1 = y1 at *
  generalize tw zs 3 = y3 at *
  generalize tw zs 5 = y5 at *
  generalize tw zs 7 = y7 at *
  generalize tw zs 9 = y9 at *
  generalize tw zs 11 = y11 at *
  clear hR hc hmost
  go_enter Tryz.func191, Tryz.ntmps191
  go_wp2_with fail
  generalize w.alloc (.cells #[.int .i64 0, .int .i64 0, .int .i64 0, .int .i64 0, .int .i64 0, .int .i64 0] 33) = W0 at *
  refine (needs_yes _).mono ?_
  rintro e w' ⟨rfl, rfl⟩
  go_wp2_with fail
  refine (F _ R1 hWB).mono ?_
  rintro e u1 ⟨rfl, b1⟩
  have G1 := At.new u1 [.int .i64 0, .int .i64 y7, .int .i64 y9] 233
  have b2 := bal b1 (.cells #[.int .i64 0, .int .i64 y7, .int .i64 y9] 233)
  have B1 := btr b0 b2
  have A1 := A0.on b2
  have lt1 : w.heap.size < u1.heap.size := (A0.on b1).lt (by simp)
  clear R1 F b1 b0 A0 b2
  go_wp2_with fail
  generalize u1.alloc (.cells #[.int .i64 0, .int .i64 y7, .int .i64 y9] 233) = v1 at *
  refine (needs_yes _).mono ?_
  rintro e w' ⟨rfl, rfl⟩
  go_wp2_with fail
  have S0 : Hold w u1.heap.size [.int .i64 0, .int .i64 y7, .int .i64 y9] v1.drew := ⟨B1.drew, G1.on (bdrew v1)⟩
  have AA := A1.on (bdrew v1)
  refine wp_region_line (Hold w u1.heap.size [.int .i64 0, .int .i64 y7, .int .i64 y9]) [(0, true), (1, true), (3, true), (4, true), (6, true), (7, true), (9, true), (10, true), (11, true), (12, true), (2, false), (5, false), (8, false), (13, false), (14, true), (15, false)] (by kernel_rfl) (by kernel_rfl) (fun _ _ d _ _ h => by cases d <;> exact h) S0 ?_
  have hst := S0
  have inst : Nonempty (Of (Hold w u1.heap.size [.int .i64 0, .int .i64 y7, .int .i64 y9])) := ⟨⟨_, hst⟩⟩
  have q1 := hold_cell (W := w) (g := u1.heap.size) (cs := [.int .i64 0, .int .i64 y7, .int .i64 y9]) 1 _ rfl
  have q2 := hold_cell (W := w) (g := u1.heap.size) (cs := [.int .i64 0, .int .i64 y7, .int .i64 y9]) 2 _ rfl
  clear S0 A1 B1 G1
  generalize v1.drew = V1 at *
  iterate 10 (refine line_read rfl (by kernel_rfl) (fun K hK => ?_); go_big_quiet_op; refine hK _ ?_; clear hK K)
  clear q1 q2
  refine line_alone rfl (by kernel_rfl) (fun K hK => ?_)
  refine call_any (args := #[.slice (some ⟨b, off + 1, none⟩) 12 (cap - 1)]) rfl (by kernel_rfl) (by kernel_rfl) (T1 _ (cell_keep hst.bel d1) (cell_keep hst.bel d2)) ?_
  rintro e x1 ⟨rfl, hbn⟩
  have hst2 := hst.on hbn
  have AA2 := AA.on hbn
  refine ⟨_, rfl, hK _ _ hst2 ?_⟩
  clear hK K hst hbn AA
  have hst := hst2
  have AA := AA2
  clear hst2 AA2
  simp only [Act.put, List.setIfInBounds_toArray, List.set_cons_zero, List.set_cons_succ]
  refine line_alone rfl (by kernel_rfl) (fun K hK => ?_)
  refine call_any (args := #[.slice (some ⟨b, off + 3, none⟩) 10 (cap - 3)]) rfl (by kernel_rfl) (by kernel_rfl) (T2 _ (cell_keep hst.bel d3) (cell_keep hst.bel d4)) ?_
  rintro e x2 ⟨rfl, hbn⟩
  have hst2 := hst.on hbn
  have AA2 := AA.on hbn
  refine ⟨_, rfl, hK _ _ hst2 ?_⟩
  clear hK K hst hbn AA
  have hst := hst2
  have AA := AA2
  clear hst2 AA2
  simp only [Act.put, List.setIfInBounds_toArray, List.set_cons_zero, List.set_cons_succ]
  refine line_alone rfl (by kernel_rfl) (fun K hK => ?_)
  refine call_any (args := #[.slice (some ⟨b, off + 5, none⟩) 8 (cap - 5)]) rfl (by kernel_rfl) (by kernel_rfl) (T3 _ (cell_keep hst.bel d5) (cell_keep hst.bel d6)) ?_
  rintro e x3 ⟨rfl, hbn⟩
  have hst2 := hst.on hbn
  have AA2 := AA.on hbn
  refine ⟨_, rfl, hK _ _ hst2 ?_⟩
  clear hK K hst hbn AA
  have hst := hst2
  have AA := AA2
  clear hst2 AA2
  simp only [Act.put, List.setIfInBounds_toArray, List.set_cons_zero, List.set_cons_succ]
  refine line_alone rfl (by kernel_rfl) (fun K hK => ?_)
  refine call_any (args := #[.slice (some ⟨b, off + 11, none⟩) 2 (cap - 11)]) rfl (by kernel_rfl) (by kernel_rfl) (T4 _ (cell_keep hst.bel d11) (cell_keep hst.bel d12)) ?_
  rintro e x4 ⟨rfl, hbn⟩
  have hst2 := hst.on hbn
  have AA2 := AA.on hbn
  refine ⟨_, rfl, hK _ _ hst2 ?_⟩
  clear hK K hst hbn AA
  have hst := hst2
  have AA := AA2
  clear hst2 AA2
  simp only [Act.put, List.setIfInBounds_toArray, List.set_cons_zero, List.set_cons_succ]
  refine line_readv (v := R6 y1 y3 y5 y7 y9 y11) rfl (by kernel_rfl) (fun _ => by kernel_rfl) ?_
  simp only [Act.put, List.setIfInBounds_toArray, List.set_cons_zero, List.set_cons_succ]
  have p0 := AA.cell 0 _ rfl
  have p1 := AA.cell 1 _ rfl
  have p2 := AA.cell 2 _ rfl
  have p3 := AA.cell 3 _ rfl
  have p4 := AA.cell 4 _ rfl
  have p5 := AA.cell 5 _ rfl
  have z0 := AA.free 0 _ rfl
  have z1 := AA.free 1 _ rfl
  have z2 := AA.free 2 _ rfl
  have z3 := AA.free 3 _ rfl
  have z4 := AA.free 4 _ rfl
  have z5 := AA.free 5 _ rfl
  refine line_alone rfl (by kernel_rfl) (fun K hK => ?_)
  go_big_op
  refine hK _ _ ((by (iterate 6 (refine Hold.setB ?_ (by dsimp only; omega) (by dsimp only; omega) _)); exact hst)) ?_
  clear hK K
  refine line_nil ?_
  have HB := Lib.hid hst.bel
  clear hst inst AA
  go_wp2_with fail
  refine bodyPost_ret (v := R6 y1 y3 y5 y7 y9 y11) (by simp [results, Tryz.results191, go_sem, p0, p1, p2, p3, p4, p5]) rfl ⟨rfl, ?_⟩
  exact (by (iterate 6 (refine bset ?_ (by dsimp only; omega) _)); exact HB.out)
end Go.Proofs.YtlodhleihnlchaaGreatDoor
namespace Go.Proofs.YtlodhleihnlchaaGreatDoor
open Go.RowKit
set_option maxRecDepth 100000
set_option linter.unusedVariables false

theorem implSignFault_yes (p q : Int) (w : World) (hB : M.sigB p q = true) :
    Calls Tryz.prog 108 #[I2 p q] w fun r w' => r = .returned (.int .i64 0) ∧ Below w.heap.size w w' := by
  go_enter Tryz.func108, Tryz.ntmps108
  go_wp2_with fail
  refine (pairOf_yes p q _ hB).mono ?_
  rintro r w1 ⟨rfl, hb0⟩
  have hb1 := btr (bal (Below.refl _ w) _) hb0
  clear hb0
  go_wp2_with fail
  refine (codeOf_nil _).mono ?_
  rintro r w2 ⟨rfl, hb_w2⟩
  obtain ⟨hc_w2, hf_w2⟩ := bcell hb_w2
  have hz_w2 := hb_w2.size
  (try simp at hz_w2)
  go_wp2_with fail
  go_ret
  exact ⟨rfl, btr hb1 hb_w2⟩
theorem implReplyFault_sig (r s p x y f : Int) (w : World) (hB : M.sigB x y = true) :
    Calls Tryz.prog 25 #[R6 r s p x y f] w fun e w' => e = .returned (.int .i64 (repF r s p x y f)) ∧ Below w.heap.size w w' := by
  have b0 := bal (Below.refl _ w) (.cells #[.int .i64 r, .int .i64 s, .int .i64 p, .int .i64 x, .int .i64 y, .int .i64 f] 33)
  have A0 := At.new w (RL6 r s p x y f) 33
  cases hr : M.sumB r
  · rw [repF_no (by rw [hr]; rfl)]
    go_enter Tryz.func25, Tryz.ntmps25
    go_wp2_with fail
    refine (isSum_any _ _).mono ?_
    rintro r w' ⟨rfl, rfl⟩
    go_wp2_with fail
    go_ret
    exact ⟨rfl, b0⟩
  cases hs : pubB s
  · rw [repF_no (by rw [hs]; simp)]
    go_enter Tryz.func25, Tryz.ntmps25
    go_wp2_with fail
    refine (isSum_any _ _).mono ?_
    rintro r w' ⟨rfl, rfl⟩
    go_wp2_with fail
    generalize w.alloc (.cells #[.int .i64 r, .int .i64 s, .int .i64 p, .int .i64 x, .int .i64 y, .int .i64 f] 33) = W0 at *
    refine (implIsPublic_any _ _).mono ?_
    rintro e u1 ⟨rfl, b1⟩
    have B1 := btr b0 b1
    have d0 := (A0.on b1).cell 0 _ rfl
    have d1 := (A0.on b1).cell 1 _ rfl
    have d2 := (A0.on b1).cell 2 _ rfl
    have d3 := (A0.on b1).cell 3 _ rfl
    have d4 := (A0.on b1).cell 4 _ rfl
    have d5 := (A0.on b1).cell 5 _ rfl
    go_wp2_with fail
    go_ret
    exact ⟨rfl, B1⟩
  cases hp : pubB p
  · rw [repF_no (by rw [hp]; simp)]
    go_enter Tryz.func25, Tryz.ntmps25
    go_wp2_with fail
    refine (isSum_any _ _).mono ?_
    rintro r w' ⟨rfl, rfl⟩
    go_wp2_with fail
    generalize w.alloc (.cells #[.int .i64 r, .int .i64 s, .int .i64 p, .int .i64 x, .int .i64 y, .int .i64 f] 33) = W0 at *
    refine (implIsPublic_any _ _).mono ?_
    rintro e u1 ⟨rfl, b1⟩
    have B1 := btr b0 b1
    have d0 := (A0.on b1).cell 0 _ rfl
    have d1 := (A0.on b1).cell 1 _ rfl
    have d2 := (A0.on b1).cell 2 _ rfl
    have d3 := (A0.on b1).cell 3 _ rfl
    have d4 := (A0.on b1).cell 4 _ rfl
    have d5 := (A0.on b1).cell 5 _ rfl
    go_wp2_with fail
    refine (implIsPublic_any _ _).mono ?_
    rintro e u2 ⟨rfl, b2⟩
    have B2 := btr B1 b2
    have b12 := btr b1 b2
    clear d0 d1 d2 d3 d4 d5 b1 b2
    have d0 := (A0.on b12).cell 0 _ rfl
    have d1 := (A0.on b12).cell 1 _ rfl
    have d2 := (A0.on b12).cell 2 _ rfl
    have d3 := (A0.on b12).cell 3 _ rfl
    have d4 := (A0.on b12).cell 4 _ rfl
    have d5 := (A0.on b12).cell 5 _ rfl
    go_wp2_with fail
    go_ret
    exact ⟨rfl, B2⟩
  cases hf : M.sumB f
  · rw [repF_no (by rw [hf]; simp)]
    go_enter Tryz.func25, Tryz.ntmps25
    go_wp2_with fail
    refine (isSum_any _ _).mono ?_
    rintro r w' ⟨rfl, rfl⟩
    go_wp2_with fail
    generalize w.alloc (.cells #[.int .i64 r, .int .i64 s, .int .i64 p, .int .i64 x, .int .i64 y, .int .i64 f] 33) = W0 at *
    refine (implIsPublic_any _ _).mono ?_
    rintro e u1 ⟨rfl, b1⟩
    have B1 := btr b0 b1
    have d0 := (A0.on b1).cell 0 _ rfl
    have d1 := (A0.on b1).cell 1 _ rfl
    have d2 := (A0.on b1).cell 2 _ rfl
    have d3 := (A0.on b1).cell 3 _ rfl
    have d4 := (A0.on b1).cell 4 _ rfl
    have d5 := (A0.on b1).cell 5 _ rfl
    go_wp2_with fail
    refine (implIsPublic_any _ _).mono ?_
    rintro e u2 ⟨rfl, b2⟩
    have B2 := btr B1 b2
    have b12 := btr b1 b2
    clear d0 d1 d2 d3 d4 d5 b1 b2
    have d0 := (A0.on b12).cell 0 _ rfl
    have d1 := (A0.on b12).cell 1 _ rfl
    have d2 := (A0.on b12).cell 2 _ rfl
    have d3 := (A0.on b12).cell 3 _ rfl
    have d4 := (A0.on b12).cell 4 _ rfl
    have d5 := (A0.on b12).cell 5 _ rfl
    go_wp2_with fail
    refine (isSum_any _ _).mono ?_
    rintro r w' ⟨rfl, rfl⟩
    go_wp2_with fail
    go_ret
    exact ⟨rfl, B2⟩
  · rw [repF_yes (by rw [hr, hs, hp, hf]; rfl), show M.sigF x y = 0 by simp [M.sigF, hB]]
    go_enter Tryz.func25, Tryz.ntmps25
    go_wp2_with fail
    refine (isSum_any _ _).mono ?_
    rintro r w' ⟨rfl, rfl⟩
    go_wp2_with fail
    generalize w.alloc (.cells #[.int .i64 r, .int .i64 s, .int .i64 p, .int .i64 x, .int .i64 y, .int .i64 f] 33) = W0 at *
    refine (implIsPublic_any _ _).mono ?_
    rintro e u1 ⟨rfl, b1⟩
    have B1 := btr b0 b1
    have d0 := (A0.on b1).cell 0 _ rfl
    have d1 := (A0.on b1).cell 1 _ rfl
    have d2 := (A0.on b1).cell 2 _ rfl
    have d3 := (A0.on b1).cell 3 _ rfl
    have d4 := (A0.on b1).cell 4 _ rfl
    have d5 := (A0.on b1).cell 5 _ rfl
    go_wp2_with fail
    refine (implIsPublic_any _ _).mono ?_
    rintro e u2 ⟨rfl, b2⟩
    have B2 := btr B1 b2
    have b12 := btr b1 b2
    clear d0 d1 d2 d3 d4 d5 b1 b2
    have d0 := (A0.on b12).cell 0 _ rfl
    have d1 := (A0.on b12).cell 1 _ rfl
    have d2 := (A0.on b12).cell 2 _ rfl
    have d3 := (A0.on b12).cell 3 _ rfl
    have d4 := (A0.on b12).cell 4 _ rfl
    have d5 := (A0.on b12).cell 5 _ rfl
    go_wp2_with fail
    refine (isSum_any _ _).mono ?_
    rintro r w' ⟨rfl, rfl⟩
    go_wp2_with fail
    refine (implSignFault_yes x y _ hB).mono ?_
    rintro e u3 ⟨rfl, b3⟩
    have B3 := btr B2 b3
    go_wp2_with fail
    go_ret
    exact ⟨rfl, B3⟩
theorem replyFault_sig (r s p x y f : Int) (w : World) (hB : M.sigB x y = true) :
    Calls Tryz.prog 364 #[R6 r s p x y f] w fun e w' => e = .returned (.int .i64 (repF r s p x y f)) ∧ Below w.heap.size w w' := by
  have b0 := bal (Below.refl _ w) (.cells #[.int .i64 r, .int .i64 s, .int .i64 p, .int .i64 x, .int .i64 y, .int .i64 f] 33)
  have F := fun w => implReplyFault_sig r s p x y f w hB
  go_enter Tryz.func364, Tryz.ntmps364
  go_wp2_with fail
  refine (F _).mono ?_
  rintro e u1 ⟨rfl, b1⟩
  have hb := btr b0 b1
  go_wp2_with fail
  go_ret
  exact ⟨rfl, hb⟩

abbrev helV (zs : List Int) : Value := H3 (tw zs 1) (tw zs 3) (M.bs (helNm zs))
abbrev repV (zs : List Int) : Value := R6 (tw zs 1) (tw zs 3) (tw zs 5) (tw zs 7) (tw zs 9) (tw zs 11)
theorem hel_method (zs : List Int) (w : World) (hz : zs.length ≤ maxLen) :
    Calls Tryz.prog 363 #[helV zs] w fun e w' => e = .returned (.int .i64 (helF (helNm zs) (tw zs 1) (tw zs 3))) ∧ Below w.heap.size w w' := by
  have h := helloFault_method (tw zs 1) (tw zs 3) (M.bs (helNm zs)) w (helNm_size maxLen hz)
  rw [M.bs_list] at h
  exact h
theorem readWord_hello (a : Option Addr) (len cap B : Nat) (zs : List Int) (w : World) (hR : Row .u8 w B a len cap zs) (hB : B ≤ w.heap.size) (h : helOk zs = true) :
    Calls Tryz.prog 95 #[.slice a len cap] w fun e w' => e = .returned (.iface 26 (helV zs)) ∧ Below w.heap.size w w' := by
  have hlen := hR.fits
  have hmost := hR.most
  have hzl := hR.length
  have hm2 := hmost
  unfold maxLen at hm2
  simp only [helOk, Bool.and_eq_true, decide_eq_true_eq] at h
  obtain ⟨⟨h5, h1⟩, hf⟩ := h
  rw [hzl] at h5
  have h0 : 0 < len := by omega
  have I := fun w' R => helloIn_yes a len cap B zs w' R
  have M1 := fun w => hel_method zs w (by omega)
  rw [show helF (helNm zs) (tw zs 1) (tw zs 3) = 0 from of_decide_eq_true hf] at M1
  have hmt : ∀ w : World, (method 566 26 (helV zs) "loop.example/g00618/impl.fault").run Tryz.prog w = .ok (363, helV zs) w := fun _ => by kernel_rfl
  have hne : ∀ w : World, (binOp BinOp.neq 157 (.iface 26 (helV zs)) .nilIface).run Tryz.prog w = .ok (.bool true) w := fun _ => by kernel_rfl
  obtain ⟨b, off, rfl, hb, hc⟩ := hR.cells (by omega)
  have d0 := hc 0 (by omega)
  rw [Nat.add_zero] at d0
  clear hc
  rw [h1] at d0
  unfold helV at *
  generalize M.bs (helNm zs) = N at *
  generalize tw zs 1 = y1 at *
  generalize tw zs 3 = y3 at *
  go_enter Tryz.func95, Tryz.ntmps95
  go_wp2_with fail
  refine (needs_yes _).mono ?_
  rintro e w' ⟨rfl, rfl⟩
  go_wp2_with fail
  refine (I _ hR hB h5).mono ?_
  rintro e u1 ⟨rfl, b1⟩
  go_wp2_with fail
  refine (M1 _).mono ?_
  rintro e u2 ⟨rfl, b2⟩
  have b3 := btr b1 b2
  go_wp2_with fail
  refine (needs_yes _).mono ?_
  rintro e w' ⟨rfl, rfl⟩
  go_wp2_with fail
  go_ret
  exact ⟨rfl, b3⟩
theorem readWord_reply (a : Option Addr) (len cap B : Nat) (zs : List Int) (w : World) (hR : Row .u8 w B a len cap zs) (hB : B ≤ w.heap.size) (h : repOk zs = true) :
    Calls Tryz.prog 95 #[.slice a len cap] w fun e w' => e = .returned (.iface 33 (repV zs)) ∧ Below w.heap.size w w' := by
  have hlen := hR.fits
  have hmost := hR.most
  have hzl := hR.length
  have hm2 := hmost
  unfold maxLen at hm2
  simp only [repOk, Bool.and_eq_true, decide_eq_true_eq] at h
  obtain ⟨⟨h5, h1⟩, hf⟩ := h
  rw [hzl] at h5
  subst h5
  have hf0 : repF (tw zs 1) (tw zs 3) (tw zs 5) (tw zs 7) (tw zs 9) (tw zs 11) = 0 := of_decide_eq_true hf
  have hsg := (repF_zero hf0).2.2.2.2
  have I := fun w' R hB => replyIn_yes a cap B zs w' R hB hsg
  have M1 := fun w => replyFault_sig (tw zs 1) (tw zs 3) (tw zs 5) (tw zs 7) (tw zs 9) (tw zs 11) w hsg
  rw [hf0] at M1
  have hmt : ∀ w : World, (method 566 33 (repV zs) "loop.example/g00618/impl.fault").run Tryz.prog w = .ok (364, repV zs) w := fun _ => by kernel_rfl
  have hne : ∀ w : World, (binOp BinOp.neq 157 (.iface 33 (repV zs)) .nilIface).run Tryz.prog w = .ok (.bool true) w := fun _ => by kernel_rfl
  obtain ⟨b, off, rfl, hb, hc⟩ := hR.cells (by omega)
  have d0 := hc 0 (by omega)
  rw [Nat.add_zero] at d0
  clear hc
  rw [h1] at d0
  unfold repV at *
  clear hf hf0 hsg
  generalize tw zs 1 = y1 at *
  generalize tw zs 3 = y3 at *
  generalize tw zs 5 = y5 at *
  generalize tw zs 7 = y7 at *
  generalize tw zs 9 = y9 at *
  generalize tw zs 11 = y11 at *
  go_enter Tryz.func95, Tryz.ntmps95
  go_wp2_with fail
  refine (needs_yes _).mono ?_
  rintro e w' ⟨rfl, rfl⟩
  go_wp2_with fail
  refine (I _ hR hB).mono ?_
  rintro e u1 ⟨rfl, b1⟩
  go_wp2_with fail
  refine (M1 _).mono ?_
  rintro e u2 ⟨rfl, b2⟩
  have b3 := btr b1 b2
  go_wp2_with fail
  refine (needs_yes _).mono ?_
  rintro e w' ⟨rfl, rfl⟩
  go_wp2_with fail
  go_ret
  exact ⟨rfl, b3⟩
theorem readWord_no {u : TypeId} {v : Value} (a : Option Addr) (len cap B : Nat) (zs : List Int) (w : World) (hv : ErrV u v w) (hR : Row .u8 w B a len cap zs) (hB : B ≤ w.heap.size) (hh : helOk zs = false) (hr : repOk zs = false) :
    Calls Tryz.prog 95 #[.slice a len cap] w fun e w' => e = unread u v ∧ Below w.heap.size w w' := by
  have hlen := hR.fits
  have hmost := hR.most
  have hzl := hR.length
  have hm2 := hmost
  unfold maxLen at hm2
  by_cases hl0 : len = 0
  · subst hl0
    go_enter Tryz.func95, Tryz.ntmps95
    go_wp2_with fail
    refine (needs_no _ hv).mono ?_
    rintro e w' ⟨rfl, rfl⟩
    exact ⟨rfl, rfl, Below.refl _ _⟩
  have h0 : 0 < len := by omega
  by_cases h1 : zs.getD 0 0 = 1
  · by_cases h5 : len < 5
    · have I := fun w' V => helloIn_no (u := u) (v := v) a len cap w' V h5
      obtain ⟨b, off, rfl, hb, hc⟩ := hR.cells (by omega)
      have d0 := hc 0 (by omega)
      rw [Nat.add_zero] at d0
      clear hc
      rw [h1] at d0
      go_enter Tryz.func95, Tryz.ntmps95
      go_wp2_with fail
      refine (needs_yes _).mono ?_
      rintro e w' ⟨rfl, rfl⟩
      go_wp2_with fail
      refine (I _ hv).mono ?_
      rintro e u1 ⟨rfl, b1⟩
      exact ⟨rfl, rfl, b1⟩
    · have I := fun w' R => helloIn_yes a len cap B zs w' R
      have M1 := fun w => hel_method zs w (by omega)
      have hc0 : (helF (helNm zs) (tw zs 1) (tw zs 3) == 0) = false := by
        have : helB zs = false := by
          cases hb : helB zs
          · rfl
          · exfalso
            unfold helOk at hh
            rw [h1, hb, decide_eq_true (by omega)] at hh
            simp at hh
        rw [beq_eq_false_iff_ne]
        exact of_decide_eq_false this
      have hmt : ∀ w : World, (method 566 26 (helV zs) "loop.example/g00618/impl.fault").run Tryz.prog w = .ok (363, helV zs) w := fun _ => by kernel_rfl
      have hne : ∀ w : World, (binOp BinOp.neq 157 (.iface 26 (helV zs)) .nilIface).run Tryz.prog w = .ok (.bool true) w := fun _ => by kernel_rfl
      obtain ⟨b, off, rfl, hb, hc⟩ := hR.cells (by omega)
      have d0 := hc 0 (by omega)
      rw [Nat.add_zero] at d0
      clear hc
      rw [h1] at d0
      unfold helV at *
      generalize helF (helNm zs) (tw zs 1) (tw zs 3) = cd at *
      generalize M.bs (helNm zs) = N at *
      generalize tw zs 1 = y1 at *
      generalize tw zs 3 = y3 at *
      clear hh hr
      go_enter Tryz.func95, Tryz.ntmps95
      go_wp2_with fail
      refine (needs_yes _).mono ?_
      rintro e w' ⟨rfl, rfl⟩
      go_wp2_with fail
      refine (I _ hR hB (by omega)).mono ?_
      rintro e u1 ⟨rfl, b1⟩
      go_wp2_with fail
      refine (M1 _).mono ?_
      rintro e u2 ⟨rfl, b2⟩
      have b3 := btr b1 b2
      have V3 := hv.on b3
      go_wp2_with fail
      refine (needs_no _ V3).mono ?_
      rintro e w' ⟨rfl, rfl⟩
      exact ⟨rfl, rfl, b3⟩
  have q1 : (zs.getD 0 0 == 1) = false := by rw [beq_eq_false_iff_ne]; exact h1
  by_cases h2 : zs.getD 0 0 = 2
  · by_cases h13 : len = 13
    · subst h13
      cases hsg : M.sigB (tw zs 7) (tw zs 9)
      · have I := fun w' R hB V => replyIn_bad (u := u) (v := v) a cap B zs w' R hB V hsg
        obtain ⟨b, off, rfl, hb, hc⟩ := hR.cells (by omega)
        have d0 := hc 0 (by omega)
        rw [Nat.add_zero] at d0
        clear hc
        rw [h2] at d0
        go_enter Tryz.func95, Tryz.ntmps95
        go_wp2_with fail
        refine (needs_yes _).mono ?_
        rintro e w' ⟨rfl, rfl⟩
        go_wp2_with fail
        refine (I _ hR hB hv).mono ?_
        rintro e u1 ⟨rfl, b1⟩
        exact ⟨rfl, rfl, b1⟩
      · have I := fun w' R hB => replyIn_yes a cap B zs w' R hB hsg
        have M1 := fun w => replyFault_sig (tw zs 1) (tw zs 3) (tw zs 5) (tw zs 7) (tw zs 9) (tw zs 11) w hsg
        have hc0 : (repF (tw zs 1) (tw zs 3) (tw zs 5) (tw zs 7) (tw zs 9) (tw zs 11) == 0) = false := by
          have : repB zs = false := by
            cases hb : repB zs
            · rfl
            · exfalso
              unfold repOk at hr
              rw [h2, hb, decide_eq_true hzl] at hr
              simp at hr
          rw [beq_eq_false_iff_ne]
          exact of_decide_eq_false this
        have hmt : ∀ w : World, (method 566 33 (repV zs) "loop.example/g00618/impl.fault").run Tryz.prog w = .ok (364, repV zs) w := fun _ => by kernel_rfl
        have hne : ∀ w : World, (binOp BinOp.neq 157 (.iface 33 (repV zs)) .nilIface).run Tryz.prog w = .ok (.bool true) w := fun _ => by kernel_rfl
        obtain ⟨b, off, rfl, hb, hc⟩ := hR.cells (by omega)
        have d0 := hc 0 (by omega)
        rw [Nat.add_zero] at d0
        clear hc
        rw [h2] at d0
        unfold repV at *
        clear hh hr hsg
        generalize repF (tw zs 1) (tw zs 3) (tw zs 5) (tw zs 7) (tw zs 9) (tw zs 11) = cd at *
        generalize tw zs 1 = y1 at *
        generalize tw zs 3 = y3 at *
        generalize tw zs 5 = y5 at *
        generalize tw zs 7 = y7 at *
        generalize tw zs 9 = y9 at *
        generalize tw zs 11 = y11 at *
        go_enter Tryz.func95, Tryz.ntmps95
        go_wp2_with fail
        refine (needs_yes _).mono ?_
        rintro e w' ⟨rfl, rfl⟩
        go_wp2_with fail
        refine (I _ hR hB).mono ?_
        rintro e u1 ⟨rfl, b1⟩
        go_wp2_with fail
        refine (M1 _).mono ?_
        rintro e u2 ⟨rfl, b2⟩
        have b3 := btr b1 b2
        have V3 := hv.on b3
        go_wp2_with fail
        refine (needs_no _ V3).mono ?_
        rintro e w' ⟨rfl, rfl⟩
        exact ⟨rfl, rfl, b3⟩
    · have I := fun w' V => replyIn_short (u := u) (v := v) a len cap w' V h13 (by omega)
      obtain ⟨b, off, rfl, hb, hc⟩ := hR.cells (by omega)
      have d0 := hc 0 (by omega)
      rw [Nat.add_zero] at d0
      clear hc
      rw [h2] at d0
      go_enter Tryz.func95, Tryz.ntmps95
      go_wp2_with fail
      refine (needs_yes _).mono ?_
      rintro e w' ⟨rfl, rfl⟩
      go_wp2_with fail
      refine (I _ hv).mono ?_
      rintro e u1 ⟨rfl, b1⟩
      exact ⟨rfl, rfl, b1⟩
  · have q2 : (zs.getD 0 0 == 2) = false := by rw [beq_eq_false_iff_ne]; exact h2
    obtain ⟨b, off, rfl, hb, hc⟩ := hR.cells (by omega)
    have d0 := hc 0 (by omega)
    rw [Nat.add_zero] at d0
    clear hc
    generalize zs.getD 0 0 = z at *
    clear hh hr
    go_enter Tryz.func95, Tryz.ntmps95
    go_wp2_with fail
    refine (needs_yes _).mono ?_
    rintro e w' ⟨rfl, rfl⟩
    go_wp2_with fail
    refine (needs_no _ hv).mono ?_
    rintro e w' ⟨rfl, rfl⟩
    exact ⟨rfl, rfl, Below.refl _ _⟩
end Go.Proofs.YtlodhleihnlchaaGreatDoor
namespace Go.Proofs.YtlodhleihnlchaaGreatDoor
open Go.RowKit
set_option maxRecDepth 100000
set_option linter.unusedVariables false

theorem ifaceNe (u : TypeId) (v : Value) (w : World) : (binOp BinOp.neq 20 (.iface u v) .nilIface).run Tryz.prog w = .ok (.bool true) w := by kernel_rfl
abbrev helT (zs : List Int) : Value := H4 (if helOk zs then 0 else 5) (if helOk zs then tw zs 1 else 0) (if helOk zs then tw zs 3 else 0) (M.bs (if helOk zs then helNm zs else []))
theorem helT_no {zs : List Int} (h : helOk zs = false) : helT zs = H4 5 0 0 { data := #[] } := by simp [helT, h, M.bs]
theorem helT_yes {zs : List Int} (h : helOk zs = true) : helT zs = H4 0 (tw zs 1) (tw zs 3) (M.bs (helNm zs)) := by simp [helT, h]
abbrev repT (zs : List Int) : Value := R7 (if repOk zs then 0 else 5) (if repOk zs then tw zs 1 else 0) (if repOk zs then tw zs 3 else 0) (if repOk zs then tw zs 5 else 0) (if repOk zs then tw zs 7 else 0) (if repOk zs then tw zs 9 else 0) (if repOk zs then tw zs 11 else 0)
theorem repT_no {zs : List Int} (h : repOk zs = false) : repT zs = R7 5 0 0 0 0 0 0 := by simp [repT, h]
theorem repT_yes {zs : List Int} (h : repOk zs = true) : repT zs = R7 0 (tw zs 1) (tw zs 3) (tw zs 5) (tw zs 7) (tw zs 9) (tw zs 11) := by simp [repT, h]

theorem catchHello_panic (g : Nat) (u : TypeId) (v : Value) (w : World) (A : At g (HL4 0 0 0 { data := #[] }) w) :
    CallsD Tryz.prog 94 #[.pointer (some ⟨g, 0, none⟩)] (.panicking [{ v := .iface u v, recovered := false }]) w fun e u' w' =>
      e = .returned (.tuple #[]) ∧ u' = .panicking [{ v := .iface u v, recovered := true }] ∧ At g (HL4 5 0 0 { data := #[] }) w' ∧ ∀ W : World, W.heap.size ≤ g → Below W.heap.size W w → Below W.heap.size W w' := by
  have hne := ifaceNe u v
  have c0 := A.cell 0 _ rfl
  have c1 := A.cell 1 _ rfl
  have c2 := A.cell 2 _ rfl
  have c3 := A.cell 3 _ rfl
  have z0 := A.free 0 _ rfl
  have z1 := A.free 1 _ rfl
  have z2 := A.free 2 _ rfl
  have z3 := A.free 3 _ rfl
  refine callsD_of_wpS Tryz.func94 rfl fun c₀ cs hu => ?_
  apply wpS_seq
  apply wpS_region
  simp [wpOpsS, go_sem, recoverD, hu, Tryz.ntmps94, Exit.thenS]
  refine wpS_cond (t := true) (by simp [Act.eval, Array.replicate]) ?_
  simp only [if_true]
  have HA := Lib.hid ((((A.set 0 (.int .i64 5)).set 1 (.int .i64 0)).set 2 (.int .i64 0)).set 3 (.string { data := #[] }))
  clear A
  apply wpS_region
  simp [wpOpsS, go_sem, c0, z0, c1, z1, c2, z2, c3, z3, bodyPostS, results, Tryz.results94, Array.replicate]
  exact ⟨HA.out, fun W hB hb => (by (iterate 4 (refine bset ?_ (by first | omega | (dsimp only; omega)) _)); exact hb)⟩
theorem catchHello_idle (p : Addr) (w : World) :
    CallsD Tryz.prog 94 #[.pointer (some p)] .returning w fun e u' w' => e = .returned (.tuple #[]) ∧ u' = .returning ∧ w' = w := by
  refine callsD_of_wpS Tryz.func94 rfl fun c₀ cs hu => ?_
  apply wpS_seq
  apply wpS_region
  simp [wpOpsS, go_sem, recoverD, hu, Tryz.ntmps94, Exit.thenS]
  refine wpS_cond (t := false) (by simp [Act.eval, Array.replicate]) ?_
  simp only [Bool.false_eq_true, if_false]
  refine wpS_of_wp (wp_skip ?_)
  cases c₀
  simp_all [bodyPostS, results, Tryz.results94]
theorem implReadHello_any (a : Option Addr) (len cap B : Nat) (zs : List Int) (w : World) (hu : ErrU w) (hR : Row .u8 w B a len cap zs) (hB : B ≤ w.heap.size) :
    Calls Tryz.prog 13 #[.slice a len cap] w fun e w' => e = .returned (helT zs) ∧ Below w.heap.size w w' := by
  obtain ⟨u, v, hv⟩ := hu
  have hmf : ∀ (fn : Fn) (first cap : Array Value) (w : World), (Instr.makeFunc fn first cap).run Tryz.prog w = .ok (.func fn first cap) w := fun _ _ _ _ => rfl
  have b0 := bal (Below.refl _ w) (.cells #[.int .i64 0, .int .i64 0, .int .i64 0, .string { data := #[] }] 28)
  have A0 := At.new w (HL4 0 0 0 { data := #[] }) 28
  have V0 := hv.on b0
  have R0 := hR.below (b0.mono hB)
  have hB0 : B ≤ (w.alloc (.cells #[.int .i64 0, .int .i64 0, .int .i64 0, .string { data := #[] }] 28)).heap.size := by simp; omega
  clear hR hv
  cases hh : helOk zs
  · rw [helT_no hh]
    cases hr : repOk zs
    · have N := fun w V R hB => readWord_no (u := u) (v := v) a len cap B zs w V R hB hh hr
      clear hh hr
      go_enter_defers Tryz.func13, Tryz.ntmps13
      go_wp2_with fail
      generalize w.alloc (.cells #[.int .i64 0, .int .i64 0, .int .i64 0, .string { data := #[] }] 28) = W0 at *
      refine (N _ V0 R0 hB0).mono ?_
      rintro e u1 ⟨rfl, b1⟩
      refine leaves_cons (f := 94) (args := #[.pointer (some ⟨w.heap.size, 0, none⟩)]) (by simp) (by simp [go_sem]) ?_
      refine (catchHello_panic w.heap.size u v _ (A0.on b1)).mono ?_
      rintro e u' w2 ⟨rfl, rfl, A2, hk⟩
      have HB := Lib.hid (hk w (Nat.le_refl _) (btr b0 b1))
      have q0 := A2.cell 0 _ rfl
      have q1 := A2.cell 1 _ rfl
      have q2 := A2.cell 2 _ rfl
      have q3 := A2.cell 3 _ rfl
      simp [Leaves, settle, results, Tryz.results13, go_sem, q0, q1, q2, q3]
      exact HB.out
    · have N := fun w R hB => readWord_reply a len cap B zs w R hB hr
      have ta : ∀ W : World, (Instr.typeAssert (.iface 33 (repV zs)) 157 26 true).run Tryz.prog W = .ok (.tuple #[.agg #[.int .i64 0, .int .i64 0, .string { data := #[] }], .bool false]) W := fun _ => by kernel_rfl
      generalize repV zs = VV at *
      clear hh hr
      go_enter_defers Tryz.func13, Tryz.ntmps13
      go_wp2_with fail
      generalize w.alloc (.cells #[.int .i64 0, .int .i64 0, .int .i64 0, .string { data := #[] }] 28) = W0 at *
      refine (N _ R0 hB0).mono ?_
      rintro e u1 ⟨rfl, b1⟩
      have hc := (V0.on b1).cell
      go_wp2_with fail
      refine leaves_cons (f := 94) (args := #[.pointer (some ⟨w.heap.size, 0, none⟩)]) (by simp) (by simp [go_sem]) ?_
      refine (catchHello_panic w.heap.size u v _ (A0.on b1)).mono ?_
      rintro e u' w2 ⟨rfl, rfl, A2, hk⟩
      have HB := Lib.hid (hk w (Nat.le_refl _) (btr b0 b1))
      have q0 := A2.cell 0 _ rfl
      have q1 := A2.cell 1 _ rfl
      have q2 := A2.cell 2 _ rfl
      have q3 := A2.cell 3 _ rfl
      simp [Leaves, settle, results, Tryz.results13, go_sem, q0, q1, q2, q3]
      exact HB.out
  · rw [helT_yes hh]
    have N := fun w R hB => readWord_hello a len cap B zs w R hB hh
    have ta : ∀ W : World, (Instr.typeAssert (.iface 26 (helV zs)) 157 26 true).run Tryz.prog W = .ok (.tuple #[helV zs, .bool true]) W := fun _ => by kernel_rfl
    unfold helV at *
    generalize M.bs (helNm zs) = n at *
    generalize tw zs 1 = y1 at *
    generalize tw zs 3 = y3 at *
    clear hh
    go_enter_defers Tryz.func13, Tryz.ntmps13
    go_wp2_with fail
    generalize w.alloc (.cells #[.int .i64 0, .int .i64 0, .int .i64 0, .string { data := #[] }] 28) = W0 at *
    refine (N _ R0 hB0).mono ?_
    rintro e u1 ⟨rfl, b1⟩
    have lt1 : w.heap.size < u1.heap.size := (A0.on b1).lt (by simp)
    have p0 := (A0.on b1).cell 0 _ rfl
    have p1 := (A0.on b1).cell 1 _ rfl
    have p2 := (A0.on b1).cell 2 _ rfl
    have p3 := (A0.on b1).cell 3 _ rfl
    have z0 := (A0.on b1).free 0 _ rfl
    have z1 := (A0.on b1).free 1 _ rfl
    have z2 := (A0.on b1).free 2 _ rfl
    have z3 := (A0.on b1).free 3 _ rfl
    have A9 := (((((A0.on b1).set 0 (.int .i64 0)).set 1 (.int .i64 y1)).set 2 (.int .i64 y3)).set 3 (.string n)).alloc (.cells #[.int .i64 y1, .int .i64 y3, .string n] 26)
    have q0 := A9.cell 0 _ rfl
    have q1 := A9.cell 1 _ rfl
    have q2 := A9.cell 2 _ rfl
    have q3 := A9.cell 3 _ rfl
    have HB := Lib.hid (bal (bset (bset (bset (bset (btr b0 b1) (p := ⟨w.heap.size, 0, none⟩) (Nat.le_refl _) (.int .i64 0)) (p := ⟨w.heap.size, 1, none⟩) (Nat.le_refl _) (.int .i64 y1)) (p := ⟨w.heap.size, 2, none⟩) (Nat.le_refl _) (.int .i64 y3)) (p := ⟨w.heap.size, 3, none⟩) (Nat.le_refl _) (.string n)) (.cells #[.int .i64 y1, .int .i64 y3, .string n] 26))
    clear A0 A9 b0 b1 V0 R0 N
    go_wp2_with fail
    refine leaves_cons (f := 94) (args := #[.pointer (some ⟨w.heap.size, 0, none⟩)]) (by simp) (by simp [go_sem]) ?_
    refine (catchHello_idle _ _).mono ?_
    rintro e u' w2 ⟨rfl, rfl, rfl⟩
    simp [Leaves, settle, results, Tryz.results13, go_sem, q0, q1, q2, q3]
    exact HB.out

theorem catchReply_panic (g : Nat) (u : TypeId) (v : Value) (w : World) (A : At g (RL7 0 0 0 0 0 0 0) w) :
    CallsD Tryz.prog 98 #[.pointer (some ⟨g, 0, none⟩)] (.panicking [{ v := .iface u v, recovered := false }]) w fun e u' w' =>
      e = .returned (.tuple #[]) ∧ u' = .panicking [{ v := .iface u v, recovered := true }] ∧ At g (RL7 5 0 0 0 0 0 0) w' ∧ ∀ W : World, W.heap.size ≤ g → Below W.heap.size W w → Below W.heap.size W w' := by
  have hne := ifaceNe u v
  have c0 := A.cell 0 _ rfl
  have c1 := A.cell 1 _ rfl
  have c2 := A.cell 2 _ rfl
  have c3 := A.cell 3 _ rfl
  have c4 := A.cell 4 _ rfl
  have c5 := A.cell 5 _ rfl
  have c6 := A.cell 6 _ rfl
  have z0 := A.free 0 _ rfl
  have z1 := A.free 1 _ rfl
  have z2 := A.free 2 _ rfl
  have z3 := A.free 3 _ rfl
  have z4 := A.free 4 _ rfl
  have z5 := A.free 5 _ rfl
  have z6 := A.free 6 _ rfl
  refine callsD_of_wpS Tryz.func98 rfl fun c₀ cs hu => ?_
  apply wpS_seq
  apply wpS_region
  simp [wpOpsS, go_sem, recoverD, hu, Tryz.ntmps98, Exit.thenS]
  refine wpS_cond (t := true) (by simp [Act.eval, Array.replicate]) ?_
  simp only [if_true]
  have HA := Lib.hid ((((((((A.set 0 (.int .i64 5)).set 1 (.int .i64 0)).set 2 (.int .i64 0)).set 3 (.int .i64 0)).set 4 (.int .i64 0)).set 5 (.int .i64 0)).set 6 (.int .i64 0)))
  clear A
  apply wpS_region
  simp [wpOpsS, go_sem, c0, z0, c1, z1, c2, z2, c3, z3, c4, z4, c5, z5, c6, z6, bodyPostS, results, Tryz.results98, Array.replicate]
  exact ⟨HA.out, fun W hB hb => (by (iterate 7 (refine bset ?_ (by first | omega | (dsimp only; omega)) _)); exact hb)⟩
theorem catchReply_idle (p : Addr) (w : World) :
    CallsD Tryz.prog 98 #[.pointer (some p)] .returning w fun e u' w' => e = .returned (.tuple #[]) ∧ u' = .returning ∧ w' = w := by
  refine callsD_of_wpS Tryz.func98 rfl fun c₀ cs hu => ?_
  apply wpS_seq
  apply wpS_region
  simp [wpOpsS, go_sem, recoverD, hu, Tryz.ntmps98, Exit.thenS]
  refine wpS_cond (t := false) (by simp [Act.eval, Array.replicate]) ?_
  simp only [Bool.false_eq_true, if_false]
  refine wpS_of_wp (wp_skip ?_)
  cases c₀
  simp_all [bodyPostS, results, Tryz.results98]
theorem implReadReply_any (a : Option Addr) (len cap B : Nat) (zs : List Int) (w : World) (hu : ErrU w) (hR : Row .u8 w B a len cap zs) (hB : B ≤ w.heap.size) :
    Calls Tryz.prog 15 #[.slice a len cap] w fun e w' => e = .returned (repT zs) ∧ Below w.heap.size w w' := by
  obtain ⟨u, v, hv⟩ := hu
  have hmf : ∀ (fn : Fn) (first cap : Array Value) (w : World), (Instr.makeFunc fn first cap).run Tryz.prog w = .ok (.func fn first cap) w := fun _ _ _ _ => rfl
  have b0 := bal (Below.refl _ w) (.cells #[.int .i64 0, .int .i64 0, .int .i64 0, .int .i64 0, .int .i64 0, .int .i64 0, .int .i64 0] 35)
  have A0 := At.new w (RL7 0 0 0 0 0 0 0) 35
  have V0 := hv.on b0
  have R0 := hR.below (b0.mono hB)
  have hB0 : B ≤ (w.alloc (.cells #[.int .i64 0, .int .i64 0, .int .i64 0, .int .i64 0, .int .i64 0, .int .i64 0, .int .i64 0] 35)).heap.size := by simp; omega
  clear hR hv
  cases hh : repOk zs
  · rw [repT_no hh]
    cases hr : helOk zs
    · have N := fun w V R hB => readWord_no (u := u) (v := v) a len cap B zs w V R hB hr hh
      clear hh hr
      go_enter_defers Tryz.func15, Tryz.ntmps15
      go_wp2_with fail
      generalize w.alloc (.cells #[.int .i64 0, .int .i64 0, .int .i64 0, .int .i64 0, .int .i64 0, .int .i64 0, .int .i64 0] 35) = W0 at *
      refine (N _ V0 R0 hB0).mono ?_
      rintro e u1 ⟨rfl, b1⟩
      refine leaves_cons (f := 98) (args := #[.pointer (some ⟨w.heap.size, 0, none⟩)]) (by simp) (by simp [go_sem]) ?_
      refine (catchReply_panic w.heap.size u v _ (A0.on b1)).mono ?_
      rintro e u' w2 ⟨rfl, rfl, A2, hk⟩
      have HB := Lib.hid (hk w (Nat.le_refl _) (btr b0 b1))
      have q0 := A2.cell 0 _ rfl
      have q1 := A2.cell 1 _ rfl
      have q2 := A2.cell 2 _ rfl
      have q3 := A2.cell 3 _ rfl
      have q4 := A2.cell 4 _ rfl
      have q5 := A2.cell 5 _ rfl
      have q6 := A2.cell 6 _ rfl
      simp [Leaves, settle, results, Tryz.results15, go_sem, q0, q1, q2, q3, q4, q5, q6]
      exact HB.out
    · have N := fun w R hB => readWord_hello a len cap B zs w R hB hr
      have ta : ∀ W : World, (Instr.typeAssert (.iface 26 (helV zs)) 157 33 true).run Tryz.prog W = .ok (.tuple #[.agg #[.int .i64 0, .int .i64 0, .int .i64 0, .int .i64 0, .int .i64 0, .int .i64 0], .bool false]) W := fun _ => by kernel_rfl
      generalize helV zs = VV at *
      clear hh hr
      go_enter_defers Tryz.func15, Tryz.ntmps15
      go_wp2_with fail
      generalize w.alloc (.cells #[.int .i64 0, .int .i64 0, .int .i64 0, .int .i64 0, .int .i64 0, .int .i64 0, .int .i64 0] 35) = W0 at *
      refine (N _ R0 hB0).mono ?_
      rintro e u1 ⟨rfl, b1⟩
      have hc := (V0.on b1).cell
      go_wp2_with fail
      refine leaves_cons (f := 98) (args := #[.pointer (some ⟨w.heap.size, 0, none⟩)]) (by simp) (by simp [go_sem]) ?_
      refine (catchReply_panic w.heap.size u v _ (A0.on b1)).mono ?_
      rintro e u' w2 ⟨rfl, rfl, A2, hk⟩
      have HB := Lib.hid (hk w (Nat.le_refl _) (btr b0 b1))
      have q0 := A2.cell 0 _ rfl
      have q1 := A2.cell 1 _ rfl
      have q2 := A2.cell 2 _ rfl
      have q3 := A2.cell 3 _ rfl
      have q4 := A2.cell 4 _ rfl
      have q5 := A2.cell 5 _ rfl
      have q6 := A2.cell 6 _ rfl
      simp [Leaves, settle, results, Tryz.results15, go_sem, q0, q1, q2, q3, q4, q5, q6]
      exact HB.out
  · rw [repT_yes hh]
    have N := fun w R hB => readWord_reply a len cap B zs w R hB hh
    have ta : ∀ W : World, (Instr.typeAssert (.iface 33 (repV zs)) 157 33 true).run Tryz.prog W = .ok (.tuple #[repV zs, .bool true]) W := fun _ => by kernel_rfl
    unfold repV at *
    generalize tw zs 1 = y1 at *
    generalize tw zs 3 = y3 at *
    generalize tw zs 5 = y5 at *
    generalize tw zs 7 = y7 at *
    generalize tw zs 9 = y9 at *
    generalize tw zs 11 = y11 at *
    clear hh
    go_enter_defers Tryz.func15, Tryz.ntmps15
    go_wp2_with fail
    generalize w.alloc (.cells #[.int .i64 0, .int .i64 0, .int .i64 0, .int .i64 0, .int .i64 0, .int .i64 0, .int .i64 0] 35) = W0 at *
    refine (N _ R0 hB0).mono ?_
    rintro e u1 ⟨rfl, b1⟩
    have lt1 : w.heap.size < u1.heap.size := (A0.on b1).lt (by simp)
    have p0 := (A0.on b1).cell 0 _ rfl
    have p1 := (A0.on b1).cell 1 _ rfl
    have p2 := (A0.on b1).cell 2 _ rfl
    have p3 := (A0.on b1).cell 3 _ rfl
    have p4 := (A0.on b1).cell 4 _ rfl
    have p5 := (A0.on b1).cell 5 _ rfl
    have p6 := (A0.on b1).cell 6 _ rfl
    have z0 := (A0.on b1).free 0 _ rfl
    have z1 := (A0.on b1).free 1 _ rfl
    have z2 := (A0.on b1).free 2 _ rfl
    have z3 := (A0.on b1).free 3 _ rfl
    have z4 := (A0.on b1).free 4 _ rfl
    have z5 := (A0.on b1).free 5 _ rfl
    have z6 := (A0.on b1).free 6 _ rfl
    have A9 := ((((((((A0.on b1).set 0 (.int .i64 0)).set 1 (.int .i64 y1)).set 2 (.int .i64 y3)).set 3 (.int .i64 y5)).set 4 (.int .i64 y7)).set 5 (.int .i64 y9)).set 6 (.int .i64 y11)).alloc (.cells #[.int .i64 y1, .int .i64 y3, .int .i64 y5, .int .i64 y7, .int .i64 y9, .int .i64 y11] 33)
    have q0 := A9.cell 0 _ rfl
    have q1 := A9.cell 1 _ rfl
    have q2 := A9.cell 2 _ rfl
    have q3 := A9.cell 3 _ rfl
    have q4 := A9.cell 4 _ rfl
    have q5 := A9.cell 5 _ rfl
    have q6 := A9.cell 6 _ rfl
    have HB := Lib.hid (bal (bset (bset (bset (bset (bset (bset (bset (btr b0 b1) (p := ⟨w.heap.size, 0, none⟩) (Nat.le_refl _) (.int .i64 0)) (p := ⟨w.heap.size, 1, none⟩) (Nat.le_refl _) (.int .i64 y1)) (p := ⟨w.heap.size, 2, none⟩) (Nat.le_refl _) (.int .i64 y3)) (p := ⟨w.heap.size, 3, none⟩) (Nat.le_refl _) (.int .i64 y5)) (p := ⟨w.heap.size, 4, none⟩) (Nat.le_refl _) (.int .i64 y7)) (p := ⟨w.heap.size, 5, none⟩) (Nat.le_refl _) (.int .i64 y9)) (p := ⟨w.heap.size, 6, none⟩) (Nat.le_refl _) (.int .i64 y11)) (.cells #[.int .i64 y1, .int .i64 y3, .int .i64 y5, .int .i64 y7, .int .i64 y9, .int .i64 y11] 33))
    clear A0 A9 b0 b1 V0 R0 N
    go_wp2_with fail
    refine leaves_cons (f := 98) (args := #[.pointer (some ⟨w.heap.size, 0, none⟩)]) (by simp) (by simp [go_sem]) ?_
    refine (catchReply_idle _ _).mono ?_
    rintro e u' w2 ⟨rfl, rfl, rfl⟩
    simp [Leaves, settle, results, Tryz.results15, go_sem, q0, q1, q2, q3, q4, q5, q6]
    exact HB.out
end Go.Proofs.YtlodhleihnlchaaGreatDoor
namespace Go.Proofs.YtlodhleihnlchaaGreatDoor
open Go.RowKit
set_option maxRecDepth 100000
set_option linter.unusedVariables false

theorem byte_back6 {z : Int} (h : M.byteB z) : ((UInt8.ofNat z.toNat).toNat : Int) = z := by
  unfold M.byteB at h
  simp
  omega
theorem text_back6 {zs : List Int} (h : ∀ z ∈ zs, M.byteB z) : M.textL (M.bs (zs.map fun z => UInt8.ofNat z.toNat)) = zs := by
  unfold M.textL
  rw [M.bs_list, List.map_map]
  have : zs.map ((fun c : UInt8 => (c.toNat : Int)) ∘ fun z => UInt8.ofNat z.toNat) = zs.map id := List.map_congr_left fun z hz => byte_back6 (h z hz)
  rw [this, List.map_id]
theorem tw_back {zs : List Int} (hb : ∀ z ∈ zs, M.byteB z) (i : Nat) (h : i + 1 < zs.length) : M.two (tw zs i) = [zs.getD i 0, zs.getD (i + 1) 0] := by
  have m1 : zs.getD i 0 ∈ zs := by rw [List.getD_eq_getElem?_getD, List.getElem?_eq_getElem (by omega)]; exact List.getElem_mem _
  have m2 : zs.getD (i + 1) 0 ∈ zs := by rw [List.getD_eq_getElem?_getD, List.getElem?_eq_getElem (by omega)]; exact List.getElem_mem _
  have h1 := hb _ m1
  have h2 := hb _ m2
  unfold M.byteB at h1 h2
  unfold M.two tw
  congr 1
  · omega
  · congr 1
    omega
theorem five_split {zs : List Int} (h : 5 ≤ zs.length) : zs = zs.getD 0 0 :: zs.getD 1 0 :: zs.getD 2 0 :: zs.getD 3 0 :: zs.getD 4 0 :: zs.drop 5 := by
  match zs, h with
  | a :: b :: c :: d :: e :: r, _ => rfl
theorem two_val {v : Int} (h : M.sumB v = true) : 256 * (v / 256) + v % 256 = v := by omega
theorem hel_pack {zs : List Int} (hb : ∀ z ∈ zs, M.byteB z) (h : helOk zs = true) : helF (helNm zs) (tw zs 1) (tw zs 3) = 0 ∧ packH (M.bs (helNm zs)) (tw zs 1) (tw zs 3) = zs := by
  simp only [helOk, Bool.and_eq_true, decide_eq_true_eq] at h
  obtain ⟨⟨h5, h1⟩, hf⟩ := h
  refine ⟨of_decide_eq_true hf, ?_⟩
  have e := five_split h5
  unfold packH helHead
  rw [tw_back hb 1 (by omega), tw_back hb 3 (by omega), helNm, text_back6 (fun z hz => hb z (List.mem_of_mem_drop hz))]
  rw [h1] at e
  exact e.symm
theorem hel_back {n : ByteArray} {r s : Int} (h : helF n.data.toList r s = 0) : helT (packH n r s) = H4 0 r s n := by
  obtain ⟨h1, h2, h3⟩ := helF_zero h
  have e1 : tw (packH n r s) 1 = 256 * (r / 256) + r % 256 := rfl
  have e3 : tw (packH n r s) 3 = 256 * (s / 256) + s % 256 := rfl
  have e4 : helNm (packH n r s) = n.data.toList := by
    have : (packH n r s).drop 5 = M.textL n := rfl
    unfold helNm
    rw [this]
    unfold M.textL
    rw [List.map_map]
    have : n.data.toList.map ((fun z : Int => UInt8.ofNat z.toNat) ∘ fun c : UInt8 => (c.toNat : Int)) = n.data.toList.map id := List.map_congr_left fun c _ => by simp
    rw [this, List.map_id]
  rw [two_val h1] at e1
  rw [two_val (pub_sum6 h2)] at e3
  have hok : helOk (packH n r s) = true := by
    unfold helOk helB
    rw [e1, e3, e4, h, packH_length]
    simp [packH, helHead]
  rw [helT_yes hok, e1, e3, e4, M.bs_data]
theorem hel_cases {zs : List Int} (hb : ∀ z ∈ zs, M.byteB z) : (if helOk zs = true then (0 : Int) else 5) = 5 ∨
    ((if helOk zs = true then (0 : Int) else 5) = 0 ∧ helF (M.bs (if helOk zs = true then helNm zs else [])).data.toList (if helOk zs = true then tw zs 1 else 0) (if helOk zs = true then tw zs 3 else 0) = 0 ∧
      packHL (M.bs (if helOk zs = true then helNm zs else [])) (if helOk zs = true then tw zs 1 else 0) (if helOk zs = true then tw zs 3 else 0) = zs) := by
  cases h : helOk zs
  · exact .inl (by simp)
  · obtain ⟨h1, h2⟩ := hel_pack hb h
    refine .inr ⟨by simp, ?_, ?_⟩
    · simp only [if_true, M.bs_list]
      exact h1
    · simp only [if_true]
      unfold packHL
      rw [M.bs_list, if_pos h1]
      exact h2
theorem hel_laid (n : ByteArray) (r s : Int) : ¬ helF n.data.toList r s = 0 ∨ (helF n.data.toList r s = 0 ∧ helT (packHL n r s) = H4 0 r s n) := by
  by_cases h : helF n.data.toList r s = 0
  · exact .inr ⟨h, by rw [show packHL n r s = packH n r s by simp [packHL, h]]; exact hel_back h⟩
  · exact .inl h

theorem rep_pack {zs : List Int} (hb : ∀ z ∈ zs, M.byteB z) (h : repOk zs = true) : repF (tw zs 1) (tw zs 3) (tw zs 5) (tw zs 7) (tw zs 9) (tw zs 11) = 0 ∧ packR (tw zs 1) (tw zs 3) (tw zs 5) (tw zs 7) (tw zs 9) (tw zs 11) = zs := by
  simp only [repOk, Bool.and_eq_true, decide_eq_true_eq] at h
  obtain ⟨⟨h13, h1⟩, hf⟩ := h
  refine ⟨of_decide_eq_true hf, ?_⟩
  unfold packR frontR
  rw [tw_back hb 1 (by omega), tw_back hb 3 (by omega), tw_back hb 5 (by omega), tw_back hb 7 (by omega), tw_back hb 9 (by omega), tw_back hb 11 (by omega)]
  match zs, h13, h1 with
  | [z0, z1, z2, z3, z4, z5, z6, z7, z8, z9, z10, z11, z12], _, h1 =>
    have : z0 = 2 := h1
    subst this
    rfl
theorem rep_back {r s p x y f : Int} (h : repF r s p x y f = 0) : repT (packR r s p x y f) = R7 0 r s p x y f := by
  obtain ⟨h1, h2, h3, h4, h5⟩ := repF_zero h
  obtain ⟨h6, h7⟩ := sig_sums h5
  have e1 : tw (packR r s p x y f) 1 = 256 * (r / 256) + r % 256 := rfl
  have e3 : tw (packR r s p x y f) 3 = 256 * (s / 256) + s % 256 := rfl
  have e5 : tw (packR r s p x y f) 5 = 256 * (p / 256) + p % 256 := rfl
  have e7 : tw (packR r s p x y f) 7 = 256 * (x / 256) + x % 256 := rfl
  have e9 : tw (packR r s p x y f) 9 = 256 * (y / 256) + y % 256 := rfl
  have e11 : tw (packR r s p x y f) 11 = 256 * (f / 256) + f % 256 := rfl
  rw [two_val h1] at e1
  rw [two_val (pub_sum6 h2)] at e3
  rw [two_val (pub_sum6 h3)] at e5
  rw [two_val h6] at e7
  rw [two_val h7] at e9
  rw [two_val h4] at e11
  have e0 : (packR r s p x y f).getD 0 0 = 2 := rfl
  have hok : repOk (packR r s p x y f) = true := by
    unfold repOk repB
    rw [e1, e3, e5, e7, e9, e11, h, packR_length, e0]
    rfl
  rw [repT_yes hok, e1, e3, e5, e7, e9, e11]
theorem rep_cases {zs : List Int} (hb : ∀ z ∈ zs, M.byteB z) : (if repOk zs = true then (0 : Int) else 5) = 5 ∨
    ((if repOk zs = true then (0 : Int) else 5) = 0 ∧ repF (if repOk zs = true then tw zs 1 else 0) (if repOk zs = true then tw zs 3 else 0) (if repOk zs = true then tw zs 5 else 0) (if repOk zs = true then tw zs 7 else 0) (if repOk zs = true then tw zs 9 else 0) (if repOk zs = true then tw zs 11 else 0) = 0 ∧
      packRL (if repOk zs = true then tw zs 1 else 0) (if repOk zs = true then tw zs 3 else 0) (if repOk zs = true then tw zs 5 else 0) (if repOk zs = true then tw zs 7 else 0) (if repOk zs = true then tw zs 9 else 0) (if repOk zs = true then tw zs 11 else 0) = zs) := by
  cases h : repOk zs
  · exact .inl (by simp)
  · obtain ⟨h1, h2⟩ := rep_pack hb h
    refine .inr ⟨by simp, ?_, ?_⟩
    · simp only [if_true]
      exact h1
    · simp only [if_true]
      unfold packRL
      rw [if_pos h1]
      exact h2
theorem rep_laid (r s p x y f : Int) : ¬ repF r s p x y f = 0 ∨ (repF r s p x y f = 0 ∧ repT (packRL r s p x y f) = R7 0 r s p x y f) := by
  by_cases h : repF r s p x y f = 0
  · exact .inr ⟨h, by rw [show packRL r s p x y f = packR r s p x y f by simp [packRL, h]]; exact rep_back h⟩
  · exact .inl h
theorem hr0 (c r s : Int) (n : ByteArray) (w : World) : Sem.run Tryz.prog (Instr.field 28 (.agg #[.int .i64 c, .int .i64 r, .int .i64 s, .string n]) 0) w = .ok (.int .i64 c) w := by kernel_rfl
theorem hr1 (c r s : Int) (n : ByteArray) (w : World) : Sem.run Tryz.prog (Instr.field 28 (.agg #[.int .i64 c, .int .i64 r, .int .i64 s, .string n]) 1) w = .ok (.agg #[.int .i64 r, .int .i64 s, .string n]) w := by kernel_rfl
theorem rr0 (c r s p x y f : Int) (w : World) : Sem.run Tryz.prog (Instr.field 35 (.agg #[.int .i64 c, .int .i64 r, .int .i64 s, .int .i64 p, .int .i64 x, .int .i64 y, .int .i64 f]) 0) w = .ok (.int .i64 c) w := by kernel_rfl
theorem rr1 (c r s p x y f : Int) (w : World) : Sem.run Tryz.prog (Instr.field 35 (.agg #[.int .i64 c, .int .i64 r, .int .i64 s, .int .i64 p, .int .i64 x, .int .i64 y, .int .i64 f]) 1) w = .ok (.agg #[.int .i64 r, .int .i64 s, .int .i64 p, .int .i64 x, .int .i64 y, .int .i64 f]) w := by kernel_rfl
theorem ir0 (c v : Int) (w : World) : Sem.run Tryz.prog (Instr.field 49 (.agg #[.int .i64 c, .int .i64 v]) 0) w = .ok (.int .i64 c) w := by kernel_rfl
theorem ir1 (c v : Int) (w : World) : Sem.run Tryz.prog (Instr.field 49 (.agg #[.int .i64 c, .int .i64 v]) 1) w = .ok (.int .i64 v) w := by kernel_rfl
end Go.Proofs.YtlodhleihnlchaaGreatDoor
namespace Go.Proofs.YtlodhleihnlchaaGreatDoor
open Go.RowKit
set_option maxRecDepth 100000

structure LRel (w0 : World) (a : Option Addr) (len cap : Nat) (zs : List Int) (p b : Nat) (v : Value) (wr : World) : Prop where
  own : ∃ zs', zs'.length ≤ b ∧ OwnK .i64 wr (w0.heap.size + 1) v zs' ∧ ∀ z ∈ zs', (Lit.int .i64 z).wf = true
  draw : Draw w0 a len cap zs p wr
section
variable {w0 : World} {a : Option Addr} {len cap : Nat} {zs : List Int} {p p' b : Nat} {v : Value} {w w' : World}
theorem LRel.only (h : LRel w0 a len cap zs p b v w) (hO : Only w0.heap.size w w') (D : Draw w0 a len cap zs p' w') : LRel w0 a len cap zs p' b v w' := by
  obtain ⟨zs', h1, h2, h3⟩ := h.own
  exact ⟨⟨zs', h1, h2.only hO (by omega), h3⟩, D⟩
theorem LRel.alloc (h : LRel w0 a len cap zs p b v w) (o : Obj) : LRel w0 a len cap zs p b v (w.alloc o) := by
  obtain ⟨zs', h1, h2, h3⟩ := h.own
  exact ⟨⟨zs', h1, h2.alloc o, h3⟩, h.draw.alloc o⟩
end
structure GRel (w0 : World) (a : Option Addr) (len cap : Nat) (zs : List Int) (p b : Nat) (v : Value) (wr : World) : Prop where
  own : ∃ rows, rows.length ≤ b ∧ Own2 wr (w0.heap.size + 1) v rows
  draw : Draw w0 a len cap zs p wr
section
variable {w0 : World} {a : Option Addr} {len cap : Nat} {zs : List Int} {p p' b : Nat} {v : Value} {w w' : World}
theorem GRel.only (h : GRel w0 a len cap zs p b v w) (hO : Only w0.heap.size w w') (D : Draw w0 a len cap zs p' w') : GRel w0 a len cap zs p' b v w' := by
  obtain ⟨rows, h1, h2⟩ := h.own
  exact ⟨⟨rows, h1, h2.only hO (by omega)⟩, D⟩
theorem GRel.alloc (h : GRel w0 a len cap zs p b v w) (o : Obj) : GRel w0 a len cap zs p b v (w.alloc o) := by
  obtain ⟨rows, h1, h2⟩ := h.own
  exact ⟨⟨rows, h1, h2.alloc o⟩, h.draw.alloc o⟩
end
theorem lwBytes_any {B : Nat} {a b : Option Addr} {n1 n2 c1 c2 : Nat} {zs : List Int} {w : World} (hR : Row .u8 w B a n1 c1 zs) (hQ : Row .u8 w B b n2 c2 zs) :
    Calls Tryz.prog 21 #[.slice a n1 c1, .slice b n2 c2] w fun r w' => r = .returned (.bool true) ∧ w = w' := by
  have k1 := conv_row hR
  have k2 := conv_row hQ
  clear hR hQ
  generalize strOf zs = S at k1 k2
  go_enter Tryz.func21, Tryz.ntmps21
  go_wp2_with fail
  go_ret
  simp

end Go.Proofs.YtlodhleihnlchaaGreatDoor
namespace Go.Proofs.YtlodhleihnlchaaGreatDoor
open Go.RowKit
set_option maxRecDepth 100000
set_option linter.unusedVariables false

theorem sigF_eq (p q : Int) : (M.sigF p q == 0) = M.sigB p q := by
  unfold M.sigF
  cases M.sigB p q <;> rfl
theorem l3Read_any (a : Option Addr) (len cap B : Nat) (zs : List Int) (w : World) (hR : Row .u8 w B a len cap zs) (hB : B ≤ w.heap.size) :
    Calls Tryz.prog 197 #[.slice a len cap] w fun r w' => r = .returned (.tuple #[(if zs.length = 4 then I2 (M.readP zs) (M.readQ zs) else I2 0 0), .bool (M.readB zs)]) ∧ Below w.heap.size w w' := by
  have hlen := hR.fits
  have hmost := hR.most
  have hm2 := hmost
  unfold maxLen at hm2
  by_cases h4 : len = 4
  · subst h4
    obtain ⟨b, off, x, y, u, v, rfl, rfl, d0, d1, d2, d3, x0, x1, y0, y1, u0, u1, v0, v1⟩ := row_four hR
    have eP : M.readP [x, y, u, v] = 256 * x + y := by simp [M.readP]
    have eQ : M.readQ [x, y, u, v] = 256 * u + v := by simp [M.readQ]
    have eB : M.readB [x, y, u, v] = M.sigB (256 * x + y) (256 * u + v) := by simp only [M.readB, eP, eQ]; rfl
    rw [eP, eQ, eB, ← sigF_eq, if_pos (show [x, y, u, v].length = 4 from rfl)]
    clear eP eQ eB hR
    have T1 := fun (w' : World) d0 d1 => l1At_any b off 4 cap 0 x y w' (by omega) (by omega) hlen hmost d0 d1 x0 x1 y0 y1
    have T2 := fun (w' : World) d2 d3 => l1At_any b off 4 cap 2 u v w' (by omega) (by omega) hlen hmost d2 d3 u0 u1 v0 v1
    have hb0 := bal (Below.refl _ w) (.cells #[.int .i64 0, .int .i64 0] 31)
    have hR0 := Res2.new w 31
    go_enter Tryz.func197, Tryz.ntmps197
    go_wp2_with fail
    refine (T1 _ (cell_keep hb0 d0) (cell_keep hb0 d1)).mono ?_
    rintro r w1 ⟨rfl, h1⟩
    have b1 := btr hb0 h1
    have hR1 := hR0.on h1
    clear h1 hb0 hR0 T1
    go_wp2_with fail
    refine (T2 _ (cell_keep b1 d2) (cell_keep b1 d3)).mono ?_
    rintro r w2 ⟨rfl, h2⟩
    have b2 := btr b1 h2
    have hR2 := hR1.on h2
    clear h2 b1 hR1 T2 d0 d1 d2 d3
    have k0 : (w2.alloc (.cells #[.int .i64 (256 * x + y), .int .i64 (256 * u + v)] 31)).cell? ⟨w2.heap.size, 0, none⟩ = some (.int .i64 (256 * x + y)) := by go_simp
    have k1 : (w2.alloc (.cells #[.int .i64 (256 * x + y), .int .i64 (256 * u + v)] 31)).cell? ⟨w2.heap.size, 1, none⟩ = some (.int .i64 (256 * u + v)) := by go_simp
    have hR3 := hR2.on (bal (Below.refl _ _) (.cells #[.int .i64 (256 * x + y), .int .i64 (256 * u + v)] 31))
    have b3 := bal b2 (.cells #[.int .i64 (256 * x + y), .int .i64 (256 * u + v)] 31)
    have hne : w.heap.size < w2.heap.size := cell_lt hR2.c0
    clear b2 hR2
    go_wp2_with fail
    generalize w2.alloc (.cells #[.int .i64 (256 * x + y), .int .i64 (256 * u + v)] 31) = v2 at *
    have T0 : SigAt w w2.heap.size (256 * x + y) (256 * u + v) v2.drew := ⟨b3.drew, k0, k1⟩
    refine wp_region_line (SigAt w w2.heap.size (256 * x + y) (256 * u + v)) [(0, true), (1, false), (2, true), (3, false), (4, true)] (by kernel_rfl) (by kernel_rfl) (fun _ _ d _ _ h => by cases d <;> exact h) T0 ?_
    have hst := T0
    have hRV : Res2 w.heap.size v2.drew := hR3.on (bdrew _)
    clear T0 hR3 k0 k1 b3
    generalize v2.drew = V at *
    have inst : Nonempty (Of (SigAt w w2.heap.size (256 * x + y) (256 * u + v))) := ⟨⟨_, hst⟩⟩
    have q8 : ∀ z : Of (SigAt w w2.heap.size (256 * x + y) (256 * u + v)), z.val.cell? ⟨w2.heap.size, 0, none⟩ = some (.int .i64 (256 * x + y)) := fun z => z.prop.c0
    have q9 : ∀ z : Of (SigAt w w2.heap.size (256 * x + y) (256 * u + v)), z.val.cell? ⟨w2.heap.size, 1, none⟩ = some (.int .i64 (256 * u + v)) := fun z => z.prop.c1
    iterate 1 (refine line_read rfl (by kernel_rfl) (fun K hK => ?_); go_big_quiet_op; refine hK _ ?_; clear hK K)
    refine line_alone rfl (by kernel_rfl) (fun K hK => ?_)
    refine call_wp (args := #[.pointer (some ⟨w2.heap.size, 0, none⟩)]) rfl (by kernel_rfl) (by kernel_rfl) (l3Fault_any _ _ _ _ hst.c0 hst.c1) (fun wn hbn => ?_)
    subst hbn
    refine hK _ _ hst ?_
    clear hK K
    simp only [Act.put, List.setIfInBounds_toArray, List.set_cons_zero, List.set_cons_succ]
    iterate 1 (refine line_read rfl (by kernel_rfl) (fun K hK => ?_); go_big_quiet_op; refine hK _ ?_; clear hK K)
    obtain ⟨q0, q1, z0, z1⟩ := hRV
    refine line_alone rfl (by kernel_rfl) (fun K hK => ?_)
    go_big_op
    refine hK _ _ (hst.set hne) ?_
    clear hK K
    iterate 1 (refine line_read rfl (by kernel_rfl) (fun K hK => ?_); go_big_quiet_op; refine hK _ ?_; clear hK K)
    refine line_nil ?_
    go_wp2_with fail
    exact bodyPost_ret (v := .tuple #[I2 (256 * x + y) (256 * u + v), .bool (M.sigF (256 * x + y) (256 * u + v) == 0)]) (by simp [results, Tryz.results197, go_sem, q0, q1]) rfl ⟨rfl, bset (bset hst.bel (Nat.le_refl _) _) (Nat.le_refl _) _⟩
  · have e4 : ((len : Int) == 4) = false := by rw [beq_eq_false_iff_ne]; omega
    have hl : ¬ zs.length = 4 := by rw [hR.length]; exact h4
    have eB : M.readB zs = false := by simp [M.readB, hl]
    rw [eB, if_neg hl]
    clear h4 eB hl
    go_enter Tryz.func197, Tryz.ntmps197
    go_wp2_with fail
    exact bodyPost_ret (v := .tuple #[I2 0 0, .bool false]) (by simp [results, Tryz.results197, go_sem]) rfl ⟨rfl, bal (Below.refl _ _) _⟩
end Go.Proofs.YtlodhleihnlchaaGreatDoor
namespace Go.Proofs.YtlodhleihnlchaaGreatDoor
open Go.RowKit
set_option maxRecDepth 100000
set_option linter.unusedVariables false

def CellsAt (V : World) (cs : List Value) (v : Value) (wx : World) : Prop := ∃ g, v = .pointer (some ⟨g, 0, none⟩) ∧ At g cs wx ∧ Below V.heap.size V wx ∧ V.heap.size ≤ g
def HelRead (zs : List Int) (w : World) (e : Ending) (w' : World) : Prop := ∃ r s n, e = .returned (.tuple #[H3 r s n, .bool (helOk zs)]) ∧ (helOk zs = true → r = tw zs 1 ∧ s = tw zs 3 ∧ n = M.bs (helNm zs)) ∧ Below w.heap.size w w'
def RepRead (zs : List Int) (w : World) (e : Ending) (w' : World) : Prop := ∃ r s p x y f, e = .returned (.tuple #[R6 r s p x y f, .bool (repOk zs)]) ∧ (repOk zs = true → r = tw zs 1 ∧ s = tw zs 3 ∧ p = tw zs 5 ∧ x = tw zs 7 ∧ y = tw zs 9 ∧ f = tw zs 11) ∧ Below w.heap.size w w'

theorem l6ReadHello_any (a : Option Addr) (len cap B : Nat) (zs : List Int) (w : World) (hR : Row .u8 w B a len cap zs) (hB : B ≤ w.heap.size) :
    Calls Tryz.prog 102 #[.slice a len cap] w (HelRead zs w) := by
  have hlen := hR.fits
  have hmost := hR.most
  have hzl := hR.length
  have hm2 := hmost
  unfold maxLen at hm2
  have b0 := bal (Below.refl _ w) (.cells #[.int .i64 0, .int .i64 0, .string { data := #[] }] 26)
  have A0 := At.new w (HL3 0 0 { data := #[] }) 26
  by_cases h6 : len < 6
  · have hno := helOk_short (zs := zs) (by omega)
    have F : HelRead zs w (.returned (.tuple #[H3 0 0 { data := #[] }, .bool false])) (w.alloc (.cells #[.int .i64 0, .int .i64 0, .string { data := #[] }] 26)) := ⟨_, _, _, by rw [hno], (fun h => by rw [hno] at h; cases h), b0⟩
    have h6' : (len : Int) < 6 := by omega
    clear hR hno
    go_enter Tryz.func102, Tryz.ntmps102
    go_wp2_with fail
    exact bodyPost_ret (v := .tuple #[H3 0 0 { data := #[] }, .bool false]) (by simp [results, Tryz.results102, go_sem]) rfl F
  obtain ⟨b, off, rfl, hb, hc⟩ := hR.cells (by omega)
  have d0 := cell_keep b0 (hc 0 (by omega))
  rw [Nat.add_zero] at d0
  have h6' : ¬ (len : Int) < 6 := by omega
  by_cases hz1 : zs.getD 0 0 = 1
  · have d1 := cell_keep b0 (hc 1 (by omega))
    have d2 := cell_keep b0 (hc 2 (by omega))
    have d3 := cell_keep b0 (hc 3 (by omega))
    have d4 := cell_keep b0 (hc 4 (by omega))
    have R1 := hR.below (b0.mono hB)
    have hWB : B ≤ (w.alloc (.cells #[.int .i64 0, .int .i64 0, .string { data := #[] }] 26)).heap.size := by simp; omega
    have hsub := fun (w' : World) (R : Row .u8 w' B (some ⟨b, off, none⟩) len cap zs) => conv_row (R.sub 5 (len - 5) (cap - 5) (by omega) (by omega) (by omega))
    have edrop : (zs.drop 5).take (len - 5) = zs.drop 5 := List.take_of_length_le (by simp; omega)
    simp only [edrop, helNm_str] at hsub
    have T1 := fun (w' : World) d c => l1At_any b off len cap 1 (zs.getD 1 0) (zs.getD 2 0) w' (by omega) (by omega) hlen hmost d c (hR.byte 1).1 (hR.byte 1).2 (hR.byte 2).1 (hR.byte 2).2
    have T2 := fun (w' : World) d c => l1At_any b off len cap 3 (zs.getD 3 0) (zs.getD 4 0) w' (by omega) (by omega) hlen hmost d c (hR.byte 3).1 (hR.byte 3).2 (hR.byte 4).1 (hR.byte 4).2
    have hF := fun g w A => l6Hello_any g (tw zs 1) (tw zs 3) (M.bs (helNm zs)) w A (helNm_size maxLen (by omega))
    rw [M.bs_list] at hF
    have hOk : helOk zs = (helF (helNm zs) (tw zs 1) (tw zs 3) == 0) := by
      unfold helOk helB
      rw [hz1, decide_eq_true (show 5 ≤ zs.length by omega)]
      simp
      rw [Bool.eq_iff_iff]
      simp
    have HP : ∀ w' : World, Below w.heap.size w w' → HelRead zs w (.returned (.tuple #[H3 (tw zs 1) (tw zs 3) (M.bs (helNm zs)), .bool (helF (helNm zs) (tw zs 1) (tw zs 3) == 0)])) w' := fun w' hb => ⟨_, _, _, by rw [hOk], fun _ => ⟨rfl, rfl, rfl⟩, hb⟩
    have e1 : tw zs 1 = 256 * zs.getD 1 0 + zs.getD 2 0 := rfl
    have e3 : tw zs 3 = 256 * zs.getD 3 0 + zs.getD 4 0 := rfl
    rw [← e1] at T1
    rw [← e3] at T2
    rw [hz1] at d0
    clear e1 e3 hOk
    generalize HQ : HelRead zs w = Q at *
    clear HQ
    generalize helF (helNm zs) (tw zs 1) (tw zs 3) = cd at *
    generalize M.bs (helNm zs) = N at *
    generalize tw zs 1 = y1 at *
    generalize tw zs 3 = y3 at *
    clear hR hc edrop hmost
    go_enter Tryz.func102, Tryz.ntmps102
    go_upto_region 3 with fail
    generalize w.alloc (.cells #[.int .i64 0, .int .i64 0, .string { data := #[] }] 26) = W0 at *
    go_cut [4] from 15 to 23 (fun v' wx => CellsAt W0 [.int .i64 y1, .int .i64 y3, .string N] v' wx)
    case first =>
      refine wp_region_fork (Bel W0) (by kernel_rfl) (Bel.drew W0) ?_
      have hst : (Bel W0) _ := (Bel.drew W0)
      have inst : Nonempty (Of (Bel W0)) := ⟨⟨_, hst⟩⟩
      have cv : ∀ z : Of (Bel W0), (convert 22 9 (.slice (some ⟨b, off + 5, none⟩) (len - 5) (cap - 5))).run Tryz.prog z.val = .ok (.string N) z.val := fun z => hsub _ (R1.below (z.prop.out.mono hWB))
      generalize W0.drew = V1 at *
      refine any_seg 5 [(0, true), (2, true), (4, true), (5, true), (6, true)] (by kernel_rfl) (fun _ _ d _ _ h => by cases d <;> exact h) ?_
      iterate 5 (refine line_read rfl (by kernel_rfl) (fun K hK => ?_); go_big_quiet_op; refine hK _ ?_; clear hK K)
      refine line_nil ?_
      clear cv
      refine any_fork 1 8 (by kernel_rfl) rfl rfl (by kernel_rfl) (by kernel_rfl) (fun K hK => ?_) (fun K hK => ?_)
      · refine call_any (args := #[.slice (some ⟨b, off, none⟩) len cap, .int .i64 1]) rfl (by kernel_rfl) (by kernel_rfl) (T1 _ (cell_keep hst.out d1) (cell_keep hst.out d2)) ?_
        rintro e x0 ⟨rfl, hbn⟩
        have hst2 := hst.on hbn
        refine ⟨_, rfl, hK _ _ hst2 ?_⟩
        clear hK K hst hbn
        have hst := hst2
        clear hst2
        simp only [Act.put, List.setIfInBounds_toArray, List.set_cons_zero, List.set_cons_succ]
        refine any_fork 3 8 (by kernel_rfl) rfl rfl (by kernel_rfl) (by kernel_rfl) (fun K hK => ?_) (fun K hK => ?_)
        · refine call_any (args := #[.slice (some ⟨b, off, none⟩) len cap, .int .i64 3]) rfl (by kernel_rfl) (by kernel_rfl) (T2 _ (cell_keep hst.out d3) (cell_keep hst.out d4)) ?_
          rintro e x1 ⟨rfl, hbn⟩
          have hst2 := hst.on hbn
          refine ⟨_, rfl, hK _ _ hst2 ?_⟩
          clear hK K hst hbn
          have hst := hst2
          clear hst2
          simp only [Act.put, List.setIfInBounds_toArray, List.set_cons_zero, List.set_cons_succ]
          refine any_rest [(7, true), (8, false), (9, false)] (by kernel_rfl) (fun _ _ d _ _ h => by cases d <;> exact h) ?_
          refine line_readv (v := H3 y1 y3 N) rfl (by kernel_rfl) (fun _ => by kernel_rfl) ?_
          simp only [Act.put, List.setIfInBounds_toArray, List.set_cons_zero, List.set_cons_succ]
          refine line_alone rfl (by kernel_rfl) (fun K hK => ?_)
          go_big_op
          have hst2 := hst.on (bal (Below.refl _ x1) (.cells #[.int .i64 0, .int .i64 0, .string { data := #[] }] 26))
          have A := At.new x1 [.int .i64 0, .int .i64 0, .string { data := #[] }] 26
          have leA : W0.heap.size ≤ x1.heap.size := hst.out.size
          refine hK _ _ hst2 ?_
          clear hK K hst
          have hst := hst2
          clear hst2
          generalize x1.alloc (.cells #[.int .i64 0, .int .i64 0, .string { data := #[] }] 26) = xa at *
          have p0 := A.cell 0 _ rfl
          have p1 := A.cell 1 _ rfl
          have p2 := A.cell 2 _ rfl
          have f0 := A.free 0 _ rfl
          have f1 := A.free 1 _ rfl
          have f2 := A.free 2 _ rfl
          refine line_alone rfl (by kernel_rfl) (fun K hK => ?_)
          go_big_op
          refine hK _ _ (⟨(by (iterate 3 (refine bset ?_ (by dsimp only; omega) _)); exact hst.out)⟩) ?_
          clear hK K
          have A9 := (((A.set 0 (.int .i64 y1)).set 1 (.int .i64 y3)).set 2 (.string N))
          refine line_nil ?_
          go_wp2_with fail
          go_meet
          case rel => exact ⟨_, rfl, A9, (by (iterate 3 (refine bset ?_ (by dsimp only; omega) _)); exact hst.out), leA⟩
        · go_big_op
          have hst2 := hst.on (bal (Below.refl _ x0) (.cells #[.int .i64 0, .int .i64 0, .string { data := #[] }] 26))
          have A := At.new x0 [.int .i64 0, .int .i64 0, .string { data := #[] }] 26
          have leA : W0.heap.size ≤ x0.heap.size := hst.out.size
          refine hK _ _ hst2 ?_
          clear hK K hst
          have hst := hst2
          clear hst2
          generalize x0.alloc (.cells #[.int .i64 0, .int .i64 0, .string { data := #[] }] 26) = xa at *
          refine any_rest [(3, false), (7, true), (9, false)] (by kernel_rfl) (fun _ _ d _ _ h => by cases d <;> exact h) ?_
          refine line_alone rfl (by kernel_rfl) (fun K hK => ?_)
          refine call_any (args := #[.slice (some ⟨b, off, none⟩) len cap, .int .i64 3]) rfl (by kernel_rfl) (by kernel_rfl) (T2 _ (cell_keep hst.out d3) (cell_keep hst.out d4)) ?_
          rintro e kw1 ⟨rfl, hbn⟩
          have hst2 := hst.on hbn
          have A2 := A.on hbn
          clear A
          have A := A2
          clear A2
          refine ⟨_, rfl, hK _ _ hst2 ?_⟩
          clear hK K hst hbn
          have hst := hst2
          clear hst2
          simp only [Act.put, List.setIfInBounds_toArray, List.set_cons_zero, List.set_cons_succ]
          refine line_readv (v := H3 y1 y3 N) rfl (by kernel_rfl) (fun _ => by kernel_rfl) ?_
          simp only [Act.put, List.setIfInBounds_toArray, List.set_cons_zero, List.set_cons_succ]
          have p0 := A.cell 0 _ rfl
          have p1 := A.cell 1 _ rfl
          have p2 := A.cell 2 _ rfl
          have f0 := A.free 0 _ rfl
          have f1 := A.free 1 _ rfl
          have f2 := A.free 2 _ rfl
          refine line_alone rfl (by kernel_rfl) (fun K hK => ?_)
          go_big_op
          refine hK _ _ (⟨(by (iterate 3 (refine bset ?_ (by dsimp only; omega) _)); exact hst.out)⟩) ?_
          clear hK K
          have A9 := (((A.set 0 (.int .i64 y1)).set 1 (.int .i64 y3)).set 2 (.string N))
          refine line_nil ?_
          go_wp2_with fail
          go_meet
          case rel => exact ⟨_, rfl, A9, (by (iterate 3 (refine bset ?_ (by dsimp only; omega) _)); exact hst.out), leA⟩
      · go_big_op
        have hst2 := hst.on (bal (Below.refl _ V1) (.cells #[.int .i64 0, .int .i64 0, .string { data := #[] }] 26))
        have A := At.new V1 [.int .i64 0, .int .i64 0, .string { data := #[] }] 26
        have leA : W0.heap.size ≤ V1.heap.size := hst.out.size
        refine hK _ _ hst2 ?_
        clear hK K hst
        have hst := hst2
        clear hst2
        generalize V1.alloc (.cells #[.int .i64 0, .int .i64 0, .string { data := #[] }] 26) = xa at *
        refine any_rest [(1, false), (3, false), (7, true), (9, false)] (by kernel_rfl) (fun _ _ d _ _ h => by cases d <;> exact h) ?_
        refine line_alone rfl (by kernel_rfl) (fun K hK => ?_)
        refine call_any (args := #[.slice (some ⟨b, off, none⟩) len cap, .int .i64 1]) rfl (by kernel_rfl) (by kernel_rfl) (T1 _ (cell_keep hst.out d1) (cell_keep hst.out d2)) ?_
        rintro e kw0 ⟨rfl, hbn⟩
        have hst2 := hst.on hbn
        have A2 := A.on hbn
        clear A
        have A := A2
        clear A2
        refine ⟨_, rfl, hK _ _ hst2 ?_⟩
        clear hK K hst hbn
        have hst := hst2
        clear hst2
        simp only [Act.put, List.setIfInBounds_toArray, List.set_cons_zero, List.set_cons_succ]
        refine line_alone rfl (by kernel_rfl) (fun K hK => ?_)
        refine call_any (args := #[.slice (some ⟨b, off, none⟩) len cap, .int .i64 3]) rfl (by kernel_rfl) (by kernel_rfl) (T2 _ (cell_keep hst.out d3) (cell_keep hst.out d4)) ?_
        rintro e kw1 ⟨rfl, hbn⟩
        have hst2 := hst.on hbn
        have A2 := A.on hbn
        clear A
        have A := A2
        clear A2
        refine ⟨_, rfl, hK _ _ hst2 ?_⟩
        clear hK K hst hbn
        have hst := hst2
        clear hst2
        simp only [Act.put, List.setIfInBounds_toArray, List.set_cons_zero, List.set_cons_succ]
        refine line_readv (v := H3 y1 y3 N) rfl (by kernel_rfl) (fun _ => by kernel_rfl) ?_
        simp only [Act.put, List.setIfInBounds_toArray, List.set_cons_zero, List.set_cons_succ]
        have p0 := A.cell 0 _ rfl
        have p1 := A.cell 1 _ rfl
        have p2 := A.cell 2 _ rfl
        have f0 := A.free 0 _ rfl
        have f1 := A.free 1 _ rfl
        have f2 := A.free 2 _ rfl
        refine line_alone rfl (by kernel_rfl) (fun K hK => ?_)
        go_big_op
        refine hK _ _ (⟨(by (iterate 3 (refine bset ?_ (by dsimp only; omega) _)); exact hst.out)⟩) ?_
        clear hK K
        have A9 := (((A.set 0 (.int .i64 y1)).set 1 (.int .i64 y3)).set 2 (.string N))
        refine line_nil ?_
        go_wp2_with fail
        go_meet
        case rel => exact ⟨_, rfl, A9, (by (iterate 3 (refine bset ?_ (by dsimp only; omega) _)); exact hst.out), leA⟩
    case rest =>
      obtain ⟨g, rfl, A1, b1, hg⟩ := hcut
      have ltA := A1.lt (by simp)
      have lt0 : w.heap.size < W0.heap.size := A0.lt (by simp)
      go_wp2_with fail
      have S0 : Hold w g [.int .i64 y1, .int .i64 y3, .string N] wc.drew := ⟨(btr b0 b1).drew, A1.on (bdrew wc)⟩
      have AA := (A0.on b1).on (bdrew wc)
      refine wp_region_line (Hold w g [.int .i64 y1, .int .i64 y3, .string N]) [(0, true), (1, false), (2, true), (3, false), (4, true)] (by kernel_rfl) (by kernel_rfl) (fun _ _ d _ _ h => by cases d <;> exact h) S0 ?_
      have hst := S0
      have inst : Nonempty (Of (Hold w g [.int .i64 y1, .int .i64 y3, .string N])) := ⟨⟨_, hst⟩⟩
      have q0 := hold_cell (W := w) (g := g) (cs := [.int .i64 y1, .int .i64 y3, .string N]) 0 _ rfl
      have q1 := hold_cell (W := w) (g := g) (cs := [.int .i64 y1, .int .i64 y3, .string N]) 1 _ rfl
      have q2 := hold_cell (W := w) (g := g) (cs := [.int .i64 y1, .int .i64 y3, .string N]) 2 _ rfl
      clear S0 A1 A0 b1 b0
      generalize wc.drew = V2 at *
      iterate 1 (refine line_read rfl (by kernel_rfl) (fun K hK => ?_); go_big_quiet_op; refine hK _ ?_; clear hK K)
      clear q0 q1 q2
      refine line_alone rfl (by kernel_rfl) (fun K hK => ?_)
      refine call_any (args := #[.pointer (some ⟨g, 0, none⟩)]) rfl (by kernel_rfl) (by kernel_rfl) (hF _ _ hst.at') ?_
      rintro e x9 ⟨rfl, hbn⟩
      have hst2 := hst.on hbn
      have AA2 := AA.on hbn
      refine ⟨_, rfl, hK _ _ hst2 ?_⟩
      clear hK K hst hbn AA
      have hst := hst2
      clear hst2
      simp only [Act.put, List.setIfInBounds_toArray, List.set_cons_zero, List.set_cons_succ]
      iterate 1 (refine line_read rfl (by kernel_rfl) (fun K hK => ?_); go_big_quiet_op; refine hK _ ?_; clear hK K)
      have p0 := AA2.cell 0 _ rfl
      have p1 := AA2.cell 1 _ rfl
      have p2 := AA2.cell 2 _ rfl
      have z0 := AA2.free 0 _ rfl
      have z1 := AA2.free 1 _ rfl
      have z2 := AA2.free 2 _ rfl
      refine line_alone rfl (by kernel_rfl) (fun K hK => ?_)
      go_big_op
      refine hK _ _ ((by (iterate 3 (refine Hold.setB ?_ (by dsimp only; omega) (by dsimp only; omega) _)); exact hst)) ?_
      clear hK K
      iterate 1 (refine line_read rfl (by kernel_rfl) (fun K hK => ?_); go_big_quiet_op; refine hK _ ?_; clear hK K)
      refine line_nil ?_
      have HB := Lib.hid hst.bel
      clear hst inst AA2
      go_wp2_with fail
      refine bodyPost_ret (v := .tuple #[H3 y1 y3 N, .bool (cd == 0)]) (by simp [results, Tryz.results102, go_sem, p0, p1, p2]) rfl (HP _ ?_)
      exact (by (iterate 3 (refine bset ?_ (by dsimp only; omega) _)); exact HB.out)
  · have hno : helOk zs = false := by simp only [helOk, decide_eq_false hz1, Bool.and_false, Bool.false_and]
    have F : HelRead zs w (.returned (.tuple #[H3 0 0 { data := #[] }, .bool false])) (w.alloc (.cells #[.int .i64 0, .int .i64 0, .string { data := #[] }] 26)) := ⟨_, _, _, by rw [hno], (fun h => by rw [hno] at h; cases h), b0⟩
    have q1 : (zs.getD 0 0 != 1) = true := by simpa using hz1
    generalize zs.getD 0 0 = z at *
    clear hR hc hno
    go_enter Tryz.func102, Tryz.ntmps102
    go_wp2_with fail
    exact bodyPost_ret (v := .tuple #[H3 0 0 { data := #[] }, .bool false]) (by simp [results, Tryz.results102, go_sem]) rfl F
theorem specReadHello_any (a : Option Addr) (len cap B : Nat) (zs : List Int) (w : World) (hR : Row .u8 w B a len cap zs) (hB : B ≤ w.heap.size) :
    Calls Tryz.prog 20 #[.slice a len cap] w fun e w' => e = .returned (helT zs) ∧ Below w.heap.size w w' := by
  have b0 := bal (Below.refl _ w) (.cells #[.int .i64 0, .int .i64 0, .int .i64 0, .string { data := #[] }] 28)
  have A0 := At.new w (HL4 0 0 0 { data := #[] }) 28
  have F := fun w R hB => l6ReadHello_any a len cap B zs w R hB
  have R0 := hR.below (b0.mono hB)
  have hB0 : B ≤ (w.alloc (.cells #[.int .i64 0, .int .i64 0, .int .i64 0, .string { data := #[] }] 28)).heap.size := by simp; omega
  clear hR
  cases hh : helOk zs
  · rw [helT_no hh]
    go_enter Tryz.func20, Tryz.ntmps20
    go_wp2_with fail
    generalize w.alloc (.cells #[.int .i64 0, .int .i64 0, .int .i64 0, .string { data := #[] }] 28) = W0 at *
    refine (F _ R0 hB0).mono ?_
    rintro e u1 ⟨r, s, n, rfl, hv, b1⟩
    rw [hh] at hv ⊢
    have lt1 : w.heap.size < u1.heap.size := (A0.on b1).lt (by simp)
    have b2 := bal b1 (.cells #[.int .i64 r, .int .i64 s, .string n] 26)
    have p0 := (A0.on b1).cell 0 _ rfl
    have p1 := (A0.on b1).cell 1 _ rfl
    have p2 := (A0.on b1).cell 2 _ rfl
    have p3 := (A0.on b1).cell 3 _ rfl
    have z0 := (A0.on b1).free 0 _ rfl
    have z1 := (A0.on b1).free 1 _ rfl
    have z2 := (A0.on b1).free 2 _ rfl
    have z3 := (A0.on b1).free 3 _ rfl
    have A9 := (((((A0.on b1).set 0 (.int .i64 5)).set 1 (.int .i64 0)).set 2 (.int .i64 0)).set 3 (.string { data := #[] })).alloc (.cells #[.int .i64 r, .int .i64 s, .string n] 26)
    have q0 := A9.cell 0 _ rfl
    have q1 := A9.cell 1 _ rfl
    have q2 := A9.cell 2 _ rfl
    have q3 := A9.cell 3 _ rfl
    have HB := Lib.hid (bal (bset (bset (bset (bset (btr b0 b1) (p := ⟨w.heap.size, 0, none⟩) (Nat.le_refl _) (.int .i64 5)) (p := ⟨w.heap.size, 1, none⟩) (Nat.le_refl _) (.int .i64 0)) (p := ⟨w.heap.size, 2, none⟩) (Nat.le_refl _) (.int .i64 0)) (p := ⟨w.heap.size, 3, none⟩) (Nat.le_refl _) (.string { data := #[] })) (.cells #[.int .i64 r, .int .i64 s, .string n] 26))
    clear A0 A9 b0 b1 b2 hv F R0
    go_wp2_with fail
    refine bodyPost_ret (v := H4 5 0 0 { data := #[] }) (by simp [results, Tryz.results20, go_sem, q0, q1, q2, q3]) rfl ⟨rfl, HB.out⟩
  · rw [helT_yes hh]
    go_enter Tryz.func20, Tryz.ntmps20
    go_wp2_with fail
    generalize w.alloc (.cells #[.int .i64 0, .int .i64 0, .int .i64 0, .string { data := #[] }] 28) = W0 at *
    refine (F _ R0 hB0).mono ?_
    rintro e u1 ⟨r, s, n, rfl, hv, b1⟩
    rw [hh] at hv ⊢
    have lt1 : w.heap.size < u1.heap.size := (A0.on b1).lt (by simp)
    have b2 := bal b1 (.cells #[.int .i64 r, .int .i64 s, .string n] 26)
    have p0 := (A0.on b1).cell 0 _ rfl
    have p1 := (A0.on b1).cell 1 _ rfl
    have p2 := (A0.on b1).cell 2 _ rfl
    have p3 := (A0.on b1).cell 3 _ rfl
    have z0 := (A0.on b1).free 0 _ rfl
    have z1 := (A0.on b1).free 1 _ rfl
    have z2 := (A0.on b1).free 2 _ rfl
    have z3 := (A0.on b1).free 3 _ rfl
    obtain ⟨rfl, rfl, rfl⟩ := hv rfl
    generalize eN : M.bs (helNm zs) = N at *
    generalize e1 : tw zs 1 = y1 at *
    generalize e3 : tw zs 3 = y3 at *
    have A9 := (((((A0.on b1).set 0 (.int .i64 0)).set 1 (.int .i64 y1)).set 2 (.int .i64 y3)).set 3 (.string N)).alloc (.cells #[.int .i64 y1, .int .i64 y3, .string N] 26)
    have q0 := A9.cell 0 _ rfl
    have q1 := A9.cell 1 _ rfl
    have q2 := A9.cell 2 _ rfl
    have q3 := A9.cell 3 _ rfl
    have HB := Lib.hid (bal (bset (bset (bset (bset (btr b0 b1) (p := ⟨w.heap.size, 0, none⟩) (Nat.le_refl _) (.int .i64 0)) (p := ⟨w.heap.size, 1, none⟩) (Nat.le_refl _) (.int .i64 y1)) (p := ⟨w.heap.size, 2, none⟩) (Nat.le_refl _) (.int .i64 y3)) (p := ⟨w.heap.size, 3, none⟩) (Nat.le_refl _) (.string N)) (.cells #[.int .i64 y1, .int .i64 y3, .string N] 26))
    clear A0 A9 b0 b1 b2 hv F R0
    go_wp2_with fail
    refine bodyPost_ret (v := H4 0 y1 y3 N) (by simp [results, Tryz.results20, go_sem, q0, q1, q2, q3]) rfl ⟨by rw [eN, e1, e3], HB.out⟩
end Go.Proofs.YtlodhleihnlchaaGreatDoor
