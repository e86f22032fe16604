/- What both say is read back from its bytes, and there is one way to write it alone, at every input that is drawn out of whatever bytes. The walk: the law's Go text answers true and turns nothing that was there. Conditions: as the theorem states. -/
import Derived.Test.YtlodhleihnlchaaGreatDoorL6
import Derived.Test.YtlodhleihnlchaaGreatDoorL7
import Derived.Test.YtlodhleihnlchaaGreatDoorL8
import Derived.WalkKit
import Derived.Below
namespace Go.Proofs.YtlodhleihnlchaaGreatDoor.fnHellos
open Go.RowKit
set_option linter.unusedVariables false

/-- Nothing of it has turned, and what was told is false. -/
def WentOn (W : World) (v : Value) (wx : World) : Prop := v = .bool false ∧ Below W.heap.size W wx
set_option maxHeartbeats 12800000 in
set_option maxRecDepth 100000 in
theorem walk (a0 : Option Addr) (len0 cap0 : Nat) (z0 : List Int) (w : World) (w0 : Row .u8 w w.heap.size a0 len0 cap0 z0) (lab : Labels w) (ert : ErrT w) (eru : ErrU w) :
    Calls Tryz.prog 3 #[.slice a0 len0 cap0] w fun e w' => e = .returned (.bool true) ∧ Below w.heap.size w w' := by
  have hl := w0.fits
  have hm := w0.most
  unfold maxLen at hm
  by_cases hbig : 1048576 < len0
  · have hB : decide (1048576 < len0) = true := by simp [hbig]
    go_enter Tryz.func3, Tryz.ntmps3
    go_wp2_with fail
    refine (lwBig_any _ _ _ _ (by omega)).mono ?_
    rintro r w' ⟨rfl, rfl⟩
    go_wp2_with fail
    go_ret
    exact ⟨rfl, Below.refl _ _⟩
  have hB : decide (1048576 < len0) = false := by simp [hbig]
  have g0 := hr0
  have g1 := hr1
  have g2 := rr0
  have g3 := rr1
  have g4 := by6
  have g5 := ir0
  have g6 := ir1
  go_enter Tryz.func3, Tryz.ntmps3
  go_wp2_with fail
  refine (lwBig_any _ _ _ _ (by omega)).mono ?_
  rintro r w' ⟨rfl, rfl⟩
  go_wp2_with fail
  refine (DrawReadHello_any w0).mono ?_
  rintro r u1 ⟨aA, nA, cA, zA, rfl, hnA, RA, b1⟩
  have UI := fun w hu hR => implReadHello_any aA nA cA w.heap.size zA w hu hR (Nat.le_refl _)
  have SA := fun w hR => specReadHello_any aA nA cA w.heap.size zA w hR (Nat.le_refl _)
  unfold helT at UI SA
  have FU := hel_cases RA.bytes
  have hun : (M.bs (if helOk zA = true then helNm zA else [])).size ≤ maxLen := by
    rw [M.bs_size]
    simp only [maxLen]
    split
    · have := RA.length
      simp only [helNm, List.length_map, List.length_drop]
      omega
    · simp
  have PU := fun w => implPackHello_any (if helOk zA = true then tw zA 1 else 0) (if helOk zA = true then tw zA 3 else 0) (M.bs (if helOk zA = true then helNm zA else [])) w hun
  generalize (if helOk zA = true then (0 : Int) else 5) = uc at *
  generalize M.bs (if helOk zA = true then helNm zA else []) = un at *
  generalize (if helOk zA = true then tw zA 1 else 0) = ur at *
  generalize (if helOk zA = true then tw zA 3 else 0) = us at *
  have HFU := Lib.hid FU
  clear FU hun
  go_wp2_with fail
  refine (UI _ (eru.on b1) RA).mono ?_
  rintro r u2 ⟨rfl, b2⟩
  have b2a := bal b2 (.cells #[.int .i64 uc, .int .i64 ur, .int .i64 us, .string un] 28)
  have AU := At.new u2 (HL4 uc ur us un) 28
  have RA2 := RA.on b2a
  have B2 := btr b1 b2a
  clear b1 b2 b2a RA UI
  go_wp2_with fail
  generalize u2.alloc (.cells #[.int .i64 uc, .int .i64 ur, .int .i64 us, .string un] 28) = v2 at *
  refine (DrawReadReply_any (w0.on B2)).mono ?_
  rintro r u3 ⟨aB, nB, cB, zB, rfl, hnB, RB, b3⟩
  have AU3 := AU.on b3
  have RA3 := RA2.on b3
  have B3 := btr B2 b3
  clear AU RA2 B2 b3
  have VI := fun w hu hR => implReadReply_any aB nB cB w.heap.size zB w hu hR (Nat.le_refl _)
  have SB := fun w hR => specReadReply_any aB nB cB w.heap.size zB w hR (Nat.le_refl _)
  unfold repT at VI SB
  have FV := rep_cases RB.bytes
  have PV := fun w E => implPackReply_any (if repOk zB = true then tw zB 1 else 0) (if repOk zB = true then tw zB 3 else 0) (if repOk zB = true then tw zB 5 else 0) (if repOk zB = true then tw zB 7 else 0) (if repOk zB = true then tw zB 9 else 0) (if repOk zB = true then tw zB 11 else 0) w E
  generalize (if repOk zB = true then (0 : Int) else 5) = vc at *
  generalize (if repOk zB = true then tw zB 1 else 0) = vr at *
  generalize (if repOk zB = true then tw zB 3 else 0) = vs at *
  generalize (if repOk zB = true then tw zB 5 else 0) = vp at *
  generalize (if repOk zB = true then tw zB 7 else 0) = vx at *
  generalize (if repOk zB = true then tw zB 9 else 0) = vy at *
  generalize (if repOk zB = true then tw zB 11 else 0) = vf at *
  have HFV := Lib.hid FV
  clear FV
  go_wp2_with fail
  refine (VI _ (eru.on B3) RB).mono ?_
  rintro r u4 ⟨rfl, b4⟩
  have b4a := bal b4 (.cells #[.int .i64 vc, .int .i64 vr, .int .i64 vs, .int .i64 vp, .int .i64 vx, .int .i64 vy, .int .i64 vf] 35)
  have AV := At.new u4 (RL7 vc vr vs vp vx vy vf) 35
  have AU4 := AU3.on b4a
  have RA4 := RA3.on b4a
  have RB4 := RB.on b4a
  have B4 := btr B3 b4a
  clear AU3 RA3 RB B3 b4 b4a VI
  go_wp2_with fail
  generalize u4.alloc (.cells #[.int .i64 vc, .int .i64 vr, .int .i64 vs, .int .i64 vp, .int .i64 vx, .int .i64 vy, .int .i64 vf] 35) = v4 at *
  refine (DrawPackHello_any (w0.on B4)).mono ?_
  rintro r u5 ⟨hr, hs, hn, rfl, hhn, b5⟩
  have b5a := bal b5 (.cells #[.int .i64 hr, .int .i64 hs, .string hn] 26)
  have AH := At.new u5 (HL3 hr hs hn) 26
  have AU5 := AU4.on b5a
  have AV5 := AV.on b5a
  have RA5 := RA4.on b5a
  have RB5 := RB4.on b5a
  have B5 := btr B4 b5a
  clear AU4 AV RA4 RB4 B4 b5 b5a
  have hhm : hn.size ≤ maxLen := by simp only [maxLen]; omega
  have PI := fun w => implPackHello_any hr hs hn w hhm
  have FI := fun w => implHelloFault_any hr hs hn w hhm
  have FS := fun w => specHelloFault_any hr hs hn w hhm
  have FH := hel_laid hn hr hs
  have HWp := Lib.hid (show ∀ z ∈ packHL hn hr hs, (Lit.int .u8 z).wf = true from fun z hz => byte_wf (packHL_byte hn hr hs z hz))
  have IH := fun a n c B w hu hR hB => implReadHello_any a n c B (packHL hn hr hs) w hu hR hB
  generalize packHL hn hr hs = yl at *
  generalize helF hn.data.toList hr hs = f1 at *
  have HFH := Lib.hid FH
  clear FH hhm hhn
  have k0 := AH.cell 0 _ rfl
  have k1 := AH.cell 1 _ rfl
  have k2 := AH.cell 2 _ rfl
  go_wp2_with fail
  generalize u5.alloc (.cells #[.int .i64 hr, .int .i64 hs, .string hn] 26) = v5 at *
  refine (PI _).mono ?_
  rintro r u6 ⟨aP, nP, cP, rfl, OP, b6⟩
  have b6a := bal b6 (.cells #[.int .i64 f1, .slice aP nP cP] 39)
  have AP := At.new u6 [.int .i64 f1, .slice aP nP cP] 39
  have RP := (Own.row OP HWp.out).on (bal (Below.refl _ u6) (.cells #[.int .i64 f1, .slice aP nP cP] 39))
  have AU6 := AU5.on b6a
  have AV6 := AV5.on b6a
  have AH6 := AH.on b6a
  have RA6 := RA5.on b6a
  have RB6 := RB5.on b6a
  have B6 := btr B5 b6a
  clear AU5 AV5 AH RA5 RB5 B5 b6 b6a OP PI HWp k0 k1 k2
  go_wp2_with fail
  generalize u6.alloc (.cells #[.int .i64 f1, .slice aP nP cP] 39) = v6 at *
  refine (DrawPackReply_any (w0.on B6)).mono ?_
  rintro r u7 ⟨rr, rs, rp, rx, ry, rf, rfl, b7⟩
  have b7a := bal b7 (.cells #[.int .i64 rr, .int .i64 rs, .int .i64 rp, .int .i64 rx, .int .i64 ry, .int .i64 rf] 33)
  have AR := At.new u7 (RL6 rr rs rp rx ry rf) 33
  have AU7 := AU6.on b7a
  have AV7 := AV6.on b7a
  have AH7 := AH6.on b7a
  have AP7 := AP.on b7a
  have RP7 := RP.on b7a
  have RA7 := RA6.on b7a
  have RB7 := RB6.on b7a
  have B7 := btr B6 b7a
  clear AU6 AV6 AH6 AP RP RA6 RB6 B6 b7 b7a
  have QI := fun w E => implPackReply_any rr rs rp rx ry rf w E
  have GI := fun w E => implReplyFault_any rr rs rp rx ry rf w E
  have GS := fun w => specReplyFault_any rr rs rp rx ry rf w
  have FR := rep_laid rr rs rp rx ry rf
  have HWq := Lib.hid (show ∀ z ∈ packRL rr rs rp rx ry rf, (Lit.int .u8 z).wf = true from fun z hz => byte_wf (packRL_byte rr rs rp rx ry rf z hz))
  have IR := fun a n c B w hu hR hB => implReadReply_any a n c B (packRL rr rs rp rx ry rf) w hu hR hB
  generalize packRL rr rs rp rx ry rf = ql at *
  generalize repF rr rs rp rx ry rf = f2 at *
  have HFR := Lib.hid FR
  clear FR
  have k0 := AR.cell 0 _ rfl
  have k1 := AR.cell 1 _ rfl
  have k2 := AR.cell 2 _ rfl
  have k3 := AR.cell 3 _ rfl
  have k4 := AR.cell 4 _ rfl
  have k5 := AR.cell 5 _ rfl
  go_wp2_with fail
  generalize u7.alloc (.cells #[.int .i64 rr, .int .i64 rs, .int .i64 rp, .int .i64 rx, .int .i64 ry, .int .i64 rf] 33) = v7 at *
  refine (QI _ (ert.on B7)).mono ?_
  rintro r u8 ⟨aQ, nQ, cQ, rfl, OQ, b8⟩
  have b8a := bal b8 (.cells #[.int .i64 f2, .slice aQ nQ cQ] 39)
  have AQ9 := At.new u8 [.int .i64 f2, .slice aQ nQ cQ] 39
  have RQ9 := (Own.row OQ HWq.out).on (bal (Below.refl _ u8) (.cells #[.int .i64 f2, .slice aQ nQ cQ] 39))
  have AU9 := AU7.on b8a
  have AV9 := AV7.on b8a
  have AH9 := AH7.on b8a
  have AR9 := AR.on b8a
  have AP9 := AP7.on b8a
  have RP9 := RP7.on b8a
  have RA9 := RA7.on b8a
  have RB9 := RB7.on b8a
  have B9 := btr B7 b8a
  clear AU7 AV7 AH7 AR AP7 RP7 RA7 RB7 B7 b8 b8a OQ QI HWq k0 k1 k2 k3 k4 k5
  go_upto_region 11 with fail
  generalize u8.alloc (.cells #[.int .i64 f2, .slice aQ nQ cQ] 39) = W at *
  simp only [List.append_eq, List.cons_append, List.nil_append]
  go_cut [128] from 33 to 128 (fun v wx => WentOn W v wx)
  case first =>
    clear hl hm hbig hB hnA hnB
    refine wp_region_pieces (Bel W) [(0, true), (1, true), (2, true), (3, false), (4, true), (5, true), (6, true), (7, true), (8, true), (9, true), (10, true), (11, true), (12, true), (15, true), (13, false), (14, true), (16, false), (17, true), (18, true), (19, true), (20, true), (21, true), (22, true), (23, true), (24, false), (25, true), (26, true), (27, true), (28, true), (29, true), (30, true), (31, true), (32, true), (33, true), (34, true), (37, true), (35, false), (36, true), (38, false), (39, true), (40, true), (41, true), (42, true), (43, true), (44, true), (45, true), (46, false), (47, true), (48, true), (49, true), (50, true), (51, true), (52, true), (53, false), (54, true), (55, true), (56, true), (57, true), (58, true), (59, true), (60, false), (61, true), (62, true), (63, true), (64, true), (65, true), (66, true), (67, false), (68, true), (69, true), (70, true), (71, true), (72, true), (73, true), (74, true), (75, true), (76, true), (79, true), (77, false), (78, true), (80, true), (81, true), (82, true), (83, true), (84, true), (85, true), (86, true), (87, true), (88, true), (89, true), (92, true), (90, false), (91, true), (93, true), (94, true), (95, true)] ops L0 L10 (by kernel_rfl) (by kernel_rfl) noSel rfl start line done (fun _ _ d _ _ h => by cases d <;> exact h) (Bel.drew W) ?_
    have hst := Bel.drew W
    have inst : Nonempty (Of (Bel W)) := ⟨⟨_, hst⟩⟩
    have q0 := bel_cell (AU9.cell 0 _ rfl)
    iterate 3 (refine line_read rfl (by kernel_rfl) (fun K hK => ?_); go_big_quiet_op; refine hK _ ?_; clear hK K)
    refine line_alone rfl (by kernel_rfl) (fun K hK => ?_)
    refine call_wp (args := #[.slice aA nA cA]) rfl (by kernel_rfl) (by kernel_rfl) (SA _ (RA9.on hst.out)) (fun wn hbn => ?_)
    have hst2 := hst.on hbn
    refine hK _ _ hst2 ?_
    clear hK K hst hbn
    have hst := hst2
    clear hst2
    simp only [Act.put, List.setIfInBounds_toArray, List.set_cons_zero, List.set_cons_succ]
    clear SA
    iterate 5 (refine line_read rfl (by kernel_rfl) (fun K hK => ?_); go_big_quiet_op; refine hK _ ?_; clear hK K)
    rcases HFU.out with h | ⟨h, k1, k2⟩
    · subst h
      clear HFU PU
      iterate 2 (refine line_read rfl (by kernel_rfl) (fun K hK => ?_); go_big_quiet_op; refine hK _ ?_; clear hK K)
      iterate 7 (refine line_skip rfl (by kernel_rfl) ?_; simp only [Act.put, List.setIfInBounds_toArray, List.set_cons_zero, List.set_cons_succ])
      clear q0
      have v0 := bel_cell (AV9.cell 0 _ rfl)
      iterate 6 (refine line_read rfl (by kernel_rfl) (fun K hK => ?_); go_big_quiet_op; refine hK _ ?_; clear hK K)
      refine line_alone rfl (by kernel_rfl) (fun K hK => ?_)
      refine call_wp (args := #[.slice aB nB cB]) rfl (by kernel_rfl) (by kernel_rfl) (SB _ (RB9.on hst.out)) (fun wn hbn => ?_)
      have hst2 := hst.on hbn
      refine hK _ _ hst2 ?_
      clear hK K hst hbn
      have hst := hst2
      clear hst2
      simp only [Act.put, List.setIfInBounds_toArray, List.set_cons_zero, List.set_cons_succ]
      clear SB
      iterate 6 (refine line_read rfl (by kernel_rfl) (fun K hK => ?_); go_big_quiet_op; refine hK _ ?_; clear hK K)
      rcases HFV.out with h | ⟨h, k1, k2⟩
      · subst h
        clear HFV PV
        iterate 2 (refine line_read rfl (by kernel_rfl) (fun K hK => ?_); go_big_quiet_op; refine hK _ ?_; clear hK K)
        iterate 7 (refine line_skip rfl (by kernel_rfl) ?_; simp only [Act.put, List.setIfInBounds_toArray, List.set_cons_zero, List.set_cons_succ])
        clear v0
        have p0 := bel_cell (AP9.cell 0 _ rfl)
        have s0 := bel_cell (AQ9.cell 0 _ rfl)
        have h0 := bel_cell (AH9.cell 0 _ rfl)
        have h1 := bel_cell (AH9.cell 1 _ rfl)
        have h2 := bel_cell (AH9.cell 2 _ rfl)
        have r0 := bel_cell (AR9.cell 0 _ rfl)
        have r1 := bel_cell (AR9.cell 1 _ rfl)
        have r2 := bel_cell (AR9.cell 2 _ rfl)
        have r3 := bel_cell (AR9.cell 3 _ rfl)
        have r4 := bel_cell (AR9.cell 4 _ rfl)
        have r5 := bel_cell (AR9.cell 5 _ rfl)
        iterate 6 (refine line_read rfl (by kernel_rfl) (fun K hK => ?_); go_big_quiet_op; refine hK _ ?_; clear hK K)
        refine line_alone rfl (by kernel_rfl) (fun K hK => ?_)
        refine call_wp (args := #[H3 hr hs hn]) rfl (by kernel_rfl) (by kernel_rfl) (FI _) (fun wn hbn => ?_)
        have hst2 := hst.on hbn
        refine hK _ _ hst2 ?_
        clear hK K hst hbn
        have hst := hst2
        clear hst2
        simp only [Act.put, List.setIfInBounds_toArray, List.set_cons_zero, List.set_cons_succ]
        iterate 6 (refine line_read rfl (by kernel_rfl) (fun K hK => ?_); go_big_quiet_op; refine hK _ ?_; clear hK K)
        refine line_alone rfl (by kernel_rfl) (fun K hK => ?_)
        refine call_wp (args := #[H3 hr hs hn]) rfl (by kernel_rfl) (by kernel_rfl) (FS _) (fun wn hbn => ?_)
        have hst2 := hst.on hbn
        refine hK _ _ hst2 ?_
        clear hK K hst hbn
        have hst := hst2
        clear hst2
        simp only [Act.put, List.setIfInBounds_toArray, List.set_cons_zero, List.set_cons_succ]
        iterate 6 (refine line_read rfl (by kernel_rfl) (fun K hK => ?_); go_big_quiet_op; refine hK _ ?_; clear hK K)
        refine line_alone rfl (by kernel_rfl) (fun K hK => ?_)
        refine call_wp (args := #[R6 rr rs rp rx ry rf]) rfl (by kernel_rfl) (by kernel_rfl) (GI _ (ert.on (btr B9 hst.out))) (fun wn hbn => ?_)
        have hst2 := hst.on hbn
        refine hK _ _ hst2 ?_
        clear hK K hst hbn
        have hst := hst2
        clear hst2
        simp only [Act.put, List.setIfInBounds_toArray, List.set_cons_zero, List.set_cons_succ]
        iterate 6 (refine line_read rfl (by kernel_rfl) (fun K hK => ?_); go_big_quiet_op; refine hK _ ?_; clear hK K)
        refine line_alone rfl (by kernel_rfl) (fun K hK => ?_)
        refine call_wp (args := #[R6 rr rs rp rx ry rf]) rfl (by kernel_rfl) (by kernel_rfl) (GS _) (fun wn hbn => ?_)
        have hst2 := hst.on hbn
        refine hK _ _ hst2 ?_
        clear hK K hst hbn
        have hst := hst2
        clear hst2
        simp only [Act.put, List.setIfInBounds_toArray, List.set_cons_zero, List.set_cons_succ]
        clear FI FS GI GS
        iterate 5 (refine line_read rfl (by kernel_rfl) (fun K hK => ?_); go_big_quiet_op; refine hK _ ?_; clear hK K)
        rcases HFH.out with h | ⟨h, hk⟩
        · have h' : (f1 == 0) = false := by rw [beq_eq_false_iff_ne]; exact h
          clear HFH IH
          iterate 2 (refine line_read rfl (by kernel_rfl) (fun K hK => ?_); go_big_quiet_op; refine hK _ ?_; clear hK K)
          iterate 6 (refine line_skip rfl (by kernel_rfl) ?_; simp only [Act.put, List.setIfInBounds_toArray, List.set_cons_zero, List.set_cons_succ])
          iterate 5 (refine line_read rfl (by kernel_rfl) (fun K hK => ?_); go_big_quiet_op; refine hK _ ?_; clear hK K)
          rcases HFR.out with h | ⟨h, hk⟩
          · have h' : (f2 == 0) = false := by rw [beq_eq_false_iff_ne]; exact h
            clear HFR IR
            iterate 2 (refine line_read rfl (by kernel_rfl) (fun K hK => ?_); go_big_quiet_op; refine hK _ ?_; clear hK K)
            iterate 6 (refine line_skip rfl (by kernel_rfl) ?_; simp only [Act.put, List.setIfInBounds_toArray, List.set_cons_zero, List.set_cons_succ])
            iterate 2 (refine line_read rfl (by kernel_rfl) (fun K hK => ?_); go_big_quiet_op; refine hK _ ?_; clear hK K)
            refine line_nil ?_
            have HT := Lib.hid hst.out
            clear hst
            go_wp2_with fail
            go_meet
            case rel => exact ⟨rfl, HT.out⟩
          · subst h
            have s1 := bel_cell (AQ9.cell 1 _ rfl)
            have IR2 := fun w hu hR => IR aQ nQ cQ w.heap.size w hu hR (Nat.le_refl _)
            rw [hk] at IR2
            clear IR HFR
            iterate 5 (refine line_read rfl (by kernel_rfl) (fun K hK => ?_); go_big_quiet_op; refine hK _ ?_; clear hK K)
            refine line_alone rfl (by kernel_rfl) (fun K hK => ?_)
            refine call_wp (args := #[.slice aQ nQ cQ]) rfl (by kernel_rfl) (by kernel_rfl) (IR2 _ (eru.on (btr B9 hst.out)) (RQ9.on hst.out)) (fun wn hbn => ?_)
            have hst2 := hst.on hbn
            refine hK _ _ hst2 ?_
            clear hK K hst hbn
            have hst := hst2
            clear hst2
            simp only [Act.put, List.setIfInBounds_toArray, List.set_cons_zero, List.set_cons_succ]
            iterate 4 (refine line_read rfl (by kernel_rfl) (fun K hK => ?_); go_big_quiet_op; refine hK _ ?_; clear hK K)
            refine line_nil ?_
            have HT := Lib.hid hst.out
            clear hst
            go_wp2_with fail
            go_meet
            case rel => exact ⟨rfl, HT.out⟩
        · subst h
          have p1 := bel_cell (AP9.cell 1 _ rfl)
          have IH2 := fun w hu hR => IH aP nP cP w.heap.size w hu hR (Nat.le_refl _)
          rw [hk] at IH2
          clear IH HFH
          iterate 5 (refine line_read rfl (by kernel_rfl) (fun K hK => ?_); go_big_quiet_op; refine hK _ ?_; clear hK K)
          refine line_alone rfl (by kernel_rfl) (fun K hK => ?_)
          refine call_wp (args := #[.slice aP nP cP]) rfl (by kernel_rfl) (by kernel_rfl) (IH2 _ (eru.on (btr B9 hst.out)) (RP9.on hst.out)) (fun wn hbn => ?_)
          have hst2 := hst.on hbn
          refine hK _ _ hst2 ?_
          clear hK K hst hbn
          have hst := hst2
          clear hst2
          simp only [Act.put, List.setIfInBounds_toArray, List.set_cons_zero, List.set_cons_succ]
          clear IH2
          iterate 7 (refine line_read rfl (by kernel_rfl) (fun K hK => ?_); go_big_quiet_op; refine hK _ ?_; clear hK K)
          rcases HFR.out with h | ⟨h, hk⟩
          · have h' : (f2 == 0) = false := by rw [beq_eq_false_iff_ne]; exact h
            clear HFR IR
            iterate 2 (refine line_read rfl (by kernel_rfl) (fun K hK => ?_); go_big_quiet_op; refine hK _ ?_; clear hK K)
            iterate 6 (refine line_skip rfl (by kernel_rfl) ?_; simp only [Act.put, List.setIfInBounds_toArray, List.set_cons_zero, List.set_cons_succ])
            iterate 2 (refine line_read rfl (by kernel_rfl) (fun K hK => ?_); go_big_quiet_op; refine hK _ ?_; clear hK K)
            refine line_nil ?_
            have HT := Lib.hid hst.out
            clear hst
            go_wp2_with fail
            go_meet
            case rel => exact ⟨rfl, HT.out⟩
          · subst h
            have s1 := bel_cell (AQ9.cell 1 _ rfl)
            have IR2 := fun w hu hR => IR aQ nQ cQ w.heap.size w hu hR (Nat.le_refl _)
            rw [hk] at IR2
            clear IR HFR
            iterate 5 (refine line_read rfl (by kernel_rfl) (fun K hK => ?_); go_big_quiet_op; refine hK _ ?_; clear hK K)
            refine line_alone rfl (by kernel_rfl) (fun K hK => ?_)
            refine call_wp (args := #[.slice aQ nQ cQ]) rfl (by kernel_rfl) (by kernel_rfl) (IR2 _ (eru.on (btr B9 hst.out)) (RQ9.on hst.out)) (fun wn hbn => ?_)
            have hst2 := hst.on hbn
            refine hK _ _ hst2 ?_
            clear hK K hst hbn
            have hst := hst2
            clear hst2
            simp only [Act.put, List.setIfInBounds_toArray, List.set_cons_zero, List.set_cons_succ]
            iterate 4 (refine line_read rfl (by kernel_rfl) (fun K hK => ?_); go_big_quiet_op; refine hK _ ?_; clear hK K)
            refine line_nil ?_
            have HT := Lib.hid hst.out
            clear hst
            go_wp2_with fail
            go_meet
            case rel => exact ⟨rfl, HT.out⟩
      · subst h
        have v1 := bel_cell (AV9.cell 1 _ rfl)
        have v2 := bel_cell (AV9.cell 2 _ rfl)
        have v3 := bel_cell (AV9.cell 3 _ rfl)
        have v4 := bel_cell (AV9.cell 4 _ rfl)
        have v5 := bel_cell (AV9.cell 5 _ rfl)
        have v6 := bel_cell (AV9.cell 6 _ rfl)
        rw [k1, k2] at PV
        iterate 5 (refine line_read rfl (by kernel_rfl) (fun K hK => ?_); go_big_quiet_op; refine hK _ ?_; clear hK K)
        refine line_alone rfl (by kernel_rfl) (fun K hK => ?_)
        refine call_any (args := #[R6 vr vs vp vx vy vf]) rfl (by kernel_rfl) (by kernel_rfl) (PV _ (ert.on (btr B9 hst.out))) ?_
        rintro e V5 ⟨ad, nd, cd, rfl, OD, bd⟩
        have hst2 := hst.on bd
        refine ⟨_, rfl, hK _ _ hst2 ?_⟩
        clear hK K hst bd PV v1 v2 v3 v4 v5 v6 k1 k2
        have hst := hst2
        clear hst2
        simp only [Act.put, List.setIfInBounds_toArray, List.set_cons_zero, List.set_cons_succ]
        iterate 1 (refine line_read rfl (by kernel_rfl) (fun K hK => ?_); go_big_quiet_op; refine hK _ ?_; clear hK K)
        refine line_alone rfl (by kernel_rfl) (fun K hK => ?_)
        refine call_wp (args := #[.slice ad nd cd, .slice aB nB cB]) rfl (by kernel_rfl) (by kernel_rfl) (lwBytes_any (Own.row OD RB9.wf) (RB9.on hst.out)) (fun wn hbn => ?_)
        subst hbn
        refine hK _ _ hst ?_
        clear hK K
        simp only [Act.put, List.setIfInBounds_toArray, List.set_cons_zero, List.set_cons_succ]
        clear OD HFV v0
        have p0 := bel_cell (AP9.cell 0 _ rfl)
        have s0 := bel_cell (AQ9.cell 0 _ rfl)
        have h0 := bel_cell (AH9.cell 0 _ rfl)
        have h1 := bel_cell (AH9.cell 1 _ rfl)
        have h2 := bel_cell (AH9.cell 2 _ rfl)
        have r0 := bel_cell (AR9.cell 0 _ rfl)
        have r1 := bel_cell (AR9.cell 1 _ rfl)
        have r2 := bel_cell (AR9.cell 2 _ rfl)
        have r3 := bel_cell (AR9.cell 3 _ rfl)
        have r4 := bel_cell (AR9.cell 4 _ rfl)
        have r5 := bel_cell (AR9.cell 5 _ rfl)
        iterate 7 (refine line_read rfl (by kernel_rfl) (fun K hK => ?_); go_big_quiet_op; refine hK _ ?_; clear hK K)
        refine line_alone rfl (by kernel_rfl) (fun K hK => ?_)
        refine call_wp (args := #[H3 hr hs hn]) rfl (by kernel_rfl) (by kernel_rfl) (FI _) (fun wn hbn => ?_)
        have hst2 := hst.on hbn
        refine hK _ _ hst2 ?_
        clear hK K hst hbn
        have hst := hst2
        clear hst2
        simp only [Act.put, List.setIfInBounds_toArray, List.set_cons_zero, List.set_cons_succ]
        iterate 6 (refine line_read rfl (by kernel_rfl) (fun K hK => ?_); go_big_quiet_op; refine hK _ ?_; clear hK K)
        refine line_alone rfl (by kernel_rfl) (fun K hK => ?_)
        refine call_wp (args := #[H3 hr hs hn]) rfl (by kernel_rfl) (by kernel_rfl) (FS _) (fun wn hbn => ?_)
        have hst2 := hst.on hbn
        refine hK _ _ hst2 ?_
        clear hK K hst hbn
        have hst := hst2
        clear hst2
        simp only [Act.put, List.setIfInBounds_toArray, List.set_cons_zero, List.set_cons_succ]
        iterate 6 (refine line_read rfl (by kernel_rfl) (fun K hK => ?_); go_big_quiet_op; refine hK _ ?_; clear hK K)
        refine line_alone rfl (by kernel_rfl) (fun K hK => ?_)
        refine call_wp (args := #[R6 rr rs rp rx ry rf]) rfl (by kernel_rfl) (by kernel_rfl) (GI _ (ert.on (btr B9 hst.out))) (fun wn hbn => ?_)
        have hst2 := hst.on hbn
        refine hK _ _ hst2 ?_
        clear hK K hst hbn
        have hst := hst2
        clear hst2
        simp only [Act.put, List.setIfInBounds_toArray, List.set_cons_zero, List.set_cons_succ]
        iterate 6 (refine line_read rfl (by kernel_rfl) (fun K hK => ?_); go_big_quiet_op; refine hK _ ?_; clear hK K)
        refine line_alone rfl (by kernel_rfl) (fun K hK => ?_)
        refine call_wp (args := #[R6 rr rs rp rx ry rf]) rfl (by kernel_rfl) (by kernel_rfl) (GS _) (fun wn hbn => ?_)
        have hst2 := hst.on hbn
        refine hK _ _ hst2 ?_
        clear hK K hst hbn
        have hst := hst2
        clear hst2
        simp only [Act.put, List.setIfInBounds_toArray, List.set_cons_zero, List.set_cons_succ]
        clear FI FS GI GS
        iterate 5 (refine line_read rfl (by kernel_rfl) (fun K hK => ?_); go_big_quiet_op; refine hK _ ?_; clear hK K)
        rcases HFH.out with h | ⟨h, hk⟩
        · have h' : (f1 == 0) = false := by rw [beq_eq_false_iff_ne]; exact h
          clear HFH IH
          iterate 2 (refine line_read rfl (by kernel_rfl) (fun K hK => ?_); go_big_quiet_op; refine hK _ ?_; clear hK K)
          iterate 6 (refine line_skip rfl (by kernel_rfl) ?_; simp only [Act.put, List.setIfInBounds_toArray, List.set_cons_zero, List.set_cons_succ])
          iterate 5 (refine line_read rfl (by kernel_rfl) (fun K hK => ?_); go_big_quiet_op; refine hK _ ?_; clear hK K)
          rcases HFR.out with h | ⟨h, hk⟩
          · have h' : (f2 == 0) = false := by rw [beq_eq_false_iff_ne]; exact h
            clear HFR IR
            iterate 2 (refine line_read rfl (by kernel_rfl) (fun K hK => ?_); go_big_quiet_op; refine hK _ ?_; clear hK K)
            iterate 6 (refine line_skip rfl (by kernel_rfl) ?_; simp only [Act.put, List.setIfInBounds_toArray, List.set_cons_zero, List.set_cons_succ])
            iterate 2 (refine line_read rfl (by kernel_rfl) (fun K hK => ?_); go_big_quiet_op; refine hK _ ?_; clear hK K)
            refine line_nil ?_
            have HT := Lib.hid hst.out
            clear hst
            go_wp2_with fail
            go_meet
            case rel => exact ⟨rfl, HT.out⟩
          · subst h
            have s1 := bel_cell (AQ9.cell 1 _ rfl)
            have IR2 := fun w hu hR => IR aQ nQ cQ w.heap.size w hu hR (Nat.le_refl _)
            rw [hk] at IR2
            clear IR HFR
            iterate 5 (refine line_read rfl (by kernel_rfl) (fun K hK => ?_); go_big_quiet_op; refine hK _ ?_; clear hK K)
            refine line_alone rfl (by kernel_rfl) (fun K hK => ?_)
            refine call_wp (args := #[.slice aQ nQ cQ]) rfl (by kernel_rfl) (by kernel_rfl) (IR2 _ (eru.on (btr B9 hst.out)) (RQ9.on hst.out)) (fun wn hbn => ?_)
            have hst2 := hst.on hbn
            refine hK _ _ hst2 ?_
            clear hK K hst hbn
            have hst := hst2
            clear hst2
            simp only [Act.put, List.setIfInBounds_toArray, List.set_cons_zero, List.set_cons_succ]
            iterate 4 (refine line_read rfl (by kernel_rfl) (fun K hK => ?_); go_big_quiet_op; refine hK _ ?_; clear hK K)
            refine line_nil ?_
            have HT := Lib.hid hst.out
            clear hst
            go_wp2_with fail
            go_meet
            case rel => exact ⟨rfl, HT.out⟩
        · subst h
          have p1 := bel_cell (AP9.cell 1 _ rfl)
          have IH2 := fun w hu hR => IH aP nP cP w.heap.size w hu hR (Nat.le_refl _)
          rw [hk] at IH2
          clear IH HFH
          iterate 5 (refine line_read rfl (by kernel_rfl) (fun K hK => ?_); go_big_quiet_op; refine hK _ ?_; clear hK K)
          refine line_alone rfl (by kernel_rfl) (fun K hK => ?_)
          refine call_wp (args := #[.slice aP nP cP]) rfl (by kernel_rfl) (by kernel_rfl) (IH2 _ (eru.on (btr B9 hst.out)) (RP9.on hst.out)) (fun wn hbn => ?_)
          have hst2 := hst.on hbn
          refine hK _ _ hst2 ?_
          clear hK K hst hbn
          have hst := hst2
          clear hst2
          simp only [Act.put, List.setIfInBounds_toArray, List.set_cons_zero, List.set_cons_succ]
          clear IH2
          iterate 7 (refine line_read rfl (by kernel_rfl) (fun K hK => ?_); go_big_quiet_op; refine hK _ ?_; clear hK K)
          rcases HFR.out with h | ⟨h, hk⟩
          · have h' : (f2 == 0) = false := by rw [beq_eq_false_iff_ne]; exact h
            clear HFR IR
            iterate 2 (refine line_read rfl (by kernel_rfl) (fun K hK => ?_); go_big_quiet_op; refine hK _ ?_; clear hK K)
            iterate 6 (refine line_skip rfl (by kernel_rfl) ?_; simp only [Act.put, List.setIfInBounds_toArray, List.set_cons_zero, List.set_cons_succ])
            iterate 2 (refine line_read rfl (by kernel_rfl) (fun K hK => ?_); go_big_quiet_op; refine hK _ ?_; clear hK K)
            refine line_nil ?_
            have HT := Lib.hid hst.out
            clear hst
            go_wp2_with fail
            go_meet
            case rel => exact ⟨rfl, HT.out⟩
          · subst h
            have s1 := bel_cell (AQ9.cell 1 _ rfl)
            have IR2 := fun w hu hR => IR aQ nQ cQ w.heap.size w hu hR (Nat.le_refl _)
            rw [hk] at IR2
            clear IR HFR
            iterate 5 (refine line_read rfl (by kernel_rfl) (fun K hK => ?_); go_big_quiet_op; refine hK _ ?_; clear hK K)
            refine line_alone rfl (by kernel_rfl) (fun K hK => ?_)
            refine call_wp (args := #[.slice aQ nQ cQ]) rfl (by kernel_rfl) (by kernel_rfl) (IR2 _ (eru.on (btr B9 hst.out)) (RQ9.on hst.out)) (fun wn hbn => ?_)
            have hst2 := hst.on hbn
            refine hK _ _ hst2 ?_
            clear hK K hst hbn
            have hst := hst2
            clear hst2
            simp only [Act.put, List.setIfInBounds_toArray, List.set_cons_zero, List.set_cons_succ]
            iterate 4 (refine line_read rfl (by kernel_rfl) (fun K hK => ?_); go_big_quiet_op; refine hK _ ?_; clear hK K)
            refine line_nil ?_
            have HT := Lib.hid hst.out
            clear hst
            go_wp2_with fail
            go_meet
            case rel => exact ⟨rfl, HT.out⟩
    · subst h
      have q1 := bel_cell (AU9.cell 1 _ rfl)
      have q2 := bel_cell (AU9.cell 2 _ rfl)
      have q3 := bel_cell (AU9.cell 3 _ rfl)
      rw [k1, k2] at PU
      iterate 5 (refine line_read rfl (by kernel_rfl) (fun K hK => ?_); go_big_quiet_op; refine hK _ ?_; clear hK K)
      refine line_alone rfl (by kernel_rfl) (fun K hK => ?_)
      refine call_any (args := #[H3 ur us un]) rfl (by kernel_rfl) (by kernel_rfl) (PU _) ?_
      rintro e V5 ⟨ae, ne, ce, rfl, OE, be⟩
      have hst2 := hst.on be
      refine ⟨_, rfl, hK _ _ hst2 ?_⟩
      clear hK K hst be PU q1 q2 q3 k1 k2
      have hst := hst2
      clear hst2
      simp only [Act.put, List.setIfInBounds_toArray, List.set_cons_zero, List.set_cons_succ]
      iterate 1 (refine line_read rfl (by kernel_rfl) (fun K hK => ?_); go_big_quiet_op; refine hK _ ?_; clear hK K)
      refine line_alone rfl (by kernel_rfl) (fun K hK => ?_)
      refine call_wp (args := #[.slice ae ne ce, .slice aA nA cA]) rfl (by kernel_rfl) (by kernel_rfl) (lwBytes_any (Own.row OE RA9.wf) (RA9.on hst.out)) (fun wn hbn => ?_)
      subst hbn
      refine hK _ _ hst ?_
      clear hK K
      simp only [Act.put, List.setIfInBounds_toArray, List.set_cons_zero, List.set_cons_succ]
      clear OE HFU q0
      have v0 := bel_cell (AV9.cell 0 _ rfl)
      iterate 7 (refine line_read rfl (by kernel_rfl) (fun K hK => ?_); go_big_quiet_op; refine hK _ ?_; clear hK K)
      refine line_alone rfl (by kernel_rfl) (fun K hK => ?_)
      refine call_wp (args := #[.slice aB nB cB]) rfl (by kernel_rfl) (by kernel_rfl) (SB _ (RB9.on hst.out)) (fun wn hbn => ?_)
      have hst2 := hst.on hbn
      refine hK _ _ hst2 ?_
      clear hK K hst hbn
      have hst := hst2
      clear hst2
      simp only [Act.put, List.setIfInBounds_toArray, List.set_cons_zero, List.set_cons_succ]
      clear SB
      iterate 6 (refine line_read rfl (by kernel_rfl) (fun K hK => ?_); go_big_quiet_op; refine hK _ ?_; clear hK K)
      rcases HFV.out with h | ⟨h, k1, k2⟩
      · subst h
        clear HFV PV
        iterate 2 (refine line_read rfl (by kernel_rfl) (fun K hK => ?_); go_big_quiet_op; refine hK _ ?_; clear hK K)
        iterate 7 (refine line_skip rfl (by kernel_rfl) ?_; simp only [Act.put, List.setIfInBounds_toArray, List.set_cons_zero, List.set_cons_succ])
        clear v0
        have p0 := bel_cell (AP9.cell 0 _ rfl)
        have s0 := bel_cell (AQ9.cell 0 _ rfl)
        have h0 := bel_cell (AH9.cell 0 _ rfl)
        have h1 := bel_cell (AH9.cell 1 _ rfl)
        have h2 := bel_cell (AH9.cell 2 _ rfl)
        have r0 := bel_cell (AR9.cell 0 _ rfl)
        have r1 := bel_cell (AR9.cell 1 _ rfl)
        have r2 := bel_cell (AR9.cell 2 _ rfl)
        have r3 := bel_cell (AR9.cell 3 _ rfl)
        have r4 := bel_cell (AR9.cell 4 _ rfl)
        have r5 := bel_cell (AR9.cell 5 _ rfl)
        iterate 6 (refine line_read rfl (by kernel_rfl) (fun K hK => ?_); go_big_quiet_op; refine hK _ ?_; clear hK K)
        refine line_alone rfl (by kernel_rfl) (fun K hK => ?_)
        refine call_wp (args := #[H3 hr hs hn]) rfl (by kernel_rfl) (by kernel_rfl) (FI _) (fun wn hbn => ?_)
        have hst2 := hst.on hbn
        refine hK _ _ hst2 ?_
        clear hK K hst hbn
        have hst := hst2
        clear hst2
        simp only [Act.put, List.setIfInBounds_toArray, List.set_cons_zero, List.set_cons_succ]
        iterate 6 (refine line_read rfl (by kernel_rfl) (fun K hK => ?_); go_big_quiet_op; refine hK _ ?_; clear hK K)
        refine line_alone rfl (by kernel_rfl) (fun K hK => ?_)
        refine call_wp (args := #[H3 hr hs hn]) rfl (by kernel_rfl) (by kernel_rfl) (FS _) (fun wn hbn => ?_)
        have hst2 := hst.on hbn
        refine hK _ _ hst2 ?_
        clear hK K hst hbn
        have hst := hst2
        clear hst2
        simp only [Act.put, List.setIfInBounds_toArray, List.set_cons_zero, List.set_cons_succ]
        iterate 6 (refine line_read rfl (by kernel_rfl) (fun K hK => ?_); go_big_quiet_op; refine hK _ ?_; clear hK K)
        refine line_alone rfl (by kernel_rfl) (fun K hK => ?_)
        refine call_wp (args := #[R6 rr rs rp rx ry rf]) rfl (by kernel_rfl) (by kernel_rfl) (GI _ (ert.on (btr B9 hst.out))) (fun wn hbn => ?_)
        have hst2 := hst.on hbn
        refine hK _ _ hst2 ?_
        clear hK K hst hbn
        have hst := hst2
        clear hst2
        simp only [Act.put, List.setIfInBounds_toArray, List.set_cons_zero, List.set_cons_succ]
        iterate 6 (refine line_read rfl (by kernel_rfl) (fun K hK => ?_); go_big_quiet_op; refine hK _ ?_; clear hK K)
        refine line_alone rfl (by kernel_rfl) (fun K hK => ?_)
        refine call_wp (args := #[R6 rr rs rp rx ry rf]) rfl (by kernel_rfl) (by kernel_rfl) (GS _) (fun wn hbn => ?_)
        have hst2 := hst.on hbn
        refine hK _ _ hst2 ?_
        clear hK K hst hbn
        have hst := hst2
        clear hst2
        simp only [Act.put, List.setIfInBounds_toArray, List.set_cons_zero, List.set_cons_succ]
        clear FI FS GI GS
        iterate 5 (refine line_read rfl (by kernel_rfl) (fun K hK => ?_); go_big_quiet_op; refine hK _ ?_; clear hK K)
        rcases HFH.out with h | ⟨h, hk⟩
        · have h' : (f1 == 0) = false := by rw [beq_eq_false_iff_ne]; exact h
          clear HFH IH
          iterate 2 (refine line_read rfl (by kernel_rfl) (fun K hK => ?_); go_big_quiet_op; refine hK _ ?_; clear hK K)
          iterate 6 (refine line_skip rfl (by kernel_rfl) ?_; simp only [Act.put, List.setIfInBounds_toArray, List.set_cons_zero, List.set_cons_succ])
          iterate 5 (refine line_read rfl (by kernel_rfl) (fun K hK => ?_); go_big_quiet_op; refine hK _ ?_; clear hK K)
          rcases HFR.out with h | ⟨h, hk⟩
          · have h' : (f2 == 0) = false := by rw [beq_eq_false_iff_ne]; exact h
            clear HFR IR
            iterate 2 (refine line_read rfl (by kernel_rfl) (fun K hK => ?_); go_big_quiet_op; refine hK _ ?_; clear hK K)
            iterate 6 (refine line_skip rfl (by kernel_rfl) ?_; simp only [Act.put, List.setIfInBounds_toArray, List.set_cons_zero, List.set_cons_succ])
            iterate 2 (refine line_read rfl (by kernel_rfl) (fun K hK => ?_); go_big_quiet_op; refine hK _ ?_; clear hK K)
            refine line_nil ?_
            have HT := Lib.hid hst.out
            clear hst
            go_wp2_with fail
            go_meet
            case rel => exact ⟨rfl, HT.out⟩
          · subst h
            have s1 := bel_cell (AQ9.cell 1 _ rfl)
            have IR2 := fun w hu hR => IR aQ nQ cQ w.heap.size w hu hR (Nat.le_refl _)
            rw [hk] at IR2
            clear IR HFR
            iterate 5 (refine line_read rfl (by kernel_rfl) (fun K hK => ?_); go_big_quiet_op; refine hK _ ?_; clear hK K)
            refine line_alone rfl (by kernel_rfl) (fun K hK => ?_)
            refine call_wp (args := #[.slice aQ nQ cQ]) rfl (by kernel_rfl) (by kernel_rfl) (IR2 _ (eru.on (btr B9 hst.out)) (RQ9.on hst.out)) (fun wn hbn => ?_)
            have hst2 := hst.on hbn
            refine hK _ _ hst2 ?_
            clear hK K hst hbn
            have hst := hst2
            clear hst2
            simp only [Act.put, List.setIfInBounds_toArray, List.set_cons_zero, List.set_cons_succ]
            iterate 4 (refine line_read rfl (by kernel_rfl) (fun K hK => ?_); go_big_quiet_op; refine hK _ ?_; clear hK K)
            refine line_nil ?_
            have HT := Lib.hid hst.out
            clear hst
            go_wp2_with fail
            go_meet
            case rel => exact ⟨rfl, HT.out⟩
        · subst h
          have p1 := bel_cell (AP9.cell 1 _ rfl)
          have IH2 := fun w hu hR => IH aP nP cP w.heap.size w hu hR (Nat.le_refl _)
          rw [hk] at IH2
          clear IH HFH
          iterate 5 (refine line_read rfl (by kernel_rfl) (fun K hK => ?_); go_big_quiet_op; refine hK _ ?_; clear hK K)
          refine line_alone rfl (by kernel_rfl) (fun K hK => ?_)
          refine call_wp (args := #[.slice aP nP cP]) rfl (by kernel_rfl) (by kernel_rfl) (IH2 _ (eru.on (btr B9 hst.out)) (RP9.on hst.out)) (fun wn hbn => ?_)
          have hst2 := hst.on hbn
          refine hK _ _ hst2 ?_
          clear hK K hst hbn
          have hst := hst2
          clear hst2
          simp only [Act.put, List.setIfInBounds_toArray, List.set_cons_zero, List.set_cons_succ]
          clear IH2
          iterate 7 (refine line_read rfl (by kernel_rfl) (fun K hK => ?_); go_big_quiet_op; refine hK _ ?_; clear hK K)
          rcases HFR.out with h | ⟨h, hk⟩
          · have h' : (f2 == 0) = false := by rw [beq_eq_false_iff_ne]; exact h
            clear HFR IR
            iterate 2 (refine line_read rfl (by kernel_rfl) (fun K hK => ?_); go_big_quiet_op; refine hK _ ?_; clear hK K)
            iterate 6 (refine line_skip rfl (by kernel_rfl) ?_; simp only [Act.put, List.setIfInBounds_toArray, List.set_cons_zero, List.set_cons_succ])
            iterate 2 (refine line_read rfl (by kernel_rfl) (fun K hK => ?_); go_big_quiet_op; refine hK _ ?_; clear hK K)
            refine line_nil ?_
            have HT := Lib.hid hst.out
            clear hst
            go_wp2_with fail
            go_meet
            case rel => exact ⟨rfl, HT.out⟩
          · subst h
            have s1 := bel_cell (AQ9.cell 1 _ rfl)
            have IR2 := fun w hu hR => IR aQ nQ cQ w.heap.size w hu hR (Nat.le_refl _)
            rw [hk] at IR2
            clear IR HFR
            iterate 5 (refine line_read rfl (by kernel_rfl) (fun K hK => ?_); go_big_quiet_op; refine hK _ ?_; clear hK K)
            refine line_alone rfl (by kernel_rfl) (fun K hK => ?_)
            refine call_wp (args := #[.slice aQ nQ cQ]) rfl (by kernel_rfl) (by kernel_rfl) (IR2 _ (eru.on (btr B9 hst.out)) (RQ9.on hst.out)) (fun wn hbn => ?_)
            have hst2 := hst.on hbn
            refine hK _ _ hst2 ?_
            clear hK K hst hbn
            have hst := hst2
            clear hst2
            simp only [Act.put, List.setIfInBounds_toArray, List.set_cons_zero, List.set_cons_succ]
            iterate 4 (refine line_read rfl (by kernel_rfl) (fun K hK => ?_); go_big_quiet_op; refine hK _ ?_; clear hK K)
            refine line_nil ?_
            have HT := Lib.hid hst.out
            clear hst
            go_wp2_with fail
            go_meet
            case rel => exact ⟨rfl, HT.out⟩
      · subst h
        have v1 := bel_cell (AV9.cell 1 _ rfl)
        have v2 := bel_cell (AV9.cell 2 _ rfl)
        have v3 := bel_cell (AV9.cell 3 _ rfl)
        have v4 := bel_cell (AV9.cell 4 _ rfl)
        have v5 := bel_cell (AV9.cell 5 _ rfl)
        have v6 := bel_cell (AV9.cell 6 _ rfl)
        rw [k1, k2] at PV
        iterate 5 (refine line_read rfl (by kernel_rfl) (fun K hK => ?_); go_big_quiet_op; refine hK _ ?_; clear hK K)
        refine line_alone rfl (by kernel_rfl) (fun K hK => ?_)
        refine call_any (args := #[R6 vr vs vp vx vy vf]) rfl (by kernel_rfl) (by kernel_rfl) (PV _ (ert.on (btr B9 hst.out))) ?_
        rintro e V5 ⟨ad, nd, cd, rfl, OD, bd⟩
        have hst2 := hst.on bd
        refine ⟨_, rfl, hK _ _ hst2 ?_⟩
        clear hK K hst bd PV v1 v2 v3 v4 v5 v6 k1 k2
        have hst := hst2
        clear hst2
        simp only [Act.put, List.setIfInBounds_toArray, List.set_cons_zero, List.set_cons_succ]
        iterate 1 (refine line_read rfl (by kernel_rfl) (fun K hK => ?_); go_big_quiet_op; refine hK _ ?_; clear hK K)
        refine line_alone rfl (by kernel_rfl) (fun K hK => ?_)
        refine call_wp (args := #[.slice ad nd cd, .slice aB nB cB]) rfl (by kernel_rfl) (by kernel_rfl) (lwBytes_any (Own.row OD RB9.wf) (RB9.on hst.out)) (fun wn hbn => ?_)
        subst hbn
        refine hK _ _ hst ?_
        clear hK K
        simp only [Act.put, List.setIfInBounds_toArray, List.set_cons_zero, List.set_cons_succ]
        clear OD HFV v0
        have p0 := bel_cell (AP9.cell 0 _ rfl)
        have s0 := bel_cell (AQ9.cell 0 _ rfl)
        have h0 := bel_cell (AH9.cell 0 _ rfl)
        have h1 := bel_cell (AH9.cell 1 _ rfl)
        have h2 := bel_cell (AH9.cell 2 _ rfl)
        have r0 := bel_cell (AR9.cell 0 _ rfl)
        have r1 := bel_cell (AR9.cell 1 _ rfl)
        have r2 := bel_cell (AR9.cell 2 _ rfl)
        have r3 := bel_cell (AR9.cell 3 _ rfl)
        have r4 := bel_cell (AR9.cell 4 _ rfl)
        have r5 := bel_cell (AR9.cell 5 _ rfl)
        iterate 7 (refine line_read rfl (by kernel_rfl) (fun K hK => ?_); go_big_quiet_op; refine hK _ ?_; clear hK K)
        refine line_alone rfl (by kernel_rfl) (fun K hK => ?_)
        refine call_wp (args := #[H3 hr hs hn]) rfl (by kernel_rfl) (by kernel_rfl) (FI _) (fun wn hbn => ?_)
        have hst2 := hst.on hbn
        refine hK _ _ hst2 ?_
        clear hK K hst hbn
        have hst := hst2
        clear hst2
        simp only [Act.put, List.setIfInBounds_toArray, List.set_cons_zero, List.set_cons_succ]
        iterate 6 (refine line_read rfl (by kernel_rfl) (fun K hK => ?_); go_big_quiet_op; refine hK _ ?_; clear hK K)
        refine line_alone rfl (by kernel_rfl) (fun K hK => ?_)
        refine call_wp (args := #[H3 hr hs hn]) rfl (by kernel_rfl) (by kernel_rfl) (FS _) (fun wn hbn => ?_)
        have hst2 := hst.on hbn
        refine hK _ _ hst2 ?_
        clear hK K hst hbn
        have hst := hst2
        clear hst2
        simp only [Act.put, List.setIfInBounds_toArray, List.set_cons_zero, List.set_cons_succ]
        iterate 6 (refine line_read rfl (by kernel_rfl) (fun K hK => ?_); go_big_quiet_op; refine hK _ ?_; clear hK K)
        refine line_alone rfl (by kernel_rfl) (fun K hK => ?_)
        refine call_wp (args := #[R6 rr rs rp rx ry rf]) rfl (by kernel_rfl) (by kernel_rfl) (GI _ (ert.on (btr B9 hst.out))) (fun wn hbn => ?_)
        have hst2 := hst.on hbn
        refine hK _ _ hst2 ?_
        clear hK K hst hbn
        have hst := hst2
        clear hst2
        simp only [Act.put, List.setIfInBounds_toArray, List.set_cons_zero, List.set_cons_succ]
        iterate 6 (refine line_read rfl (by kernel_rfl) (fun K hK => ?_); go_big_quiet_op; refine hK _ ?_; clear hK K)
        refine line_alone rfl (by kernel_rfl) (fun K hK => ?_)
        refine call_wp (args := #[R6 rr rs rp rx ry rf]) rfl (by kernel_rfl) (by kernel_rfl) (GS _) (fun wn hbn => ?_)
        have hst2 := hst.on hbn
        refine hK _ _ hst2 ?_
        clear hK K hst hbn
        have hst := hst2
        clear hst2
        simp only [Act.put, List.setIfInBounds_toArray, List.set_cons_zero, List.set_cons_succ]
        clear FI FS GI GS
        iterate 5 (refine line_read rfl (by kernel_rfl) (fun K hK => ?_); go_big_quiet_op; refine hK _ ?_; clear hK K)
        rcases HFH.out with h | ⟨h, hk⟩
        · have h' : (f1 == 0) = false := by rw [beq_eq_false_iff_ne]; exact h
          clear HFH IH
          iterate 2 (refine line_read rfl (by kernel_rfl) (fun K hK => ?_); go_big_quiet_op; refine hK _ ?_; clear hK K)
          iterate 6 (refine line_skip rfl (by kernel_rfl) ?_; simp only [Act.put, List.setIfInBounds_toArray, List.set_cons_zero, List.set_cons_succ])
          iterate 5 (refine line_read rfl (by kernel_rfl) (fun K hK => ?_); go_big_quiet_op; refine hK _ ?_; clear hK K)
          rcases HFR.out with h | ⟨h, hk⟩
          · have h' : (f2 == 0) = false := by rw [beq_eq_false_iff_ne]; exact h
            clear HFR IR
            iterate 2 (refine line_read rfl (by kernel_rfl) (fun K hK => ?_); go_big_quiet_op; refine hK _ ?_; clear hK K)
            iterate 6 (refine line_skip rfl (by kernel_rfl) ?_; simp only [Act.put, List.setIfInBounds_toArray, List.set_cons_zero, List.set_cons_succ])
            iterate 2 (refine line_read rfl (by kernel_rfl) (fun K hK => ?_); go_big_quiet_op; refine hK _ ?_; clear hK K)
            refine line_nil ?_
            have HT := Lib.hid hst.out
            clear hst
            go_wp2_with fail
            go_meet
            case rel => exact ⟨rfl, HT.out⟩
          · subst h
            have s1 := bel_cell (AQ9.cell 1 _ rfl)
            have IR2 := fun w hu hR => IR aQ nQ cQ w.heap.size w hu hR (Nat.le_refl _)
            rw [hk] at IR2
            clear IR HFR
            iterate 5 (refine line_read rfl (by kernel_rfl) (fun K hK => ?_); go_big_quiet_op; refine hK _ ?_; clear hK K)
            refine line_alone rfl (by kernel_rfl) (fun K hK => ?_)
            refine call_wp (args := #[.slice aQ nQ cQ]) rfl (by kernel_rfl) (by kernel_rfl) (IR2 _ (eru.on (btr B9 hst.out)) (RQ9.on hst.out)) (fun wn hbn => ?_)
            have hst2 := hst.on hbn
            refine hK _ _ hst2 ?_
            clear hK K hst hbn
            have hst := hst2
            clear hst2
            simp only [Act.put, List.setIfInBounds_toArray, List.set_cons_zero, List.set_cons_succ]
            iterate 4 (refine line_read rfl (by kernel_rfl) (fun K hK => ?_); go_big_quiet_op; refine hK _ ?_; clear hK K)
            refine line_nil ?_
            have HT := Lib.hid hst.out
            clear hst
            go_wp2_with fail
            go_meet
            case rel => exact ⟨rfl, HT.out⟩
        · subst h
          have p1 := bel_cell (AP9.cell 1 _ rfl)
          have IH2 := fun w hu hR => IH aP nP cP w.heap.size w hu hR (Nat.le_refl _)
          rw [hk] at IH2
          clear IH HFH
          iterate 5 (refine line_read rfl (by kernel_rfl) (fun K hK => ?_); go_big_quiet_op; refine hK _ ?_; clear hK K)
          refine line_alone rfl (by kernel_rfl) (fun K hK => ?_)
          refine call_wp (args := #[.slice aP nP cP]) rfl (by kernel_rfl) (by kernel_rfl) (IH2 _ (eru.on (btr B9 hst.out)) (RP9.on hst.out)) (fun wn hbn => ?_)
          have hst2 := hst.on hbn
          refine hK _ _ hst2 ?_
          clear hK K hst hbn
          have hst := hst2
          clear hst2
          simp only [Act.put, List.setIfInBounds_toArray, List.set_cons_zero, List.set_cons_succ]
          clear IH2
          iterate 7 (refine line_read rfl (by kernel_rfl) (fun K hK => ?_); go_big_quiet_op; refine hK _ ?_; clear hK K)
          rcases HFR.out with h | ⟨h, hk⟩
          · have h' : (f2 == 0) = false := by rw [beq_eq_false_iff_ne]; exact h
            clear HFR IR
            iterate 2 (refine line_read rfl (by kernel_rfl) (fun K hK => ?_); go_big_quiet_op; refine hK _ ?_; clear hK K)
            iterate 6 (refine line_skip rfl (by kernel_rfl) ?_; simp only [Act.put, List.setIfInBounds_toArray, List.set_cons_zero, List.set_cons_succ])
            iterate 2 (refine line_read rfl (by kernel_rfl) (fun K hK => ?_); go_big_quiet_op; refine hK _ ?_; clear hK K)
            refine line_nil ?_
            have HT := Lib.hid hst.out
            clear hst
            go_wp2_with fail
            go_meet
            case rel => exact ⟨rfl, HT.out⟩
          · subst h
            have s1 := bel_cell (AQ9.cell 1 _ rfl)
            have IR2 := fun w hu hR => IR aQ nQ cQ w.heap.size w hu hR (Nat.le_refl _)
            rw [hk] at IR2
            clear IR HFR
            iterate 5 (refine line_read rfl (by kernel_rfl) (fun K hK => ?_); go_big_quiet_op; refine hK _ ?_; clear hK K)
            refine line_alone rfl (by kernel_rfl) (fun K hK => ?_)
            refine call_wp (args := #[.slice aQ nQ cQ]) rfl (by kernel_rfl) (by kernel_rfl) (IR2 _ (eru.on (btr B9 hst.out)) (RQ9.on hst.out)) (fun wn hbn => ?_)
            have hst2 := hst.on hbn
            refine hK _ _ hst2 ?_
            clear hK K hst hbn
            have hst := hst2
            clear hst2
            simp only [Act.put, List.setIfInBounds_toArray, List.set_cons_zero, List.set_cons_succ]
            iterate 4 (refine line_read rfl (by kernel_rfl) (fun K hK => ?_); go_big_quiet_op; refine hK _ ?_; clear hK K)
            refine line_nil ?_
            have HT := Lib.hid hst.out
            clear hst
            go_wp2_with fail
            go_meet
            case rel => exact ⟨rfl, HT.out⟩
  case rest =>
    obtain ⟨rfl, bC⟩ := hcut
    have B10 := btr B9 bC
    clear AU9 AV9 AH9 AR9 AP9 AQ9 RP9 RQ9 RA9 RB9 B9 bC SA PU HFU SB PV HFV FI FS HFH IH GI GS HFR IR
    go_wp2_with fail
    refine (DrawHeardOf_any (w0.on B10)).mono ?_
    rintro r z1 ⟨xr, xs, xn, yr, ys, yp, yx, yy, yf, rfl, hxn, c1⟩
    have c1a := bal (bal c1 (.cells #[.int .i64 xr, .int .i64 xs, .string xn] 26)) (.cells #[.int .i64 yr, .int .i64 ys, .int .i64 yp, .int .i64 yx, .int .i64 yy, .int .i64 yf] 33)
    have AX := (At.new z1 (HL3 xr xs xn) 26).alloc (.cells #[.int .i64 yr, .int .i64 ys, .int .i64 yp, .int .i64 yx, .int .i64 yy, .int .i64 yf] 33)
    have AY := At.new (z1.alloc (.cells #[.int .i64 xr, .int .i64 xs, .string xn] 26)) (RL6 yr ys yp yx yy yf) 33
    simp only [World.size_alloc] at AX AY
    have B11 := btr B10 c1a
    have hxm : xn.size ≤ maxLen := by simp only [maxLen]; omega
    have KI := fun w L E => implHeardOf_any xn xr xs yr ys yp yx yy yf w L E hxm
    have KS := fun w => specHeardOf_any xn xr xs yr ys yp yx yy yf w hxm
    have PX := fun w => implPackHello_any xr xs xn w hxm
    have PY := fun w E => implPackReply_any yr ys yp yx yy yf w E
    have FF := hea_cases xn xr xs yr ys yp yx yy yf
    generalize heaC xn xr xs yr ys yp yx yy yf = hc at *
    generalize heaV xn xr xs yr ys yp yx yy yf = hv at *
    have HFF := Lib.hid FF
    have k0 := AX.cell 0 _ rfl
    have k1 := AX.cell 1 _ rfl
    have k2 := AX.cell 2 _ rfl
    have j0 := AY.cell 0 _ rfl
    have j1 := AY.cell 1 _ rfl
    have j2 := AY.cell 2 _ rfl
    have j3 := AY.cell 3 _ rfl
    have j4 := AY.cell 4 _ rfl
    have j5 := AY.cell 5 _ rfl
    clear FF hxm hxn B10 c1 c1a
    go_wp2_with fail
    generalize (z1.alloc (.cells #[.int .i64 xr, .int .i64 xs, .string xn] 26)).alloc (.cells #[.int .i64 yr, .int .i64 ys, .int .i64 yp, .int .i64 yx, .int .i64 yy, .int .i64 yf] 33) = v11 at *
    refine (KI _ (lab.on B11) (ert.on B11)).mono ?_
    rintro r z2 ⟨rfl, c2⟩
    have c2a := bal c2 (.cells #[.int .i64 hc, .int .i64 hv] 49)
    have AK := At.new z2 [.int .i64 hc, .int .i64 hv] 49
    have AX2 := AX.on c2a
    have AY2 := AY.on c2a
    have B12 := btr B11 c2a
    clear AX AY B11 c2 c2a KI k0 k1 k2 j0 j1 j2 j3 j4 j5
    rcases HFF.out with h | ⟨h, hX, hY, hZ, hW⟩
    · have h' : (hc == 0) = false := by rw [beq_eq_false_iff_ne]; exact h
      have h'' : (hc != 0) = true := by simp [bne, h']
      go_wp2_with fail
      generalize z2.alloc (.cells #[.int .i64 hc, .int .i64 hv] 49) = v12 at *
      refine wp_region_line (Bel v12) [(0, true), (1, true), (4, true), (5, true), (2, false), (3, true), (6, true), (7, true)] (by kernel_rfl) (by kernel_rfl) (fun _ _ d _ _ h => by cases d <;> exact h) (Bel.drew v12) ?_
      have hst := Bel.drew v12
      have inst : Nonempty (Of (Bel v12)) := ⟨⟨_, hst⟩⟩
      have p0 := bel_cell (AK.cell 0 _ rfl)
      have k0 := bel_cell (AX2.cell 0 _ rfl)
      have k1 := bel_cell (AX2.cell 1 _ rfl)
      have k2 := bel_cell (AX2.cell 2 _ rfl)
      have j0 := bel_cell (AY2.cell 0 _ rfl)
      have j1 := bel_cell (AY2.cell 1 _ rfl)
      have j2 := bel_cell (AY2.cell 2 _ rfl)
      have j3 := bel_cell (AY2.cell 3 _ rfl)
      have j4 := bel_cell (AY2.cell 4 _ rfl)
      have j5 := bel_cell (AY2.cell 5 _ rfl)
      iterate 4 (refine line_read rfl (by kernel_rfl) (fun K hK => ?_); go_big_quiet_op; refine hK _ ?_; clear hK K)
      refine line_alone rfl (by kernel_rfl) (fun K hK => ?_)
      refine call_wp (args := #[H3 xr xs xn, R6 yr ys yp yx yy yf]) rfl (by kernel_rfl) (by kernel_rfl) (KS _) (fun wn hbn => ?_)
      have hst2 := hst.on hbn
      refine hK _ _ hst2 ?_
      clear hK K hst hbn
      have hst := hst2
      clear hst2
      simp only [Act.put, List.setIfInBounds_toArray, List.set_cons_zero, List.set_cons_succ]
      iterate 3 (refine line_read rfl (by kernel_rfl) (fun K hK => ?_); go_big_quiet_op; refine hK _ ?_; clear hK K)
      refine line_nil ?_
      have hb := btr B12 hst.out
      clear p0 k0 k1 k2 j0 j1 j2 j3 j4 j5
      go_wp2_with fail
      go_ret
      exact ⟨rfl, hb⟩
    · subst h
      rw [hX.1, hX.2] at PX
      rw [hY.1, hY.2] at PY
      have F3 := fun a len cap B zss w L G hB => implTranscript_any a len cap B zss w L G hB
      have HWx := Lib.hid hZ.1
      have HWy := Lib.hid hZ.2
      have ht : (packR yr ys yp yx yy yf).take 7 = frontR yr ys yp := rfl
      have hlq : (packR yr ys yp yx yy yf).length = 13 := rfl
      generalize packR yr ys yp yx yy yf = z2l at *
      generalize frontR yr ys yp = z3l at *
      generalize packH xn xr xs = z1l at *
      have j0 := AY2.cell 0 _ rfl
      have j1 := AY2.cell 1 _ rfl
      have j2 := AY2.cell 2 _ rfl
      have j3 := AY2.cell 3 _ rfl
      have j4 := AY2.cell 4 _ rfl
      have j5 := AY2.cell 5 _ rfl
      have lt2 : z2.heap.size < z2.heap.size + 1 := by omega
      go_wp2_with fail
      generalize z2.alloc (.cells #[.int .i64 0, .int .i64 hv] 49) = v12 at *
      refine (PY _ (ert.on B12)).mono ?_
      rintro r z4 ⟨aF, nF, cF, rfl, OF, c4⟩
      have l2 : nF = 13 := (OwnK.len OF).trans hlq
      subst l2
      have RF := Own.row OF HWy.out
      have hc2 := RF.fits
      have hc3 := RF.most
      unfold maxLen at hc3
      obtain ⟨gF, rfl⟩ : ∃ g, aF = some ⟨g, 0, none⟩ := by
        rcases OF.2 with ⟨e, hz⟩ | ⟨g, cp, e, _⟩
        · rw [hlq] at hz; omega
        · injection e with e1; exact ⟨g, e1⟩
      have RF7 := RF.upto6 7 (by omega)
      rw [ht] at RF7
      have AK4 := AK.on c4
      have AX4 := AX2.on c4
      have B14 := btr B12 c4
      clear AK AX2 AY2 OF RF B12 c4 j0 j1 j2 j3 j4 j5 PY
      go_wp2_with fail
      refine wp_region_line (Bel z4) [(0, true), (1, true), (2, true), (3, true), (4, true), (5, true), (6, true), (9, true), (10, true), (7, false), (8, true), (11, false), (12, false), (13, true), (14, true), (15, true), (16, true)] (by kernel_rfl) (by kernel_rfl) (fun _ _ d _ _ h => by cases d <;> exact h) (Bel.drew z4) ?_
      have hst := Bel.drew z4
      have inst : Nonempty (Of (Bel z4)) := ⟨⟨_, hst⟩⟩
      have p1 := bel_cell (AK4.cell 1 _ rfl)
      have k0 := bel_cell (AX4.cell 0 _ rfl)
      have k1 := bel_cell (AX4.cell 1 _ rfl)
      have k2 := bel_cell (AX4.cell 2 _ rfl)
      have R7 := RF7.on hst.out
      generalize z4.drew = V at *
      iterate 9 (refine line_read rfl (by kernel_rfl) (fun K hK => ?_); go_big_quiet_op; refine hK _ ?_; clear hK K)
      clear p1 k0 k1 k2
      refine line_alone rfl (by kernel_rfl) (fun K hK => ?_)
      refine call_any (args := #[H3 xr xs xn]) rfl (by kernel_rfl) (by kernel_rfl) (PX _) ?_
      rintro e V1 ⟨aG, nG, cG, rfl, OG, c5⟩
      have hst2 := hst.on c5
      have R8 := R7.on c5
      have RG := Own.row OG HWx.out
      refine ⟨_, rfl, hK _ _ hst2 ?_⟩
      clear hK K hst c5 PX OG R7
      have hst := hst2
      clear hst2
      simp only [Act.put, List.setIfInBounds_toArray, List.set_cons_zero, List.set_cons_succ]
      iterate 1 (refine line_read rfl (by kernel_rfl) (fun K hK => ?_); go_big_quiet_op; refine hK _ ?_; clear hK K)
      refine line_alone rfl (by kernel_rfl) (fun K hK => ?_)
      go_big_op
      refine hK _ _ (hst.on (bal (Below.refl _ V1) _)) ?_
      clear hK K
      have G := grid_two 22 RG R8
      have st2 := hst.on (bal (Below.refl _ V1) (.cells #[.slice aG nG cG, .slice (some ⟨gF, 0, none⟩) 7 cF] 22))
      have hle : V1.heap.size + 1 ≤ (V1.alloc (.cells #[.slice aG nG cG, .slice (some ⟨gF, 0, none⟩) 7 cF] 22)).heap.size := by simp
      clear hst
      have hst := st2
      clear st2
      generalize V1.alloc (.cells #[.slice aG nG cG, .slice (some ⟨gF, 0, none⟩) 7 cF] 22) = V2 at *
      have T := F3 _ _ _ _ _ _ (lab.on (btr B14 hst.out)) G hle
      rw [hW] at T
      refine line_alone rfl (by kernel_rfl) (fun K hK => ?_)
      refine call_wp (args := #[.slice (some ⟨V1.heap.size, 0, none⟩) 2 2]) rfl (by kernel_rfl) (by kernel_rfl) (T) (fun wn hbn => ?_)
      have hst2 := hst.on hbn
      refine hK _ _ hst2 ?_
      clear hK K hst hbn
      have hst := hst2
      clear hst2
      simp only [Act.put, List.setIfInBounds_toArray, List.set_cons_zero, List.set_cons_succ]
      iterate 4 (refine line_read rfl (by kernel_rfl) (fun K hK => ?_); go_big_quiet_op; refine hK _ ?_; clear hK K)
      refine line_nil ?_
      have hb := btr B14 hst.out
      clear G T RG R8
      go_wp2_with fail
      go_ret
      exact ⟨rfl, hb⟩

end Go.Proofs.YtlodhleihnlchaaGreatDoor.fnHellos
