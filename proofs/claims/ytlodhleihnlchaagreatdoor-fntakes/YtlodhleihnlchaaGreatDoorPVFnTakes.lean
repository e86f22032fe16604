/- A reply that is taken was signed by the key that it shows, over all that was heard, at every input that is drawn out of whatever bytes. The walk: the law's Go text answers true and turns nothing that was there. Conditions: as the theorem states. -/
import Derived.Test.YtlodhleihnlchaaGreatDoorH1
import Derived.Test.YtlodhleihnlchaaGreatDoorH4
import Derived.Test.YtlodhleihnlchaaGreatDoorH10
import Derived.Test.YtlodhleihnlchaaGreatDoorH11
import Derived.Test.YtlodhleihnlchaaGreatDoorH12
import Derived.WalkKit
import Derived.Below
namespace Go.Proofs.YtlodhleihnlchaaGreatDoor.fnTakes
open Go.RowKit
set_option linter.unusedVariables false

/-- What is so of a reply that is taken. -/
structure TakenOk (k r0 s0 : Int) (n : ByteArray) (r s p x y f he sh u d vh : Int) : Prop where
  keys : keysT sh he p = ⟨0, 0, 0, 0, 0, 0, 0, u, d, he, p⟩
  fin : finR sh he = (0, f)
  shared : sharedR k s = (0, sh)
  code : heaC n r0 s0 r s p x y f = 0
  heard : heaV n r0 s0 r s p x y f = he
  key : M.keyD he M.verifyS = (0, vh)
  signed : M.checkB p vh x y = true
theorem tak_hid (k r0 s0 : Int) (n : ByteArray) (r s p x y f : Int) : (takT k r0 s0 n r s p x y f).c = 0 → ∃ he sh u d vh : Int, takT k r0 s0 n r s p x y f = ⟨0, r, s, p, x, y, f, u, d, he, p⟩ ∧ TakenOk k r0 s0 n r s p x y f he sh u d vh := by
  intro h
  by_cases h0 : takC k r0 s0 n r s p x y f = 0
  · obtain ⟨e1, e2, e3⟩ := tak_keys h0
    obtain ⟨z1, z2, z3, -⟩ := takC_zero h0
    obtain ⟨y1, y2⟩ := hea_yes (x := x) (y := y) (f := f) (cliF_zero z1).2.1 z2
    refine ⟨heN n r0 s0 r s p, shN k s, upN (shN k s) (heN n r0 s0 r s p), downN (shN k s) (heN n r0 s0 r s p), verN (heN n r0 s0 r s p), ?_, ⟨e1, e2, e3, y1, y2, ver_key (heardL_sum _), z3⟩⟩
    rw [takT_yes h0]
    rfl
  · rw [takT_no h0] at h
    exact absurd h h0
set_option maxHeartbeats 4000000 in
set_option maxRecDepth 100000 in
theorem walk (a0 : Option Addr) (len0 cap0 : Nat) (z0 : List Int) (w : World) (w0 : Row .u8 w w.heap.size a0 len0 cap0 z0) (lab : Labels w) (ert : ErrT w) :
    Calls Tryz.prog 7 #[.slice a0 len0 cap0] w fun e w' => e = .returned (.bool true) ∧ Below w.heap.size w w' := by
  have hl := w0.fits
  have hm := w0.most
  unfold maxLen at hm
  by_cases hbig : 1048576 < len0
  · have hB : decide (1048576 < len0) = true := by simp [hbig]
    go_enter Tryz.func7, Tryz.ntmps7
    go_wp2_with fail
    refine (lwBig_any _ _ _ _ (by omega)).mono ?_
    rintro r w' ⟨rfl, rfl⟩
    go_wp2_with fail
    go_ret
    exact ⟨rfl, Below.refl _ _⟩
  have hB : decide (1048576 < len0) = false := by simp [hbig]
  have t0 := tkf0
  have t2 := tkf2
  have t4 := fld0
  have t6 := fld1
  have t7 := keys_neq11
  have t8 := keys_guard11
  have t9 := keys_eql11
  have t10 := reply_eql11
  have t11 := reply_guard11
  go_enter Tryz.func7, Tryz.ntmps7
  go_wp2_with fail
  refine (lwBig_any _ _ _ _ (by omega)).mono ?_
  rintro r w' ⟨rfl, rfl⟩
  go_wp2_with fail
  refine (DrawTakeReply_any w0).mono ?_
  rintro e u1 ⟨k, r0, s0, n, r, s, p, x, y, f, rfl, hn, b1⟩
  have hnm : n.size ≤ maxLen := by simp only [maxLen]; omega
  have TI := fun w L E => implTakeReply_any k r0 s0 n r s p x y f w L E hnm
  have TS := fun w => specTakeReply_any k r0 s0 n r s p x y f w hnm
  have CI := fun w => implClientFault_any k r0 s0 n w hnm
  have CS := fun w => specClientFault_any k r0 s0 n w hnm
  have HE := fun w L E => implHeardOf_any n r0 s0 r s p x y f w L E hnm
  have HS := Lib.hid (tak_hid k r0 s0 n r s p x y f)
  generalize takT k r0 s0 n r s p x y f = tt at *
  obtain ⟨tc, tr, ts, tp, tx, ty, tf, tu, td, th, tk⟩ := tt
  generalize cliF k r0 s0 n = cf at *
  have C1 := (At.new u1 [.int .i64 k, .int .i64 r0, .int .i64 s0, .string n] 103).alloc (.cells #[.int .i64 r, .int .i64 s, .int .i64 p, .int .i64 x, .int .i64 y, .int .i64 f] 33)
  have P1 := At.new (u1.alloc (.cells #[.int .i64 k, .int .i64 r0, .int .i64 s0, .string n] 103)) [.int .i64 r, .int .i64 s, .int .i64 p, .int .i64 x, .int .i64 y, .int .i64 f] 33
  simp only [World.size_alloc] at P1
  have c1 := bal (bal b1 (.cells #[.int .i64 k, .int .i64 r0, .int .i64 s0, .string n] 103)) (.cells #[.int .i64 r, .int .i64 s, .int .i64 p, .int .i64 x, .int .i64 y, .int .i64 f] 33)
  have L1 := lab.on c1
  have E1 := ert.on c1
  have R1 := w0.on c1
  clear b1 lab ert w0 hl hm hB hbig
  go_upto_region 4 with fail
  generalize (u1.alloc (.cells #[.int .i64 k, .int .i64 r0, .int .i64 s0, .string n] 103)).alloc (.cells #[.int .i64 r, .int .i64 s, .int .i64 p, .int .i64 x, .int .i64 y, .int .i64 f] 33) = W1 at *
  have cc0 := C1.cell 0 _ rfl
  have cc1 := C1.cell 1 _ rfl
  have cc2 := C1.cell 2 _ rfl
  have cc3 := C1.cell 3 _ rfl
  have pp0 := P1.cell 0 _ rfl
  have pp1 := P1.cell 1 _ rfl
  have pp2 := P1.cell 2 _ rfl
  have pp3 := P1.cell 3 _ rfl
  have pp4 := P1.cell 4 _ rfl
  have pp5 := P1.cell 5 _ rfl
  go_wp2_with fail
  refine (TI _ L1 E1).mono ?_
  rintro e u2 ⟨rfl, b2⟩
  have T2 := At.new u2 [.int .i64 tc, .int .i64 tr, .int .i64 ts, .int .i64 tp, .int .i64 tx, .int .i64 ty, .int .i64 tf, .int .i64 tu, .int .i64 td, .int .i64 th, .int .i64 tk] 112
  have c2 := bal b2 (.cells #[.int .i64 tc, .int .i64 tr, .int .i64 ts, .int .i64 tp, .int .i64 tx, .int .i64 ty, .int .i64 tf, .int .i64 tu, .int .i64 td, .int .i64 th, .int .i64 tk] 112)
  have C2 := C1.on c2
  have P2 := P1.on c2
  have L2 := L1.on c2
  have E2 := E1.on c2
  have R2 := R1.on c2
  have B2 := btr c1 c2
  clear b2 c1 c2 C1 P1 L1 E1 R1 TI cc0 cc1 cc2 cc3 pp0 pp1 pp2 pp3 pp4 pp5
  go_wp2_with fail
  generalize u2.alloc (.cells #[.int .i64 tc, .int .i64 tr, .int .i64 ts, .int .i64 tp, .int .i64 tx, .int .i64 ty, .int .i64 tf, .int .i64 tu, .int .i64 td, .int .i64 th, .int .i64 tk] 112) = W2 at *
  refine (DrawKeysOf_any R2).mono ?_
  rintro e u3 ⟨qa, qb, qd, rfl, b3⟩
  have KI := fun w L => implKeysOf_any qa qb qd w L
  have KS := fun w => specKeysOf_any qa qb qd w
  generalize keysT qa qb qd = kk at *
  obtain ⟨g0, g1, g2, g3, g4, g5, g6, g7, g8, g9, g10⟩ := kk
  go_wp2_with fail
  refine (KI _ (L2.on b3)).mono ?_
  rintro e u4 ⟨rfl, b4⟩
  have K4' := At.new u4 [.int .i64 g0, .int .i64 g1, .int .i64 g2, .int .i64 g3, .int .i64 g4, .int .i64 g5, .int .i64 g6, .int .i64 g7, .int .i64 g8, .int .i64 g9, .int .i64 g10] 112
  have c4 := bal (btr b3 b4) (.cells #[.int .i64 g0, .int .i64 g1, .int .i64 g2, .int .i64 g3, .int .i64 g4, .int .i64 g5, .int .i64 g6, .int .i64 g7, .int .i64 g8, .int .i64 g9, .int .i64 g10] 112)
  have C4 := C2.on c4
  have P4 := P2.on c4
  have L4 := L2.on c4
  have E4 := E2.on c4
  have R4 := R2.on c4
  have T4 := T2.on c4
  have B4 := btr B2 c4
  clear b3 b4 c4 C2 P2 L2 E2 R2 T2 B2 KI
  go_wp2_with fail
  generalize u4.alloc (.cells #[.int .i64 g0, .int .i64 g1, .int .i64 g2, .int .i64 g3, .int .i64 g4, .int .i64 g5, .int .i64 g6, .int .i64 g7, .int .i64 g8, .int .i64 g9, .int .i64 g10] 112) = W4 at *
  refine (DrawFinishOf_any R4).mono ?_
  rintro e u5 ⟨qe, qf, rfl, b5⟩
  have FI := fun w L => implFinishOf_any qe qf w L
  have FS := fun w => specFinishOf_any qe qf w
  generalize (finR qe qf).1 = fc at *
  generalize (finR qe qf).2 = fv at *
  have C5 := C4.on b5
  have P5 := P4.on b5
  have L5 := L4.on b5
  have E5 := E4.on b5
  have T5 := T4.on b5
  have K5 := K4'.on b5
  have B5 := btr B4 b5
  clear b5 C4 P4 L4 E4 R4 T4 B4 K4'
  go_upto_region 8 with fail
  have kk0 := K5.cell 0 _ rfl
  have kk1 := K5.cell 1 _ rfl
  have kk2 := K5.cell 2 _ rfl
  have kk3 := K5.cell 3 _ rfl
  have kk4 := K5.cell 4 _ rfl
  have kk5 := K5.cell 5 _ rfl
  have kk6 := K5.cell 6 _ rfl
  have kk7 := K5.cell 7 _ rfl
  have kk8 := K5.cell 8 _ rfl
  have kk9 := K5.cell 9 _ rfl
  have kk10 := K5.cell 10 _ rfl
  refine wp_region_line (Bel u5) [(0, true), (1, true), (2, true), (3, true), (4, true), (5, false), (6, true), (7, true), (8, true), (9, true), (10, true), (11, true), (12, true), (13, true), (14, false), (15, true), (16, true), (17, true), (18, true), (19, true), (20, true), (23, true), (24, true), (21, false), (22, true), (25, false), (26, true), (27, true), (28, true), (29, true), (30, true), (31, true), (34, true), (35, true), (32, false), (33, true), (36, false), (37, true), (38, true), (39, true)] (by kernel_rfl) (by kernel_rfl) (fun _ _ d _ _ h => by cases d <;> exact h) (Bel.drew u5) ?_
  have hst := Bel.drew u5
  have inst : Nonempty (Of (Bel u5)) := ⟨⟨_, hst⟩⟩
  have qk0 := bel_cell kk0
  have qk7 := bel_cell kk7
  have qk8 := bel_cell kk8
  have qk9 := bel_cell kk9
  have qk10 := bel_cell kk10
  iterate 5 (refine line_read rfl (by kernel_rfl) (fun K hK => ?_); go_big_quiet_op; refine hK _ ?_; clear hK K)
  refine line_alone rfl (by kernel_rfl) (fun K hK => ?_)
  refine call_wp (args := #[.int .i64 qa, .int .i64 qb, .int .i64 qd]) rfl (by kernel_rfl) (by kernel_rfl) (KS _) (fun wn hbn => ?_)
  have hst2 := hst.on hbn
  refine hK _ _ hst2 ?_
  clear hK K hst hbn
  have hst := hst2
  clear hst2
  simp only [Act.put, List.setIfInBounds_toArray, List.set_cons_zero, List.set_cons_succ]
  iterate 8 (refine line_read rfl (by kernel_rfl) (fun K hK => ?_); go_big_quiet_op; refine hK _ ?_; clear hK K)
  refine line_alone rfl (by kernel_rfl) (fun K hK => ?_)
  refine call_wp (args := #[.int .i64 qa, .int .i64 qb, .int .i64 qd]) rfl (by kernel_rfl) (by kernel_rfl) (KS _) (fun wn hbn => ?_)
  have hst2 := hst.on hbn
  refine hK _ _ hst2 ?_
  clear hK K hst hbn
  have hst := hst2
  clear hst2
  simp only [Act.put, List.setIfInBounds_toArray, List.set_cons_zero, List.set_cons_succ]
  iterate 8 (refine line_read rfl (by kernel_rfl) (fun K hK => ?_); go_big_quiet_op; refine hK _ ?_; clear hK K)
  refine line_alone rfl (by kernel_rfl) (fun K hK => ?_)
  refine call_wp (args := #[.int .i64 qe, .int .i64 qf]) rfl (by kernel_rfl) (by kernel_rfl) (FI _ (L5.on hst.out)) (fun wn hbn => ?_)
  have hst2 := hst.on hbn
  refine hK _ _ hst2 ?_
  clear hK K hst hbn
  have hst := hst2
  clear hst2
  simp only [Act.put, List.setIfInBounds_toArray, List.set_cons_zero, List.set_cons_succ]
  iterate 1 (refine line_read rfl (by kernel_rfl) (fun K hK => ?_); go_big_quiet_op; refine hK _ ?_; clear hK K)
  refine line_alone rfl (by kernel_rfl) (fun K hK => ?_)
  refine call_wp (args := #[.int .i64 qe, .int .i64 qf]) rfl (by kernel_rfl) (by kernel_rfl) (FS _) (fun wn hbn => ?_)
  have hst2 := hst.on hbn
  refine hK _ _ hst2 ?_
  clear hK K hst hbn
  have hst := hst2
  clear hst2
  simp only [Act.put, List.setIfInBounds_toArray, List.set_cons_zero, List.set_cons_succ]
  iterate 8 (refine line_read rfl (by kernel_rfl) (fun K hK => ?_); go_big_quiet_op; refine hK _ ?_; clear hK K)
  refine line_alone rfl (by kernel_rfl) (fun K hK => ?_)
  refine call_wp (args := #[.int .i64 qe, .int .i64 qf]) rfl (by kernel_rfl) (by kernel_rfl) (FI _ (L5.on hst.out)) (fun wn hbn => ?_)
  have hst2 := hst.on hbn
  refine hK _ _ hst2 ?_
  clear hK K hst hbn
  have hst := hst2
  clear hst2
  simp only [Act.put, List.setIfInBounds_toArray, List.set_cons_zero, List.set_cons_succ]
  iterate 1 (refine line_read rfl (by kernel_rfl) (fun K hK => ?_); go_big_quiet_op; refine hK _ ?_; clear hK K)
  refine line_alone rfl (by kernel_rfl) (fun K hK => ?_)
  refine call_wp (args := #[.int .i64 qe, .int .i64 qf]) rfl (by kernel_rfl) (by kernel_rfl) (FS _) (fun wn hbn => ?_)
  have hst2 := hst.on hbn
  refine hK _ _ hst2 ?_
  clear hK K hst hbn
  have hst := hst2
  clear hst2
  simp only [Act.put, List.setIfInBounds_toArray, List.set_cons_zero, List.set_cons_succ]
  iterate 3 (refine line_read rfl (by kernel_rfl) (fun K hK => ?_); go_big_quiet_op; refine hK _ ?_; clear hK K)
  refine line_nil ?_
  have b6 := hst.out
  clear hst inst KS FI FS kk0 kk1 kk2 kk3 kk4 kk5 kk6 kk7 kk8 kk9 kk10 qk0 qk7 qk8 qk9 qk10 K5
  rename World => W6
  have C6 := C5.on b6
  have P6 := P5.on b6
  have L6 := L5.on b6
  have E6 := E5.on b6
  have T6 := T5.on b6
  have B6 := btr B5 b6
  clear b6 C5 P5 L5 E5 T5 B5
  have aa0 := T6.cell 0 _ rfl
  have aa1 := T6.cell 1 _ rfl
  have aa2 := T6.cell 2 _ rfl
  have aa3 := T6.cell 3 _ rfl
  have aa4 := T6.cell 4 _ rfl
  have aa5 := T6.cell 5 _ rfl
  have aa6 := T6.cell 6 _ rfl
  have aa7 := T6.cell 7 _ rfl
  have aa8 := T6.cell 8 _ rfl
  have aa9 := T6.cell 9 _ rfl
  have aa10 := T6.cell 10 _ rfl
  by_cases h0 : tc = 0
  · obtain ⟨he, sh, u, d, vh, hT, ok⟩ := HS.out h0
    injection hT with e0 e1 e2 e3 e4 e5 e6 e7 e8 e9 e10
    subst e0; subst e1; subst e2; subst e3; subst e4; subst e5; subst e6; subst e7; subst e8; subst e9; subst e10
    clear HS TS CI CS h0
    have KY := fun w L => implKeysOf_any sh th tk w L
    rw [ok.keys] at KY
    have FY := fun w L => implFinishOf_any sh th w L
    rw [ok.fin] at FY
    have SY := fun w => implSharedOf_any k ts w
    rw [ok.shared] at SY
    rw [ok.code, ok.heard] at HE
    have DY := fun w => implDeriveKey_any th M.verifyS w (by decide)
    rw [ok.key] at DY
    have CY := fun w L => implCheckSign_any tk vh tx ty w L
    rw [ok.signed] at CY
    dsimp only at FY SY DY
    clear ok
    have cc0 := C6.cell 0 _ rfl
    have cc1 := C6.cell 1 _ rfl
    have cc2 := C6.cell 2 _ rfl
    have cc3 := C6.cell 3 _ rfl
    have pp0 := P6.cell 0 _ rfl
    have pp1 := P6.cell 1 _ rfl
    have pp2 := P6.cell 2 _ rfl
    have pp3 := P6.cell 3 _ rfl
    have pp4 := P6.cell 4 _ rfl
    have pp5 := P6.cell 5 _ rfl
    go_wp2_with fail
    refine (HE _ L6 E6).mono ?_
    rintro e u7 ⟨rfl, b7⟩
    have C7 := C6.on b7
    have P7 := P6.on b7
    have L7 := L6.on b7
    have T7 := T6.on b7
    have B7 := btr B6 b7
    clear b7 C6 P6 L6 E6 T6 B6 HE cc0 cc1 cc2 cc3 pp0 pp1 pp2 pp3 pp4 pp5 aa0 aa1 aa2 aa3 aa4 aa5 aa6 aa7 aa8 aa9 aa10
    have cc0 := C7.cell 0 _ rfl
    have cc1 := C7.cell 1 _ rfl
    have cc2 := C7.cell 2 _ rfl
    have cc3 := C7.cell 3 _ rfl
    have pp0 := P7.cell 0 _ rfl
    have pp1 := P7.cell 1 _ rfl
    have pp2 := P7.cell 2 _ rfl
    have pp3 := P7.cell 3 _ rfl
    have pp4 := P7.cell 4 _ rfl
    have pp5 := P7.cell 5 _ rfl
    go_wp2_with fail
    refine (SY _).mono ?_
    rintro e u8 ⟨rfl, b8⟩
    have P8 := P7.on b8
    have L8 := L7.on b8
    have T8 := T7.on b8
    have B8 := btr B7 b8
    clear b8 C7 P7 L7 T7 B7 SY cc0 cc1 cc2 cc3 pp0 pp1 pp2 pp3 pp4 pp5
    have pp0 := P8.cell 0 _ rfl
    have pp1 := P8.cell 1 _ rfl
    have pp2 := P8.cell 2 _ rfl
    have pp3 := P8.cell 3 _ rfl
    have pp4 := P8.cell 4 _ rfl
    have pp5 := P8.cell 5 _ rfl
    have aa0 := T8.cell 0 _ rfl
    have aa1 := T8.cell 1 _ rfl
    have aa2 := T8.cell 2 _ rfl
    have aa3 := T8.cell 3 _ rfl
    have aa4 := T8.cell 4 _ rfl
    have aa5 := T8.cell 5 _ rfl
    have aa6 := T8.cell 6 _ rfl
    have aa7 := T8.cell 7 _ rfl
    have aa8 := T8.cell 8 _ rfl
    have aa9 := T8.cell 9 _ rfl
    have aa10 := T8.cell 10 _ rfl
    go_wp2_with fail
    refine wp_region_line (Bel u8) [(0, true), (1, true), (2, true), (5, true), (6, true), (3, false), (4, true), (7, false), (8, true), (9, true), (10, true), (11, true), (12, true), (13, false), (14, true), (15, true), (16, true), (17, true), (18, true), (19, true), (20, true), (21, true), (22, true), (23, true), (24, false), (25, true), (26, true), (27, true), (28, true), (29, true), (30, true), (31, true), (32, true), (33, true), (34, true)] (by kernel_rfl) (by kernel_rfl) (fun _ _ d _ _ h => by cases d <;> exact h) (Bel.drew u8) ?_
    have hst := Bel.drew u8
    have inst : Nonempty (Of (Bel u8)) := ⟨⟨_, hst⟩⟩
    have qp0 := bel_cell pp0
    have qp1 := bel_cell pp1
    have qp2 := bel_cell pp2
    have qp3 := bel_cell pp3
    have qp4 := bel_cell pp4
    have qp5 := bel_cell pp5
    have qa1 := bel_cell aa1
    have qa2 := bel_cell aa2
    have qa3 := bel_cell aa3
    have qa4 := bel_cell aa4
    have qa5 := bel_cell aa5
    have qa6 := bel_cell aa6
    have qa7 := bel_cell aa7
    have qa8 := bel_cell aa8
    have qa9 := bel_cell aa9
    have qa10 := bel_cell aa10
    iterate 5 (refine line_read rfl (by kernel_rfl) (fun K hK => ?_); go_big_quiet_op; refine hK _ ?_; clear hK K)
    refine line_alone rfl (by kernel_rfl) (fun K hK => ?_)
    refine call_wp (args := #[.int .i64 th, .string M.verifyS]) rfl (by kernel_rfl) (by kernel_rfl) (DY _) (fun wn hbn => ?_)
    have hst2 := hst.on hbn
    refine hK _ _ hst2 ?_
    clear hK K hst hbn
    have hst := hst2
    clear hst2
    simp only [Act.put, List.setIfInBounds_toArray, List.set_cons_zero, List.set_cons_succ]
    iterate 1 (refine line_read rfl (by kernel_rfl) (fun K hK => ?_); go_big_quiet_op; refine hK _ ?_; clear hK K)
    refine line_alone rfl (by kernel_rfl) (fun K hK => ?_)
    refine call_wp (args := #[.int .i64 tk, .int .i64 vh, .agg #[.int .i64 tx, .int .i64 ty]]) rfl (by kernel_rfl) (by kernel_rfl) (CY _ (L8.on hst.out)) (fun wn hbn => ?_)
    have hst2 := hst.on hbn
    refine hK _ _ hst2 ?_
    clear hK K hst hbn
    have hst := hst2
    clear hst2
    simp only [Act.put, List.setIfInBounds_toArray, List.set_cons_zero, List.set_cons_succ]
    iterate 5 (refine line_read rfl (by kernel_rfl) (fun K hK => ?_); go_big_quiet_op; refine hK _ ?_; clear hK K)
    refine line_alone rfl (by kernel_rfl) (fun K hK => ?_)
    refine call_wp (args := #[.int .i64 sh, .int .i64 th]) rfl (by kernel_rfl) (by kernel_rfl) (FY _ (L8.on hst.out)) (fun wn hbn => ?_)
    have hst2 := hst.on hbn
    refine hK _ _ hst2 ?_
    clear hK K hst hbn
    have hst := hst2
    clear hst2
    simp only [Act.put, List.setIfInBounds_toArray, List.set_cons_zero, List.set_cons_succ]
    iterate 10 (refine line_read rfl (by kernel_rfl) (fun K hK => ?_); go_big_quiet_op; refine hK _ ?_; clear hK K)
    refine line_alone rfl (by kernel_rfl) (fun K hK => ?_)
    refine call_wp (args := #[.int .i64 sh, .int .i64 th, .int .i64 tk]) rfl (by kernel_rfl) (by kernel_rfl) (KY _ (L8.on hst.out)) (fun wn hbn => ?_)
    have hst2 := hst.on hbn
    refine hK _ _ hst2 ?_
    clear hK K hst hbn
    have hst := hst2
    clear hst2
    simp only [Act.put, List.setIfInBounds_toArray, List.set_cons_zero, List.set_cons_succ]
    iterate 10 (refine line_read rfl (by kernel_rfl) (fun K hK => ?_); go_big_quiet_op; refine hK _ ?_; clear hK K)
    refine line_nil ?_
    have hb := btr B8 hst.out
    clear hst inst
    go_wp2_with fail
    go_ret
    exact ⟨rfl, hb⟩
  · have e3 : (tc != 0) = true := by simpa using h0
    have e4 : decide (tc = 0) = false := by simpa using h0
    have e5 : (tc == 0) = false := by simpa using h0
    clear HS HE E6 L6
    have cc0 := C6.cell 0 _ rfl
    have cc1 := C6.cell 1 _ rfl
    have cc2 := C6.cell 2 _ rfl
    have cc3 := C6.cell 3 _ rfl
    have pp0 := P6.cell 0 _ rfl
    have pp1 := P6.cell 1 _ rfl
    have pp2 := P6.cell 2 _ rfl
    have pp3 := P6.cell 3 _ rfl
    have pp4 := P6.cell 4 _ rfl
    have pp5 := P6.cell 5 _ rfl
    go_wp2_with fail
    refine wp_region_line (Bel W6) [(0, true), (1, true), (4, true), (5, true), (2, false), (3, true), (6, true), (7, true), (8, true), (10, true), (9, false), (11, false), (12, true), (13, true), (14, true)] (by kernel_rfl) (by kernel_rfl) (fun _ _ d _ _ h => by cases d <;> exact h) (Bel.drew W6) ?_
    have hst := Bel.drew W6
    have inst : Nonempty (Of (Bel W6)) := ⟨⟨_, hst⟩⟩
    have qc0 := bel_cell cc0
    have qc1 := bel_cell cc1
    have qc2 := bel_cell cc2
    have qc3 := bel_cell cc3
    have qp0 := bel_cell pp0
    have qp1 := bel_cell pp1
    have qp2 := bel_cell pp2
    have qp3 := bel_cell pp3
    have qp4 := bel_cell pp4
    have qp5 := bel_cell pp5
    have qa0 := bel_cell aa0
    iterate 4 (refine line_read rfl (by kernel_rfl) (fun K hK => ?_); go_big_quiet_op; refine hK _ ?_; clear hK K)
    refine line_alone rfl (by kernel_rfl) (fun K hK => ?_)
    refine call_wp (args := #[.agg #[.int .i64 k, .int .i64 r0, .int .i64 s0, .string n], .agg #[.int .i64 r, .int .i64 s, .int .i64 p, .int .i64 x, .int .i64 y, .int .i64 f]]) rfl (by kernel_rfl) (by kernel_rfl) (TS _) (fun wn hbn => ?_)
    have hst2 := hst.on hbn
    refine hK _ _ hst2 ?_
    clear hK K hst hbn
    have hst := hst2
    clear hst2
    simp only [Act.put, List.setIfInBounds_toArray, List.set_cons_zero, List.set_cons_succ]
    iterate 5 (refine line_read rfl (by kernel_rfl) (fun K hK => ?_); go_big_quiet_op; refine hK _ ?_; clear hK K)
    refine line_alone rfl (by kernel_rfl) (fun K hK => ?_)
    refine call_wp (args := #[.agg #[.int .i64 k, .int .i64 r0, .int .i64 s0, .string n]]) rfl (by kernel_rfl) (by kernel_rfl) (CI _) (fun wn hbn => ?_)
    have hst2 := hst.on hbn
    refine hK _ _ hst2 ?_
    clear hK K hst hbn
    have hst := hst2
    clear hst2
    simp only [Act.put, List.setIfInBounds_toArray, List.set_cons_zero, List.set_cons_succ]
    refine line_alone rfl (by kernel_rfl) (fun K hK => ?_)
    refine call_wp (args := #[.agg #[.int .i64 k, .int .i64 r0, .int .i64 s0, .string n]]) rfl (by kernel_rfl) (by kernel_rfl) (CS _) (fun wn hbn => ?_)
    have hst2 := hst.on hbn
    refine hK _ _ hst2 ?_
    clear hK K hst hbn
    have hst := hst2
    clear hst2
    simp only [Act.put, List.setIfInBounds_toArray, List.set_cons_zero, List.set_cons_succ]
    iterate 3 (refine line_read rfl (by kernel_rfl) (fun K hK => ?_); go_big_quiet_op; refine hK _ ?_; clear hK K)
    refine line_nil ?_
    have hb := btr B6 hst.out
    clear hst inst
    go_wp2_with fail
    go_ret
    exact ⟨rfl, hb⟩

end Go.Proofs.YtlodhleihnlchaaGreatDoor.fnTakes
