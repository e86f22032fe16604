/- Two who heard each other have the same keys, and the client knows whose they are, at every input that is drawn out of whatever bytes. The walk: the law's Go text answers true and turns nothing that was there. Conditions: as the theorem states. -/
import Derived.Test.YtlodhleihnlchaaGreatDoorH1
import Derived.Test.YtlodhleihnlchaaGreatDoorH4
import Derived.Test.YtlodhleihnlchaaGreatDoorH9
import Derived.Test.YtlodhleihnlchaaGreatDoorH10
import Derived.Test.YtlodhleihnlchaaGreatDoorH11
import Derived.WalkKit
import Derived.Below
namespace Go.Proofs.YtlodhleihnlchaaGreatDoor.fnHandshakes
open Go.RowKit
set_option linter.unusedVariables false

/-- A value lies in a block of its own. -/
def BlkAt (V : World) (cs : List Value) (v : Value) (wx : World) : Prop := ∃ g, v = .pointer (some ⟨g, 0, none⟩) ∧ At g cs wx ∧ Below V.heap.size V wx ∧ V.heap.size ≤ g
theorem sta_hid (k rd : Int) (n : ByteArray) : staC k rd n = 0 → cliF (staI k rd n k) (staI k rd n rd) (staI k rd n (M.pubN k)) (staN k rd n) = 0 := fun h => by
  have := sta_cli h
  simp only [staI, staN, h, if_true]
  exact this
set_option maxHeartbeats 4000000 in
set_option maxRecDepth 100000 in
theorem walk (a0 : Option Addr) (len0 cap0 : Nat) (z0 : List Int) (w : World) (w0 : Row .u8 w w.heap.size a0 len0 cap0 z0) (lab : Labels w) (ert : ErrT w) :
    Calls Tryz.prog 6 #[.slice a0 len0 cap0] w fun e w' => e = .returned (.bool true) ∧ Below w.heap.size w w' := by
  have hl := w0.fits
  have hm := w0.most
  unfold maxLen at hm
  by_cases hbig : 1048576 < len0
  · have hB : decide (1048576 < len0) = true := by simp [hbig]
    go_enter Tryz.func6, Tryz.ntmps6
    go_wp2_with fail
    refine (lwBig_any _ _ _ _ (by omega)).mono ?_
    rintro r w' ⟨rfl, rfl⟩
    go_wp2_with fail
    go_ret
    exact ⟨rfl, Below.refl _ _⟩
  have hB : decide (1048576 < len0) = false := by simp [hbig]
  have t0 := tkf0
  have t2 := tkf2
  have t3 := clf0
  have t4 := krf1
  have t5 := kf11
  have t6 := fld1
  have t7 := taken_neq11
  have t8 := taken_guard11
  have t9 := keys_eql11
  have t10 := keys_guard11
  go_enter Tryz.func6, Tryz.ntmps6
  go_wp2_with fail
  refine (lwBig_any _ _ _ _ (by omega)).mono ?_
  rintro r w' ⟨rfl, rfl⟩
  go_wp2_with fail
  refine (DrawStartClient_any w0).mono ?_
  rintro e u1 ⟨k, rd, n, rfl, hn, b1⟩
  have hnm : n.size ≤ maxLen := by simp only [maxLen]; omega
  have SI := fun w => implStartClient_any k rd n w hnm
  have SS := fun w => specStartClient_any k rd n w hnm
  have HS := Lib.hid (sta_hid k rd n)
  have L1 := lab.on b1
  have E1 := ert.on b1
  have R1 := w0.on b1
  generalize staI k rd n k = K1 at *
  generalize staI k rd n rd = K2 at *
  generalize staI k rd n (M.pubN k) = K3 at *
  generalize staN k rd n = N at *
  generalize staC k rd n = cd at *
  clear lab ert w0 hl hm hB hbig
  go_wp2_with fail
  refine (SI _).mono ?_
  rintro e u2 ⟨rfl, b2⟩
  have C2 := At.new u2 [.int .i64 cd, .int .i64 K1, .int .i64 K2, .int .i64 K3, .string N] 105
  have c2 := bal b2 (.cells #[.int .i64 cd, .int .i64 K1, .int .i64 K2, .int .i64 K3, .string N] 105)
  have L2 := L1.on c2
  have E2 := E1.on c2
  have R2 := R1.on c2
  have B2 := btr b1 c2
  clear b1 b2 c2 L1 E1 R1 SI
  go_wp2_with fail
  generalize u2.alloc (.cells #[.int .i64 cd, .int .i64 K1, .int .i64 K2, .int .i64 K3, .string N] 105) = W2 at *
  refine (DrawAnswerHello_any R2).mono ?_
  rintro e u3 ⟨i, s, d, r, q, m, rfl, hm, b3⟩
  have hmm : m.size ≤ maxLen := by simp only [maxLen]; omega
  have AI := fun w L E => implAnswerHello_any i s d r q m w L E hmm
  have AS := fun w => specAnswerHello_any i s d r q m w hmm
  generalize ansT i s d m r q = T1 at *
  obtain ⟨c1, r1, s1, p1, x1, y1, f1, u1', d1, h1, k1⟩ := T1
  have H3 := At.new u3 [.int .i64 r, .int .i64 q, .string m] 26
  have c3 := bal b3 (.cells #[.int .i64 r, .int .i64 q, .string m] 26)
  have C3 := C2.on c3
  have L3 := L2.on c3
  have E3 := E2.on c3
  have R3 := R2.on c3
  have B3 := btr B2 c3
  clear b3 c3 C2 L2 E2 R2 B2
  have hh0 := H3.cell 0 _ rfl
  have hh1 := H3.cell 1 _ rfl
  have hh2 := H3.cell 2 _ rfl
  go_wp2_with fail
  generalize u3.alloc (.cells #[.int .i64 r, .int .i64 q, .string m] 26) = W3 at *
  refine (AI _ L3 E3).mono ?_
  rintro e u4 ⟨rfl, b4⟩
  have D4 := At.new u4 [.int .i64 c1, .int .i64 r1, .int .i64 s1, .int .i64 p1, .int .i64 x1, .int .i64 y1, .int .i64 f1, .int .i64 u1', .int .i64 d1, .int .i64 h1, .int .i64 k1] 112
  have c4 := bal b4 (.cells #[.int .i64 c1, .int .i64 r1, .int .i64 s1, .int .i64 p1, .int .i64 x1, .int .i64 y1, .int .i64 f1, .int .i64 u1', .int .i64 d1, .int .i64 h1, .int .i64 k1] 112)
  have C4 := C3.on c4
  have L4 := L3.on c4
  have E4 := E3.on c4
  have R4 := R3.on c4
  have H4 := H3.on c4
  have B4 := btr B3 c4
  clear b4 c4 C3 L3 E3 R3 B3 H3 hh0 hh1 hh2 AI
  go_upto_region 7 with fail
  generalize u4.alloc (.cells #[.int .i64 c1, .int .i64 r1, .int .i64 s1, .int .i64 p1, .int .i64 x1, .int .i64 y1, .int .i64 f1, .int .i64 u1', .int .i64 d1, .int .i64 h1, .int .i64 k1] 112) = W4 at *
  have hh0 := H4.cell 0 _ rfl
  have hh1 := H4.cell 1 _ rfl
  have hh2 := H4.cell 2 _ rfl
  have dd0 := D4.cell 0 _ rfl
  have dd1 := D4.cell 1 _ rfl
  have dd2 := D4.cell 2 _ rfl
  have dd3 := D4.cell 3 _ rfl
  have dd4 := D4.cell 4 _ rfl
  have dd5 := D4.cell 5 _ rfl
  have dd6 := D4.cell 6 _ rfl
  have dd7 := D4.cell 7 _ rfl
  have dd8 := D4.cell 8 _ rfl
  have dd9 := D4.cell 9 _ rfl
  have dd10 := D4.cell 10 _ rfl
  refine wp_region_line (Bel W4) [(0, true), (1, true), (2, true), (3, true), (4, true), (5, true), (6, false), (7, true), (8, true), (9, true), (10, true), (11, true), (12, true), (13, true), (14, true), (15, false), (16, true), (17, true)] (by kernel_rfl) (by kernel_rfl) (fun _ _ d _ _ h => by cases d <;> exact h) (Bel.drew W4) ?_
  have hst := Bel.drew W4
  have inst : Nonempty (Of (Bel W4)) := ⟨⟨_, hst⟩⟩
  have qh0 := bel_cell hh0
  have qh1 := bel_cell hh1
  have qh2 := bel_cell hh2
  have qd0 := bel_cell dd0
  have qd1 := bel_cell dd1
  have qd2 := bel_cell dd2
  have qd3 := bel_cell dd3
  have qd4 := bel_cell dd4
  have qd5 := bel_cell dd5
  have qd6 := bel_cell dd6
  have qd7 := bel_cell dd7
  have qd8 := bel_cell dd8
  have qd9 := bel_cell dd9
  have qd10 := bel_cell dd10
  generalize W4.drew = V4 at *
  iterate 6 (refine line_read rfl (by kernel_rfl) (fun K hK => ?_); go_big_quiet_op; refine hK _ ?_; clear hK K)
  refine line_alone rfl (by kernel_rfl) (fun K hK => ?_)
  refine call_wp (args := #[.int .i64 i, .int .i64 s, .int .i64 d, .agg #[.int .i64 r, .int .i64 q, .string m]]) rfl (by kernel_rfl) (by kernel_rfl) (AS _) (fun wn hbn => ?_)
  have hst2 := hst.on hbn
  refine hK _ _ hst2 ?_
  clear hK K hst hbn
  have hst := hst2
  clear hst2
  simp only [Act.put, List.setIfInBounds_toArray, List.set_cons_zero, List.set_cons_succ]
  iterate 8 (refine line_read rfl (by kernel_rfl) (fun K hK => ?_); go_big_quiet_op; refine hK _ ?_; clear hK K)
  refine line_alone rfl (by kernel_rfl) (fun K hK => ?_)
  refine call_wp (args := #[.int .i64 i, .int .i64 s, .int .i64 d, .agg #[.int .i64 r, .int .i64 q, .string m]]) rfl (by kernel_rfl) (by kernel_rfl) (AS _) (fun wn hbn => ?_)
  have hst2 := hst.on hbn
  refine hK _ _ hst2 ?_
  clear hK K hst hbn
  have hst := hst2
  clear hst2
  simp only [Act.put, List.setIfInBounds_toArray, List.set_cons_zero, List.set_cons_succ]
  iterate 2 (refine line_read rfl (by kernel_rfl) (fun K hK => ?_); go_big_quiet_op; refine hK _ ?_; clear hK K)
  refine line_nil ?_
  have b5 := hst.out
  clear hst inst AS hh0 hh1 hh2 dd0 dd1 dd2 dd3 dd4 dd5 dd6 dd7 dd8 dd9 dd10 H4 D4
  rename World => W5
  have C5 := C4.on b5
  have L5 := L4.on b5
  have E5 := E4.on b5
  have R5 := R4.on b5
  have B5 := btr B4 b5
  clear b5 C4 L4 E4 R4 B4
  have cc0 := C5.cell 0 _ rfl
  have cc1 := C5.cell 1 _ rfl
  have cc2 := C5.cell 2 _ rfl
  have cc3 := C5.cell 3 _ rfl
  have cc4 := C5.cell 4 _ rfl
  by_cases h0 : cd = 0
  · subst h0
    have hcl := HS.out rfl
    clear HS SS
    have hNs := hel_size (cliF_zero hcl).2.1
    have hNm : N.size ≤ maxLen := by simp only [maxLen]; omega
    have CF := fun w => implClientFault_any K1 K2 K3 N w hNm
    rw [hcl] at CF
    have hhel := (cliF_zero hcl).2.1
    go_wp2_with fail
    refine (lwSecret_any 3 R5 (by omega)).mono ?_
    rintro e u6 ⟨iv, i0, i1, rfl, b6⟩
    have hiv : inB iv 1 1438 = true := by simp only [inB, decide_eq_true_eq]; omega
    have ANS : ∀ s2 d2 : Int, 1 ≤ s2 → s2 ≤ 1438 → 0 ≤ d2 → (d2 < 65521 ∨ (65521 : Int) ≤ 1 ∧ d2 = 0) → ∃ t, ShakeT K1 K2 K3 iv N t ∧ ∀ w, Labels w → ErrT w → Calls Tryz.prog 62 #[.int .i64 iv, .int .i64 s2, .int .i64 d2, .agg #[.int .i64 K2, .int .i64 K3, .string N]] w fun e w' => e = .returned (T11 t) ∧ Below w.heap.size w w' := by
      intro s2 d2 a1 a2 a3 a4
      obtain ⟨t, ht, hT⟩ := shake (i := iv) (s := s2) (d := d2) hcl (by simp only [ansB, inB, M.sumB, Bool.and_eq_true, decide_eq_true_eq]; omega)
      refine ⟨t, hT, fun w L E => ?_⟩
      have := implAnswerHello_any iv s2 d2 K2 K3 N w L E hNm
      rw [ht] at this
      exact this
    have KO := fun w => implKeyOf_any iv w
    rw [keyR_yes hiv] at KO
    dsimp only at KO
    have C6 := C5.on b6
    have L6 := L5.on b6
    have E6 := E5.on b6
    have R6 := R5.on b6
    have B6 := btr B5 b6
    clear b6 C5 L5 E5 R5 B5 cc0 cc1 cc2 cc3 cc4 i0 i1 hiv
    have cc0 := C6.cell 0 _ rfl
    have cc1 := C6.cell 1 _ rfl
    have cc2 := C6.cell 2 _ rfl
    have cc3 := C6.cell 3 _ rfl
    have cc4 := C6.cell 4 _ rfl
    go_upto_region 12 with fail
    go_cut [13] from 70 to 79 (fun v' wy => ∃ t, ShakeT K1 K2 K3 iv N t ∧ BlkAt u6 [.int .i64 t.c, .int .i64 t.r, .int .i64 t.s, .int .i64 t.p, .int .i64 t.x, .int .i64 t.y, .int .i64 t.f, .int .i64 t.u, .int .i64 t.d, .int .i64 t.h, .int .i64 t.k] v' wy)
    case first =>
      refine wp_region_fork (Bel u6) (by kernel_rfl) (Bel.drew u6) ?_
      have hst : (Bel u6) _ := (Bel.drew u6)
      have inst : Nonempty (Of (Bel u6)) := ⟨⟨_, hst⟩⟩
      have qc2 := bel_cell cc2
      have qc3 := bel_cell cc3
      have qc4 := bel_cell cc4
      generalize u6.drew = V1 at *
      refine any_seg 5 [(0, true), (1, true), (3, true), (5, true), (6, true), (7, true)] (by kernel_rfl) (fun _ _ d _ _ h => by cases d <;> exact h) ?_
      iterate 6 (refine line_read rfl (by kernel_rfl) (fun K hK => ?_); go_big_quiet_op; refine hK _ ?_; clear hK K)
      refine line_nil ?_
      clear qc2 qc3 qc4
      refine any_fork 2 9 (by kernel_rfl) rfl rfl (by kernel_rfl) (by kernel_rfl) (fun K hK => ?_) (fun K hK => ?_)
      · refine call_any (args := #[.slice a0 len0 cap0, .int .i64 5]) rfl (by kernel_rfl) (by kernel_rfl) (lwSecret_any 5 (R6.on hst.out) (by omega)) ?_
        rintro e x0 ⟨s2, m1, m2, rfl, hbn⟩
        have hst2 := hst.on hbn
        refine ⟨_, rfl, hK _ _ hst2 ?_⟩
        clear hK K hst hbn
        have hst := hst2
        clear hst2
        simp only [Act.put, List.setIfInBounds_toArray, List.set_cons_zero, List.set_cons_succ]
        refine any_fork 4 9 (by kernel_rfl) rfl rfl (by kernel_rfl) (by kernel_rfl) (fun K hK => ?_) (fun K hK => ?_)
        · refine call_any (args := #[.slice a0 len0 cap0, .int .i64 7, .int .i64 65521]) rfl (by kernel_rfl) (by kernel_rfl) (lwAt_any 7 65521 _ _ _ _ _ _ (R6.on hst.out) (by omega)) ?_
          rintro e x1 ⟨d2, m3, m4, rfl, hbn⟩
          have hst2 := hst.on hbn
          refine ⟨_, rfl, hK _ _ hst2 ?_⟩
          clear hK K hst hbn
          have hst := hst2
          clear hst2
          simp only [Act.put, List.setIfInBounds_toArray, List.set_cons_zero, List.set_cons_succ]
          refine any_fork 8 9 (by kernel_rfl) rfl rfl (by kernel_rfl) (by kernel_rfl) (fun K hK => ?_) (fun K hK => ?_)
          · obtain ⟨t, hT, AN⟩ := ANS s2 d2 m1 m2 m3 m4
            refine call_any (args := #[.int .i64 iv, .int .i64 s2, .int .i64 d2, .agg #[.int .i64 K2, .int .i64 K3, .string N]]) rfl (by kernel_rfl) (by kernel_rfl) (AN _ (L6.on hst.out) (E6.on hst.out)) ?_
            rintro e x2 ⟨rfl, hbn⟩
            have hst2 := hst.on hbn
            refine ⟨_, rfl, hK _ _ hst2 ?_⟩
            clear hK K hst hbn
            have hst := hst2
            clear hst2
            simp only [Act.put, List.setIfInBounds_toArray, List.set_cons_zero, List.set_cons_succ]
            refine any_rest [(9, false), (10, false)] (by kernel_rfl) (fun _ _ d _ _ h => by cases d <;> exact h) ?_
            refine line_alone rfl (by kernel_rfl) (fun K hK => ?_)
            go_big_op
            have hst2 := hst.on (bal (Below.refl _ x2) (.cells #[.int .i64 0, .int .i64 0, .int .i64 0, .int .i64 0, .int .i64 0, .int .i64 0, .int .i64 0, .int .i64 0, .int .i64 0, .int .i64 0, .int .i64 0] 112))
            have A : Blk x2.heap.size [.int .i64 0, .int .i64 0, .int .i64 0, .int .i64 0, .int .i64 0, .int .i64 0, .int .i64 0, .int .i64 0, .int .i64 0, .int .i64 0, .int .i64 0] 112 (x2.alloc (.cells #[.int .i64 0, .int .i64 0, .int .i64 0, .int .i64 0, .int .i64 0, .int .i64 0, .int .i64 0, .int .i64 0, .int .i64 0, .int .i64 0, .int .i64 0] 112)) := Blk.new x2 [.int .i64 0, .int .i64 0, .int .i64 0, .int .i64 0, .int .i64 0, .int .i64 0, .int .i64 0, .int .i64 0, .int .i64 0, .int .i64 0, .int .i64 0] 112
            have leA : u6.heap.size ≤ x2.heap.size := hst.out.size
            refine hK _ _ hst2 ?_
            clear hK K hst
            have hst := hst2
            clear hst2
            generalize x2.alloc (.cells #[.int .i64 0, .int .i64 0, .int .i64 0, .int .i64 0, .int .i64 0, .int .i64 0, .int .i64 0, .int .i64 0, .int .i64 0, .int .i64 0, .int .i64 0] 112) = xa at *
            refine line_alone rfl (by kernel_rfl) (fun K hK => ?_)
            refine wp_store_row 112 (.tmp 13) (.tmp 78) rfl x2.heap.size #[.int .i64 t.c, .int .i64 t.r, .int .i64 t.s, .int .i64 t.p, .int .i64 t.x, .int .i64 t.y, .int .i64 t.f, .int .i64 t.u, .int .i64 t.d, .int .i64 t.h, .int .i64 t.k] rfl rfl 112 _ A (by kernel_rfl) rfl (by simp [Value.oneCell']) ?_
            have A9 := (A.row [.int .i64 t.c, .int .i64 t.r, .int .i64 t.s, .int .i64 t.p, .int .i64 t.x, .int .i64 t.y, .int .i64 t.f, .int .i64 t.u, .int .i64 t.d, .int .i64 t.h, .int .i64 t.k]).cells
            have B9 := below_row hst.out leA #[.int .i64 t.c, .int .i64 t.r, .int .i64 t.s, .int .i64 t.p, .int .i64 t.x, .int .i64 t.y, .int .i64 t.f, .int .i64 t.u, .int .i64 t.d, .int .i64 t.h, .int .i64 t.k]
            refine hK _ _ ⟨B9⟩ ?_
            clear hK K hst A
            refine line_nil ?_
            have HB := Lib.hid B9
            clear B9
            go_wp2_with fail
            go_meet
            case rel => exact ⟨t, hT, _, rfl, A9, HB.out, leA⟩
          · go_big_op
            have hst2 := hst.on (bal (Below.refl _ x1) (.cells #[.int .i64 0, .int .i64 0, .int .i64 0, .int .i64 0, .int .i64 0, .int .i64 0, .int .i64 0, .int .i64 0, .int .i64 0, .int .i64 0, .int .i64 0] 112))
            have A : Blk x1.heap.size [.int .i64 0, .int .i64 0, .int .i64 0, .int .i64 0, .int .i64 0, .int .i64 0, .int .i64 0, .int .i64 0, .int .i64 0, .int .i64 0, .int .i64 0] 112 (x1.alloc (.cells #[.int .i64 0, .int .i64 0, .int .i64 0, .int .i64 0, .int .i64 0, .int .i64 0, .int .i64 0, .int .i64 0, .int .i64 0, .int .i64 0, .int .i64 0] 112)) := Blk.new x1 [.int .i64 0, .int .i64 0, .int .i64 0, .int .i64 0, .int .i64 0, .int .i64 0, .int .i64 0, .int .i64 0, .int .i64 0, .int .i64 0, .int .i64 0] 112
            have leA : u6.heap.size ≤ x1.heap.size := hst.out.size
            refine hK _ _ hst2 ?_
            clear hK K hst
            have hst := hst2
            clear hst2
            generalize x1.alloc (.cells #[.int .i64 0, .int .i64 0, .int .i64 0, .int .i64 0, .int .i64 0, .int .i64 0, .int .i64 0, .int .i64 0, .int .i64 0, .int .i64 0, .int .i64 0] 112) = xa at *
            refine any_rest [(8, false), (10, false)] (by kernel_rfl) (fun _ _ d _ _ h => by cases d <;> exact h) ?_
            refine line_alone rfl (by kernel_rfl) (fun K hK => ?_)
            obtain ⟨t, hT, AN⟩ := ANS s2 d2 m1 m2 m3 m4
            refine call_any (args := #[.int .i64 iv, .int .i64 s2, .int .i64 d2, .agg #[.int .i64 K2, .int .i64 K3, .string N]]) rfl (by kernel_rfl) (by kernel_rfl) (AN _ (L6.on hst.out) (E6.on hst.out)) ?_
            rintro e kw2 ⟨rfl, hbn⟩
            have hst2 := hst.on hbn
            have A2 := A.on hbn
            clear A
            have A := A2
            clear A2
            refine ⟨_, rfl, hK _ _ hst2 ?_⟩
            clear hK K hst hbn
            have hst := hst2
            clear hst2
            simp only [Act.put, List.setIfInBounds_toArray, List.set_cons_zero, List.set_cons_succ]
            refine line_alone rfl (by kernel_rfl) (fun K hK => ?_)
            refine wp_store_row 112 (.tmp 13) (.tmp 78) rfl x1.heap.size #[.int .i64 t.c, .int .i64 t.r, .int .i64 t.s, .int .i64 t.p, .int .i64 t.x, .int .i64 t.y, .int .i64 t.f, .int .i64 t.u, .int .i64 t.d, .int .i64 t.h, .int .i64 t.k] rfl rfl 112 _ A (by kernel_rfl) rfl (by simp [Value.oneCell']) ?_
            have A9 := (A.row [.int .i64 t.c, .int .i64 t.r, .int .i64 t.s, .int .i64 t.p, .int .i64 t.x, .int .i64 t.y, .int .i64 t.f, .int .i64 t.u, .int .i64 t.d, .int .i64 t.h, .int .i64 t.k]).cells
            have B9 := below_row hst.out leA #[.int .i64 t.c, .int .i64 t.r, .int .i64 t.s, .int .i64 t.p, .int .i64 t.x, .int .i64 t.y, .int .i64 t.f, .int .i64 t.u, .int .i64 t.d, .int .i64 t.h, .int .i64 t.k]
            refine hK _ _ ⟨B9⟩ ?_
            clear hK K hst A
            refine line_nil ?_
            have HB := Lib.hid B9
            clear B9
            go_wp2_with fail
            go_meet
            case rel => exact ⟨t, hT, _, rfl, A9, HB.out, leA⟩
        · go_big_op
          have hst2 := hst.on (bal (Below.refl _ x0) (.cells #[.int .i64 0, .int .i64 0, .int .i64 0, .int .i64 0, .int .i64 0, .int .i64 0, .int .i64 0, .int .i64 0, .int .i64 0, .int .i64 0, .int .i64 0] 112))
          have A : Blk x0.heap.size [.int .i64 0, .int .i64 0, .int .i64 0, .int .i64 0, .int .i64 0, .int .i64 0, .int .i64 0, .int .i64 0, .int .i64 0, .int .i64 0, .int .i64 0] 112 (x0.alloc (.cells #[.int .i64 0, .int .i64 0, .int .i64 0, .int .i64 0, .int .i64 0, .int .i64 0, .int .i64 0, .int .i64 0, .int .i64 0, .int .i64 0, .int .i64 0] 112)) := Blk.new x0 [.int .i64 0, .int .i64 0, .int .i64 0, .int .i64 0, .int .i64 0, .int .i64 0, .int .i64 0, .int .i64 0, .int .i64 0, .int .i64 0, .int .i64 0] 112
          have leA : u6.heap.size ≤ x0.heap.size := hst.out.size
          refine hK _ _ hst2 ?_
          clear hK K hst
          have hst := hst2
          clear hst2
          generalize x0.alloc (.cells #[.int .i64 0, .int .i64 0, .int .i64 0, .int .i64 0, .int .i64 0, .int .i64 0, .int .i64 0, .int .i64 0, .int .i64 0, .int .i64 0, .int .i64 0] 112) = xa at *
          refine any_rest [(4, false), (8, false), (10, false)] (by kernel_rfl) (fun _ _ d _ _ h => by cases d <;> exact h) ?_
          refine line_alone rfl (by kernel_rfl) (fun K hK => ?_)
          refine call_any (args := #[.slice a0 len0 cap0, .int .i64 7, .int .i64 65521]) rfl (by kernel_rfl) (by kernel_rfl) (lwAt_any 7 65521 _ _ _ _ _ _ (R6.on hst.out) (by omega)) ?_
          rintro e kw1 ⟨d2, m3, m4, rfl, hbn⟩
          have hst2 := hst.on hbn
          have A2 := A.on hbn
          clear A
          have A := A2
          clear A2
          refine ⟨_, rfl, hK _ _ hst2 ?_⟩
          clear hK K hst hbn
          have hst := hst2
          clear hst2
          simp only [Act.put, List.setIfInBounds_toArray, List.set_cons_zero, List.set_cons_succ]
          refine line_alone rfl (by kernel_rfl) (fun K hK => ?_)
          obtain ⟨t, hT, AN⟩ := ANS s2 d2 m1 m2 m3 m4
          refine call_any (args := #[.int .i64 iv, .int .i64 s2, .int .i64 d2, .agg #[.int .i64 K2, .int .i64 K3, .string N]]) rfl (by kernel_rfl) (by kernel_rfl) (AN _ (L6.on hst.out) (E6.on hst.out)) ?_
          rintro e kw2 ⟨rfl, hbn⟩
          have hst2 := hst.on hbn
          have A2 := A.on hbn
          clear A
          have A := A2
          clear A2
          refine ⟨_, rfl, hK _ _ hst2 ?_⟩
          clear hK K hst hbn
          have hst := hst2
          clear hst2
          simp only [Act.put, List.setIfInBounds_toArray, List.set_cons_zero, List.set_cons_succ]
          refine line_alone rfl (by kernel_rfl) (fun K hK => ?_)
          refine wp_store_row 112 (.tmp 13) (.tmp 78) rfl x0.heap.size #[.int .i64 t.c, .int .i64 t.r, .int .i64 t.s, .int .i64 t.p, .int .i64 t.x, .int .i64 t.y, .int .i64 t.f, .int .i64 t.u, .int .i64 t.d, .int .i64 t.h, .int .i64 t.k] rfl rfl 112 _ A (by kernel_rfl) rfl (by simp [Value.oneCell']) ?_
          have A9 := (A.row [.int .i64 t.c, .int .i64 t.r, .int .i64 t.s, .int .i64 t.p, .int .i64 t.x, .int .i64 t.y, .int .i64 t.f, .int .i64 t.u, .int .i64 t.d, .int .i64 t.h, .int .i64 t.k]).cells
          have B9 := below_row hst.out leA #[.int .i64 t.c, .int .i64 t.r, .int .i64 t.s, .int .i64 t.p, .int .i64 t.x, .int .i64 t.y, .int .i64 t.f, .int .i64 t.u, .int .i64 t.d, .int .i64 t.h, .int .i64 t.k]
          refine hK _ _ ⟨B9⟩ ?_
          clear hK K hst A
          refine line_nil ?_
          have HB := Lib.hid B9
          clear B9
          go_wp2_with fail
          go_meet
          case rel => exact ⟨t, hT, _, rfl, A9, HB.out, leA⟩
      · go_big_op
        have hst2 := hst.on (bal (Below.refl _ V1) (.cells #[.int .i64 0, .int .i64 0, .int .i64 0, .int .i64 0, .int .i64 0, .int .i64 0, .int .i64 0, .int .i64 0, .int .i64 0, .int .i64 0, .int .i64 0] 112))
        have A : Blk V1.heap.size [.int .i64 0, .int .i64 0, .int .i64 0, .int .i64 0, .int .i64 0, .int .i64 0, .int .i64 0, .int .i64 0, .int .i64 0, .int .i64 0, .int .i64 0] 112 (V1.alloc (.cells #[.int .i64 0, .int .i64 0, .int .i64 0, .int .i64 0, .int .i64 0, .int .i64 0, .int .i64 0, .int .i64 0, .int .i64 0, .int .i64 0, .int .i64 0] 112)) := Blk.new V1 [.int .i64 0, .int .i64 0, .int .i64 0, .int .i64 0, .int .i64 0, .int .i64 0, .int .i64 0, .int .i64 0, .int .i64 0, .int .i64 0, .int .i64 0] 112
        have leA : u6.heap.size ≤ V1.heap.size := hst.out.size
        refine hK _ _ hst2 ?_
        clear hK K hst
        have hst := hst2
        clear hst2
        generalize V1.alloc (.cells #[.int .i64 0, .int .i64 0, .int .i64 0, .int .i64 0, .int .i64 0, .int .i64 0, .int .i64 0, .int .i64 0, .int .i64 0, .int .i64 0, .int .i64 0] 112) = xa at *
        refine any_rest [(2, false), (4, false), (8, false), (10, false)] (by kernel_rfl) (fun _ _ d _ _ h => by cases d <;> exact h) ?_
        refine line_alone rfl (by kernel_rfl) (fun K hK => ?_)
        refine call_any (args := #[.slice a0 len0 cap0, .int .i64 5]) rfl (by kernel_rfl) (by kernel_rfl) (lwSecret_any 5 (R6.on hst.out) (by omega)) ?_
        rintro e kw0 ⟨s2, m1, m2, rfl, hbn⟩
        have hst2 := hst.on hbn
        have A2 := A.on hbn
        clear A
        have A := A2
        clear A2
        refine ⟨_, rfl, hK _ _ hst2 ?_⟩
        clear hK K hst hbn
        have hst := hst2
        clear hst2
        simp only [Act.put, List.setIfInBounds_toArray, List.set_cons_zero, List.set_cons_succ]
        refine line_alone rfl (by kernel_rfl) (fun K hK => ?_)
        refine call_any (args := #[.slice a0 len0 cap0, .int .i64 7, .int .i64 65521]) rfl (by kernel_rfl) (by kernel_rfl) (lwAt_any 7 65521 _ _ _ _ _ _ (R6.on hst.out) (by omega)) ?_
        rintro e kw1 ⟨d2, m3, m4, rfl, hbn⟩
        have hst2 := hst.on hbn
        have A2 := A.on hbn
        clear A
        have A := A2
        clear A2
        refine ⟨_, rfl, hK _ _ hst2 ?_⟩
        clear hK K hst hbn
        have hst := hst2
        clear hst2
        simp only [Act.put, List.setIfInBounds_toArray, List.set_cons_zero, List.set_cons_succ]
        refine line_alone rfl (by kernel_rfl) (fun K hK => ?_)
        obtain ⟨t, hT, AN⟩ := ANS s2 d2 m1 m2 m3 m4
        refine call_any (args := #[.int .i64 iv, .int .i64 s2, .int .i64 d2, .agg #[.int .i64 K2, .int .i64 K3, .string N]]) rfl (by kernel_rfl) (by kernel_rfl) (AN _ (L6.on hst.out) (E6.on hst.out)) ?_
        rintro e kw2 ⟨rfl, hbn⟩
        have hst2 := hst.on hbn
        have A2 := A.on hbn
        clear A
        have A := A2
        clear A2
        refine ⟨_, rfl, hK _ _ hst2 ?_⟩
        clear hK K hst hbn
        have hst := hst2
        clear hst2
        simp only [Act.put, List.setIfInBounds_toArray, List.set_cons_zero, List.set_cons_succ]
        refine line_alone rfl (by kernel_rfl) (fun K hK => ?_)
        refine wp_store_row 112 (.tmp 13) (.tmp 78) rfl V1.heap.size #[.int .i64 t.c, .int .i64 t.r, .int .i64 t.s, .int .i64 t.p, .int .i64 t.x, .int .i64 t.y, .int .i64 t.f, .int .i64 t.u, .int .i64 t.d, .int .i64 t.h, .int .i64 t.k] rfl rfl 112 _ A (by kernel_rfl) rfl (by simp [Value.oneCell']) ?_
        have A9 := (A.row [.int .i64 t.c, .int .i64 t.r, .int .i64 t.s, .int .i64 t.p, .int .i64 t.x, .int .i64 t.y, .int .i64 t.f, .int .i64 t.u, .int .i64 t.d, .int .i64 t.h, .int .i64 t.k]).cells
        have B9 := below_row hst.out leA #[.int .i64 t.c, .int .i64 t.r, .int .i64 t.s, .int .i64 t.p, .int .i64 t.x, .int .i64 t.y, .int .i64 t.f, .int .i64 t.u, .int .i64 t.d, .int .i64 t.h, .int .i64 t.k]
        refine hK _ _ ⟨B9⟩ ?_
        clear hK K hst A
        refine line_nil ?_
        have HB := Lib.hid B9
        clear B9
        go_wp2_with fail
        go_meet
        case rel => exact ⟨t, hT, _, rfl, A9, HB.out, leA⟩
    case rest =>
      rename World => wx
      obtain ⟨t, hT, g, rfl, A7, b7, hg⟩ := hcut
      obtain ⟨tc, tr, ts, tp, tx, ty, tf, tu, td, th, tk⟩ := t
      have h1 := hT.code
      have h2 := hT.key
      have h3 := hT.rep
      have h4 := hT.heard
      have h5 := hT.taken
      dsimp only at h1 h2 h3 h4 h5
      subst h1
      have TR := fun w L E => implTakeReply_any K1 K2 K3 N tr ts tp tx ty tf w L E hNm
      rw [h5] at TR
      obtain ⟨e1, e2⟩ := hea_yes (x := tx) (y := ty) (f := tf) hhel h3
      rw [h4] at e2
      have HE := fun w L E => implHeardOf_any N K2 K3 tr ts tp tx ty tf w L E hNm
      rw [e1, e2] at HE
      rw [← h2] at KO
      clear e1 e2 h2 h3 h4 h5 hT hhel hcl hNs hNm ANS
      have C7 := C6.on b7
      have L7 := L6.on b7
      have E7 := E6.on b7
      have B7 := btr B6 b7
      clear b7 C6 L6 E6 B6 R6 cc0 cc1 cc2 cc3 cc4
      have cc0 := C7.cell 0 _ rfl
      have cc1 := C7.cell 1 _ rfl
      have cc2 := C7.cell 2 _ rfl
      have cc3 := C7.cell 3 _ rfl
      have cc4 := C7.cell 4 _ rfl
      have aa0 := A7.cell 0 _ rfl
      have aa1 := A7.cell 1 _ rfl
      have aa2 := A7.cell 2 _ rfl
      have aa3 := A7.cell 3 _ rfl
      have aa4 := A7.cell 4 _ rfl
      have aa5 := A7.cell 5 _ rfl
      have aa6 := A7.cell 6 _ rfl
      have aa7 := A7.cell 7 _ rfl
      have aa8 := A7.cell 8 _ rfl
      have aa9 := A7.cell 9 _ rfl
      have aa10 := A7.cell 10 _ rfl
      go_wp2_with fail
      refine (TR _ L7 E7).mono ?_
      rintro e u8 ⟨rfl, b8⟩
      have D8 := At.new u8 [.int .i64 0, .int .i64 tr, .int .i64 ts, .int .i64 tp, .int .i64 tx, .int .i64 ty, .int .i64 tf, .int .i64 tu, .int .i64 td, .int .i64 th, .int .i64 tk] 112
      have c8 := bal b8 (.cells #[.int .i64 0, .int .i64 tr, .int .i64 ts, .int .i64 tp, .int .i64 tx, .int .i64 ty, .int .i64 tf, .int .i64 tu, .int .i64 td, .int .i64 th, .int .i64 tk] 112)
      have C8 := C7.on c8
      have L8 := L7.on c8
      have E8 := E7.on c8
      have A8 := A7.on c8
      have B8 := btr B7 c8
      clear b8 c8 C7 L7 E7 A7 B7 cc0 cc1 cc2 cc3 cc4 aa0 aa1 aa2 aa3 aa4 aa5 aa6 aa7 aa8 aa9 aa10 TR
      go_upto_region 14 with fail
      generalize u8.alloc (.cells #[.int .i64 0, .int .i64 tr, .int .i64 ts, .int .i64 tp, .int .i64 tx, .int .i64 ty, .int .i64 tf, .int .i64 tu, .int .i64 td, .int .i64 th, .int .i64 tk] 112) = W8 at *
      have cc0 := C8.cell 0 _ rfl
      have cc1 := C8.cell 1 _ rfl
      have cc2 := C8.cell 2 _ rfl
      have cc3 := C8.cell 3 _ rfl
      have cc4 := C8.cell 4 _ rfl
      have aa0 := A8.cell 0 _ rfl
      have aa1 := A8.cell 1 _ rfl
      have aa2 := A8.cell 2 _ rfl
      have aa3 := A8.cell 3 _ rfl
      have aa4 := A8.cell 4 _ rfl
      have aa5 := A8.cell 5 _ rfl
      have aa6 := A8.cell 6 _ rfl
      have aa7 := A8.cell 7 _ rfl
      have aa8 := A8.cell 8 _ rfl
      have aa9 := A8.cell 9 _ rfl
      have aa10 := A8.cell 10 _ rfl
      have dd0 := D8.cell 0 _ rfl
      have dd1 := D8.cell 1 _ rfl
      have dd2 := D8.cell 2 _ rfl
      have dd3 := D8.cell 3 _ rfl
      have dd4 := D8.cell 4 _ rfl
      have dd5 := D8.cell 5 _ rfl
      have dd6 := D8.cell 6 _ rfl
      have dd7 := D8.cell 7 _ rfl
      have dd8 := D8.cell 8 _ rfl
      have dd9 := D8.cell 9 _ rfl
      have dd10 := D8.cell 10 _ rfl
      refine wp_region_line (Bel W8) [(0, true), (1, true), (2, false), (3, true), (4, true), (5, true), (6, true), (7, true), (8, true), (9, true), (10, true), (11, true), (12, true), (13, true), (14, true), (15, true), (16, true), (17, true), (18, true), (19, true), (20, true), (21, true), (22, true), (23, true), (24, true), (25, true), (26, false), (27, true), (28, true), (29, true), (30, true), (31, true), (32, true), (33, true), (34, true), (35, true), (36, true), (37, true), (38, true), (39, true), (40, false), (41, true), (42, true), (43, true), (44, true)] (by kernel_rfl) (by kernel_rfl) (fun _ _ d _ _ h => by cases d <;> exact h) (Bel.drew W8) ?_
      have hst := Bel.drew W8
      have inst : Nonempty (Of (Bel W8)) := ⟨⟨_, hst⟩⟩
      have qc1 := bel_cell cc1
      have qc2 := bel_cell cc2
      have qc3 := bel_cell cc3
      have qc4 := bel_cell cc4
      have qa0 := bel_cell aa0
      have qa1 := bel_cell aa1
      have qa2 := bel_cell aa2
      have qa3 := bel_cell aa3
      have qa4 := bel_cell aa4
      have qa5 := bel_cell aa5
      have qa6 := bel_cell aa6
      have qa7 := bel_cell aa7
      have qa8 := bel_cell aa8
      have qa9 := bel_cell aa9
      have qa10 := bel_cell aa10
      have qd0 := bel_cell dd0
      have qd7 := bel_cell dd7
      have qd8 := bel_cell dd8
      have qd9 := bel_cell dd9
      have qd10 := bel_cell dd10
      clear cc0 cc1 cc2 cc3 cc4 aa0 aa1 aa2 aa3 aa4 aa5 aa6 aa7 aa8 aa9 aa10 dd0 dd1 dd2 dd3 dd4 dd5 dd6 dd7 dd8 dd9 dd10 C8 A8 D8
      generalize W8.drew = V8 at *
      iterate 2 (refine line_read rfl (by kernel_rfl) (fun K hK => ?_); go_big_quiet_op; refine hK _ ?_; clear hK K)
      refine line_alone rfl (by kernel_rfl) (fun K hK => ?_)
      refine call_wp (args := #[.agg #[.int .i64 K1, .int .i64 K2, .int .i64 K3, .string N]]) rfl (by kernel_rfl) (by kernel_rfl) (CF _) (fun wn hbn => ?_)
      have hst2 := hst.on hbn
      refine hK _ _ hst2 ?_
      clear hK K hst hbn
      have hst := hst2
      clear hst2
      simp only [Act.put, List.setIfInBounds_toArray, List.set_cons_zero, List.set_cons_succ]
      iterate 23 (refine line_read rfl (by kernel_rfl) (fun K hK => ?_); go_big_quiet_op; refine hK _ ?_; clear hK K)
      refine line_alone rfl (by kernel_rfl) (fun K hK => ?_)
      refine call_wp (args := #[.int .i64 iv]) rfl (by kernel_rfl) (by kernel_rfl) (KO _) (fun wn hbn => ?_)
      have hst2 := hst.on hbn
      refine hK _ _ hst2 ?_
      clear hK K hst hbn
      have hst := hst2
      clear hst2
      simp only [Act.put, List.setIfInBounds_toArray, List.set_cons_zero, List.set_cons_succ]
      iterate 13 (refine line_read rfl (by kernel_rfl) (fun K hK => ?_); go_big_quiet_op; refine hK _ ?_; clear hK K)
      refine line_alone rfl (by kernel_rfl) (fun K hK => ?_)
      refine call_wp (args := #[.agg #[.int .i64 K2, .int .i64 K3, .string N], .agg #[.int .i64 tr, .int .i64 ts, .int .i64 tp, .int .i64 tx, .int .i64 ty, .int .i64 tf]]) rfl (by kernel_rfl) (by kernel_rfl) (HE _ (L8.on hst.out) (E8.on hst.out)) (fun wn hbn => ?_)
      have hst2 := hst.on hbn
      refine hK _ _ hst2 ?_
      clear hK K hst hbn
      have hst := hst2
      clear hst2
      simp only [Act.put, List.setIfInBounds_toArray, List.set_cons_zero, List.set_cons_succ]
      iterate 4 (refine line_read rfl (by kernel_rfl) (fun K hK => ?_); go_big_quiet_op; refine hK _ ?_; clear hK K)
      refine line_nil ?_
      have hb := btr B8 hst.out
      clear hst inst
      go_wp2_with fail
      go_ret
      exact ⟨rfl, hb⟩
  · have e3 : (cd != 0) = true := by simpa using h0
    have e4 : decide (cd = 0) = false := by simpa using h0
    have e5 : (cd == 0) = false := by simpa using h0
    clear HS L5 E5 R5
    go_wp2_with fail
    refine wp_region_line (Bel W5) [(0, true), (1, true), (2, true), (5, true), (6, true), (3, false), (4, true), (7, true), (8, true)] (by kernel_rfl) (by kernel_rfl) (fun _ _ d _ _ h => by cases d <;> exact h) (Bel.drew W5) ?_
    have hst := Bel.drew W5
    have inst : Nonempty (Of (Bel W5)) := ⟨⟨_, hst⟩⟩
    have qc0 := bel_cell cc0
    generalize W5.drew = V5 at *
    iterate 5 (refine line_read rfl (by kernel_rfl) (fun K hK => ?_); go_big_quiet_op; refine hK _ ?_; clear hK K)
    refine line_alone rfl (by kernel_rfl) (fun K hK => ?_)
    refine call_wp (args := #[.int .i64 k, .int .i64 rd, .string n]) rfl (by kernel_rfl) (by kernel_rfl) (SS _) (fun wn hbn => ?_)
    have hst2 := hst.on hbn
    refine hK _ _ hst2 ?_
    clear hK K hst hbn
    have hst := hst2
    clear hst2
    simp only [Act.put, List.setIfInBounds_toArray, List.set_cons_zero, List.set_cons_succ]
    iterate 3 (refine line_read rfl (by kernel_rfl) (fun K hK => ?_); go_big_quiet_op; refine hK _ ?_; clear hK K)
    refine line_nil ?_
    have hb := btr B5 hst.out
    clear hst inst
    go_wp2_with fail
    go_ret
    exact ⟨rfl, hb⟩

end Go.Proofs.YtlodhleihnlchaaGreatDoor.fnHandshakes
