/- A name is normal from once on; a supplied key is read back, and is that of its name, at every input that is drawn out of whatever bytes. The walk: the law's Go text answers true and turns nothing that was there. Conditions: as the theorem states. -/
import Derived.Test.YtdkgiiikcapjcaaDoorD5c
import Derived.Test.YtdkgiiikcapjcaaDoorD5d
import Derived.Test.YtdkgiiikcapjcaaDoorD2b
import Derived.Test.YtdkgiiikcapjcaaDoorL5
import Derived.Test.YtdkgiiikcapjcaaDoorSegFnNames
import Derived.WalkKit
import Derived.Below
namespace Go.Proofs.YtdkgiiikcapjcaaDoor.fnNames
open Go.RowKit
set_option linter.unusedVariables false

/-- Nothing of it has turned, and what was told is false. -/
def WentOn (W : World) (v : Value) (wx : World) : Prop := v = .bool false ∧ Below W.heap.size W wx
set_option maxHeartbeats 6400000 in
set_option maxRecDepth 100000 in
theorem walk (a0 : Option Addr) (len0 cap0 : Nat) (z0 : List Int) (w : World) (w0 : Row .u8 w w.heap.size a0 len0 cap0 z0) (lab : Labels w) :
    Calls Tryd.prog 3 #[.slice a0 len0 cap0] w fun e w' => e = .returned (.bool true) ∧ Below w.heap.size w w' := by
  have hl := w0.fits
  have hm := w0.most
  unfold maxLen at hm
  by_cases hbig : 1048576 < len0
  · have hB : decide (1048576 < len0) = true := by simp [hbig]
    go_enter Tryd.func3, Tryd.ntmps3
    go_wp2_with fail
    refine (lwBig_any _ _ _ _ (by omega)).mono ?_
    rintro r w' ⟨rfl, rfl⟩
    go_wp2_with fail
    go_ret
    exact ⟨rfl, Below.refl _ _⟩
  have hB : decide (1048576 < len0) = false := by simp [hbig]
  have g0 := tx1
  have g1 := tr0
  have g2 := tr1
  have g3 := by1
  go_enter Tryd.func3, Tryd.ntmps3
  go_wp2_with fail
  refine (lwBig_any _ _ _ _ (by omega)).mono ?_
  rintro r w' ⟨rfl, rfl⟩
  go_wp2_with fail
  refine (DrawNormalName_any w0).mono ?_
  rintro r u1 ⟨s, rfl, hs, b1⟩
  have hsm : s.size ≤ maxLen := by simp only [maxLen]; omega
  have hT : (M.bs (M.nrmT s.data.toList)).size ≤ maxLen := by
    have h1 := M.nrm_length s.data.toList
    have h2 : s.data.toList.length = s.size := by simp
    rw [M.bs_size]
    simp only [maxLen]
    unfold M.nrmT
    split
    · omega
    · simp
  have NI := fun w => implNormalName_any s w hsm
  have NS := fun w => specNormalName_any s w hsm
  have FI := fun w => implNameFault_any s w hsm
  have FS := fun w => specNameFault_any s w hsm
  have NI2 := fun w => implNormalName_any (M.bs (M.nrmT s.data.toList)) w hT
  have FI2 := fun w => implNameFault_any (M.bs (M.nrmT s.data.toList)) w hT
  have FN : ¬ M.nameF s.data.toList = 0 ∨ (M.nameF s.data.toList = 0 ∧ M.nameF (M.nrmT s.data.toList) = 0 ∧ M.bs (M.nrmT (M.nrmT s.data.toList)) = M.bs (M.nrmT s.data.toList)) := by
    rcases name_cases s.data.toList with h | ⟨h1, h2, h3⟩
    · exact .inl h
    · exact .inr ⟨h1, h2, by rw [h3]⟩
  rw [M.bs_list] at NI2 FI2
  generalize M.bs (M.nrmT (M.nrmT s.data.toList)) = T2 at *
  generalize M.nameF (M.nrmT s.data.toList) = c2 at *
  generalize M.bs (M.nrmT s.data.toList) = T at *
  generalize M.nameF s.data.toList = c at *
  have HFN := Lib.hid FN
  clear FN hT hsm
  go_wp2_with fail
  refine (NI _).mono ?_
  rintro r u2 ⟨rfl, b2⟩
  have b2a := bal b2 (.cells #[.int .i64 c, .string T] 26)
  have AN := At.new u2 [.int .i64 c, .string T] 26
  have B2 := btr b1 b2a
  clear b1 b2 b2a NI
  go_wp2_with fail
  generalize u2.alloc (.cells #[.int .i64 c, .string T] 26) = v2 at *
  refine (DrawReadTlsa_any (w0.on B2)).mono ?_
  rintro r u3 ⟨aD, nD, cD, zD, rfl, hnD, RD, b3⟩
  have AN3 := AN.on b3
  have B3 := btr B2 b3
  clear AN B2 b3
  have RI := fun w hR => implReadTlsa_any aD nD cD w.heap.size zD w hR (Nat.le_refl _)
  have SR := fun w hR => specReadTlsa_any aD nD cD w.heap.size zD w hR (Nat.le_refl _)
  unfold keyT at RI SR
  have FK := keyT_cases RD.bytes
  have hkn : (M.bs (if keyOk zD = true then keyNm zD else [])).size ≤ maxLen := by
    rw [M.bs_size]
    simp only [maxLen]
    split
    · have := RD.length
      simp only [keyNm, List.length_map, List.length_drop]
      omega
    · simp
  have PK := fun w => implPackTlsa_any (M.bs (if keyOk zD = true then keyNm zD else [])) (if keyOk zD = true then zD.getD 0 0 else 0) (if keyOk zD = true then zD.getD 1 0 else 0) (if keyOk zD = true then 256 * zD.getD 2 0 + zD.getD 3 0 else 0) w hkn
  generalize (if keyOk zD = true then (0 : Int) else 5) = e at *
  generalize M.bs (if keyOk zD = true then keyNm zD else []) = kn at *
  generalize (if keyOk zD = true then zD.getD 0 0 else 0) = ku at *
  generalize (if keyOk zD = true then zD.getD 1 0 else 0) = km at *
  generalize (if keyOk zD = true then 256 * zD.getD 2 0 + zD.getD 3 0 else 0) = kv at *
  have HFK := Lib.hid FK
  clear FK hkn
  go_wp2_with fail
  refine (RI _ RD).mono ?_
  rintro r u4 ⟨rfl, b4⟩
  have b4a := bal b4 (.cells #[.int .i64 e, .string kn, .int .i64 ku, .int .i64 km, .int .i64 kv] 32)
  have AU := At.new u4 (TL5 e kn ku km kv) 32
  have AN4 := AN3.on b4a
  have RD4 := RD.on b4a
  have B4 := btr B3 b4a
  clear AN3 B3 RD b4 b4a RI
  go_wp2_with fail
  generalize u4.alloc (.cells #[.int .i64 e, .string kn, .int .i64 ku, .int .i64 km, .int .i64 kv] 32) = v4 at *
  refine (DrawPackTlsa_any (w0.on B4)).mono ?_
  rintro r u5 ⟨tn, tu, tm, tv, rfl, htn, b5⟩
  have b5a := bal b5 (.cells #[.string tn, .int .i64 tu, .int .i64 tm, .int .i64 tv] 30)
  have AT := At.new u5 (TL4 tn tu tm tv) 30
  have AN5 := AN4.on b5a
  have RD5 := RD4.on b5a
  have AU5 := AU.on b5a
  have B5 := btr B4 b5a
  clear AN4 RD4 AU B4 b5 b5a
  have htm : tn.size ≤ maxLen := by simp only [maxLen]; omega
  have PI := fun w => implPackTlsa_any tn tu tm tv w htm
  have TI := fun w => implTlsaFault_any tn tu tm tv w htm
  have TS := fun w => specTlsaFault_any tn tu tm tv w htm
  have FT : ¬ M.tlsaF tn.data.toList tu tm tv = 0 ∨ (M.tlsaF tn.data.toList tu tm tv = 0 ∧ keyT (packTL tn tu tm tv) = T5 0 tn tu tm tv) := by
    by_cases h : M.tlsaF tn.data.toList tu tm tv = 0
    · exact .inr ⟨h, by rw [show packTL tn tu tm tv = packT tn tu tm tv by simp [packTL, h]]; exact read_pack h⟩
    · exact .inl h
  have HWp := Lib.hid (show ∀ z ∈ packTL tn tu tm tv, (Lit.int .u8 z).wf = true from fun z hz => by
    unfold packTL at hz
    split at hz
    · rename_i h; exact byte_wf (packT_byte h z hz)
    · cases hz)
  have IR := fun a n c B w hR hB => implReadTlsa_any a n c B (packTL tn tu tm tv) w hR hB
  generalize packTL tn tu tm tv = yl at *
  generalize M.tlsaF tn.data.toList tu tm tv = f at *
  have HFT := Lib.hid FT
  clear FT htm
  go_wp2_with fail
  generalize u5.alloc (.cells #[.string tn, .int .i64 tu, .int .i64 tm, .int .i64 tv] 30) = v5 at *
  refine (PI _).mono ?_
  rintro r u6 ⟨aP, nP, cP, rfl, OP, b6⟩
  have b6a := bal b6 (.cells #[.int .i64 f, .slice aP nP cP] 36)
  have AP := At.new u6 [.int .i64 f, .slice aP nP cP] 36
  have RP := (Own.row OP HWp.out).on (bal (Below.refl _ u6) (.cells #[.int .i64 f, .slice aP nP cP] 36))
  have AN6 := AN5.on b6a
  have RD6 := RD5.on b6a
  have AU6 := AU5.on b6a
  have AT6 := AT.on b6a
  have B6 := btr B5 b6a
  clear AN5 RD5 AU5 AT B5 b6 b6a OP PI HWp
  go_wp2_with fail
  generalize u6.alloc (.cells #[.int .i64 f, .slice aP nP cP] 36) = v6 at *
  refine (DrawMatchesTlsa_any (w0.on B6)).mono ?_
  rintro r u7 ⟨mn, mu, mm, mv, ms, mx, rfl, hmn, hms, b7⟩
  have b7a := bal b7 (.cells #[.string mn, .int .i64 mu, .int .i64 mm, .int .i64 mv] 30)
  have AM9 := At.new u7 (TL4 mn mu mm mv) 30
  have AN9 := AN6.on b7a
  have RD9 := RD6.on b7a
  have AU9 := AU6.on b7a
  have AT9 := AT6.on b7a
  have AP9 := AP.on b7a
  have RP9 := RP.on b7a
  have B9 := btr B6 b7a
  clear AN6 RD6 AU6 AT6 AP RP B6 b7 b7a
  have MI := fun w lab => implMatchesTlsa_any mn mu mm mv ms mx w lab (by simp only [maxLen]; omega)
  have MS := fun w => specMatchesTlsa_any mn mu mm mv ms mx w (by simp only [maxLen]; omega) (by simp only [maxLen]; omega)
  generalize M.matchB mn.data.toList mu mm mv ms.data.toList (pubB mx) mx = mb at *
  clear hmn hms
  go_upto_region 10 with fail
  generalize u7.alloc (.cells #[.string mn, .int .i64 mu, .int .i64 mm, .int .i64 mv] 30) = W at *
  simp only [List.append_eq, List.cons_append, List.nil_append]
  go_cut [135] from 36 to 135 (fun v wx => WentOn W v wx)
  case first =>
    clear hl hm hbig hB hnD htn hs
    refine wp_region_pieces (Bel W) [(0, true), (1, true), (2, true), (3, false), (4, true), (5, true), (6, true), (7, true), (8, true), (9, false), (10, true), (11, true), (12, true), (13, true), (14, true), (15, true), (16, true), (17, true), (18, true), (21, true), (22, true), (19, false), (20, true), (23, true), (24, true), (25, true), (26, true), (27, false), (28, true), (29, true), (30, true), (31, true), (32, true), (33, true), (34, false), (35, true), (36, true), (37, true), (38, true), (39, true), (40, true), (41, true), (42, true), (43, true), (44, false), (45, true), (46, true), (47, true), (48, true), (49, true), (50, true), (51, true), (52, true), (53, true), (54, true), (57, true), (55, false), (56, true), (58, false), (59, true), (60, true), (61, true), (62, true), (63, true), (64, true), (65, true), (66, false), (67, true), (68, true), (69, true), (70, true), (71, true), (72, true), (73, false), (74, true), (75, true), (76, true), (77, true), (78, true), (79, true), (80, true), (81, true), (82, true), (85, true), (83, false), (84, true), (86, true), (87, true), (88, true), (89, true), (90, true), (91, true), (92, true), (94, true), (95, true), (96, true), (93, false), (97, false), (98, true), (99, true)] ops L0 L10 (by kernel_rfl) (by kernel_rfl) noSel rfl start line done (fun _ _ d _ _ h => by cases d <;> exact h) (Bel.drew W) ?_
    have hst := Bel.drew W
    have inst : Nonempty (Of (Bel W)) := ⟨⟨_, hst⟩⟩
    have x0 := bel_cell (AN9.cell 0 _ rfl)
    iterate 3 (refine line_read rfl (by kernel_rfl) (fun K hK => ?_); go_big_quiet_op; refine hK _ ?_; clear hK K)
    refine line_alone rfl (by kernel_rfl) (fun K hK => ?_)
    refine call_wp (args := #[.string s]) rfl (by kernel_rfl) (by kernel_rfl) (FI _) (fun wn hbn => ?_)
    subst hbn
    refine hK _ _ hst ?_
    clear hK K
    simp only [Act.put, List.setIfInBounds_toArray, List.set_cons_zero, List.set_cons_succ]
    iterate 5 (refine line_read rfl (by kernel_rfl) (fun K hK => ?_); go_big_quiet_op; refine hK _ ?_; clear hK K)
    refine line_alone rfl (by kernel_rfl) (fun K hK => ?_)
    refine call_wp (args := #[.string s]) rfl (by kernel_rfl) (by kernel_rfl) (FS _) (fun wn hbn => ?_)
    have hst2 := hst.on hbn
    refine hK _ _ hst2 ?_
    clear hK K hst hbn
    have hst := hst2
    clear hst2
    simp only [Act.put, List.setIfInBounds_toArray, List.set_cons_zero, List.set_cons_succ]
    iterate 5 (refine line_read rfl (by kernel_rfl) (fun K hK => ?_); go_big_quiet_op; refine hK _ ?_; clear hK K)
    rcases HFN.out with h | ⟨h, h1, h2⟩
    · have h' : (c == 0) = false := by rw [beq_eq_false_iff_ne]; exact h
      clear NI2 FI2 NS HFN
      iterate 2 (refine line_read rfl (by kernel_rfl) (fun K hK => ?_); go_big_quiet_op; refine hK _ ?_; clear hK K)
      iterate 21 (refine line_skip rfl (by kernel_rfl) ?_; simp only [Act.put, List.setIfInBounds_toArray, List.set_cons_zero, List.set_cons_succ])
      clear x0
      have q0 := bel_cell (AU9.cell 0 _ rfl)
      iterate 6 (refine line_read rfl (by kernel_rfl) (fun K hK => ?_); go_big_quiet_op; refine hK _ ?_; clear hK K)
      refine line_alone rfl (by kernel_rfl) (fun K hK => ?_)
      refine call_wp (args := #[.slice aD nD cD]) rfl (by kernel_rfl) (by kernel_rfl) (SR _ (RD9.on hst.out)) (fun wn hbn => ?_)
      have hst2 := hst.on hbn
      refine hK _ _ hst2 ?_
      clear hK K hst hbn
      have hst := hst2
      clear hst2
      simp only [Act.put, List.setIfInBounds_toArray, List.set_cons_zero, List.set_cons_succ]
      iterate 6 (refine line_read rfl (by kernel_rfl) (fun K hK => ?_); go_big_quiet_op; refine hK _ ?_; clear hK K)
      rcases HFK.out with h | ⟨h, h1, h2⟩
      · subst h
        clear HFK PK
        iterate 2 (refine line_read rfl (by kernel_rfl) (fun K hK => ?_); go_big_quiet_op; refine hK _ ?_; clear hK K)
        iterate 7 (refine line_skip rfl (by kernel_rfl) ?_; simp only [Act.put, List.setIfInBounds_toArray, List.set_cons_zero, List.set_cons_succ])
        clear q0
        have p0 := bel_cell (AP9.cell 0 _ rfl)
        have t0 := bel_cell (AT9.cell 0 _ rfl)
        have t1 := bel_cell (AT9.cell 1 _ rfl)
        have t2 := bel_cell (AT9.cell 2 _ rfl)
        have t3 := bel_cell (AT9.cell 3 _ rfl)
        have m0 := bel_cell (AM9.cell 0 _ rfl)
        have m1 := bel_cell (AM9.cell 1 _ rfl)
        have m2 := bel_cell (AM9.cell 2 _ rfl)
        have m3 := bel_cell (AM9.cell 3 _ rfl)
        iterate 6 (refine line_read rfl (by kernel_rfl) (fun K hK => ?_); go_big_quiet_op; refine hK _ ?_; clear hK K)
        refine line_alone rfl (by kernel_rfl) (fun K hK => ?_)
        refine call_wp (args := #[T4 tn tu tm tv]) rfl (by kernel_rfl) (by kernel_rfl) (TI _) (fun wn hbn => ?_)
        have hst2 := hst.on hbn
        refine hK _ _ hst2 ?_
        clear hK K hst hbn
        have hst := hst2
        clear hst2
        simp only [Act.put, List.setIfInBounds_toArray, List.set_cons_zero, List.set_cons_succ]
        iterate 6 (refine line_read rfl (by kernel_rfl) (fun K hK => ?_); go_big_quiet_op; refine hK _ ?_; clear hK K)
        refine line_alone rfl (by kernel_rfl) (fun K hK => ?_)
        refine call_wp (args := #[T4 tn tu tm tv]) rfl (by kernel_rfl) (by kernel_rfl) (TS _) (fun wn hbn => ?_)
        have hst2 := hst.on hbn
        refine hK _ _ hst2 ?_
        clear hK K hst hbn
        have hst := hst2
        clear hst2
        simp only [Act.put, List.setIfInBounds_toArray, List.set_cons_zero, List.set_cons_succ]
        iterate 5 (refine line_read rfl (by kernel_rfl) (fun K hK => ?_); go_big_quiet_op; refine hK _ ?_; clear hK K)
        rcases HFT.out with h | ⟨h, hk⟩
        · have h' : (f == 0) = false := by rw [beq_eq_false_iff_ne]; exact h
          clear HFT
          iterate 2 (refine line_read rfl (by kernel_rfl) (fun K hK => ?_); go_big_quiet_op; refine hK _ ?_; clear hK K)
          iterate 6 (refine line_skip rfl (by kernel_rfl) ?_; simp only [Act.put, List.setIfInBounds_toArray, List.set_cons_zero, List.set_cons_succ])
          iterate 9 (refine line_read rfl (by kernel_rfl) (fun K hK => ?_); go_big_quiet_op; refine hK _ ?_; clear hK K)
          refine line_alone rfl (by kernel_rfl) (fun K hK => ?_)
          refine call_wp (args := #[T4 mn mu mm mv, .string ms, .int .i64 mx]) rfl (by kernel_rfl) (by kernel_rfl) (MI _ (lab.on (btr B9 hst.out))) (fun wn hbn => ?_)
          have hst2 := hst.on hbn
          refine hK _ _ hst2 ?_
          clear hK K hst hbn
          have hst := hst2
          clear hst2
          simp only [Act.put, List.setIfInBounds_toArray, List.set_cons_zero, List.set_cons_succ]
          refine line_alone rfl (by kernel_rfl) (fun K hK => ?_)
          refine call_wp (args := #[T4 mn mu mm mv, .string ms, .int .i64 mx]) rfl (by kernel_rfl) (by kernel_rfl) (MS _) (fun wn hbn => ?_)
          have hst2 := hst.on hbn
          refine hK _ _ hst2 ?_
          clear hK K hst hbn
          have hst := hst2
          clear hst2
          simp only [Act.put, List.setIfInBounds_toArray, List.set_cons_zero, List.set_cons_succ]
          iterate 2 (refine line_read rfl (by kernel_rfl) (fun K hK => ?_); go_big_quiet_op; refine hK _ ?_; clear hK K)
          refine line_nil ?_
          have HT := Lib.hid hst.out
          clear hst
          go_wp2_with fail
          go_meet
          case rel => exact ⟨rfl, HT.out⟩
        · subst h
          have p1 := bel_cell (AP9.cell 1 _ rfl)
          have IR2 := fun w hR => IR aP nP cP w.heap.size w hR (Nat.le_refl _)
          rw [hk] at IR2
          clear IR HFT
          iterate 5 (refine line_read rfl (by kernel_rfl) (fun K hK => ?_); go_big_quiet_op; refine hK _ ?_; clear hK K)
          refine line_alone rfl (by kernel_rfl) (fun K hK => ?_)
          refine call_wp (args := #[.slice aP nP cP]) rfl (by kernel_rfl) (by kernel_rfl) (IR2 _ (RP9.on hst.out)) (fun wn hbn => ?_)
          have hst2 := hst.on hbn
          refine hK _ _ hst2 ?_
          clear hK K hst hbn
          have hst := hst2
          clear hst2
          simp only [Act.put, List.setIfInBounds_toArray, List.set_cons_zero, List.set_cons_succ]
          iterate 11 (refine line_read rfl (by kernel_rfl) (fun K hK => ?_); go_big_quiet_op; refine hK _ ?_; clear hK K)
          refine line_alone rfl (by kernel_rfl) (fun K hK => ?_)
          refine call_wp (args := #[T4 mn mu mm mv, .string ms, .int .i64 mx]) rfl (by kernel_rfl) (by kernel_rfl) (MI _ (lab.on (btr B9 hst.out))) (fun wn hbn => ?_)
          have hst2 := hst.on hbn
          refine hK _ _ hst2 ?_
          clear hK K hst hbn
          have hst := hst2
          clear hst2
          simp only [Act.put, List.setIfInBounds_toArray, List.set_cons_zero, List.set_cons_succ]
          refine line_alone rfl (by kernel_rfl) (fun K hK => ?_)
          refine call_wp (args := #[T4 mn mu mm mv, .string ms, .int .i64 mx]) rfl (by kernel_rfl) (by kernel_rfl) (MS _) (fun wn hbn => ?_)
          have hst2 := hst.on hbn
          refine hK _ _ hst2 ?_
          clear hK K hst hbn
          have hst := hst2
          clear hst2
          simp only [Act.put, List.setIfInBounds_toArray, List.set_cons_zero, List.set_cons_succ]
          iterate 2 (refine line_read rfl (by kernel_rfl) (fun K hK => ?_); go_big_quiet_op; refine hK _ ?_; clear hK K)
          refine line_nil ?_
          have HT := Lib.hid hst.out
          clear hst
          go_wp2_with fail
          go_meet
          case rel => exact ⟨rfl, HT.out⟩
      · subst h
        have q1 := bel_cell (AU9.cell 1 _ rfl)
        have q2 := bel_cell (AU9.cell 2 _ rfl)
        have q3 := bel_cell (AU9.cell 3 _ rfl)
        have q4 := bel_cell (AU9.cell 4 _ rfl)
        rw [h1, h2] at PK
        iterate 5 (refine line_read rfl (by kernel_rfl) (fun K hK => ?_); go_big_quiet_op; refine hK _ ?_; clear hK K)
        refine line_alone rfl (by kernel_rfl) (fun K hK => ?_)
        refine call_any (args := #[T4 kn ku km kv]) rfl (by kernel_rfl) (by kernel_rfl) (PK _) ?_
        rintro e V5 ⟨ad, nd, cd, rfl, OD, bd⟩
        have hst2 := hst.on bd
        refine ⟨_, rfl, hK _ _ hst2 ?_⟩
        clear hK K hst bd PK q1 q2 q3 q4 h1 h2
        have hst := hst2
        clear hst2
        simp only [Act.put, List.setIfInBounds_toArray, List.set_cons_zero, List.set_cons_succ]
        iterate 1 (refine line_read rfl (by kernel_rfl) (fun K hK => ?_); go_big_quiet_op; refine hK _ ?_; clear hK K)
        refine line_alone rfl (by kernel_rfl) (fun K hK => ?_)
        refine call_wp (args := #[.slice ad nd cd, .slice aD nD cD]) rfl (by kernel_rfl) (by kernel_rfl) (lwBytes_any (Own.row OD RD9.wf) (RD9.on hst.out)) (fun wn hbn => ?_)
        subst hbn
        refine hK _ _ hst ?_
        clear hK K
        simp only [Act.put, List.setIfInBounds_toArray, List.set_cons_zero, List.set_cons_succ]
        clear OD HFK q0
        have p0 := bel_cell (AP9.cell 0 _ rfl)
        have t0 := bel_cell (AT9.cell 0 _ rfl)
        have t1 := bel_cell (AT9.cell 1 _ rfl)
        have t2 := bel_cell (AT9.cell 2 _ rfl)
        have t3 := bel_cell (AT9.cell 3 _ rfl)
        have m0 := bel_cell (AM9.cell 0 _ rfl)
        have m1 := bel_cell (AM9.cell 1 _ rfl)
        have m2 := bel_cell (AM9.cell 2 _ rfl)
        have m3 := bel_cell (AM9.cell 3 _ rfl)
        iterate 7 (refine line_read rfl (by kernel_rfl) (fun K hK => ?_); go_big_quiet_op; refine hK _ ?_; clear hK K)
        refine line_alone rfl (by kernel_rfl) (fun K hK => ?_)
        refine call_wp (args := #[T4 tn tu tm tv]) rfl (by kernel_rfl) (by kernel_rfl) (TI _) (fun wn hbn => ?_)
        have hst2 := hst.on hbn
        refine hK _ _ hst2 ?_
        clear hK K hst hbn
        have hst := hst2
        clear hst2
        simp only [Act.put, List.setIfInBounds_toArray, List.set_cons_zero, List.set_cons_succ]
        iterate 6 (refine line_read rfl (by kernel_rfl) (fun K hK => ?_); go_big_quiet_op; refine hK _ ?_; clear hK K)
        refine line_alone rfl (by kernel_rfl) (fun K hK => ?_)
        refine call_wp (args := #[T4 tn tu tm tv]) rfl (by kernel_rfl) (by kernel_rfl) (TS _) (fun wn hbn => ?_)
        have hst2 := hst.on hbn
        refine hK _ _ hst2 ?_
        clear hK K hst hbn
        have hst := hst2
        clear hst2
        simp only [Act.put, List.setIfInBounds_toArray, List.set_cons_zero, List.set_cons_succ]
        iterate 5 (refine line_read rfl (by kernel_rfl) (fun K hK => ?_); go_big_quiet_op; refine hK _ ?_; clear hK K)
        rcases HFT.out with h | ⟨h, hk⟩
        · have h' : (f == 0) = false := by rw [beq_eq_false_iff_ne]; exact h
          clear HFT
          iterate 2 (refine line_read rfl (by kernel_rfl) (fun K hK => ?_); go_big_quiet_op; refine hK _ ?_; clear hK K)
          iterate 6 (refine line_skip rfl (by kernel_rfl) ?_; simp only [Act.put, List.setIfInBounds_toArray, List.set_cons_zero, List.set_cons_succ])
          iterate 9 (refine line_read rfl (by kernel_rfl) (fun K hK => ?_); go_big_quiet_op; refine hK _ ?_; clear hK K)
          refine line_alone rfl (by kernel_rfl) (fun K hK => ?_)
          refine call_wp (args := #[T4 mn mu mm mv, .string ms, .int .i64 mx]) rfl (by kernel_rfl) (by kernel_rfl) (MI _ (lab.on (btr B9 hst.out))) (fun wn hbn => ?_)
          have hst2 := hst.on hbn
          refine hK _ _ hst2 ?_
          clear hK K hst hbn
          have hst := hst2
          clear hst2
          simp only [Act.put, List.setIfInBounds_toArray, List.set_cons_zero, List.set_cons_succ]
          refine line_alone rfl (by kernel_rfl) (fun K hK => ?_)
          refine call_wp (args := #[T4 mn mu mm mv, .string ms, .int .i64 mx]) rfl (by kernel_rfl) (by kernel_rfl) (MS _) (fun wn hbn => ?_)
          have hst2 := hst.on hbn
          refine hK _ _ hst2 ?_
          clear hK K hst hbn
          have hst := hst2
          clear hst2
          simp only [Act.put, List.setIfInBounds_toArray, List.set_cons_zero, List.set_cons_succ]
          iterate 2 (refine line_read rfl (by kernel_rfl) (fun K hK => ?_); go_big_quiet_op; refine hK _ ?_; clear hK K)
          refine line_nil ?_
          have HT := Lib.hid hst.out
          clear hst
          go_wp2_with fail
          go_meet
          case rel => exact ⟨rfl, HT.out⟩
        · subst h
          have p1 := bel_cell (AP9.cell 1 _ rfl)
          have IR2 := fun w hR => IR aP nP cP w.heap.size w hR (Nat.le_refl _)
          rw [hk] at IR2
          clear IR HFT
          iterate 5 (refine line_read rfl (by kernel_rfl) (fun K hK => ?_); go_big_quiet_op; refine hK _ ?_; clear hK K)
          refine line_alone rfl (by kernel_rfl) (fun K hK => ?_)
          refine call_wp (args := #[.slice aP nP cP]) rfl (by kernel_rfl) (by kernel_rfl) (IR2 _ (RP9.on hst.out)) (fun wn hbn => ?_)
          have hst2 := hst.on hbn
          refine hK _ _ hst2 ?_
          clear hK K hst hbn
          have hst := hst2
          clear hst2
          simp only [Act.put, List.setIfInBounds_toArray, List.set_cons_zero, List.set_cons_succ]
          iterate 11 (refine line_read rfl (by kernel_rfl) (fun K hK => ?_); go_big_quiet_op; refine hK _ ?_; clear hK K)
          refine line_alone rfl (by kernel_rfl) (fun K hK => ?_)
          refine call_wp (args := #[T4 mn mu mm mv, .string ms, .int .i64 mx]) rfl (by kernel_rfl) (by kernel_rfl) (MI _ (lab.on (btr B9 hst.out))) (fun wn hbn => ?_)
          have hst2 := hst.on hbn
          refine hK _ _ hst2 ?_
          clear hK K hst hbn
          have hst := hst2
          clear hst2
          simp only [Act.put, List.setIfInBounds_toArray, List.set_cons_zero, List.set_cons_succ]
          refine line_alone rfl (by kernel_rfl) (fun K hK => ?_)
          refine call_wp (args := #[T4 mn mu mm mv, .string ms, .int .i64 mx]) rfl (by kernel_rfl) (by kernel_rfl) (MS _) (fun wn hbn => ?_)
          have hst2 := hst.on hbn
          refine hK _ _ hst2 ?_
          clear hK K hst hbn
          have hst := hst2
          clear hst2
          simp only [Act.put, List.setIfInBounds_toArray, List.set_cons_zero, List.set_cons_succ]
          iterate 2 (refine line_read rfl (by kernel_rfl) (fun K hK => ?_); go_big_quiet_op; refine hK _ ?_; clear hK K)
          refine line_nil ?_
          have HT := Lib.hid hst.out
          clear hst
          go_wp2_with fail
          go_meet
          case rel => exact ⟨rfl, HT.out⟩
    · subst h
      subst h1
      subst h2
      have x1 := bel_cell (AN9.cell 1 _ rfl)
      iterate 6 (refine line_read rfl (by kernel_rfl) (fun K hK => ?_); go_big_quiet_op; refine hK _ ?_; clear hK K)
      refine line_alone rfl (by kernel_rfl) (fun K hK => ?_)
      refine call_wp (args := #[.string T2]) rfl (by kernel_rfl) (by kernel_rfl) (NI2 _) (fun wn hbn => ?_)
      have hst2 := hst.on hbn
      refine hK _ _ hst2 ?_
      clear hK K hst hbn
      have hst := hst2
      clear hst2
      simp only [Act.put, List.setIfInBounds_toArray, List.set_cons_zero, List.set_cons_succ]
      iterate 5 (refine line_read rfl (by kernel_rfl) (fun K hK => ?_); go_big_quiet_op; refine hK _ ?_; clear hK K)
      refine line_alone rfl (by kernel_rfl) (fun K hK => ?_)
      refine call_wp (args := #[.string T2]) rfl (by kernel_rfl) (by kernel_rfl) (FI2 _) (fun wn hbn => ?_)
      subst hbn
      refine hK _ _ hst ?_
      clear hK K
      simp only [Act.put, List.setIfInBounds_toArray, List.set_cons_zero, List.set_cons_succ]
      iterate 6 (refine line_read rfl (by kernel_rfl) (fun K hK => ?_); go_big_quiet_op; refine hK _ ?_; clear hK K)
      refine line_alone rfl (by kernel_rfl) (fun K hK => ?_)
      refine call_wp (args := #[.string s]) rfl (by kernel_rfl) (by kernel_rfl) (NS _) (fun wn hbn => ?_)
      have hst2 := hst.on hbn
      refine hK _ _ hst2 ?_
      clear hK K hst hbn
      have hst := hst2
      clear hst2
      simp only [Act.put, List.setIfInBounds_toArray, List.set_cons_zero, List.set_cons_succ]
      clear NI2 FI2 NS HFN
      have q0 := bel_cell (AU9.cell 0 _ rfl)
      iterate 9 (refine line_read rfl (by kernel_rfl) (fun K hK => ?_); go_big_quiet_op; refine hK _ ?_; clear hK K)
      refine line_alone rfl (by kernel_rfl) (fun K hK => ?_)
      refine call_wp (args := #[.slice aD nD cD]) rfl (by kernel_rfl) (by kernel_rfl) (SR _ (RD9.on hst.out)) (fun wn hbn => ?_)
      have hst2 := hst.on hbn
      refine hK _ _ hst2 ?_
      clear hK K hst hbn
      have hst := hst2
      clear hst2
      simp only [Act.put, List.setIfInBounds_toArray, List.set_cons_zero, List.set_cons_succ]
      iterate 6 (refine line_read rfl (by kernel_rfl) (fun K hK => ?_); go_big_quiet_op; refine hK _ ?_; clear hK K)
      rcases HFK.out with h | ⟨h, h1, h2⟩
      · subst h
        clear HFK PK
        iterate 2 (refine line_read rfl (by kernel_rfl) (fun K hK => ?_); go_big_quiet_op; refine hK _ ?_; clear hK K)
        iterate 7 (refine line_skip rfl (by kernel_rfl) ?_; simp only [Act.put, List.setIfInBounds_toArray, List.set_cons_zero, List.set_cons_succ])
        clear q0
        have p0 := bel_cell (AP9.cell 0 _ rfl)
        have t0 := bel_cell (AT9.cell 0 _ rfl)
        have t1 := bel_cell (AT9.cell 1 _ rfl)
        have t2 := bel_cell (AT9.cell 2 _ rfl)
        have t3 := bel_cell (AT9.cell 3 _ rfl)
        have m0 := bel_cell (AM9.cell 0 _ rfl)
        have m1 := bel_cell (AM9.cell 1 _ rfl)
        have m2 := bel_cell (AM9.cell 2 _ rfl)
        have m3 := bel_cell (AM9.cell 3 _ rfl)
        iterate 6 (refine line_read rfl (by kernel_rfl) (fun K hK => ?_); go_big_quiet_op; refine hK _ ?_; clear hK K)
        refine line_alone rfl (by kernel_rfl) (fun K hK => ?_)
        refine call_wp (args := #[T4 tn tu tm tv]) rfl (by kernel_rfl) (by kernel_rfl) (TI _) (fun wn hbn => ?_)
        have hst2 := hst.on hbn
        refine hK _ _ hst2 ?_
        clear hK K hst hbn
        have hst := hst2
        clear hst2
        simp only [Act.put, List.setIfInBounds_toArray, List.set_cons_zero, List.set_cons_succ]
        iterate 6 (refine line_read rfl (by kernel_rfl) (fun K hK => ?_); go_big_quiet_op; refine hK _ ?_; clear hK K)
        refine line_alone rfl (by kernel_rfl) (fun K hK => ?_)
        refine call_wp (args := #[T4 tn tu tm tv]) rfl (by kernel_rfl) (by kernel_rfl) (TS _) (fun wn hbn => ?_)
        have hst2 := hst.on hbn
        refine hK _ _ hst2 ?_
        clear hK K hst hbn
        have hst := hst2
        clear hst2
        simp only [Act.put, List.setIfInBounds_toArray, List.set_cons_zero, List.set_cons_succ]
        iterate 5 (refine line_read rfl (by kernel_rfl) (fun K hK => ?_); go_big_quiet_op; refine hK _ ?_; clear hK K)
        rcases HFT.out with h | ⟨h, hk⟩
        · have h' : (f == 0) = false := by rw [beq_eq_false_iff_ne]; exact h
          clear HFT
          iterate 2 (refine line_read rfl (by kernel_rfl) (fun K hK => ?_); go_big_quiet_op; refine hK _ ?_; clear hK K)
          iterate 6 (refine line_skip rfl (by kernel_rfl) ?_; simp only [Act.put, List.setIfInBounds_toArray, List.set_cons_zero, List.set_cons_succ])
          iterate 9 (refine line_read rfl (by kernel_rfl) (fun K hK => ?_); go_big_quiet_op; refine hK _ ?_; clear hK K)
          refine line_alone rfl (by kernel_rfl) (fun K hK => ?_)
          refine call_wp (args := #[T4 mn mu mm mv, .string ms, .int .i64 mx]) rfl (by kernel_rfl) (by kernel_rfl) (MI _ (lab.on (btr B9 hst.out))) (fun wn hbn => ?_)
          have hst2 := hst.on hbn
          refine hK _ _ hst2 ?_
          clear hK K hst hbn
          have hst := hst2
          clear hst2
          simp only [Act.put, List.setIfInBounds_toArray, List.set_cons_zero, List.set_cons_succ]
          refine line_alone rfl (by kernel_rfl) (fun K hK => ?_)
          refine call_wp (args := #[T4 mn mu mm mv, .string ms, .int .i64 mx]) rfl (by kernel_rfl) (by kernel_rfl) (MS _) (fun wn hbn => ?_)
          have hst2 := hst.on hbn
          refine hK _ _ hst2 ?_
          clear hK K hst hbn
          have hst := hst2
          clear hst2
          simp only [Act.put, List.setIfInBounds_toArray, List.set_cons_zero, List.set_cons_succ]
          iterate 2 (refine line_read rfl (by kernel_rfl) (fun K hK => ?_); go_big_quiet_op; refine hK _ ?_; clear hK K)
          refine line_nil ?_
          have HT := Lib.hid hst.out
          clear hst
          go_wp2_with fail
          go_meet
          case rel => exact ⟨rfl, HT.out⟩
        · subst h
          have p1 := bel_cell (AP9.cell 1 _ rfl)
          have IR2 := fun w hR => IR aP nP cP w.heap.size w hR (Nat.le_refl _)
          rw [hk] at IR2
          clear IR HFT
          iterate 5 (refine line_read rfl (by kernel_rfl) (fun K hK => ?_); go_big_quiet_op; refine hK _ ?_; clear hK K)
          refine line_alone rfl (by kernel_rfl) (fun K hK => ?_)
          refine call_wp (args := #[.slice aP nP cP]) rfl (by kernel_rfl) (by kernel_rfl) (IR2 _ (RP9.on hst.out)) (fun wn hbn => ?_)
          have hst2 := hst.on hbn
          refine hK _ _ hst2 ?_
          clear hK K hst hbn
          have hst := hst2
          clear hst2
          simp only [Act.put, List.setIfInBounds_toArray, List.set_cons_zero, List.set_cons_succ]
          iterate 11 (refine line_read rfl (by kernel_rfl) (fun K hK => ?_); go_big_quiet_op; refine hK _ ?_; clear hK K)
          refine line_alone rfl (by kernel_rfl) (fun K hK => ?_)
          refine call_wp (args := #[T4 mn mu mm mv, .string ms, .int .i64 mx]) rfl (by kernel_rfl) (by kernel_rfl) (MI _ (lab.on (btr B9 hst.out))) (fun wn hbn => ?_)
          have hst2 := hst.on hbn
          refine hK _ _ hst2 ?_
          clear hK K hst hbn
          have hst := hst2
          clear hst2
          simp only [Act.put, List.setIfInBounds_toArray, List.set_cons_zero, List.set_cons_succ]
          refine line_alone rfl (by kernel_rfl) (fun K hK => ?_)
          refine call_wp (args := #[T4 mn mu mm mv, .string ms, .int .i64 mx]) rfl (by kernel_rfl) (by kernel_rfl) (MS _) (fun wn hbn => ?_)
          have hst2 := hst.on hbn
          refine hK _ _ hst2 ?_
          clear hK K hst hbn
          have hst := hst2
          clear hst2
          simp only [Act.put, List.setIfInBounds_toArray, List.set_cons_zero, List.set_cons_succ]
          iterate 2 (refine line_read rfl (by kernel_rfl) (fun K hK => ?_); go_big_quiet_op; refine hK _ ?_; clear hK K)
          refine line_nil ?_
          have HT := Lib.hid hst.out
          clear hst
          go_wp2_with fail
          go_meet
          case rel => exact ⟨rfl, HT.out⟩
      · subst h
        have q1 := bel_cell (AU9.cell 1 _ rfl)
        have q2 := bel_cell (AU9.cell 2 _ rfl)
        have q3 := bel_cell (AU9.cell 3 _ rfl)
        have q4 := bel_cell (AU9.cell 4 _ rfl)
        rw [h1, h2] at PK
        iterate 5 (refine line_read rfl (by kernel_rfl) (fun K hK => ?_); go_big_quiet_op; refine hK _ ?_; clear hK K)
        refine line_alone rfl (by kernel_rfl) (fun K hK => ?_)
        refine call_any (args := #[T4 kn ku km kv]) rfl (by kernel_rfl) (by kernel_rfl) (PK _) ?_
        rintro e V5 ⟨ad, nd, cd, rfl, OD, bd⟩
        have hst2 := hst.on bd
        refine ⟨_, rfl, hK _ _ hst2 ?_⟩
        clear hK K hst bd PK q1 q2 q3 q4 h1 h2
        have hst := hst2
        clear hst2
        simp only [Act.put, List.setIfInBounds_toArray, List.set_cons_zero, List.set_cons_succ]
        iterate 1 (refine line_read rfl (by kernel_rfl) (fun K hK => ?_); go_big_quiet_op; refine hK _ ?_; clear hK K)
        refine line_alone rfl (by kernel_rfl) (fun K hK => ?_)
        refine call_wp (args := #[.slice ad nd cd, .slice aD nD cD]) rfl (by kernel_rfl) (by kernel_rfl) (lwBytes_any (Own.row OD RD9.wf) (RD9.on hst.out)) (fun wn hbn => ?_)
        subst hbn
        refine hK _ _ hst ?_
        clear hK K
        simp only [Act.put, List.setIfInBounds_toArray, List.set_cons_zero, List.set_cons_succ]
        clear OD HFK q0
        have p0 := bel_cell (AP9.cell 0 _ rfl)
        have t0 := bel_cell (AT9.cell 0 _ rfl)
        have t1 := bel_cell (AT9.cell 1 _ rfl)
        have t2 := bel_cell (AT9.cell 2 _ rfl)
        have t3 := bel_cell (AT9.cell 3 _ rfl)
        have m0 := bel_cell (AM9.cell 0 _ rfl)
        have m1 := bel_cell (AM9.cell 1 _ rfl)
        have m2 := bel_cell (AM9.cell 2 _ rfl)
        have m3 := bel_cell (AM9.cell 3 _ rfl)
        iterate 7 (refine line_read rfl (by kernel_rfl) (fun K hK => ?_); go_big_quiet_op; refine hK _ ?_; clear hK K)
        refine line_alone rfl (by kernel_rfl) (fun K hK => ?_)
        refine call_wp (args := #[T4 tn tu tm tv]) rfl (by kernel_rfl) (by kernel_rfl) (TI _) (fun wn hbn => ?_)
        have hst2 := hst.on hbn
        refine hK _ _ hst2 ?_
        clear hK K hst hbn
        have hst := hst2
        clear hst2
        simp only [Act.put, List.setIfInBounds_toArray, List.set_cons_zero, List.set_cons_succ]
        iterate 6 (refine line_read rfl (by kernel_rfl) (fun K hK => ?_); go_big_quiet_op; refine hK _ ?_; clear hK K)
        refine line_alone rfl (by kernel_rfl) (fun K hK => ?_)
        refine call_wp (args := #[T4 tn tu tm tv]) rfl (by kernel_rfl) (by kernel_rfl) (TS _) (fun wn hbn => ?_)
        have hst2 := hst.on hbn
        refine hK _ _ hst2 ?_
        clear hK K hst hbn
        have hst := hst2
        clear hst2
        simp only [Act.put, List.setIfInBounds_toArray, List.set_cons_zero, List.set_cons_succ]
        iterate 5 (refine line_read rfl (by kernel_rfl) (fun K hK => ?_); go_big_quiet_op; refine hK _ ?_; clear hK K)
        rcases HFT.out with h | ⟨h, hk⟩
        · have h' : (f == 0) = false := by rw [beq_eq_false_iff_ne]; exact h
          clear HFT
          iterate 2 (refine line_read rfl (by kernel_rfl) (fun K hK => ?_); go_big_quiet_op; refine hK _ ?_; clear hK K)
          iterate 6 (refine line_skip rfl (by kernel_rfl) ?_; simp only [Act.put, List.setIfInBounds_toArray, List.set_cons_zero, List.set_cons_succ])
          iterate 9 (refine line_read rfl (by kernel_rfl) (fun K hK => ?_); go_big_quiet_op; refine hK _ ?_; clear hK K)
          refine line_alone rfl (by kernel_rfl) (fun K hK => ?_)
          refine call_wp (args := #[T4 mn mu mm mv, .string ms, .int .i64 mx]) rfl (by kernel_rfl) (by kernel_rfl) (MI _ (lab.on (btr B9 hst.out))) (fun wn hbn => ?_)
          have hst2 := hst.on hbn
          refine hK _ _ hst2 ?_
          clear hK K hst hbn
          have hst := hst2
          clear hst2
          simp only [Act.put, List.setIfInBounds_toArray, List.set_cons_zero, List.set_cons_succ]
          refine line_alone rfl (by kernel_rfl) (fun K hK => ?_)
          refine call_wp (args := #[T4 mn mu mm mv, .string ms, .int .i64 mx]) rfl (by kernel_rfl) (by kernel_rfl) (MS _) (fun wn hbn => ?_)
          have hst2 := hst.on hbn
          refine hK _ _ hst2 ?_
          clear hK K hst hbn
          have hst := hst2
          clear hst2
          simp only [Act.put, List.setIfInBounds_toArray, List.set_cons_zero, List.set_cons_succ]
          iterate 2 (refine line_read rfl (by kernel_rfl) (fun K hK => ?_); go_big_quiet_op; refine hK _ ?_; clear hK K)
          refine line_nil ?_
          have HT := Lib.hid hst.out
          clear hst
          go_wp2_with fail
          go_meet
          case rel => exact ⟨rfl, HT.out⟩
        · subst h
          have p1 := bel_cell (AP9.cell 1 _ rfl)
          have IR2 := fun w hR => IR aP nP cP w.heap.size w hR (Nat.le_refl _)
          rw [hk] at IR2
          clear IR HFT
          iterate 5 (refine line_read rfl (by kernel_rfl) (fun K hK => ?_); go_big_quiet_op; refine hK _ ?_; clear hK K)
          refine line_alone rfl (by kernel_rfl) (fun K hK => ?_)
          refine call_wp (args := #[.slice aP nP cP]) rfl (by kernel_rfl) (by kernel_rfl) (IR2 _ (RP9.on hst.out)) (fun wn hbn => ?_)
          have hst2 := hst.on hbn
          refine hK _ _ hst2 ?_
          clear hK K hst hbn
          have hst := hst2
          clear hst2
          simp only [Act.put, List.setIfInBounds_toArray, List.set_cons_zero, List.set_cons_succ]
          iterate 11 (refine line_read rfl (by kernel_rfl) (fun K hK => ?_); go_big_quiet_op; refine hK _ ?_; clear hK K)
          refine line_alone rfl (by kernel_rfl) (fun K hK => ?_)
          refine call_wp (args := #[T4 mn mu mm mv, .string ms, .int .i64 mx]) rfl (by kernel_rfl) (by kernel_rfl) (MI _ (lab.on (btr B9 hst.out))) (fun wn hbn => ?_)
          have hst2 := hst.on hbn
          refine hK _ _ hst2 ?_
          clear hK K hst hbn
          have hst := hst2
          clear hst2
          simp only [Act.put, List.setIfInBounds_toArray, List.set_cons_zero, List.set_cons_succ]
          refine line_alone rfl (by kernel_rfl) (fun K hK => ?_)
          refine call_wp (args := #[T4 mn mu mm mv, .string ms, .int .i64 mx]) rfl (by kernel_rfl) (by kernel_rfl) (MS _) (fun wn hbn => ?_)
          have hst2 := hst.on hbn
          refine hK _ _ hst2 ?_
          clear hK K hst hbn
          have hst := hst2
          clear hst2
          simp only [Act.put, List.setIfInBounds_toArray, List.set_cons_zero, List.set_cons_succ]
          iterate 2 (refine line_read rfl (by kernel_rfl) (fun K hK => ?_); go_big_quiet_op; refine hK _ ?_; clear hK K)
          refine line_nil ?_
          have HT := Lib.hid hst.out
          clear hst
          go_wp2_with fail
          go_meet
          case rel => exact ⟨rfl, HT.out⟩
  case rest =>
    obtain ⟨rfl, bC⟩ := hcut
    have B10 := btr B9 bC
    clear AN9 RD9 AU9 AT9 AP9 RP9 AM9 B9 bC NS FI FS NI2 FI2 HFN SR PK HFK TI TS IR HFT MI MS
    go_wp2_with fail
    refine (DrawTlsaFor_any (w0.on B10)).mono ?_
    rintro r z1 ⟨xs, xp, xm, rfl, hxs, c1⟩
    have B11 := btr B10 c1
    have hxm : xs.size ≤ maxLen := by simp only [maxLen]; omega
    have KI := fun w lab => implTlsaFor_any xs xp xm w lab hxm
    have KS := fun w => specTlsaFor_any xs xp xm w hxm
    unfold forT at KI KS
    have FF := for_cases xs.data.toList xp xm
    have hfn : (M.bs (M.forN xs.data.toList (pubB xp) xm)).size ≤ maxLen := by
      have h1 := M.nrm_length xs.data.toList
      have h2 : xs.data.toList.length = xs.size := by simp
      rw [M.bs_size]
      simp only [maxLen]
      unfold M.forN
      split
      · omega
      · simp
    have KF := fun w => implTlsaFault_any (M.bs (M.forN xs.data.toList (pubB xp) xm)) (M.forU xs.data.toList (pubB xp) xm) (M.forM xs.data.toList (pubB xp) xm) (M.forV xs.data.toList (pubB xp) xp xm) w hfn
    have KM := fun w lab => implMatchesTlsa_any (M.bs (M.forN xs.data.toList (pubB xp) xm)) (M.forU xs.data.toList (pubB xp) xm) (M.forM xs.data.toList (pubB xp) xm) (M.forV xs.data.toList (pubB xp) xp xm) xs xp w lab hxm
    generalize M.bs (M.forN xs.data.toList (pubB xp) xm) = fn at *
    generalize M.forU xs.data.toList (pubB xp) xm = fu at *
    generalize M.forM xs.data.toList (pubB xp) xm = fm at *
    generalize M.forV xs.data.toList (pubB xp) xp xm = fv at *
    generalize M.forC xs.data.toList (pubB xp) xm = fc at *
    have HFF := Lib.hid FF
    clear FF hfn hxm hxs B10 c1
    go_wp2_with fail
    refine (KI _ (lab.on B11)).mono ?_
    rintro r z2 ⟨rfl, c2⟩
    have c2a := bal c2 (.cells #[.int .i64 fc, .string fn, .int .i64 fu, .int .i64 fm, .int .i64 fv] 32)
    have AK := At.new z2 (TL5 fc fn fu fm fv) 32
    have B12 := btr B11 c2a
    clear B11 c2 c2a KI
    rcases HFF.out with h | ⟨h, h1, h2⟩
    · have h' : (fc == 0) = false := by rw [beq_eq_false_iff_ne]; exact h
      have h'' : (fc != 0) = true := by simp [bne, h']
      go_wp2_with fail
      generalize z2.alloc (.cells #[.int .i64 fc, .string fn, .int .i64 fu, .int .i64 fm, .int .i64 fv] 32) = v12 at *
      refine wp_region_line (Bel v12) [(0, true), (1, true), (2, true), (5, true), (6, true), (3, false), (4, true), (7, true), (8, true)] (by kernel_rfl) (by kernel_rfl) (fun _ _ d _ _ h => by cases d <;> exact h) (Bel.drew v12) ?_
      have hst := Bel.drew v12
      have inst : Nonempty (Of (Bel v12)) := ⟨⟨_, hst⟩⟩
      have p0 := bel_cell (AK.cell 0 _ rfl)
      iterate 5 (refine line_read rfl (by kernel_rfl) (fun K hK => ?_); go_big_quiet_op; refine hK _ ?_; clear hK K)
      refine line_alone rfl (by kernel_rfl) (fun K hK => ?_)
      refine call_wp (args := #[.string xs, .int .i64 xp, .int .i64 xm]) rfl (by kernel_rfl) (by kernel_rfl) (KS _) (fun wn hbn => ?_)
      have hst2 := hst.on hbn
      refine hK _ _ hst2 ?_
      clear hK K hst hbn
      have hst := hst2
      clear hst2
      simp only [Act.put, List.setIfInBounds_toArray, List.set_cons_zero, List.set_cons_succ]
      iterate 3 (refine line_read rfl (by kernel_rfl) (fun K hK => ?_); go_big_quiet_op; refine hK _ ?_; clear hK K)
      refine line_nil ?_
      have hb := btr B12 hst.out
      clear p0
      go_wp2_with fail
      go_ret
      exact ⟨rfl, hb⟩
    · subst h
      rw [h1] at KF
      rw [h2] at KM
      go_wp2_with fail
      generalize z2.alloc (.cells #[.int .i64 0, .string fn, .int .i64 fu, .int .i64 fm, .int .i64 fv] 32) = v12 at *
      refine wp_region_line (Bel v12) [(0, true), (1, true), (2, false), (3, true), (4, true), (5, true), (6, true), (7, true), (8, true), (9, false), (10, true), (11, true), (12, true), (13, true), (14, true), (15, true), (16, true), (17, false), (18, true), (19, true), (20, true), (21, true)] (by kernel_rfl) (by kernel_rfl) (fun _ _ d _ _ h => by cases d <;> exact h) (Bel.drew v12) ?_
      have hst := Bel.drew v12
      have inst : Nonempty (Of (Bel v12)) := ⟨⟨_, hst⟩⟩
      have p1 := bel_cell (AK.cell 1 _ rfl)
      have p2 := bel_cell (AK.cell 2 _ rfl)
      have p3 := bel_cell (AK.cell 3 _ rfl)
      have p4 := bel_cell (AK.cell 4 _ rfl)
      iterate 2 (refine line_read rfl (by kernel_rfl) (fun K hK => ?_); go_big_quiet_op; refine hK _ ?_; clear hK K)
      refine line_alone rfl (by kernel_rfl) (fun K hK => ?_)
      refine call_wp (args := #[T4 fn fu fm fv]) rfl (by kernel_rfl) (by kernel_rfl) (KF _) (fun wn hbn => ?_)
      have hst2 := hst.on hbn
      refine hK _ _ hst2 ?_
      clear hK K hst hbn
      have hst := hst2
      clear hst2
      simp only [Act.put, List.setIfInBounds_toArray, List.set_cons_zero, List.set_cons_succ]
      iterate 6 (refine line_read rfl (by kernel_rfl) (fun K hK => ?_); go_big_quiet_op; refine hK _ ?_; clear hK K)
      refine line_alone rfl (by kernel_rfl) (fun K hK => ?_)
      refine call_wp (args := #[T4 fn fu fm fv, .string xs, .int .i64 xp]) rfl (by kernel_rfl) (by kernel_rfl) (KM _ (lab.on (btr B12 hst.out))) (fun wn hbn => ?_)
      have hst2 := hst.on hbn
      refine hK _ _ hst2 ?_
      clear hK K hst hbn
      have hst := hst2
      clear hst2
      simp only [Act.put, List.setIfInBounds_toArray, List.set_cons_zero, List.set_cons_succ]
      iterate 7 (refine line_read rfl (by kernel_rfl) (fun K hK => ?_); go_big_quiet_op; refine hK _ ?_; clear hK K)
      refine line_alone rfl (by kernel_rfl) (fun K hK => ?_)
      refine call_wp (args := #[.string xs, .int .i64 xp, .int .i64 xm]) rfl (by kernel_rfl) (by kernel_rfl) (KS _) (fun wn hbn => ?_)
      have hst2 := hst.on hbn
      refine hK _ _ hst2 ?_
      clear hK K hst hbn
      have hst := hst2
      clear hst2
      simp only [Act.put, List.setIfInBounds_toArray, List.set_cons_zero, List.set_cons_succ]
      iterate 4 (refine line_read rfl (by kernel_rfl) (fun K hK => ?_); go_big_quiet_op; refine hK _ ?_; clear hK K)
      refine line_nil ?_
      have hb := btr B12 hst.out
      clear p1 p2 p3 p4
      go_wp2_with fail
      go_ret
      exact ⟨rfl, hb⟩

end Go.Proofs.YtdkgiiikcapjcaaDoor.fnNames
