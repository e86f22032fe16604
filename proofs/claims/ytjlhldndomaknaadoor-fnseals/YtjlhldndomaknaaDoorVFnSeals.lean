/- What was sealed is opened by its key and number, and by these as it was; a record is read back from its bytes, at every input that is drawn out of whatever bytes. The walk: the law's Go text answers true and turns nothing that was there. Conditions: as the theorem states. -/
import Derived.Test.YtjlhldndomaknaaDoorC4i
import Derived.Test.YtjlhldndomaknaaDoorD4b
import Derived.Test.YtjlhldndomaknaaDoorD2b
import Derived.WalkKit
import Derived.Below
namespace Go.Proofs.YtjlhldndomaknaaDoor.fnSeals
open Go.RowKit
set_option linter.unusedVariables false

theorem sameR_self (s k : Int) (zs : List Int) (t : Int) : M.sameR s k zs t s k zs t = true := by simp [M.sameR]
theorem rf0 (e s k : Int) (a : Option Addr) (n c : Nat) (t : Int) (w : World) : Sem.run Tryd.prog (Instr.field 68 (.agg #[.int .i64 e, .int .i64 s, .int .i64 k, .slice a n c, .int .i64 t]) 0) w = .ok (.int .i64 e) w := by kernel_rfl
theorem rf1 (e s k : Int) (a : Option Addr) (n c : Nat) (t : Int) (w : World) : Sem.run Tryd.prog (Instr.field 68 (.agg #[.int .i64 e, .int .i64 s, .int .i64 k, .slice a n c, .int .i64 t]) 1) w = .ok (.agg #[.int .i64 s, .int .i64 k, .slice a n c, .int .i64 t]) w := by kernel_rfl
theorem bf0 (c : Int) (a : Option Addr) (n k : Nat) (w : World) : Sem.run Tryd.prog (Instr.field 44 (.agg #[.int .i64 c, .slice a n k]) 0) w = .ok (.int .i64 c) w := by kernel_rfl
theorem bf1 (c : Int) (a : Option Addr) (n k : Nat) (w : World) : Sem.run Tryd.prog (Instr.field 44 (.agg #[.int .i64 c, .slice a n k]) 1) w = .ok (.slice a n k) w := by kernel_rfl
theorem Made.any {zs : List Int} {w : World} {v : Value} {w' : World} (h : OwnK .u8 w' w.heap.size v zs) (hw : ∀ z ∈ zs, (Lit.int .u8 z).wf = true) : ∃ a n c, v = .slice a n c ∧ Row .u8 w' w'.heap.size a n c zs := by
  obtain ⟨a, c, rfl, -⟩ := h.form
  exact ⟨_, _, _, rfl, Own.row h hw⟩
/-- Nothing of it has turned, and what was told is false. -/
def WentOn (W : World) (v : Value) (wx : World) : Prop := v = .bool false ∧ Below W.heap.size W wx
set_option maxHeartbeats 8000000 in
set_option maxRecDepth 100000 in
theorem walk (a0 : Option Addr) (len0 cap0 : Nat) (z0 : List Int) (w : World) (w0 : Row .u8 w w.heap.size a0 len0 cap0 z0) (lab : Labels w) :
    Calls Tryd.prog 5 #[.slice a0 len0 cap0] w fun e w' => e = .returned (.bool true) ∧ Below w.heap.size w w' := by
  have hl := w0.fits
  have hm := w0.most
  unfold maxLen at hm
  by_cases hbig : 1048576 < len0
  · have hB : decide (1048576 < len0) = true := by simp [hbig]
    go_enter Tryd.func5, Tryd.ntmps5
    go_wp2_with fail
    refine (lwBig_any _ _ _ _ (by omega)).mono ?_
    rintro r w' ⟨rfl, rfl⟩
    go_wp2_with fail
    go_ret
    exact ⟨rfl, Below.refl _ _⟩
  have hB : decide (1048576 < len0) = false := by simp [hbig]
  have g0 := rf0
  have g1 := rf1
  have g2 := bf0
  have g3 := bf1
  go_enter Tryd.func5, Tryd.ntmps5
  go_wp2_with fail
  refine (lwBig_any _ _ _ _ (by omega)).mono ?_
  rintro r w' ⟨rfl, rfl⟩
  go_wp2_with fail
  refine (DrawSealData_any w0).mono ?_
  rintro r u1 ⟨x, y, z, a1, n1, c1, z1, rfl, R1, b1⟩
  have S1 := (implSealData_any x y z a1 n1 c1 _ z1 _ (lab.on b1) R1 (Nat.le_refl _)).mono fun _ _ h => h.all
  have HWr := Lib.hid (seX_wf (key := x) (s := y) (k := z) R1.bytes)
  go_wp2_with fail
  refine S1.mono ?_
  rintro r u2 ⟨aR, nR, cR, rfl, OR, b2⟩
  have b2a := bal b2 (.cells #[.int .i64 (M.sealC x y z z1.length), .int .i64 (seS x y z z1), .int .i64 (seK x y z z1), .slice aR nR cR, .int .i64 (seT x y z z1)] 68)
  have AR := At.new u2 (L5 (M.sealC x y z z1.length) (seS x y z z1) (seK x y z z1) aR nR cR (seT x y z z1)) 68
  have RR := (Own.row OR HWr.out).on (bal (Below.refl _ u2) (.cells #[.int .i64 (M.sealC x y z z1.length), .int .i64 (seS x y z z1), .int .i64 (seK x y z z1), .slice aR nR cR, .int .i64 (seT x y z z1)] 68))
  have B2 := btr b1 b2a
  have RD := R1.on b2a
  have HC := Lib.hid (Eq.refl (M.sealC x y z z1.length))
  obtain ⟨ec, hec⟩ : ∃ ec, M.sealC x y z z1.length = ec := ⟨_, rfl⟩
  obtain ⟨es, hes⟩ : ∃ es, seS x y z z1 = es := ⟨_, rfl⟩
  obtain ⟨ek, hek⟩ : ∃ ek, seK x y z z1 = ek := ⟨_, rfl⟩
  obtain ⟨ex, hex⟩ : ∃ ex, seX x y z z1 = ex := ⟨_, rfl⟩
  obtain ⟨et, het⟩ : ∃ et, seT x y z z1 = et := ⟨_, rfl⟩
  rw [hec, hes, hek, het] at AR
  rw [hec, hes, hek, het, hex] at RR
  rw [hec, hes, hek, het] at RD
  rw [hec, hes, hek, het] at B2
  have HEC := Lib.hid hec
  have HES := Lib.hid hes
  have HEK := Lib.hid hek
  have HEX := Lib.hid hex
  have HET := Lib.hid het
  clear S1 OR b2 b2a b1 R1 HC
  go_wp2_with fail
  clear hec hes hek hex het
  generalize u2.alloc (.cells #[.int .i64 ec, .int .i64 es, .int .i64 ek, .slice aR nR cR, .int .i64 et] 68) = v2 at *
  refine (DrawOpenRecord_any (w0.on B2)).mono ?_
  rintro r u3 ⟨p, q, s3, k3, a3, n3, c3, t3, z3, rfl, R3, b3⟩
  have b3a := bal b3 (.cells #[.int .i64 s3, .int .i64 k3, .slice a3 n3 c3, .int .i64 t3] 66)
  have AX := At.new u3 (L4 s3 k3 a3 n3 c3 t3) 66
  have RX := R3.on (bal (Below.refl _ u3) (.cells #[.int .i64 s3, .int .i64 k3, .slice a3 n3 c3, .int .i64 t3] 66))
  have AR3 := AR.on b3a
  have RR3 := RR.on b3a
  have RD3 := RD.on b3a
  have B3 := btr B2 b3a
  clear AR RR RD B2 b3 b3a R3
  have I1 := fun w hL hR => implOpenRecord_any p q s3 k3 a3 n3 c3 t3 w.heap.size z3 w hL hR (Nat.le_refl _)
  have I2 := fun w hR => specOpenRecord_any p q s3 k3 a3 n3 c3 t3 w.heap.size z3 w hR (Nat.le_refl _)
  have HWo := Lib.hid (openL_wf (key := p) (q := q) (s := s3) (k := k3) (t := t3) RX.bytes)
  generalize M.openC p q s3 k3 z3 t3 = oc at *
  generalize M.openL p q s3 k3 z3 t3 = ol at *
  go_wp2_with fail
  generalize u3.alloc (.cells #[.int .i64 s3, .int .i64 k3, .slice a3 n3 c3, .int .i64 t3] 66) = v3 at *
  refine (I1 _ (lab.on B3) RX).mono ?_
  rintro r u4 ⟨a4, n4, c4, rfl, O4, b4⟩
  have b4a := bal b4 (.cells #[.int .i64 oc, .slice a4 n4 c4] 44)
  have AO := At.new u4 [.int .i64 oc, .slice a4 n4 c4] 44
  have RO := (Own.row O4 HWo.out).on (bal (Below.refl _ u4) (.cells #[.int .i64 oc, .slice a4 n4 c4] 44))
  have AR4 := AR3.on b4a
  have RR4 := RR3.on b4a
  have RD4 := RD3.on b4a
  have AX4 := AX.on b4a
  have RX4 := RX.on b4a
  have B4 := btr B3 b4a
  clear AR3 RR3 RD3 AX RX B3 b4 b4a O4 I1
  go_wp2_with fail
  generalize u4.alloc (.cells #[.int .i64 oc, .slice a4 n4 c4] 44) = v4 at *
  refine (DrawReadRecord_any (w0.on B4)).mono ?_
  rintro r u5 ⟨a5, n5, c5, z5, rfl, hn5, RU, b5⟩
  have AR5 := AR4.on b5
  have RR5 := RR4.on b5
  have RD5 := RD4.on b5
  have AX5 := AX4.on b5
  have RX5 := RX4.on b5
  have AO5 := AO.on b5
  have RO5 := RO.on b5
  have B5 := btr B4 b5
  clear AR4 RR4 RD4 AX4 RX4 AO RO B4 b5
  have V1 := fun w hR => (implReadRecord_any a5 n5 c5 w.heap.size z5 w hR (Nat.le_refl _) (by omega)).mono fun _ _ h => h.all
  have V2 := fun w hR => (specReadRecord_any a5 n5 c5 w.heap.size z5 w hR (Nat.le_refl _) (by omega)).mono fun _ _ h => h.all
  have HWv := Lib.hid (rdX_wf RU.wf)
  have FV : (rdE z5 = 5) ∨ (rdE z5 = 0 ∧ M.packRL (rdS z5) (rdK z5) (rdX z5) (rdT z5) = z5) := by
    cases h : M.rdB z5
    · exact .inl (by simp [rdE, h])
    · refine .inr ⟨by simp [rdE, h], ?_⟩
      obtain ⟨h6, -, hf⟩ := M.rdB_len h
      simp only [rdS, rdK, rdX, rdT, h, if_true]
      unfold M.packRL
      rw [M.rdD_length h6, if_pos hf]
      exact M.pack_rd RU.bytes h
  have PV := fun a n c w hR => implPackRecord_any (rdS z5) (rdK z5) a n c (rdT z5) w.heap.size (rdX z5) w hR (Nat.le_refl _)
  generalize rdE z5 = ve at *
  generalize rdS z5 = vs at *
  generalize rdK z5 = vk at *
  generalize rdX z5 = vx at *
  generalize rdT z5 = vt at *
  have HFV := Lib.hid FV
  have HWU := Lib.hid RU.wf
  clear FV
  go_wp2_with fail
  refine (V1 _ RU).mono ?_
  rintro r u6 ⟨a6, n6, c6, rfl, O6, b6⟩
  have b6a := bal b6 (.cells #[.int .i64 ve, .int .i64 vs, .int .i64 vk, .slice a6 n6 c6, .int .i64 vt] 68)
  have AV := At.new u6 (L5 ve vs vk a6 n6 c6 vt) 68
  have RV := (Own.row O6 HWv.out).on (bal (Below.refl _ u6) (.cells #[.int .i64 ve, .int .i64 vs, .int .i64 vk, .slice a6 n6 c6, .int .i64 vt] 68))
  have AR6 := AR5.on b6a
  have RR6 := RR5.on b6a
  have RD6 := RD5.on b6a
  have AX6 := AX5.on b6a
  have RX6 := RX5.on b6a
  have AO6 := AO5.on b6a
  have RO6 := RO5.on b6a
  have RU6 := RU.on b6a
  have B6 := btr B5 b6a
  clear AR5 RR5 RD5 AX5 RX5 AO5 RO5 RU B5 b6 b6a O6 V1
  go_wp2_with fail
  generalize u6.alloc (.cells #[.int .i64 ve, .int .i64 vs, .int .i64 vk, .slice a6 n6 c6, .int .i64 vt] 68) = v6 at *
  refine (DrawPackRecord_any (w0.on B6)).mono ?_
  rintro r u7 ⟨s7, k7, a7, n7, c7, t7, z7, rfl, O7, wf7, b7⟩
  have b7a := bal b7 (.cells #[.int .i64 s7, .int .i64 k7, .slice a7 n7 c7, .int .i64 t7] 66)
  have AW := At.new u7 (L4 s7 k7 a7 n7 c7 t7) 66
  have RW := (Own.row O7 wf7).on (bal (Below.refl _ u7) (.cells #[.int .i64 s7, .int .i64 k7, .slice a7 n7 c7, .int .i64 t7] 66))
  have AR7 := AR6.on b7a
  have RR7 := RR6.on b7a
  have RD7 := RD6.on b7a
  have AX7 := AX6.on b7a
  have RX7 := RX6.on b7a
  have AO7 := AO6.on b7a
  have RO7 := RO6.on b7a
  have RU7 := RU6.on b7a
  have AV7 := AV.on b7a
  have RV7 := RV.on b7a
  have B7 := btr B6 b7a
  clear AR6 RR6 RD6 AX6 RX6 AO6 RO6 RU6 AV RV B6 b7 b7a O7 wf7
  have Y1 := fun w hR => implPackRecord_any s7 k7 a7 n7 c7 t7 w.heap.size z7 w hR (Nat.le_refl _)
  have F1 := fun w => implRecordFault_any s7 k7 a7 n7 c7 t7 w (Nat.le_trans RW.fits RW.most)
  have F2 := fun w => specRecordFault_any s7 k7 a7 n7 c7 t7 w (Nat.le_trans RW.fits RW.most)
  have HWy := Lib.hid (fun z hz => byte_wf (M.packRL_byte (s := s7) (k := k7) (zs := z7) (t := t7) RW.bytes z hz))
  have hly := M.packRL_length s7 k7 z7 t7
  have FY : (M.recF s7 k7 t7 n7 ≠ 0) ∨ (M.recF s7 k7 t7 n7 = 0 ∧ rdE (M.packRL s7 k7 z7 t7) = 0 ∧ rdS (M.packRL s7 k7 z7 t7) = s7 ∧ rdK (M.packRL s7 k7 z7 t7) = k7 ∧ rdX (M.packRL s7 k7 z7 t7) = z7 ∧ rdT (M.packRL s7 k7 z7 t7) = t7) := by
    by_cases h : M.recF s7 k7 t7 n7 = 0
    · have h' : M.recF s7 k7 t7 z7.length = 0 := by rw [RW.length]; exact h
      have e : M.packRL s7 k7 z7 t7 = M.packR s7 k7 z7 t7 := by simp [M.packRL, h']
      obtain ⟨q1, q2, q3, q4, q5⟩ := M.rdB_pack h'
      rw [e]
      refine .inr ⟨h, ?_⟩
      simp only [rdE, rdS, rdK, rdX, rdT, q1, if_true]
      exact ⟨trivial, q2, q3, q4, q5⟩
    · exact .inl h
  have IY := fun a n c w (hn : n ≤ 1048576) hR => (implReadRecord_any a n c w.heap.size (M.packRL s7 k7 z7 t7) w hR (Nat.le_refl _) hn).mono fun _ _ h => h.all
  generalize M.packRL s7 k7 z7 t7 = yl at *
  generalize M.recF s7 k7 t7 n7 = yc at *
  have HFY := Lib.hid FY
  clear FY
  go_wp2_with fail
  generalize u7.alloc (.cells #[.int .i64 s7, .int .i64 k7, .slice a7 n7 c7, .int .i64 t7] 66) = v7 at *
  refine (Y1 _ RW).mono ?_
  rintro r u8 ⟨a8, n8, c8, rfl, O8, b8⟩
  have l8 := O8.len
  have b8a := bal b8 (.cells #[.int .i64 yc, .slice a8 n8 c8] 44)
  have AY := At.new u8 [.int .i64 yc, .slice a8 n8 c8] 44
  have RY := (Own.row O8 HWy.out).on (bal (Below.refl _ u8) (.cells #[.int .i64 yc, .slice a8 n8 c8] 44))
  have AR8 := AR7.on b8a
  have RR8 := RR7.on b8a
  have RD8 := RD7.on b8a
  have AX8 := AX7.on b8a
  have RX8 := RX7.on b8a
  have AO8 := AO7.on b8a
  have RO8 := RO7.on b8a
  have RU8 := RU7.on b8a
  have AV8 := AV7.on b8a
  have RV8 := RV7.on b8a
  have AW8 := AW.on b8a
  have RW8 := RW.on b8a
  have B8 := btr B7 b8a
  have hn8 : n8 ≤ 66 := by omega
  have HL8 := Lib.hid l8
  clear AR7 RR7 RD7 AX7 RX7 AO7 RO7 RU7 AV7 RV7 AW RW B7 b8 b8a O8 Y1 l8
  go_upto_region 11 with fail
  generalize u8.alloc (.cells #[.int .i64 yc, .slice a8 n8 c8] 44) = W at *
  simp only [List.append_eq, List.cons_append, List.nil_append]
  go_cut [118] from 50 to 118 (fun v wx => WentOn W v wx)
  case first =>
    clear AR8 RR8 RD8 B8 HEC HES HEK HEX HET HL8 hl hm hbig hB
    refine wp_region_line (Bel W) [(0, true), (1, true), (2, true), (3, true), (4, true), (5, false), (6, true), (7, true), (8, true), (9, true), (10, true), (11, true), (12, true), (13, true), (14, false), (15, true), (16, false), (17, true), (18, true), (19, true), (20, true), (21, true), (22, true), (23, false), (24, true), (25, true), (26, true), (27, true), (28, true), (29, true), (30, true), (31, true), (32, true), (33, true), (36, true), (34, false), (35, true), (37, false), (38, true), (39, true), (40, true), (41, true), (42, true), (43, true), (44, true), (45, false), (46, true), (47, true), (48, true), (49, true), (50, true), (51, true), (52, false), (53, true), (54, true), (55, true), (56, true), (57, true), (58, true), (59, true), (60, true), (61, true), (64, true), (62, false), (63, true), (65, false), (66, true), (67, true), (68, true)] (by kernel_rfl) (by kernel_rfl) (fun _ _ d _ _ h => by cases d <;> exact h) (Bel.drew W) ?_
    have hst := Bel.drew W
    have inst : Nonempty (Of (Bel W)) := ⟨⟨_, hst⟩⟩
    have p0 := bel_cell (AO8.cell 0 _ rfl)
    have p1 := bel_cell (AO8.cell 1 _ rfl)
    have x0 := bel_cell (AX8.cell 0 _ rfl)
    have x1 := bel_cell (AX8.cell 1 _ rfl)
    have x2 := bel_cell (AX8.cell 2 _ rfl)
    have x3 := bel_cell (AX8.cell 3 _ rfl)
    iterate 5 (refine line_read rfl (by kernel_rfl) (fun K hK => ?_); go_big_quiet_op; refine hK _ ?_; clear hK K)
    refine line_alone rfl (by kernel_rfl) (fun K hK => ?_)
    refine call_any (args := #[.int .i64 p, .int .i64 q, R4 s3 k3 a3 n3 c3 t3]) rfl (by kernel_rfl) (by kernel_rfl) (I2 _ (RX8.on hst.out)) ?_
    rintro e V1 ⟨aa, na, ca, rfl, OA, ba⟩
    have hst2 := hst.on ba
    refine ⟨_, rfl, hK _ _ hst2 ?_⟩
    clear hK K hst OA ba
    simp only [Act.put, List.setIfInBounds_toArray, List.set_cons_zero, List.set_cons_succ]
    iterate 8 (refine line_read rfl (by kernel_rfl) (fun K hK => ?_); go_big_quiet_op; refine hK _ ?_; clear hK K)
    refine line_alone rfl (by kernel_rfl) (fun K hK => ?_)
    refine call_any (args := #[.int .i64 p, .int .i64 q, R4 s3 k3 a3 n3 c3 t3]) rfl (by kernel_rfl) (by kernel_rfl) (I2 _ (RX8.on hst2.out)) ?_
    rintro e V3 ⟨ab, nb, cb, rfl, OB, bb⟩
    have hst := hst2.on bb
    refine ⟨_, rfl, hK _ _ hst ?_⟩
    clear hK K hst2 bb x0 x1 x2 x3
    simp only [Act.put, List.setIfInBounds_toArray, List.set_cons_zero, List.set_cons_succ]
    iterate 1 (refine line_read rfl (by kernel_rfl) (fun K hK => ?_); go_big_quiet_op; refine hK _ ?_; clear hK K)
    refine line_alone rfl (by kernel_rfl) (fun K hK => ?_)
    refine call_wp (args := #[.slice a4 n4 c4, .slice ab nb cb]) rfl (by kernel_rfl) (by kernel_rfl) (lwBytes_any (RO8.on hst.out) (Own.row OB HWo.out)) (fun wn hbn => ?_)
    subst hbn
    refine hK _ _ hst ?_
    clear hK K
    simp only [Act.put, List.setIfInBounds_toArray, List.set_cons_zero, List.set_cons_succ]
    clear OB AX8 RX8 AO8 RO8 p0 p1 I2 HWo
    have p0 := bel_cell (AV8.cell 0 _ rfl)
    iterate 6 (refine line_read rfl (by kernel_rfl) (fun K hK => ?_); go_big_quiet_op; refine hK _ ?_; clear hK K)
    refine line_alone rfl (by kernel_rfl) (fun K hK => ?_)
    refine call_any (args := #[.slice a5 n5 c5]) rfl (by kernel_rfl) (by kernel_rfl) (V2 _ (RU8.on hst.out)) ?_
    rintro e V4 ⟨ac, nc, cc, rfl, OC, bc⟩
    have hst2 := hst.on bc
    refine ⟨_, rfl, hK _ _ hst2 ?_⟩
    clear hK K hst OC bc V2
    have hst := hst2
    clear hst2
    simp only [Act.put, List.setIfInBounds_toArray, List.set_cons_zero, List.set_cons_succ]
    iterate 6 (refine line_read rfl (by kernel_rfl) (fun K hK => ?_); go_big_quiet_op; refine hK _ ?_; clear hK K)
    rcases HFV.out with h | ⟨h, hp⟩
    · subst h
      clear PV HFV RU8 RV8 AV8
      iterate 2 (refine line_read rfl (by kernel_rfl) (fun K hK => ?_); go_big_quiet_op; refine hK _ ?_; clear hK K)
      iterate 7 (refine line_skip rfl (by kernel_rfl) ?_; simp only [Act.put, List.setIfInBounds_toArray, List.set_cons_zero, List.set_cons_succ])
      clear p0
      iterate 2 (refine line_read rfl (by kernel_rfl) (fun K hK => ?_); go_big_quiet_op; refine hK _ ?_; clear hK K)
      have p0 := bel_cell (AY.cell 0 _ rfl)
      have x0 := bel_cell (AW8.cell 0 _ rfl)
      have x1 := bel_cell (AW8.cell 1 _ rfl)
      have x2 := bel_cell (AW8.cell 2 _ rfl)
      have x3 := bel_cell (AW8.cell 3 _ rfl)
      iterate 4 (refine line_read rfl (by kernel_rfl) (fun K hK => ?_); go_big_quiet_op; refine hK _ ?_; clear hK K)
      refine line_alone rfl (by kernel_rfl) (fun K hK => ?_)
      refine call_wp (args := #[R4 s7 k7 a7 n7 c7 t7]) rfl (by kernel_rfl) (by kernel_rfl) (F1 _) (fun wn hbn => ?_)
      have hst2 := hst.on hbn
      refine hK _ _ hst2 ?_
      clear hK K hst hbn
      have hst := hst2
      clear hst2
      simp only [Act.put, List.setIfInBounds_toArray, List.set_cons_zero, List.set_cons_succ]
      iterate 6 (refine line_read rfl (by kernel_rfl) (fun K hK => ?_); go_big_quiet_op; refine hK _ ?_; clear hK K)
      refine line_alone rfl (by kernel_rfl) (fun K hK => ?_)
      refine call_wp (args := #[R4 s7 k7 a7 n7 c7 t7]) rfl (by kernel_rfl) (by kernel_rfl) (F2 _) (fun wn hbn => ?_)
      have hst2 := hst.on hbn
      refine hK _ _ hst2 ?_
      clear hK K hst hbn
      have hst := hst2
      clear hst2
      simp only [Act.put, List.setIfInBounds_toArray, List.set_cons_zero, List.set_cons_succ]
      iterate 5 (refine line_read rfl (by kernel_rfl) (fun K hK => ?_); go_big_quiet_op; refine hK _ ?_; clear hK K)
      rcases HFY.out with h | ⟨h, h0, h1, h2, h3, h4⟩
      · have h' : (yc == 0) = false := by rw [beq_eq_false_iff_ne]; exact h
        iterate 2 (refine line_read rfl (by kernel_rfl) (fun K hK => ?_); go_big_quiet_op; refine hK _ ?_; clear hK K)
        iterate 7 (refine line_skip rfl (by kernel_rfl) ?_; simp only [Act.put, List.setIfInBounds_toArray, List.set_cons_zero, List.set_cons_succ])
        iterate 2 (refine line_read rfl (by kernel_rfl) (fun K hK => ?_); go_big_quiet_op; refine hK _ ?_; clear hK K)
        refine line_nil ?_
        have HT := Lib.hid hst.out
        clear hst
        go_wp2_with fail
        go_meet
        case rel => exact ⟨rfl, HT.out⟩
      · subst h
        have p1 := bel_cell (AY.cell 1 _ rfl)
        have IY2 := fun w hR => IY a8 n8 c8 w (by omega) hR
        rw [h0, h1, h2, h3, h4] at IY2
        clear IY h0 h1 h2 h4
        iterate 5 (refine line_read rfl (by kernel_rfl) (fun K hK => ?_); go_big_quiet_op; refine hK _ ?_; clear hK K)
        refine line_alone rfl (by kernel_rfl) (fun K hK => ?_)
        refine call_any (args := #[.slice a8 n8 c8]) rfl (by kernel_rfl) (by kernel_rfl) (IY2 _ (RY.on hst.out)) ?_
        rintro e V8 ⟨af, nf, cf, rfl, OF, bf⟩
        have hst2 := hst.on bf
        refine ⟨_, rfl, hK _ _ hst2 ?_⟩
        clear hK K hst bf IY2
        have hst := hst2
        clear hst2
        simp only [Act.put, List.setIfInBounds_toArray, List.set_cons_zero, List.set_cons_succ]
        iterate 1 (refine line_read rfl (by kernel_rfl) (fun K hK => ?_); go_big_quiet_op; refine hK _ ?_; clear hK K)
        have SM := implSameRecords_any s7 k7 af nf cf t7 s7 k7 a7 n7 c7 t7 _ z7 z7 _ (Own.row OF RW8.wf) (RW8.on hst.out) (Nat.le_refl _)
        rw [sameR_self] at SM
        refine line_alone rfl (by kernel_rfl) (fun K hK => ?_)
        refine call_wp (args := #[R4 s7 k7 af nf cf t7, R4 s7 k7 a7 n7 c7 t7]) rfl (by kernel_rfl) (by kernel_rfl) (SM) (fun wn hbn => ?_)
        have hst2 := hst.on hbn
        refine hK _ _ hst2 ?_
        clear hK K hst hbn
        have hst := hst2
        clear hst2
        simp only [Act.put, List.setIfInBounds_toArray, List.set_cons_zero, List.set_cons_succ]
        clear OF
        iterate 3 (refine line_read rfl (by kernel_rfl) (fun K hK => ?_); go_big_quiet_op; refine hK _ ?_; clear hK K)
        refine line_nil ?_
        have HT := Lib.hid hst.out
        clear hst
        go_wp2_with fail
        go_meet
        case rel => exact ⟨rfl, HT.out⟩
    · subst h
      have x1 := bel_cell (AV8.cell 1 _ rfl)
      have x2 := bel_cell (AV8.cell 2 _ rfl)
      have x3 := bel_cell (AV8.cell 3 _ rfl)
      have x4 := bel_cell (AV8.cell 4 _ rfl)
      iterate 5 (refine line_read rfl (by kernel_rfl) (fun K hK => ?_); go_big_quiet_op; refine hK _ ?_; clear hK K)
      refine line_alone rfl (by kernel_rfl) (fun K hK => ?_)
      refine call_any (args := #[R4 vs vk a6 n6 c6 vt]) rfl (by kernel_rfl) (by kernel_rfl) (PV a6 n6 c6 _ (RV8.on hst.out)) ?_
      rintro e V5 ⟨ad, nd, cd, rfl, OD, bd⟩
      have hst2 := hst.on bd
      refine ⟨_, rfl, hK _ _ hst2 ?_⟩
      rw [hp] at OD
      clear hK K hst bd PV x1 x2 x3 x4 hp
      have hst := hst2
      clear hst2
      simp only [Act.put, List.setIfInBounds_toArray, List.set_cons_zero, List.set_cons_succ]
      iterate 1 (refine line_read rfl (by kernel_rfl) (fun K hK => ?_); go_big_quiet_op; refine hK _ ?_; clear hK K)
      refine line_alone rfl (by kernel_rfl) (fun K hK => ?_)
      refine call_wp (args := #[.slice ad nd cd, .slice a5 n5 c5]) rfl (by kernel_rfl) (by kernel_rfl) (lwBytes_any (Own.row OD HWU.out) (RU8.on hst.out)) (fun wn hbn => ?_)
      subst hbn
      refine hK _ _ hst ?_
      clear hK K
      simp only [Act.put, List.setIfInBounds_toArray, List.set_cons_zero, List.set_cons_succ]
      clear OD RU8 RV8 AV8 HFV p0
      iterate 3 (refine line_read rfl (by kernel_rfl) (fun K hK => ?_); go_big_quiet_op; refine hK _ ?_; clear hK K)
      have p0 := bel_cell (AY.cell 0 _ rfl)
      have x0 := bel_cell (AW8.cell 0 _ rfl)
      have x1 := bel_cell (AW8.cell 1 _ rfl)
      have x2 := bel_cell (AW8.cell 2 _ rfl)
      have x3 := bel_cell (AW8.cell 3 _ rfl)
      iterate 4 (refine line_read rfl (by kernel_rfl) (fun K hK => ?_); go_big_quiet_op; refine hK _ ?_; clear hK K)
      refine line_alone rfl (by kernel_rfl) (fun K hK => ?_)
      refine call_wp (args := #[R4 s7 k7 a7 n7 c7 t7]) rfl (by kernel_rfl) (by kernel_rfl) (F1 _) (fun wn hbn => ?_)
      have hst2 := hst.on hbn
      refine hK _ _ hst2 ?_
      clear hK K hst hbn
      have hst := hst2
      clear hst2
      simp only [Act.put, List.setIfInBounds_toArray, List.set_cons_zero, List.set_cons_succ]
      iterate 6 (refine line_read rfl (by kernel_rfl) (fun K hK => ?_); go_big_quiet_op; refine hK _ ?_; clear hK K)
      refine line_alone rfl (by kernel_rfl) (fun K hK => ?_)
      refine call_wp (args := #[R4 s7 k7 a7 n7 c7 t7]) rfl (by kernel_rfl) (by kernel_rfl) (F2 _) (fun wn hbn => ?_)
      have hst2 := hst.on hbn
      refine hK _ _ hst2 ?_
      clear hK K hst hbn
      have hst := hst2
      clear hst2
      simp only [Act.put, List.setIfInBounds_toArray, List.set_cons_zero, List.set_cons_succ]
      iterate 5 (refine line_read rfl (by kernel_rfl) (fun K hK => ?_); go_big_quiet_op; refine hK _ ?_; clear hK K)
      rcases HFY.out with h | ⟨h, h0, h1, h2, h3, h4⟩
      · have h' : (yc == 0) = false := by rw [beq_eq_false_iff_ne]; exact h
        iterate 2 (refine line_read rfl (by kernel_rfl) (fun K hK => ?_); go_big_quiet_op; refine hK _ ?_; clear hK K)
        iterate 7 (refine line_skip rfl (by kernel_rfl) ?_; simp only [Act.put, List.setIfInBounds_toArray, List.set_cons_zero, List.set_cons_succ])
        iterate 2 (refine line_read rfl (by kernel_rfl) (fun K hK => ?_); go_big_quiet_op; refine hK _ ?_; clear hK K)
        refine line_nil ?_
        have HT := Lib.hid hst.out
        clear hst
        go_wp2_with fail
        go_meet
        case rel => exact ⟨rfl, HT.out⟩
      · subst h
        have p1 := bel_cell (AY.cell 1 _ rfl)
        have IY2 := fun w hR => IY a8 n8 c8 w (by omega) hR
        rw [h0, h1, h2, h3, h4] at IY2
        clear IY h0 h1 h2 h4
        iterate 5 (refine line_read rfl (by kernel_rfl) (fun K hK => ?_); go_big_quiet_op; refine hK _ ?_; clear hK K)
        refine line_alone rfl (by kernel_rfl) (fun K hK => ?_)
        refine call_any (args := #[.slice a8 n8 c8]) rfl (by kernel_rfl) (by kernel_rfl) (IY2 _ (RY.on hst.out)) ?_
        rintro e V8 ⟨af, nf, cf, rfl, OF, bf⟩
        have hst2 := hst.on bf
        refine ⟨_, rfl, hK _ _ hst2 ?_⟩
        clear hK K hst bf IY2
        have hst := hst2
        clear hst2
        simp only [Act.put, List.setIfInBounds_toArray, List.set_cons_zero, List.set_cons_succ]
        iterate 1 (refine line_read rfl (by kernel_rfl) (fun K hK => ?_); go_big_quiet_op; refine hK _ ?_; clear hK K)
        have SM := implSameRecords_any s7 k7 af nf cf t7 s7 k7 a7 n7 c7 t7 _ z7 z7 _ (Own.row OF RW8.wf) (RW8.on hst.out) (Nat.le_refl _)
        rw [sameR_self] at SM
        refine line_alone rfl (by kernel_rfl) (fun K hK => ?_)
        refine call_wp (args := #[R4 s7 k7 af nf cf t7, R4 s7 k7 a7 n7 c7 t7]) rfl (by kernel_rfl) (by kernel_rfl) (SM) (fun wn hbn => ?_)
        have hst2 := hst.on hbn
        refine hK _ _ hst2 ?_
        clear hK K hst hbn
        have hst := hst2
        clear hst2
        simp only [Act.put, List.setIfInBounds_toArray, List.set_cons_zero, List.set_cons_succ]
        clear OF
        iterate 3 (refine line_read rfl (by kernel_rfl) (fun K hK => ?_); go_big_quiet_op; refine hK _ ?_; clear hK K)
        refine line_nil ?_
        have HT := Lib.hid hst.out
        clear hst
        go_wp2_with fail
        go_meet
        case rel => exact ⟨rfl, HT.out⟩
  case rest =>
    obtain ⟨rfl, bC⟩ := hcut
    have AR9 := AR8.on bC
    have RR9 := RR8.on bC
    have RD9 := RD8.on bC
    have B9 := btr B8 bC
    clear AR8 RR8 RD8 AX8 RX8 AO8 RO8 RU8 AV8 RV8 AW8 RW8 AY RY B8 bC I2 V2 PV F1 F2 IY HFV HFY HWo HWv HWU HWy HL8
    by_cases hE : ec = 0
    · subst hE
      have hC := HEC.out
      obtain ⟨hx, hy, hz, hn⟩ := sealC_zero hC
      have e1 : seS x y z z1 = y := by unfold seS; rw [if_pos hC]
      have e2 : seK x y z z1 = z := by unfold seK; rw [if_pos hC]
      have e3 : seX x y z z1 = M.turnL x y z1 := by unfold seX; rw [if_pos hC]
      have e4 : seT x y z z1 = M.recT x y z (M.turnL x y z1) := by unfold seT; rw [if_pos hC]
      rw [← HES.out, ← HEK.out, ← HET.out, e1, e2, e4] at AR9
      rw [← HEX.out, e3] at RR9
      have hL : (M.turnL x y z1).length ≤ 60 := by rw [M.turnL_length]; exact hn
      obtain ⟨y0, y1⟩ := M.sumB_bd hy
      have hy2 : 0 ≤ (y + 1) % 65520 ∧ (y + 1) % 65520 < 65520 ∧ y ≠ (y + 1) % 65520 := by omega
      obtain ⟨y2, y3, y4⟩ := hy2
      have O1 : M.openC x y y z (M.turnL x y z1) (M.recT x y z (M.turnL x y z1)) = 0 := by
        unfold M.openC
        rw [M.recF_ok hy hz (M.recT_sum _ _ _ _) hL, hx, hy]
        simp
      have O2 : M.openL x y y z (M.turnL x y z1) (M.recT x y z (M.turnL x y z1)) = z1 := by
        unfold M.openL
        rw [if_pos O1]
        exact M.turnL_twice RD9.bytes
      have O3 : M.openC x ((y + 1) % 65520) y z (M.turnL x y z1) (M.recT x y z (M.turnL x y z1)) = 8 := by
        unfold M.openC
        rw [M.recF_ok hy hz (M.recT_sum _ _ _ _) hL, hx, show M.sumB ((y + 1) % 65520) = true by simp [M.sumB]; omega]
        simp [y4]
      have P1 := fun w hL hR => implOpenRecord_any x y y z aR nR cR (M.recT x y z (M.turnL x y z1)) w.heap.size (M.turnL x y z1) w hL hR (Nat.le_refl _)
      have P2 := fun w hL hR => implOpenRecord_any x ((y + 1) % 65520) y z aR nR cR (M.recT x y z (M.turnL x y z1)) w.heap.size (M.turnL x y z1) w hL hR (Nat.le_refl _)
      rw [O1, O2] at P1
      rw [O3] at P2
      have F1 := fun w => implRecordFault_any y z aR nR cR (M.recT x y z (M.turnL x y z1)) w (Nat.le_trans RR9.fits RR9.most)
      rw [M.recF_ok hy hz (M.recT_sum _ _ _ _) (by rw [← RR9.length]; exact hL)] at F1
      have Q1 := fun w hR => (specSealData_any x y z a1 n1 c1 w.heap.size z1 w hR (Nat.le_refl _)).mono fun _ _ h => h.all
      rw [e1, e2, e3, e4, hC] at Q1
      have HWt := Lib.hid (fun z hz => byte_wf (M.turnL_byte (key := x) (seq := y) RD9.bytes z hz))
      have SM := fun a n c w hR hQ => implSameRecords_any y z aR nR cR (M.recT x y z (M.turnL x y z1)) y z a n c (M.recT x y z (M.turnL x y z1)) w.heap.size (M.turnL x y z1) (M.turnL x y z1) w hR hQ (Nat.le_refl _)
      simp only [sameR_self] at SM
      generalize M.openL x ((y + 1) % 65520) y z (M.turnL x y z1) (M.recT x y z (M.turnL x y z1)) = ol2 at *
      clear O1 O2 O3 e1 e2 e3 e4 HEC HES HEK HEX HET hC
      generalize M.recT x y z (M.turnL x y z1) = tg at *
      generalize M.turnL x y z1 = ys at *
      have p0 := AR9.cell 0 _ rfl
      have p1 := AR9.cell 1 _ rfl
      have p2 := AR9.cell 2 _ rfl
      have p3 := AR9.cell 3 _ rfl
      have p4 := AR9.cell 4 _ rfl
      go_wp2_with fail
      refine (P1 _ (lab.on B9) RR9).mono ?_
      rintro r u1 ⟨ap, np, cp, rfl, OP, bp⟩
      have bpa := bal bp (.cells #[.int .i64 0, .slice ap np cp] 44)
      have AP := At.new u1 [.int .i64 0, .slice ap np cp] 44
      have RP := (Own.row OP RD9.wf).on (bal (Below.refl _ u1) (.cells #[.int .i64 0, .slice ap np cp] 44))
      have AR := AR9.on bpa
      have RR := RR9.on bpa
      have RD := RD9.on bpa
      have B := btr B9 bpa
      clear p0 p1 p2 p3 p4
      have p0 := (AR9.on bp).cell 0 _ rfl
      have p1 := (AR9.on bp).cell 1 _ rfl
      have p2 := (AR9.on bp).cell 2 _ rfl
      have p3 := (AR9.on bp).cell 3 _ rfl
      have p4 := (AR9.on bp).cell 4 _ rfl
      have ltR := (AR9.on bp).lt (by simp)
      clear P1 OP bp bpa AR9 RR9 RD9 B9
      go_wp2_with fail
      generalize u1.alloc (.cells #[.int .i64 0, .slice ap np cp] 44) = v1 at *
      refine (P2 _ (lab.on B) RR).mono ?_
      rintro r u2' ⟨al, nl, cl, rfl, OL, bl⟩
      have bla := bal bl (.cells #[.int .i64 8, .slice al nl cl] 44)
      have AL := At.new u2' [.int .i64 8, .slice al nl cl] 44
      have ARb := AR.on bla
      have RRb := RR.on bla
      have RDb := RD.on bla
      have APb := AP.on bla
      have RPb := RP.on bla
      have Bb := btr B bla
      clear p0 p1 p2 p3 p4 P2 OL bl bla AR RR RD AP RP B
      go_wp2_with fail
      generalize u2'.alloc (.cells #[.int .i64 8, .slice al nl cl] 44) = v2' at *
      refine wp_region_line (Bel v2') [(0, true), (1, true), (2, true), (3, true), (4, true), (5, true), (6, true), (7, false), (8, true), (9, true), (10, true), (11, true), (12, false), (13, true), (14, true), (15, true), (16, true), (17, true), (18, true), (19, true), (20, true), (21, true), (22, true), (23, true), (24, true), (25, true), (26, true), (27, false), (28, true), (29, false), (30, true), (31, true)] (by kernel_rfl) (by kernel_rfl) (fun _ _ d _ _ h => by cases d <;> exact h) (Bel.drew v2') ?_
      have hst := Bel.drew v2'
      have inst : Nonempty (Of (Bel v2')) := ⟨⟨_, hst⟩⟩
      have p0 := bel_cell (APb.cell 0 _ rfl)
      have p1 := bel_cell (APb.cell 1 _ rfl)
      have l0 := bel_cell (AL.cell 0 _ rfl)
      have x1 := bel_cell (ARb.cell 1 _ rfl)
      have x2 := bel_cell (ARb.cell 2 _ rfl)
      have x3 := bel_cell (ARb.cell 3 _ rfl)
      have x4 := bel_cell (ARb.cell 4 _ rfl)
      iterate 7 (refine line_read rfl (by kernel_rfl) (fun K hK => ?_); go_big_quiet_op; refine hK _ ?_; clear hK K)
      refine line_alone rfl (by kernel_rfl) (fun K hK => ?_)
      refine call_wp (args := #[.slice ap np cp, .slice a1 n1 c1]) rfl (by kernel_rfl) (by kernel_rfl) (lwBytes_any (RPb.on hst.out) (RDb.on hst.out)) (fun wn hbn => ?_)
      subst hbn
      refine hK _ _ hst ?_
      clear hK K
      simp only [Act.put, List.setIfInBounds_toArray, List.set_cons_zero, List.set_cons_succ]
      iterate 4 (refine line_read rfl (by kernel_rfl) (fun K hK => ?_); go_big_quiet_op; refine hK _ ?_; clear hK K)
      refine line_alone rfl (by kernel_rfl) (fun K hK => ?_)
      refine call_wp (args := #[R4 y z aR nR cR tg]) rfl (by kernel_rfl) (by kernel_rfl) (F1 _) (fun wn hbn => ?_)
      have hst2 := hst.on hbn
      refine hK _ _ hst2 ?_
      clear hK K hst hbn
      have hst := hst2
      clear hst2
      simp only [Act.put, List.setIfInBounds_toArray, List.set_cons_zero, List.set_cons_succ]
      iterate 14 (refine line_read rfl (by kernel_rfl) (fun K hK => ?_); go_big_quiet_op; refine hK _ ?_; clear hK K)
      refine line_alone rfl (by kernel_rfl) (fun K hK => ?_)
      refine call_any (args := #[.int .i64 x, .int .i64 y, .int .i64 z, .slice a1 n1 c1]) rfl (by kernel_rfl) (by kernel_rfl) (Q1 _ (RDb.on hst.out)) ?_
      rintro e V8 ⟨af, nf, cf, rfl, OF, bf⟩
      have hst2 := hst.on bf
      refine ⟨_, rfl, hK _ _ hst2 ?_⟩
      clear hK K hst bf Q1
      have hst := hst2
      clear hst2
      simp only [Act.put, List.setIfInBounds_toArray, List.set_cons_zero, List.set_cons_succ]
      iterate 1 (refine line_read rfl (by kernel_rfl) (fun K hK => ?_); go_big_quiet_op; refine hK _ ?_; clear hK K)
      refine line_alone rfl (by kernel_rfl) (fun K hK => ?_)
      refine call_wp (args := #[R4 y z aR nR cR tg, R4 y z af nf cf tg]) rfl (by kernel_rfl) (by kernel_rfl) (SM af nf cf _ (RRb.on hst.out) (Own.row OF HWt.out)) (fun wn hbn => ?_)
      have hst2 := hst.on hbn
      refine hK _ _ hst2 ?_
      clear hK K hst hbn
      have hst := hst2
      clear hst2
      simp only [Act.put, List.setIfInBounds_toArray, List.set_cons_zero, List.set_cons_succ]
      clear OF
      iterate 2 (refine line_read rfl (by kernel_rfl) (fun K hK => ?_); go_big_quiet_op; refine hK _ ?_; clear hK K)
      refine line_nil ?_
      have hb := btr Bb hst.out
      clear p0 p1 l0 x1 x2 x3 x4
      go_wp2_with fail
      go_ret
      exact ⟨rfl, hb⟩
    · have hE' : (ec != 0) = true := by simpa [bne] using hE
      have S2 := fun w hR => (specSealData_any x y z a1 n1 c1 w.heap.size z1 w hR (Nat.le_refl _)).mono fun _ _ h => h.all
      rw [HEC.out, HES.out, HEK.out, HEX.out, HET.out] at S2
      have c0 := AR9.cell 0 _ rfl
      clear hE HEC HES HEK HEX HET
      go_wp2_with fail
      refine wp_region_line (Bel wc) [(0, true), (1, true), (2, true), (3, true), (6, true), (7, true), (4, false), (5, true), (8, true), (9, true)] (by kernel_rfl) (by kernel_rfl) (fun _ _ d _ _ h => by cases d <;> exact h) (Bel.drew wc) ?_
      have hst := Bel.drew wc
      have inst : Nonempty (Of (Bel wc)) := ⟨⟨_, hst⟩⟩
      have k0 := bel_cell c0
      iterate 6 (refine line_read rfl (by kernel_rfl) (fun K hK => ?_); go_big_quiet_op; refine hK _ ?_; clear hK K)
      refine line_alone rfl (by kernel_rfl) (fun K hK => ?_)
      refine call_any (args := #[.int .i64 x, .int .i64 y, .int .i64 z, .slice a1 n1 c1]) rfl (by kernel_rfl) (by kernel_rfl) (S2 _ (RD9.on hst.out)) ?_
      rintro e2 u3 ⟨a3, n3, c3, rfl, O3, b3⟩
      have hst2 := hst.on b3
      refine ⟨_, rfl, hK _ _ hst2 ?_⟩
      clear hK K hst O3 b3
      simp only [Act.put, List.setIfInBounds_toArray, List.set_cons_zero, List.set_cons_succ]
      iterate 3 (refine line_read rfl (by kernel_rfl) (fun K hK => ?_); go_big_quiet_op; refine hK _ ?_; clear hK K)
      refine line_nil ?_
      have hb := btr B9 hst2.out
      go_wp2_with fail
      go_ret
      exact ⟨rfl, hb⟩

end Go.Proofs.YtjlhldndomaknaaDoor.fnSeals
