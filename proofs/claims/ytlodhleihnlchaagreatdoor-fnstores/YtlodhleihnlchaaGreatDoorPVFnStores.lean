/- What was noted is in the journal, which tells just the pins that there are, at every input that is drawn out of whatever bytes. The walk: the law's Go text answers true and turns nothing that was there. Conditions: as the theorem states. -/
import Derived.Test.YtlodhleihnlchaaGreatDoorX5
import Derived.Test.YtlodhleihnlchaaGreatDoorX10
import Derived.Test.YtlodhleihnlchaaGreatDoorX11
import Derived.Test.YtlodhleihnlchaaGreatDoorX12
import Derived.Test.YtlodhleihnlchaaGreatDoorX13
import Derived.Test.YtlodhleihnlchaaGreatDoorX15
import Derived.Test.YtlodhleihnlchaaGreatDoorX17
import Derived.WalkKit
import Derived.Below
namespace Go.Proofs.YtlodhleihnlchaaGreatDoor.fnStores
open Go.RowKit
set_option linter.unusedVariables false

/-- Nothing of it has turned, and what was told is false. -/
def WentOn (W : World) (v : Value) (wx : World) : Prop := v = .bool false ∧ Below W.heap.size W wx
theorem sameSt_self (s : StoreD) : sameSt s s = true := by unfold sameSt; rw [sameL_self]; simp
theorem pinr1 (c : Int) (p : PinD) (w : World) : Sem.run Tryz.prog (Instr.field 74 (RP6 c p) 1) w = .ok (P5 p) w := by kernel_rfl
theorem pins_ne (p : PinD) (w : World) : (binOp .neq 59 (P5 p) (P5 p)).run Tryz.prog w = .ok (.bool false) w := by rw [pin_neq, pinEq_self]; rfl
theorem pins_eq (p : PinD) (w : World) : (binOp .eql 59 (P5 p) (P5 p)).run Tryz.prog w = .ok (.bool true) w := by rw [pin_eql, pinEq_self]
set_option maxHeartbeats 4000000 in
set_option maxRecDepth 100000 in
theorem walk (a0 : Option Addr) (len0 cap0 : Nat) (z0 : List Int) (w : World) (w0 : Row .u8 w w.heap.size a0 len0 cap0 z0) (lab : Labels w) (ert : ErrT w) :
    Calls Tryz.prog 4 #[.slice a0 len0 cap0] w fun e w' => e = .returned (.bool true) ∧ Below w.heap.size w w' := by
  have hl := w0.fits
  have hm := w0.most
  unfold maxLen at hm
  by_cases hbig : 1048576 < len0
  · have hB : decide (1048576 < len0) = true := by simp [hbig]
    go_enter Tryz.func4, Tryz.ntmps4
    go_wp2_with fail
    refine (lwBig_any _ _ _ _ (by omega)).mono ?_
    rintro r w' ⟨rfl, rfl⟩
    go_wp2_with fail
    go_ret
    exact ⟨rfl, Below.refl _ _⟩
  have hB : decide (1048576 < len0) = false := by simp [hbig]
  go_enter Tryz.func4, Tryz.ntmps4
  go_wp2_with fail
  refine (lwBig_any _ _ _ _ (by omega)).mono ?_
  rintro r w' ⟨rfl, rfl⟩
  go_wp2_with fail
  refine (DrawNotePin_any w0).mono ?_
  rintro r u1 ⟨a1, n1, c1, a2, n2, c2, s, p, rfl, hp, RS, b1⟩
  have hpm : p.n.size ≤ maxLen := by simp only [maxLen]; omega
  have bS := bal (bal (Below.refl _ u1) (.cells #[.slice a1 n1 c1, .slice a2 n2 c2, .int .i64 s.d.s] 57)) (.cells #[.string p.n, .int .i64 p.a, .int .i64 p.b, .int .i64 p.e, .int .i64 p.u] 59)
  have b1a := btr b1 bS
  have AS : At u1.heap.size (S3L a1 n1 c1 a2 n2 c2 s.d.s) ((u1.alloc (.cells #[.slice a1 n1 c1, .slice a2 n2 c2, .int .i64 s.d.s] 57)).alloc (.cells #[.string p.n, .int .i64 p.a, .int .i64 p.b, .int .i64 p.e, .int .i64 p.u] 59)) := (At.new u1 (S3L a1 n1 c1 a2 n2 c2 s.d.s) 57).alloc _
  have AP : At (u1.heap.size + 1) p.vals ((u1.alloc (.cells #[.slice a1 n1 c1, .slice a2 n2 c2, .int .i64 s.d.s] 57)).alloc (.cells #[.string p.n, .int .i64 p.a, .int .i64 p.b, .int .i64 p.e, .int .i64 p.u] 59)) := by
    have h := At.new (u1.alloc (.cells #[.slice a1 n1 c1, .slice a2 n2 c2, .int .i64 s.d.s] 57)) p.vals 59
    rw [show (u1.alloc (.cells #[.slice a1 n1 c1, .slice a2 n2 c2, .int .i64 s.d.s] 57)).heap.size = u1.heap.size + 1 by simp] at h
    exact h
  have RS1 := RS.on bS
  have NI := fun w hR => implNotePin_any a1 n1 c1 a2 n2 c2 w.heap.size s p w hR (Nat.le_refl _) hpm
  have ns := fun w hR => specNotePin_any a1 n1 c1 a2 n2 c2 w.heap.size s p w hR (Nat.le_refl _) hpm
  unfold StoreRes at NI ns
  have NS := Lib.hid ns
  have SF := Lib.hid (fun w hR => implStoreFault_any a1 n1 c1 a2 n2 c2 w.heap.size s w hR (Nat.le_refl _))
  have SG := Lib.hid (fun w hR => specStoreFault_any a1 n1 c1 a2 n2 c2 w.heap.size s w hR (Nat.le_refl _))
  have HN := Lib.hid (fun h : noteC s p = 0 => note_ok h)
  have ZF := Lib.hid (fun w hR => (show Calls Tryz.prog 38 #[S3 none 0 0 none 0 0 0] w (fun r w' => r = .returned (.int .i64 0) ∧ Below w.heap.size w w') from by
    have := implStoreFault_any none 0 0 none 0 0 w.heap.size store0 w hR (Nat.le_refl _)
    rwa [store0_f] at this))
  have kk0 := AS.cell 0 _ rfl
  have kk1 := AS.cell 1 _ rfl
  have kk2 := AS.cell 2 _ rfl
  have pp0 := AP.cell 0 _ rfl
  have pp1 := AP.cell 1 _ rfl
  have pp2 := AP.cell 2 _ rfl
  have pp3 := AP.cell 3 _ rfl
  have pp4 := AP.cell 4 _ rfl
  clear RS b1 bS ns
  go_wp2_with fail
  generalize (u1.alloc (.cells #[.slice a1 n1 c1, .slice a2 n2 c2, .int .i64 s.d.s] 57)).alloc (.cells #[.string p.n, .int .i64 p.a, .int .i64 p.b, .int .i64 p.e, .int .i64 p.u] 59) = v1 at *
  refine (NI _ RS1).mono ?_
  rintro r u2 ⟨x1, m1, e1, x2, m2, e2, rfl, SO, b2⟩
  obtain ⟨rfl, rfl⟩ := SO.len
  generalize hS : noteS s p = N at *
  generalize hC : noteC s p = NC at *
  have HS := Lib.hid hS
  clear hS hC
  have b2a := bal b2 (.cells #[.int .i64 NC, .slice x1 N.ps.length e1, .slice x2 N.d.rs.length e2, .int .i64 N.d.s] 63)
  have AN : At u2.heap.size (V4R NC x1 N.ps.length e1 x2 N.d.rs.length e2 N.d.s) (u2.alloc (.cells #[.int .i64 NC, .slice x1 N.ps.length e1, .slice x2 N.d.rs.length e2, .int .i64 N.d.s] 63)) := At.new u2 (V4R NC x1 N.ps.length e1 x2 N.d.rs.length e2 N.d.s) 63
  have RN := SO.row.on (bal (Below.refl _ u2) (.cells #[.int .i64 NC, .slice x1 N.ps.length e1, .slice x2 N.d.rs.length e2, .int .i64 N.d.s] 63))
  have AS2 := AS.on b2a
  have AP2 := AP.on b2a
  have RS2 := RS1.on b2a
  have B2 := btr b1a b2a
  clear b1a b2 b2a RS1 AS AP SO NI kk0 kk1 kk2 pp0 pp1 pp2 pp3 pp4
  go_wp2_with fail
  generalize u2.alloc (.cells #[.int .i64 NC, .slice x1 N.ps.length e1, .slice x2 N.d.rs.length e2, .int .i64 N.d.s] 63) = v2 at *
  refine (DrawRollStore_any (w0.on B2)).mono ?_
  rintro r u3 ⟨b1, k1, h1, b2, k2, h2, x, g, t, rfl, hg, ht, RX0, b3⟩
  have hgm : g.p.n.size ≤ maxLen := by simp only [maxLen]; omega
  have bX := bal (bal (Below.refl _ u3) (.cells #[.slice b1 k1 h1, .slice b2 k2 h2, .int .i64 x.d.s] 57)) (.cells #[.string g.p.n, .int .i64 g.p.a, .int .i64 g.p.b, .int .i64 g.p.e, .int .i64 g.p.u, .int .i64 g.b, .int .i64 g.x, .int .i64 g.y] 66)
  have b3a := btr b3 bX
  have AX : At u3.heap.size (S3L b1 k1 h1 b2 k2 h2 x.d.s) ((u3.alloc (.cells #[.slice b1 k1 h1, .slice b2 k2 h2, .int .i64 x.d.s] 57)).alloc (.cells #[.string g.p.n, .int .i64 g.p.a, .int .i64 g.p.b, .int .i64 g.p.e, .int .i64 g.p.u, .int .i64 g.b, .int .i64 g.x, .int .i64 g.y] 66)) := (At.new u3 (S3L b1 k1 h1 b2 k2 h2 x.d.s) 57).alloc _
  have AG : At (u3.heap.size + 1) g.vals ((u3.alloc (.cells #[.slice b1 k1 h1, .slice b2 k2 h2, .int .i64 x.d.s] 57)).alloc (.cells #[.string g.p.n, .int .i64 g.p.a, .int .i64 g.p.b, .int .i64 g.p.e, .int .i64 g.p.u, .int .i64 g.b, .int .i64 g.x, .int .i64 g.y] 66)) := by
    have h := At.new (u3.alloc (.cells #[.slice b1 k1 h1, .slice b2 k2 h2, .int .i64 x.d.s] 57)) g.vals 66
    rw [show (u3.alloc (.cells #[.slice b1 k1 h1, .slice b2 k2 h2, .int .i64 x.d.s] 57)).heap.size = u3.heap.size + 1 by simp] at h
    exact h
  have RX3 := RX0.on bX
  have YI := fun w lab ert hR => implRollStore_any b1 k1 h1 b2 k2 h2 w.heap.size x g t w lab ert hR (Nat.le_refl _) hgm
  have ys := fun w hR => specRollStore_any b1 k1 h1 b2 k2 h2 w.heap.size x g t w hR (Nat.le_refl _) hgm
  unfold StoreRes at YI ys
  have YS := Lib.hid ys
  have HY := Lib.hid (fun h : rollC x g t = 0 => roll_ok h)
  have AN3 := AN.on b3a
  have RN3 := RN.on b3a
  have AS3 := AS2.on b3a
  have AP3 := AP2.on b3a
  have RS3 := RS2.on b3a
  have B3 := btr B2 b3a
  have kk0 := AX.cell 0 _ rfl
  have kk1 := AX.cell 1 _ rfl
  have kk2 := AX.cell 2 _ rfl
  have pp0 := AG.cell 0 _ rfl
  have pp1 := AG.cell 1 _ rfl
  have pp2 := AG.cell 2 _ rfl
  have pp3 := AG.cell 3 _ rfl
  have pp4 := AG.cell 4 _ rfl
  have pp5 := AG.cell 5 _ rfl
  have pp6 := AG.cell 6 _ rfl
  have pp7 := AG.cell 7 _ rfl
  clear RX0 b3 bX ys b3a AN RN AS2 AP2 RS2 B2
  go_wp2_with fail
  generalize (u3.alloc (.cells #[.slice b1 k1 h1, .slice b2 k2 h2, .int .i64 x.d.s] 57)).alloc (.cells #[.string g.p.n, .int .i64 g.p.a, .int .i64 g.p.b, .int .i64 g.p.e, .int .i64 g.p.u, .int .i64 g.b, .int .i64 g.x, .int .i64 g.y] 66) = v3 at *
  refine (YI _ (lab.on B3) (ert.on B3) RX3).mono ?_
  rintro r u4 ⟨y1, m1, o1, y2, m2, o2, rfl, SO, b4⟩
  obtain ⟨rfl, rfl⟩ := SO.len
  generalize rollSt x g t = Y at *
  generalize rollC x g t = YC at *
  have b4a := bal b4 (.cells #[.int .i64 YC, .slice y1 Y.ps.length o1, .slice y2 Y.d.rs.length o2, .int .i64 Y.d.s] 63)
  have AY : At u4.heap.size (V4R YC y1 Y.ps.length o1 y2 Y.d.rs.length o2 Y.d.s) (u4.alloc (.cells #[.int .i64 YC, .slice y1 Y.ps.length o1, .slice y2 Y.d.rs.length o2, .int .i64 Y.d.s] 63)) := At.new u4 (V4R YC y1 Y.ps.length o1 y2 Y.d.rs.length o2 Y.d.s) 63
  have RY4 := SO.row.on (bal (Below.refl _ u4) (.cells #[.int .i64 YC, .slice y1 Y.ps.length o1, .slice y2 Y.d.rs.length o2, .int .i64 Y.d.s] 63))
  have AX4 := AX.on b4a
  have AG4 := AG.on b4a
  have RX4 := RX3.on b4a
  have AN4 := AN3.on b4a
  have RN4 := RN3.on b4a
  have AS4 := AS3.on b4a
  have AP4 := AP3.on b4a
  have RS4 := RS3.on b4a
  have B4 := btr B3 b4a
  clear b4 b4a AX AG RX3 AN3 RN3 AS3 AP3 RS3 B3 SO YI kk0 kk1 kk2 pp0 pp1 pp2 pp3 pp4 pp5 pp6 pp7
  go_wp2_with fail
  generalize u4.alloc (.cells #[.int .i64 YC, .slice y1 Y.ps.length o1, .slice y2 Y.d.rs.length o2, .int .i64 Y.d.s] 63) = v4 at *
  refine (DrawSyncStore_any (w0.on B4)).mono ?_
  rintro r u5 ⟨f1, l1, i1, f2, l2, i2, u, rfl, RU0, b5⟩
  have bU := bal (Below.refl _ u5) (.cells #[.slice f1 l1 i1, .slice f2 l2 i2, .int .i64 u.d.s] 57)
  have b5a := btr b5 bU
  have AU : At u5.heap.size (S3L f1 l1 i1 f2 l2 i2 u.d.s) (u5.alloc (.cells #[.slice f1 l1 i1, .slice f2 l2 i2, .int .i64 u.d.s] 57)) := At.new u5 (S3L f1 l1 i1 f2 l2 i2 u.d.s) 57
  have RU5 := RU0.on bU
  have HL2 := Lib.hid RU5.rs.length
  have hul := RU5.rs.fits
  have hum := RU5.rs.most
  unfold maxLen at hum
  have UI := fun w hR => implSyncStore_any f1 l1 i1 f2 l2 i2 w.heap.size u w hR (Nat.le_refl _)
  have us := fun w hR => specSyncStore_any f1 l1 i1 f2 l2 i2 w.heap.size u w hR (Nat.le_refl _)
  unfold StoreRes at UI us
  have US := Lib.hid us
  have HV := Lib.hid (fun h : storeF u = 0 => (show storeF (syncS u) = 0 ∧ (syncS u).d.s = (l2 : Int) from by have := sync_f h; rwa [HL2.out] at this))
  have AY5 := AY.on b5a
  have RY5 := RY4.on b5a
  have AX5 := AX4.on b5a
  have AG5 := AG4.on b5a
  have RX5 := RX4.on b5a
  have AN5 := AN4.on b5a
  have RN5 := RN4.on b5a
  have AS5 := AS4.on b5a
  have AP5 := AP4.on b5a
  have RS5 := RS4.on b5a
  have B5 := btr B4 b5a
  have kk0 := AU.cell 0 _ rfl
  have kk1 := AU.cell 1 _ rfl
  have kk2 := AU.cell 2 _ rfl
  clear RU0 b5 bU us b5a AY RY4 AX4 AG4 RX4 AN4 RN4 AS4 AP4 RS4 B4
  go_wp2_with fail
  generalize u5.alloc (.cells #[.slice f1 l1 i1, .slice f2 l2 i2, .int .i64 u.d.s] 57) = v5 at *
  refine (UI _ RU5).mono ?_
  rintro r u6 ⟨z1, m1, r1, z2, m2, r2, rfl, SO, b6⟩
  obtain ⟨rfl, rfl⟩ := SO.len
  generalize syncS u = V at *
  generalize storeF u = VC at *
  have b6a := bal b6 (.cells #[.int .i64 VC, .slice z1 V.ps.length r1, .slice z2 V.d.rs.length r2, .int .i64 V.d.s] 63)
  have AV : At u6.heap.size (V4R VC z1 V.ps.length r1 z2 V.d.rs.length r2 V.d.s) (u6.alloc (.cells #[.int .i64 VC, .slice z1 V.ps.length r1, .slice z2 V.d.rs.length r2, .int .i64 V.d.s] 63)) := At.new u6 (V4R VC z1 V.ps.length r1 z2 V.d.rs.length r2 V.d.s) 63
  have RV := SO.row.on (bal (Below.refl _ u6) (.cells #[.int .i64 VC, .slice z1 V.ps.length r1, .slice z2 V.d.rs.length r2, .int .i64 V.d.s] 63))
  have AU := AU.on b6a
  have RU := RU5.on b6a
  have AY := AY5.on b6a
  have RY := RY5.on b6a
  have AX := AX5.on b6a
  have AG := AG5.on b6a
  have RX := RX5.on b6a
  have AN := AN5.on b6a
  have RN := RN5.on b6a
  have AS := AS5.on b6a
  have AP := AP5.on b6a
  have RS := RS5.on b6a
  have B6 := btr B5 b6a
  clear b6 b6a RU5 AY5 RY5 AX5 AG5 RX5 AN5 RN5 AS5 AP5 RS5 B5 SO UI kk0 kk1 kk2
  go_upto_region 9 with fail
  generalize u6.alloc (.cells #[.int .i64 VC, .slice z1 V.ps.length r1, .slice z2 V.d.rs.length r2, .int .i64 V.d.s] 63) = W at *
  go_cut [103] from 37 to 103 (fun v wx => WentOn W v wx)
  case first =>
    clear hl hm hbig hB NS SF SG HN HS RN RS AN AS AP B6
    refine wp_region_line (Bel W) [(0, true), (1, true), (2, true), (3, true), (4, true), (5, false), (6, true), (7, true), (8, true), (9, true), (10, true), (11, true), (12, true), (13, true), (14, true), (15, false), (16, true), (17, true), (18, true), (19, true), (20, true), (21, true), (22, true), (23, true), (26, true), (27, true), (24, false), (25, true), (28, true), (29, true), (30, true), (31, true), (32, true), (33, true), (34, true), (35, true), (36, false), (37, true), (38, true), (39, true), (40, true), (41, true), (42, true), (43, true), (44, true), (45, true), (46, true), (47, false), (48, true), (49, true), (50, true), (51, true), (52, true), (53, true), (54, true), (55, true), (56, true), (57, true), (58, true), (59, true), (60, true), (61, true), (62, true), (63, true), (64, false), (65, true), (66, true)] (by kernel_rfl) (by kernel_rfl) (fun _ _ d _ _ h => by cases d <;> exact h) (Bel.drew W) ?_
    have hst := Bel.drew W
    have inst : Nonempty (Of (Bel W)) := ⟨⟨_, hst⟩⟩
    have ya0 := bel_cell (AY.cell 0 _ rfl)
    have ya1 := bel_cell (AY.cell 1 _ rfl)
    have ya2 := bel_cell (AY.cell 2 _ rfl)
    have ya3 := bel_cell (AY.cell 3 _ rfl)
    have xa0 := bel_cell (AX.cell 0 _ rfl)
    have xa1 := bel_cell (AX.cell 1 _ rfl)
    have xa2 := bel_cell (AX.cell 2 _ rfl)
    have ga0 := bel_cell (AG.cell 0 _ rfl)
    have ga1 := bel_cell (AG.cell 1 _ rfl)
    have ga2 := bel_cell (AG.cell 2 _ rfl)
    have ga3 := bel_cell (AG.cell 3 _ rfl)
    have ga4 := bel_cell (AG.cell 4 _ rfl)
    have ga5 := bel_cell (AG.cell 5 _ rfl)
    have ga6 := bel_cell (AG.cell 6 _ rfl)
    have ga7 := bel_cell (AG.cell 7 _ rfl)
    have ua0 := bel_cell (AU.cell 0 _ rfl)
    have ua1 := bel_cell (AU.cell 1 _ rfl)
    have ua2 := bel_cell (AU.cell 2 _ rfl)
    have va0 := bel_cell (AV.cell 0 _ rfl)
    have va1 := bel_cell (AV.cell 1 _ rfl)
    have va2 := bel_cell (AV.cell 2 _ rfl)
    have va3 := bel_cell (AV.cell 3 _ rfl)
    have g1 := pinr1
    have g2 := pins_ne
    generalize W.drew = V1 at *
    iterate 5 (refine line_read rfl (by kernel_rfl) (fun K hK => ?_); go_big_quiet_op; refine hK _ ?_; clear hK K)
    refine line_alone rfl (by kernel_rfl) (fun K hK => ?_)
    refine call_any (args := #[S3 b1 k1 h1 b2 k2 h2 x.d.s, R8 g, .int .i64 t]) rfl (by kernel_rfl) (by kernel_rfl) (YS.out _ (RX.on hst.out)) ?_
    rintro e V5 ⟨t1, t2, t3, t4, t5, t6, rfl, SO5, be⟩
    clear SO5
    have hst2 := hst.on be
    refine ⟨_, rfl, hK _ _ hst2 ?_⟩
    clear hK K hst be
    have hst := hst2
    clear hst2
    simp only [Act.put, List.setIfInBounds_toArray, List.set_cons_zero, List.set_cons_succ]
    refine line_readv (v := .int .i64 YC) rfl (by kernel_rfl) (fun _ => by kernel_rfl) ?_
    simp only [Act.put, List.setIfInBounds_toArray, List.set_cons_zero, List.set_cons_succ]
    by_cases hy : YC = 0
    · subst hy
      obtain ⟨hyf, hyc, hyr⟩ := HY.out rfl
      have SFY := fun w hR => implStoreFault_any y1 Y.ps.length o1 y2 Y.d.rs.length o2 w.heap.size Y w hR (Nat.le_refl _)
      rw [hyf] at SFY
      have FY := fun w hR => implFindPin_any y1 Y.ps.length o1 w.heap.size Y.ps g.p.n w hR (Nat.le_refl _) hgm
      rw [hyc, hyr] at FY
      clear hyf hyc hyr HY
      iterate 8 (refine line_read rfl (by kernel_rfl) (fun K hK => ?_); go_big_quiet_op; refine hK _ ?_; clear hK K)
      refine line_alone rfl (by kernel_rfl) (fun K hK => ?_)
      refine call_wp (args := #[.agg #[.slice y1 Y.ps.length o1, .slice y2 Y.d.rs.length o2, .int .i64 Y.d.s]]) rfl (by kernel_rfl) (by kernel_rfl) (SFY _ (RY.on hst.out)) (fun wn hbn => ?_)
      have hst2 := hst.on hbn
      refine hK _ _ hst2 ?_
      clear hK K hst hbn
      have hst := hst2
      clear hst2
      simp only [Act.put, List.setIfInBounds_toArray, List.set_cons_zero, List.set_cons_succ]
      iterate 10 (refine line_read rfl (by kernel_rfl) (fun K hK => ?_); go_big_quiet_op; refine hK _ ?_; clear hK K)
      refine line_alone rfl (by kernel_rfl) (fun K hK => ?_)
      refine call_wp (args := #[.slice y1 Y.ps.length o1, .string g.p.n]) rfl (by kernel_rfl) (by kernel_rfl) (FY _ (RY.on hst.out).ps) (fun wn hbn => ?_)
      have hst2 := hst.on hbn
      refine hK _ _ hst2 ?_
      clear hK K hst hbn
      have hst := hst2
      clear hst2
      simp only [Act.put, List.setIfInBounds_toArray, List.set_cons_zero, List.set_cons_succ]
      clear SFY FY
      iterate 6 (refine line_read rfl (by kernel_rfl) (fun K hK => ?_); go_big_quiet_op; refine hK _ ?_; clear hK K)
      iterate 3 (refine line_read rfl (by kernel_rfl) (fun K hK => ?_); go_big_quiet_op; refine hK _ ?_; clear hK K)
      refine line_alone rfl (by kernel_rfl) (fun K hK => ?_)
      refine call_any (args := #[S3 f1 l1 i1 f2 l2 i2 u.d.s]) rfl (by kernel_rfl) (by kernel_rfl) (US.out _ (RU.on hst.out)) ?_
      rintro e V5 ⟨t1, t2, t3, t4, t5, t6, rfl, SO5, be⟩
      clear SO5
      have hst2 := hst.on be
      refine ⟨_, rfl, hK _ _ hst2 ?_⟩
      clear hK K hst be
      have hst := hst2
      clear hst2
      simp only [Act.put, List.setIfInBounds_toArray, List.set_cons_zero, List.set_cons_succ]
      refine line_readv (v := .int .i64 VC) rfl (by kernel_rfl) (fun _ => by kernel_rfl) ?_
      simp only [Act.put, List.setIfInBounds_toArray, List.set_cons_zero, List.set_cons_succ]
      by_cases hv : VC = 0
      · subst hv
        have hvf := (HV.out rfl).1
        have SFV := fun w hR => implStoreFault_any z1 V.ps.length r1 z2 V.d.rs.length r2 w.heap.size V w hR (Nat.le_refl _)
        rw [hvf] at SFV
        iterate 9 (refine line_read rfl (by kernel_rfl) (fun K hK => ?_); go_big_quiet_op; refine hK _ ?_; clear hK K)
        refine line_alone rfl (by kernel_rfl) (fun K hK => ?_)
        refine call_wp (args := #[.agg #[.slice z1 V.ps.length r1, .slice z2 V.d.rs.length r2, .int .i64 V.d.s]]) rfl (by kernel_rfl) (by kernel_rfl) (SFV _ (RV.on hst.out)) (fun wn hbn => ?_)
        have hst2 := hst.on hbn
        refine hK _ _ hst2 ?_
        clear hK K hst hbn
        have hst := hst2
        clear hst2
        simp only [Act.put, List.setIfInBounds_toArray, List.set_cons_zero, List.set_cons_succ]
        clear SFV hvf
        iterate 10 (refine line_read rfl (by kernel_rfl) (fun K hK => ?_); go_big_quiet_op; refine hK _ ?_; clear hK K)
        have hse : (V.d.s == (l2 : Int)) = true := by rw [beq_iff_eq]; exact (HV.out rfl).2
        have hsn : (V.d.s != (l2 : Int)) = false := by rw [bne, hse]; rfl
        have hsd : decide (V.d.s = (l2 : Int)) = true := by simpa using hse
        iterate 1 (refine line_read rfl (by kernel_rfl) (fun K hK => ?_); go_big_quiet_op; refine hK _ ?_; clear hK K)
        clear hse hsn hsd
        iterate 4 (refine line_read rfl (by kernel_rfl) (fun K hK => ?_); go_big_quiet_op; refine hK _ ?_; clear hK K)
        refine line_readv (v := S3 none 0 0 none 0 0 0) rfl (by kernel_rfl) (fun _ => by kernel_rfl) ?_
        simp only [Act.put, List.setIfInBounds_toArray, List.set_cons_zero, List.set_cons_succ]
        refine line_alone rfl (by kernel_rfl) (fun K hK => ?_)
        refine call_wp (args := #[S3 none 0 0 none 0 0 0]) rfl (by kernel_rfl) (by kernel_rfl) (ZF _ (SRow.nil _ _)) (fun wn hbn => ?_)
        have hst2 := hst.on hbn
        refine hK _ _ hst2 ?_
        clear hK K hst hbn
        have hst := hst2
        clear hst2
        simp only [Act.put, List.setIfInBounds_toArray, List.set_cons_zero, List.set_cons_succ]
        iterate 2 (refine line_read rfl (by kernel_rfl) (fun K hK => ?_); go_big_quiet_op; refine hK _ ?_; clear hK K)
        refine line_nil ?_
        have HT := Lib.hid hst.out
        clear hst
        go_wp2_with fail
        go_meet
        case rel => exact ⟨rfl, HT.out⟩
      · have q7 : (VC == 0) = false := by rw [beq_eq_false_iff_ne]; exact hv
        have q6 : decide (VC = 0) = false := by simpa using hv
        have q5 : (VC != 0) = true := by simpa using hv
        iterate 7 (refine line_read rfl (by kernel_rfl) (fun K hK => ?_); go_big_quiet_op; refine hK _ ?_; clear hK K)
        iterate 15 (refine line_skip rfl (by kernel_rfl) ?_; simp only [Act.put, List.setIfInBounds_toArray, List.set_cons_zero, List.set_cons_succ])
        iterate 3 (refine line_read rfl (by kernel_rfl) (fun K hK => ?_); go_big_quiet_op; refine hK _ ?_; clear hK K)
        refine line_readv (v := S3 none 0 0 none 0 0 0) rfl (by kernel_rfl) (fun _ => by kernel_rfl) ?_
        simp only [Act.put, List.setIfInBounds_toArray, List.set_cons_zero, List.set_cons_succ]
        refine line_alone rfl (by kernel_rfl) (fun K hK => ?_)
        refine call_wp (args := #[S3 none 0 0 none 0 0 0]) rfl (by kernel_rfl) (by kernel_rfl) (ZF _ (SRow.nil _ _)) (fun wn hbn => ?_)
        have hst2 := hst.on hbn
        refine hK _ _ hst2 ?_
        clear hK K hst hbn
        have hst := hst2
        clear hst2
        simp only [Act.put, List.setIfInBounds_toArray, List.set_cons_zero, List.set_cons_succ]
        iterate 2 (refine line_read rfl (by kernel_rfl) (fun K hK => ?_); go_big_quiet_op; refine hK _ ?_; clear hK K)
        refine line_nil ?_
        have HT := Lib.hid hst.out
        clear hst
        go_wp2_with fail
        go_meet
        case rel => exact ⟨rfl, HT.out⟩
    · have p7 : (YC == 0) = false := by rw [beq_eq_false_iff_ne]; exact hy
      have p6 : decide (YC = 0) = false := by simpa using hy
      have p5 : (YC != 0) = true := by simpa using hy
      clear HY
      iterate 6 (refine line_read rfl (by kernel_rfl) (fun K hK => ?_); go_big_quiet_op; refine hK _ ?_; clear hK K)
      iterate 17 (refine line_skip rfl (by kernel_rfl) ?_; simp only [Act.put, List.setIfInBounds_toArray, List.set_cons_zero, List.set_cons_succ])
      iterate 3 (refine line_read rfl (by kernel_rfl) (fun K hK => ?_); go_big_quiet_op; refine hK _ ?_; clear hK K)
      iterate 3 (refine line_read rfl (by kernel_rfl) (fun K hK => ?_); go_big_quiet_op; refine hK _ ?_; clear hK K)
      refine line_alone rfl (by kernel_rfl) (fun K hK => ?_)
      refine call_any (args := #[S3 f1 l1 i1 f2 l2 i2 u.d.s]) rfl (by kernel_rfl) (by kernel_rfl) (US.out _ (RU.on hst.out)) ?_
      rintro e V5 ⟨t1, t2, t3, t4, t5, t6, rfl, SO5, be⟩
      clear SO5
      have hst2 := hst.on be
      refine ⟨_, rfl, hK _ _ hst2 ?_⟩
      clear hK K hst be
      have hst := hst2
      clear hst2
      simp only [Act.put, List.setIfInBounds_toArray, List.set_cons_zero, List.set_cons_succ]
      refine line_readv (v := .int .i64 VC) rfl (by kernel_rfl) (fun _ => by kernel_rfl) ?_
      simp only [Act.put, List.setIfInBounds_toArray, List.set_cons_zero, List.set_cons_succ]
      by_cases hv : VC = 0
      · subst hv
        have hvf := (HV.out rfl).1
        have SFV := fun w hR => implStoreFault_any z1 V.ps.length r1 z2 V.d.rs.length r2 w.heap.size V w hR (Nat.le_refl _)
        rw [hvf] at SFV
        iterate 9 (refine line_read rfl (by kernel_rfl) (fun K hK => ?_); go_big_quiet_op; refine hK _ ?_; clear hK K)
        refine line_alone rfl (by kernel_rfl) (fun K hK => ?_)
        refine call_wp (args := #[.agg #[.slice z1 V.ps.length r1, .slice z2 V.d.rs.length r2, .int .i64 V.d.s]]) rfl (by kernel_rfl) (by kernel_rfl) (SFV _ (RV.on hst.out)) (fun wn hbn => ?_)
        have hst2 := hst.on hbn
        refine hK _ _ hst2 ?_
        clear hK K hst hbn
        have hst := hst2
        clear hst2
        simp only [Act.put, List.setIfInBounds_toArray, List.set_cons_zero, List.set_cons_succ]
        clear SFV hvf
        iterate 10 (refine line_read rfl (by kernel_rfl) (fun K hK => ?_); go_big_quiet_op; refine hK _ ?_; clear hK K)
        have hse : (V.d.s == (l2 : Int)) = true := by rw [beq_iff_eq]; exact (HV.out rfl).2
        have hsn : (V.d.s != (l2 : Int)) = false := by rw [bne, hse]; rfl
        have hsd : decide (V.d.s = (l2 : Int)) = true := by simpa using hse
        iterate 1 (refine line_read rfl (by kernel_rfl) (fun K hK => ?_); go_big_quiet_op; refine hK _ ?_; clear hK K)
        clear hse hsn hsd
        iterate 4 (refine line_read rfl (by kernel_rfl) (fun K hK => ?_); go_big_quiet_op; refine hK _ ?_; clear hK K)
        refine line_readv (v := S3 none 0 0 none 0 0 0) rfl (by kernel_rfl) (fun _ => by kernel_rfl) ?_
        simp only [Act.put, List.setIfInBounds_toArray, List.set_cons_zero, List.set_cons_succ]
        refine line_alone rfl (by kernel_rfl) (fun K hK => ?_)
        refine call_wp (args := #[S3 none 0 0 none 0 0 0]) rfl (by kernel_rfl) (by kernel_rfl) (ZF _ (SRow.nil _ _)) (fun wn hbn => ?_)
        have hst2 := hst.on hbn
        refine hK _ _ hst2 ?_
        clear hK K hst hbn
        have hst := hst2
        clear hst2
        simp only [Act.put, List.setIfInBounds_toArray, List.set_cons_zero, List.set_cons_succ]
        iterate 2 (refine line_read rfl (by kernel_rfl) (fun K hK => ?_); go_big_quiet_op; refine hK _ ?_; clear hK K)
        refine line_nil ?_
        have HT := Lib.hid hst.out
        clear hst
        go_wp2_with fail
        go_meet
        case rel => exact ⟨rfl, HT.out⟩
      · have q7 : (VC == 0) = false := by rw [beq_eq_false_iff_ne]; exact hv
        have q6 : decide (VC = 0) = false := by simpa using hv
        have q5 : (VC != 0) = true := by simpa using hv
        iterate 7 (refine line_read rfl (by kernel_rfl) (fun K hK => ?_); go_big_quiet_op; refine hK _ ?_; clear hK K)
        iterate 15 (refine line_skip rfl (by kernel_rfl) ?_; simp only [Act.put, List.setIfInBounds_toArray, List.set_cons_zero, List.set_cons_succ])
        iterate 3 (refine line_read rfl (by kernel_rfl) (fun K hK => ?_); go_big_quiet_op; refine hK _ ?_; clear hK K)
        refine line_readv (v := S3 none 0 0 none 0 0 0) rfl (by kernel_rfl) (fun _ => by kernel_rfl) ?_
        simp only [Act.put, List.setIfInBounds_toArray, List.set_cons_zero, List.set_cons_succ]
        refine line_alone rfl (by kernel_rfl) (fun K hK => ?_)
        refine call_wp (args := #[S3 none 0 0 none 0 0 0]) rfl (by kernel_rfl) (by kernel_rfl) (ZF _ (SRow.nil _ _)) (fun wn hbn => ?_)
        have hst2 := hst.on hbn
        refine hK _ _ hst2 ?_
        clear hK K hst hbn
        have hst := hst2
        clear hst2
        simp only [Act.put, List.setIfInBounds_toArray, List.set_cons_zero, List.set_cons_succ]
        iterate 2 (refine line_read rfl (by kernel_rfl) (fun K hK => ?_); go_big_quiet_op; refine hK _ ?_; clear hK K)
        refine line_nil ?_
        have HT := Lib.hid hst.out
        clear hst
        go_wp2_with fail
        go_meet
        case rel => exact ⟨rfl, HT.out⟩
  case rest =>
    obtain ⟨rfl, bC⟩ := hcut
    rename World => wx
    have AN1 := AN.on bC
    have RN1 := RN.on bC
    have AS1 := AS.on bC
    have AP1 := AP.on bC
    have RS1 := RS.on bC
    have B7 := btr B6 bC
    clear AN RN AS AP RS B6 bC AY RY AX AG RX AU RU AV RV YS HY US HV ZF
    have nn0 := AN1.cell 0 _ rfl
    have nn1 := AN1.cell 1 _ rfl
    have nn2 := AN1.cell 2 _ rfl
    have nn3 := AN1.cell 3 _ rfl
    by_cases hc : NC = 0
    case neg =>
      have q9 : (NC != 0) = true := by simpa using hc
      have q8 : decide (NC = 0) = false := by simpa using hc
      have kk0 := AS1.cell 0 _ rfl
      have kk1 := AS1.cell 1 _ rfl
      have kk2 := AS1.cell 2 _ rfl
      have pp0 := AP1.cell 0 _ rfl
      have pp1 := AP1.cell 1 _ rfl
      have pp2 := AP1.cell 2 _ rfl
      have pp3 := AP1.cell 3 _ rfl
      have pp4 := AP1.cell 4 _ rfl
      go_wp2_with fail
      refine wp_region_line (Bel wx) [(0, true), (1, true), (4, true), (5, true), (2, false), (3, true), (6, true), (7, true), (8, true), (10, true), (9, false), (11, false), (12, true), (13, true), (14, true)] (by kernel_rfl) (by kernel_rfl) (fun _ _ d _ _ h => by cases d <;> exact h) (Bel.drew wx) ?_
      have hst := Bel.drew wx
      have inst : Nonempty (Of (Bel wx)) := ⟨⟨_, hst⟩⟩
      have nc0 := bel_cell nn0
      have kc0 := bel_cell kk0
      have kc1 := bel_cell kk1
      have kc2 := bel_cell kk2
      have pc0 := bel_cell pp0
      have pc1 := bel_cell pp1
      have pc2 := bel_cell pp2
      have pc3 := bel_cell pp3
      have pc4 := bel_cell pp4
      generalize wx.drew = V1 at *
      iterate 4 (refine line_read rfl (by kernel_rfl) (fun K hK => ?_); go_big_quiet_op; refine hK _ ?_; clear hK K)
      refine line_alone rfl (by kernel_rfl) (fun K hK => ?_)
      refine call_any (args := #[S3 a1 n1 c1 a2 n2 c2 s.d.s, P5 p]) rfl (by kernel_rfl) (by kernel_rfl) (NS.out _ (RS1.on hst.out)) ?_
      rintro e V5 ⟨t1, t2, t3, t4, t5, t6, rfl, SO5, be⟩
      clear SO5
      have hst2 := hst.on be
      refine ⟨_, rfl, hK _ _ hst2 ?_⟩
      clear hK K hst be
      have hst := hst2
      clear hst2
      simp only [Act.put, List.setIfInBounds_toArray, List.set_cons_zero, List.set_cons_succ]
      refine line_readv (v := .int .i64 NC) rfl (by kernel_rfl) (fun _ => by kernel_rfl) ?_
      simp only [Act.put, List.setIfInBounds_toArray, List.set_cons_zero, List.set_cons_succ]
      iterate 4 (refine line_read rfl (by kernel_rfl) (fun K hK => ?_); go_big_quiet_op; refine hK _ ?_; clear hK K)
      refine line_alone rfl (by kernel_rfl) (fun K hK => ?_)
      refine call_wp (args := #[S3 a1 n1 c1 a2 n2 c2 s.d.s]) rfl (by kernel_rfl) (by kernel_rfl) (SF.out _ (RS1.on hst.out)) (fun wn hbn => ?_)
      have hst2 := hst.on hbn
      refine hK _ _ hst2 ?_
      clear hK K hst hbn
      have hst := hst2
      clear hst2
      simp only [Act.put, List.setIfInBounds_toArray, List.set_cons_zero, List.set_cons_succ]
      refine line_alone rfl (by kernel_rfl) (fun K hK => ?_)
      refine call_wp (args := #[S3 a1 n1 c1 a2 n2 c2 s.d.s]) rfl (by kernel_rfl) (by kernel_rfl) (SG.out _ (RS1.on hst.out)) (fun wn hbn => ?_)
      have hst2 := hst.on hbn
      refine hK _ _ hst2 ?_
      clear hK K hst hbn
      have hst := hst2
      clear hst2
      simp only [Act.put, List.setIfInBounds_toArray, List.set_cons_zero, List.set_cons_succ]
      iterate 3 (refine line_read rfl (by kernel_rfl) (fun K hK => ?_); go_big_quiet_op; refine hK _ ?_; clear hK K)
      refine line_nil ?_
      have hb := btr B7 hst.out
      clear hst
      go_wp2_with fail
      go_ret
      exact ⟨rfl, hb⟩
    subst hc
    have H := HN.out rfl
    have hf := H.f
    have hoc := H.c
    have hoo := H.o
    have hfc := H.fc
    have hff := H.ff
    have hsf := H.safe
    rw [HS.out] at hf hoc hoo hfc hff hsf
    have HSF := Lib.hid hsf
    have od := fun w hG => implOpenDisk_any x2 N.d.rs.length e2 w.heap.size N.d.rs N.d.s w hG (Nat.le_refl _) RN1.wf
    rw [show openC ⟨N.d.rs, N.d.s⟩ = 0 from hoc, show openS ⟨N.d.rs, N.d.s⟩ = N from hoo] at od
    unfold StoreRes at od
    have nf := fun w hR => implStoreFault_any x1 N.ps.length e1 x2 N.d.rs.length e2 w.heap.size N w hR (Nat.le_refl _)
    rw [hf] at nf
    have NF := Lib.hid nf
    have fn := fun w hR => implFindPin_any x1 N.ps.length e1 w.heap.size N.ps p.n w hR (Nat.le_refl _) hpm
    rw [hfc, hff] at fn
    have FN := Lib.hid fn
    have SM := Lib.hid (fun (a1 a2 b1 b2 : Option Addr) (c1 c2 d1 d2 : Nat) (w : World) (h1 : SRow w w.heap.size a1 N.ps.length c1 a2 N.d.rs.length c2 N) (h2 : SRow w w.heap.size b1 N.ps.length d1 b2 N.d.rs.length d2 N) => (show Calls Tryz.prog 44 #[.agg #[.slice a1 N.ps.length c1, .slice a2 N.d.rs.length c2, .int .i64 N.d.s], .agg #[.slice b1 N.ps.length d1, .slice b2 N.d.rs.length d2, .int .i64 N.d.s]] w (fun r w' => r = .returned (.bool true) ∧ Below w.heap.size w w') from by
      have := implSameStores_any a1 N.ps.length c1 a2 N.d.rs.length c2 b1 N.ps.length d1 b2 N.d.rs.length d2 w.heap.size N N w h1 h2 (Nat.le_refl _)
      rwa [sameSt_self] at this))
    clear H HN hf hoc hoo hfc hff hsf nf fn SF SG HS
    go_wp2_with fail
    refine (od _ RN1.rs).mono ?_
    rintro r u8 ⟨j1, m1, d1, j2, m2, d2, rfl, SO, b8⟩
    obtain ⟨rfl, rfl⟩ := SO.len
    have b8a := bal b8 (.cells #[.int .i64 0, .slice j1 N.ps.length d1, .slice j2 N.d.rs.length d2, .int .i64 N.d.s] 63)
    have AO : At u8.heap.size (V4R 0 j1 N.ps.length d1 j2 N.d.rs.length d2 N.d.s) (u8.alloc (.cells #[.int .i64 0, .slice j1 N.ps.length d1, .slice j2 N.d.rs.length d2, .int .i64 N.d.s] 63)) := At.new u8 (V4R 0 j1 N.ps.length d1 j2 N.d.rs.length d2 N.d.s) 63
    have RO := SO.row.on (bal (Below.refl _ u8) (.cells #[.int .i64 0, .slice j1 N.ps.length d1, .slice j2 N.d.rs.length d2, .int .i64 N.d.s] 63))
    have AN8 := AN1.on b8a
    have RN8 := RN1.on b8a
    have AS8 := AS1.on b8a
    have AP8 := AP1.on b8a
    have RS8 := RS1.on b8a
    have B8 := btr B7 b8a
    clear b8 b8a AN1 RN1 AS1 AP1 RS1 B7 SO od nn0 nn1 nn2 nn3
    go_wp2_with fail
    generalize u8.alloc (.cells #[.int .i64 0, .slice j1 N.ps.length d1, .slice j2 N.d.rs.length d2, .int .i64 N.d.s] 63) = v8 at *
    refine wp_region_line (Bel v8) [(0, true), (1, true), (2, false), (3, true), (4, true), (5, true), (6, true), (7, true), (8, true), (9, true), (10, true), (11, true), (12, true), (13, true), (14, false), (15, true), (16, true), (17, true), (18, true), (19, true), (20, true), (21, true), (24, true), (22, false), (23, true), (25, true), (26, true), (27, true), (28, true), (29, true), (30, true), (31, true), (32, true), (33, true), (34, true), (35, true), (36, true), (37, true), (38, true), (39, true), (40, true), (41, true), (42, false), (43, true), (44, false), (45, true), (46, true)] (by kernel_rfl) (by kernel_rfl) (fun _ _ d _ _ h => by cases d <;> exact h) (Bel.drew v8) ?_
    have hst := Bel.drew v8
    have inst : Nonempty (Of (Bel v8)) := ⟨⟨_, hst⟩⟩
    have nc0 := bel_cell (AN8.cell 0 _ rfl)
    have nc1 := bel_cell (AN8.cell 1 _ rfl)
    have nc2 := bel_cell (AN8.cell 2 _ rfl)
    have nc3 := bel_cell (AN8.cell 3 _ rfl)
    have oc0 := bel_cell (AO.cell 0 _ rfl)
    have oc1 := bel_cell (AO.cell 1 _ rfl)
    have oc2 := bel_cell (AO.cell 2 _ rfl)
    have oc3 := bel_cell (AO.cell 3 _ rfl)
    have kc0 := bel_cell (AS8.cell 0 _ rfl)
    have kc1 := bel_cell (AS8.cell 1 _ rfl)
    have kc2 := bel_cell (AS8.cell 2 _ rfl)
    have pc0 := bel_cell (AP8.cell 0 _ rfl)
    have pc1 := bel_cell (AP8.cell 1 _ rfl)
    have pc2 := bel_cell (AP8.cell 2 _ rfl)
    have pc3 := bel_cell (AP8.cell 3 _ rfl)
    have pc4 := bel_cell (AP8.cell 4 _ rfl)
    have g1 := pinr1
    have g2 := pins_eq
    generalize v8.drew = V1 at *
    iterate 2 (refine line_read rfl (by kernel_rfl) (fun K hK => ?_); go_big_quiet_op; refine hK _ ?_; clear hK K)
    refine line_alone rfl (by kernel_rfl) (fun K hK => ?_)
    refine call_wp (args := #[.agg #[.slice x1 N.ps.length e1, .slice x2 N.d.rs.length e2, .int .i64 N.d.s]]) rfl (by kernel_rfl) (by kernel_rfl) (NF.out _ (RN8.on hst.out)) (fun wn hbn => ?_)
    have hst2 := hst.on hbn
    refine hK _ _ hst2 ?_
    clear hK K hst hbn
    have hst := hst2
    clear hst2
    simp only [Act.put, List.setIfInBounds_toArray, List.set_cons_zero, List.set_cons_succ]
    iterate 11 (refine line_read rfl (by kernel_rfl) (fun K hK => ?_); go_big_quiet_op; refine hK _ ?_; clear hK K)
    refine line_alone rfl (by kernel_rfl) (fun K hK => ?_)
    refine call_wp (args := #[.agg #[.slice j1 N.ps.length d1, .slice j2 N.d.rs.length d2, .int .i64 N.d.s], .agg #[.slice x1 N.ps.length e1, .slice x2 N.d.rs.length e2, .int .i64 N.d.s]]) rfl (by kernel_rfl) (by kernel_rfl) (SM.out _ _ _ _ _ _ _ _ _ (RO.on hst.out) (RN8.on hst.out)) (fun wn hbn => ?_)
    have hst2 := hst.on hbn
    refine hK _ _ hst2 ?_
    clear hK K hst hbn
    have hst := hst2
    clear hst2
    simp only [Act.put, List.setIfInBounds_toArray, List.set_cons_zero, List.set_cons_succ]
    iterate 8 (refine line_read rfl (by kernel_rfl) (fun K hK => ?_); go_big_quiet_op; refine hK _ ?_; clear hK K)
    refine line_alone rfl (by kernel_rfl) (fun K hK => ?_)
    refine call_wp (args := #[.slice x1 N.ps.length e1, .string p.n]) rfl (by kernel_rfl) (by kernel_rfl) (FN.out _ (RN8.on hst.out).ps) (fun wn hbn => ?_)
    have hst2 := hst.on hbn
    refine hK _ _ hst2 ?_
    clear hK K hst hbn
    have hst := hst2
    clear hst2
    simp only [Act.put, List.setIfInBounds_toArray, List.set_cons_zero, List.set_cons_succ]
    iterate 10 (refine line_read rfl (by kernel_rfl) (fun K hK => ?_); go_big_quiet_op; refine hK _ ?_; clear hK K)
    have hsf := HSF.out
    have hse : (N.d.s == s.d.s) = true := by rw [beq_iff_eq]; exact hsf
    have hsd : decide (N.d.s = s.d.s) = true := decide_eq_true hsf
    clear hsf
    iterate 2 (refine line_read rfl (by kernel_rfl) (fun K hK => ?_); go_big_quiet_op; refine hK _ ?_; clear hK K)
    clear hse hsd
    iterate 6 (refine line_read rfl (by kernel_rfl) (fun K hK => ?_); go_big_quiet_op; refine hK _ ?_; clear hK K)
    refine line_alone rfl (by kernel_rfl) (fun K hK => ?_)
    refine call_any (args := #[S3 a1 n1 c1 a2 n2 c2 s.d.s, P5 p]) rfl (by kernel_rfl) (by kernel_rfl) (NS.out _ (RS8.on hst.out)) ?_
    rintro e V5 ⟨q1, m1, q3, q4, m2, q6, rfl, SO9, be⟩
    obtain ⟨rfl, rfl⟩ := SO9.len
    have RJ := SO9.row
    have RN9 := RN8.on (btr hst.out be)
    clear SO9
    have hst2 := hst.on be
    refine ⟨_, rfl, hK _ _ hst2 ?_⟩
    clear hK K hst be
    have hst := hst2
    clear hst2
    simp only [Act.put, List.setIfInBounds_toArray, List.set_cons_zero, List.set_cons_succ]
    refine line_readv (v := .agg #[.slice q1 N.ps.length q3, .slice q4 N.d.rs.length q6, .int .i64 N.d.s]) rfl (by kernel_rfl) (fun _ => by kernel_rfl) ?_
    simp only [Act.put, List.setIfInBounds_toArray, List.set_cons_zero, List.set_cons_succ]
    refine line_alone rfl (by kernel_rfl) (fun K hK => ?_)
    refine call_wp (args := #[.agg #[.slice x1 N.ps.length e1, .slice x2 N.d.rs.length e2, .int .i64 N.d.s], .agg #[.slice q1 N.ps.length q3, .slice q4 N.d.rs.length q6, .int .i64 N.d.s]]) rfl (by kernel_rfl) (by kernel_rfl) (SM.out _ _ _ _ _ _ _ _ _ RN9 RJ) (fun wn hbn => ?_)
    have hst2 := hst.on hbn
    refine hK _ _ hst2 ?_
    clear hK K hst hbn
    have hst := hst2
    clear hst2
    simp only [Act.put, List.setIfInBounds_toArray, List.set_cons_zero, List.set_cons_succ]
    iterate 2 (refine line_read rfl (by kernel_rfl) (fun K hK => ?_); go_big_quiet_op; refine hK _ ?_; clear hK K)
    refine line_nil ?_
    have hb := btr B8 hst.out
    clear hst
    go_wp2_with fail
    go_ret
    exact ⟨rfl, hb⟩

end Go.Proofs.YtlodhleihnlchaaGreatDoor.fnStores
