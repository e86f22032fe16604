/- A pin that was put is found, its list is right, and it cannot be put again, at every input that is drawn out of whatever bytes. The walk: the law's Go text answers true and turns nothing that was there. Conditions: as the theorem states. -/
import Derived.Test.YtcnpocppgghejaaGreatDoorPk0
import Derived.Test.YtcnpocppgghejaaGreatDoorPk1
import Derived.Test.YtcnpocppgghejaaGreatDoorPk2
import Derived.WalkKit
import Derived.Below
namespace Go.Proofs.YtcnpocppgghejaaGreatDoor.fnPins
open Go.RowKit
set_option linter.unusedVariables false

/-- Nothing of it has turned, and what was told is false. -/
def WentOn (W : World) (v : Value) (wx : World) : Prop := v = .bool false ∧ Below W.heap.size W wx
set_option maxHeartbeats 12800000 in
set_option maxRecDepth 100000 in
theorem walk (a0 : Option Addr) (len0 cap0 : Nat) (z0 : List Int) (w : World) (w0 : Row .u8 w w.heap.size a0 len0 cap0 z0) :
    Calls Tryz.prog 3 #[.slice a0 len0 cap0] w fun e w' => e = .returned (.bool true) ∧ Below w.heap.size w w' := by
  have hl := w0.fits
  have hm := w0.most
  unfold maxLen at hm
  by_cases hbig : 1048576 < len0
  · have hB : decide (1048576 < len0) = true := by simp [hbig]
    go_enter Tryz.func3, Tryz.ntmps3
    go_wp2_with fail
    refine (lwBig_any _ _ _ _ (by omega)).mono ?_
    rintro r w' ⟨rfl, rfl⟩
    go_wp2_with fail
    go_ret
    exact ⟨rfl, Below.refl _ _⟩
  have hB : decide (1048576 < len0) = false := by simp [hbig]
  go_enter Tryz.func3, Tryz.ntmps3
  go_wp2_with fail
  refine (lwBig_any _ _ _ _ (by omega)).mono ?_
  rintro r w' ⟨rfl, rfl⟩
  go_wp2_with fail
  refine (DrawPutPin_any w0).mono ?_
  rintro r u1 ⟨lx, ln, lc, ls, p, rfl, hls, hp, RL, b1⟩
  have hpm : p.n.size ≤ maxLen := by simp only [maxLen]; omega
  have b1a := bal b1 (.cells #[.string p.n, .int .i64 p.a, .int .i64 p.b, .int .i64 p.e, .int .i64 p.u] 26)
  have AP : At u1.heap.size p.vals (u1.alloc (.cells #[.string p.n, .int .i64 p.a, .int .i64 p.b, .int .i64 p.e, .int .i64 p.u] 26)) := At.new u1 p.vals 26
  have RL1 := RL.on (bal (Below.refl _ u1) (.cells #[.string p.n, .int .i64 p.a, .int .i64 p.b, .int .i64 p.e, .int .i64 p.u] 26))
  have PI := fun w hR => implPutPin_any lx ln lc w.heap.size ls p w hR (Nat.le_refl _) hpm
  have PS := fun w hR => specPutPin_any lx ln lc w.heap.size ls p w hR (Nat.le_refl _) hpm
  have LI := fun w hR => implPinsFault_any lx ln lc w.heap.size ls w hR (Nat.le_refl _)
  have LS := fun w hR => specPinsFault_any lx ln lc w.heap.size ls w hR (Nat.le_refl _)
  have WI := fun w hR => implFindPin_any lx ln lc w.heap.size ls p.n w hR (Nat.le_refl _) hpm
  have FP := Lib.hid (fun h : putC ls p = 0 => put_ok h)
  have HN := Lib.hid (putR_names7 (m21 hls) hpm)
  have GI := fun a n c w hR => implFindPin_any a n c w.heap.size (putR ls p) p.n w hR (Nat.le_refl _) hpm
  have QI := fun a n c w hR => implPutPin_any a n c w.heap.size (putR ls p) p w hR (Nat.le_refl _) hpm
  have NI := fun a n c w hR => implPinsFault_any a n c w.heap.size (putR ls p) w hR (Nat.le_refl _)
  have k0 := AP.cell 0 _ rfl
  have k1 := AP.cell 1 _ rfl
  have k2 := AP.cell 2 _ rfl
  have k3 := AP.cell 3 _ rfl
  have k4 := AP.cell 4 _ rfl
  clear hls hp RL b1
  go_wp2_with fail
  generalize u1.alloc (.cells #[.string p.n, .int .i64 p.a, .int .i64 p.b, .int .i64 p.e, .int .i64 p.u] 26) = v1 at *
  refine (PI _ RL1).mono ?_
  rintro r u2 ⟨rx, rn, rc, rfl, OR, b2⟩
  have lr := OR.len7
  subst lr
  generalize hzs : putR ls p = zs at *
  generalize hcd : putC ls p = cd at *
  have HZS := Lib.hid hzs
  have HCD := Lib.hid hcd
  clear hzs hcd
  have b2a := bal b2 (.cells #[.int .i64 cd, .slice rx zs.length rc] 30)
  have AR := At.new u2 [.int .i64 cd, .slice rx zs.length rc] 30
  have RR2 := (OR.row HN.out).on (bal (Below.refl _ u2) (.cells #[.int .i64 cd, .slice rx zs.length rc] 30))
  have RL2 := RL1.on b2a
  have AP2 := AP.on b2a
  have B2 := btr b1a b2a
  clear b1a b2 b2a RL1 AP OR PI k0 k1 k2 k3 k4
  go_wp2_with fail
  generalize u2.alloc (.cells #[.int .i64 cd, .slice rx zs.length rc] 30) = v2 at *
  refine (DrawFindPin_any (w0.on B2)).mono ?_
  rintro r u3 ⟨xx, xn, xc, xs, nm, rfl, hxs, hnm, RX, b3⟩
  have hnm' : nm.size ≤ maxLen := by simp only [maxLen]; omega
  have FI := fun w hR => implFindPin_any xx xn xc w.heap.size xs nm w hR (Nat.le_refl _) hnm'
  have FS := fun w hR => specFindPin_any xx xn xc w.heap.size xs nm w hR (Nat.le_refl _) hnm'
  generalize findC xs nm.data.toList = fc at *
  generalize findR xs nm.data.toList = fp at *
  have AR3 := AR.on b3
  have RR3 := RR2.on b3
  have RL3 := RL2.on b3
  have AP3 := AP2.on b3
  have B3 := btr B2 b3
  clear AR RR2 RL2 AP2 B2 b3 hxs hnm hnm'
  go_wp2_with fail
  refine (FI _ RX).mono ?_
  rintro r u4 ⟨rfl, b4⟩
  have b4a := bal b4 (.cells #[.int .i64 fc, .string fp.n, .int .i64 fp.a, .int .i64 fp.b, .int .i64 fp.e, .int .i64 fp.u] 35)
  have AF : At u4.heap.size (RL6 fc fp) (u4.alloc (.cells #[.int .i64 fc, .string fp.n, .int .i64 fp.a, .int .i64 fp.b, .int .i64 fp.e, .int .i64 fp.u] 35)) := At.new u4 (RL6 fc fp) 35
  have AR4 := AR3.on b4a
  have RR4 := RR3.on b4a
  have RL4 := RL3.on b4a
  have AP4 := AP3.on b4a
  have RX4 := RX.on b4a
  have B4 := btr B3 b4a
  clear AR3 RR3 RL3 AP3 RX B3 b4 b4a FI
  go_wp2_with fail
  generalize u4.alloc (.cells #[.int .i64 fc, .string fp.n, .int .i64 fp.a, .int .i64 fp.b, .int .i64 fp.e, .int .i64 fp.u] 35) = v4 at *
  refine (DrawIsLive_any (w0.on B4)).mono ?_
  rintro r u5 ⟨la, tn, rfl, hla, b5⟩
  have hlm : la.n.size ≤ maxLen := by simp only [maxLen]; omega
  have VI := fun w => implIsLive_any la tn w hlm
  have VS := fun w => specIsLive_any la tn w hlm
  generalize liveB la tn = lv at *
  have b5a := bal b5 (.cells #[.string la.n, .int .i64 la.a, .int .i64 la.b, .int .i64 la.e, .int .i64 la.u] 26)
  have AA : At u5.heap.size la.vals (u5.alloc (.cells #[.string la.n, .int .i64 la.a, .int .i64 la.b, .int .i64 la.e, .int .i64 la.u] 26)) := At.new u5 la.vals 26
  have AF5 := AF.on b5a
  have AR5 := AR4.on b5a
  have RR5 := RR4.on b5a
  have RL5 := RL4.on b5a
  have AP5 := AP4.on b5a
  have RX5 := RX4.on b5a
  have B5 := btr B4 b5a
  clear AF AR4 RR4 RL4 AP4 RX4 B4 b5 b5a hla hlm
  go_wp2_with fail
  generalize u5.alloc (.cells #[.string la.n, .int .i64 la.a, .int .i64 la.b, .int .i64 la.e, .int .i64 la.u] 26) = v5 at *
  refine (DrawReadPin_any (w0.on B5)).mono ?_
  rintro r u6 ⟨da, dn, dc, dz, rfl, hdn, RD, b6⟩
  have UI := fun w hR => implReadPin_any da dn dc w.heap.size dz w hR (Nat.le_refl _)
  have US := fun w hR => specReadPin_any da dn dc w.heap.size dz w hR (Nat.le_refl _)
  have HFU := Lib.hid (read_cases RD.bytes)
  have hus : (readR dz).n.size ≤ maxLen := by
    unfold readR
    split
    · exact pinZ_size dz (by rw [RD.length]; simp only [maxLen]; omega)
    · exact Nat.zero_le _
  have PU := fun w => implPackPin_any (readR dz) w hus
  generalize readC dz = uc at *
  generalize readR dz = up at *
  have AA6 := AA.on b6
  have AF6 := AF5.on b6
  have AR6 := AR5.on b6
  have RR6 := RR5.on b6
  have RL6' := RL5.on b6
  have AP6 := AP5.on b6
  have RX6 := RX5.on b6
  have B6 := btr B5 b6
  clear AA AF5 AR5 RR5 RL5 AP5 RX5 B5 b6 hus
  go_wp2_with fail
  refine (UI _ RD).mono ?_
  rintro r u7 ⟨rfl, b7⟩
  have b7a := bal b7 (.cells #[.int .i64 uc, .string up.n, .int .i64 up.a, .int .i64 up.b, .int .i64 up.e, .int .i64 up.u] 35)
  have AU9 : At u7.heap.size (RL6 uc up) (u7.alloc (.cells #[.int .i64 uc, .string up.n, .int .i64 up.a, .int .i64 up.b, .int .i64 up.e, .int .i64 up.u] 35)) := At.new u7 (RL6 uc up) 35
  have AA9 := AA6.on b7a
  have AF9 := AF6.on b7a
  have AR9 := AR6.on b7a
  have RR9 := RR6.on b7a
  have RL9 := RL6'.on b7a
  have AP9 := AP6.on b7a
  have RX9 := RX6.on b7a
  have RD9 := RD.on b7a
  have B9 := btr B6 b7a
  clear AA6 AF6 AR6 RR6 RL6' AP6 RX6 RD B6 b7 b7a UI
  go_upto_region 10 with fail
  generalize u7.alloc (.cells #[.int .i64 uc, .string up.n, .int .i64 up.a, .int .i64 up.b, .int .i64 up.e, .int .i64 up.u] 35) = W at *
  go_cut [89] from 43 to 89 (fun v wx => WentOn W v wx)
  case first =>
    clear hl hm hbig hB hdn PS LI LS WI FP HN GI QI NI
    refine wp_region_line (Bel W) [(0, true), (1, true), (2, true), (3, true), (4, false), (5, true), (6, true), (7, true), (8, true), (9, true), (10, true), (11, true), (12, false), (13, true), (14, true), (15, true), (16, true), (17, true), (18, true), (20, true), (21, true), (19, false), (22, false), (23, true), (24, true), (25, true), (26, true), (27, true), (28, true), (29, false), (30, true), (31, true), (32, true), (33, true), (34, true), (35, true), (36, true), (37, true), (38, true), (39, true), (42, true), (40, false), (41, true), (43, false), (44, true), (45, true), (46, true)] (by kernel_rfl) (by kernel_rfl) (fun _ _ d _ _ h => by cases d <;> exact h) (Bel.drew W) ?_
    have hst := Bel.drew W
    have inst : Nonempty (Of (Bel W)) := ⟨⟨_, hst⟩⟩
    have q0 := bel_cell (AF9.cell 0 _ rfl)
    have q1 := bel_cell (AF9.cell 1 _ rfl)
    have q2 := bel_cell (AF9.cell 2 _ rfl)
    have q3 := bel_cell (AF9.cell 3 _ rfl)
    have q4 := bel_cell (AF9.cell 4 _ rfl)
    have q5 := bel_cell (AF9.cell 5 _ rfl)
    have g0 := pr0
    have g1 := pr1
    have g2 := pin_neq7
    have g3 := pin_guard7
    have g4 := by7
    iterate 4 (refine line_read rfl (by kernel_rfl) (fun K hK => ?_); go_big_quiet_op; refine hK _ ?_; clear hK K)
    refine line_alone rfl (by kernel_rfl) (fun K hK => ?_)
    refine call_wp (args := #[.slice xx xn xc, .string nm]) rfl (by kernel_rfl) (by kernel_rfl) (FS _ (RX9.on hst.out)) (fun wn hbn => ?_)
    have hst2 := hst.on hbn
    refine hK _ _ hst2 ?_
    clear hK K hst hbn
    have hst := hst2
    clear hst2
    simp only [Act.put, List.setIfInBounds_toArray, List.set_cons_zero, List.set_cons_succ]
    iterate 7 (refine line_read rfl (by kernel_rfl) (fun K hK => ?_); go_big_quiet_op; refine hK _ ?_; clear hK K)
    refine line_alone rfl (by kernel_rfl) (fun K hK => ?_)
    refine call_wp (args := #[.slice xx xn xc, .string nm]) rfl (by kernel_rfl) (by kernel_rfl) (FS _ (RX9.on hst.out)) (fun wn hbn => ?_)
    have hst2 := hst.on hbn
    refine hK _ _ hst2 ?_
    clear hK K hst hbn
    have hst := hst2
    clear hst2
    simp only [Act.put, List.setIfInBounds_toArray, List.set_cons_zero, List.set_cons_succ]
    have l0 := bel_cell (AA9.cell 0 _ rfl)
    have l1 := bel_cell (AA9.cell 1 _ rfl)
    have l2 := bel_cell (AA9.cell 2 _ rfl)
    have l3 := bel_cell (AA9.cell 3 _ rfl)
    have l4 := bel_cell (AA9.cell 4 _ rfl)
    iterate 8 (refine line_read rfl (by kernel_rfl) (fun K hK => ?_); go_big_quiet_op; refine hK _ ?_; clear hK K)
    refine line_alone rfl (by kernel_rfl) (fun K hK => ?_)
    refine call_wp (args := #[P5 la, .int .i64 tn]) rfl (by kernel_rfl) (by kernel_rfl) (VI _) (fun wn hbn => ?_)
    have hst2 := hst.on hbn
    refine hK _ _ hst2 ?_
    clear hK K hst hbn
    have hst := hst2
    clear hst2
    simp only [Act.put, List.setIfInBounds_toArray, List.set_cons_zero, List.set_cons_succ]
    refine line_alone rfl (by kernel_rfl) (fun K hK => ?_)
    refine call_wp (args := #[P5 la, .int .i64 tn]) rfl (by kernel_rfl) (by kernel_rfl) (VS _) (fun wn hbn => ?_)
    have hst2 := hst.on hbn
    refine hK _ _ hst2 ?_
    clear hK K hst hbn
    have hst := hst2
    clear hst2
    simp only [Act.put, List.setIfInBounds_toArray, List.set_cons_zero, List.set_cons_succ]
    clear q0 q1 q2 q3 q4 q5 l0 l1 l2 l3 l4 FS VI VS
    have s0 := bel_cell (AU9.cell 0 _ rfl)
    iterate 6 (refine line_read rfl (by kernel_rfl) (fun K hK => ?_); go_big_quiet_op; refine hK _ ?_; clear hK K)
    refine line_alone rfl (by kernel_rfl) (fun K hK => ?_)
    refine call_wp (args := #[.slice da dn dc]) rfl (by kernel_rfl) (by kernel_rfl) (US _ (RD9.on hst.out)) (fun wn hbn => ?_)
    have hst2 := hst.on hbn
    refine hK _ _ hst2 ?_
    clear hK K hst hbn
    have hst := hst2
    clear hst2
    simp only [Act.put, List.setIfInBounds_toArray, List.set_cons_zero, List.set_cons_succ]
    clear US
    rcases HFU.out with h | ⟨h, k1, k2⟩
    · subst h
      clear HFU PU
      iterate 8 (refine line_read rfl (by kernel_rfl) (fun K hK => ?_); go_big_quiet_op; refine hK _ ?_; clear hK K)
      iterate 7 (refine line_skip rfl (by kernel_rfl) ?_; simp only [Act.put, List.setIfInBounds_toArray, List.set_cons_zero, List.set_cons_succ])
      iterate 2 (refine line_read rfl (by kernel_rfl) (fun K hK => ?_); go_big_quiet_op; refine hK _ ?_; clear hK K)
      refine line_nil ?_
      have HT := Lib.hid hst.out
      clear hst
      go_wp2_with fail
      go_meet
      case rel => exact ⟨rfl, HT.out⟩
    · subst h
      have s1 := bel_cell (AU9.cell 1 _ rfl)
      have s2 := bel_cell (AU9.cell 2 _ rfl)
      have s3 := bel_cell (AU9.cell 3 _ rfl)
      have s4 := bel_cell (AU9.cell 4 _ rfl)
      have s5 := bel_cell (AU9.cell 5 _ rfl)
      rw [k1, k2] at PU
      iterate 11 (refine line_read rfl (by kernel_rfl) (fun K hK => ?_); go_big_quiet_op; refine hK _ ?_; clear hK K)
      refine line_alone rfl (by kernel_rfl) (fun K hK => ?_)
      refine call_any (args := #[P5 up]) rfl (by kernel_rfl) (by kernel_rfl) (PU _) ?_
      rintro e V5 ⟨ae, ne, ce, rfl, OE, be⟩
      have hst2 := hst.on be
      refine ⟨_, rfl, hK _ _ hst2 ?_⟩
      clear hK K hst be PU k1 k2
      have hst := hst2
      clear hst2
      simp only [Act.put, List.setIfInBounds_toArray, List.set_cons_zero, List.set_cons_succ]
      iterate 1 (refine line_read rfl (by kernel_rfl) (fun K hK => ?_); go_big_quiet_op; refine hK _ ?_; clear hK K)
      refine line_alone rfl (by kernel_rfl) (fun K hK => ?_)
      refine call_wp (args := #[.slice ae ne ce, .slice da dn dc]) rfl (by kernel_rfl) (by kernel_rfl) (lwBytes_any (Own.row OE RD9.wf) (RD9.on hst.out)) (fun wn hbn => ?_)
      subst hbn
      refine hK _ _ hst ?_
      clear hK K
      simp only [Act.put, List.setIfInBounds_toArray, List.set_cons_zero, List.set_cons_succ]
      clear OE HFU
      iterate 3 (refine line_read rfl (by kernel_rfl) (fun K hK => ?_); go_big_quiet_op; refine hK _ ?_; clear hK K)
      refine line_nil ?_
      have HT := Lib.hid hst.out
      clear hst
      go_wp2_with fail
      go_meet
      case rel => exact ⟨rfl, HT.out⟩
  case rest =>
    obtain ⟨rfl, bC⟩ := hcut
    have AR1 := AR9.on bC
    have RR1 := RR9.on bC
    have RL1 := RL9.on bC
    have AP1 := AP9.on bC
    have B1 := btr B9 bC
    clear AU9 AA9 AF9 AR9 RR9 RL9 AP9 RX9 RD9 B9 bC FS VI VS US PU HFU
    have r0 := AR1.cell 0 _ rfl
    have r1 := AR1.cell 1 _ rfl
    have p0 := AP1.cell 0 _ rfl
    have p1 := AP1.cell 1 _ rfl
    have p2 := AP1.cell 2 _ rfl
    have p3 := AP1.cell 3 _ rfl
    have p4 := AP1.cell 4 _ rfl
    by_cases hc : cd = 0
    · subst hc
      have K := FP.out rfl
      have eG := HZS.out
      have kfr := K.fr
      have kfc := K.fc
      have kff := K.ff
      have kold := K.old
      rw [eG] at kfr kfc kff kold
      have HWAS := Lib.hid K.was
      have hf := K.fp
      simp only [kfc, kff] at GI
      simp only [kold] at QI
      simp only [kfr] at NI
      generalize findC ls p.n.data.toList = wc1 at *
      generalize findR ls p.n.data.toList = wp at *
      generalize putR zs p = qs at *
      have PK := fun w => implPackPin_any p w hpm
      have RK := fun a n c w hR => implReadPin_any a n c w.heap.size (packPL p) w hR (Nat.le_refl _)
      obtain ⟨e1, e2⟩ := pin_back hf
      simp only [e1, e2] at RK
      simp only [hf] at PK
      have HWF := Lib.hid (show ∀ z ∈ packPL p, (Lit.int .u8 z).wf = true from fun z hz => byte_wf (packPL_byte p z hz))
      generalize packPL p = zb at *
      clear kfr kfc kff kold K FP eG HZS HCD LI LS e1 e2 hf
      go_wp2_with fail
      refine (WI _ RL1).mono ?_
      rintro r z1 ⟨rfl, c1⟩
      have c1a := bal c1 (.cells #[.int .i64 wc1, .string wp.n, .int .i64 wp.a, .int .i64 wp.b, .int .i64 wp.e, .int .i64 wp.u] 35)
      have AW : At z1.heap.size (RL6 wc1 wp) (z1.alloc (.cells #[.int .i64 wc1, .string wp.n, .int .i64 wp.a, .int .i64 wp.b, .int .i64 wp.e, .int .i64 wp.u] 35)) := At.new z1 (RL6 wc1 wp) 35
      have AR2 := AR1.on c1a
      have RR2 := RR1.on c1a
      have RL2 := RL1.on c1a
      have AP2 := AP1.on c1a
      have B2 := btr B1 c1a
      clear AR1 RR1 RL1 AP1 B1 c1 c1a WI r0 r1 p0 p1 p2 p3 p4
      have r0 := AR2.cell 0 _ rfl
      have r1 := AR2.cell 1 _ rfl
      have p0 := AP2.cell 0 _ rfl
      have p1 := AP2.cell 1 _ rfl
      have p2 := AP2.cell 2 _ rfl
      have p3 := AP2.cell 3 _ rfl
      have p4 := AP2.cell 4 _ rfl
      go_wp2_with fail
      generalize z1.alloc (.cells #[.int .i64 wc1, .string wp.n, .int .i64 wp.a, .int .i64 wp.b, .int .i64 wp.e, .int .i64 wp.u] 35) = y1 at *
      refine (GI _ _ _ _ RR2).mono ?_
      rintro r z2 ⟨rfl, c2⟩
      have c2a := bal c2 (.cells #[.int .i64 0, .string p.n, .int .i64 p.a, .int .i64 p.b, .int .i64 p.e, .int .i64 p.u] 35)
      have AG : At z2.heap.size (RL6 0 p) (z2.alloc (.cells #[.int .i64 0, .string p.n, .int .i64 p.a, .int .i64 p.b, .int .i64 p.e, .int .i64 p.u] 35)) := At.new z2 (RL6 0 p) 35
      have AW3 := AW.on c2a
      have AR3 := AR2.on c2a
      have RR3 := RR2.on c2a
      have RL3 := RL2.on c2a
      have AP3 := AP2.on c2a
      have B3 := btr B2 c2a
      clear AW AR2 RR2 RL2 AP2 B2 c2 c2a GI r0 r1 p0 p1 p2 p3 p4
      have r0 := AR3.cell 0 _ rfl
      have r1 := AR3.cell 1 _ rfl
      have p0 := AP3.cell 0 _ rfl
      have p1 := AP3.cell 1 _ rfl
      have p2 := AP3.cell 2 _ rfl
      have p3 := AP3.cell 3 _ rfl
      have p4 := AP3.cell 4 _ rfl
      go_wp2_with fail
      generalize z2.alloc (.cells #[.int .i64 0, .string p.n, .int .i64 p.a, .int .i64 p.b, .int .i64 p.e, .int .i64 p.u] 35) = y2 at *
      refine (PK _).mono ?_
      rintro r z3 ⟨ba, bn, bc, rfl, OB, c3⟩
      have c3a := bal c3 (.cells #[.int .i64 0, .slice ba bn bc] 44)
      have AB := At.new z3 [.int .i64 0, .slice ba bn bc] 44
      have RB := (Own.row OB HWF.out).on (bal (Below.refl _ z3) (.cells #[.int .i64 0, .slice ba bn bc] 44))
      have AG4 := AG.on c3a
      have AW4 := AW3.on c3a
      have AR4 := AR3.on c3a
      have RR4 := RR3.on c3a
      have RL4 := RL3.on c3a
      have AP4 := AP3.on c3a
      have B4 := btr B3 c3a
      clear AG AW3 AR3 RR3 RL3 AP3 B3 c3 c3a PK r0 r1 p0 p1 p2 p3 p4 OB HWF
      go_upto_region 17 with fail
      generalize z3.alloc (.cells #[.int .i64 0, .slice ba bn bc] 44) = Y at *
      clear hl hm hbig hB
      have g0 := ps0
      have g1 := ps1
      have g2 := pr1
      have g3 := pin_eql7
      have g4 := pin_guard7
      refine wp_region_line (Bel Y) [(0, true), (1, true), (2, false), (3, true), (4, true), (5, true), (6, true), (7, true), (8, true), (9, true), (10, true), (11, true), (12, true), (13, true), (14, true), (15, true), (16, true), (17, true), (18, true), (19, true), (20, true), (21, true), (22, true), (23, true), (24, true), (25, true), (26, true), (27, true), (28, true), (29, true), (30, true), (31, true), (32, false), (33, true), (34, true), (35, true), (36, true), (37, true), (38, true), (41, true), (39, false), (40, true), (42, true), (43, true), (44, true), (45, true), (46, true), (47, true), (48, true), (49, false), (50, true), (51, false), (52, true), (53, true)] (by kernel_rfl) (by kernel_rfl) (fun _ _ d _ _ h => by cases d <;> exact h) (Bel.drew Y) ?_
      have hst := Bel.drew Y
      have inst : Nonempty (Of (Bel Y)) := ⟨⟨_, hst⟩⟩
      have r1 := bel_cell (AR4.cell 1 _ rfl)
      have p0 := bel_cell (AP4.cell 0 _ rfl)
      have p1 := bel_cell (AP4.cell 1 _ rfl)
      have p2 := bel_cell (AP4.cell 2 _ rfl)
      have p3 := bel_cell (AP4.cell 3 _ rfl)
      have p4 := bel_cell (AP4.cell 4 _ rfl)
      have q0 := bel_cell (AG4.cell 0 _ rfl)
      have q1 := bel_cell (AG4.cell 1 _ rfl)
      have q2 := bel_cell (AG4.cell 2 _ rfl)
      have q3 := bel_cell (AG4.cell 3 _ rfl)
      have q4 := bel_cell (AG4.cell 4 _ rfl)
      have q5 := bel_cell (AG4.cell 5 _ rfl)
      have s0 := bel_cell (AW4.cell 0 _ rfl)
      have s4 := bel_cell (AW4.cell 4 _ rfl)
      have t1 := bel_cell (AB.cell 1 _ rfl)
      iterate 2 (refine line_read rfl (by kernel_rfl) (fun K hK => ?_); go_big_quiet_op; refine hK _ ?_; clear hK K)
      refine line_alone rfl (by kernel_rfl) (fun K hK => ?_)
      refine call_wp (args := #[.slice rx zs.length rc]) rfl (by kernel_rfl) (by kernel_rfl) (NI _ _ _ _ (RR4.on hst.out)) (fun wn hbn => ?_)
      have hst2 := hst.on hbn
      refine hK _ _ hst2 ?_
      clear hK K hst hbn
      have hst := hst2
      clear hst2
      simp only [Act.put, List.setIfInBounds_toArray, List.set_cons_zero, List.set_cons_succ]
      clear NI
      iterate 13 (refine line_read rfl (by kernel_rfl) (fun K hK => ?_); go_big_quiet_op; refine hK _ ?_; clear hK K)
      clear q0 q1 q2 q3 q4 q5
      rcases HWAS.out with h | ⟨h, hw⟩
      · have h' : (wc1 == 0) = false := by rw [beq_eq_false_iff_ne]; exact h
        have h1 : decide (wc1 = 0) = false := by simp [h]
        have h2 : (wc1 != 0) = true := by simp [h]
        clear HWAS
        iterate 4 (refine line_read rfl (by kernel_rfl) (fun K hK => ?_); go_big_quiet_op; refine hK _ ?_; clear hK K)
        clear h h1 h2 h'
        iterate 6 (refine line_skip rfl (by kernel_rfl) ?_; simp only [Act.put, List.setIfInBounds_toArray, List.set_cons_zero, List.set_cons_succ])
        iterate 6 (refine line_read rfl (by kernel_rfl) (fun K hK => ?_); go_big_quiet_op; refine hK _ ?_; clear hK K)
        refine line_alone rfl (by kernel_rfl) (fun K hK => ?_)
        refine call_any (args := #[.slice rx zs.length rc, P5 p]) rfl (by kernel_rfl) (by kernel_rfl) (QI _ _ _ _ (RR4.on hst.out)) ?_
        rintro e V5 ⟨sa, sn, sc, rfl, OS, be⟩
        have hst2 := hst.on be
        refine ⟨_, rfl, hK _ _ hst2 ?_⟩
        clear hK K hst be OS
        have hst := hst2
        clear hst2
        simp only [Act.put, List.setIfInBounds_toArray, List.set_cons_zero, List.set_cons_succ]
        iterate 7 (refine line_read rfl (by kernel_rfl) (fun K hK => ?_); go_big_quiet_op; refine hK _ ?_; clear hK K)
        refine line_alone rfl (by kernel_rfl) (fun K hK => ?_)
        refine call_wp (args := #[.slice ba bn bc]) rfl (by kernel_rfl) (by kernel_rfl) (RK _ _ _ _ (RB.on hst.out)) (fun wn hbn => ?_)
        have hst2 := hst.on hbn
        refine hK _ _ hst2 ?_
        clear hK K hst hbn
        have hst := hst2
        clear hst2
        simp only [Act.put, List.setIfInBounds_toArray, List.set_cons_zero, List.set_cons_succ]
        iterate 8 (refine line_read rfl (by kernel_rfl) (fun K hK => ?_); go_big_quiet_op; refine hK _ ?_; clear hK K)
        refine line_alone rfl (by kernel_rfl) (fun K hK => ?_)
        refine call_any (args := #[.slice lx ln lc, P5 p]) rfl (by kernel_rfl) (by kernel_rfl) (PS _ (RL4.on hst.out)) ?_
        rintro e V5 ⟨sa, sn, sc, rfl, OS, be⟩
        have RS := OS.row HN.out
        have lS := OS.len7
        subst lS
        have hst2 := hst.on be
        refine ⟨_, rfl, hK _ _ hst2 ?_⟩
        clear hK K hst be OS
        have hst := hst2
        clear hst2
        simp only [Act.put, List.setIfInBounds_toArray, List.set_cons_zero, List.set_cons_succ]
        iterate 1 (refine line_read rfl (by kernel_rfl) (fun K hK => ?_); go_big_quiet_op; refine hK _ ?_; clear hK K)
        have SM := implSamePins_any rx sa zs.length zs.length rc sc V5.heap.size zs zs
        rw [sameL_self] at SM
        refine line_alone rfl (by kernel_rfl) (fun K hK => ?_)
        refine call_wp (args := #[.slice rx zs.length rc, .slice sa zs.length sc]) rfl (by kernel_rfl) (by kernel_rfl) (SM _ (RR4.on hst.out) RS (Nat.le_refl _)) (fun wn hbn => ?_)
        have hst2 := hst.on hbn
        refine hK _ _ hst2 ?_
        clear hK K hst hbn
        have hst := hst2
        clear hst2
        simp only [Act.put, List.setIfInBounds_toArray, List.set_cons_zero, List.set_cons_succ]
        iterate 2 (refine line_read rfl (by kernel_rfl) (fun K hK => ?_); go_big_quiet_op; refine hK _ ?_; clear hK K)
        refine line_nil ?_
        have hb := btr B4 hst.out
        clear hst
        go_wp2_with fail
        go_ret
        exact ⟨rfl, hb⟩
      · subst h
        clear HWAS
        iterate 10 (refine line_read rfl (by kernel_rfl) (fun K hK => ?_); go_big_quiet_op; refine hK _ ?_; clear hK K)
        iterate 6 (refine line_read rfl (by kernel_rfl) (fun K hK => ?_); go_big_quiet_op; refine hK _ ?_; clear hK K)
        refine line_alone rfl (by kernel_rfl) (fun K hK => ?_)
        refine call_any (args := #[.slice rx zs.length rc, P5 p]) rfl (by kernel_rfl) (by kernel_rfl) (QI _ _ _ _ (RR4.on hst.out)) ?_
        rintro e V5 ⟨sa, sn, sc, rfl, OS, be⟩
        have hst2 := hst.on be
        refine ⟨_, rfl, hK _ _ hst2 ?_⟩
        clear hK K hst be OS
        have hst := hst2
        clear hst2
        simp only [Act.put, List.setIfInBounds_toArray, List.set_cons_zero, List.set_cons_succ]
        iterate 7 (refine line_read rfl (by kernel_rfl) (fun K hK => ?_); go_big_quiet_op; refine hK _ ?_; clear hK K)
        refine line_alone rfl (by kernel_rfl) (fun K hK => ?_)
        refine call_wp (args := #[.slice ba bn bc]) rfl (by kernel_rfl) (by kernel_rfl) (RK _ _ _ _ (RB.on hst.out)) (fun wn hbn => ?_)
        have hst2 := hst.on hbn
        refine hK _ _ hst2 ?_
        clear hK K hst hbn
        have hst := hst2
        clear hst2
        simp only [Act.put, List.setIfInBounds_toArray, List.set_cons_zero, List.set_cons_succ]
        iterate 8 (refine line_read rfl (by kernel_rfl) (fun K hK => ?_); go_big_quiet_op; refine hK _ ?_; clear hK K)
        refine line_alone rfl (by kernel_rfl) (fun K hK => ?_)
        refine call_any (args := #[.slice lx ln lc, P5 p]) rfl (by kernel_rfl) (by kernel_rfl) (PS _ (RL4.on hst.out)) ?_
        rintro e V5 ⟨sa, sn, sc, rfl, OS, be⟩
        have RS := OS.row HN.out
        have lS := OS.len7
        subst lS
        have hst2 := hst.on be
        refine ⟨_, rfl, hK _ _ hst2 ?_⟩
        clear hK K hst be OS
        have hst := hst2
        clear hst2
        simp only [Act.put, List.setIfInBounds_toArray, List.set_cons_zero, List.set_cons_succ]
        iterate 1 (refine line_read rfl (by kernel_rfl) (fun K hK => ?_); go_big_quiet_op; refine hK _ ?_; clear hK K)
        have SM := implSamePins_any rx sa zs.length zs.length rc sc V5.heap.size zs zs
        rw [sameL_self] at SM
        refine line_alone rfl (by kernel_rfl) (fun K hK => ?_)
        refine call_wp (args := #[.slice rx zs.length rc, .slice sa zs.length sc]) rfl (by kernel_rfl) (by kernel_rfl) (SM _ (RR4.on hst.out) RS (Nat.le_refl _)) (fun wn hbn => ?_)
        have hst2 := hst.on hbn
        refine hK _ _ hst2 ?_
        clear hK K hst hbn
        have hst := hst2
        clear hst2
        simp only [Act.put, List.setIfInBounds_toArray, List.set_cons_zero, List.set_cons_succ]
        iterate 2 (refine line_read rfl (by kernel_rfl) (fun K hK => ?_); go_big_quiet_op; refine hK _ ?_; clear hK K)
        refine line_nil ?_
        have hb := btr B4 hst.out
        clear hst
        go_wp2_with fail
        go_ret
        exact ⟨rfl, hb⟩
    · have hcb : (cd == 0) = false := by rw [beq_eq_false_iff_ne]; exact hc
      have MI := fun w => implPinFault_any p w hpm
      have MS := fun w => specPinFault_any p w hpm
      clear hc FP HZS HCD
      go_upto_region 13 with fail
      clear hl hm hbig hB r0 r1 p0 p1 p2 p3 p4
      have g0 := ps0
      refine wp_region_line (Bel wc) [(0, true), (1, true), (4, true), (5, true), (2, false), (3, true), (6, true), (7, true), (8, true), (10, true), (9, false), (11, false), (12, true), (13, true), (14, true), (15, true), (17, true), (16, false), (18, false), (19, true), (20, true), (21, true)] (by kernel_rfl) (by kernel_rfl) (fun _ _ d _ _ h => by cases d <;> exact h) (Bel.drew wc) ?_
      have hst := Bel.drew wc
      have inst : Nonempty (Of (Bel wc)) := ⟨⟨_, hst⟩⟩
      have r0 := bel_cell (AR1.cell 0 _ rfl)
      have p0 := bel_cell (AP1.cell 0 _ rfl)
      have p1 := bel_cell (AP1.cell 1 _ rfl)
      have p2 := bel_cell (AP1.cell 2 _ rfl)
      have p3 := bel_cell (AP1.cell 3 _ rfl)
      have p4 := bel_cell (AP1.cell 4 _ rfl)
      iterate 4 (refine line_read rfl (by kernel_rfl) (fun K hK => ?_); go_big_quiet_op; refine hK _ ?_; clear hK K)
      refine line_alone rfl (by kernel_rfl) (fun K hK => ?_)
      refine call_any (args := #[.slice lx ln lc, P5 p]) rfl (by kernel_rfl) (by kernel_rfl) (PS _ (RL1.on hst.out)) ?_
      rintro e V5 ⟨sa, sn, sc, rfl, OS, be⟩
      have hst2 := hst.on be
      refine ⟨_, rfl, hK _ _ hst2 ?_⟩
      clear hK K hst be OS
      have hst := hst2
      clear hst2
      simp only [Act.put, List.setIfInBounds_toArray, List.set_cons_zero, List.set_cons_succ]
      iterate 5 (refine line_read rfl (by kernel_rfl) (fun K hK => ?_); go_big_quiet_op; refine hK _ ?_; clear hK K)
      refine line_alone rfl (by kernel_rfl) (fun K hK => ?_)
      refine call_wp (args := #[.slice lx ln lc]) rfl (by kernel_rfl) (by kernel_rfl) (LI _ (RL1.on hst.out)) (fun wn hbn => ?_)
      have hst2 := hst.on hbn
      refine hK _ _ hst2 ?_
      clear hK K hst hbn
      have hst := hst2
      clear hst2
      simp only [Act.put, List.setIfInBounds_toArray, List.set_cons_zero, List.set_cons_succ]
      refine line_alone rfl (by kernel_rfl) (fun K hK => ?_)
      refine call_wp (args := #[.slice lx ln lc]) rfl (by kernel_rfl) (by kernel_rfl) (LS _ (RL1.on hst.out)) (fun wn hbn => ?_)
      have hst2 := hst.on hbn
      refine hK _ _ hst2 ?_
      clear hK K hst hbn
      have hst := hst2
      clear hst2
      simp only [Act.put, List.setIfInBounds_toArray, List.set_cons_zero, List.set_cons_succ]
      iterate 5 (refine line_read rfl (by kernel_rfl) (fun K hK => ?_); go_big_quiet_op; refine hK _ ?_; clear hK K)
      refine line_alone rfl (by kernel_rfl) (fun K hK => ?_)
      refine call_wp (args := #[P5 p]) rfl (by kernel_rfl) (by kernel_rfl) (MI _) (fun wn hbn => ?_)
      have hst2 := hst.on hbn
      refine hK _ _ hst2 ?_
      clear hK K hst hbn
      have hst := hst2
      clear hst2
      simp only [Act.put, List.setIfInBounds_toArray, List.set_cons_zero, List.set_cons_succ]
      refine line_alone rfl (by kernel_rfl) (fun K hK => ?_)
      refine call_wp (args := #[P5 p]) rfl (by kernel_rfl) (by kernel_rfl) (MS _) (fun wn hbn => ?_)
      have hst2 := hst.on hbn
      refine hK _ _ hst2 ?_
      clear hK K hst hbn
      have hst := hst2
      clear hst2
      simp only [Act.put, List.setIfInBounds_toArray, List.set_cons_zero, List.set_cons_succ]
      iterate 3 (refine line_read rfl (by kernel_rfl) (fun K hK => ?_); go_big_quiet_op; refine hK _ ?_; clear hK K)
      refine line_nil ?_
      have hb := btr B1 hst.out
      clear hst
      go_wp2_with fail
      go_ret
      exact ⟨rfl, hb⟩

end Go.Proofs.YtcnpocppgghejaaGreatDoor.fnPins
