/- A store that is packed has the same pins, and no more records than these, at every input that is drawn out of whatever bytes. The walk: the law's Go text answers true and turns nothing that was there. Conditions: as the theorem states. -/
import Derived.Test.YtcolecidbalmhaaGreatDoorY11
import Derived.Test.YtcolecidbalmhaaGreatDoorY12
import Derived.Test.YtcolecidbalmhaaGreatDoorY13
import Derived.Test.YtcolecidbalmhaaGreatDoorY14
import Derived.Test.YtcolecidbalmhaaGreatDoorY16
import Derived.WalkKit
import Derived.Below
namespace Go.Proofs.YtcolecidbalmhaaGreatDoor.fnPacks
open Go.RowKit
set_option linter.unusedVariables false

set_option maxHeartbeats 3000000 in
set_option maxRecDepth 100000 in
theorem walk (a0 : Option Addr) (len0 cap0 : Nat) (z0 : List Int) (w : World) (w0 : Row .u8 w w.heap.size a0 len0 cap0 z0) :
    Calls Tryz.prog 5 #[.slice a0 len0 cap0] w fun e w' => e = .returned (.bool true) ∧ Below w.heap.size w w' := by
  have hl := w0.fits
  have hm := w0.most
  unfold maxLen at hm
  by_cases hbig : 1048576 < len0
  · have hB : decide (1048576 < len0) = true := by simp [hbig]
    go_enter Tryz.func5, Tryz.ntmps5
    go_wp2_with fail
    refine (lwBig_any _ _ _ _ (by omega)).mono ?_
    rintro r w' ⟨rfl, rfl⟩
    go_wp2_with fail
    go_ret
    exact ⟨rfl, Below.refl _ _⟩
  have hB : decide (1048576 < len0) = false := by simp [hbig]
  go_enter Tryz.func5, Tryz.ntmps5
  go_wp2_with fail
  refine (lwBig_any _ _ _ _ (by omega)).mono ?_
  rintro r w' ⟨rfl, rfl⟩
  go_wp2_with fail
  refine (DrawPackStore_any w0).mono ?_
  rintro r u1 ⟨a1, n1, c1, a2, n2, c2, s, rfl, RS, b1⟩
  have hn2 := RS.rs.length
  subst hn2
  have hn1 := RS.ps.length
  subst hn1
  have b1a := bal b1 (.cells #[.slice a1 s.ps.length c1, .slice a2 s.d.rs.length c2, .int .i64 s.d.s] 29)
  have AS : At u1.heap.size (S3L a1 s.ps.length c1 a2 s.d.rs.length c2 s.d.s) (u1.alloc (.cells #[.slice a1 s.ps.length c1, .slice a2 s.d.rs.length c2, .int .i64 s.d.s] 29)) := At.new u1 (S3L a1 s.ps.length c1 a2 s.d.rs.length c2 s.d.s) 29
  have RS1 := RS.on (bal (Below.refl _ u1) (.cells #[.slice a1 s.ps.length c1, .slice a2 s.d.rs.length c2, .int .i64 s.d.s] 29))
  have PI := fun w hR => implPackStore_any a1 s.ps.length c1 a2 s.d.rs.length c2 w.heap.size s w hR (Nat.le_refl _)
  have ps := fun w hR => specPackStore_any a1 s.ps.length c1 a2 s.d.rs.length c2 w.heap.size s w hR (Nat.le_refl _)
  unfold StoreRes at PI ps
  have PS := Lib.hid ps
  have HPO := Lib.hid (fun h : storeF s = 0 => pack_ok h)
  have hpm := RS.ps.most
  have hrm := RS.rs.most
  unfold maxLen at hpm hrm
  have hpf := RS.ps.fits
  have hrf := RS.rs.fits
  have kk0 := AS.cell 0 _ rfl
  have kk1 := AS.cell 1 _ rfl
  have kk2 := AS.cell 2 _ rfl
  clear RS b1 ps
  go_wp2_with fail
  generalize u1.alloc (.cells #[.slice a1 s.ps.length c1, .slice a2 s.d.rs.length c2, .int .i64 s.d.s] 29) = v1 at *
  refine (PI _ RS1).mono ?_
  rintro r u2 ⟨x1, m1, e1, x2, m2, e2, rfl, SO, b2⟩
  obtain ⟨rfl, rfl⟩ := SO.len
  generalize hS : packSt s = S at *
  generalize hC : storeF s = C at *
  have HS := Lib.hid hS
  clear hS hC
  have b2a := bal b2 (.cells #[.int .i64 C, .slice x1 S.ps.length e1, .slice x2 S.d.rs.length e2, .int .i64 S.d.s] 35)
  have AP : At u2.heap.size (V4R C x1 S.ps.length e1 x2 S.d.rs.length e2 S.d.s) (u2.alloc (.cells #[.int .i64 C, .slice x1 S.ps.length e1, .slice x2 S.d.rs.length e2, .int .i64 S.d.s] 35)) := At.new u2 (V4R C x1 S.ps.length e1 x2 S.d.rs.length e2 S.d.s) 35
  have RP := SO.row.on (bal (Below.refl _ u2) (.cells #[.int .i64 C, .slice x1 S.ps.length e1, .slice x2 S.d.rs.length e2, .int .i64 S.d.s] 35))
  have AS2 := AS.on b2a
  have RS2 := RS1.on b2a
  have B2 := btr b1a b2a
  clear b1a b2 b2a RS1 AS SO PI kk0 kk1 kk2
  go_wp2_with fail
  generalize u2.alloc (.cells #[.int .i64 C, .slice x1 S.ps.length e1, .slice x2 S.d.rs.length e2, .int .i64 S.d.s] 35) = v2 at *
  refine (DrawOpenDisk_any (w0.on B2)).mono ?_
  rintro r u3 ⟨da, dn, dc, rs, dsf, rfl, GD0, hwf, b3⟩
  have b3a := bal b3 (.cells #[.slice da dn dc, .int .i64 dsf] 27)
  have AD : At u3.heap.size [.slice da dn dc, .int .i64 dsf] (u3.alloc (.cells #[.slice da dn dc, .int .i64 dsf] 27)) := At.new u3 [.slice da dn dc, .int .i64 dsf] 27
  have bb := bal (Below.refl _ u3) (.cells #[.slice da dn dc, .int .i64 dsf] 27)
  have GD1 := (GD0.below bb).more bb.size
  have OI := fun w hG => implOpenDisk_any da dn dc w.heap.size rs dsf w hG (Nat.le_refl _) hwf
  have os := fun w hG => specOpenDisk_any da dn dc w.heap.size rs dsf w hG (Nat.le_refl _) hwf
  unfold StoreRes at OI os
  have OS := Lib.hid os
  have HOF := Lib.hid (fun h : openC ⟨rs, dsf⟩ = 0 => openS_f h)
  generalize openS ⟨rs, dsf⟩ = O at *
  generalize openC ⟨rs, dsf⟩ = OC at *
  have AP3 := AP.on b3a
  have AS3 := AS2.on b3a
  have RP3 := RP.on b3a
  have RS3 := RS2.on b3a
  have B3 := btr B2 b3a
  clear AP AS2 RP RS2 B2 b3 b3a bb GD0 hwf os
  have dd0 := AD.cell 0 _ rfl
  have dd1 := AD.cell 1 _ rfl
  go_wp2_with fail
  generalize u3.alloc (.cells #[.slice da dn dc, .int .i64 dsf] 27) = v3 at *
  refine (OI _ GD1).mono ?_
  rintro r u4 ⟨o1, p1, g1, o2, p2, g2, rfl, SO4, b4⟩
  obtain ⟨rfl, rfl⟩ := SO4.len
  have b4a := bal b4 (.cells #[.int .i64 OC, .slice o1 O.ps.length g1, .slice o2 O.d.rs.length g2, .int .i64 O.d.s] 35)
  have AO : At u4.heap.size (V4R OC o1 O.ps.length g1 o2 O.d.rs.length g2 O.d.s) (u4.alloc (.cells #[.int .i64 OC, .slice o1 O.ps.length g1, .slice o2 O.d.rs.length g2, .int .i64 O.d.s] 35)) := At.new u4 (V4R OC o1 O.ps.length g1 o2 O.d.rs.length g2 O.d.s) 35
  have RO := SO4.row.on (bal (Below.refl _ u4) (.cells #[.int .i64 OC, .slice o1 O.ps.length g1, .slice o2 O.d.rs.length g2, .int .i64 O.d.s] 35))
  have GD := (GD1.below (b4a.mono (Nat.le_refl _))).more b4a.size
  have AD4 := AD.on b4a
  have AP6 := AP3.on b4a
  have AS6 := AS3.on b4a
  have RP6' := RP3.on b4a
  have RS6 := RS3.on b4a
  have B6 := btr B3 b4a
  clear AD AP3 AS3 RP3 RS3 B3 b4 b4a GD1 OI SO4 dd0 dd1
  go_wp2_with fail
  generalize u4.alloc (.cells #[.int .i64 OC, .slice o1 O.ps.length g1, .slice o2 O.d.rs.length g2, .int .i64 O.d.s] 35) = v4 at *
  refine wp_region_line (Bel v4) [(0, true), (1, true), (2, true), (3, false), (4, true), (5, true), (6, true), (7, true), (8, true), (9, true), (10, true), (11, true), (12, true), (13, false), (14, true), (15, true), (16, true), (17, true), (18, true), (19, true), (20, false), (21, true), (22, true), (23, false), (24, true), (25, true), (26, true), (27, true)] (by kernel_rfl) (by kernel_rfl) (fun _ _ d _ _ h => by cases d <;> exact h) (Bel.drew v4) ?_
  have hst := Bel.drew v4
  have inst : Nonempty (Of (Bel v4)) := ⟨⟨_, hst⟩⟩
  have o0 := bel_cell (AO.cell 0 _ rfl)
  have o1' := bel_cell (AO.cell 1 _ rfl)
  have o2' := bel_cell (AO.cell 2 _ rfl)
  have o3 := bel_cell (AO.cell 3 _ rfl)
  have d0 := bel_cell (AD4.cell 0 _ rfl)
  have d1 := bel_cell (AD4.cell 1 _ rfl)
  clear AD4
  generalize hu7 : v4.drew = u7 at *
  clear hu7
  have AD := Lib.hid True.intro
  iterate 3 (refine line_read rfl (by kernel_rfl) (fun K hK => ?_); go_big_quiet_op; refine hK _ ?_; clear hK K)
  refine line_alone rfl (by kernel_rfl) (fun K hK => ?_)
  refine call_any (args := #[.agg #[.slice da dn dc, .int .i64 dsf]]) rfl (by kernel_rfl) (by kernel_rfl) (OS.out _ ((GD.below hst.out).more hst.out.size)) ?_
  rintro e V5 ⟨y1, l1, h1, y2, l2, h2, rfl, SO5, be⟩
  clear SO5
  have hst2 := hst.on be
  refine ⟨_, rfl, hK _ _ hst2 ?_⟩
  clear hK K hst be
  have hst := hst2
  clear hst2
  simp only [Act.put, List.setIfInBounds_toArray, List.set_cons_zero, List.set_cons_succ]
  refine line_readv (v := .int .i64 OC) rfl (by kernel_rfl) (fun _ => by kernel_rfl) ?_
  simp only [Act.put, List.setIfInBounds_toArray, List.set_cons_zero, List.set_cons_succ]
  by_cases hO : OC = 0
  · subst hO
    have hof := HOF.out rfl
    have SFO := fun w hR => implStoreFault_any o1 O.ps.length g1 o2 O.d.rs.length g2 w.heap.size O w hR (Nat.le_refl _)
    rw [hof] at SFO
    have SMO := fun a n c w h1 h2 => implSamePins_any o1 a O.ps.length n g1 c w.heap.size O.ps O.ps w h1 h2 (Nat.le_refl _)
    rw [sameL_self] at SMO
    iterate 8 (refine line_read rfl (by kernel_rfl) (fun K hK => ?_); go_big_quiet_op; refine hK _ ?_; clear hK K)
    refine line_alone rfl (by kernel_rfl) (fun K hK => ?_)
    refine call_wp (args := #[.agg #[.slice o1 O.ps.length g1, .slice o2 O.d.rs.length g2, .int .i64 O.d.s]]) rfl (by kernel_rfl) (by kernel_rfl) (SFO _ (RO.on hst.out)) (fun wn hbn => ?_)
    have hst2 := hst.on hbn
    refine hK _ _ hst2 ?_
    clear hK K hst hbn
    have hst := hst2
    clear hst2
    simp only [Act.put, List.setIfInBounds_toArray, List.set_cons_zero, List.set_cons_succ]
    iterate 6 (refine line_read rfl (by kernel_rfl) (fun K hK => ?_); go_big_quiet_op; refine hK _ ?_; clear hK K)
    refine line_alone rfl (by kernel_rfl) (fun K hK => ?_)
    refine call_any (args := #[.agg #[.slice da dn dc, .int .i64 dsf]]) rfl (by kernel_rfl) (by kernel_rfl) (OS.out _ ((GD.below hst.out).more hst.out.size)) ?_
    rintro e V6 ⟨y1, l1, h1, y2, l2, h2, rfl, SO5, be⟩
    have R5 := SO5.row.ps
    have RO9 := (RO.on (btr hst.out be)).ps
    clear SO5
    have hst2 := hst.on be
    refine ⟨_, rfl, hK _ _ hst2 ?_⟩
    clear hK K hst be
    have hst := hst2
    clear hst2
    simp only [Act.put, List.setIfInBounds_toArray, List.set_cons_zero, List.set_cons_succ]
    refine line_readv (v := .agg #[.slice y1 l1 h1, .slice y2 l2 h2, .int .i64 O.d.s]) rfl (by kernel_rfl) (fun _ => by kernel_rfl) ?_
    simp only [Act.put, List.setIfInBounds_toArray, List.set_cons_zero, List.set_cons_succ]
    refine line_readv (v := .slice y1 l1 h1) rfl (by kernel_rfl) (fun _ => by kernel_rfl) ?_
    simp only [Act.put, List.setIfInBounds_toArray, List.set_cons_zero, List.set_cons_succ]
    refine line_alone rfl (by kernel_rfl) (fun K hK => ?_)
    refine call_wp (args := #[.slice o1 O.ps.length g1, .slice y1 l1 h1]) rfl (by kernel_rfl) (by kernel_rfl) (SMO _ _ _ _ RO9 R5) (fun wn hbn => ?_)
    have hst2 := hst.on hbn
    refine hK _ _ hst2 ?_
    clear hK K hst hbn
    have hst := hst2
    clear hst2
    simp only [Act.put, List.setIfInBounds_toArray, List.set_cons_zero, List.set_cons_succ]
    iterate 4 (refine line_read rfl (by kernel_rfl) (fun K hK => ?_); go_big_quiet_op; refine hK _ ?_; clear hK K)
    clear HOF hof SFO SMO RO9 R5 o0 o1' o2' o3 d0 d1
    refine line_nil ?_
    have AP7 := AP6.on hst.out
    have AS7 := AS6.on hst.out
    have RS7 := RS6.on hst.out
    have RP7 := RP6'.on hst.out
    have B7 := btr B6 hst.out
    clear hst AP6 AS6 RS6 RP6' B6 AO RO AD GD
    by_cases hC : C = 0
    · subst hC
      have H := HPO.out rfl
      have hf := H.f
      have hp := H.ps
      have hl := H.len
      have hw := H.few
      rw [HS.out] at hf hp hl
      generalize S.d.rs.length = q at *
      subst hl
      have SF := fun w hR => implStoreFault_any x1 S.ps.length e1 x2 s.ps.length e2 w.heap.size S w hR (Nat.le_refl _)
      rw [hf] at SF
      have SM := fun w h1 h2 => implSamePins_any x1 a1 S.ps.length s.ps.length e1 c1 w.heap.size S.ps s.ps w h1 h2 (Nat.le_refl _)
      rw [show sameL S.ps s.ps = true by rw [hp]; exact sameL_self _] at SM
      have hle : (s.ps.length : Int) ≤ s.d.rs.length := by omega
      clear HPO HS H hf hp hw PS OS
      have pp0 := AP7.cell 0 _ rfl
      have pp1 := AP7.cell 1 _ rfl
      have pp2 := AP7.cell 2 _ rfl
      have pp3 := AP7.cell 3 _ rfl
      have kk0 := AS7.cell 0 _ rfl
      have kk1 := AS7.cell 1 _ rfl
      have kk2 := AS7.cell 2 _ rfl
      go_wp2_with fail
      refine (SF _ RP7).mono ?_
      rintro r u8 ⟨rfl, b8⟩
      have AP8 := AP7.on b8
      have AS8 := AS7.on b8
      have RP8 := RP7.on b8
      have RS8 := RS7.on b8
      have B8 := btr B7 b8
      clear pp0 pp1 pp2 pp3 kk0 kk1 kk2 AP7 AS7 RP7 RS7 B7 b8 SF
      have pp0 := AP8.cell 0 _ rfl
      have pp1 := AP8.cell 1 _ rfl
      have pp2 := AP8.cell 2 _ rfl
      have pp3 := AP8.cell 3 _ rfl
      have kk0 := AS8.cell 0 _ rfl
      have kk1 := AS8.cell 1 _ rfl
      have kk2 := AS8.cell 2 _ rfl
      go_wp2_with fail
      refine (SM _ RP8.ps RS8.ps).mono ?_
      rintro r u9 ⟨rfl, b9⟩
      have AP9 := AP8.on b9
      have AS9 := AS8.on b9
      have B9 := btr B8 b9
      clear pp0 pp1 pp2 pp3 kk0 kk1 kk2 AP8 AS8 RP8 RS8 B8 b9 SM
      have pp0 := AP9.cell 0 _ rfl
      have pp1 := AP9.cell 1 _ rfl
      have pp2 := AP9.cell 2 _ rfl
      have pp3 := AP9.cell 3 _ rfl
      have kk0 := AS9.cell 0 _ rfl
      have kk1 := AS9.cell 1 _ rfl
      have kk2 := AS9.cell 2 _ rfl
      clear AP9 AS9
      go_wp2_with fail
      go_ret
      exact ⟨rfl, B9⟩
    · have q9 : (C != 0) = true := by simpa using hC
      have q8 : decide (C = 0) = false := by simpa using hC
      have pp0 := AP7.cell 0 _ rfl
      have pp1 := AP7.cell 1 _ rfl
      have pp2 := AP7.cell 2 _ rfl
      have pp3 := AP7.cell 3 _ rfl
      have kk0 := AS7.cell 0 _ rfl
      have kk1 := AS7.cell 1 _ rfl
      have kk2 := AS7.cell 2 _ rfl
      go_wp2_with fail
      refine wp_region_line (Bel wn) [(0, true), (3, true), (4, true), (1, false), (2, true), (5, true), (6, true)] (by kernel_rfl) (by kernel_rfl) (fun _ _ d _ _ h => by cases d <;> exact h) (Bel.drew wn) ?_
      have hst := Bel.drew wn
      have inst : Nonempty (Of (Bel wn)) := ⟨⟨_, hst⟩⟩
      have kc0 := bel_cell kk0
      have kc1 := bel_cell kk1
      have kc2 := bel_cell kk2
      have pc0 := bel_cell pp0
      generalize (wn).drew = V7 at *
      iterate 3 (refine line_read rfl (by kernel_rfl) (fun K hK => ?_); go_big_quiet_op; refine hK _ ?_; clear hK K)
      refine line_alone rfl (by kernel_rfl) (fun K hK => ?_)
      refine call_any (args := #[S3 a1 s.ps.length c1 a2 s.d.rs.length c2 s.d.s]) rfl (by kernel_rfl) (by kernel_rfl) (PS.out _ (RS7.on hst.out)) ?_
      rintro e V8 ⟨j1, l1, i1, j2, l2, i2, rfl, SO9, be⟩
      clear SO9
      have hst2 := hst.on be
      refine ⟨_, rfl, hK _ _ hst2 ?_⟩
      clear hK K hst be
      have hst := hst2
      clear hst2
      simp only [Act.put, List.setIfInBounds_toArray, List.set_cons_zero, List.set_cons_succ]
      refine line_readv (v := .int .i64 C) rfl (by kernel_rfl) (fun _ => by kernel_rfl) ?_
      simp only [Act.put, List.setIfInBounds_toArray, List.set_cons_zero, List.set_cons_succ]
      iterate 2 (refine line_read rfl (by kernel_rfl) (fun K hK => ?_); go_big_quiet_op; refine hK _ ?_; clear hK K)
      refine line_nil ?_
      have hb := btr B7 hst.out
      clear hst
      go_wp2_with fail
      go_ret
      exact ⟨rfl, hb⟩
  · have q7 : (OC == 0) = false := by rw [beq_eq_false_iff_ne]; exact hO
    have q6 : decide (OC = 0) = false := by simpa using hO
    clear HOF
    iterate 6 (refine line_read rfl (by kernel_rfl) (fun K hK => ?_); go_big_quiet_op; refine hK _ ?_; clear hK K)
    iterate 15 (refine line_skip rfl (by kernel_rfl) ?_; simp only [Act.put, List.setIfInBounds_toArray, List.set_cons_zero, List.set_cons_succ])
    iterate 2 (refine line_read rfl (by kernel_rfl) (fun K hK => ?_); go_big_quiet_op; refine hK _ ?_; clear hK K)
    clear o0 o1' o2' o3 d0 d1
    refine line_nil ?_
    have AP7 := AP6.on hst.out
    have AS7 := AS6.on hst.out
    have RS7 := RS6.on hst.out
    have RP7 := RP6'.on hst.out
    have B7 := btr B6 hst.out
    clear hst AP6 AS6 RS6 RP6' B6 AO RO AD GD
    by_cases hC : C = 0
    · subst hC
      have H := HPO.out rfl
      have hf := H.f
      have hp := H.ps
      have hl := H.len
      have hw := H.few
      rw [HS.out] at hf hp hl
      generalize S.d.rs.length = q at *
      subst hl
      have SF := fun w hR => implStoreFault_any x1 S.ps.length e1 x2 s.ps.length e2 w.heap.size S w hR (Nat.le_refl _)
      rw [hf] at SF
      have SM := fun w h1 h2 => implSamePins_any x1 a1 S.ps.length s.ps.length e1 c1 w.heap.size S.ps s.ps w h1 h2 (Nat.le_refl _)
      rw [show sameL S.ps s.ps = true by rw [hp]; exact sameL_self _] at SM
      have hle : (s.ps.length : Int) ≤ s.d.rs.length := by omega
      clear HPO HS H hf hp hw PS OS
      have pp0 := AP7.cell 0 _ rfl
      have pp1 := AP7.cell 1 _ rfl
      have pp2 := AP7.cell 2 _ rfl
      have pp3 := AP7.cell 3 _ rfl
      have kk0 := AS7.cell 0 _ rfl
      have kk1 := AS7.cell 1 _ rfl
      have kk2 := AS7.cell 2 _ rfl
      go_wp2_with fail
      refine (SF _ RP7).mono ?_
      rintro r u8 ⟨rfl, b8⟩
      have AP8 := AP7.on b8
      have AS8 := AS7.on b8
      have RP8 := RP7.on b8
      have RS8 := RS7.on b8
      have B8 := btr B7 b8
      clear pp0 pp1 pp2 pp3 kk0 kk1 kk2 AP7 AS7 RP7 RS7 B7 b8 SF
      have pp0 := AP8.cell 0 _ rfl
      have pp1 := AP8.cell 1 _ rfl
      have pp2 := AP8.cell 2 _ rfl
      have pp3 := AP8.cell 3 _ rfl
      have kk0 := AS8.cell 0 _ rfl
      have kk1 := AS8.cell 1 _ rfl
      have kk2 := AS8.cell 2 _ rfl
      go_wp2_with fail
      refine (SM _ RP8.ps RS8.ps).mono ?_
      rintro r u9 ⟨rfl, b9⟩
      have AP9 := AP8.on b9
      have AS9 := AS8.on b9
      have B9 := btr B8 b9
      clear pp0 pp1 pp2 pp3 kk0 kk1 kk2 AP8 AS8 RP8 RS8 B8 b9 SM
      have pp0 := AP9.cell 0 _ rfl
      have pp1 := AP9.cell 1 _ rfl
      have pp2 := AP9.cell 2 _ rfl
      have pp3 := AP9.cell 3 _ rfl
      have kk0 := AS9.cell 0 _ rfl
      have kk1 := AS9.cell 1 _ rfl
      have kk2 := AS9.cell 2 _ rfl
      clear AP9 AS9
      go_wp2_with fail
      go_ret
      exact ⟨rfl, B9⟩
    · have q9 : (C != 0) = true := by simpa using hC
      have q8 : decide (C = 0) = false := by simpa using hC
      have pp0 := AP7.cell 0 _ rfl
      have pp1 := AP7.cell 1 _ rfl
      have pp2 := AP7.cell 2 _ rfl
      have pp3 := AP7.cell 3 _ rfl
      have kk0 := AS7.cell 0 _ rfl
      have kk1 := AS7.cell 1 _ rfl
      have kk2 := AS7.cell 2 _ rfl
      go_wp2_with fail
      refine wp_region_line (Bel V5) [(0, true), (3, true), (4, true), (1, false), (2, true), (5, true), (6, true)] (by kernel_rfl) (by kernel_rfl) (fun _ _ d _ _ h => by cases d <;> exact h) (Bel.drew V5) ?_
      have hst := Bel.drew V5
      have inst : Nonempty (Of (Bel V5)) := ⟨⟨_, hst⟩⟩
      have kc0 := bel_cell kk0
      have kc1 := bel_cell kk1
      have kc2 := bel_cell kk2
      have pc0 := bel_cell pp0
      generalize (V5).drew = V7 at *
      iterate 3 (refine line_read rfl (by kernel_rfl) (fun K hK => ?_); go_big_quiet_op; refine hK _ ?_; clear hK K)
      refine line_alone rfl (by kernel_rfl) (fun K hK => ?_)
      refine call_any (args := #[S3 a1 s.ps.length c1 a2 s.d.rs.length c2 s.d.s]) rfl (by kernel_rfl) (by kernel_rfl) (PS.out _ (RS7.on hst.out)) ?_
      rintro e V8 ⟨j1, l1, i1, j2, l2, i2, rfl, SO9, be⟩
      clear SO9
      have hst2 := hst.on be
      refine ⟨_, rfl, hK _ _ hst2 ?_⟩
      clear hK K hst be
      have hst := hst2
      clear hst2
      simp only [Act.put, List.setIfInBounds_toArray, List.set_cons_zero, List.set_cons_succ]
      refine line_readv (v := .int .i64 C) rfl (by kernel_rfl) (fun _ => by kernel_rfl) ?_
      simp only [Act.put, List.setIfInBounds_toArray, List.set_cons_zero, List.set_cons_succ]
      iterate 2 (refine line_read rfl (by kernel_rfl) (fun K hK => ?_); go_big_quiet_op; refine hK _ ?_; clear hK K)
      refine line_nil ?_
      have hb := btr B7 hst.out
      clear hst
      go_wp2_with fail
      go_ret
      exact ⟨rfl, hb⟩

end Go.Proofs.YtcolecidbalmhaaGreatDoor.fnPacks
