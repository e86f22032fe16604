/- Behind a crash there is what was safe, or some of what came behind it; no epoch is less than a safe one, and crashed twice is crashed once, at every input that is drawn out of whatever bytes. The walk: the law's Go text answers true and turns nothing that was there. Conditions: as the theorem states. -/
import Derived.Test.YtcolecidbalmhaaGreatDoorS5
import Derived.Test.YtcolecidbalmhaaGreatDoorS10
import Derived.Test.YtcolecidbalmhaaGreatDoorS11
import Derived.Test.YtcolecidbalmhaaGreatDoorS13
import Derived.Test.YtcolecidbalmhaaGreatDoorS16
import Derived.WalkKit
import Derived.Below
namespace Go.Proofs.YtcolecidbalmhaaGreatDoor.fnCrashes
open Go.RowKit
set_option linter.unusedVariables false

theorem sameSt_self (s : StoreD) : sameSt s s = true := by unfold sameSt; rw [sameL_self]; simp
set_option maxHeartbeats 3000000 in
set_option maxRecDepth 100000 in
theorem walk (a0 : Option Addr) (len0 cap0 : Nat) (z0 : List Int) (w : World) (w0 : Row .u8 w w.heap.size a0 len0 cap0 z0) :
    Calls Tryz.prog 4 #[.slice a0 len0 cap0] w fun e w' => e = .returned (.bool true) ∧ Below w.heap.size w w' := by
  have hl := w0.fits
  have hm := w0.most
  unfold maxLen at hm
  by_cases hbig : 1048576 < len0
  · have hB : decide (1048576 < len0) = true := by simp [hbig]
    go_enter Tryz.func4, Tryz.ntmps4
    go_wp2_with fail
    refine (lwBig_any _ _ _ _ (by omega)).mono ?_
    rintro r w' ⟨rfl, rfl⟩
    go_wp2_with fail
    go_ret
    exact ⟨rfl, Below.refl _ _⟩
  have hB : decide (1048576 < len0) = false := by simp [hbig]
  go_enter Tryz.func4, Tryz.ntmps4
  go_wp2_with fail
  refine (lwBig_any _ _ _ _ (by omega)).mono ?_
  rintro r w' ⟨rfl, rfl⟩
  go_wp2_with fail
  refine (DrawCrashStore_any w0).mono ?_
  rintro r u1 ⟨a1, n1, c1, a2, n2, c2, s, t, rfl, ht, RS, b1⟩
  have hn2 := RS.rs.length
  subst hn2
  have b1a := bal b1 (.cells #[.slice a1 n1 c1, .slice a2 s.d.rs.length c2, .int .i64 s.d.s] 29)
  have AS : At u1.heap.size (S3L a1 n1 c1 a2 s.d.rs.length c2 s.d.s) (u1.alloc (.cells #[.slice a1 n1 c1, .slice a2 s.d.rs.length c2, .int .i64 s.d.s] 29)) := At.new u1 (S3L a1 n1 c1 a2 s.d.rs.length c2 s.d.s) 29
  have RS1 := RS.on (bal (Below.refl _ u1) (.cells #[.slice a1 n1 c1, .slice a2 s.d.rs.length c2, .int .i64 s.d.s] 29))
  have CI := fun w hR => implCrashStore_any a1 n1 c1 a2 s.d.rs.length c2 w.heap.size s t w hR (Nat.le_refl _) (by omega)
  have cs := fun w hR => specCrashStore_any a1 n1 c1 a2 s.d.rs.length c2 w.heap.size s t w hR (Nat.le_refl _) (by omega)
  unfold StoreRes at CI cs
  have CS := Lib.hid cs
  have DI := Lib.hid (fun w (hR : SRow w w.heap.size a1 n1 c1 a2 s.d.rs.length c2 s) => implDiskFault_any a2 s.d.rs.length c2 w.heap.size s.d.rs s.d.s w hR.rs (Nat.le_refl _))
  have DS := Lib.hid (fun w (hR : SRow w w.heap.size a1 n1 c1 a2 s.d.rs.length c2 s) => specDiskFault_any a2 s.d.rs.length c2 w.heap.size s.d.rs s.d.s w hR.rs (Nat.le_refl _))
  have HCO := Lib.hid (fun h : crashC s t = 0 => crash_ok h)
  have HCZ := Lib.hid (fun h : crashC s t = 0 => crashC_zero h)
  have hfit := RS.rs.fits
  have hmost := RS.rs.most
  unfold maxLen at hmost
  have HW := Lib.hid RS.wf
  have kk0 := AS.cell 0 _ rfl
  have kk1 := AS.cell 1 _ rfl
  have kk2 := AS.cell 2 _ rfl
  clear RS b1 cs
  go_wp2_with fail
  generalize u1.alloc (.cells #[.slice a1 n1 c1, .slice a2 s.d.rs.length c2, .int .i64 s.d.s] 29) = v1 at *
  refine (CI _ RS1).mono ?_
  rintro r u2 ⟨x1, m1, e1, x2, m2, e2, rfl, SO, b2⟩
  obtain ⟨rfl, rfl⟩ := SO.len
  generalize hS : crashS s t = S at *
  generalize hC : crashC s t = C at *
  have HS := Lib.hid hS
  clear hS hC
  have b2a := bal b2 (.cells #[.int .i64 C, .slice x1 S.ps.length e1, .slice x2 S.d.rs.length e2, .int .i64 S.d.s] 35)
  have AC : At u2.heap.size (V4R C x1 S.ps.length e1 x2 S.d.rs.length e2 S.d.s) (u2.alloc (.cells #[.int .i64 C, .slice x1 S.ps.length e1, .slice x2 S.d.rs.length e2, .int .i64 S.d.s] 35)) := At.new u2 (V4R C x1 S.ps.length e1 x2 S.d.rs.length e2 S.d.s) 35
  have RC := SO.row.on (bal (Below.refl _ u2) (.cells #[.int .i64 C, .slice x1 S.ps.length e1, .slice x2 S.d.rs.length e2, .int .i64 S.d.s] 35))
  have AS2 := AS.on b2a
  have RS2 := RS1.on b2a
  have B2 := btr b1a b2a
  clear b1a b2 b2a RS1 AS SO CI kk0 kk1 kk2
  have cc0 := AC.cell 0 _ rfl
  have cc1 := AC.cell 1 _ rfl
  have cc2 := AC.cell 2 _ rfl
  have cc3 := AC.cell 3 _ rfl
  have kk0 := AS2.cell 0 _ rfl
  have kk1 := AS2.cell 1 _ rfl
  have kk2 := AS2.cell 2 _ rfl
  by_cases hC : C = 0
  case neg =>
    have q9 : (C != 0) = true := by simpa using hC
    have q8 : decide (C = 0) = false := by simpa using hC
    go_wp2_with fail
    generalize u2.alloc (.cells #[.int .i64 C, .slice x1 S.ps.length e1, .slice x2 S.d.rs.length e2, .int .i64 S.d.s] 35) = v2 at *
    refine wp_region_line (Bel v2) [(0, true), (1, true), (4, true), (5, true), (2, false), (3, true), (6, true), (7, true), (8, true), (9, true), (11, true), (12, true), (10, false), (13, false), (14, true), (15, true), (16, true)] (by kernel_rfl) (by kernel_rfl) (fun _ _ d _ _ h => by cases d <;> exact h) (Bel.drew v2) ?_
    have hst := Bel.drew v2
    have inst : Nonempty (Of (Bel v2)) := ⟨⟨_, hst⟩⟩
    have s0 := bel_cell kk0
    have s1 := bel_cell kk1
    have s2 := bel_cell kk2
    have t0 := bel_cell cc0
    generalize v2.drew = V1 at *
    iterate 4 (refine line_read rfl (by kernel_rfl) (fun K hK => ?_); go_big_quiet_op; refine hK _ ?_; clear hK K)
    refine line_alone rfl (by kernel_rfl) (fun K hK => ?_)
    refine call_any (args := #[S3 a1 n1 c1 a2 s.d.rs.length c2 s.d.s, .int .i64 t]) rfl (by kernel_rfl) (by kernel_rfl) (CS.out _ (RS2.on hst.out)) ?_
    rintro e V5 ⟨y1, l1, d1, y2, l2, d2, rfl, SO5, be⟩
    clear SO5
    have hst2 := hst.on be
    refine ⟨_, rfl, hK _ _ hst2 ?_⟩
    clear hK K hst be
    have hst := hst2
    clear hst2
    simp only [Act.put, List.setIfInBounds_toArray, List.set_cons_zero, List.set_cons_succ]
    refine line_readv (v := .int .i64 C) rfl (by kernel_rfl) (fun _ => by kernel_rfl) ?_
    simp only [Act.put, List.setIfInBounds_toArray, List.set_cons_zero, List.set_cons_succ]
    iterate 6 (refine line_read rfl (by kernel_rfl) (fun K hK => ?_); go_big_quiet_op; refine hK _ ?_; clear hK K)
    refine line_alone rfl (by kernel_rfl) (fun K hK => ?_)
    refine call_wp (args := #[.agg #[.slice a2 s.d.rs.length c2, .int .i64 s.d.s]]) rfl (by kernel_rfl) (by kernel_rfl) (DI.out _ (RS2.on hst.out)) (fun wn hbn => ?_)
    have hst2 := hst.on hbn
    refine hK _ _ hst2 ?_
    clear hK K hst hbn
    have hst := hst2
    clear hst2
    simp only [Act.put, List.setIfInBounds_toArray, List.set_cons_zero, List.set_cons_succ]
    refine line_alone rfl (by kernel_rfl) (fun K hK => ?_)
    refine call_wp (args := #[.agg #[.slice a2 s.d.rs.length c2, .int .i64 s.d.s]]) rfl (by kernel_rfl) (by kernel_rfl) (DS.out _ (RS2.on hst.out)) (fun wn hbn => ?_)
    have hst2 := hst.on hbn
    refine hK _ _ hst2 ?_
    clear hK K hst hbn
    have hst := hst2
    clear hst2
    simp only [Act.put, List.setIfInBounds_toArray, List.set_cons_zero, List.set_cons_succ]
    iterate 3 (refine line_read rfl (by kernel_rfl) (fun K hK => ?_); go_big_quiet_op; refine hK _ ?_; clear hK K)
    refine line_nil ?_
    have hb := btr B2 hst.out
    clear hst
    go_wp2_with fail
    go_ret
    exact ⟨rfl, hb⟩
  subst hC
  have H := HCO.out rfl
  obtain ⟨h0, hk0⟩ := HCZ.out rfl
  obtain ⟨h12, hlong, hd0, hd1⟩ := diskF_zero (openC_zero (storeF_zero h0).1).1
  obtain ⟨m, hsm⟩ : ∃ m, s.d.s.toNat = m := ⟨_, rfl⟩
  have hs0 : 0 ≤ s.d.s := hd0
  have hs1 : s.d.s ≤ s.d.rs.length := hd1
  have hml : m ≤ s.d.rs.length := by omega
  have hlen : s.d.rs.length ≤ 12 := h12
  have so := safe_open h0
  have ho := H.old
  have hfs := H.f
  have hag := H.again
  have hln := H.len
  rw [HS.out] at ho hfs hag hln
  rw [hsm] at so ho
  have hwt : ∀ zs ∈ s.d.rs.take m, ∀ z ∈ zs, (Lit.int .u8 z).wf = true := fun zs hz => HW.out zs (List.mem_of_mem_take hz)
  have od := fun (w' : World) (hR : SRow w' w'.heap.size a1 n1 c1 a2 s.d.rs.length c2 s) (tn : Nat) (htn : tn = m) => (show Calls Tryz.prog 23 #[.agg #[.slice a2 tn c2, .int .i64 0]] w' (StoreRes (openC ⟨s.d.rs.take m, 0⟩) (openS ⟨s.d.rs.take m, 0⟩) w') from by rw [htn]; exact implOpenDisk_any a2 m c2 w'.heap.size (s.d.rs.take m) 0 w' (hR.rs.upto m hml) (Nat.le_refl _) hwt)
  rw [so] at od
  have hon := fun p hp => pin_size ((pinsF_zero (storeF_pins (openS_f so))).2.1 p hp)
  generalize openS ⟨s.d.rs.take m, 0⟩ = O at *
  unfold StoreRes at od
  have OD := Lib.hid od
  have hnm : ∀ p ∈ O.ps, p.n.size ≤ maxLen := fun p hp => by have := hon p hp; simp only [maxLen]; omega
  have FI := Lib.hid (fun w hR (q : PinD) (hq : q ∈ O.ps) => (show Calls Tryz.prog 19 #[.slice x1 S.ps.length e1, .string q.n] w (fun e w' => e = .returned (RP6 0 (findR S.ps q.n.data.toList)) ∧ Below w.heap.size w w') from by
    have := implFindPin_any x1 S.ps.length e1 w.heap.size S.ps q.n w hR (Nat.le_refl _) (hnm q hq)
    rwa [show findC S.ps q.n.data.toList = 0 from (ho q hq).1] at this))
  have HLE := Lib.hid (fun (q : PinD) (hq : q ∈ O.ps) => show q.e ≤ (findR S.ps q.n.data.toList).e from (ho q hq).2)
  have ca := fun w hR => implCrashStore_any x1 S.ps.length e1 x2 S.d.rs.length e2 w.heap.size S 0 w hR (Nat.le_refl _) (by omega)
  rw [hag.1, hag.2] at ca
  unfold StoreRes at ca
  have CA := Lib.hid ca
  have sf := fun w hR => implStoreFault_any x1 S.ps.length e1 x2 S.d.rs.length e2 w.heap.size S w hR (Nat.le_refl _)
  rw [hfs] at sf
  have SF := Lib.hid sf
  have SM := Lib.hid (fun (a1 a2 b1 b2 : Option Addr) (c1 c2 d1 d2 : Nat) (w : World) (h1 : SRow w w.heap.size a1 S.ps.length c1 a2 S.d.rs.length c2 S) (h2 : SRow w w.heap.size b1 S.ps.length d1 b2 S.d.rs.length d2 S) => (show Calls Tryz.prog 24 #[.agg #[.slice a1 S.ps.length c1, .slice a2 S.d.rs.length c2, .int .i64 S.d.s], .agg #[.slice b1 S.ps.length d1, .slice b2 S.d.rs.length d2, .int .i64 S.d.s]] w (fun r w' => r = .returned (.bool true) ∧ Below w.heap.size w w') from by
    have := implSameStores_any a1 S.ps.length c1 a2 S.d.rs.length c2 b1 S.ps.length d1 b2 S.d.rs.length d2 w.heap.size S S w h1 h2 (Nat.le_refl _)
    rwa [sameSt_self] at this))
  have hnl : ¬ s.d.s < 0 := by omega
  have hng : ¬ (s.d.rs.length : Int) < s.d.s := by omega
  have HLN := Lib.hid hln
  clear H HCO HCZ hd0 hd1 h12 hlong so ho hfs hag hwt od hon hnm ca sf hln h0 HW DI DS HS
  go_wp2_with fail
  generalize u2.alloc (.cells #[.int .i64 0, .slice x1 S.ps.length e1, .slice x2 S.d.rs.length e2, .int .i64 S.d.s] 35) = v2 at *
  refine (OD.out _ RS2 _ (by omega)).mono ?_
  rintro r u3 ⟨o1, p1, g1, o2, p2, g2, rfl, SO3, b3⟩
  obtain ⟨rfl, rfl⟩ := SO3.len
  have b3a := bal b3 (.cells #[.int .i64 0, .slice o1 O.ps.length g1, .slice o2 O.d.rs.length g2, .int .i64 O.d.s] 35)
  have AO : At u3.heap.size (V4R 0 o1 O.ps.length g1 o2 O.d.rs.length g2 O.d.s) (u3.alloc (.cells #[.int .i64 0, .slice o1 O.ps.length g1, .slice o2 O.d.rs.length g2, .int .i64 O.d.s] 35)) := At.new u3 (V4R 0 o1 O.ps.length g1 o2 O.d.rs.length g2 O.d.s) 35
  have PO := (SO3.row.on (bal (Below.refl _ u3) (.cells #[.int .i64 0, .slice o1 O.ps.length g1, .slice o2 O.d.rs.length g2, .int .i64 O.d.s] 35))).ps
  have AC3 := AC.on b3a
  have RC3 := RC.on b3a
  have AS3 := AS2.on b3a
  have RS3 := RS2.on b3a
  have B3 := btr B2 b3a
  have hom := PO.most
  have hof := PO.fits
  unfold maxLen at hom
  clear OD AC RC AS2 RS2 B2 b3 b3a SO3 cc0 cc1 cc2 cc3 kk0 kk1 kk2
  go_upto_region 11 with fail
  generalize u3.alloc (.cells #[.int .i64 0, .slice o1 O.ps.length g1, .slice o2 O.d.rs.length g2, .int .i64 O.d.s] 35) = v3 at *
  go_loopw [7] (fun i wr => ∃ k : Nat, k ≤ O.ps.length ∧ i = .int .i64 k ∧ Below v3.heap.size v3 wr) (fun i _ => O.ps.length - (intOf i).toNat)
  case atStart => exact ⟨0, Nat.zero_le _, rfl, Below.refl _ _⟩
  case round =>
    obtain ⟨k, hk, rfl, hb⟩ := hrel
    have AOk := AO.on hb
    have oo0 := AOk.cell 0 _ rfl
    have oo1 := AOk.cell 1 _ rfl
    have oo2 := AOk.cell 2 _ rfl
    have oo3 := AOk.cell 3 _ rfl
    by_cases hlt : k < O.ps.length
    · have PK := PO.on hb
      have hmem := PK.mem hlt
      obtain ⟨eb, eo, hea, heb, z0, z1, z2, z3, z4⟩ := PK.at' hlt
      subst hea
      have FK := FI.out
      have hle := HLE.out _ hmem
      have ACk := AC3.on hb
      have RCk := (RC3.on hb).ps
      generalize O.ps[k]?.getD pin0 = q at *
      have b5 := bal (Below.refl _ wr) (.cells #[.string q.n, .int .i64 q.a, .int .i64 q.b, .int .i64 q.e, .int .i64 q.u] 31)
      have X5 : At wr.heap.size q.vals (wr.alloc (.cells #[.string q.n, .int .i64 q.a, .int .i64 q.b, .int .i64 q.e, .int .i64 q.u] 31)) := At.new wr q.vals 31
      have HX5 := Lib.hid X5
      have HC5 := Lib.hid (ACk.on b5)
      have HR5 := Lib.hid (RCk.on b5)
      have HB5 := Lib.hid (btr hb b5)
      have ik0 := (ACk.on b5).cell 0 _ rfl
      have ik1 := (ACk.on b5).cell 1 _ rfl
      have ix0 := X5.cell 0 _ rfl
      clear X5 ACk RCk PK hb b5 AOk
      go_wp2_with fail
      generalize wr.alloc (.cells #[.string q.n, .int .i64 q.a, .int .i64 q.b, .int .i64 q.e, .int .i64 q.u] 31) = v5 at *
      refine (FK _ HR5.out q hmem).mono ?_
      rintro r u6 ⟨rfl, b6⟩
      generalize findR S.ps q.n.data.toList = f at *
      have b6a := bal b6 (.cells #[.int .i64 0, .string f.n, .int .i64 f.a, .int .i64 f.b, .int .i64 f.e, .int .i64 f.u] 48)
      have AF : At u6.heap.size (RPL6 0 f) (u6.alloc (.cells #[.int .i64 0, .string f.n, .int .i64 f.a, .int .i64 f.b, .int .i64 f.e, .int .i64 f.u] 48)) := At.new u6 (RPL6 0 f) 48
      have X6 := HX5.out.on b6a
      have HB6 := Lib.hid (btr HB5.out b6a)
      have nle : ¬ f.e < q.e := by omega
      have ff0 := AF.cell 0 _ rfl
      have ff1 := AF.cell 1 _ rfl
      have ff2 := AF.cell 2 _ rfl
      have ff3 := AF.cell 3 _ rfl
      have ff4 := AF.cell 4 _ rfl
      have ff5 := AF.cell 5 _ rfl
      have xx0 := X6.cell 0 _ rfl
      have xx1 := X6.cell 1 _ rfl
      have xx2 := X6.cell 2 _ rfl
      have xx3 := X6.cell 3 _ rfl
      have xx4 := X6.cell 4 _ rfl
      clear AF X6 HX5 HC5 HR5 HB5 b6 b6a ik0 ik1 ix0 z0 z1 z2 z3 z4 FK
      go_wp2_with fail
      go_roundw
      case rel => exact ⟨k + 1, by omega, by go_num, HB6.out⟩
      case measure => simp [intOf]; omega
    · obtain rfl : k = O.ps.length := by omega
      have AC4 := AC3.on hb
      have RC4 := RC3.on hb
      have AS4 := AS3.on hb
      have RS4 := RS3.on hb
      have B4 := btr B3 hb
      have CA' := CA.out
      have cc0 := AC4.cell 0 _ rfl
      have cc1 := AC4.cell 1 _ rfl
      have cc2 := AC4.cell 2 _ rfl
      have cc3 := AC4.cell 3 _ rfl
      clear hb AC3 RC3 AS3 RS3 B3 CA AO
      go_wp2_with fail
      refine (CA' _ RC4).mono ?_
      rintro r u7 ⟨y1, l1, d1, y2, l2, d2, rfl, SO7, b7⟩
      obtain ⟨rfl, rfl⟩ := SO7.len
      have b7a := bal b7 (.cells #[.int .i64 0, .slice y1 S.ps.length d1, .slice y2 S.d.rs.length d2, .int .i64 S.d.s] 35)
      have AG : At u7.heap.size (V4R 0 y1 S.ps.length d1 y2 S.d.rs.length d2 S.d.s) (u7.alloc (.cells #[.int .i64 0, .slice y1 S.ps.length d1, .slice y2 S.d.rs.length d2, .int .i64 S.d.s] 35)) := At.new u7 (V4R 0 y1 S.ps.length d1 y2 S.d.rs.length d2 S.d.s) 35
      have RG := SO7.row.on (bal (Below.refl _ u7) (.cells #[.int .i64 0, .slice y1 S.ps.length d1, .slice y2 S.d.rs.length d2, .int .i64 S.d.s] 35))
      have AO8 := AOk.on b7a
      have AC8 := AC4.on b7a
      have RC8 := RC4.on b7a
      have AS8 := AS4.on b7a
      have RS8 := RS4.on b7a
      have B8 := btr B4 b7a
      clear AC4 RC4 AS4 RS4 B4 AOk SO7 b7 b7a cc0 cc1 cc2 cc3 oo0 oo1 oo2 oo3
      go_wp2_with fail
      generalize u7.alloc (.cells #[.int .i64 0, .slice y1 S.ps.length d1, .slice y2 S.d.rs.length d2, .int .i64 S.d.s] 35) = v8 at *
      refine wp_region_line (Bel v8) [(0, true), (1, true), (2, true), (3, true), (4, true), (5, true), (6, false), (7, true), (8, true), (9, true), (10, true), (11, true), (12, true), (13, true), (14, true), (15, true), (16, true), (17, true), (18, true), (19, false), (20, true), (21, true), (22, true), (23, true), (24, true), (25, true), (26, true), (27, true), (28, true), (29, true), (30, true), (31, true), (32, true), (33, true), (34, true), (35, true), (36, true), (37, false), (38, true), (39, false), (40, true), (41, true)] (by kernel_rfl) (by kernel_rfl) (fun _ _ d _ _ h => by cases d <;> exact h) (Bel.drew v8) ?_
      have hst := Bel.drew v8
      have inst : Nonempty (Of (Bel v8)) := ⟨⟨_, hst⟩⟩
      have oo0 := bel_cell (AO8.cell 0 _ rfl)
      have cc0 := bel_cell (AC8.cell 0 _ rfl)
      have cc1 := bel_cell (AC8.cell 1 _ rfl)
      have cc2 := bel_cell (AC8.cell 2 _ rfl)
      have cc3 := bel_cell (AC8.cell 3 _ rfl)
      have gg0 := bel_cell (AG.cell 0 _ rfl)
      have gg1 := bel_cell (AG.cell 1 _ rfl)
      have gg2 := bel_cell (AG.cell 2 _ rfl)
      have gg3 := bel_cell (AG.cell 3 _ rfl)
      have kk0 := bel_cell (AS8.cell 0 _ rfl)
      have kk1 := bel_cell (AS8.cell 1 _ rfl)
      have kk2 := bel_cell (AS8.cell 2 _ rfl)
      have hln := HLN.out
      generalize v8.drew = V1 at *
      iterate 6 (refine line_read rfl (by kernel_rfl) (fun K hK => ?_); go_big_quiet_op; refine hK _ ?_; clear hK K)
      refine line_alone rfl (by kernel_rfl) (fun K hK => ?_)
      refine call_wp (args := #[.agg #[.slice x1 S.ps.length e1, .slice x2 S.d.rs.length e2, .int .i64 S.d.s]]) rfl (by kernel_rfl) (by kernel_rfl) (SF.out _ (RC8.on hst.out)) (fun wn hbn => ?_)
      have hst2 := hst.on hbn
      refine hK _ _ hst2 ?_
      clear hK K hst hbn
      have hst := hst2
      clear hst2
      simp only [Act.put, List.setIfInBounds_toArray, List.set_cons_zero, List.set_cons_succ]
      iterate 12 (refine line_read rfl (by kernel_rfl) (fun K hK => ?_); go_big_quiet_op; refine hK _ ?_; clear hK K)
      refine line_alone rfl (by kernel_rfl) (fun K hK => ?_)
      refine call_wp (args := #[.agg #[.slice y1 S.ps.length d1, .slice y2 S.d.rs.length d2, .int .i64 S.d.s], .agg #[.slice x1 S.ps.length e1, .slice x2 S.d.rs.length e2, .int .i64 S.d.s]]) rfl (by kernel_rfl) (by kernel_rfl) (SM.out _ _ _ _ _ _ _ _ _ (RG.on hst.out) (RC8.on hst.out)) (fun wn hbn => ?_)
      have hst2 := hst.on hbn
      refine hK _ _ hst2 ?_
      clear hK K hst hbn
      have hst := hst2
      clear hst2
      simp only [Act.put, List.setIfInBounds_toArray, List.set_cons_zero, List.set_cons_succ]
      iterate 17 (refine line_read rfl (by kernel_rfl) (fun K hK => ?_); go_big_quiet_op; refine hK _ ?_; clear hK K)
      refine line_alone rfl (by kernel_rfl) (fun K hK => ?_)
      refine call_any (args := #[S3 a1 n1 c1 a2 s.d.rs.length c2 s.d.s, .int .i64 t]) rfl (by kernel_rfl) (by kernel_rfl) (CS.out _ (RS8.on hst.out)) ?_
      rintro e V5 ⟨j1, l1, i1, j2, l2, i2, rfl, SO9, be⟩
      obtain ⟨rfl, rfl⟩ := SO9.len
      have RJ := SO9.row
      have RC9 := RC8.on (btr hst.out be)
      clear SO9
      have hst2 := hst.on be
      refine ⟨_, rfl, hK _ _ hst2 ?_⟩
      clear hK K hst be
      have hst := hst2
      clear hst2
      simp only [Act.put, List.setIfInBounds_toArray, List.set_cons_zero, List.set_cons_succ]
      refine line_readv (v := .agg #[.slice j1 S.ps.length i1, .slice j2 S.d.rs.length i2, .int .i64 S.d.s]) rfl (by kernel_rfl) (fun _ => by kernel_rfl) ?_
      simp only [Act.put, List.setIfInBounds_toArray, List.set_cons_zero, List.set_cons_succ]
      refine line_alone rfl (by kernel_rfl) (fun K hK => ?_)
      refine call_wp (args := #[.agg #[.slice x1 S.ps.length e1, .slice x2 S.d.rs.length e2, .int .i64 S.d.s], .agg #[.slice j1 S.ps.length i1, .slice j2 S.d.rs.length i2, .int .i64 S.d.s]]) rfl (by kernel_rfl) (by kernel_rfl) (SM.out _ _ _ _ _ _ _ _ _ RC9 RJ) (fun wn hbn => ?_)
      have hst2 := hst.on hbn
      refine hK _ _ hst2 ?_
      clear hK K hst hbn
      have hst := hst2
      clear hst2
      simp only [Act.put, List.setIfInBounds_toArray, List.set_cons_zero, List.set_cons_succ]
      iterate 2 (refine line_read rfl (by kernel_rfl) (fun K hK => ?_); go_big_quiet_op; refine hK _ ?_; clear hK K)
      refine line_nil ?_
      have hb := btr B8 hst.out
      clear hst
      go_wp2_with fail
      go_ret
      exact ⟨rfl, hb⟩

end Go.Proofs.YtcolecidbalmhaaGreatDoor.fnCrashes
