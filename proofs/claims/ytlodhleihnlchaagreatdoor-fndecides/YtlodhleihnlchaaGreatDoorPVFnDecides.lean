/- Supplied keys are asked first, then pins, and who comes first last, at every input that is drawn out of whatever bytes. The walk: the law's Go text answers true and turns nothing that was there. Conditions: as the theorem states. -/
import Derived.Test.YtlodhleihnlchaaGreatDoorQ5
import Derived.Test.YtlodhleihnlchaaGreatDoorQ8
import Derived.Test.YtlodhleihnlchaaGreatDoorQ9
import Derived.Test.YtlodhleihnlchaaGreatDoorQ10
import Derived.WalkKit
import Derived.Below
namespace Go.Proofs.YtlodhleihnlchaaGreatDoor.fnDecides
open Go.RowKit
set_option linter.unusedVariables false

/-- What is so of an asking without a fault: a supplied key says so; a pin; or who comes first. -/
theorem dec_cases {q : AskD} (h : askF q = 0) :
    (usableR q.ts q.nm = usable (M.nrm q.nm) q.ts ∧ M.nameF q.nm = 0 ∧ pubB q.p = true ∧ timB q.t = true ∧ decA q = acceptB (decR q)) ∧
    (((usable (M.nrm q.nm) q.ts).length ≠ 0 ∧ decR q = if daneB (usable (M.nrm q.nm) q.ts) q.p then 1 else 2) ∨
     ((usable (M.nrm q.nm) q.ts).length = 0 ∧ findC q.ps q.nm = 0 ∧ (findR q.ps q.nm).f = 0 ∧ decR q = pinReason (findR q.ps q.nm) q.p q.t) ∨
     ((usable (M.nrm q.nm) q.ts).length = 0 ∧ findC q.ps q.nm = 4 ∧ decR q = if q.first then 7 else 8)) := by
  obtain ⟨h1, h2, h3, h4, h5⟩ := askF_zero h
  have hc : usableC q.ts q.nm = 0 := by rw [usableC_name (by omega)]; exact h3
  refine ⟨⟨usableR_yes hc, h3, h4, h5, by rw [decA_yes h, decR_yes h]⟩, ?_⟩
  rw [decR_yes h]
  by_cases hu : (usable (M.nrm q.nm) q.ts).length = 0
  · right
    cases hf : findP q.ps (M.nrm q.nm) with
    | some p =>
      left
      have e1 : findC q.ps q.nm = 0 := by unfold findC; rw [if_neg (by omega), if_neg (by omega), hf]
      have e2 : findR q.ps q.nm = p := by unfold findR; rw [if_neg (by omega), if_neg (by omega), hf]; rfl
      refine ⟨hu, e1, ?_, ?_⟩
      · rw [e2]; exact (find_pin h1 hf).2.2
      · rw [e2]; exact reason_pin hu hf
    | none =>
      right
      refine ⟨hu, ?_, reason_none hu hf⟩
      unfold findC
      rw [if_neg (by omega), if_neg (by omega), hf]
  · left
    exact ⟨hu, reason_dane hu⟩
theorem dane_any {q : AskD} (h : M.nameF q.nm = 0) (hp : pubB q.p = true) : (usable (M.nrm q.nm) q.ts).any (fun t => M.matchB t.nm t.u t.m t.v q.nm (pubB q.p) q.p) = daneB (usable (M.nrm q.nm) q.ts) q.p := by
  rw [hp]
  unfold daneB
  rw [Bool.eq_iff_iff, List.any_eq_true, List.any_eq_true]
  refine ⟨fun ⟨t, ht, e⟩ => ⟨t, ht, ?_⟩, fun ⟨t, ht, e⟩ => ⟨t, ht, ?_⟩⟩
  · rw [← dane_match h t ht]; exact e
  · rw [dane_match h t ht]; exact e
theorem find_size {ps : List PinD} {l : List UInt8} (h : ∀ p ∈ ps, p.n.size ≤ maxLen) : (findR ps l).n.size ≤ maxLen := by
  unfold findR
  split
  · exact Nat.zero_le _
  · split
    · exact Nat.zero_le _
    · cases hf : findP ps (M.nrm l) with
      | none => exact Nat.zero_le _
      | some p => exact h p (findP_mem hf).1
theorem vf0 (c : Int) (b : Bool) (r : Int) (w : World) : Sem.run Tryz.prog (Instr.field 83 (.agg #[.int .i64 c, .bool b, .int .i64 r]) 0) w = .ok (.int .i64 c) w := by kernel_rfl
theorem tf0 (c : Int) (a : Option Addr) (n k : Nat) (w : World) : Sem.run Tryz.prog (Instr.field 88 (.agg #[.int .i64 c, .slice a n k]) 0) w = .ok (.int .i64 c) w := by kernel_rfl
theorem tf1 (c : Int) (a : Option Addr) (n k : Nat) (w : World) : Sem.run Tryz.prog (Instr.field 88 (.agg #[.int .i64 c, .slice a n k]) 1) w = .ok (.slice a n k) w := by kernel_rfl
theorem xf0 (c : Int) (t : ByteArray) (w : World) : Sem.run Tryz.prog (Instr.field 92 (.agg #[.int .i64 c, .string t]) 0) w = .ok (.int .i64 c) w := by kernel_rfl
theorem xf1 (c : Int) (t : ByteArray) (w : World) : Sem.run Tryz.prog (Instr.field 92 (.agg #[.int .i64 c, .string t]) 1) w = .ok (.string t) w := by kernel_rfl
/-- While the usable keys are asked, one after the other. -/
structure DaneR (W : World) (us : List TlsaD) (pr : TlsaD → Bool) (k : Nat) (d i : Value) (wr : World) : Prop where
  d : d = .bool ((us.take k).any pr)
  i : i = .int .i64 k
  bel : Below W.heap.size W wr
set_option maxHeartbeats 4000000 in
set_option maxRecDepth 100000 in
theorem walk (a0 : Option Addr) (len0 cap0 : Nat) (z0 : List Int) (w : World) (w0 : Row .u8 w w.heap.size a0 len0 cap0 z0) (lab : Labels w) (txt : Texts w) :
    Calls Tryz.prog 5 #[.slice a0 len0 cap0] w fun e w' => e = .returned (.bool true) ∧ Below w.heap.size w w' := by
  have hl := w0.fits
  have hm := w0.most
  unfold maxLen at hm
  by_cases hbig : 1048576 < len0
  · have hB : decide (1048576 < len0) = true := by simp [hbig]
    go_enter Tryz.func5, Tryz.ntmps5
    go_wp2_with fail
    refine (lwBig_any _ _ _ _ (by omega)).mono ?_
    rintro r w' ⟨rfl, rfl⟩
    go_wp2_with fail
    go_ret
    exact ⟨rfl, Below.refl _ _⟩
  have hB : decide (1048576 < len0) = false := by simp [hbig]
  have t0 := vf0
  have t1 := tf0
  have t2 := tf1
  have t3 := xf0
  have t4 := xf1
  go_enter Tryz.func5, Tryz.ntmps5
  go_wp2_with fail
  refine (lwBig_any _ _ _ _ (by omega)).mono ?_
  rintro r w' ⟨rfl, rfl⟩
  go_wp2_with fail
  refine (DrawDecide_any w0).mono ?_
  rintro e u1 ⟨a1, n1, c1, a2, n2, c2, q, rfl, AR0, b1⟩
  have A1 := At.new u1 [.bool q.first, .slice a1 n1 c1, .slice a2 n2 c2, .string q.n, .int .i64 q.p, .int .i64 q.t] 80
  have d1 := bal (Below.refl _ u1) (.cells #[.bool q.first, .slice a1 n1 c1, .slice a2 n2 c2, .string q.n, .int .i64 q.p, .int .i64 q.t] 80)
  have AR1 := AR0.on d1
  have B1 := btr b1 d1
  have L1 := lab.on B1
  have X1 := txt.on B1
  have C1 := w0.on B1
  have DI := fun w L R => implDecide_any a1 n1 c1 a2 n2 c2 w.heap.size q w L R (Nat.le_refl _)
  have DS := fun w R => specDecide_any a1 n1 c1 a2 n2 c2 w.heap.size q w R (Nat.le_refl _)
  have DF := fun w R => implAskFault_any a1 n1 c1 a2 n2 c2 w.heap.size q w R (Nat.le_refl _)
  have HC := Lib.hid (fun h : askF q = 0 => dec_cases h)
  have hnm := AR0.nm
  generalize hac : decA q = ac at *
  generalize hre : decR q = re at *
  generalize hcd : askF q = cd at *
  have HQ := Lib.hid (And.intro hac (And.intro hre hcd))
  clear b1 d1 AR0 lab txt w0 hl hm hB hbig hac hre hcd
  have kk0 := A1.cell 0 _ rfl
  have kk1 := A1.cell 1 _ rfl
  have kk2 := A1.cell 2 _ rfl
  have kk3 := A1.cell 3 _ rfl
  have kk4 := A1.cell 4 _ rfl
  have kk5 := A1.cell 5 _ rfl
  go_upto_region 4 with fail
  generalize u1.alloc (.cells #[.bool q.first, .slice a1 n1 c1, .slice a2 n2 c2, .string q.n, .int .i64 q.p, .int .i64 q.t] 80) = W1 at *
  go_wp2_with fail
  refine (DI _ L1 AR1).mono ?_
  rintro e u2 ⟨rfl, b2⟩
  have V2 := At.new u2 [.int .i64 cd, .bool ac, .int .i64 re] 83
  have d2 := bal b2 (.cells #[.int .i64 cd, .bool ac, .int .i64 re] 83)
  have A2 := A1.on d2
  have AR2 := AR1.on d2
  have L2 := L1.on d2
  have X2 := X1.on d2
  have C2 := C1.on d2
  have B2 := btr B1 d2
  clear b2 d2 A1 AR1 L1 X1 C1 B1 DI kk0 kk1 kk2 kk3 kk4 kk5
  go_wp2_with fail
  generalize u2.alloc (.cells #[.int .i64 cd, .bool ac, .int .i64 re] 83) = W2 at *
  refine (DrawUsableOf_any C2).mono ?_
  rintro e u3 ⟨lx, ln, lc, ts, nm, rfl, TR3, hs, b3⟩
  have hsm : nm.size ≤ maxLen := by simp only [maxLen]; omega
  have UI := fun w R => implUsableOf_any lx ln lc w.heap.size ts nm w R (Nat.le_refl _) hsm
  have US := fun w R => specUsableOf_any lx ln lc w.heap.size ts nm w R (Nat.le_refl _) hsm
  have hu8 := usableR_len (ts := ts) (l := nm.data.toList)
  generalize usableC ts nm.data.toList = uc at *
  generalize usableR ts nm.data.toList = us at *
  have A3 := A2.on b3
  have AR3 := AR2.on b3
  have L3 := L2.on b3
  have X3 := X2.on b3
  have C3 := C2.on b3
  have V3 := V2.on b3
  have B3 := btr B2 b3
  clear b3 A2 AR2 L2 X2 C2 V2 B2
  go_wp2_with fail
  refine (UI _ TR3).mono ?_
  rintro e u4 ⟨ux, un, ucp, rfl, UO, b4⟩
  obtain rfl := UO.len
  have U4 := At.new u4 [.int .i64 uc, .slice ux us.length ucp] 88
  have d4 := bal b4 (.cells #[.int .i64 uc, .slice ux us.length ucp] 88)
  have A4 := A3.on d4
  have AR4 := AR3.on d4
  have L4 := L3.on d4
  have X4 := X3.on d4
  have C4 := C3.on d4
  have V4 := V3.on d4
  have TR4 := TR3.on d4
  have B4 := btr B3 d4
  have hun : us.length ≤ ucp ∧ ucp ≤ maxLen := by
    obtain ⟨_, _, e, h1, h2, _⟩ := UO.form
    injection e with _ _ e3
    subst e3
    exact ⟨h1, h2⟩
  clear b4 d4 A3 AR3 L3 X3 C3 V3 TR3 B3 UI UO
  go_wp2_with fail
  generalize u4.alloc (.cells #[.int .i64 uc, .slice ux us.length ucp] 88) = W4 at *
  refine (DrawReasonText_any C4).mono ?_
  rintro e u5 ⟨r, rfl, b5⟩
  have RI := fun w X => implReasonText_any r w X
  have RS := fun w => specReasonText_any r w
  have II := fun w => implIsAccept_any r w
  have IS := fun w => specIsAccept_any r w
  generalize textC r = xc at *
  generalize textW r = xw at *
  generalize acceptB r = xa at *
  have A5 := A4.on b5
  have AR5 := AR4.on b5
  have L5 := L4.on b5
  have X5 := X4.on b5
  have V5 := V4.on b5
  have TR5 := TR4.on b5
  have U5 := U4.on b5
  have B5 := btr B4 b5
  clear b5 A4 AR4 L4 X4 C4 V4 TR4 B4 U4
  go_upto_region 8 with fail
  have uu0 := U5.cell 0 _ rfl
  have uu1 := U5.cell 1 _ rfl
  refine wp_region_line (Bel u5) [(0, true), (1, true), (2, true), (3, true), (4, false), (5, true), (6, true), (7, true), (8, true), (9, true), (10, true), (11, true), (12, true), (13, false), (14, true), (15, true), (16, true), (17, true), (18, true), (19, true), (22, true), (20, false), (21, true), (23, false), (24, true), (25, true), (26, true), (27, true), (28, true), (31, true), (29, false), (30, true), (32, false), (33, true), (34, true), (35, true), (36, true), (37, true), (39, true), (38, false), (40, false), (41, true), (42, true)] (by kernel_rfl) (by kernel_rfl) (fun _ _ d _ _ h => by cases d <;> exact h) (Bel.drew u5) ?_
  have hst := Bel.drew u5
  have inst : Nonempty (Of (Bel u5)) := ⟨⟨_, hst⟩⟩
  have qu0 := bel_cell uu0
  have qu1 := bel_cell uu1
  iterate 4 (refine line_read rfl (by kernel_rfl) (fun K hK => ?_); go_big_quiet_op; refine hK _ ?_; clear hK K)
  refine line_alone rfl (by kernel_rfl) (fun K hK => ?_)
  refine call_any (args := #[.slice lx ln lc, .string nm]) rfl (by kernel_rfl) (by kernel_rfl) (US _ (TR5.on hst.out)) ?_
  rintro e wn ⟨v1, v2, v3, rfl, O1, be⟩
  obtain rfl := (O1).len
  have hst2 := hst.on be
  refine ⟨_, rfl, hK _ _ hst2 ?_⟩
  clear hK K hst be O1
  have hst := hst2
  clear hst2
  simp only [Act.put, List.setIfInBounds_toArray, List.set_cons_zero, List.set_cons_succ]
  iterate 8 (refine line_read rfl (by kernel_rfl) (fun K hK => ?_); go_big_quiet_op; refine hK _ ?_; clear hK K)
  refine line_alone rfl (by kernel_rfl) (fun K hK => ?_)
  refine call_any (args := #[.slice lx ln lc, .string nm]) rfl (by kernel_rfl) (by kernel_rfl) (US _ (TR5.on hst.out)) ?_
  rintro e wn ⟨v4, v5, v6, rfl, O2, be⟩
  obtain rfl := (O2).len
  have hst2 := hst.on be
  refine ⟨_, rfl, hK _ _ hst2 ?_⟩
  clear hK K hst be O2
  have hst := hst2
  clear hst2
  simp only [Act.put, List.setIfInBounds_toArray, List.set_cons_zero, List.set_cons_succ]
  iterate 7 (refine line_read rfl (by kernel_rfl) (fun K hK => ?_); go_big_quiet_op; refine hK _ ?_; clear hK K)
  refine line_alone rfl (by kernel_rfl) (fun K hK => ?_)
  refine call_wp (args := #[.int .i64 r]) rfl (by kernel_rfl) (by kernel_rfl) (RI _ (X5.on hst.out)) (fun wn hbn => ?_)
  have hst2 := hst.on hbn
  refine hK _ _ hst2 ?_
  clear hK K hst hbn
  have hst := hst2
  clear hst2
  simp only [Act.put, List.setIfInBounds_toArray, List.set_cons_zero, List.set_cons_succ]
  iterate 1 (refine line_read rfl (by kernel_rfl) (fun K hK => ?_); go_big_quiet_op; refine hK _ ?_; clear hK K)
  refine line_alone rfl (by kernel_rfl) (fun K hK => ?_)
  refine call_wp (args := #[.int .i64 r]) rfl (by kernel_rfl) (by kernel_rfl) (RS _) (fun wn hbn => ?_)
  have hst2 := hst.on hbn
  refine hK _ _ hst2 ?_
  clear hK K hst hbn
  have hst := hst2
  clear hst2
  simp only [Act.put, List.setIfInBounds_toArray, List.set_cons_zero, List.set_cons_succ]
  iterate 6 (refine line_read rfl (by kernel_rfl) (fun K hK => ?_); go_big_quiet_op; refine hK _ ?_; clear hK K)
  refine line_alone rfl (by kernel_rfl) (fun K hK => ?_)
  refine call_wp (args := #[.int .i64 r]) rfl (by kernel_rfl) (by kernel_rfl) (RI _ (X5.on hst.out)) (fun wn hbn => ?_)
  have hst2 := hst.on hbn
  refine hK _ _ hst2 ?_
  clear hK K hst hbn
  have hst := hst2
  clear hst2
  simp only [Act.put, List.setIfInBounds_toArray, List.set_cons_zero, List.set_cons_succ]
  iterate 1 (refine line_read rfl (by kernel_rfl) (fun K hK => ?_); go_big_quiet_op; refine hK _ ?_; clear hK K)
  refine line_alone rfl (by kernel_rfl) (fun K hK => ?_)
  refine call_wp (args := #[.int .i64 r]) rfl (by kernel_rfl) (by kernel_rfl) (RS _) (fun wn hbn => ?_)
  have hst2 := hst.on hbn
  refine hK _ _ hst2 ?_
  clear hK K hst hbn
  have hst := hst2
  clear hst2
  simp only [Act.put, List.setIfInBounds_toArray, List.set_cons_zero, List.set_cons_succ]
  iterate 6 (refine line_read rfl (by kernel_rfl) (fun K hK => ?_); go_big_quiet_op; refine hK _ ?_; clear hK K)
  refine line_alone rfl (by kernel_rfl) (fun K hK => ?_)
  refine call_wp (args := #[.int .i64 r]) rfl (by kernel_rfl) (by kernel_rfl) (II _) (fun wn hbn => ?_)
  subst hbn
  refine hK _ _ hst ?_
  clear hK K
  simp only [Act.put, List.setIfInBounds_toArray, List.set_cons_zero, List.set_cons_succ]
  refine line_alone rfl (by kernel_rfl) (fun K hK => ?_)
  refine call_wp (args := #[.int .i64 r]) rfl (by kernel_rfl) (by kernel_rfl) (IS _) (fun wn hbn => ?_)
  subst hbn
  refine hK _ _ hst ?_
  clear hK K
  simp only [Act.put, List.setIfInBounds_toArray, List.set_cons_zero, List.set_cons_succ]
  iterate 2 (refine line_read rfl (by kernel_rfl) (fun K hK => ?_); go_big_quiet_op; refine hK _ ?_; clear hK K)
  refine line_nil ?_
  have b6 := hst.out
  clear hst inst US RI RS II IS uu0 uu1 qu0 qu1 U5 TR5
  rename World => W6
  have A6 := A5.on b6
  have AR6 := AR5.on b6
  have L6 := L5.on b6
  have V6 := V5.on b6
  have B6 := btr B5 b6
  clear b6 A5 AR5 L5 X5 V5 B5
  have vv0 := V6.cell 0 _ rfl
  have vv1 := V6.cell 1 _ rfl
  have vv2 := V6.cell 2 _ rfl
  by_cases h0 : cd = 0
  · obtain ⟨⟨g1, g2, g3, g4, g5⟩, g6⟩ := HC.out h0
    have hdn := dane_any g2 g3
    have HG := Lib.hid (And.intro g5 g6)
    subst h0
    clear HC DS DF g5 g6
    have UA := fun w R => implUsableOf_any a2 n2 c2 w.heap.size q.ts q.n w R (Nat.le_refl _) hnm
    have hu9 := usableR_len (ts := q.ts) (l := q.n.data.toList)
    rw [show usableR q.ts q.n.data.toList = usable (M.nrm q.nm) q.ts from g1] at UA hu9
    have FP := fun w R => implFindPin_any a1 n1 c1 w.heap.size q.ps q.n w R (Nat.le_refl _) hnm
    have MT := fun (t : TlsaD) w L => implMatchesTlsa_any t.n t.u t.m t.v q.n q.p w L hnm
    have HD := Lib.hid hdn
    have HG4 := Lib.hid (And.intro g1 g4)
    generalize hus : usable (M.nrm q.nm) q.ts = ud at *
    have hmem : ∀ t ∈ ud, t.n.size ≤ maxLen := fun t ht => by
      have h1 : t ∈ usable (M.nrm q.nm) q.ts := by rw [hus]; exact ht
      exact AR6.ts.names t (usable_mem h1).1
    have HM := Lib.hid hmem
    have HU := Lib.hid hus
    clear hmem hdn g1 g2 g3 g4 hus
    have kk0 := A6.cell 0 _ rfl
    have kk1 := A6.cell 1 _ rfl
    have kk2 := A6.cell 2 _ rfl
    have kk3 := A6.cell 3 _ rfl
    have kk4 := A6.cell 4 _ rfl
    have kk5 := A6.cell 5 _ rfl
    go_wp2_with fail
    refine (UA _ AR6.ts).mono ?_
    rintro e u7 ⟨dx, dn, dc, rfl, DO, b7⟩
    obtain rfl := DO.len
    have DR7 := DO.row HM.out
    have hdu : ud.length ≤ dc ∧ dc ≤ maxLen := ⟨DR7.fits, DR7.most⟩
    have A7 := A6.on b7
    have AR7 := AR6.on b7
    have L7 := L6.on b7
    have V7 := V6.on b7
    have B7 := btr B6 b7
    clear b7 A6 AR6 L6 V6 B6 UA DO vv0 vv1 vv2 kk0 kk1 kk2 kk3 kk4 kk5
    have T0 : DaneR u7 ud (fun t => M.matchB t.nm t.u t.m t.v q.nm (pubB q.p) q.p) 0 (.bool false) (.int .i64 0) u7 := ⟨rfl, rfl, Below.refl _ _⟩
    go_wp2_with fail
    go_loopw [10, 11] (fun d i wr => ∃ k : Nat, k ≤ ud.length ∧ DaneR u7 ud (fun t => M.matchB t.nm t.u t.m t.v q.nm (pubB q.p) q.p) k d i wr) (fun _ i _ => ud.length - (intOf i).toNat)
    case atStart => exact ⟨0, Nat.zero_le _, T0⟩
    case round =>
      obtain ⟨k, hk, rfl, rfl, hbw⟩ := hrel
      clear T0
      by_cases hlt : k < ud.length
      · have DRk := DR7.on hbw
        obtain ⟨gb, go, rfl, hgb, e0, e1, e2, e3⟩ := DRk.at' hlt
        have Ak := A7.on hbw
        have Lk := L7.on hbw
        have HB := Lib.hid hbw
        have hd7 := hdu
        obtain ⟨hd8, hd9⟩ := hd7
        unfold maxLen at hd9
        generalize hpk : (ud[k]?.getD tls0) = tk at *
        have HN := Lib.hid (show (ud.take (k + 1)).any (fun t => M.matchB t.nm t.u t.m t.v q.nm (pubB q.p) q.p) = ((ud.take k).any (fun t => M.matchB t.nm t.u t.m t.v q.nm (pubB q.p) q.p) || M.matchB tk.nm tk.u tk.m tk.v q.nm (pubB q.p) q.p) by
          rw [List.take_succ_eq_append_getElem hlt, List.any_append]
          rw [List.getElem?_eq_getElem hlt] at hpk
          simp only [Option.getD_some] at hpk
          rw [hpk]
          simp)
        have MK := fun w L => MT tk w L
        clear hpk hbw DRk
        generalize hdv : (ud.take k).any (fun t => M.matchB t.nm t.u t.m t.v q.nm (pubB q.p) q.p) = dv at *
        rw [show M.matchB tk.n.data.toList tk.u tk.m tk.v q.n.data.toList (pubB q.p) q.p = M.matchB tk.nm tk.u tk.m tk.v q.nm (pubB q.p) q.p from rfl] at MK
        generalize M.matchB tk.nm tk.u tk.m tk.v q.nm (pubB q.p) q.p = mv at *
        clear hdv
        have kk0 := Ak.cell 0 _ rfl
        have kk1 := Ak.cell 1 _ rfl
        have kk2 := Ak.cell 2 _ rfl
        have kk3 := Ak.cell 3 _ rfl
        have kk4 := Ak.cell 4 _ rfl
        have kk5 := Ak.cell 5 _ rfl
        cases dv
        · go_wp2_with fail
          refine wp_region_line (Bel wr) [(0, true), (1, true), (2, true), (3, true), (4, true), (5, true), (6, true), (7, true), (8, true), (9, true), (10, false), (11, true), (12, true)] (by kernel_rfl) (by kernel_rfl) (fun _ _ d _ _ h => by cases d <;> exact h) (Bel.drew wr) ?_
          have hst := Bel.drew wr
          have inst : Nonempty (Of (Bel wr)) := ⟨⟨_, hst⟩⟩
          have qe0 := bel_cell e0
          have qe1 := bel_cell e1
          have qe2 := bel_cell e2
          have qe3 := bel_cell e3
          have qk3 := bel_cell kk3
          have qk4 := bel_cell kk4
          iterate 10 (refine line_read rfl (by kernel_rfl) (fun K hK => ?_); go_big_quiet_op; refine hK _ ?_; clear hK K)
          refine line_alone rfl (by kernel_rfl) (fun K hK => ?_)
          refine call_wp (args := #[.agg #[.string tk.n, .int .i64 tk.u, .int .i64 tk.m, .int .i64 tk.v], .string q.n, .int .i64 q.p]) rfl (by kernel_rfl) (by kernel_rfl) (MK _ (Lk.on hst.out)) (fun wn hbn => ?_)
          have hst2 := hst.on hbn
          refine hK _ _ hst2 ?_
          clear hK K hst hbn
          have hst := hst2
          clear hst2
          simp only [Act.put, List.setIfInBounds_toArray, List.set_cons_zero, List.set_cons_succ]
          iterate 2 (refine line_read rfl (by kernel_rfl) (fun K hK => ?_); go_big_quiet_op; refine hK _ ?_; clear hK K)
          refine line_nil ?_
          have HR := Lib.hid (btr HB.out hst.out)
          clear hst inst qe0 qe1 qe2 qe3 qk3 qk4 e0 e1 e2 e3 kk0 kk1 kk2 kk3 kk4 kk5 Ak Lk MK
          go_wp2_with fail
          go_roundw
          case rel => exact ⟨k + 1, by omega, ⟨by rw [HN.out]; rfl, by go_num, HR.out⟩⟩
          case measure => simp [intOf]; omega
        · go_wp2_with fail
          refine wp_region_line (Bel wr) [(0, true), (1, true), (2, true), (3, true), (4, true), (5, true), (6, true), (7, true), (8, true), (9, true), (10, false), (11, true), (12, true)] (by kernel_rfl) (by kernel_rfl) (fun _ _ d _ _ h => by cases d <;> exact h) (Bel.drew wr) ?_
          have hst := Bel.drew wr
          have inst : Nonempty (Of (Bel wr)) := ⟨⟨_, hst⟩⟩
          iterate 2 (refine line_read rfl (by kernel_rfl) (fun K hK => ?_); go_big_quiet_op; refine hK _ ?_; clear hK K)
          iterate 9 (refine line_skip rfl (by kernel_rfl) ?_; simp only [Act.put, List.setIfInBounds_toArray, List.set_cons_zero, List.set_cons_succ])
          iterate 2 (refine line_read rfl (by kernel_rfl) (fun K hK => ?_); go_big_quiet_op; refine hK _ ?_; clear hK K)
          refine line_nil ?_
          have HR := Lib.hid (btr HB.out hst.out)
          clear hst inst e0 e1 e2 e3 kk0 kk1 kk2 kk3 kk4 kk5 Ak Lk MK
          go_wp2_with fail
          go_roundw
          case rel => exact ⟨k + 1, by omega, ⟨by rw [HN.out]; rfl, by go_num, HR.out⟩⟩
          case measure => simp [intOf]; omega
      · obtain rfl : k = ud.length := by omega
        rw [List.take_length, HD.out]
        have A8 := A7.on hbw
        have AR8 := AR7.on hbw
        have V8 := V7.on hbw
        have B8 := btr B7 hbw
        clear hbw A7 AR7 L7 V7 B7 DR7 MT HD HM
        have kk0 := A8.cell 0 _ rfl
        have kk1 := A8.cell 1 _ rfl
        have kk2 := A8.cell 2 _ rfl
        have kk3 := A8.cell 3 _ rfl
        have kk4 := A8.cell 4 _ rfl
        have kk5 := A8.cell 5 _ rfl
        go_wp2_with fail
        refine (FP _ AR8.ps).mono ?_
        rintro e u9 ⟨rfl, b9⟩
        generalize hfc : findC q.ps q.n.data.toList = fc at *
        generalize hfr : findR q.ps q.n.data.toList = fr at *
        have F9 := At.new u9 [.int .i64 fc, .string fr.n, .int .i64 fr.a, .int .i64 fr.b, .int .i64 fr.e, .int .i64 fr.u] 74
        have d9 := bal b9 (.cells #[.int .i64 fc, .string fr.n, .int .i64 fr.a, .int .i64 fr.b, .int .i64 fr.e, .int .i64 fr.u] 74)
        have A9 := A8.on d9
        have V9 := V8.on d9
        have B9 := btr B8 d9
        have hfn : fr.n.size ≤ maxLen := by
          rw [← hfr]
          exact find_size AR8.ps.names
        have IL := fun w => implIsLive_any fr q.t w hfn
        have AC := fun w => implIsAccept_any re w
        obtain ⟨g5, g6⟩ := HG.out
        rw [← g5] at AC
        have HG6 := Lib.hid (show (ud.length ≠ 0 ∧ re = if daneB ud q.p then 1 else 2) ∨ (ud.length = 0 ∧ fc = 0 ∧ fr.f = 0 ∧ re = pinReason fr q.p q.t) ∨ (ud.length = 0 ∧ fc = 4 ∧ re = if q.first then 7 else 8) by rw [← hfc, ← hfr]; exact g6)
        have HG5 := Lib.hid g5
        generalize hdb : daneB ud q.p = db at *
        clear b9 d9 A8 AR8 V8 B8 FP HG g5 g6 hfc hfr hdb kk0 kk1 kk2 kk3 kk4 kk5
        go_upto_region 19 with fail
        generalize u9.alloc (.cells #[.int .i64 fc, .string fr.n, .int .i64 fr.a, .int .i64 fr.b, .int .i64 fr.e, .int .i64 fr.u] 74) = W9 at *
        have vv0 := V9.cell 0 _ rfl
        have vv1 := V9.cell 1 _ rfl
        have vv2 := V9.cell 2 _ rfl
        refine wp_region_line (Bel W9) [(0, true), (1, true), (2, true), (3, true), (4, false), (5, true)] (by kernel_rfl) (by kernel_rfl) (fun _ _ d _ _ h => by cases d <;> exact h) (Bel.drew W9) ?_
        have hst := Bel.drew W9
        have inst : Nonempty (Of (Bel W9)) := ⟨⟨_, hst⟩⟩
        have qv1 := bel_cell vv1
        have qv2 := bel_cell vv2
        have A10 := A9.on (bdrew W9)
        have V10 := V9.on (bdrew W9)
        have F10 := F9.on (bdrew W9)
        have B10 := btr B9 (bdrew W9)
        clear A9 V9 F9 B9 vv0 vv1 vv2
        generalize W9.drew = W10 at *
        iterate 4 (refine line_read rfl (by kernel_rfl) (fun K hK => ?_); go_big_quiet_op; refine hK _ ?_; clear hK K)
        refine line_alone rfl (by kernel_rfl) (fun K hK => ?_)
        refine call_wp (args := #[.int .i64 re]) rfl (by kernel_rfl) (by kernel_rfl) (AC _) (fun wn hbn => ?_)
        subst hbn
        refine hK _ _ hst ?_
        clear hK K
        simp only [Act.put, List.setIfInBounds_toArray, List.set_cons_zero, List.set_cons_succ]
        iterate 1 (refine line_read rfl (by kernel_rfl) (fun K hK => ?_); go_big_quiet_op; refine hK _ ?_; clear hK K)
        refine line_nil ?_
        clear hst inst qv1 qv2 AC
        have kk0 := A10.cell 0 _ rfl
        have kk1 := A10.cell 1 _ rfl
        have kk2 := A10.cell 2 _ rfl
        have kk3 := A10.cell 3 _ rfl
        have kk4 := A10.cell 4 _ rfl
        have kk5 := A10.cell 5 _ rfl
        have vv0 := V10.cell 0 _ rfl
        have vv1 := V10.cell 1 _ rfl
        have vv2 := V10.cell 2 _ rfl
        have ff0 := F10.cell 0 _ rfl
        have ff1 := F10.cell 1 _ rfl
        have ff2 := F10.cell 2 _ rfl
        have ff3 := F10.cell 3 _ rfl
        have ff4 := F10.cell 4 _ rfl
        have ff5 := F10.cell 5 _ rfl
        rcases HG6.out with ⟨hz, hr⟩ | ⟨hz, hf0, hff, hr⟩ | ⟨hz, hf0, hr⟩
        · have hac := HG5.out
          have hpos : (0 : Int) < ud.length := by omega
          clear HG5 HG6
          cases db
          · simp only [Bool.false_eq_true, if_false] at hr
            subst hr
            rw [show acceptB 2 = false from rfl] at hac
            subst hac
            go_wp2_with fail
            go_ret
            exact ⟨rfl, B10⟩
          · simp only [if_true] at hr
            subst hr
            rw [show acceptB 1 = true from rfl] at hac
            subst hac
            go_wp2_with fail
            go_ret
            exact ⟨rfl, B10⟩
        · have hac := HG5.out
          have hlv : liveB fr q.t = decide (q.t ≤ fr.u) := by
            unfold liveB
            rw [decide_eq_true hff, HG4.out.2]
            rfl
          rw [hlv] at IL
          unfold pinReason at hr
          have hpos : ¬ (0 : Int) < ud.length := by omega
          subst hf0
          clear HG5 HG6 hff hlv hz
          by_cases hl : q.t ≤ fr.u
          · rw [if_pos hl] at hr
            rw [decide_eq_true hl] at IL
            by_cases ha : fr.a = q.p
            · rw [if_pos ha] at hr
              subst hr
              rw [show acceptB 3 = true from rfl] at hac
              subst hac
              have ea : (fr.a == q.p) = true := by simpa using ha
              have ea2 : decide (fr.a = q.p) = true := by simpa using ha
              clear ha hl
              go_wp2_with fail
              refine wp_region_line (Bel W10) [(0, true), (1, true), (2, true), (3, true), (4, true), (5, true), (6, false), (7, true), (8, true), (9, true), (10, true), (11, true), (12, true), (13, true), (14, true), (15, true), (16, true), (17, true), (18, true), (19, true), (20, true), (21, true), (22, true), (23, true), (24, true), (25, true), (26, true), (27, true), (28, true), (29, true), (30, true), (31, true), (32, true), (33, true), (34, true)] (by kernel_rfl) (by kernel_rfl) (fun _ _ d _ _ h => by cases d <;> exact h) (Bel.drew W10) ?_
              have hst := Bel.drew W10
              have inst : Nonempty (Of (Bel W10)) := ⟨⟨_, hst⟩⟩
              have qk4 := bel_cell kk4
              have qk5 := bel_cell kk5
              have qv1 := bel_cell vv1
              have qv2 := bel_cell vv2
              have qf1 := bel_cell ff1
              have qf2 := bel_cell ff2
              have qf3 := bel_cell ff3
              have qf4 := bel_cell ff4
              have qf5 := bel_cell ff5
              iterate 6 (refine line_read rfl (by kernel_rfl) (fun K hK => ?_); go_big_quiet_op; refine hK _ ?_; clear hK K)
              refine line_alone rfl (by kernel_rfl) (fun K hK => ?_)
              refine call_wp (args := #[.agg #[.string fr.n, .int .i64 fr.a, .int .i64 fr.b, .int .i64 fr.e, .int .i64 fr.u], .int .i64 q.t]) rfl (by kernel_rfl) (by kernel_rfl) (IL _) (fun wn hbn => ?_)
              have hst2 := hst.on hbn
              refine hK _ _ hst2 ?_
              clear hK K hst hbn
              have hst := hst2
              clear hst2
              simp only [Act.put, List.setIfInBounds_toArray, List.set_cons_zero, List.set_cons_succ]
              iterate 8 (refine line_read rfl (by kernel_rfl) (fun K hK => ?_); go_big_quiet_op; refine hK _ ?_; clear hK K)
              iterate 6 (refine line_skip rfl (by kernel_rfl) ?_; simp only [Act.put, List.setIfInBounds_toArray, List.set_cons_zero, List.set_cons_succ])
              iterate 14 (refine line_read rfl (by kernel_rfl) (fun K hK => ?_); go_big_quiet_op; refine hK _ ?_; clear hK K)
              refine line_nil ?_
              have hb := btr B10 hst.out
              clear hst inst
              go_wp2_with fail
              go_ret
              exact ⟨rfl, hb⟩
            · rw [if_neg ha] at hr
              have ea : (fr.a == q.p) = false := by simpa using ha
              have ea2 : decide (fr.a = q.p) = false := by simpa using ha
              by_cases hb : fr.b = q.p
              · rw [if_pos hb] at hr
                subst hr
                rw [show acceptB 4 = true from rfl] at hac
                subst hac
                have eb : (fr.b == q.p) = true := by simpa using hb
                have eb2 : decide (fr.b = q.p) = true := by simpa using hb
                clear ha hb hl
                go_wp2_with fail
                refine wp_region_line (Bel W10) [(0, true), (1, true), (2, true), (3, true), (4, true), (5, true), (6, false), (7, true), (8, true), (9, true), (10, true), (11, true), (12, true), (13, true), (14, true), (15, true), (16, true), (17, true), (18, true), (19, true), (20, true), (21, true), (22, true), (23, true), (24, true), (25, true), (26, true), (27, true), (28, true), (29, true), (30, true), (31, true), (32, true), (33, true), (34, true)] (by kernel_rfl) (by kernel_rfl) (fun _ _ d _ _ h => by cases d <;> exact h) (Bel.drew W10) ?_
                have hst := Bel.drew W10
                have inst : Nonempty (Of (Bel W10)) := ⟨⟨_, hst⟩⟩
                have qk4 := bel_cell kk4
                have qk5 := bel_cell kk5
                have qv1 := bel_cell vv1
                have qv2 := bel_cell vv2
                have qf1 := bel_cell ff1
                have qf2 := bel_cell ff2
                have qf3 := bel_cell ff3
                have qf4 := bel_cell ff4
                have qf5 := bel_cell ff5
                iterate 6 (refine line_read rfl (by kernel_rfl) (fun K hK => ?_); go_big_quiet_op; refine hK _ ?_; clear hK K)
                refine line_alone rfl (by kernel_rfl) (fun K hK => ?_)
                refine call_wp (args := #[.agg #[.string fr.n, .int .i64 fr.a, .int .i64 fr.b, .int .i64 fr.e, .int .i64 fr.u], .int .i64 q.t]) rfl (by kernel_rfl) (by kernel_rfl) (IL _) (fun wn hbn => ?_)
                have hst2 := hst.on hbn
                refine hK _ _ hst2 ?_
                clear hK K hst hbn
                have hst := hst2
                clear hst2
                simp only [Act.put, List.setIfInBounds_toArray, List.set_cons_zero, List.set_cons_succ]
                iterate 28 (refine line_read rfl (by kernel_rfl) (fun K hK => ?_); go_big_quiet_op; refine hK _ ?_; clear hK K)
                refine line_nil ?_
                have hb := btr B10 hst.out
                clear hst inst
                go_wp2_with fail
                go_ret
                exact ⟨rfl, hb⟩
              · rw [if_neg hb] at hr
                subst hr
                rw [show acceptB 5 = false from rfl] at hac
                subst hac
                have eb : (fr.b == q.p) = false := by simpa using hb
                have eb2 : decide (fr.b = q.p) = false := by simpa using hb
                clear ha hb hl
                go_wp2_with fail
                refine wp_region_line (Bel W10) [(0, true), (1, true), (2, true), (3, true), (4, true), (5, true), (6, false), (7, true), (8, true), (9, true), (10, true), (11, true), (12, true), (13, true), (14, true), (15, true), (16, true), (17, true), (18, true), (19, true), (20, true), (21, true), (22, true), (23, true), (24, true), (25, true), (26, true), (27, true), (28, true), (29, true), (30, true), (31, true), (32, true), (33, true), (34, true)] (by kernel_rfl) (by kernel_rfl) (fun _ _ d _ _ h => by cases d <;> exact h) (Bel.drew W10) ?_
                have hst := Bel.drew W10
                have inst : Nonempty (Of (Bel W10)) := ⟨⟨_, hst⟩⟩
                have qk4 := bel_cell kk4
                have qk5 := bel_cell kk5
                have qv1 := bel_cell vv1
                have qv2 := bel_cell vv2
                have qf1 := bel_cell ff1
                have qf2 := bel_cell ff2
                have qf3 := bel_cell ff3
                have qf4 := bel_cell ff4
                have qf5 := bel_cell ff5
                iterate 6 (refine line_read rfl (by kernel_rfl) (fun K hK => ?_); go_big_quiet_op; refine hK _ ?_; clear hK K)
                refine line_alone rfl (by kernel_rfl) (fun K hK => ?_)
                refine call_wp (args := #[.agg #[.string fr.n, .int .i64 fr.a, .int .i64 fr.b, .int .i64 fr.e, .int .i64 fr.u], .int .i64 q.t]) rfl (by kernel_rfl) (by kernel_rfl) (IL _) (fun wn hbn => ?_)
                have hst2 := hst.on hbn
                refine hK _ _ hst2 ?_
                clear hK K hst hbn
                have hst := hst2
                clear hst2
                simp only [Act.put, List.setIfInBounds_toArray, List.set_cons_zero, List.set_cons_succ]
                iterate 28 (refine line_read rfl (by kernel_rfl) (fun K hK => ?_); go_big_quiet_op; refine hK _ ?_; clear hK K)
                refine line_nil ?_
                have hb := btr B10 hst.out
                clear hst inst
                go_wp2_with fail
                go_ret
                exact ⟨rfl, hb⟩
          · rw [if_neg hl] at hr
            rw [decide_eq_false hl] at IL
            subst hr
            rw [show acceptB 6 = false from rfl] at hac
            subst hac
            clear hl
            go_wp2_with fail
            refine wp_region_line (Bel W10) [(0, true), (1, true), (2, true), (3, true), (4, true), (5, true), (6, false), (7, true), (8, true), (9, true), (10, true), (11, true), (12, true), (13, true), (14, true), (15, true), (16, true), (17, true), (18, true), (19, true), (20, true), (21, true), (22, true), (23, true), (24, true), (25, true), (26, true), (27, true), (28, true), (29, true), (30, true), (31, true), (32, true), (33, true), (34, true)] (by kernel_rfl) (by kernel_rfl) (fun _ _ d _ _ h => by cases d <;> exact h) (Bel.drew W10) ?_
            have hst := Bel.drew W10
            have inst : Nonempty (Of (Bel W10)) := ⟨⟨_, hst⟩⟩
            have qk4 := bel_cell kk4
            have qk5 := bel_cell kk5
            have qv1 := bel_cell vv1
            have qv2 := bel_cell vv2
            have qf1 := bel_cell ff1
            have qf2 := bel_cell ff2
            have qf3 := bel_cell ff3
            have qf4 := bel_cell ff4
            have qf5 := bel_cell ff5
            iterate 6 (refine line_read rfl (by kernel_rfl) (fun K hK => ?_); go_big_quiet_op; refine hK _ ?_; clear hK K)
            refine line_alone rfl (by kernel_rfl) (fun K hK => ?_)
            refine call_wp (args := #[.agg #[.string fr.n, .int .i64 fr.a, .int .i64 fr.b, .int .i64 fr.e, .int .i64 fr.u], .int .i64 q.t]) rfl (by kernel_rfl) (by kernel_rfl) (IL _) (fun wn hbn => ?_)
            have hst2 := hst.on hbn
            refine hK _ _ hst2 ?_
            clear hK K hst hbn
            have hst := hst2
            clear hst2
            simp only [Act.put, List.setIfInBounds_toArray, List.set_cons_zero, List.set_cons_succ]
            iterate 1 (refine line_read rfl (by kernel_rfl) (fun K hK => ?_); go_big_quiet_op; refine hK _ ?_; clear hK K)
            iterate 14 (refine line_skip rfl (by kernel_rfl) ?_; simp only [Act.put, List.setIfInBounds_toArray, List.set_cons_zero, List.set_cons_succ])
            iterate 13 (refine line_read rfl (by kernel_rfl) (fun K hK => ?_); go_big_quiet_op; refine hK _ ?_; clear hK K)
            refine line_nil ?_
            have hb := btr B10 hst.out
            clear hst inst
            go_wp2_with fail
            go_ret
            exact ⟨rfl, hb⟩
        · have hac := HG5.out
          have hpos : ¬ (0 : Int) < ud.length := by omega
          subst hf0
          clear HG5 HG6 hz
          generalize q.first = qfi at *
          cases qfi
          · simp only [Bool.false_eq_true, if_false] at hr
            subst hr
            rw [show acceptB 8 = false from rfl] at hac
            subst hac
            go_wp2_with fail
            go_ret
            exact ⟨rfl, B10⟩
          · simp only [if_true] at hr
            subst hr
            rw [show acceptB 7 = true from rfl] at hac
            subst hac
            go_wp2_with fail
            go_ret
            exact ⟨rfl, B10⟩
  · have e3 : (cd != 0) = true := by simpa using h0
    have e4 : decide (cd = 0) = false := by simpa using h0
    have e5 : (cd == 0) = false := by simpa using h0
    clear HC L6
    have kk0 := A6.cell 0 _ rfl
    have kk1 := A6.cell 1 _ rfl
    have kk2 := A6.cell 2 _ rfl
    have kk3 := A6.cell 3 _ rfl
    have kk4 := A6.cell 4 _ rfl
    have kk5 := A6.cell 5 _ rfl
    go_wp2_with fail
    refine wp_region_line (Bel W6) [(0, true), (3, true), (4, true), (1, false), (2, true), (5, true), (6, true), (7, true), (9, true), (10, true), (8, false), (11, true), (12, true), (13, true)] (by kernel_rfl) (by kernel_rfl) (fun _ _ d _ _ h => by cases d <;> exact h) (Bel.drew W6) ?_
    have hst := Bel.drew W6
    have inst : Nonempty (Of (Bel W6)) := ⟨⟨_, hst⟩⟩
    have qk0 := bel_cell kk0
    have qk1 := bel_cell kk1
    have qk2 := bel_cell kk2
    have qk3 := bel_cell kk3
    have qk4 := bel_cell kk4
    have qk5 := bel_cell kk5
    have qv0 := bel_cell vv0
    iterate 3 (refine line_read rfl (by kernel_rfl) (fun K hK => ?_); go_big_quiet_op; refine hK _ ?_; clear hK K)
    refine line_alone rfl (by kernel_rfl) (fun K hK => ?_)
    refine call_wp (args := #[.agg #[.bool q.first, .slice a1 n1 c1, .slice a2 n2 c2, .string q.n, .int .i64 q.p, .int .i64 q.t]]) rfl (by kernel_rfl) (by kernel_rfl) (DS _ (AR6.on hst.out)) (fun wn hbn => ?_)
    have hst2 := hst.on hbn
    refine hK _ _ hst2 ?_
    clear hK K hst hbn
    have hst := hst2
    clear hst2
    simp only [Act.put, List.setIfInBounds_toArray, List.set_cons_zero, List.set_cons_succ]
    iterate 6 (refine line_read rfl (by kernel_rfl) (fun K hK => ?_); go_big_quiet_op; refine hK _ ?_; clear hK K)
    refine line_alone rfl (by kernel_rfl) (fun K hK => ?_)
    refine call_wp (args := #[.agg #[.bool q.first, .slice a1 n1 c1, .slice a2 n2 c2, .string q.n, .int .i64 q.p, .int .i64 q.t]]) rfl (by kernel_rfl) (by kernel_rfl) (DF _ (AR6.on hst.out)) (fun wn hbn => ?_)
    have hst2 := hst.on hbn
    refine hK _ _ hst2 ?_
    clear hK K hst hbn
    have hst := hst2
    clear hst2
    simp only [Act.put, List.setIfInBounds_toArray, List.set_cons_zero, List.set_cons_succ]
    iterate 3 (refine line_read rfl (by kernel_rfl) (fun K hK => ?_); go_big_quiet_op; refine hK _ ?_; clear hK K)
    refine line_nil ?_
    have hb := btr B6 hst.out
    clear hst inst
    go_wp2_with fail
    go_ret
    exact ⟨rfl, hb⟩

end Go.Proofs.YtlodhleihnlchaaGreatDoor.fnDecides
