/- The function SameStores answers, at every pair of arguments, as its model does, and writes into neither. The walk: the law's Go text answers true and turns nothing that was there. Conditions: as the theorem states. -/
import Derived.Test.YtefgimpodhjdpabL9p
import Derived.Test.YtefgimpodhjdpabC9w
import Derived.Test.YtefgimpodhjdpabOpen9
import Derived.WalkKit
import Derived.Below
namespace Go.Proofs.Ytefgimpodhjdpab.fnExactSameStores
open Go.RowKit
set_option linter.unusedVariables false

set_option maxHeartbeats 4000000 in
set_option maxRecDepth 100000 in
theorem walk (a0p : Option Addr) (n0p c0p : Nat) (a0r : Option Addr) (n0r c0r : Nat) (z0 : StoreD) (a1p : Option Addr) (n1p c1p : Nat) (a1r : Option Addr) (n1r c1r : Nat) (z1 : StoreD) (w : World) (w0 : SRow w w.heap.size a0p n0p c0p a0r n0r c0r z0) (w1 : SRow w w.heap.size a1p n1p c1p a1r n1r c1r z1) :
    Calls Try.prog 3 #[.agg #[.slice a0p n0p c0p, .slice a0r n0r c0r, .int .i64 z0.d.s], .agg #[.slice a1p n1p c1p, .slice a1r n1r c1r, .int .i64 z1.d.s]] w fun e w' => e = .returned (.bool true) ∧ Below w.heap.size w w' := by
  have b0 := bal (bal (Below.refl _ w) (.cells #[.slice a0p n0p c0p, .slice a0r n0r c0r, .int .i64 z0.d.s] 27)) (.cells #[.slice a1p n1p c1p, .slice a1r n1r c1r, .int .i64 z1.d.s] 27)
  have A0 : At w.heap.size [.slice a0p n0p c0p, .slice a0r n0r c0r, .int .i64 z0.d.s] ((w.alloc (.cells #[.slice a0p n0p c0p, .slice a0r n0r c0r, .int .i64 z0.d.s] 27)).alloc (.cells #[.slice a1p n1p c1p, .slice a1r n1r c1r, .int .i64 z1.d.s] 27)) := (At.new w [.slice a0p n0p c0p, .slice a0r n0r c0r, .int .i64 z0.d.s] 27).alloc _
  have C0 := At.new (w.alloc (.cells #[.slice a0p n0p c0p, .slice a0r n0r c0r, .int .i64 z0.d.s] 27)) [.slice a1p n1p c1p, .slice a1r n1r c1r, .int .i64 z1.d.s] 27
  rw [World.size_alloc] at C0
  have HA0 := Lib.hid A0
  have HC0 := Lib.hid (show At (w.heap.size + 1) [.slice a1p n1p c1p, .slice a1r n1r c1r, .int .i64 z1.d.s] ((w.alloc (.cells #[.slice a0p n0p c0p, .slice a0r n0r c0r, .int .i64 z0.d.s] 27)).alloc (.cells #[.slice a1p n1p c1p, .slice a1r n1r c1r, .int .i64 z1.d.s] 27)) from C0)
  have HB0 := Lib.hid b0
  have F := szStore_any a0p n0p c0p a0r n0r c0r w.heap.size z0.d.s 1048576 z0 _ (w0.below b0) b0.size (by omega) (by omega)
  clear C0
  by_cases hbig : szSt z0 1048576 < 0
  · generalize szSt z0 1048576 = L at *
    clear w0 w1
    have d0 := A0.cell 0 _ rfl
    have d1 := A0.cell 1 _ rfl
    have d2 := A0.cell 2 _ rfl
    go_enter Try.func3, Try.ntmps3
    go_wp2_with fail
    refine F.mono ?_
    rintro r u1 ⟨rfl, b1⟩
    have hb := btr b0 b1
    go_wp2_with fail
    go_ret
    exact ⟨rfl, hb⟩
  obtain ⟨hs1, hsL, hs2⟩ := szSt_small (s := z0) (L := 1048576) (by omega) (by omega)
  have TA := Lib.hid (fun (w' : World) (hb : Below w.heap.size w w') => toStore_any a0p n0p c0p a0r n0r c0r w.heap.size z0 w' (w0.below hb) hb.size hs1 hs2)
  generalize szSt z0 1048576 = L at *
  have FB := Lib.hid (fun (w' : World) (hb : Below w.heap.size w w') => szStore_any a1p n1p c1p a1r n1r c1r w.heap.size z1.d.s L z1 w' (w1.below hb) hb.size (by omega) (by omega))
  clear b0
  by_cases hb2 : szSt z1 L < 0
  · generalize szSt z1 L = M at *
    clear w0 w1 hs1 hs2
    have d0 := A0.cell 0 _ rfl
    have d1 := A0.cell 1 _ rfl
    have d2 := A0.cell 2 _ rfl
    go_enter Try.func3, Try.ntmps3
    go_wp2_with fail
    refine F.mono ?_
    rintro r u1 ⟨rfl, b1⟩
    have C1 := HC0.out.on b1
    have e0 := C1.cell 0 _ rfl
    have e1 := C1.cell 1 _ rfl
    have e2 := C1.cell 2 _ rfl
    go_wp2_with fail
    refine (FB.out _ (btr HB0.out b1)).mono ?_
    rintro r u2 ⟨rfl, b2⟩
    have hb := btr (btr HB0.out b1) b2
    go_wp2_with fail
    go_ret
    exact ⟨rfl, hb⟩
  obtain ⟨hs3, -, hs4⟩ := szSt_small (s := z1) (L := L) (by omega) (by omega)
  have TB := Lib.hid (fun (w' : World) (hb : Below w.heap.size w w') => toStore_any a1p n1p c1p a1r n1r c1r w.heap.size z1 w' (w1.below hb) hb.size hs3 hs4)
  have SP := Lib.hid (fun (a1 : Option Addr) (c1 : Nat) (a2 : Option Addr) (c2 : Nat) (b1 : Option Addr) (d1 : Nat) (b2 : Option Addr) (d2 : Nat) (w' : World) (h : SRow w' w'.heap.size a1 z0.ps.length c1 a2 z0.d.rs.length c2 z0) (g : SRow w' w'.heap.size b1 z1.ps.length d1 b2 z1.d.rs.length d2 z1) => specSameStores_any a1 z0.ps.length c1 a2 z0.d.rs.length c2 b1 z1.ps.length d1 b2 z1.d.rs.length d2 w'.heap.size z0 z1 w' h g (Nat.le_refl _))
  have IP := Lib.hid (fun (a1 : Option Addr) (c1 : Nat) (a2 : Option Addr) (c2 : Nat) (b1 : Option Addr) (d1 : Nat) (b2 : Option Addr) (d2 : Nat) (w' : World) (h : SRow w' w'.heap.size a1 z0.ps.length c1 a2 z0.d.rs.length c2 z0) (g : SRow w' w'.heap.size b1 z1.ps.length d1 b2 z1.d.rs.length d2 z1) => implSameStores_any a1 z0.ps.length c1 a2 z0.d.rs.length c2 b1 z1.ps.length d1 b2 z1.d.rs.length d2 w'.heap.size z0 z1 w' h g (Nat.le_refl _))
  have HE := Lib.hid (fun (z : StoreD) (a1 b1 : Option Addr) (c1 d1 : Nat) (a2 b2 : Option Addr) (c2 d2 : Nat) (w' : World) (h : SRow w' w'.heap.size a1 z.ps.length c1 a2 z.d.rs.length c2 z) (g : SRow w' w'.heap.size b1 z.ps.length d1 b2 z.d.rs.length d2 z) => eqStore_any a1 b1 z.ps.length c1 d1 a2 b2 z.d.rs.length c2 d2 w'.heap.size z w' h g (Nat.le_refl _))
  generalize szSt z1 L = M at *
  generalize sameSt z0 z1 = C at *
  clear hs1 hs2 hs3 hs4 hsL w0 w1
  have d0 := A0.cell 0 _ rfl
  have d1 := A0.cell 1 _ rfl
  have d2 := A0.cell 2 _ rfl
  clear A0
  go_enter Try.func3, Try.ntmps3
  go_wp2_with fail
  generalize (w.alloc (.cells #[.slice a0p n0p c0p, .slice a0r n0r c0r, .int .i64 z0.d.s] 27)).alloc (.cells #[.slice a1p n1p c1p, .slice a1r n1r c1r, .int .i64 z1.d.s] 27) = W0 at *
  refine F.mono ?_
  rintro r u1 ⟨rfl, b1⟩
  have C1 := HC0.out.on b1
  have e0 := C1.cell 0 _ rfl
  have e1 := C1.cell 1 _ rfl
  have e2 := C1.cell 2 _ rfl
  clear d0 d1 d2 F
  go_wp2_with fail
  refine (FB.out _ (btr HB0.out b1)).mono ?_
  rintro r u2 ⟨rfl, b2⟩
  have A2 := Lib.hid (HA0.out.on (btr b1 b2))
  have C2 := Lib.hid (HC0.out.on (btr b1 b2))
  have B2 := Lib.hid (btr HB0.out (btr b1 b2))
  clear e0 e1 e2 b1 b2 C1 HA0 HC0 HB0 FB
  have d0 := A2.out.cell 0 _ rfl
  have d1 := A2.out.cell 1 _ rfl
  have d2 := A2.out.cell 2 _ rfl
  have e0 := C2.out.cell 0 _ rfl
  have e1 := C2.out.cell 1 _ rfl
  have e2 := C2.out.cell 2 _ rfl
  go_wp2_with fail
  refine wp_region_line (Bel u2) [(0, true), (2, true), (1, false), (3, false), (4, false), (5, true)] (by kernel_rfl) (by kernel_rfl) (fun _ _ d _ _ h => by cases d <;> exact h) (Bel.drew u2) ?_
  have hst := Bel.drew u2
  have inst : Nonempty (Of (Bel u2)) := ⟨⟨_, hst⟩⟩
  have v0 := bel_cell d0
  have v1 := bel_cell d1
  have v2 := bel_cell d2
  have t0 := bel_cell e0
  have t1 := bel_cell e1
  have t2 := bel_cell e2
  generalize u2.drew = V2 at *
  iterate 2 (refine line_read rfl (by kernel_rfl) (fun K hK => ?_); go_big_quiet_op; refine hK _ ?_; clear hK K)
  refine line_alone rfl (by kernel_rfl) (fun K hK => ?_)
  refine call_any (args := #[.agg #[.slice a0p n0p c0p, .slice a0r n0r c0r, .int .i64 z0.d.s]]) rfl (by kernel_rfl) (by kernel_rfl) (TA.out _ (btr B2.out hst.out)) ?_
  rintro e x3 ⟨a3, y3, rfl, G3, b3⟩
  have hst2 := hst.on b3
  refine ⟨_, rfl, hK _ _ hst2 ?_⟩
  clear hK K hst b3
  have hst := hst2
  clear hst2
  simp only [Act.put, List.setIfInBounds_toArray, List.set_cons_zero, List.set_cons_succ]
  refine line_alone rfl (by kernel_rfl) (fun K hK => ?_)
  refine call_any (args := #[.agg #[.slice a1p n1p c1p, .slice a1r n1r c1r, .int .i64 z1.d.s]]) rfl (by kernel_rfl) (by kernel_rfl) (TB.out _ (btr B2.out hst.out)) ?_
  rintro e x4 ⟨a4, y4, rfl, G4, b4⟩
  have hst2 := hst.on b4
  have R3 := (G3.below b4).row
  have R4 := G4.row
  refine ⟨_, rfl, hK _ _ hst2 ?_⟩
  clear hK K hst b4 G3 G4
  have hst := hst2
  clear hst2
  simp only [Act.put, List.setIfInBounds_toArray, List.set_cons_zero, List.set_cons_succ]
  refine line_alone rfl (by kernel_rfl) (fun K hK => ?_)
  refine call_wp (args := #[.agg #[.slice a3 z0.ps.length z0.ps.length, .slice y3 z0.d.rs.length z0.d.rs.length, .int .i64 z0.d.s], .agg #[.slice a4 z1.ps.length z1.ps.length, .slice y4 z1.d.rs.length z1.d.rs.length, .int .i64 z1.d.s]]) rfl (by kernel_rfl) (by kernel_rfl) (SP.out _ _ _ _ _ _ _ _ _ R3 R4) (fun wn hbn => ?_)
  have hst2 := hst.on hbn
  refine hK _ _ hst2 ?_
  clear hK K hst hbn
  have hst := hst2
  clear hst2
  simp only [Act.put, List.setIfInBounds_toArray, List.set_cons_zero, List.set_cons_succ]
  iterate 1 (refine line_read rfl (by kernel_rfl) (fun K hK => ?_); go_big_quiet_op; refine hK _ ?_; clear hK K)
  refine line_nil ?_
  have A5 := Lib.hid (A2.out.on hst.out)
  have C5 := Lib.hid (C2.out.on hst.out)
  have B5 := Lib.hid (btr B2.out hst.out)
  clear hst inst v0 v1 v2 t0 t1 t2 d0 d1 d2 e0 e1 e2 R3 R4 A2 C2 B2 SP
  have d0 := A5.out.cell 0 _ rfl
  have d1 := A5.out.cell 1 _ rfl
  have d2 := A5.out.cell 2 _ rfl
  go_wp2_with fail
  refine (TA.out _ B5.out).mono ?_
  rintro r u6 ⟨a6, y6, rfl, G6, b6⟩
  have b67 := bal (Below.refl _ u6) (.cells #[.slice a6 z0.ps.length z0.ps.length, .slice y6 z0.d.rs.length z0.d.rs.length, .int .i64 z0.d.s] 33)
  have Q7 := Lib.hid (show At u6.heap.size [.slice a6 z0.ps.length z0.ps.length, .slice y6 z0.d.rs.length z0.d.rs.length, .int .i64 z0.d.s] (u6.alloc (.cells #[.slice a6 z0.ps.length z0.ps.length, .slice y6 z0.d.rs.length z0.d.rs.length, .int .i64 z0.d.s] 33)) from At.new u6 [.slice a6 z0.ps.length z0.ps.length, .slice y6 z0.d.rs.length z0.d.rs.length, .int .i64 z0.d.s] 33)
  have GA7 := Lib.hid (G6.below b67)
  have A7 := Lib.hid (A5.out.on (btr b6 b67))
  have C7 := Lib.hid (C5.out.on (btr b6 b67))
  have B7 := Lib.hid (btr B5.out (btr b6 b67))
  clear d0 d1 d2 b6 b67 G6 A5 C5 B5
  go_upto_region 10 with fail
  generalize u6.alloc (.cells #[.slice a6 z0.ps.length z0.ps.length, .slice y6 z0.d.rs.length z0.d.rs.length, .int .i64 z0.d.s] 33) = W7 at *
  have e0 := C7.out.cell 0 _ rfl
  have e1 := C7.out.cell 1 _ rfl
  have e2 := C7.out.cell 2 _ rfl
  go_wp2_with fail
  refine (TB.out _ B7.out).mono ?_
  rintro r u8 ⟨a8, y8, rfl, G8, b8⟩
  have b89 := bal (Below.refl _ u8) (.cells #[.slice a8 z1.ps.length z1.ps.length, .slice y8 z1.d.rs.length z1.d.rs.length, .int .i64 z1.d.s] 33)
  have P9 := Lib.hid (show At u8.heap.size [.slice a8 z1.ps.length z1.ps.length, .slice y8 z1.d.rs.length z1.d.rs.length, .int .i64 z1.d.s] (u8.alloc (.cells #[.slice a8 z1.ps.length z1.ps.length, .slice y8 z1.d.rs.length z1.d.rs.length, .int .i64 z1.d.s] 33)) from At.new u8 [.slice a8 z1.ps.length z1.ps.length, .slice y8 z1.d.rs.length z1.d.rs.length, .int .i64 z1.d.s] 33)
  have GB9 := Lib.hid (G8.below b89)
  have GA9 := Lib.hid (GA7.out.below (btr b8 b89))
  have Q9 := Lib.hid (Q7.out.on (btr b8 b89))
  have A9 := Lib.hid (A7.out.on (btr b8 b89))
  have C9 := Lib.hid (C7.out.on (btr b8 b89))
  have B9 := Lib.hid (btr B7.out (btr b8 b89))
  clear e0 e1 e2 b8 b89 G8 GA7 Q7 A7 C7 B7
  go_upto_region 11 with fail
  generalize u8.alloc (.cells #[.slice a8 z1.ps.length z1.ps.length, .slice y8 z1.d.rs.length z1.d.rs.length, .int .i64 z1.d.s] 33) = W9 at *
  have q0 := Q9.out.cell 0 _ rfl
  have q1 := Q9.out.cell 1 _ rfl
  have q2 := Q9.out.cell 2 _ rfl
  have p0 := P9.out.cell 0 _ rfl
  have p1 := P9.out.cell 1 _ rfl
  have p2 := P9.out.cell 2 _ rfl
  go_wp2_with fail
  refine (IP.out _ _ _ _ _ _ _ _ _ GA9.out.row GB9.out.row).mono ?_
  rintro r u10 ⟨rfl, b10⟩
  have P10 := Lib.hid (P9.out.on b10)
  have Q10 := Lib.hid (Q9.out.on b10)
  have GA10 := Lib.hid (GA9.out.below b10)
  have GB10 := Lib.hid (GB9.out.below b10)
  have A10 := Lib.hid (A9.out.on b10)
  have C10 := Lib.hid (C9.out.on b10)
  have B10 := Lib.hid (btr B9.out b10)
  have hCC : (C != C) = false := by simp
  clear q0 q1 q2 p0 p1 p2 b10 P9 Q9 GA9 GB9 A9 C9 B9
  have q0 := Q10.out.cell 0 _ rfl
  have q1 := Q10.out.cell 1 _ rfl
  have q2 := Q10.out.cell 2 _ rfl
  have d0 := A10.out.cell 0 _ rfl
  have d1 := A10.out.cell 1 _ rfl
  have d2 := A10.out.cell 2 _ rfl
  go_wp2_with fail
  refine wp_region_line (Bel u10) [(0, true), (1, true), (2, false), (3, false), (4, true)] (by kernel_rfl) (by kernel_rfl) (fun _ _ d _ _ h => by cases d <;> exact h) (Bel.drew u10) ?_
  have hst := Bel.drew u10
  have inst : Nonempty (Of (Bel u10)) := ⟨⟨_, hst⟩⟩
  have v0 := bel_cell q0
  have v1 := bel_cell q1
  have v2 := bel_cell q2
  have t0 := bel_cell d0
  have t1 := bel_cell d1
  have t2 := bel_cell d2
  generalize u10.drew = V11 at *
  iterate 2 (refine line_read rfl (by kernel_rfl) (fun K hK => ?_); go_big_quiet_op; refine hK _ ?_; clear hK K)
  refine line_alone rfl (by kernel_rfl) (fun K hK => ?_)
  refine call_any (args := #[.agg #[.slice a0p n0p c0p, .slice a0r n0r c0r, .int .i64 z0.d.s]]) rfl (by kernel_rfl) (by kernel_rfl) (TA.out _ (btr B10.out hst.out)) ?_
  rintro e x11 ⟨a11, y11, rfl, G11, b11⟩
  have hst2 := hst.on b11
  have R11 := G11.row
  refine ⟨_, rfl, hK _ _ hst2 ?_⟩
  clear hK K hst b11 G11
  have hst := hst2
  clear hst2
  simp only [Act.put, List.setIfInBounds_toArray, List.set_cons_zero, List.set_cons_succ]
  have X11 := (GA10.out.below hst.out).row
  refine line_alone rfl (by kernel_rfl) (fun K hK => ?_)
  refine call_wp (args := #[.agg #[.slice a6 z0.ps.length z0.ps.length, .slice y6 z0.d.rs.length z0.d.rs.length, .int .i64 z0.d.s], .agg #[.slice a11 z0.ps.length z0.ps.length, .slice y11 z0.d.rs.length z0.d.rs.length, .int .i64 z0.d.s]]) rfl (by kernel_rfl) (by kernel_rfl) (HE.out z0 _ _ _ _ _ _ _ _ _ X11 R11) (fun wn hbn => ?_)
  have hst2 := hst.on hbn
  refine hK _ _ hst2 ?_
  clear hK K hst hbn
  have hst := hst2
  clear hst2
  simp only [Act.put, List.setIfInBounds_toArray, List.set_cons_zero, List.set_cons_succ]
  iterate 1 (refine line_read rfl (by kernel_rfl) (fun K hK => ?_); go_big_quiet_op; refine hK _ ?_; clear hK K)
  refine line_nil ?_
  have P12 := Lib.hid (P10.out.on hst.out)
  have C12 := Lib.hid (C10.out.on hst.out)
  have GB12 := Lib.hid (GB10.out.below hst.out)
  have B12 := Lib.hid (btr B10.out hst.out)
  have HU := Lib.hid hst.out
  clear hst inst v0 v1 v2 t0 t1 t2 q0 q1 q2 d0 d1 d2 X11 R11 P10 Q10 GA10 GB10 A10 C10 B10
  have p0 := P12.out.cell 0 _ rfl
  have p1 := P12.out.cell 1 _ rfl
  have p2 := P12.out.cell 2 _ rfl
  have e0 := C12.out.cell 0 _ rfl
  have e1 := C12.out.cell 1 _ rfl
  have e2 := C12.out.cell 2 _ rfl
  go_wp2_with fail
  refine wp_region_line (Bel wn) [(0, true), (1, true), (2, false), (3, false), (4, true)] (by kernel_rfl) (by kernel_rfl) (fun _ _ d _ _ h => by cases d <;> exact h) (Bel.drew wn) ?_
  have hst := Bel.drew wn
  have inst : Nonempty (Of (Bel wn)) := ⟨⟨_, hst⟩⟩
  have v0 := bel_cell p0
  have v1 := bel_cell p1
  have v2 := bel_cell p2
  have t0 := bel_cell e0
  have t1 := bel_cell e1
  have t2 := bel_cell e2
  generalize wn.drew = V13 at *
  iterate 2 (refine line_read rfl (by kernel_rfl) (fun K hK => ?_); go_big_quiet_op; refine hK _ ?_; clear hK K)
  refine line_alone rfl (by kernel_rfl) (fun K hK => ?_)
  refine call_any (args := #[.agg #[.slice a1p n1p c1p, .slice a1r n1r c1r, .int .i64 z1.d.s]]) rfl (by kernel_rfl) (by kernel_rfl) (TB.out _ (btr B12.out hst.out)) ?_
  rintro e x13 ⟨a13, y13, rfl, G11, b11⟩
  have hst2 := hst.on b11
  have R11 := G11.row
  refine ⟨_, rfl, hK _ _ hst2 ?_⟩
  clear hK K hst b11 G11
  have hst := hst2
  clear hst2
  simp only [Act.put, List.setIfInBounds_toArray, List.set_cons_zero, List.set_cons_succ]
  have X11 := (GB12.out.below hst.out).row
  refine line_alone rfl (by kernel_rfl) (fun K hK => ?_)
  refine call_wp (args := #[.agg #[.slice a8 z1.ps.length z1.ps.length, .slice y8 z1.d.rs.length z1.d.rs.length, .int .i64 z1.d.s], .agg #[.slice a13 z1.ps.length z1.ps.length, .slice y13 z1.d.rs.length z1.d.rs.length, .int .i64 z1.d.s]]) rfl (by kernel_rfl) (by kernel_rfl) (HE.out z1 _ _ _ _ _ _ _ _ _ X11 R11) (fun wn hbn => ?_)
  have hst2 := hst.on hbn
  refine hK _ _ hst2 ?_
  clear hK K hst hbn
  have hst := hst2
  clear hst2
  simp only [Act.put, List.setIfInBounds_toArray, List.set_cons_zero, List.set_cons_succ]
  iterate 1 (refine line_read rfl (by kernel_rfl) (fun K hK => ?_); go_big_quiet_op; refine hK _ ?_; clear hK K)
  refine line_nil ?_
  have hb := btr B12.out hst.out
  clear hst inst v0 v1 v2 t0 t1 t2 p0 p1 p2 e0 e1 e2 X11 R11 P12 C12 GB12
  go_wp2_with fail
  go_ret
  exact ⟨rfl, hb⟩

end Go.Proofs.Ytefgimpodhjdpab.fnExactSameStores
