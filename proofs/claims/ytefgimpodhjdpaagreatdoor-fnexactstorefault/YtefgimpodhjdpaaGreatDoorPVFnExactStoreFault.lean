/- The function StoreFault answers, at every argument, as its model does, and writes into no argument. The walk: the law's Go text answers true and turns nothing that was there. Conditions: as the theorem states. -/
import Derived.Test.YtefgimpodhjdpaaGreatDoorS10
import Derived.Test.YtefgimpodhjdpaaGreatDoorS11
import Derived.Test.YtefgimpodhjdpaaGreatDoorS12
import Derived.WalkKit
import Derived.Below
namespace Go.Proofs.YtefgimpodhjdpaaGreatDoor.fnExactStoreFault
open Go.RowKit
set_option linter.unusedVariables false

set_option maxHeartbeats 2000000 in
set_option maxRecDepth 100000 in
theorem walk (a0p : Option Addr) (n0p c0p : Nat) (a0r : Option Addr) (n0r c0r : Nat) (z0 : StoreD) (w : World) (w0 : SRow w w.heap.size a0p n0p c0p a0r n0r c0r z0) :
    Calls Tryz.prog 8 #[.agg #[.slice a0p n0p c0p, .slice a0r n0r c0r, .int .i64 z0.d.s]] w fun e w' => e = .returned (.bool true) ∧ Below w.heap.size w w' := by
  have b0 := bal (Below.refl _ w) (.cells #[.slice a0p n0p c0p, .slice a0r n0r c0r, .int .i64 z0.d.s] 69)
  have A0 : At w.heap.size [.slice a0p n0p c0p, .slice a0r n0r c0r, .int .i64 z0.d.s] (w.alloc (.cells #[.slice a0p n0p c0p, .slice a0r n0r c0r, .int .i64 z0.d.s] 69)) := At.new w [.slice a0p n0p c0p, .slice a0r n0r c0r, .int .i64 z0.d.s] 69
  have F := szStore_any a0p n0p c0p a0r n0r c0r w.heap.size z0.d.s 1048576 z0 _ (w0.below b0) b0.size (by omega) (by omega)
  by_cases hbig : szSt z0 1048576 < 0
  · have e1 : szSt z0 1048576 = -1 := szSt_neg hbig
    rw [e1] at F
    clear hbig e1 w0
    have d0 := A0.cell 0 _ rfl
    have d1 := A0.cell 1 _ rfl
    have d2 := A0.cell 2 _ rfl
    go_enter Tryz.func8, Tryz.ntmps8
    go_wp2_with fail
    refine F.mono ?_
    rintro r u1 ⟨rfl, b1⟩
    have hb := btr b0 b1
    go_wp2_with fail
    go_ret
    exact ⟨rfl, hb⟩
  have hsz := szSt_small (s := z0) (L := 1048576) (by omega) (by omega)
  obtain ⟨hs1, -, hs2⟩ := hsz
  have TD := Lib.hid (fun (w' : World) (hb : Below w.heap.size w w') => toStore_any a0p n0p c0p a0r n0r c0r w.heap.size z0 w' (w0.below hb) hb.size hs1 hs2)
  have SP := Lib.hid (fun (a1 : Option Addr) (c1 : Nat) (a2 : Option Addr) (c2 : Nat) (w' : World) (h : SRow w' w'.heap.size a1 z0.ps.length c1 a2 z0.d.rs.length c2 z0) => (show Calls Tryz.prog 26 #[.agg #[.slice a1 z0.ps.length c1, .slice a2 z0.d.rs.length c2, .int .i64 z0.d.s]] w' (fun r w2 => r = .returned (.int .i64 (storeF z0)) ∧ Below w'.heap.size w' w2) from specStoreFault_any a1 z0.ps.length c1 a2 z0.d.rs.length c2 w'.heap.size z0 w' h (Nat.le_refl _)))
  have IP := Lib.hid (fun (a1 : Option Addr) (c1 : Nat) (a2 : Option Addr) (c2 : Nat) (w' : World) (h : SRow w' w'.heap.size a1 z0.ps.length c1 a2 z0.d.rs.length c2 z0) => (show Calls Tryz.prog 22 #[.agg #[.slice a1 z0.ps.length c1, .slice a2 z0.d.rs.length c2, .int .i64 z0.d.s]] w' (fun r w2 => r = .returned (.int .i64 (storeF z0)) ∧ Below w'.heap.size w' w2) from implStoreFault_any a1 z0.ps.length c1 a2 z0.d.rs.length c2 w'.heap.size z0 w' h (Nat.le_refl _)))
  have HE := Lib.hid (fun (a1 b1 : Option Addr) (c1 d1 : Nat) (a2 b2 : Option Addr) (c2 d2 : Nat) (w' : World) (h : SRow w' w'.heap.size a1 z0.ps.length c1 a2 z0.d.rs.length c2 z0) (g : SRow w' w'.heap.size b1 z0.ps.length d1 b2 z0.d.rs.length d2 z0) => eqStore_any a1 b1 z0.ps.length c1 d1 a2 b2 z0.d.rs.length c2 d2 w'.heap.size z0 w' h g (Nat.le_refl _))
  clear hs1 hs2 w0
  generalize storeF z0 = C at *
  generalize hL : szSt z0 1048576 = L at *
  clear hL
  have HA0 := Lib.hid A0
  have HB0 := Lib.hid b0
  have d0 := A0.cell 0 _ rfl
  have d1 := A0.cell 1 _ rfl
  have d2 := A0.cell 2 _ rfl
  clear A0 b0
  go_enter Tryz.func8, Tryz.ntmps8
  go_wp2_with fail
  generalize w.alloc (.cells #[.slice a0p n0p c0p, .slice a0r n0r c0r, .int .i64 z0.d.s] 69) = W0 at *
  refine F.mono ?_
  rintro r u1 ⟨rfl, b1⟩
  have A1 := Lib.hid (HA0.out.on b1)
  have B1 := Lib.hid (btr HB0.out b1)
  clear d0 d1 d2 F b1 HA0 HB0
  have d0 := A1.out.cell 0 _ rfl
  have d1 := A1.out.cell 1 _ rfl
  have d2 := A1.out.cell 2 _ rfl
  go_wp2_with fail
  refine (TD.out _ B1.out).mono ?_
  rintro r u2 ⟨a2, x2, rfl, G2, b2⟩
  have R2 := G2.row
  go_wp2_with fail
  refine (SP.out _ _ _ _ _ R2).mono ?_
  rintro r u3 ⟨rfl, b3⟩
  have A3 := Lib.hid (A1.out.on (btr b2 b3))
  have B3 := Lib.hid (btr B1.out (btr b2 b3))
  clear d0 d1 d2 b2 b3 G2 R2 A1 B1
  have d0 := A3.out.cell 0 _ rfl
  have d1 := A3.out.cell 1 _ rfl
  have d2 := A3.out.cell 2 _ rfl
  go_wp2_with fail
  refine (TD.out _ B3.out).mono ?_
  rintro r u4 ⟨a4, x4, rfl, G4, b4⟩
  have Q4 := At.new u4 [.slice a4 z0.ps.length z0.ps.length, .slice x4 z0.d.rs.length z0.d.rs.length, .int .i64 z0.d.s] 29
  have b45 := bal (Below.refl _ u4) (.cells #[.slice a4 z0.ps.length z0.ps.length, .slice x4 z0.d.rs.length z0.d.rs.length, .int .i64 z0.d.s] 29)
  have b35 := btr b4 b45
  have HX4 := Lib.hid (G4.below b45)
  have A4 := Lib.hid (A3.out.on b35)
  have B4 := Lib.hid (btr B3.out b35)
  have HQ4 := Lib.hid (show At u4.heap.size [.slice a4 z0.ps.length z0.ps.length, .slice x4 z0.d.rs.length z0.d.rs.length, .int .i64 z0.d.s] (u4.alloc (.cells #[.slice a4 z0.ps.length z0.ps.length, .slice x4 z0.d.rs.length z0.d.rs.length, .int .i64 z0.d.s] 29)) from Q4)
  have R4 := (G4.below b45).row
  clear d0 d1 d2 b4 b45 b35 G4 Q4 A3 B3
  have q0 := HQ4.out.cell 0 _ rfl
  have q1 := HQ4.out.cell 1 _ rfl
  have q2 := HQ4.out.cell 2 _ rfl
  go_wp2_with fail
  generalize u4.alloc (.cells #[.slice a4 z0.ps.length z0.ps.length, .slice x4 z0.d.rs.length z0.d.rs.length, .int .i64 z0.d.s] 29) = W4 at *
  refine (IP.out _ _ _ _ _ R4).mono ?_
  rintro r u5 ⟨rfl, b5⟩
  have HQ5 := Lib.hid (HQ4.out.on b5)
  have HX5 := Lib.hid (HX4.out.below b5)
  have A5 := Lib.hid (A4.out.on b5)
  have B5 := Lib.hid (btr B4.out b5)
  clear q0 q1 q2 b5 R4 HQ4 HX4 A4 B4
  have q0 := HQ5.out.cell 0 _ rfl
  have q1 := HQ5.out.cell 1 _ rfl
  have q2 := HQ5.out.cell 2 _ rfl
  have d0 := A5.out.cell 0 _ rfl
  have d1 := A5.out.cell 1 _ rfl
  have d2 := A5.out.cell 2 _ rfl
  go_wp2_with fail
  refine wp_region_line (Bel u5) [(0, true), (1, true), (2, false), (3, false), (4, true)] (by kernel_rfl) (by kernel_rfl) (fun _ _ d _ _ h => by cases d <;> exact h) (Bel.drew u5) ?_
  have hst := Bel.drew u5
  have inst : Nonempty (Of (Bel u5)) := ⟨⟨_, hst⟩⟩
  have v0 := bel_cell q0
  have v1 := bel_cell q1
  have v2 := bel_cell q2
  have t0 := bel_cell d0
  have t1 := bel_cell d1
  have t2 := bel_cell d2
  generalize u5.drew = V5 at *
  iterate 2 (refine line_read rfl (by kernel_rfl) (fun K hK => ?_); go_big_quiet_op; refine hK _ ?_; clear hK K)
  refine line_alone rfl (by kernel_rfl) (fun K hK => ?_)
  refine call_any (args := #[.agg #[.slice a0p n0p c0p, .slice a0r n0r c0r, .int .i64 z0.d.s]]) rfl (by kernel_rfl) (by kernel_rfl) (TD.out _ (btr B5.out hst.out)) ?_
  rintro e x7 ⟨a7, y7, rfl, G7, b7⟩
  have hst2 := hst.on b7
  have R7 := G7.row
  refine ⟨_, rfl, hK _ _ hst2 ?_⟩
  clear hK K hst b7 G7
  have hst := hst2
  clear hst2
  simp only [Act.put, List.setIfInBounds_toArray, List.set_cons_zero, List.set_cons_succ]
  have X7 := (HX5.out.below hst.out).row
  refine line_alone rfl (by kernel_rfl) (fun K hK => ?_)
  refine call_wp (args := #[.agg #[.slice a4 z0.ps.length z0.ps.length, .slice x4 z0.d.rs.length z0.d.rs.length, .int .i64 z0.d.s], .agg #[.slice a7 z0.ps.length z0.ps.length, .slice y7 z0.d.rs.length z0.d.rs.length, .int .i64 z0.d.s]]) rfl (by kernel_rfl) (by kernel_rfl) (HE.out _ _ _ _ _ _ _ _ _ X7 R7) (fun wn hbn => ?_)
  have hst2 := hst.on hbn
  refine hK _ _ hst2 ?_
  clear hK K hst hbn
  have hst := hst2
  clear hst2
  simp only [Act.put, List.setIfInBounds_toArray, List.set_cons_zero, List.set_cons_succ]
  iterate 1 (refine line_read rfl (by kernel_rfl) (fun K hK => ?_); go_big_quiet_op; refine hK _ ?_; clear hK K)
  refine line_nil ?_
  have hb := btr B5.out hst.out
  clear hst inst v0 v1 v2 t0 t1 t2 q0 q1 q2 d0 d1 d2 R7 X7 HQ5 HX5 A5 B5
  go_wp2_with fail
  go_ret
  exact ⟨rfl, hb⟩

end Go.Proofs.YtefgimpodhjdpaaGreatDoor.fnExactStoreFault
