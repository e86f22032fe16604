/- The function DiskFault answers, at every argument, as its model does, and writes into no argument. The walk: the law's Go text answers true and turns nothing that was there. Conditions: as the theorem states. -/
import Derived.Test.YtefgimpodhjdpaaL9
import Derived.Test.YtefgimpodhjdpaaL9s
import Derived.Test.YtefgimpodhjdpaaC9a
import Derived.Test.YtefgimpodhjdpaaOpen9a
import Derived.WalkKit
import Derived.Below
namespace Go.Proofs.Ytefgimpodhjdpaa.fnExactDiskFault
open Go.RowKit
set_option linter.unusedVariables false

set_option maxHeartbeats 2000000 in
set_option maxRecDepth 100000 in
theorem walk (a0 : Option Addr) (n0 c0 : Nat) (z0 : DiskD) (w : World) (w0 : Grid w w.heap.size a0 n0 c0 z0.rs) (e0 : ∀ zs ∈ z0.rs, ∀ z ∈ zs, (Lit.int .u8 z).wf = true) :
    Calls Try.prog 3 #[.agg #[.slice a0 n0 c0, .int .i64 z0.s]] w fun e w' => e = .returned (.bool true) ∧ Below w.heap.size w w' := by
  have b0 := bal (Below.refl _ w) (.cells #[.slice a0 n0 c0, .int .i64 z0.s] 24)
  have A0 : At w.heap.size [.slice a0 n0 c0, .int .i64 z0.s] (w.alloc (.cells #[.slice a0 n0 c0, .int .i64 z0.s] 24)) := At.new w [.slice a0 n0 c0, .int .i64 z0.s] 24
  have F := szDisk_any a0 n0 c0 w.heap.size z0.rs z0.s 1048576 _ (w0.below b0) b0.size (by omega) (by omega)
  by_cases hbig : szR z0.rs 1048576 < 0
  · have e1 : szR z0.rs 1048576 = -1 := szR_neg hbig
    rw [e1] at F
    clear hbig e1 w0
    have d0 := A0.cell 0 _ rfl
    have d1 := A0.cell 1 _ rfl
    go_enter Try.func3, Try.ntmps3
    go_wp2_with fail
    refine F.mono ?_
    rintro r u1 ⟨rfl, b1⟩
    have hb := btr b0 b1
    go_wp2_with fail
    go_ret
    exact ⟨rfl, hb⟩
  obtain ⟨hs1, hs2⟩ := szR_small (rs := z0.rs) (L := 1048576) (by omega) (by omega)
  have hlen : n0 = z0.rs.length := w0.length.symm
  have TD := Lib.hid (fun (w' : World) (hb : Below w.heap.size w w') => toDisk_any a0 n0 c0 w.heap.size z0.rs z0.s w' (w0.below hb) hb.size (by rw [hlen]; exact hs1) hs2)
  have HE0 := Lib.hid e0
  have SP := Lib.hid (fun (a : Option Addr) (n c : Nat) (w' : World) (h : Grid w' w'.heap.size a n c z0.rs) => (show Calls Try.prog 5 #[.agg #[.slice a n c, .int .i64 z0.s]] w' (fun r w2 => r = .returned (.int .i64 (diskF z0)) ∧ Below w'.heap.size w' w2) from specDiskFault_any a n c w'.heap.size z0.rs z0.s w' h (Nat.le_refl _)))
  have IP := Lib.hid (fun (a : Option Addr) (n c : Nat) (w' : World) (h : Grid w' w'.heap.size a n c z0.rs) => (show Calls Try.prog 7 #[.agg #[.slice a n c, .int .i64 z0.s]] w' (fun r w2 => r = .returned (.int .i64 (diskF z0)) ∧ Below w'.heap.size w' w2) from implDiskFault_any a n c w'.heap.size z0.rs z0.s w' h (Nat.le_refl _)))
  have HE := Lib.hid (fun (a b : Option Addr) (c d : Nat) (w' : World) (h : Grid w' w'.heap.size a n0 c z0.rs) (g : Grid w' w'.heap.size b n0 d z0.rs) => eqDisk_any a b n0 c d w'.heap.size z0.rs z0.s w' h g (Nat.le_refl _))
  clear hs1 hs2 hlen e0 w0
  generalize diskF z0 = C at *
  generalize hL : szR z0.rs 1048576 = L at *
  clear hL
  have HA0 := Lib.hid A0
  have HB0 := Lib.hid b0
  have d0 := A0.cell 0 _ rfl
  have d1 := A0.cell 1 _ rfl
  clear A0 b0
  go_enter Try.func3, Try.ntmps3
  go_wp2_with fail
  generalize w.alloc (.cells #[.slice a0 n0 c0, .int .i64 z0.s] 24) = W0 at *
  refine F.mono ?_
  rintro r u1 ⟨rfl, b1⟩
  have A1 := Lib.hid (HA0.out.on b1)
  have B1 := Lib.hid (btr HB0.out b1)
  clear d0 d1 F b1 HA0 HB0
  have d0 := A1.out.cell 0 _ rfl
  have d1 := A1.out.cell 1 _ rfl
  go_wp2_with fail
  refine (TD.out _ B1.out).mono ?_
  rintro r u2 ⟨a2, x2, rfl, G2, b2⟩
  have R2 := G2.grid HE0.out
  go_wp2_with fail
  refine (SP.out _ _ _ _ R2).mono ?_
  rintro r u3 ⟨rfl, b3⟩
  have A3 := Lib.hid (A1.out.on (btr b2 b3))
  have B3 := Lib.hid (btr B1.out (btr b2 b3))
  clear d0 d1 b2 b3 G2 R2 A1 B1
  have d0 := A3.out.cell 0 _ rfl
  have d1 := A3.out.cell 1 _ rfl
  go_wp2_with fail
  refine (TD.out _ B3.out).mono ?_
  rintro r u4 ⟨a4, x4, rfl, G4, b4⟩
  have Q4 := At.new u4 [.slice a4 n0 n0, .int .i64 z0.s] 27
  have b45 := bal (Below.refl _ u4) (.cells #[.slice a4 n0 n0, .int .i64 z0.s] 27)
  have b35 := btr b4 b45
  have HX4 := Lib.hid (G4.below b45)
  have A4 := Lib.hid (A3.out.on b35)
  have B4 := Lib.hid (btr B3.out b35)
  have HQ4 := Lib.hid (show At u4.heap.size [.slice a4 n0 n0, .int .i64 z0.s] (u4.alloc (.cells #[.slice a4 n0 n0, .int .i64 z0.s] 27)) from Q4)
  have R4 := (G4.below b45).grid HE0.out
  clear d0 d1 b4 b45 b35 G4 Q4 A3 B3
  have q0 := HQ4.out.cell 0 _ rfl
  have q1 := HQ4.out.cell 1 _ rfl
  go_wp2_with fail
  generalize u4.alloc (.cells #[.slice a4 n0 n0, .int .i64 z0.s] 27) = W4 at *
  refine (IP.out _ _ _ _ R4).mono ?_
  rintro r u5 ⟨rfl, b5⟩
  have HQ5 := Lib.hid (HQ4.out.on b5)
  have HX5 := Lib.hid (HX4.out.below b5)
  have A5 := Lib.hid (A4.out.on b5)
  have B5 := Lib.hid (btr B4.out b5)
  clear q0 q1 b5 R4 HQ4 HX4 A4 B4
  have q0 := HQ5.out.cell 0 _ rfl
  have q1 := HQ5.out.cell 1 _ rfl
  have d0 := A5.out.cell 0 _ rfl
  have d1 := A5.out.cell 1 _ rfl
  go_wp2_with fail
  refine wp_region_line (Bel u5) [(0, true), (1, true), (2, false), (3, false), (4, true)] (by kernel_rfl) (by kernel_rfl) (fun _ _ d _ _ h => by cases d <;> exact h) (Bel.drew u5) ?_
  have hst := Bel.drew u5
  have inst : Nonempty (Of (Bel u5)) := ⟨⟨_, hst⟩⟩
  have v0 := bel_cell q0
  have v1 := bel_cell q1
  have t0 := bel_cell d0
  have t1 := bel_cell d1
  generalize u5.drew = V5 at *
  iterate 2 (refine line_read rfl (by kernel_rfl) (fun K hK => ?_); go_big_quiet_op; refine hK _ ?_; clear hK K)
  refine line_alone rfl (by kernel_rfl) (fun K hK => ?_)
  refine call_any (args := #[.agg #[.slice a0 n0 c0, .int .i64 z0.s]]) rfl (by kernel_rfl) (by kernel_rfl) (TD.out _ (btr B5.out hst.out)) ?_
  rintro e x7 ⟨a7, y7, rfl, G7, b7⟩
  have hst2 := hst.on b7
  have R7 := G7.grid HE0.out
  refine ⟨_, rfl, hK _ _ hst2 ?_⟩
  clear hK K hst b7 G7
  have hst := hst2
  clear hst2
  simp only [Act.put, List.setIfInBounds_toArray, List.set_cons_zero, List.set_cons_succ]
  have X7 := (HX5.out.below hst.out).grid HE0.out
  refine line_alone rfl (by kernel_rfl) (fun K hK => ?_)
  refine call_wp (args := #[.agg #[.slice a4 n0 n0, .int .i64 z0.s], .agg #[.slice a7 n0 n0, .int .i64 z0.s]]) rfl (by kernel_rfl) (by kernel_rfl) (HE.out _ _ _ _ _ X7 R7) (fun wn hbn => ?_)
  have hst2 := hst.on hbn
  refine hK _ _ hst2 ?_
  clear hK K hst hbn
  have hst := hst2
  clear hst2
  simp only [Act.put, List.setIfInBounds_toArray, List.set_cons_zero, List.set_cons_succ]
  iterate 1 (refine line_read rfl (by kernel_rfl) (fun K hK => ?_); go_big_quiet_op; refine hK _ ?_; clear hK K)
  refine line_nil ?_
  have hb := btr B5.out hst.out
  clear hst inst v0 v1 t0 t1 q0 q1 d0 d1 R7 X7 HQ5 HX5 A5 B5
  go_wp2_with fail
  go_ret
  exact ⟨rfl, hb⟩

end Go.Proofs.Ytefgimpodhjdpaa.fnExactDiskFault
