/- The function Decide answers, at every argument, as its model does, and writes into no argument. The walk: the law's Go text answers true and turns nothing that was there. Conditions: as the theorem states. -/
import Derived.Test.YtcolecidbalmhaaGreatDoorS3
import Derived.Test.YtcolecidbalmhaaGreatDoorS5
import Derived.Test.YtcolecidbalmhaaGreatDoorS7
import Derived.WalkKit
import Derived.Below
namespace Go.Proofs.YtcolecidbalmhaaGreatDoor.fnExactDecide
open Go.RowKit
set_option linter.unusedVariables false

set_option maxHeartbeats 4000000 in
set_option maxRecDepth 100000 in
theorem walk (a0p : Option Addr) (n0p c0p : Nat) (a0k : Option Addr) (n0k c0k : Nat) (z0 : AskD) (w : World) (w0 : ARow w w.heap.size a0p n0p c0p a0k n0k c0k z0) (lab : Labels w) :
    Calls Tryz.prog 9 #[A6 a0p n0p c0p a0k n0k c0k z0] w fun e w' => e = .returned (.bool true) ∧ Below w.heap.size w w' := by
  generalize z0 = q at *
  have b0 := bal (Below.refl _ w) (.cells #[.bool q.first, .slice a0p n0p c0p, .slice a0k n0k c0k, .string q.n, .int .i64 q.p, .int .i64 q.t] 99)
  have A0 : At w.heap.size [.bool q.first, .slice a0p n0p c0p, .slice a0k n0k c0k, .string q.n, .int .i64 q.p, .int .i64 q.t] (w.alloc (.cells #[.bool q.first, .slice a0p n0p c0p, .slice a0k n0k c0k, .string q.n, .int .i64 q.p, .int .i64 q.t] 99)) := At.new w [.bool q.first, .slice a0p n0p c0p, .slice a0k n0k c0k, .string q.n, .int .i64 q.p, .int .i64 q.t] 99
  have F := szAsk_any a0p n0p c0p a0k n0k c0k w.heap.size q 1048576 _ (w0.below b0) b0.size (by omega) (by omega)
  by_cases hbig : szA q 1048576 < 0
  · rw [szA_neg hbig] at F
    clear hbig w0
    have d0 := A0.cell 0 _ rfl
    have d1 := A0.cell 1 _ rfl
    have d2 := A0.cell 2 _ rfl
    have d3 := A0.cell 3 _ rfl
    have d4 := A0.cell 4 _ rfl
    have d5 := A0.cell 5 _ rfl
    go_enter Tryz.func9, Tryz.ntmps9
    go_wp2_with fail
    refine F.mono ?_
    rintro r u1 ⟨rfl, b1⟩
    have hb := btr b0 b1
    go_wp2_with fail
    go_ret
    exact ⟨rfl, hb⟩
  have hs := szA_small (q := q) (l := 1048576) (by omega) (by omega)
  have TD := Lib.hid (fun (w' : World) (hb : Below w.heap.size w w') => (show Calls Tryz.prog 61 #[.agg #[.bool q.first, .slice a0p n0p c0p, .slice a0k n0k c0k, .string q.n, .int .i64 q.p, .int .i64 q.t]] w' (AskCopied q w') from toAsk_any a0p n0p c0p a0k n0k c0k w.heap.size q w' (w0.below hb) hb.size hs))
  have SP := Lib.hid (fun (a1 : Option Addr) (a2 : Option Addr) (w' : World) (h : ARow w' w'.heap.size a1 q.ps.length q.ps.length a2 q.ts.length q.ts.length q) => (show Calls Tryz.prog 46 #[.agg #[.bool q.first, .slice a1 q.ps.length q.ps.length, .slice a2 q.ts.length q.ts.length, .string q.n, .int .i64 q.p, .int .i64 q.t]] w' (fun r w2 => r = .returned (.agg #[.int .i64 (askF q), .bool (decA q), .int .i64 (decR q)]) ∧ Below w'.heap.size w' w2) from specDecide_any a1 q.ps.length q.ps.length a2 q.ts.length q.ts.length w'.heap.size q w' h (Nat.le_refl _)))
  have IP := Lib.hid (fun (a1 : Option Addr) (a2 : Option Addr) (w' : World) (hb : Below w.heap.size w w') (h : ARow w' w'.heap.size a1 q.ps.length q.ps.length a2 q.ts.length q.ts.length q) => (show Calls Tryz.prog 37 #[.agg #[.bool q.first, .slice a1 q.ps.length q.ps.length, .slice a2 q.ts.length q.ts.length, .string q.n, .int .i64 q.p, .int .i64 q.t]] w' (fun r w2 => r = .returned (.agg #[.int .i64 (askF q), .bool (decA q), .int .i64 (decR q)]) ∧ Below w'.heap.size w' w2) from implDecide_any a1 q.ps.length q.ps.length a2 q.ts.length q.ts.length w'.heap.size q w' (lab.on hb) h (Nat.le_refl _)))
  have HE := Lib.hid (fun (a1 b1 a2 b2 : Option Addr) (w' : World) (h : ARow w' w'.heap.size a1 q.ps.length q.ps.length a2 q.ts.length q.ts.length q) (g : ARow w' w'.heap.size b1 q.ps.length q.ps.length b2 q.ts.length q.ts.length q) => (show Calls Tryz.prog 63 #[.agg #[.bool q.first, .slice a1 q.ps.length q.ps.length, .slice a2 q.ts.length q.ts.length, .string q.n, .int .i64 q.p, .int .i64 q.t], .agg #[.bool q.first, .slice b1 q.ps.length q.ps.length, .slice b2 q.ts.length q.ts.length, .string q.n, .int .i64 q.p, .int .i64 q.t]] w' (fun r w2 => r = .returned (.bool true) ∧ Below w'.heap.size w' w2) from eqAsk_any a1 b1 q.ps.length q.ps.length q.ps.length a2 b2 q.ts.length q.ts.length q.ts.length w'.heap.size q w' h g (Nat.le_refl _)))
  unfold AskCopied at TD
  clear hs w0
  generalize askF q = C at *
  generalize decA q = CA at *
  generalize decR q = CR at *
  generalize hL : szA q 1048576 = L at *
  clear hL
  have HA0 := Lib.hid A0
  have HB0 := Lib.hid b0
  have d0 := A0.cell 0 _ rfl
  have d1 := A0.cell 1 _ rfl
  have d2 := A0.cell 2 _ rfl
  have d3 := A0.cell 3 _ rfl
  have d4 := A0.cell 4 _ rfl
  have d5 := A0.cell 5 _ rfl
  clear A0 b0
  go_enter Tryz.func9, Tryz.ntmps9
  go_wp2_with fail
  generalize w.alloc (.cells #[.bool q.first, .slice a0p n0p c0p, .slice a0k n0k c0k, .string q.n, .int .i64 q.p, .int .i64 q.t] 99) = W0 at *
  refine F.mono ?_
  rintro r u1 ⟨rfl, b1⟩
  have A1 := Lib.hid (HA0.out.on b1)
  have B1 := Lib.hid (btr HB0.out b1)
  clear d0 d1 d2 d3 d4 d5 F b1 HA0 HB0
  have d0 := A1.out.cell 0 _ rfl
  have d1 := A1.out.cell 1 _ rfl
  have d2 := A1.out.cell 2 _ rfl
  have d3 := A1.out.cell 3 _ rfl
  have d4 := A1.out.cell 4 _ rfl
  have d5 := A1.out.cell 5 _ rfl
  go_wp2_with fail
  refine (TD.out _ B1.out).mono ?_
  rintro r u2 ⟨a2, x2, rfl, R2, b2⟩
  go_wp2_with fail
  refine (SP.out _ _ _ R2).mono ?_
  rintro r v3 ⟨rfl, b3⟩
  have b3' := bal (btr b2 b3) (.cells #[.int .i64 C, .bool CA, .int .i64 CR] 63)
  have A3 := Lib.hid (A1.out.on b3')
  have B3 := Lib.hid (btr B1.out b3')
  have HW := Lib.hid (show At v3.heap.size [.int .i64 C, .bool CA, .int .i64 CR] (v3.alloc (.cells #[.int .i64 C, .bool CA, .int .i64 CR] 63)) from At.new v3 [.int .i64 C, .bool CA, .int .i64 CR] 63)
  have lv3 : w.heap.size < v3.heap.size := Nat.lt_of_lt_of_le (A1.out.lt (by simp)) (btr b2 b3).size
  have A3' := A1.out.on (btr b2 b3)
  clear d0 d1 d2 d3 d4 d5
  have d0 := A3'.cell 0 _ rfl
  have d1 := A3'.cell 1 _ rfl
  have d2 := A3'.cell 2 _ rfl
  have d3 := A3'.cell 3 _ rfl
  have d4 := A3'.cell 4 _ rfl
  have d5 := A3'.cell 5 _ rfl
  clear b2 b3 b3' R2 A1 B1 A3'
  go_wp2_with fail
  generalize v3.alloc (.cells #[.int .i64 C, .bool CA, .int .i64 CR] 63) = u3 at *
  generalize v3.heap.size = gv at *
  clear d0 d1 d2 d3 d4 d5
  have d0 := A3.out.cell 0 _ rfl
  have d1 := A3.out.cell 1 _ rfl
  have d2 := A3.out.cell 2 _ rfl
  have d3 := A3.out.cell 3 _ rfl
  have d4 := A3.out.cell 4 _ rfl
  have d5 := A3.out.cell 5 _ rfl
  refine (TD.out _ B3.out).mono ?_
  rintro r u4 ⟨a4, x4, rfl, R4, b4⟩
  have Q4 : At u4.heap.size [.bool q.first, .slice a4 q.ps.length q.ps.length, .slice x4 q.ts.length q.ts.length, .string q.n, .int .i64 q.p, .int .i64 q.t] (u4.alloc (.cells #[.bool q.first, .slice a4 q.ps.length q.ps.length, .slice x4 q.ts.length q.ts.length, .string q.n, .int .i64 q.p, .int .i64 q.t] 60)) := At.new u4 [.bool q.first, .slice a4 q.ps.length q.ps.length, .slice x4 q.ts.length q.ts.length, .string q.n, .int .i64 q.p, .int .i64 q.t] 60
  have b45 := bal (Below.refl _ u4) (.cells #[.bool q.first, .slice a4 q.ps.length q.ps.length, .slice x4 q.ts.length q.ts.length, .string q.n, .int .i64 q.p, .int .i64 q.t] 60)
  have b35 := btr b4 b45
  have A4 := Lib.hid (A3.out.on b35)
  have B4 := Lib.hid (btr B3.out b35)
  have HW4 := Lib.hid (HW.out.on b35)
  have HQ4 := Lib.hid Q4
  have R5 := R4.on b45
  clear d0 d1 d2 d3 d4 d5 b4 b45 b35 R4 Q4 A3 B3 HW
  have q0 := HQ4.out.cell 0 _ rfl
  have q1 := HQ4.out.cell 1 _ rfl
  have q2 := HQ4.out.cell 2 _ rfl
  have q3 := HQ4.out.cell 3 _ rfl
  have q4 := HQ4.out.cell 4 _ rfl
  have q5 := HQ4.out.cell 5 _ rfl
  go_wp2_with fail
  generalize u4.alloc (.cells #[.bool q.first, .slice a4 q.ps.length q.ps.length, .slice x4 q.ts.length q.ts.length, .string q.n, .int .i64 q.p, .int .i64 q.t] 60) = W4 at *
  refine (IP.out _ _ _ B4.out R5).mono ?_
  rintro r v5 ⟨rfl, b5⟩
  have b5' := bal b5 (.cells #[.int .i64 C, .bool CA, .int .i64 CR] 63)
  have HQ5 := Lib.hid (HQ4.out.on b5')
  have HX5 := Lib.hid (R5.on b5')
  have A5 := Lib.hid (A4.out.on b5')
  have B5 := Lib.hid (btr B4.out b5')
  have HV5 := Lib.hid (HW4.out.on b5)
  have lv5 : gv < v5.heap.size := HV5.out.lt (by simp)
  clear q0 q1 q2 q3 q4 q5 R5 HQ4 A4 B4 HW4 b5 b5'
  have k0 := HV5.out.cell 0 _ rfl
  have k1 := HV5.out.cell 1 _ rfl
  have k2 := HV5.out.cell 2 _ rfl
  go_wp2_with fail
  generalize v5.alloc (.cells #[.int .i64 C, .bool CA, .int .i64 CR] 63) = u5' at *
  refine (eqVerdict_any C CA CR _).mono ?_
  rintro r u5 ⟨rfl, b6⟩
  have HQ6 := Lib.hid (HQ5.out.on b6)
  have HX6 := Lib.hid (HX5.out.on b6)
  have A6 := Lib.hid (A5.out.on b6)
  have B6 := Lib.hid (btr B5.out b6)
  clear k0 k1 k2 HV5 HQ5 HX5 A5 B5 b6
  have HQ5 := HQ6
  have HX5 := HX6
  have A5 := A6
  have B5 := B6
  clear HQ6 HX6 A6 B6
  have q0 := HQ5.out.cell 0 _ rfl
  have q1 := HQ5.out.cell 1 _ rfl
  have q2 := HQ5.out.cell 2 _ rfl
  have q3 := HQ5.out.cell 3 _ rfl
  have q4 := HQ5.out.cell 4 _ rfl
  have q5 := HQ5.out.cell 5 _ rfl
  have d0 := A5.out.cell 0 _ rfl
  have d1 := A5.out.cell 1 _ rfl
  have d2 := A5.out.cell 2 _ rfl
  have d3 := A5.out.cell 3 _ rfl
  have d4 := A5.out.cell 4 _ rfl
  have d5 := A5.out.cell 5 _ rfl
  go_wp2_with fail
  refine wp_region_line (Bel u5) [(0, true), (1, true), (2, false), (3, false), (4, true)] (by kernel_rfl) (by kernel_rfl) (fun _ _ d _ _ h => by cases d <;> exact h) (Bel.drew u5) ?_
  have hst := Bel.drew u5
  have inst : Nonempty (Of (Bel u5)) := ⟨⟨_, hst⟩⟩
  have v0 := bel_cell q0
  have t0 := bel_cell d0
  have v1 := bel_cell q1
  have t1 := bel_cell d1
  have v2 := bel_cell q2
  have t2 := bel_cell d2
  have v3 := bel_cell q3
  have t3 := bel_cell d3
  have v4 := bel_cell q4
  have t4 := bel_cell d4
  have v5 := bel_cell q5
  have t5 := bel_cell d5
  have HV := Lib.hid (HX5.out.on (bdrew u5))
  have BV := Lib.hid (btr B5.out (bdrew u5))
  generalize u5.drew = V5 at *
  iterate 2 (refine line_read rfl (by kernel_rfl) (fun K hK => ?_); go_big_quiet_op; refine hK _ ?_; clear hK K)
  refine line_alone rfl (by kernel_rfl) (fun K hK => ?_)
  refine call_any (args := #[.agg #[.bool q.first, .slice a0p n0p c0p, .slice a0k n0k c0k, .string q.n, .int .i64 q.p, .int .i64 q.t]]) rfl (by kernel_rfl) (by kernel_rfl) (TD.out _ (btr B5.out hst.out)) ?_
  rintro e x7 ⟨a7, y7, rfl, R7, b7⟩
  have hst2 := hst.on b7
  refine ⟨_, rfl, hK _ _ hst2 ?_⟩
  clear hK K hst
  have hst := hst2
  clear hst2
  simp only [Act.put, List.setIfInBounds_toArray, List.set_cons_zero, List.set_cons_succ]
  refine line_alone rfl (by kernel_rfl) (fun K hK => ?_)
  refine call_wp (args := #[.agg #[.bool q.first, .slice a4 q.ps.length q.ps.length, .slice x4 q.ts.length q.ts.length, .string q.n, .int .i64 q.p, .int .i64 q.t], .agg #[.bool q.first, .slice a7 q.ps.length q.ps.length, .slice y7 q.ts.length q.ts.length, .string q.n, .int .i64 q.p, .int .i64 q.t]]) rfl (by kernel_rfl) (by kernel_rfl) (HE.out _ _ _ _ _ (HV.out.on b7) R7) (fun wn hbn => ?_)
  have hst2 := hst.on hbn
  refine hK _ _ hst2 ?_
  clear hK K hst hbn
  have hst := hst2
  clear hst2
  simp only [Act.put, List.setIfInBounds_toArray, List.set_cons_zero, List.set_cons_succ]
  iterate 1 (refine line_read rfl (by kernel_rfl) (fun K hK => ?_); go_big_quiet_op; refine hK _ ?_; clear hK K)
  refine line_nil ?_
  have bb := btr B5.out hst.out
  clear hst inst HV BV b7 R7
  go_wp2_with fail
  go_ret
  exact ⟨rfl, bb⟩

end Go.Proofs.YtcolecidbalmhaaGreatDoor.fnExactDecide
