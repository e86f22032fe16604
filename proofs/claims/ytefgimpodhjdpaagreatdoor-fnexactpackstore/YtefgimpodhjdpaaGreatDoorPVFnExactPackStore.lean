/- The function PackStore answers, at every argument, as its model does, writes into no argument, and its answer owns its memory. The walk: the law's Go text answers true and turns nothing that was there. Conditions: as the theorem states. -/
import Derived.Test.YtefgimpodhjdpaaGreatDoorS11
import Derived.Test.YtefgimpodhjdpaaGreatDoorS12
import Derived.Test.YtefgimpodhjdpaaGreatDoorS13
import Derived.WalkKit
import Derived.Below
namespace Go.Proofs.YtefgimpodhjdpaaGreatDoor.fnExactPackStore
open Go.RowKit
set_option linter.unusedVariables false

set_option maxHeartbeats 4000000 in
set_option maxRecDepth 100000 in
theorem walk (a0p : Option Addr) (n0p c0p : Nat) (a0r : Option Addr) (n0r c0r : Nat) (z0 : StoreD) (w : World) (w0 : SRow w w.heap.size a0p n0p c0p a0r n0r c0r z0) :
    Calls Tryz.prog 13 #[.agg #[.slice a0p n0p c0p, .slice a0r n0r c0r, .int .i64 z0.d.s]] w fun e w' => e = .returned (.bool true) ∧ Below w.heap.size w w' := by
  have b0 := bal (Below.refl _ w) (.cells #[.slice a0p n0p c0p, .slice a0r n0r c0r, .int .i64 z0.d.s] 69)
  have A0 : At w.heap.size [.slice a0p n0p c0p, .slice a0r n0r c0r, .int .i64 z0.d.s] (w.alloc (.cells #[.slice a0p n0p c0p, .slice a0r n0r c0r, .int .i64 z0.d.s] 69)) := At.new w [.slice a0p n0p c0p, .slice a0r n0r c0r, .int .i64 z0.d.s] 69
  have F := szStore_any a0p n0p c0p a0r n0r c0r w.heap.size z0.d.s 1048576 z0 _ (w0.below b0) b0.size (by omega) (by omega)
  by_cases hbig : szSt z0 1048576 < 0
  · have e1 : szSt z0 1048576 = -1 := szSt_neg hbig
    rw [e1] at F
    clear hbig e1 w0
    have d0 := A0.cell 0 _ rfl
    have d1 := A0.cell 1 _ rfl
    have d2 := A0.cell 2 _ rfl
    go_enter Tryz.func13, Tryz.ntmps13
    go_wp2_with fail
    refine F.mono ?_
    rintro r u1 ⟨rfl, b1⟩
    have hb := btr b0 b1
    go_wp2_with fail
    go_ret
    exact ⟨rfl, hb⟩
  obtain ⟨hs1, -, hs2⟩ := szSt_small (s := z0) (L := 1048576) (by omega) (by omega)
  have TD := Lib.hid (fun (w' : World) (hb : Below w.heap.size w w') => toStore_any a0p n0p c0p a0r n0r c0r w.heap.size z0 w' (w0.below hb) hb.size hs1 hs2)
  have HSM : Hid (SmallS (packSt z0)) := Lib.hid (by by_cases h : storeF z0 = 0; exact small_of (pack_ok h).f; rw [packS_no h]; exact small0)
  have SP := Lib.hid (fun (a1 : Option Addr) (c1 : Nat) (a2 : Option Addr) (c2 : Nat) (w' : World) (h : SRow w' w'.heap.size a1 z0.ps.length c1 a2 z0.d.rs.length c2 z0) => (show Calls Tryz.prog 39 #[.agg #[.slice a1 z0.ps.length c1, .slice a2 z0.d.rs.length c2, .int .i64 z0.d.s]] w' (StoreRes (storeF z0) (packSt z0) w') from specPackStore_any a1 z0.ps.length c1 a2 z0.d.rs.length c2 w'.heap.size z0 w' h (Nat.le_refl _)))
  have IP := Lib.hid (fun (a1 : Option Addr) (c1 : Nat) (a2 : Option Addr) (c2 : Nat) (w' : World) (h : SRow w' w'.heap.size a1 z0.ps.length c1 a2 z0.d.rs.length c2 z0) => (show Calls Tryz.prog 35 #[.agg #[.slice a1 z0.ps.length c1, .slice a2 z0.d.rs.length c2, .int .i64 z0.d.s]] w' (StoreRes (storeF z0) (packSt z0) w') from implPackStore_any a1 z0.ps.length c1 a2 z0.d.rs.length c2 w'.heap.size z0 w' h (Nat.le_refl _)))
  have HE := Lib.hid (fun (a1 b1 : Option Addr) (c1 d1 : Nat) (a2 b2 : Option Addr) (c2 d2 : Nat) (w' : World) (h : SRow w' w'.heap.size a1 z0.ps.length c1 a2 z0.d.rs.length c2 z0) (g : SRow w' w'.heap.size b1 z0.ps.length d1 b2 z0.d.rs.length d2 z0) => eqStore_any a1 b1 z0.ps.length c1 d1 a2 b2 z0.d.rs.length c2 d2 w'.heap.size z0 w' h g (Nat.le_refl _))
  have ma := fun (a1 : Option Addr) (a2 : Option Addr) (lo hi : Nat) (w' : World) (h : SOwn w' lo hi (.slice a1 z0.ps.length z0.ps.length) (.slice a2 z0.d.rs.length z0.d.rs.length) z0) => markStore_any a1 z0.ps.length z0.ps.length a2 z0.d.rs.length z0.d.rs.length lo hi z0.d.s z0 w' h hs1
  have hkn : ¬ markN 1 z0 < 0 := by unfold markN; omega
  generalize markN 1 z0 = kq at ma hkn
  have MA := Lib.hid ma
  unfold StoreRes at SP IP
  clear ma hs1 hs2 w0
  generalize storeF z0 = C at *
  generalize packSt z0 = S at *
  generalize hL : szSt z0 1048576 = L at *
  clear hL
  have hA0 : w.heap.size < w.heap.size + 1 := by omega
  have HA0 := Lib.hid A0
  have HB0 := Lib.hid b0
  have d0 := A0.cell 0 _ rfl
  have d1 := A0.cell 1 _ rfl
  have d2 := A0.cell 2 _ rfl
  clear A0 b0
  go_enter Tryz.func13, Tryz.ntmps13
  go_wp2_with fail
  generalize w.alloc (.cells #[.slice a0p n0p c0p, .slice a0r n0r c0r, .int .i64 z0.d.s] 69) = W0 at *
  refine F.mono ?_
  rintro r u1 ⟨rfl, b1⟩
  have A1 := Lib.hid (HA0.out.on b1)
  have B1 := Lib.hid (btr HB0.out b1)
  clear d0 d1 d2 F b1 HA0 HB0
  have d0 := A1.out.cell 0 _ rfl
  have d1 := A1.out.cell 1 _ rfl
  have d2 := A1.out.cell 2 _ rfl
  go_wp2_with fail
  refine (TD.out _ B1.out).mono ?_
  rintro r u2 ⟨a2, x2, rfl, G2, b2⟩
  have R2 := G2.row
  go_wp2_with fail
  refine (SP.out _ _ _ _ _ R2).mono ?_
  rintro r u3 ⟨y1, m1, e1, y2, m2, e2, rfl, SO3, b3⟩
  obtain ⟨rfl, rfl⟩ := SO3.len
  have P3 : At u3.heap.size (V4L C y1 S.ps.length e1 y2 S.d.rs.length e2 S.d.s) (u3.alloc (.cells #[.int .i64 C, .slice y1 S.ps.length e1, .slice y2 S.d.rs.length e2, .int .i64 S.d.s] 35)) := At.new u3 (V4L C y1 S.ps.length e1 y2 S.d.rs.length e2 S.d.s) 35
  have b34 := bal (Below.refl _ u3) (.cells #[.int .i64 C, .slice y1 S.ps.length e1, .slice y2 S.d.rs.length e2, .int .i64 S.d.s] 35)
  have hz3 : u3.heap.size < (u3.alloc (.cells #[.int .i64 C, .slice y1 S.ps.length e1, .slice y2 S.d.rs.length e2, .int .i64 S.d.s] 35)).heap.size := by simp
  have b14 := btr b2 (btr b3 b34)
  have HSO3 := Lib.hid (SO3.below b34)
  have A3 := Lib.hid (A1.out.on b14)
  have B3 := Lib.hid (btr B1.out b14)
  have hl0 : w.heap.size ≤ u2.heap.size := Nat.le_trans B1.out.size b2.size
  have HP3 := Lib.hid P3
  clear d0 d1 d2 b2 b3 b34 b14 G2 R2 SO3 P3 A1 B1
  have d0 := A3.out.cell 0 _ rfl
  have d1 := A3.out.cell 1 _ rfl
  have d2 := A3.out.cell 2 _ rfl
  go_wp2_with fail
  generalize u3.alloc (.cells #[.int .i64 C, .slice y1 S.ps.length e1, .slice y2 S.d.rs.length e2, .int .i64 S.d.s] 35) = W3 at *
  refine (TD.out _ B3.out).mono ?_
  rintro r u4 ⟨a4, x4, rfl, G4, b4⟩
  have Q4 := At.new u4 [.slice a4 z0.ps.length z0.ps.length, .slice x4 z0.d.rs.length z0.d.rs.length, .int .i64 z0.d.s] 29
  have b45 := bal (Below.refl _ u4) (.cells #[.slice a4 z0.ps.length z0.ps.length, .slice x4 z0.d.rs.length z0.d.rs.length, .int .i64 z0.d.s] 29)
  have hz4 : u4.heap.size < (u4.alloc (.cells #[.slice a4 z0.ps.length z0.ps.length, .slice x4 z0.d.rs.length z0.d.rs.length, .int .i64 z0.d.s] 29)).heap.size := by simp
  have b35 := btr b4 b45
  have hl1 : W3.heap.size ≤ u4.heap.size := b4.size
  have HX4 := Lib.hid (G4.below b45)
  have HSO4 := Lib.hid (HSO3.out.below b35)
  have HP4 := Lib.hid (HP3.out.on b35)
  have A4 := Lib.hid (A3.out.on b35)
  have B4 := Lib.hid (btr B3.out b35)
  have HQ4 := Lib.hid (show At u4.heap.size [.slice a4 z0.ps.length z0.ps.length, .slice x4 z0.d.rs.length z0.d.rs.length, .int .i64 z0.d.s] (u4.alloc (.cells #[.slice a4 z0.ps.length z0.ps.length, .slice x4 z0.d.rs.length z0.d.rs.length, .int .i64 z0.d.s] 29)) from Q4)
  have R4 := (G4.below b45).row
  clear d0 d1 d2 b4 b45 b35 G4 Q4 A3 B3 HSO3 HP3
  have q0 := HQ4.out.cell 0 _ rfl
  have q1 := HQ4.out.cell 1 _ rfl
  have q2 := HQ4.out.cell 2 _ rfl
  go_wp2_with fail
  generalize u4.alloc (.cells #[.slice a4 z0.ps.length z0.ps.length, .slice x4 z0.d.rs.length z0.d.rs.length, .int .i64 z0.d.s] 29) = W4 at *
  refine (IP.out _ _ _ _ _ R4).mono ?_
  rintro r u5 ⟨o1, m1, f1, o2, m2, f2, rfl, SO5, b5⟩
  obtain ⟨rfl, rfl⟩ := SO5.len
  have P5' : At u5.heap.size (V4L C o1 S.ps.length f1 o2 S.d.rs.length f2 S.d.s) (u5.alloc (.cells #[.int .i64 C, .slice o1 S.ps.length f1, .slice o2 S.d.rs.length f2, .int .i64 S.d.s] 35)) := At.new u5 (V4L C o1 S.ps.length f1 o2 S.d.rs.length f2 S.d.s) 35
  have b56 := bal (Below.refl _ u5) (.cells #[.int .i64 C, .slice o1 S.ps.length f1, .slice o2 S.d.rs.length f2, .int .i64 S.d.s] 35)
  have b46 := btr b5 b56
  have T5 := TriS.mk (w := w) (l1 := W3.heap.size) (h1 := u4.heap.size) (btr B4.out b46) (HP4.out.on b46) P5' (HSO4.out.below b46) (SO5.below b56) hl0 (Nat.le_of_lt hz3) hz3 hl1 (Nat.le_of_lt hz4) (Nat.le_refl _)
  have HT5 := Lib.hid T5
  have HQ5 := Lib.hid (HQ4.out.on b46)
  have HX5 := Lib.hid (HX4.out.below b46)
  have A5 := Lib.hid (A4.out.on b46)
  clear q0 q1 q2 b5 b56 b46 T5 P5' SO5 R4 HQ4 HX4 A4 B4 HSO4 HP4
  have yc0 := HT5.out.P0.cell 0 _ rfl
  have yc1 := HT5.out.P0.cell 1 _ rfl
  have yc2 := HT5.out.P0.cell 2 _ rfl
  have yc3 := HT5.out.P0.cell 3 _ rfl
  have zc0 := HT5.out.P2.cell 0 _ rfl
  have zc1 := HT5.out.P2.cell 1 _ rfl
  have zc2 := HT5.out.P2.cell 2 _ rfl
  have zc3 := HT5.out.P2.cell 3 _ rfl
  go_wp2_with fail
  generalize u5.alloc (.cells #[.int .i64 C, .slice o1 S.ps.length f1, .slice o2 S.d.rs.length f2, .int .i64 S.d.s] 35) = W5 at *
  refine (eqStoreRes_any C o1 y1 _ _ _ o2 y2 _ _ _ W5.heap.size S _ HT5.out.G.row HT5.out.R.row (Nat.le_refl _)).mono ?_
  rintro r u6 ⟨rfl, b6⟩
  have HT6 := Lib.hid (HT5.out.on b6)
  have HQ6 := Lib.hid (HQ5.out.on b6)
  have HX6 := Lib.hid (HX5.out.below b6)
  have A6 := Lib.hid (A5.out.on b6)
  clear yc0 yc1 yc2 yc3 zc0 zc1 zc2 zc3 b6 HT5 HQ5 HX5 A5
  have q0 := HQ6.out.cell 0 _ rfl
  have q1 := HQ6.out.cell 1 _ rfl
  have q2 := HQ6.out.cell 2 _ rfl
  have d0 := A6.out.cell 0 _ rfl
  have d1 := A6.out.cell 1 _ rfl
  have d2 := A6.out.cell 2 _ rfl
  go_wp2_with fail
  refine wp_region_line (Bel u6) [(0, true), (1, true), (2, false), (3, false), (4, true)] (by kernel_rfl) (by kernel_rfl) (fun _ _ d _ _ h => by cases d <;> exact h) (Bel.drew u6) ?_
  have hst := Bel.drew u6
  have inst : Nonempty (Of (Bel u6)) := ⟨⟨_, hst⟩⟩
  have v0 := bel_cell q0
  have v1 := bel_cell q1
  have v2 := bel_cell q2
  have t0 := bel_cell d0
  have t1 := bel_cell d1
  have t2 := bel_cell d2
  generalize u6.drew = V6 at *
  iterate 2 (refine line_read rfl (by kernel_rfl) (fun K hK => ?_); go_big_quiet_op; refine hK _ ?_; clear hK K)
  refine line_alone rfl (by kernel_rfl) (fun K hK => ?_)
  refine call_any (args := #[.agg #[.slice a0p n0p c0p, .slice a0r n0r c0r, .int .i64 z0.d.s]]) rfl (by kernel_rfl) (by kernel_rfl) (TD.out _ (btr HT6.out.bel hst.out)) ?_
  rintro e x7 ⟨a7, y7, rfl, G7, b7⟩
  have hst2 := hst.on b7
  have R7 := G7.row
  refine ⟨_, rfl, hK _ _ hst2 ?_⟩
  clear hK K hst b7 G7
  have hst := hst2
  clear hst2
  simp only [Act.put, List.setIfInBounds_toArray, List.set_cons_zero, List.set_cons_succ]
  have X7 := (HX6.out.below hst.out).row
  refine line_alone rfl (by kernel_rfl) (fun K hK => ?_)
  refine call_wp (args := #[.agg #[.slice a4 z0.ps.length z0.ps.length, .slice x4 z0.d.rs.length z0.d.rs.length, .int .i64 z0.d.s], .agg #[.slice a7 z0.ps.length z0.ps.length, .slice y7 z0.d.rs.length z0.d.rs.length, .int .i64 z0.d.s]]) rfl (by kernel_rfl) (by kernel_rfl) (HE.out _ _ _ _ _ _ _ _ _ X7 R7) (fun wn hbn => ?_)
  have hst2 := hst.on hbn
  refine hK _ _ hst2 ?_
  clear hK K hst hbn
  have hst := hst2
  clear hst2
  simp only [Act.put, List.setIfInBounds_toArray, List.set_cons_zero, List.set_cons_succ]
  iterate 1 (refine line_read rfl (by kernel_rfl) (fun K hK => ?_); go_big_quiet_op; refine hK _ ?_; clear hK K)
  refine line_nil ?_
  have HT7 := Lib.hid (HT6.out.on hst.out)
  have HQ7 := Lib.hid (HQ6.out.on hst.out)
  have HX7 := Lib.hid (HX6.out.below hst.out)
  have A7 := Lib.hid (A6.out.on hst.out)
  clear hst inst v0 v1 v2 t0 t1 t2 q0 q1 q2 d0 d1 d2 R7 X7 HT6 HQ6 HX6 A6
  have q0 := HQ7.out.cell 0 _ rfl
  have q1 := HQ7.out.cell 1 _ rfl
  have q2 := HQ7.out.cell 2 _ rfl
  go_wp2_with fail
  refine (MA.out _ _ _ _ _ HX7.out).mono ?_
  rintro r u8 ⟨rfl, X8, I8⟩
  have HT8 := Lib.hid (HT7.out.arg I8)
  have A8 := Lib.hid (A7.out.inn I8 (.inl (by have := HT7.out.o0; have := HT7.out.o1; have := HT7.out.R.top.1; have := A7.out.lt (by simp); have := HT7.out.bel.size; exact Nat.lt_of_lt_of_le hA0 (by omega))))
  clear q0 q1 q2 X8 I8 HT7 HQ7 HX7 A7 MA
  have yc0 := HT8.out.P0.cell 0 _ rfl
  have yc1 := HT8.out.P0.cell 1 _ rfl
  have yc2 := HT8.out.P0.cell 2 _ rfl
  have yc3 := HT8.out.P0.cell 3 _ rfl
  have zc0 := HT8.out.P2.cell 0 _ rfl
  have zc1 := HT8.out.P2.cell 1 _ rfl
  have zc2 := HT8.out.P2.cell 2 _ rfl
  have zc3 := HT8.out.P2.cell 3 _ rfl
  go_wp2_with fail
  refine (eqStoreRes_any C o1 y1 _ _ _ o2 y2 _ _ _ u8.heap.size S _ HT8.out.G.row HT8.out.R.row (Nat.le_refl _)).mono ?_
  rintro r u9 ⟨rfl, b9⟩
  have HT9 := Lib.hid (HT8.out.on b9)
  have A9 := Lib.hid (A8.out.on b9)
  clear yc0 yc1 yc2 yc3 zc0 zc1 zc2 zc3 b9 HT8 A8
  have zc0 := HT9.out.P2.cell 0 _ rfl
  have zc1 := HT9.out.P2.cell 1 _ rfl
  have zc2 := HT9.out.P2.cell 2 _ rfl
  have zc3 := HT9.out.P2.cell 3 _ rfl
  go_wp2_with fail
  refine (markStoreRes_any C o1 _ _ o2 _ _ _ _ S.d.s S _ HT9.out.G HSM.out).mono ?_
  rintro r u10 ⟨rfl, G10, I10⟩
  have HT10 := Lib.hid (HT9.out.ans I10 G10)
  have A10 := Lib.hid (A9.out.inn I10 (.inl (Nat.lt_of_lt_of_le hA0 (by have := HT9.out.o0; have := HT9.out.o1; have := HT9.out.o3; have := HT9.out.o4; have := HT9.out.R.top.1; omega))))
  clear zc0 zc1 zc2 zc3 G10 I10 HT9 A9
  have zc0 := HT10.out.P2.cell 0 _ rfl
  have zc1 := HT10.out.P2.cell 1 _ rfl
  have zc2 := HT10.out.P2.cell 2 _ rfl
  have zc3 := HT10.out.P2.cell 3 _ rfl
  go_wp2_with fail
  refine (heldStoreRes_any C o1 _ _ o2 _ _ u10.heap.size S.d.s S _ HT10.out.G.row (Nat.le_refl _) HSM.out).mono ?_
  rintro r u11 ⟨rfl, b11⟩
  have HT11 := Lib.hid (HT10.out.on b11)
  have A11 := Lib.hid (A10.out.on b11)
  have hmn : ¬ markN 1 S < 0 := by unfold markN; omega
  clear zc0 zc1 zc2 zc3 b11 HT10 A10
  generalize hmq : markN 1 S = mn at *
  have d0 := A11.out.cell 0 _ rfl
  have d1 := A11.out.cell 1 _ rfl
  have d2 := A11.out.cell 2 _ rfl
  go_wp2_with fail
  refine (TD.out _ HT11.out.bel).mono ?_
  rintro r u12 ⟨a12, x12, rfl, G12, b12⟩
  have R12 := G12.row
  clear d0 d1 d2
  go_wp2_with fail
  refine (IP.out _ _ _ _ _ R12).mono ?_
  rintro r u13 ⟨s1, m1, g1, s2, m2, g2, rfl, SO13, b13⟩
  obtain ⟨rfl, rfl⟩ := SO13.len
  have P13 : At u13.heap.size (V4L C s1 S.ps.length g1 s2 S.d.rs.length g2 S.d.s) (u13.alloc (.cells #[.int .i64 C, .slice s1 S.ps.length g1, .slice s2 S.d.rs.length g2, .int .i64 S.d.s] 35)) := At.new u13 (V4L C s1 S.ps.length g1 s2 S.d.rs.length g2 S.d.s) 35
  have b1314 := bal (Below.refl _ u13) (.cells #[.int .i64 C, .slice s1 S.ps.length g1, .slice s2 S.d.rs.length g2, .int .i64 S.d.s] 35)
  have HT13 := Lib.hid (HT11.out.on (btr b12 (btr b13 b1314)))
  have HR13 := Lib.hid (SO13.below b1314).row
  have HP13 := Lib.hid P13
  clear b12 b13 b1314 SO13 P13 HT11 A11 G12 R12
  have yc0 := HT13.out.P0.cell 0 _ rfl
  have yc1 := HT13.out.P0.cell 1 _ rfl
  have yc2 := HT13.out.P0.cell 2 _ rfl
  have yc3 := HT13.out.P0.cell 3 _ rfl
  have zc0 := HP13.out.cell 0 _ rfl
  have zc1 := HP13.out.cell 1 _ rfl
  have zc2 := HP13.out.cell 2 _ rfl
  have zc3 := HP13.out.cell 3 _ rfl
  go_wp2_with fail
  generalize u13.alloc (.cells #[.int .i64 C, .slice s1 S.ps.length g1, .slice s2 S.d.rs.length g2, .int .i64 S.d.s] 35) = W13 at *
  refine (eqStoreRes_any C s1 y1 _ _ _ s2 y2 _ _ _ W13.heap.size S _ HR13.out HT13.out.R.row (Nat.le_refl _)).mono ?_
  rintro r u14 ⟨rfl, b14⟩
  have HT14 := Lib.hid (HT13.out.on b14)
  clear yc0 yc1 yc2 yc3 zc0 zc1 zc2 zc3 b14 HT13 HP13 HR13
  have zc0 := HT14.out.P2.cell 0 _ rfl
  have zc1 := HT14.out.P2.cell 1 _ rfl
  have zc2 := HT14.out.P2.cell 2 _ rfl
  have zc3 := HT14.out.P2.cell 3 _ rfl
  go_wp2_with fail
  have HH := heldStoreRes_any C o1 S.ps.length f1 o2 S.d.rs.length f2 u14.heap.size S.d.s S _ HT14.out.G.row (Nat.le_refl _) HSM.out
  rw [hmq] at HH
  refine HH.mono ?_
  rintro r u15 ⟨rfl, b15⟩
  have hb := (HT14.out.on b15).bel
  go_wp2_with fail
  go_ret
  exact ⟨rfl, hb⟩

end Go.Proofs.YtefgimpodhjdpaaGreatDoor.fnExactPackStore
