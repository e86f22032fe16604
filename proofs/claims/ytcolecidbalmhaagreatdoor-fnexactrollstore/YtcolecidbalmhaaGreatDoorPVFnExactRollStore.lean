/- The function RollStore answers, at every argument, as its model does, writes into no argument, and its answer owns its memory. The walk: the law's Go text answers true and turns nothing that was there. Conditions: as the theorem states. -/
import Derived.Test.YtcolecidbalmhaaGreatDoorS11
import Derived.Test.YtcolecidbalmhaaGreatDoorS15
import Derived.WalkKit
import Derived.Below
namespace Go.Proofs.YtcolecidbalmhaaGreatDoor.fnExactRollStore
open Go.RowKit
set_option linter.unusedVariables false

set_option maxHeartbeats 8000000 in
set_option maxRecDepth 100000 in
theorem walk (a0p : Option Addr) (n0p c0p : Nat) (a0r : Option Addr) (n0r c0r : Nat) (z0 : StoreD) (a1 : RollD) (a2 : Int) (w : World) (w0 : SRow w w.heap.size a0p n0p c0p a0r n0r c0r z0) (w1 : a1.p.n.size ≤ maxLen) (w2 : (Lit.int .i64 a2).wf = true) (lab : Labels w) (ert : ErrT w) :
    Calls Tryz.prog 8 #[.agg #[.slice a0p n0p c0p, .slice a0r n0r c0r, .int .i64 z0.d.s], R8 a1, .int .i64 a2] w fun e w' => e = .returned (.bool true) ∧ Below w.heap.size w w' := by
  generalize a1 = rz at *
  generalize a2 = tz at *
  clear w2
  have b0 := bal (bal (Below.refl _ w) (.cells #[.slice a0p n0p c0p, .slice a0r n0r c0r, .int .i64 z0.d.s] 84)) (.cells #[.string rz.p.n, .int .i64 rz.p.a, .int .i64 rz.p.b, .int .i64 rz.p.e, .int .i64 rz.p.u, .int .i64 rz.b, .int .i64 rz.x, .int .i64 rz.y] 88)
  have A0 : At w.heap.size [.slice a0p n0p c0p, .slice a0r n0r c0r, .int .i64 z0.d.s] ((w.alloc (.cells #[.slice a0p n0p c0p, .slice a0r n0r c0r, .int .i64 z0.d.s] 84)).alloc (.cells #[.string rz.p.n, .int .i64 rz.p.a, .int .i64 rz.p.b, .int .i64 rz.p.e, .int .i64 rz.p.u, .int .i64 rz.b, .int .i64 rz.x, .int .i64 rz.y] 88)) := (At.new w [.slice a0p n0p c0p, .slice a0r n0r c0r, .int .i64 z0.d.s] 84).alloc (.cells #[.string rz.p.n, .int .i64 rz.p.a, .int .i64 rz.p.b, .int .i64 rz.p.e, .int .i64 rz.p.u, .int .i64 rz.b, .int .i64 rz.x, .int .i64 rz.y] 88)
  have P0 := At.new (w.alloc (.cells #[.slice a0p n0p c0p, .slice a0r n0r c0r, .int .i64 z0.d.s] 84)) rz.vals 88
  rw [World.size_alloc] at P0
  have HP0 := Lib.hid (show At (w.heap.size + 1) rz.vals ((w.alloc (.cells #[.slice a0p n0p c0p, .slice a0r n0r c0r, .int .i64 z0.d.s] 84)).alloc (.cells #[.string rz.p.n, .int .i64 rz.p.a, .int .i64 rz.p.b, .int .i64 rz.p.e, .int .i64 rz.p.u, .int .i64 rz.b, .int .i64 rz.x, .int .i64 rz.y] 88)) from P0)
  have F := szStore_any a0p n0p c0p a0r n0r c0r w.heap.size z0.d.s 1048576 z0 _ (w0.below b0) b0.size (by omega) (by omega)
  clear P0
  by_cases hbig : szSt z0 1048576 < 0
  · have e1 : szSt z0 1048576 = -1 := szSt_neg hbig
    rw [e1] at F
    clear hbig e1 w0
    have d0 := A0.cell 0 _ rfl
    have d1 := A0.cell 1 _ rfl
    have d2 := A0.cell 2 _ rfl
    go_enter Tryz.func8, Tryz.ntmps8
    go_wp2_with fail
    refine F.mono ?_
    rintro r u1 ⟨rfl, b1⟩
    have hb := btr b0 b1
    go_wp2_with fail
    go_ret
    exact ⟨rfl, hb⟩
  obtain ⟨hs1, hsL, hs2⟩ := szSt_small (s := z0) (L := 1048576) (by omega) (by omega)
  have TD := Lib.hid (fun (w' : World) (hb : Below w.heap.size w w') => toStore_any a0p n0p c0p a0r n0r c0r w.heap.size z0 w' (w0.below hb) hb.size hs1 hs2)
  have HSM : Hid (SmallS (rollSt z0 rz tz)) := Lib.hid (by by_cases h : rollC z0 rz tz = 0; exact small_of (roll_ok h).1; rw [rollSt_no h]; exact small0)
  have SP := Lib.hid (fun (a1 : Option Addr) (c1 : Nat) (a2 : Option Addr) (c2 : Nat) (w' : World) (h : SRow w' w'.heap.size a1 z0.ps.length c1 a2 z0.d.rs.length c2 z0) => (show Calls Tryz.prog 17 #[.agg #[.slice a1 z0.ps.length c1, .slice a2 z0.d.rs.length c2, .int .i64 z0.d.s], R8 rz, .int .i64 tz] w' (StoreRes (rollC z0 rz tz) (rollSt z0 rz tz) w') from specRollStore_any a1 z0.ps.length c1 a2 z0.d.rs.length c2 w'.heap.size z0 rz tz w' h (Nat.le_refl _) w1))
  have IP := Lib.hid (fun (a1 : Option Addr) (c1 : Nat) (a2 : Option Addr) (c2 : Nat) (w' : World) (h : SRow w' w'.heap.size a1 z0.ps.length c1 a2 z0.d.rs.length c2 z0) (hb : Below w.heap.size w w') => (show Calls Tryz.prog 14 #[.agg #[.slice a1 z0.ps.length c1, .slice a2 z0.d.rs.length c2, .int .i64 z0.d.s], R8 rz, .int .i64 tz] w' (StoreRes (rollC z0 rz tz) (rollSt z0 rz tz) w') from implRollStore_any a1 z0.ps.length c1 a2 z0.d.rs.length c2 w'.heap.size z0 rz tz w' (lab.on hb) (ert.on hb) h (Nat.le_refl _) w1))
  have HE := Lib.hid (fun (a1 b1 : Option Addr) (c1 d1 : Nat) (a2 b2 : Option Addr) (c2 d2 : Nat) (w' : World) (h : SRow w' w'.heap.size a1 z0.ps.length c1 a2 z0.d.rs.length c2 z0) (g : SRow w' w'.heap.size b1 z0.ps.length d1 b2 z0.d.rs.length d2 z0) => eqStore_any a1 b1 z0.ps.length c1 d1 a2 b2 z0.d.rs.length c2 d2 w'.heap.size z0 w' h g (Nat.le_refl _))
  have ma := fun (a1 : Option Addr) (a2 : Option Addr) (lo hi : Nat) (w' : World) (h : SOwn w' lo hi (.slice a1 z0.ps.length z0.ps.length) (.slice a2 z0.d.rs.length z0.d.rs.length) z0) => markStore_any a1 z0.ps.length z0.ps.length a2 z0.d.rs.length z0.d.rs.length lo hi z0.d.s z0 w' h hs1
  have hkn : ¬ markN 1 z0 < 0 := by unfold markN; omega
  generalize markN 1 z0 = kq at ma hkn
  have MA := Lib.hid ma
  unfold StoreRes at SP IP
  generalize hL : szSt z0 1048576 = L at *
  have hL0 : 0 ≤ L := by omega
  have hL1 : L ≤ 1048576 := by omega
  have FP := fun w' => szRoll_any rz L w' w1 hL0 hL1
  clear ma hs1 hs2 w0 hL hsL w1
  generalize rollC z0 rz tz = C at *
  generalize rollSt z0 rz tz = S at *
  have hA0 : w.heap.size < w.heap.size + 1 := by omega
  have HA0 := Lib.hid A0
  have HB0 := Lib.hid b0
  have d0 := A0.cell 0 _ rfl
  have d1 := A0.cell 1 _ rfl
  have d2 := A0.cell 2 _ rfl
  clear A0 b0
  by_cases hb2 : L < rz.p.n.size
  · simp only [if_pos hb2] at FP
    go_enter Tryz.func8, Tryz.ntmps8
    go_wp2_with fail
    refine F.mono ?_
    rintro r u1 ⟨rfl, b1⟩
    have P1 := HP0.out.on b1
    have p0 := P1.cell 0 _ rfl
    have p1 := P1.cell 1 _ rfl
    have p2 := P1.cell 2 _ rfl
    have p3 := P1.cell 3 _ rfl
    have p4 := P1.cell 4 _ rfl
    have p5 := P1.cell 5 _ rfl
    have p6 := P1.cell 6 _ rfl
    have p7 := P1.cell 7 _ rfl
    go_wp2_with fail
    refine (FP _).mono ?_
    rintro r u2 ⟨rfl, b2⟩
    have hb := btr (btr HB0.out b1) b2
    go_wp2_with fail
    go_ret
    exact ⟨rfl, hb⟩
  simp only [if_neg hb2] at FP
  have hs0 : ¬ L - rz.p.n.size < 0 := by omega
  have HFP := Lib.hid FP
  clear FP hL0 hL1
  go_enter Tryz.func8, Tryz.ntmps8
  go_wp2_with fail
  generalize (w.alloc (.cells #[.slice a0p n0p c0p, .slice a0r n0r c0r, .int .i64 z0.d.s] 84)).alloc (.cells #[.string rz.p.n, .int .i64 rz.p.a, .int .i64 rz.p.b, .int .i64 rz.p.e, .int .i64 rz.p.u, .int .i64 rz.b, .int .i64 rz.x, .int .i64 rz.y] 88) = W0 at *
  refine F.mono ?_
  rintro r u1 ⟨rfl, b1⟩
  have P1 := HP0.out.on b1
  have p0 := P1.cell 0 _ rfl
  have p1 := P1.cell 1 _ rfl
  have p2 := P1.cell 2 _ rfl
  have p3 := P1.cell 3 _ rfl
  have p4 := P1.cell 4 _ rfl
  have p5 := P1.cell 5 _ rfl
  have p6 := P1.cell 6 _ rfl
  have p7 := P1.cell 7 _ rfl
  clear d0 d1 d2 F
  go_wp2_with fail
  refine (HFP.out _).mono ?_
  rintro r u2 ⟨rfl, b2⟩
  have b12 := btr b1 b2
  have A2 := Lib.hid (HA0.out.on b12)
  have P2 := Lib.hid (HP0.out.on b12)
  have B2 := Lib.hid (btr HB0.out b12)
  clear p0 p1 p2 p3 p4 p5 p6 p7 b1 b2 b12 P1 HA0 HB0 HP0 HFP
  have d0 := A2.out.cell 0 _ rfl
  have d1 := A2.out.cell 1 _ rfl
  have d2 := A2.out.cell 2 _ rfl
  have p0 := P2.out.cell 0 _ rfl
  have p1 := P2.out.cell 1 _ rfl
  have p2 := P2.out.cell 2 _ rfl
  have p3 := P2.out.cell 3 _ rfl
  have p4 := P2.out.cell 4 _ rfl
  have p5 := P2.out.cell 5 _ rfl
  have p6 := P2.out.cell 6 _ rfl
  have p7 := P2.out.cell 7 _ rfl
  go_upto_region 8 with fail
  go_cut [8] from 25 to 30 (fun v' wx => StoreAt u2 C S v' wx)
  case first =>
    refine wp_region_fork (Bel u2) (by kernel_rfl) (Bel.drew u2) ?_
    have hst : (Bel u2) _ := (Bel.drew u2)
    have inst : Nonempty (Of (Bel u2)) := ⟨⟨_, hst⟩⟩
    have v0 := bel_cell d0
    have v1 := bel_cell d1
    have v2 := bel_cell d2
    have v3 := bel_cell p0
    have v4 := bel_cell p1
    have v5 := bel_cell p2
    have v6 := bel_cell p3
    have v7 := bel_cell p4
    have v8 := bel_cell p5
    have v9 := bel_cell p6
    have v10 := bel_cell p7
    generalize u2.drew = V1 at *
    refine any_seg 5 [(0, true), (2, true), (4, true)] (by kernel_rfl) (fun _ _ d _ _ h => by cases d <;> exact h) ?_
    iterate 3 (refine line_read rfl (by kernel_rfl) (fun K hK => ?_); go_big_quiet_op; refine hK _ ?_; clear hK K)
    refine line_nil ?_
    clear v0 v1 v2 v3 v4 v5 v6 v7 v8 v9 v10
    refine any_fork 1 6 (by kernel_rfl) rfl rfl (by kernel_rfl) (by kernel_rfl) (fun K hK => ?_) (fun K hK => ?_)
    · refine call_any (args := #[.agg #[.slice a0p n0p c0p, .slice a0r n0r c0r, .int .i64 z0.d.s]]) rfl (by kernel_rfl) (by kernel_rfl) (TD.out _ (btr B2.out hst.out)) ?_
      rintro e xw1 ⟨a7, y7, rfl, G7, hbn⟩
      have HRS := Lib.hid G7.row
      clear G7
      have hst2 := hst.on hbn
      refine ⟨_, rfl, hK _ _ hst2 ?_⟩
      clear hK K hst hbn
      have hst := hst2
      clear hst2
      simp only [Act.put, List.setIfInBounds_toArray, List.set_cons_zero, List.set_cons_succ]
      refine any_fork 3 6 (by kernel_rfl) rfl rfl (by kernel_rfl) (by kernel_rfl) (fun K hK => ?_) (fun K hK => ?_)
      · refine call_any (args := #[R8 rz]) rfl (by kernel_rfl) (by kernel_rfl) (toRoll_any rz _) ?_
        rintro e xw2 ⟨rfl, hbn⟩
        have hst2 := hst.on hbn
        have HRS2 := Lib.hid (HRS.out.on hbn)
        clear HRS
        have HRS := HRS2
        clear HRS2
        refine ⟨_, rfl, hK _ _ hst2 ?_⟩
        clear hK K hst hbn
        have hst := hst2
        clear hst2
        simp only [Act.put, List.setIfInBounds_toArray, List.set_cons_zero, List.set_cons_succ]
        refine any_fork 5 6 (by kernel_rfl) rfl rfl (by kernel_rfl) (by kernel_rfl) (fun K hK => ?_) (fun K hK => ?_)
        · refine call_any (args := #[.agg #[.slice a7 z0.ps.length z0.ps.length, .slice y7 z0.d.rs.length z0.d.rs.length, .int .i64 z0.d.s], R8 rz, .int .i64 tz]) rfl (by kernel_rfl) (by kernel_rfl) (SP.out _ _ _ _ _ HRS.out) ?_
          rintro e xw3 ⟨y1, m1, e1, y2, m2, e2, rfl, SOr, hbn⟩
          obtain ⟨rfl, rfl⟩ := SOr.len
          have leO := hst.out.size
          have HSO := Lib.hid SOr
          clear SOr HRS
          have hst2 := hst.on hbn
          refine ⟨_, rfl, hK _ _ hst2 ?_⟩
          clear hK K hst hbn
          have hst := hst2
          clear hst2
          simp only [Act.put, List.setIfInBounds_toArray, List.set_cons_zero, List.set_cons_succ]
          refine any_rest [(6, false), (7, false)] (by kernel_rfl) (fun _ _ d _ _ h => by cases d <;> exact h) ?_
          refine line_alone rfl (by kernel_rfl) (fun K hK => ?_)
          go_big_op
          have b9 := bal (Below.refl _ xw3) (.cells #[.int .i64 0, .slice none 0 0, .slice none 0 0, .int .i64 0] 35)
          have hst2 := hst.on b9
          have HA := Lib.hid (show At xw3.heap.size zero9 (xw3.alloc (.cells #[.int .i64 0, .slice none 0 0, .slice none 0 0, .int .i64 0] 35)) from At.new xw3 zero9 35)
          have leA : u2.heap.size ≤ xw3.heap.size := hst.out.size
          have HSO2 := Lib.hid (HSO.out.below b9)
          clear HSO
          have HSO := HSO2
          clear HSO2
          refine hK _ _ hst2 ?_
          clear hK K hst b9
          have hst := hst2
          clear hst2
          generalize xw3.alloc (.cells #[.int .i64 0, .slice none 0 0, .slice none 0 0, .int .i64 0] 35) = xa at *
          have A9 := HA.out
          unfold zero9 at A9
          have h0 := A9.cell 0 _ rfl
          have h1 := A9.cell 1 _ rfl
          have h2 := A9.cell 2 _ rfl
          have h3 := A9.cell 3 _ rfl
          have f0 := A9.free 0 _ rfl
          have f1 := A9.free 1 _ rfl
          have f2 := A9.free 2 _ rfl
          have f3 := A9.free 3 _ rfl
          have SO9 := HSO.out.stored (.inr (Nat.le_refl _)) (.int .i64 C) (.slice y1 S.ps.length e1) (.slice y2 S.d.rs.length e2) (.int .i64 S.d.s)
          have ltw := HA.out.lt (by simp [zero9])
          refine line_alone rfl (by kernel_rfl) (fun K hK => ?_)
          go_big_op
          refine hK _ _ (⟨(by (iterate 4 (refine bset ?_ (by dsimp only; omega) _)); exact hst.out)⟩) ?_
          clear hK K
          have A10 := (((A9.set 0 (.int .i64 C)).set 1 (.slice y1 S.ps.length e1)).set 2 (.slice y2 S.d.rs.length e2)).set 3 (.int .i64 S.d.s)
          refine line_nil ?_
          go_wp2_with fail
          go_meet
          case rel => exact ⟨_, _, _, _, _, _, _, rfl, A10, SO9, (by (iterate 4 (refine bset ?_ (by dsimp only; omega) _)); exact hst.out), leO, (.inr (Nat.le_refl _)), leA, by simpa [World.setCell] using ltw⟩
        · go_big_op
          have b9 := bal (Below.refl _ xw2) (.cells #[.int .i64 0, .slice none 0 0, .slice none 0 0, .int .i64 0] 35)
          have hst2 := hst.on b9
          have HA := Lib.hid (show At xw2.heap.size zero9 (xw2.alloc (.cells #[.int .i64 0, .slice none 0 0, .slice none 0 0, .int .i64 0] 35)) from At.new xw2 zero9 35)
          have leA : u2.heap.size ≤ xw2.heap.size := hst.out.size
          have HRS2 := Lib.hid (HRS.out.on b9)
          clear HRS
          have HRS := HRS2
          clear HRS2
          refine hK _ _ hst2 ?_
          clear hK K hst b9
          have hst := hst2
          clear hst2
          generalize xw2.alloc (.cells #[.int .i64 0, .slice none 0 0, .slice none 0 0, .int .i64 0] 35) = xa at *
          generalize xw2.heap.size = ga at *
          refine any_rest [(5, false), (7, false)] (by kernel_rfl) (fun _ _ d _ _ h => by cases d <;> exact h) ?_
          refine line_alone rfl (by kernel_rfl) (fun K hK => ?_)
          refine call_any (args := #[.agg #[.slice a7 z0.ps.length z0.ps.length, .slice y7 z0.d.rs.length z0.d.rs.length, .int .i64 z0.d.s], R8 rz, .int .i64 tz]) rfl (by kernel_rfl) (by kernel_rfl) (SP.out _ _ _ _ _ HRS.out) ?_
          rintro e xw4 ⟨y1, m1, e1, y2, m2, e2, rfl, SOr, hbn⟩
          obtain ⟨rfl, rfl⟩ := SOr.len
          have leO := hst.out.size
          have sep := Or.inl (b := xw4.heap.size ≤ ga) (HA.out.lt (by simp [zero9]))
          have HSO := Lib.hid SOr
          clear SOr HRS
          have hst2 := hst.on hbn
          have HA2 := Lib.hid (HA.out.on hbn)
          clear HA
          have HA := HA2
          clear HA2
          refine ⟨_, rfl, hK _ _ hst2 ?_⟩
          clear hK K hst hbn
          have hst := hst2
          clear hst2
          simp only [Act.put, List.setIfInBounds_toArray, List.set_cons_zero, List.set_cons_succ]
          have A9 := HA.out
          unfold zero9 at A9
          have h0 := A9.cell 0 _ rfl
          have h1 := A9.cell 1 _ rfl
          have h2 := A9.cell 2 _ rfl
          have h3 := A9.cell 3 _ rfl
          have f0 := A9.free 0 _ rfl
          have f1 := A9.free 1 _ rfl
          have f2 := A9.free 2 _ rfl
          have f3 := A9.free 3 _ rfl
          have SO9 := HSO.out.stored sep (.int .i64 C) (.slice y1 S.ps.length e1) (.slice y2 S.d.rs.length e2) (.int .i64 S.d.s)
          have ltw := HA.out.lt (by simp [zero9])
          refine line_alone rfl (by kernel_rfl) (fun K hK => ?_)
          go_big_op
          refine hK _ _ (⟨(by (iterate 4 (refine bset ?_ (by dsimp only; omega) _)); exact hst.out)⟩) ?_
          clear hK K
          have A10 := (((A9.set 0 (.int .i64 C)).set 1 (.slice y1 S.ps.length e1)).set 2 (.slice y2 S.d.rs.length e2)).set 3 (.int .i64 S.d.s)
          refine line_nil ?_
          go_wp2_with fail
          go_meet
          case rel => exact ⟨_, _, _, _, _, _, _, rfl, A10, SO9, (by (iterate 4 (refine bset ?_ (by dsimp only; omega) _)); exact hst.out), leO, sep, leA, by simpa [World.setCell] using ltw⟩
      · go_big_op
        have b9 := bal (Below.refl _ xw1) (.cells #[.int .i64 0, .slice none 0 0, .slice none 0 0, .int .i64 0] 35)
        have hst2 := hst.on b9
        have HA := Lib.hid (show At xw1.heap.size zero9 (xw1.alloc (.cells #[.int .i64 0, .slice none 0 0, .slice none 0 0, .int .i64 0] 35)) from At.new xw1 zero9 35)
        have leA : u2.heap.size ≤ xw1.heap.size := hst.out.size
        have HRS2 := Lib.hid (HRS.out.on b9)
        clear HRS
        have HRS := HRS2
        clear HRS2
        refine hK _ _ hst2 ?_
        clear hK K hst b9
        have hst := hst2
        clear hst2
        generalize xw1.alloc (.cells #[.int .i64 0, .slice none 0 0, .slice none 0 0, .int .i64 0] 35) = xa at *
        generalize xw1.heap.size = ga at *
        refine any_rest [(3, false), (5, false), (7, false)] (by kernel_rfl) (fun _ _ d _ _ h => by cases d <;> exact h) ?_
        refine line_alone rfl (by kernel_rfl) (fun K hK => ?_)
        refine call_any (args := #[R8 rz]) rfl (by kernel_rfl) (by kernel_rfl) (toRoll_any rz _) ?_
        rintro e xw5 ⟨rfl, hbn⟩
        have hst2 := hst.on hbn
        have HA2 := Lib.hid (HA.out.on hbn)
        clear HA
        have HA := HA2
        clear HA2
        have HRS2 := Lib.hid (HRS.out.on hbn)
        clear HRS
        have HRS := HRS2
        clear HRS2
        refine ⟨_, rfl, hK _ _ hst2 ?_⟩
        clear hK K hst hbn
        have hst := hst2
        clear hst2
        simp only [Act.put, List.setIfInBounds_toArray, List.set_cons_zero, List.set_cons_succ]
        refine line_alone rfl (by kernel_rfl) (fun K hK => ?_)
        refine call_any (args := #[.agg #[.slice a7 z0.ps.length z0.ps.length, .slice y7 z0.d.rs.length z0.d.rs.length, .int .i64 z0.d.s], R8 rz, .int .i64 tz]) rfl (by kernel_rfl) (by kernel_rfl) (SP.out _ _ _ _ _ HRS.out) ?_
        rintro e xw6 ⟨y1, m1, e1, y2, m2, e2, rfl, SOr, hbn⟩
        obtain ⟨rfl, rfl⟩ := SOr.len
        have leO := hst.out.size
        have sep := Or.inl (b := xw6.heap.size ≤ ga) (HA.out.lt (by simp [zero9]))
        have HSO := Lib.hid SOr
        clear SOr HRS
        have hst2 := hst.on hbn
        have HA2 := Lib.hid (HA.out.on hbn)
        clear HA
        have HA := HA2
        clear HA2
        refine ⟨_, rfl, hK _ _ hst2 ?_⟩
        clear hK K hst hbn
        have hst := hst2
        clear hst2
        simp only [Act.put, List.setIfInBounds_toArray, List.set_cons_zero, List.set_cons_succ]
        have A9 := HA.out
        unfold zero9 at A9
        have h0 := A9.cell 0 _ rfl
        have h1 := A9.cell 1 _ rfl
        have h2 := A9.cell 2 _ rfl
        have h3 := A9.cell 3 _ rfl
        have f0 := A9.free 0 _ rfl
        have f1 := A9.free 1 _ rfl
        have f2 := A9.free 2 _ rfl
        have f3 := A9.free 3 _ rfl
        have SO9 := HSO.out.stored sep (.int .i64 C) (.slice y1 S.ps.length e1) (.slice y2 S.d.rs.length e2) (.int .i64 S.d.s)
        have ltw := HA.out.lt (by simp [zero9])
        refine line_alone rfl (by kernel_rfl) (fun K hK => ?_)
        go_big_op
        refine hK _ _ (⟨(by (iterate 4 (refine bset ?_ (by dsimp only; omega) _)); exact hst.out)⟩) ?_
        clear hK K
        have A10 := (((A9.set 0 (.int .i64 C)).set 1 (.slice y1 S.ps.length e1)).set 2 (.slice y2 S.d.rs.length e2)).set 3 (.int .i64 S.d.s)
        refine line_nil ?_
        go_wp2_with fail
        go_meet
        case rel => exact ⟨_, _, _, _, _, _, _, rfl, A10, SO9, (by (iterate 4 (refine bset ?_ (by dsimp only; omega) _)); exact hst.out), leO, sep, leA, by simpa [World.setCell] using ltw⟩
    · go_big_op
      have b9 := bal (Below.refl _ V1) (.cells #[.int .i64 0, .slice none 0 0, .slice none 0 0, .int .i64 0] 35)
      have hst2 := hst.on b9
      have HA := Lib.hid (show At V1.heap.size zero9 (V1.alloc (.cells #[.int .i64 0, .slice none 0 0, .slice none 0 0, .int .i64 0] 35)) from At.new V1 zero9 35)
      have leA : u2.heap.size ≤ V1.heap.size := hst.out.size
      refine hK _ _ hst2 ?_
      clear hK K hst b9
      have hst := hst2
      clear hst2
      generalize V1.alloc (.cells #[.int .i64 0, .slice none 0 0, .slice none 0 0, .int .i64 0] 35) = xa at *
      generalize V1.heap.size = ga at *
      refine any_rest [(1, false), (3, false), (5, false), (7, false)] (by kernel_rfl) (fun _ _ d _ _ h => by cases d <;> exact h) ?_
      refine line_alone rfl (by kernel_rfl) (fun K hK => ?_)
      refine call_any (args := #[.agg #[.slice a0p n0p c0p, .slice a0r n0r c0r, .int .i64 z0.d.s]]) rfl (by kernel_rfl) (by kernel_rfl) (TD.out _ (btr B2.out hst.out)) ?_
      rintro e xw7 ⟨a7, y7, rfl, G7, hbn⟩
      have HRS := Lib.hid G7.row
      clear G7
      have hst2 := hst.on hbn
      have HA2 := Lib.hid (HA.out.on hbn)
      clear HA
      have HA := HA2
      clear HA2
      refine ⟨_, rfl, hK _ _ hst2 ?_⟩
      clear hK K hst hbn
      have hst := hst2
      clear hst2
      simp only [Act.put, List.setIfInBounds_toArray, List.set_cons_zero, List.set_cons_succ]
      refine line_alone rfl (by kernel_rfl) (fun K hK => ?_)
      refine call_any (args := #[R8 rz]) rfl (by kernel_rfl) (by kernel_rfl) (toRoll_any rz _) ?_
      rintro e xw8 ⟨rfl, hbn⟩
      have hst2 := hst.on hbn
      have HA2 := Lib.hid (HA.out.on hbn)
      clear HA
      have HA := HA2
      clear HA2
      have HRS2 := Lib.hid (HRS.out.on hbn)
      clear HRS
      have HRS := HRS2
      clear HRS2
      refine ⟨_, rfl, hK _ _ hst2 ?_⟩
      clear hK K hst hbn
      have hst := hst2
      clear hst2
      simp only [Act.put, List.setIfInBounds_toArray, List.set_cons_zero, List.set_cons_succ]
      refine line_alone rfl (by kernel_rfl) (fun K hK => ?_)
      refine call_any (args := #[.agg #[.slice a7 z0.ps.length z0.ps.length, .slice y7 z0.d.rs.length z0.d.rs.length, .int .i64 z0.d.s], R8 rz, .int .i64 tz]) rfl (by kernel_rfl) (by kernel_rfl) (SP.out _ _ _ _ _ HRS.out) ?_
      rintro e xw9 ⟨y1, m1, e1, y2, m2, e2, rfl, SOr, hbn⟩
      obtain ⟨rfl, rfl⟩ := SOr.len
      have leO := hst.out.size
      have sep := Or.inl (b := xw9.heap.size ≤ ga) (HA.out.lt (by simp [zero9]))
      have HSO := Lib.hid SOr
      clear SOr HRS
      have hst2 := hst.on hbn
      have HA2 := Lib.hid (HA.out.on hbn)
      clear HA
      have HA := HA2
      clear HA2
      refine ⟨_, rfl, hK _ _ hst2 ?_⟩
      clear hK K hst hbn
      have hst := hst2
      clear hst2
      simp only [Act.put, List.setIfInBounds_toArray, List.set_cons_zero, List.set_cons_succ]
      have A9 := HA.out
      unfold zero9 at A9
      have h0 := A9.cell 0 _ rfl
      have h1 := A9.cell 1 _ rfl
      have h2 := A9.cell 2 _ rfl
      have h3 := A9.cell 3 _ rfl
      have f0 := A9.free 0 _ rfl
      have f1 := A9.free 1 _ rfl
      have f2 := A9.free 2 _ rfl
      have f3 := A9.free 3 _ rfl
      have SO9 := HSO.out.stored sep (.int .i64 C) (.slice y1 S.ps.length e1) (.slice y2 S.d.rs.length e2) (.int .i64 S.d.s)
      have ltw := HA.out.lt (by simp [zero9])
      refine line_alone rfl (by kernel_rfl) (fun K hK => ?_)
      go_big_op
      refine hK _ _ (⟨(by (iterate 4 (refine bset ?_ (by dsimp only; omega) _)); exact hst.out)⟩) ?_
      clear hK K
      have A10 := (((A9.set 0 (.int .i64 C)).set 1 (.slice y1 S.ps.length e1)).set 2 (.slice y2 S.d.rs.length e2)).set 3 (.int .i64 S.d.s)
      refine line_nil ?_
      go_wp2_with fail
      go_meet
      case rel => exact ⟨_, _, _, _, _, _, _, rfl, A10, SO9, (by (iterate 4 (refine bset ?_ (by dsimp only; omega) _)); exact hst.out), leO, sep, leA, by simpa [World.setCell] using ltw⟩
  case rest =>
    obtain ⟨k0, l0, h0, y1, e1, y2, e2, rfl, X0, SO0, bb0, q1, q2, q3, q4⟩ := hcut
    have HSO3 := Lib.hid SO0
    have HP3 := Lib.hid X0
    have A3 := Lib.hid (A2.out.on bb0)
    have P3 := Lib.hid (P2.out.on bb0)
    have B3 := Lib.hid (btr B2.out bb0)
    have hl0 : w.heap.size ≤ l0 := Nat.le_trans B2.out.size q1
    have hl01 := SO0.top.2
    have hPW := P3.out.lt (by simp [RollD.vals])
    clear d0 d1 d2 p0 p1 p2 p3 p4 p5 p6 p7 SO0 X0 bb0 q1 q2 q3 A2 P2
    have d0 := A3.out.cell 0 _ rfl
    have d1 := A3.out.cell 1 _ rfl
    have d2 := A3.out.cell 2 _ rfl
    go_wp2_with fail
    refine (TD.out _ B3.out).mono ?_
    rintro r u4 ⟨a4, x4, rfl, G4, b4⟩
    have Q4 := At.new u4 [.slice a4 z0.ps.length z0.ps.length, .slice x4 z0.d.rs.length z0.d.rs.length, .int .i64 z0.d.s] 29
    have b45 := bal (Below.refl _ u4) (.cells #[.slice a4 z0.ps.length z0.ps.length, .slice x4 z0.d.rs.length z0.d.rs.length, .int .i64 z0.d.s] 29)
    have hz4 : u4.heap.size < (u4.alloc (.cells #[.slice a4 z0.ps.length z0.ps.length, .slice x4 z0.d.rs.length z0.d.rs.length, .int .i64 z0.d.s] 29)).heap.size := by simp
    have b35 := btr b4 b45
    have hl1 := b4.size
    have HX4 := Lib.hid (G4.below b45)
    have HSO4 := Lib.hid (HSO3.out.below b35)
    have HP4 := Lib.hid (HP3.out.on b35)
    have A4 := Lib.hid (A3.out.on b35)
    have P4 := Lib.hid (P3.out.on b35)
    have B4 := Lib.hid (btr B3.out b35)
    have HQ4 := Lib.hid (show At u4.heap.size [.slice a4 z0.ps.length z0.ps.length, .slice x4 z0.d.rs.length z0.d.rs.length, .int .i64 z0.d.s] (u4.alloc (.cells #[.slice a4 z0.ps.length z0.ps.length, .slice x4 z0.d.rs.length z0.d.rs.length, .int .i64 z0.d.s] 29)) from Q4)
    clear d0 d1 d2 b4 b45 b35 G4 Q4 A3 P3 B3 HSO3 HP3
    go_upto_region 10 with fail
    generalize u4.alloc (.cells #[.slice a4 z0.ps.length z0.ps.length, .slice x4 z0.d.rs.length z0.d.rs.length, .int .i64 z0.d.s] 29) = W4 at *
    have q0 := HQ4.out.cell 0 _ rfl
    have q1 := HQ4.out.cell 1 _ rfl
    have q2 := HQ4.out.cell 2 _ rfl
    have p0 := P4.out.cell 0 _ rfl
    have p1 := P4.out.cell 1 _ rfl
    have p2 := P4.out.cell 2 _ rfl
    have p3 := P4.out.cell 3 _ rfl
    have p4 := P4.out.cell 4 _ rfl
    have p5 := P4.out.cell 5 _ rfl
    have p6 := P4.out.cell 6 _ rfl
    have p7 := P4.out.cell 7 _ rfl
    go_cut [10] from 33 to 37 (fun v' wx => StoreAt W4 C S v' wx)
    case first =>
      refine wp_region_fork (Bel W4) (by kernel_rfl) (Bel.drew W4) ?_
      have hst : (Bel W4) _ := (Bel.drew W4)
      have inst : Nonempty (Of (Bel W4)) := ⟨⟨_, hst⟩⟩
      have v0 := bel_cell q0
      have v1 := bel_cell q1
      have v2 := bel_cell q2
      have v3 := bel_cell p0
      have v4 := bel_cell p1
      have v5 := bel_cell p2
      have v6 := bel_cell p3
      have v7 := bel_cell p4
      have v8 := bel_cell p5
      have v9 := bel_cell p6
      have v10 := bel_cell p7
      have HRS := Lib.hid ((HX4.out.below hst.out).row)
      generalize W4.drew = V1 at *
      refine any_seg 4 [(0, true), (1, true), (3, true)] (by kernel_rfl) (fun _ _ d _ _ h => by cases d <;> exact h) ?_
      iterate 3 (refine line_read rfl (by kernel_rfl) (fun K hK => ?_); go_big_quiet_op; refine hK _ ?_; clear hK K)
      refine line_nil ?_
      clear v0 v1 v2 v3 v4 v5 v6 v7 v8 v9 v10
      refine any_fork 2 5 (by kernel_rfl) rfl rfl (by kernel_rfl) (by kernel_rfl) (fun K hK => ?_) (fun K hK => ?_)
      · refine call_any (args := #[R8 rz]) rfl (by kernel_rfl) (by kernel_rfl) (toRoll_any rz _) ?_
        rintro e xw1 ⟨rfl, hbn⟩
        have hst2 := hst.on hbn
        have HRS2 := Lib.hid (HRS.out.on hbn)
        clear HRS
        have HRS := HRS2
        clear HRS2
        refine ⟨_, rfl, hK _ _ hst2 ?_⟩
        clear hK K hst hbn
        have hst := hst2
        clear hst2
        simp only [Act.put, List.setIfInBounds_toArray, List.set_cons_zero, List.set_cons_succ]
        refine any_fork 4 5 (by kernel_rfl) rfl rfl (by kernel_rfl) (by kernel_rfl) (fun K hK => ?_) (fun K hK => ?_)
        · refine call_any (args := #[.agg #[.slice a4 z0.ps.length z0.ps.length, .slice x4 z0.d.rs.length z0.d.rs.length, .int .i64 z0.d.s], R8 rz, .int .i64 tz]) rfl (by kernel_rfl) (by kernel_rfl) (IP.out _ _ _ _ _ HRS.out (btr B4.out hst.out)) ?_
          rintro e xw2 ⟨y1, m1, e1, y2, m2, e2, rfl, SOr, hbn⟩
          obtain ⟨rfl, rfl⟩ := SOr.len
          have leO := hst.out.size
          have HSO := Lib.hid SOr
          clear SOr HRS
          have hst2 := hst.on hbn
          refine ⟨_, rfl, hK _ _ hst2 ?_⟩
          clear hK K hst hbn
          have hst := hst2
          clear hst2
          simp only [Act.put, List.setIfInBounds_toArray, List.set_cons_zero, List.set_cons_succ]
          refine any_rest [(5, false), (6, false)] (by kernel_rfl) (fun _ _ d _ _ h => by cases d <;> exact h) ?_
          refine line_alone rfl (by kernel_rfl) (fun K hK => ?_)
          go_big_op
          have b9 := bal (Below.refl _ xw2) (.cells #[.int .i64 0, .slice none 0 0, .slice none 0 0, .int .i64 0] 35)
          have hst2 := hst.on b9
          have HA := Lib.hid (show At xw2.heap.size zero9 (xw2.alloc (.cells #[.int .i64 0, .slice none 0 0, .slice none 0 0, .int .i64 0] 35)) from At.new xw2 zero9 35)
          have leA : W4.heap.size ≤ xw2.heap.size := hst.out.size
          have HSO2 := Lib.hid (HSO.out.below b9)
          clear HSO
          have HSO := HSO2
          clear HSO2
          refine hK _ _ hst2 ?_
          clear hK K hst b9
          have hst := hst2
          clear hst2
          generalize xw2.alloc (.cells #[.int .i64 0, .slice none 0 0, .slice none 0 0, .int .i64 0] 35) = xa at *
          have A9 := HA.out
          unfold zero9 at A9
          have h0 := A9.cell 0 _ rfl
          have h1 := A9.cell 1 _ rfl
          have h2 := A9.cell 2 _ rfl
          have h3 := A9.cell 3 _ rfl
          have f0 := A9.free 0 _ rfl
          have f1 := A9.free 1 _ rfl
          have f2 := A9.free 2 _ rfl
          have f3 := A9.free 3 _ rfl
          have SO9 := HSO.out.stored (.inr (Nat.le_refl _)) (.int .i64 C) (.slice y1 S.ps.length e1) (.slice y2 S.d.rs.length e2) (.int .i64 S.d.s)
          have ltw := HA.out.lt (by simp [zero9])
          refine line_alone rfl (by kernel_rfl) (fun K hK => ?_)
          go_big_op
          refine hK _ _ (⟨(by (iterate 4 (refine bset ?_ (by dsimp only; omega) _)); exact hst.out)⟩) ?_
          clear hK K
          have A10 := (((A9.set 0 (.int .i64 C)).set 1 (.slice y1 S.ps.length e1)).set 2 (.slice y2 S.d.rs.length e2)).set 3 (.int .i64 S.d.s)
          refine line_nil ?_
          go_wp2_with fail
          go_meet
          case rel => exact ⟨_, _, _, _, _, _, _, rfl, A10, SO9, (by (iterate 4 (refine bset ?_ (by dsimp only; omega) _)); exact hst.out), leO, (.inr (Nat.le_refl _)), leA, by simpa [World.setCell] using ltw⟩
        · go_big_op
          have b9 := bal (Below.refl _ xw1) (.cells #[.int .i64 0, .slice none 0 0, .slice none 0 0, .int .i64 0] 35)
          have hst2 := hst.on b9
          have HA := Lib.hid (show At xw1.heap.size zero9 (xw1.alloc (.cells #[.int .i64 0, .slice none 0 0, .slice none 0 0, .int .i64 0] 35)) from At.new xw1 zero9 35)
          have leA : W4.heap.size ≤ xw1.heap.size := hst.out.size
          have HRS2 := Lib.hid (HRS.out.on b9)
          clear HRS
          have HRS := HRS2
          clear HRS2
          refine hK _ _ hst2 ?_
          clear hK K hst b9
          have hst := hst2
          clear hst2
          generalize xw1.alloc (.cells #[.int .i64 0, .slice none 0 0, .slice none 0 0, .int .i64 0] 35) = xa at *
          generalize xw1.heap.size = ga at *
          refine any_rest [(4, false), (6, false)] (by kernel_rfl) (fun _ _ d _ _ h => by cases d <;> exact h) ?_
          refine line_alone rfl (by kernel_rfl) (fun K hK => ?_)
          refine call_any (args := #[.agg #[.slice a4 z0.ps.length z0.ps.length, .slice x4 z0.d.rs.length z0.d.rs.length, .int .i64 z0.d.s], R8 rz, .int .i64 tz]) rfl (by kernel_rfl) (by kernel_rfl) (IP.out _ _ _ _ _ HRS.out (btr B4.out hst.out)) ?_
          rintro e xw3 ⟨y1, m1, e1, y2, m2, e2, rfl, SOr, hbn⟩
          obtain ⟨rfl, rfl⟩ := SOr.len
          have leO := hst.out.size
          have sep := Or.inl (b := xw3.heap.size ≤ ga) (HA.out.lt (by simp [zero9]))
          have HSO := Lib.hid SOr
          clear SOr HRS
          have hst2 := hst.on hbn
          have HA2 := Lib.hid (HA.out.on hbn)
          clear HA
          have HA := HA2
          clear HA2
          refine ⟨_, rfl, hK _ _ hst2 ?_⟩
          clear hK K hst hbn
          have hst := hst2
          clear hst2
          simp only [Act.put, List.setIfInBounds_toArray, List.set_cons_zero, List.set_cons_succ]
          have A9 := HA.out
          unfold zero9 at A9
          have h0 := A9.cell 0 _ rfl
          have h1 := A9.cell 1 _ rfl
          have h2 := A9.cell 2 _ rfl
          have h3 := A9.cell 3 _ rfl
          have f0 := A9.free 0 _ rfl
          have f1 := A9.free 1 _ rfl
          have f2 := A9.free 2 _ rfl
          have f3 := A9.free 3 _ rfl
          have SO9 := HSO.out.stored sep (.int .i64 C) (.slice y1 S.ps.length e1) (.slice y2 S.d.rs.length e2) (.int .i64 S.d.s)
          have ltw := HA.out.lt (by simp [zero9])
          refine line_alone rfl (by kernel_rfl) (fun K hK => ?_)
          go_big_op
          refine hK _ _ (⟨(by (iterate 4 (refine bset ?_ (by dsimp only; omega) _)); exact hst.out)⟩) ?_
          clear hK K
          have A10 := (((A9.set 0 (.int .i64 C)).set 1 (.slice y1 S.ps.length e1)).set 2 (.slice y2 S.d.rs.length e2)).set 3 (.int .i64 S.d.s)
          refine line_nil ?_
          go_wp2_with fail
          go_meet
          case rel => exact ⟨_, _, _, _, _, _, _, rfl, A10, SO9, (by (iterate 4 (refine bset ?_ (by dsimp only; omega) _)); exact hst.out), leO, sep, leA, by simpa [World.setCell] using ltw⟩
      · go_big_op
        have b9 := bal (Below.refl _ V1) (.cells #[.int .i64 0, .slice none 0 0, .slice none 0 0, .int .i64 0] 35)
        have hst2 := hst.on b9
        have HA := Lib.hid (show At V1.heap.size zero9 (V1.alloc (.cells #[.int .i64 0, .slice none 0 0, .slice none 0 0, .int .i64 0] 35)) from At.new V1 zero9 35)
        have leA : W4.heap.size ≤ V1.heap.size := hst.out.size
        have HRS2 := Lib.hid (HRS.out.on b9)
        clear HRS
        have HRS := HRS2
        clear HRS2
        refine hK _ _ hst2 ?_
        clear hK K hst b9
        have hst := hst2
        clear hst2
        generalize V1.alloc (.cells #[.int .i64 0, .slice none 0 0, .slice none 0 0, .int .i64 0] 35) = xa at *
        generalize V1.heap.size = ga at *
        refine any_rest [(2, false), (4, false), (6, false)] (by kernel_rfl) (fun _ _ d _ _ h => by cases d <;> exact h) ?_
        refine line_alone rfl (by kernel_rfl) (fun K hK => ?_)
        refine call_any (args := #[R8 rz]) rfl (by kernel_rfl) (by kernel_rfl) (toRoll_any rz _) ?_
        rintro e xw4 ⟨rfl, hbn⟩
        have hst2 := hst.on hbn
        have HA2 := Lib.hid (HA.out.on hbn)
        clear HA
        have HA := HA2
        clear HA2
        have HRS2 := Lib.hid (HRS.out.on hbn)
        clear HRS
        have HRS := HRS2
        clear HRS2
        refine ⟨_, rfl, hK _ _ hst2 ?_⟩
        clear hK K hst hbn
        have hst := hst2
        clear hst2
        simp only [Act.put, List.setIfInBounds_toArray, List.set_cons_zero, List.set_cons_succ]
        refine line_alone rfl (by kernel_rfl) (fun K hK => ?_)
        refine call_any (args := #[.agg #[.slice a4 z0.ps.length z0.ps.length, .slice x4 z0.d.rs.length z0.d.rs.length, .int .i64 z0.d.s], R8 rz, .int .i64 tz]) rfl (by kernel_rfl) (by kernel_rfl) (IP.out _ _ _ _ _ HRS.out (btr B4.out hst.out)) ?_
        rintro e xw5 ⟨y1, m1, e1, y2, m2, e2, rfl, SOr, hbn⟩
        obtain ⟨rfl, rfl⟩ := SOr.len
        have leO := hst.out.size
        have sep := Or.inl (b := xw5.heap.size ≤ ga) (HA.out.lt (by simp [zero9]))
        have HSO := Lib.hid SOr
        clear SOr HRS
        have hst2 := hst.on hbn
        have HA2 := Lib.hid (HA.out.on hbn)
        clear HA
        have HA := HA2
        clear HA2
        refine ⟨_, rfl, hK _ _ hst2 ?_⟩
        clear hK K hst hbn
        have hst := hst2
        clear hst2
        simp only [Act.put, List.setIfInBounds_toArray, List.set_cons_zero, List.set_cons_succ]
        have A9 := HA.out
        unfold zero9 at A9
        have h0 := A9.cell 0 _ rfl
        have h1 := A9.cell 1 _ rfl
        have h2 := A9.cell 2 _ rfl
        have h3 := A9.cell 3 _ rfl
        have f0 := A9.free 0 _ rfl
        have f1 := A9.free 1 _ rfl
        have f2 := A9.free 2 _ rfl
        have f3 := A9.free 3 _ rfl
        have SO9 := HSO.out.stored sep (.int .i64 C) (.slice y1 S.ps.length e1) (.slice y2 S.d.rs.length e2) (.int .i64 S.d.s)
        have ltw := HA.out.lt (by simp [zero9])
        refine line_alone rfl (by kernel_rfl) (fun K hK => ?_)
        go_big_op
        refine hK _ _ (⟨(by (iterate 4 (refine bset ?_ (by dsimp only; omega) _)); exact hst.out)⟩) ?_
        clear hK K
        have A10 := (((A9.set 0 (.int .i64 C)).set 1 (.slice y1 S.ps.length e1)).set 2 (.slice y2 S.d.rs.length e2)).set 3 (.int .i64 S.d.s)
        refine line_nil ?_
        go_wp2_with fail
        go_meet
        case rel => exact ⟨_, _, _, _, _, _, _, rfl, A10, SO9, (by (iterate 4 (refine bset ?_ (by dsimp only; omega) _)); exact hst.out), leO, sep, leA, by simpa [World.setCell] using ltw⟩
    case rest =>
      obtain ⟨k2, l2, h2, o1, f1, o2, f2, rfl, X2, SO2, b46, r1, r2, r3, r4⟩ := hcut
      have T5 := TriT.mk (w := w) (btr B4.out b46) (HP4.out.on b46) X2 (HSO4.out.below b46) SO2 hl0 hl01 q4 hl1 (Nat.le_trans (Nat.le_of_lt hz4) r1) (Nat.le_trans (Nat.le_of_lt hz4) r3) r2
      have HT5 := Lib.hid T5
      have HQ5 := Lib.hid (HQ4.out.on b46)
      have HX5 := Lib.hid (HX4.out.below b46)
      have A5 := Lib.hid (A4.out.on b46)
      have P5' := Lib.hid (P4.out.on b46)
      clear q0 q1 q2 p0 p1 p2 p3 p4 p5 p6 p7 b46 T5 X2 SO2 HQ4 HX4 A4 P4 B4 HSO4 HP4
      have yc0 := HT5.out.P0.cell 0 _ rfl
      have yc1 := HT5.out.P0.cell 1 _ rfl
      have yc2 := HT5.out.P0.cell 2 _ rfl
      have yc3 := HT5.out.P0.cell 3 _ rfl
      have zc0 := HT5.out.P2.cell 0 _ rfl
      have zc1 := HT5.out.P2.cell 1 _ rfl
      have zc2 := HT5.out.P2.cell 2 _ rfl
      have zc3 := HT5.out.P2.cell 3 _ rfl
      go_wp2_with fail
      refine (eqStoreRes_any C o1 y1 _ _ _ o2 y2 _ _ _ _ S _ HT5.out.G.row HT5.out.R.row (Nat.le_refl _)).mono ?_
      rintro r u6 ⟨rfl, b6⟩
      have HT6 := Lib.hid (HT5.out.on b6)
      have HQ6 := Lib.hid (HQ5.out.on b6)
      have HX6 := Lib.hid (HX5.out.below b6)
      have A6 := Lib.hid (A5.out.on b6)
      have P6 := Lib.hid (P5'.out.on b6)
      clear yc0 yc1 yc2 yc3 zc0 zc1 zc2 zc3 b6 HT5 HQ5 HX5 A5 P5'
      have q0 := HQ6.out.cell 0 _ rfl
      have q1 := HQ6.out.cell 1 _ rfl
      have q2 := HQ6.out.cell 2 _ rfl
      have d0 := A6.out.cell 0 _ rfl
      have d1 := A6.out.cell 1 _ rfl
      have d2 := A6.out.cell 2 _ rfl
      go_wp2_with fail
      refine wp_region_line (Bel u6) [(0, true), (1, true), (2, false), (3, false), (4, true)] (by kernel_rfl) (by kernel_rfl) (fun _ _ d _ _ h => by cases d <;> exact h) (Bel.drew u6) ?_
      have hst := Bel.drew u6
      have inst : Nonempty (Of (Bel u6)) := ⟨⟨_, hst⟩⟩
      have v0 := bel_cell q0
      have v1 := bel_cell q1
      have v2 := bel_cell q2
      have t0 := bel_cell d0
      have t1 := bel_cell d1
      have t2 := bel_cell d2
      generalize u6.drew = V6 at *
      iterate 2 (refine line_read rfl (by kernel_rfl) (fun K hK => ?_); go_big_quiet_op; refine hK _ ?_; clear hK K)
      refine line_alone rfl (by kernel_rfl) (fun K hK => ?_)
      refine call_any (args := #[.agg #[.slice a0p n0p c0p, .slice a0r n0r c0r, .int .i64 z0.d.s]]) rfl (by kernel_rfl) (by kernel_rfl) (TD.out _ (btr HT6.out.bel hst.out)) ?_
      rintro e x7 ⟨a7, y7, rfl, G7, b7⟩
      have hst2 := hst.on b7
      have R7 := G7.row
      refine ⟨_, rfl, hK _ _ hst2 ?_⟩
      clear hK K hst b7 G7
      have hst := hst2
      clear hst2
      simp only [Act.put, List.setIfInBounds_toArray, List.set_cons_zero, List.set_cons_succ]
      have X7 := (HX6.out.below hst.out).row
      refine line_alone rfl (by kernel_rfl) (fun K hK => ?_)
      refine call_wp (args := #[.agg #[.slice a4 z0.ps.length z0.ps.length, .slice x4 z0.d.rs.length z0.d.rs.length, .int .i64 z0.d.s], .agg #[.slice a7 z0.ps.length z0.ps.length, .slice y7 z0.d.rs.length z0.d.rs.length, .int .i64 z0.d.s]]) rfl (by kernel_rfl) (by kernel_rfl) (HE.out _ _ _ _ _ _ _ _ _ X7 R7) (fun wn hbn => ?_)
      have hst2 := hst.on hbn
      refine hK _ _ hst2 ?_
      clear hK K hst hbn
      have hst := hst2
      clear hst2
      simp only [Act.put, List.setIfInBounds_toArray, List.set_cons_zero, List.set_cons_succ]
      iterate 1 (refine line_read rfl (by kernel_rfl) (fun K hK => ?_); go_big_quiet_op; refine hK _ ?_; clear hK K)
      refine line_nil ?_
      have HT7 := Lib.hid (HT6.out.on hst.out)
      have HQ7 := Lib.hid (HQ6.out.on hst.out)
      have HX7 := Lib.hid (HX6.out.below hst.out)
      have A7 := Lib.hid (A6.out.on hst.out)
      have P7 := Lib.hid (P6.out.on hst.out)
      clear hst inst v0 v1 v2 t0 t1 t2 q0 q1 q2 d0 d1 d2 R7 X7 HT6 HQ6 HX6 A6 P6
      have q0 := HQ7.out.cell 0 _ rfl
      have q1 := HQ7.out.cell 1 _ rfl
      have q2 := HQ7.out.cell 2 _ rfl
      go_wp2_with fail
      refine (MA.out _ _ _ _ _ HX7.out).mono ?_
      rintro r u8 ⟨rfl, X8, I8⟩
      have HT8 := Lib.hid (HT7.out.arg I8)
      have A8 := Lib.hid (A7.out.inn I8 (.inl (Nat.lt_of_succ_lt hPW)))
      have P8 := Lib.hid (P7.out.inn I8 (.inl hPW))
      clear q0 q1 q2 X8 I8 HT7 HQ7 HX7 A7 P7 MA
      have yc0 := HT8.out.P0.cell 0 _ rfl
      have yc1 := HT8.out.P0.cell 1 _ rfl
      have yc2 := HT8.out.P0.cell 2 _ rfl
      have yc3 := HT8.out.P0.cell 3 _ rfl
      have zc0 := HT8.out.P2.cell 0 _ rfl
      have zc1 := HT8.out.P2.cell 1 _ rfl
      have zc2 := HT8.out.P2.cell 2 _ rfl
      have zc3 := HT8.out.P2.cell 3 _ rfl
      go_wp2_with fail
      refine (eqStoreRes_any C o1 y1 _ _ _ o2 y2 _ _ _ u8.heap.size S _ HT8.out.G.row HT8.out.R.row (Nat.le_refl _)).mono ?_
      rintro r u9 ⟨rfl, b9⟩
      have HT9 := Lib.hid (HT8.out.on b9)
      have A9 := Lib.hid (A8.out.on b9)
      have P9 := Lib.hid (P8.out.on b9)
      clear yc0 yc1 yc2 yc3 zc0 zc1 zc2 zc3 b9 HT8 A8 P8
      have zc0 := HT9.out.P2.cell 0 _ rfl
      have zc1 := HT9.out.P2.cell 1 _ rfl
      have zc2 := HT9.out.P2.cell 2 _ rfl
      have zc3 := HT9.out.P2.cell 3 _ rfl
      go_wp2_with fail
      refine (markStoreRes_any C o1 _ _ o2 _ _ _ _ S.d.s S _ HT9.out.G HSM.out).mono ?_
      rintro r u10 ⟨rfl, G10, I10⟩
      have HT10 := Lib.hid (HT9.out.ans I10 G10)
      have A10 := Lib.hid (A9.out.inn I10 (.inl (by have := HT9.out.o3; have := HT9.out.o4; exact Nat.lt_of_lt_of_le (Nat.lt_of_succ_lt hPW) (by omega))))
      have P10 := Lib.hid (P9.out.inn I10 (.inl (by have := HT9.out.o3; have := HT9.out.o4; exact Nat.lt_of_lt_of_le hPW (by omega))))
      clear zc0 zc1 zc2 zc3 G10 I10 HT9 A9 P9
      have zc0 := HT10.out.P2.cell 0 _ rfl
      have zc1 := HT10.out.P2.cell 1 _ rfl
      have zc2 := HT10.out.P2.cell 2 _ rfl
      have zc3 := HT10.out.P2.cell 3 _ rfl
      go_wp2_with fail
      refine (heldStoreRes_any C o1 _ _ o2 _ _ u10.heap.size S.d.s S _ HT10.out.G.row (Nat.le_refl _) HSM.out).mono ?_
      rintro r u11 ⟨rfl, b11⟩
      have HT11 := Lib.hid (HT10.out.on b11)
      have A11 := Lib.hid (A10.out.on b11)
      have P11 := Lib.hid (P10.out.on b11)
      have hmn : ¬ markN 1 S < 0 := by unfold markN; omega
      clear zc0 zc1 zc2 zc3 b11 HT10 A10 P10
      generalize hmq : markN 1 S = mn at *
      have d0 := A11.out.cell 0 _ rfl
      have d1 := A11.out.cell 1 _ rfl
      have d2 := A11.out.cell 2 _ rfl
      have p0 := P11.out.cell 0 _ rfl
      have p1 := P11.out.cell 1 _ rfl
      have p2 := P11.out.cell 2 _ rfl
      have p3 := P11.out.cell 3 _ rfl
      have p4 := P11.out.cell 4 _ rfl
      have p5 := P11.out.cell 5 _ rfl
      have p6 := P11.out.cell 6 _ rfl
      have p7 := P11.out.cell 7 _ rfl
      go_upto_region 27 with fail
      go_cut [14] from 69 to 74 (fun v' wx => StoreAt u11 C S v' wx)
      case first =>
        refine wp_region_fork (Bel u11) (by kernel_rfl) (Bel.drew u11) ?_
        have hst : (Bel u11) _ := (Bel.drew u11)
        have inst : Nonempty (Of (Bel u11)) := ⟨⟨_, hst⟩⟩
        have v0 := bel_cell d0
        have v1 := bel_cell d1
        have v2 := bel_cell d2
        have v3 := bel_cell p0
        have v4 := bel_cell p1
        have v5 := bel_cell p2
        have v6 := bel_cell p3
        have v7 := bel_cell p4
        have v8 := bel_cell p5
        have v9 := bel_cell p6
        have v10 := bel_cell p7
        generalize u11.drew = V1 at *
        refine any_seg 5 [(0, true), (2, true), (4, true)] (by kernel_rfl) (fun _ _ d _ _ h => by cases d <;> exact h) ?_
        iterate 3 (refine line_read rfl (by kernel_rfl) (fun K hK => ?_); go_big_quiet_op; refine hK _ ?_; clear hK K)
        refine line_nil ?_
        clear v0 v1 v2 v3 v4 v5 v6 v7 v8 v9 v10
        refine any_fork 1 6 (by kernel_rfl) rfl rfl (by kernel_rfl) (by kernel_rfl) (fun K hK => ?_) (fun K hK => ?_)
        · refine call_any (args := #[.agg #[.slice a0p n0p c0p, .slice a0r n0r c0r, .int .i64 z0.d.s]]) rfl (by kernel_rfl) (by kernel_rfl) (TD.out _ (btr HT11.out.bel hst.out)) ?_
          rintro e xw1 ⟨a7, y7, rfl, G7, hbn⟩
          have HRS := Lib.hid G7.row
          clear G7
          have hst2 := hst.on hbn
          refine ⟨_, rfl, hK _ _ hst2 ?_⟩
          clear hK K hst hbn
          have hst := hst2
          clear hst2
          simp only [Act.put, List.setIfInBounds_toArray, List.set_cons_zero, List.set_cons_succ]
          refine any_fork 3 6 (by kernel_rfl) rfl rfl (by kernel_rfl) (by kernel_rfl) (fun K hK => ?_) (fun K hK => ?_)
          · refine call_any (args := #[R8 rz]) rfl (by kernel_rfl) (by kernel_rfl) (toRoll_any rz _) ?_
            rintro e xw2 ⟨rfl, hbn⟩
            have hst2 := hst.on hbn
            have HRS2 := Lib.hid (HRS.out.on hbn)
            clear HRS
            have HRS := HRS2
            clear HRS2
            refine ⟨_, rfl, hK _ _ hst2 ?_⟩
            clear hK K hst hbn
            have hst := hst2
            clear hst2
            simp only [Act.put, List.setIfInBounds_toArray, List.set_cons_zero, List.set_cons_succ]
            refine any_fork 5 6 (by kernel_rfl) rfl rfl (by kernel_rfl) (by kernel_rfl) (fun K hK => ?_) (fun K hK => ?_)
            · refine call_any (args := #[.agg #[.slice a7 z0.ps.length z0.ps.length, .slice y7 z0.d.rs.length z0.d.rs.length, .int .i64 z0.d.s], R8 rz, .int .i64 tz]) rfl (by kernel_rfl) (by kernel_rfl) (IP.out _ _ _ _ _ HRS.out (btr HT11.out.bel hst.out)) ?_
              rintro e xw3 ⟨y1, m1, e1, y2, m2, e2, rfl, SOr, hbn⟩
              obtain ⟨rfl, rfl⟩ := SOr.len
              have leO := hst.out.size
              have HSO := Lib.hid SOr
              clear SOr HRS
              have hst2 := hst.on hbn
              refine ⟨_, rfl, hK _ _ hst2 ?_⟩
              clear hK K hst hbn
              have hst := hst2
              clear hst2
              simp only [Act.put, List.setIfInBounds_toArray, List.set_cons_zero, List.set_cons_succ]
              refine any_rest [(6, false), (7, false)] (by kernel_rfl) (fun _ _ d _ _ h => by cases d <;> exact h) ?_
              refine line_alone rfl (by kernel_rfl) (fun K hK => ?_)
              go_big_op
              have b9 := bal (Below.refl _ xw3) (.cells #[.int .i64 0, .slice none 0 0, .slice none 0 0, .int .i64 0] 35)
              have hst2 := hst.on b9
              have HA := Lib.hid (show At xw3.heap.size zero9 (xw3.alloc (.cells #[.int .i64 0, .slice none 0 0, .slice none 0 0, .int .i64 0] 35)) from At.new xw3 zero9 35)
              have leA : u11.heap.size ≤ xw3.heap.size := hst.out.size
              have HSO2 := Lib.hid (HSO.out.below b9)
              clear HSO
              have HSO := HSO2
              clear HSO2
              refine hK _ _ hst2 ?_
              clear hK K hst b9
              have hst := hst2
              clear hst2
              generalize xw3.alloc (.cells #[.int .i64 0, .slice none 0 0, .slice none 0 0, .int .i64 0] 35) = xa at *
              have A9 := HA.out
              unfold zero9 at A9
              have h0 := A9.cell 0 _ rfl
              have h1 := A9.cell 1 _ rfl
              have h2 := A9.cell 2 _ rfl
              have h3 := A9.cell 3 _ rfl
              have f0 := A9.free 0 _ rfl
              have f1 := A9.free 1 _ rfl
              have f2 := A9.free 2 _ rfl
              have f3 := A9.free 3 _ rfl
              have SO9 := HSO.out.stored (.inr (Nat.le_refl _)) (.int .i64 C) (.slice y1 S.ps.length e1) (.slice y2 S.d.rs.length e2) (.int .i64 S.d.s)
              have ltw := HA.out.lt (by simp [zero9])
              refine line_alone rfl (by kernel_rfl) (fun K hK => ?_)
              go_big_op
              refine hK _ _ (⟨(by (iterate 4 (refine bset ?_ (by dsimp only; omega) _)); exact hst.out)⟩) ?_
              clear hK K
              have A10 := (((A9.set 0 (.int .i64 C)).set 1 (.slice y1 S.ps.length e1)).set 2 (.slice y2 S.d.rs.length e2)).set 3 (.int .i64 S.d.s)
              refine line_nil ?_
              go_wp2_with fail
              go_meet
              case rel => exact ⟨_, _, _, _, _, _, _, rfl, A10, SO9, (by (iterate 4 (refine bset ?_ (by dsimp only; omega) _)); exact hst.out), leO, (.inr (Nat.le_refl _)), leA, by simpa [World.setCell] using ltw⟩
            · go_big_op
              have b9 := bal (Below.refl _ xw2) (.cells #[.int .i64 0, .slice none 0 0, .slice none 0 0, .int .i64 0] 35)
              have hst2 := hst.on b9
              have HA := Lib.hid (show At xw2.heap.size zero9 (xw2.alloc (.cells #[.int .i64 0, .slice none 0 0, .slice none 0 0, .int .i64 0] 35)) from At.new xw2 zero9 35)
              have leA : u11.heap.size ≤ xw2.heap.size := hst.out.size
              have HRS2 := Lib.hid (HRS.out.on b9)
              clear HRS
              have HRS := HRS2
              clear HRS2
              refine hK _ _ hst2 ?_
              clear hK K hst b9
              have hst := hst2
              clear hst2
              generalize xw2.alloc (.cells #[.int .i64 0, .slice none 0 0, .slice none 0 0, .int .i64 0] 35) = xa at *
              generalize xw2.heap.size = ga at *
              refine any_rest [(5, false), (7, false)] (by kernel_rfl) (fun _ _ d _ _ h => by cases d <;> exact h) ?_
              refine line_alone rfl (by kernel_rfl) (fun K hK => ?_)
              refine call_any (args := #[.agg #[.slice a7 z0.ps.length z0.ps.length, .slice y7 z0.d.rs.length z0.d.rs.length, .int .i64 z0.d.s], R8 rz, .int .i64 tz]) rfl (by kernel_rfl) (by kernel_rfl) (IP.out _ _ _ _ _ HRS.out (btr HT11.out.bel hst.out)) ?_
              rintro e xw4 ⟨y1, m1, e1, y2, m2, e2, rfl, SOr, hbn⟩
              obtain ⟨rfl, rfl⟩ := SOr.len
              have leO := hst.out.size
              have sep := Or.inl (b := xw4.heap.size ≤ ga) (HA.out.lt (by simp [zero9]))
              have HSO := Lib.hid SOr
              clear SOr HRS
              have hst2 := hst.on hbn
              have HA2 := Lib.hid (HA.out.on hbn)
              clear HA
              have HA := HA2
              clear HA2
              refine ⟨_, rfl, hK _ _ hst2 ?_⟩
              clear hK K hst hbn
              have hst := hst2
              clear hst2
              simp only [Act.put, List.setIfInBounds_toArray, List.set_cons_zero, List.set_cons_succ]
              have A9 := HA.out
              unfold zero9 at A9
              have h0 := A9.cell 0 _ rfl
              have h1 := A9.cell 1 _ rfl
              have h2 := A9.cell 2 _ rfl
              have h3 := A9.cell 3 _ rfl
              have f0 := A9.free 0 _ rfl
              have f1 := A9.free 1 _ rfl
              have f2 := A9.free 2 _ rfl
              have f3 := A9.free 3 _ rfl
              have SO9 := HSO.out.stored sep (.int .i64 C) (.slice y1 S.ps.length e1) (.slice y2 S.d.rs.length e2) (.int .i64 S.d.s)
              have ltw := HA.out.lt (by simp [zero9])
              refine line_alone rfl (by kernel_rfl) (fun K hK => ?_)
              go_big_op
              refine hK _ _ (⟨(by (iterate 4 (refine bset ?_ (by dsimp only; omega) _)); exact hst.out)⟩) ?_
              clear hK K
              have A10 := (((A9.set 0 (.int .i64 C)).set 1 (.slice y1 S.ps.length e1)).set 2 (.slice y2 S.d.rs.length e2)).set 3 (.int .i64 S.d.s)
              refine line_nil ?_
              go_wp2_with fail
              go_meet
              case rel => exact ⟨_, _, _, _, _, _, _, rfl, A10, SO9, (by (iterate 4 (refine bset ?_ (by dsimp only; omega) _)); exact hst.out), leO, sep, leA, by simpa [World.setCell] using ltw⟩
          · go_big_op
            have b9 := bal (Below.refl _ xw1) (.cells #[.int .i64 0, .slice none 0 0, .slice none 0 0, .int .i64 0] 35)
            have hst2 := hst.on b9
            have HA := Lib.hid (show At xw1.heap.size zero9 (xw1.alloc (.cells #[.int .i64 0, .slice none 0 0, .slice none 0 0, .int .i64 0] 35)) from At.new xw1 zero9 35)
            have leA : u11.heap.size ≤ xw1.heap.size := hst.out.size
            have HRS2 := Lib.hid (HRS.out.on b9)
            clear HRS
            have HRS := HRS2
            clear HRS2
            refine hK _ _ hst2 ?_
            clear hK K hst b9
            have hst := hst2
            clear hst2
            generalize xw1.alloc (.cells #[.int .i64 0, .slice none 0 0, .slice none 0 0, .int .i64 0] 35) = xa at *
            generalize xw1.heap.size = ga at *
            refine any_rest [(3, false), (5, false), (7, false)] (by kernel_rfl) (fun _ _ d _ _ h => by cases d <;> exact h) ?_
            refine line_alone rfl (by kernel_rfl) (fun K hK => ?_)
            refine call_any (args := #[R8 rz]) rfl (by kernel_rfl) (by kernel_rfl) (toRoll_any rz _) ?_
            rintro e xw5 ⟨rfl, hbn⟩
            have hst2 := hst.on hbn
            have HA2 := Lib.hid (HA.out.on hbn)
            clear HA
            have HA := HA2
            clear HA2
            have HRS2 := Lib.hid (HRS.out.on hbn)
            clear HRS
            have HRS := HRS2
            clear HRS2
            refine ⟨_, rfl, hK _ _ hst2 ?_⟩
            clear hK K hst hbn
            have hst := hst2
            clear hst2
            simp only [Act.put, List.setIfInBounds_toArray, List.set_cons_zero, List.set_cons_succ]
            refine line_alone rfl (by kernel_rfl) (fun K hK => ?_)
            refine call_any (args := #[.agg #[.slice a7 z0.ps.length z0.ps.length, .slice y7 z0.d.rs.length z0.d.rs.length, .int .i64 z0.d.s], R8 rz, .int .i64 tz]) rfl (by kernel_rfl) (by kernel_rfl) (IP.out _ _ _ _ _ HRS.out (btr HT11.out.bel hst.out)) ?_
            rintro e xw6 ⟨y1, m1, e1, y2, m2, e2, rfl, SOr, hbn⟩
            obtain ⟨rfl, rfl⟩ := SOr.len
            have leO := hst.out.size
            have sep := Or.inl (b := xw6.heap.size ≤ ga) (HA.out.lt (by simp [zero9]))
            have HSO := Lib.hid SOr
            clear SOr HRS
            have hst2 := hst.on hbn
            have HA2 := Lib.hid (HA.out.on hbn)
            clear HA
            have HA := HA2
            clear HA2
            refine ⟨_, rfl, hK _ _ hst2 ?_⟩
            clear hK K hst hbn
            have hst := hst2
            clear hst2
            simp only [Act.put, List.setIfInBounds_toArray, List.set_cons_zero, List.set_cons_succ]
            have A9 := HA.out
            unfold zero9 at A9
            have h0 := A9.cell 0 _ rfl
            have h1 := A9.cell 1 _ rfl
            have h2 := A9.cell 2 _ rfl
            have h3 := A9.cell 3 _ rfl
            have f0 := A9.free 0 _ rfl
            have f1 := A9.free 1 _ rfl
            have f2 := A9.free 2 _ rfl
            have f3 := A9.free 3 _ rfl
            have SO9 := HSO.out.stored sep (.int .i64 C) (.slice y1 S.ps.length e1) (.slice y2 S.d.rs.length e2) (.int .i64 S.d.s)
            have ltw := HA.out.lt (by simp [zero9])
            refine line_alone rfl (by kernel_rfl) (fun K hK => ?_)
            go_big_op
            refine hK _ _ (⟨(by (iterate 4 (refine bset ?_ (by dsimp only; omega) _)); exact hst.out)⟩) ?_
            clear hK K
            have A10 := (((A9.set 0 (.int .i64 C)).set 1 (.slice y1 S.ps.length e1)).set 2 (.slice y2 S.d.rs.length e2)).set 3 (.int .i64 S.d.s)
            refine line_nil ?_
            go_wp2_with fail
            go_meet
            case rel => exact ⟨_, _, _, _, _, _, _, rfl, A10, SO9, (by (iterate 4 (refine bset ?_ (by dsimp only; omega) _)); exact hst.out), leO, sep, leA, by simpa [World.setCell] using ltw⟩
        · go_big_op
          have b9 := bal (Below.refl _ V1) (.cells #[.int .i64 0, .slice none 0 0, .slice none 0 0, .int .i64 0] 35)
          have hst2 := hst.on b9
          have HA := Lib.hid (show At V1.heap.size zero9 (V1.alloc (.cells #[.int .i64 0, .slice none 0 0, .slice none 0 0, .int .i64 0] 35)) from At.new V1 zero9 35)
          have leA : u11.heap.size ≤ V1.heap.size := hst.out.size
          refine hK _ _ hst2 ?_
          clear hK K hst b9
          have hst := hst2
          clear hst2
          generalize V1.alloc (.cells #[.int .i64 0, .slice none 0 0, .slice none 0 0, .int .i64 0] 35) = xa at *
          generalize V1.heap.size = ga at *
          refine any_rest [(1, false), (3, false), (5, false), (7, false)] (by kernel_rfl) (fun _ _ d _ _ h => by cases d <;> exact h) ?_
          refine line_alone rfl (by kernel_rfl) (fun K hK => ?_)
          refine call_any (args := #[.agg #[.slice a0p n0p c0p, .slice a0r n0r c0r, .int .i64 z0.d.s]]) rfl (by kernel_rfl) (by kernel_rfl) (TD.out _ (btr HT11.out.bel hst.out)) ?_
          rintro e xw7 ⟨a7, y7, rfl, G7, hbn⟩
          have HRS := Lib.hid G7.row
          clear G7
          have hst2 := hst.on hbn
          have HA2 := Lib.hid (HA.out.on hbn)
          clear HA
          have HA := HA2
          clear HA2
          refine ⟨_, rfl, hK _ _ hst2 ?_⟩
          clear hK K hst hbn
          have hst := hst2
          clear hst2
          simp only [Act.put, List.setIfInBounds_toArray, List.set_cons_zero, List.set_cons_succ]
          refine line_alone rfl (by kernel_rfl) (fun K hK => ?_)
          refine call_any (args := #[R8 rz]) rfl (by kernel_rfl) (by kernel_rfl) (toRoll_any rz _) ?_
          rintro e xw8 ⟨rfl, hbn⟩
          have hst2 := hst.on hbn
          have HA2 := Lib.hid (HA.out.on hbn)
          clear HA
          have HA := HA2
          clear HA2
          have HRS2 := Lib.hid (HRS.out.on hbn)
          clear HRS
          have HRS := HRS2
          clear HRS2
          refine ⟨_, rfl, hK _ _ hst2 ?_⟩
          clear hK K hst hbn
          have hst := hst2
          clear hst2
          simp only [Act.put, List.setIfInBounds_toArray, List.set_cons_zero, List.set_cons_succ]
          refine line_alone rfl (by kernel_rfl) (fun K hK => ?_)
          refine call_any (args := #[.agg #[.slice a7 z0.ps.length z0.ps.length, .slice y7 z0.d.rs.length z0.d.rs.length, .int .i64 z0.d.s], R8 rz, .int .i64 tz]) rfl (by kernel_rfl) (by kernel_rfl) (IP.out _ _ _ _ _ HRS.out (btr HT11.out.bel hst.out)) ?_
          rintro e xw9 ⟨y1, m1, e1, y2, m2, e2, rfl, SOr, hbn⟩
          obtain ⟨rfl, rfl⟩ := SOr.len
          have leO := hst.out.size
          have sep := Or.inl (b := xw9.heap.size ≤ ga) (HA.out.lt (by simp [zero9]))
          have HSO := Lib.hid SOr
          clear SOr HRS
          have hst2 := hst.on hbn
          have HA2 := Lib.hid (HA.out.on hbn)
          clear HA
          have HA := HA2
          clear HA2
          refine ⟨_, rfl, hK _ _ hst2 ?_⟩
          clear hK K hst hbn
          have hst := hst2
          clear hst2
          simp only [Act.put, List.setIfInBounds_toArray, List.set_cons_zero, List.set_cons_succ]
          have A9 := HA.out
          unfold zero9 at A9
          have h0 := A9.cell 0 _ rfl
          have h1 := A9.cell 1 _ rfl
          have h2 := A9.cell 2 _ rfl
          have h3 := A9.cell 3 _ rfl
          have f0 := A9.free 0 _ rfl
          have f1 := A9.free 1 _ rfl
          have f2 := A9.free 2 _ rfl
          have f3 := A9.free 3 _ rfl
          have SO9 := HSO.out.stored sep (.int .i64 C) (.slice y1 S.ps.length e1) (.slice y2 S.d.rs.length e2) (.int .i64 S.d.s)
          have ltw := HA.out.lt (by simp [zero9])
          refine line_alone rfl (by kernel_rfl) (fun K hK => ?_)
          go_big_op
          refine hK _ _ (⟨(by (iterate 4 (refine bset ?_ (by dsimp only; omega) _)); exact hst.out)⟩) ?_
          clear hK K
          have A10 := (((A9.set 0 (.int .i64 C)).set 1 (.slice y1 S.ps.length e1)).set 2 (.slice y2 S.d.rs.length e2)).set 3 (.int .i64 S.d.s)
          refine line_nil ?_
          go_wp2_with fail
          go_meet
          case rel => exact ⟨_, _, _, _, _, _, _, rfl, A10, SO9, (by (iterate 4 (refine bset ?_ (by dsimp only; omega) _)); exact hst.out), leO, sep, leA, by simpa [World.setCell] using ltw⟩
      case rest =>
        obtain ⟨k3, l3, h3, s1, g1, s2, g2, rfl, X13, SO13, b13, r1, r2, r3, r4⟩ := hcut
        have HT13 := Lib.hid (HT11.out.on b13)
        have HR13 := Lib.hid SO13.row
        have HP13 := Lib.hid X13
        clear d0 d1 d2 p0 p1 p2 p3 p4 p5 p6 p7 b13 SO13 X13 HT11 A11 P11
        have yc0 := HT13.out.P0.cell 0 _ rfl
        have yc1 := HT13.out.P0.cell 1 _ rfl
        have yc2 := HT13.out.P0.cell 2 _ rfl
        have yc3 := HT13.out.P0.cell 3 _ rfl
        have zc0 := HP13.out.cell 0 _ rfl
        have zc1 := HP13.out.cell 1 _ rfl
        have zc2 := HP13.out.cell 2 _ rfl
        have zc3 := HP13.out.cell 3 _ rfl
        go_wp2_with fail
        refine (eqStoreRes_any C s1 y1 _ _ _ s2 y2 _ _ _ _ S _ HR13.out HT13.out.R.row (Nat.le_refl _)).mono ?_
        rintro r u14 ⟨rfl, b14⟩
        have HT14 := Lib.hid (HT13.out.on b14)
        clear yc0 yc1 yc2 yc3 zc0 zc1 zc2 zc3 b14 HT13 HP13 HR13
        have zc0 := HT14.out.P2.cell 0 _ rfl
        have zc1 := HT14.out.P2.cell 1 _ rfl
        have zc2 := HT14.out.P2.cell 2 _ rfl
        have zc3 := HT14.out.P2.cell 3 _ rfl
        go_wp2_with fail
        have HH := heldStoreRes_any C o1 S.ps.length f1 o2 S.d.rs.length f2 u14.heap.size S.d.s S _ HT14.out.G.row (Nat.le_refl _) HSM.out
        rw [hmq] at HH
        refine HH.mono ?_
        rintro r u15 ⟨rfl, b15⟩
        have hb := (HT14.out.on b15).bel
        go_wp2_with fail
        go_ret
        exact ⟨rfl, hb⟩

end Go.Proofs.YtcolecidbalmhaaGreatDoor.fnExactRollStore
