/- Each beginning of a chain is one, and epochs go up one by one, at every input that is drawn out of whatever bytes. The walk: the law's Go text answers true and turns nothing that was there. Conditions: as the theorem states. -/
import Derived.Test.YtmdknbgpddnplaaGreatDoorS8
import Derived.Test.YtmdknbgpddnplaaGreatDoorS12
import Derived.Test.YtmdknbgpddnplaaGreatDoorS13
import Derived.WalkKit
import Derived.Below
namespace Go.Proofs.YtmdknbgpddnplaaGreatDoor.fnChains
open Go.RowKit
set_option linter.unusedVariables false

theorem ir0 (c v : Int) (w : World) : Sem.run Tryz.prog (Instr.field 47 (.agg #[.int .i64 c, .int .i64 v]) 0) w = .ok (.int .i64 c) w := by kernel_rfl
theorem ir1 (c v : Int) (w : World) : Sem.run Tryz.prog (Instr.field 47 (.agg #[.int .i64 c, .int .i64 v]) 1) w = .ok (.int .i64 v) w := by kernel_rfl
set_option maxHeartbeats 6400000 in
set_option maxRecDepth 100000 in
theorem walk (a0 : Option Addr) (len0 cap0 : Nat) (z0 : List Int) (w : World) (w0 : Row .u8 w w.heap.size a0 len0 cap0 z0) (lab : Labels w) (ert : ErrT w) :
    Calls Tryz.prog 4 #[.slice a0 len0 cap0] w fun e w' => e = .returned (.bool true) ∧ Below w.heap.size w w' := by
  have hl := w0.fits
  have hm := w0.most
  unfold maxLen at hm
  by_cases hbig : 1048576 < len0
  · have hB : decide (1048576 < len0) = true := by simp [hbig]
    go_enter Tryz.func4, Tryz.ntmps4
    go_wp2_with fail
    refine (lwBig_any _ _ _ _ (by omega)).mono ?_
    rintro r w' ⟨rfl, rfl⟩
    go_wp2_with fail
    go_ret
    exact ⟨rfl, Below.refl _ _⟩
  have hB : decide (1048576 < len0) = false := by simp [hbig]
  have f0 := ir0
  have f1 := ir1
  go_enter Tryz.func4, Tryz.ntmps4
  go_wp2_with fail
  refine (lwBig_any _ _ _ _ (by omega)).mono ?_
  rintro r w' ⟨rfl, rfl⟩
  go_wp2_with fail
  refine (DrawChainFault_any w0).mono ?_
  rintro r u1 ⟨q, lx, ln, lc, rs, t, rfl, hq, hrs, RL, b1⟩
  have hqm : q.n.size ≤ maxLen := by simp only [maxLen]; omega
  have b1a := bal b1 (.cells #[.string q.n, .int .i64 q.a, .int .i64 q.b, .int .i64 q.e, .int .i64 q.u] 25)
  have AP : At u1.heap.size q.vals (u1.alloc (.cells #[.string q.n, .int .i64 q.a, .int .i64 q.b, .int .i64 q.e, .int .i64 q.u] 25)) := At.new u1 q.vals 25
  have RL1 := RL.on (bal (Below.refl _ u1) (.cells #[.string q.n, .int .i64 q.a, .int .i64 q.b, .int .i64 q.e, .int .i64 q.u] 25))
  have hlf := RL.fits
  have hlm := RL.most
  unfold maxLen at hlm
  have hlen := Lib.hid RL.length
  have CI := fun w l e hR => implChainFault_any lx ln lc w.heap.size rs q t w l e hR (Nat.le_refl _) hqm
  have CS := fun w hR => specChainFault_any lx ln lc w.heap.size rs q t w hR (Nat.le_refl _) hqm
  have KI := fun (k : Nat) w l e hR => implChainFault_any lx k lc w.heap.size (rs.take k) q t w l e hR (Nat.le_refl _) hqm
  have HZ := Lib.hid (fun h : chainF q rs t = 0 => And.intro (chainF_take h) (And.intro (chainG_epoch rs q t (chainF_zero h).2.2) (And.intro (pin_bounds (chainF_zero h).1).2.2.2.1 (chainF_zero h).2.1)))
  generalize chainF q rs t = c at *
  clear hq hrs RL b1
  have k0 := AP.cell 0 _ rfl
  have k1 := AP.cell 1 _ rfl
  have k2 := AP.cell 2 _ rfl
  have k3 := AP.cell 3 _ rfl
  have k4 := AP.cell 4 _ rfl
  go_wp2_with fail
  generalize u1.alloc (.cells #[.string q.n, .int .i64 q.a, .int .i64 q.b, .int .i64 q.e, .int .i64 q.u] 25) = v1 at *
  refine (CI _ (lab.on b1a) (ert.on b1a) RL1).mono ?_
  rintro r u2 ⟨rfl, b2⟩
  have B2 := btr b1a b2
  have AP2 := AP.on b2
  have RL2 := RL1.on b2
  clear b1a b2 AP RL1 CI k0 k1 k2 k3 k4
  go_wp2_with fail
  refine (DrawRollSum_any (w0.on B2)).mono ?_
  rintro r u3 ⟨p, rfl, hp, b3⟩
  have hpm : p.n.size ≤ maxLen := by simp only [maxLen]; omega
  have b3a := bal b3 (.cells #[.string p.n, .int .i64 p.a, .int .i64 p.b, .int .i64 p.e, .int .i64 p.u] 25)
  have AX : At u3.heap.size p.vals (u3.alloc (.cells #[.string p.n, .int .i64 p.a, .int .i64 p.b, .int .i64 p.e, .int .i64 p.u] 25)) := At.new u3 p.vals 25
  have SI := fun w l e => implRollSum_any p w l e hpm
  have SS := fun w => specRollSum_any p w hpm
  generalize p.f = pf at *
  generalize rsumV p = py at *
  have AP3 := AP2.on b3a
  have RL3 := RL2.on b3a
  have B3 := btr B2 b3a
  clear B2 b3 b3a AP2 RL2 hp
  have k0 := AP3.cell 0 _ rfl
  have k1 := AP3.cell 1 _ rfl
  have k2 := AP3.cell 2 _ rfl
  have k3 := AP3.cell 3 _ rfl
  have k4 := AP3.cell 4 _ rfl
  have m0 := AX.cell 0 _ rfl
  have m1 := AX.cell 1 _ rfl
  have m2 := AX.cell 2 _ rfl
  have m3 := AX.cell 3 _ rfl
  have m4 := AX.cell 4 _ rfl
  go_wp2_with fail
  generalize u3.alloc (.cells #[.string p.n, .int .i64 p.a, .int .i64 p.b, .int .i64 p.e, .int .i64 p.u] 25) = v3 at *
  generalize u3.heap.size = pb at *
  refine wp_region_line (Bel v3) [(0, true), (1, true), (2, true), (3, true), (4, false), (5, true), (6, true), (7, true), (10, true), (8, false), (9, true), (11, false), (12, true), (13, true), (14, true), (15, true), (16, true), (19, true), (17, false), (18, true), (20, false), (21, true), (22, true), (23, true)] (by kernel_rfl) (by kernel_rfl) (fun _ _ d _ _ h => by cases d <;> exact h) (Bel.drew v3) ?_
  have hst := Bel.drew v3
  have inst : Nonempty (Of (Bel v3)) := ⟨⟨_, hst⟩⟩
  have q0 := bel_cell k0
  have q1 := bel_cell k1
  have q2 := bel_cell k2
  have q3 := bel_cell k3
  have q4 := bel_cell k4
  have y0 := bel_cell m0
  have y1 := bel_cell m1
  have y2 := bel_cell m2
  have y3 := bel_cell m3
  have y4 := bel_cell m4
  generalize v3.drew = V1 at *
  iterate 4 (refine line_read rfl (by kernel_rfl) (fun K hK => ?_); go_big_quiet_op; refine hK _ ?_; clear hK K)
  refine line_alone rfl (by kernel_rfl) (fun K hK => ?_)
  refine call_wp (args := #[P5 q, .slice lx ln lc, .int .i64 t]) rfl (by kernel_rfl) (by kernel_rfl) (CS _ (RL3.on hst.out)) (fun wn hbn => ?_)
  have hst2 := hst.on hbn
  refine hK _ _ hst2 ?_
  clear hK K hst hbn
  have hst := hst2
  clear hst2
  simp only [Act.put, List.setIfInBounds_toArray, List.set_cons_zero, List.set_cons_succ]
  iterate 4 (refine line_read rfl (by kernel_rfl) (fun K hK => ?_); go_big_quiet_op; refine hK _ ?_; clear hK K)
  refine line_alone rfl (by kernel_rfl) (fun K hK => ?_)
  refine call_wp (args := #[P5 p]) rfl (by kernel_rfl) (by kernel_rfl) (SI _ (lab.on (btr B3 hst.out)) (ert.on (btr B3 hst.out))) (fun wn hbn => ?_)
  have hst2 := hst.on hbn
  refine hK _ _ hst2 ?_
  clear hK K hst hbn
  have hst := hst2
  clear hst2
  simp only [Act.put, List.setIfInBounds_toArray, List.set_cons_zero, List.set_cons_succ]
  iterate 1 (refine line_read rfl (by kernel_rfl) (fun K hK => ?_); go_big_quiet_op; refine hK _ ?_; clear hK K)
  refine line_alone rfl (by kernel_rfl) (fun K hK => ?_)
  refine call_wp (args := #[P5 p]) rfl (by kernel_rfl) (by kernel_rfl) (SS _) (fun wn hbn => ?_)
  have hst2 := hst.on hbn
  refine hK _ _ hst2 ?_
  clear hK K hst hbn
  have hst := hst2
  clear hst2
  simp only [Act.put, List.setIfInBounds_toArray, List.set_cons_zero, List.set_cons_succ]
  iterate 6 (refine line_read rfl (by kernel_rfl) (fun K hK => ?_); go_big_quiet_op; refine hK _ ?_; clear hK K)
  refine line_alone rfl (by kernel_rfl) (fun K hK => ?_)
  refine call_wp (args := #[P5 p]) rfl (by kernel_rfl) (by kernel_rfl) (SI _ (lab.on (btr B3 hst.out)) (ert.on (btr B3 hst.out))) (fun wn hbn => ?_)
  have hst2 := hst.on hbn
  refine hK _ _ hst2 ?_
  clear hK K hst hbn
  have hst := hst2
  clear hst2
  simp only [Act.put, List.setIfInBounds_toArray, List.set_cons_zero, List.set_cons_succ]
  iterate 1 (refine line_read rfl (by kernel_rfl) (fun K hK => ?_); go_big_quiet_op; refine hK _ ?_; clear hK K)
  refine line_alone rfl (by kernel_rfl) (fun K hK => ?_)
  refine call_wp (args := #[P5 p]) rfl (by kernel_rfl) (by kernel_rfl) (SS _) (fun wn hbn => ?_)
  have hst2 := hst.on hbn
  refine hK _ _ hst2 ?_
  clear hK K hst hbn
  have hst := hst2
  clear hst2
  simp only [Act.put, List.setIfInBounds_toArray, List.set_cons_zero, List.set_cons_succ]
  iterate 3 (refine line_read rfl (by kernel_rfl) (fun K hK => ?_); go_big_quiet_op; refine hK _ ?_; clear hK K)
  refine line_nil ?_
  have B4 := btr B3 hst.out
  have AP4 := AP3.on hst.out
  have RL4 := RL3.on hst.out
  clear hst inst q0 q1 q2 q3 q4 y0 y1 y2 y3 y4 k0 k1 k2 k3 k4 m0 m1 m2 m3 m4 AP3 AX RL3 B3 SI SS CS
  by_cases hc0 : c = 0
  case neg =>
    have n0 : (c == 0) = false := by simpa using hc0
    clear HZ KI
    go_wp2_with fail
    go_ret
    exact ⟨rfl, B4⟩
  obtain ⟨hz1, hz2, ⟨he0, he1⟩, hz3⟩ := HZ.out hc0
  subst hc0
  have HZ1 := Lib.hid hz1
  have HZ2 := Lib.hid hz2
  have hl8 : ln ≤ 8 := by have := hlen.out; omega
  clear hz1 hz2 hz3 HZ
  go_wp2_with fail
  generalize wn = V4 at *
  go_loopw [8] (fun i wr => ∃ k : Nat, k ≤ ln ∧ i = .int .i64 k ∧ Below V4.heap.size V4 wr) (fun i _ => ln - (intOf i).toNat)
  case atStart => exact ⟨0, Nat.zero_le _, rfl, Below.refl _ _⟩
  case round =>
    obtain ⟨k, hk, rfl, hb⟩ := hrel
    have B5 := btr B4 hb
    by_cases hlt : k < ln
    · have AP5 := AP4.on hb
      have RL5 := RL4.on hb
      obtain ⟨bb, off, ha, hbB, c0, c1, c2, c3, -⟩ := RL5.at' hlt
      have KC := KI k
      rw [HZ1.out k] at KC
      have hep := HZ2.out k (by rw [hlen.out]; exact hlt)
      generalize rs[k]?.getD roll0 = rk at *
      rw [hep] at c3
      subst ha
      have RK := RL5.take (k := k) (by omega)
      have k0 := AP5.cell 0 _ rfl
      have k1 := AP5.cell 1 _ rfl
      have k2 := AP5.cell 2 _ rfl
      have k3 := AP5.cell 3 _ rfl
      have k4 := AP5.cell 4 _ rfl
      clear hep c0 c1 c2 KI
      go_wp2_with fail
      refine wp_region_line (Bel wr) [(0, true), (1, true), (2, true), (3, true), (4, true), (5, false), (6, true), (7, true), (8, true), (9, true), (10, true), (11, true), (12, true), (13, true), (14, true), (15, true), (16, true), (17, true), (18, true), (19, true), (20, true)] (by kernel_rfl) (by kernel_rfl) (fun _ _ d _ _ h => by cases d <;> exact h) (Bel.drew wr) ?_
      have hst := Bel.drew wr
      have inst : Nonempty (Of (Bel wr)) := ⟨⟨_, hst⟩⟩
      have q0 := bel_cell k0
      have q1 := bel_cell k1
      have q2 := bel_cell k2
      have q3 := bel_cell k3
      have q4 := bel_cell k4
      have y3 := bel_cell c3
      generalize wr.drew = V5 at *
      iterate 5 (refine line_read rfl (by kernel_rfl) (fun K hK => ?_); go_big_quiet_op; refine hK _ ?_; clear hK K)
      refine line_alone rfl (by kernel_rfl) (fun K hK => ?_)
      refine call_wp (args := #[P5 q, .slice (some ⟨bb, off, none⟩) k lc, .int .i64 t]) rfl (by kernel_rfl) (by kernel_rfl) (KC _ (lab.on (btr B5 hst.out)) (ert.on (btr B5 hst.out)) (RK.on hst.out)) (fun wn hbn => ?_)
      have hst2 := hst.on hbn
      refine hK _ _ hst2 ?_
      clear hK K hst hbn
      have hst := hst2
      clear hst2
      simp only [Act.put, List.setIfInBounds_toArray, List.set_cons_zero, List.set_cons_succ]
      iterate 15 (refine line_read rfl (by kernel_rfl) (fun K hK => ?_); go_big_quiet_op; refine hK _ ?_; clear hK K)
      refine line_nil ?_
      have bn := btr hb hst.out
      clear hst inst q0 q1 q2 q3 q4 y3 c3 k0 k1 k2 k3 k4 AP5 RL5 B5 KC
      go_wp2_with fail
      go_roundw
      case rel => exact ⟨k + 1, by omega, by go_num, bn⟩
      case measure => simp [intOf]; omega
    · obtain rfl : k = ln := by omega
      go_wp2_with fail
      go_ret
      exact ⟨rfl, B5⟩

end Go.Proofs.YtmdknbgpddnplaaGreatDoor.fnChains
