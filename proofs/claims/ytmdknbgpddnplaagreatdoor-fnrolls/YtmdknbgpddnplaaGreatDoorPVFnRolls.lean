/- A next pin that was signed by who had the last one is taken, by nobody else, and once, at every input that is drawn out of whatever bytes. The walk: the law's Go text answers true and turns nothing that was there. Conditions: as the theorem states. -/
import Derived.Test.YtmdknbgpddnplaaGreatDoorS5
import Derived.Test.YtmdknbgpddnplaaGreatDoorS7
import Derived.Test.YtmdknbgpddnplaaGreatDoorS8
import Derived.Test.YtmdknbgpddnplaaGreatDoorS10
import Derived.Test.YtmdknbgpddnplaaGreatDoorS12
import Derived.Test.YtmdknbgpddnplaaGreatDoorS13
import Derived.WalkKit
import Derived.Below
namespace Go.Proofs.YtmdknbgpddnplaaGreatDoor.fnRolls
open Go.RowKit
set_option linter.unusedVariables false

theorem ir1 (c v : Int) (w : World) : Sem.run Tryz.prog (Instr.field 47 (.agg #[.int .i64 c, .int .i64 v]) 1) w = .ok (.int .i64 v) w := by kernel_rfl
theorem rr0 (c : Int) (n : ByteArray) (a b e u s x y : Int) (w : World) : Sem.run Tryz.prog (Instr.field 42 (.agg #[.int .i64 c, .string n, .int .i64 a, .int .i64 b, .int .i64 e, .int .i64 u, .int .i64 s, .int .i64 x, .int .i64 y]) 0) w = .ok (.int .i64 c) w := by kernel_rfl
theorem rr1 (c : Int) (n : ByteArray) (a b e u s x y : Int) (w : World) : Sem.run Tryz.prog (Instr.field 42 (.agg #[.int .i64 c, .string n, .int .i64 a, .int .i64 b, .int .i64 e, .int .i64 u, .int .i64 s, .int .i64 x, .int .i64 y]) 1) w = .ok (.agg #[.string n, .int .i64 a, .int .i64 b, .int .i64 e, .int .i64 u, .int .i64 s, .int .i64 x, .int .i64 y]) w := by kernel_rfl
theorem roll_same (r : RollD) (w : World) : (Op.equalIn 10000 29 (R8 r) (R8 r)).run Tryz.prog w = .ok true w := by
  have u3 := Tryz.underlying2
  have a3 := Tryz.isAgg2
  have z3 := Tryz.sizeOf2
  have u9 := Tryz.underlying9
  have a9 := Tryz.isAgg9
  have z9 := Tryz.sizeOf9
  have u5 := Tryz.underlying25
  have a5 := Tryz.isAgg25
  have z5 := Tryz.sizeOf25
  have u2 := Tryz.underlying27
  have a2 := Tryz.isAgg27
  have z2 := Tryz.sizeOf27
  have hS : Tryz.prog.underlying 29 = some (.struct (Tryz.prog.fieldsOf 29)) := by kernel_rfl
  have hp : Tryz.prog.stoodInHeld 29 = false := by kernel_rfl
  have hS5 : Tryz.prog.underlying 25 = some (.struct (Tryz.prog.fieldsOf 25)) := by kernel_rfl
  have hp5 : Tryz.prog.stoodInHeld 25 = false := by kernel_rfl
  have hS2 : Tryz.prog.underlying 27 = some (.struct (Tryz.prog.fieldsOf 27)) := by kernel_rfl
  have hp2 : Tryz.prog.stoodInHeld 27 = false := by kernel_rfl
  rw [show (10000 : Nat) = 9998 + 1 + 1 from rfl, run_equalIn_agg w (9998 + 1) 29 _ _ hS hp]
  simp only [Program.fieldsOf, Tryz.underlying29]
  go_simp
theorem roll_neq8 (n : ByteArray) (a b e u s x y : Int) (w : World) : (binOp .neq 29 (.agg #[.string n, .int .i64 a, .int .i64 b, .int .i64 e, .int .i64 u, .int .i64 s, .int .i64 x, .int .i64 y]) (.agg #[.string n, .int .i64 a, .int .i64 b, .int .i64 e, .int .i64 u, .int .i64 s, .int .i64 x, .int .i64 y])).run Tryz.prog w = .ok (.bool false) w := by
  rw [run_neq_struct, roll_same ⟨⟨n, a, b, e, u⟩, s, x, y⟩]
  rfl
theorem roll_guard8 (op : BinOp) (x1 x2 : Operand) (n : ByteArray) (a b e u s x y : Int) (w : World) : (eqGuard op 29 x1 x2 (.agg #[.string n, .int .i64 a, .int .i64 b, .int .i64 e, .int .i64 u, .int .i64 s, .int .i64 x, .int .i64 y]) (.agg #[.string n, .int .i64 a, .int .i64 b, .int .i64 e, .int .i64 u, .int .i64 s, .int .i64 x, .int .i64 y])).run Tryz.prog w = .ok () w := run_eqGuard_agg w op 29 x1 x2 _ _ (by kernel_rfl)
theorem signL_name (s : Int) {p : PinD} (h : p.n.size ≤ maxLen) : (signL s p).p.n.size ≤ maxLen := by
  unfold signL
  split
  · exact h
  · exact Nat.zero_le _
/-- Nothing of it has turned, and what was told is false. -/
def WentOn (W : World) (v : Value) (wx : World) : Prop := v = .bool false ∧ Below W.heap.size W wx
set_option maxHeartbeats 12800000 in
set_option maxRecDepth 100000 in
theorem walk (a0 : Option Addr) (len0 cap0 : Nat) (z0 : List Int) (w : World) (w0 : Row .u8 w w.heap.size a0 len0 cap0 z0) (lab : Labels w) (ert : ErrT w) :
    Calls Tryz.prog 3 #[.slice a0 len0 cap0] w fun e w' => e = .returned (.bool true) ∧ Below w.heap.size w w' := by
  have hl := w0.fits
  have hm := w0.most
  unfold maxLen at hm
  by_cases hbig : 1048576 < len0
  · have hB : decide (1048576 < len0) = true := by simp [hbig]
    go_enter Tryz.func3, Tryz.ntmps3
    go_wp2_with fail
    refine (lwBig_any _ _ _ _ (by omega)).mono ?_
    rintro r w' ⟨rfl, rfl⟩
    go_wp2_with fail
    go_ret
    exact ⟨rfl, Below.refl _ _⟩
  have hB : decide (1048576 < len0) = false := by simp [hbig]
  go_enter Tryz.func3, Tryz.ntmps3
  go_wp2_with fail
  refine (lwBig_any _ _ _ _ (by omega)).mono ?_
  rintro r w' ⟨rfl, rfl⟩
  go_wp2_with fail
  refine (DrawCheckRoll_any w0).mono ?_
  rintro e u1 ⟨q, r, t, rfl, hq, hr, b1⟩
  have hqm : q.n.size ≤ maxLen := by simp only [maxLen]; omega
  have hrm : r.p.n.size ≤ maxLen := by simp only [maxLen]; omega
  have b1a := bal (bal b1 (.cells #[.string q.n, .int .i64 q.a, .int .i64 q.b, .int .i64 q.e, .int .i64 q.u] 25)) (.cells #[.string r.p.n, .int .i64 r.p.a, .int .i64 r.p.b, .int .i64 r.p.e, .int .i64 r.p.u, .int .i64 r.b, .int .i64 r.x, .int .i64 r.y] 29)
  have AQ : At u1.heap.size q.vals ((u1.alloc (.cells #[.string q.n, .int .i64 q.a, .int .i64 q.b, .int .i64 q.e, .int .i64 q.u] 25)).alloc (.cells #[.string r.p.n, .int .i64 r.p.a, .int .i64 r.p.b, .int .i64 r.p.e, .int .i64 r.p.u, .int .i64 r.b, .int .i64 r.x, .int .i64 r.y] 29)) := (At.new u1 q.vals 25).alloc _
  have AR : At (u1.heap.size + 1) r.vals ((u1.alloc (.cells #[.string q.n, .int .i64 q.a, .int .i64 q.b, .int .i64 q.e, .int .i64 q.u] 25)).alloc (.cells #[.string r.p.n, .int .i64 r.p.a, .int .i64 r.p.b, .int .i64 r.p.e, .int .i64 r.p.u, .int .i64 r.b, .int .i64 r.x, .int .i64 r.y] 29)) := At.newN (w := u1.alloc (.cells #[.string q.n, .int .i64 q.a, .int .i64 q.b, .int .i64 q.e, .int .i64 q.u] 25)) r.vals 29 (by simp)
  have CI := fun w l e => implCheckRoll_any q r t w l e hqm hrm
  have CS := fun w => specCheckRoll_any q r t w hqm hrm
  have HC := Lib.hid (fun h : checkF q r t = 0 => And.intro (chk_ok h) (pin_bounds (checkF_zero h).1).2.2.2.1)
  have VI := fun w => implIsLive_any q t w hqm
  have SI := fun w l e => implRollSum_any r.p w l e hrm
  have CK := fun w l => implCheckSign_any r.b (rsumV r.p) r.x r.y w l
  generalize checkF q r t = c at *
  clear hq hr b1
  go_wp2_with fail
  generalize (u1.alloc (.cells #[.string q.n, .int .i64 q.a, .int .i64 q.b, .int .i64 q.e, .int .i64 q.u] 25)).alloc (.cells #[.string r.p.n, .int .i64 r.p.a, .int .i64 r.p.b, .int .i64 r.p.e, .int .i64 r.p.u, .int .i64 r.b, .int .i64 r.x, .int .i64 r.y] 29) = v1 at *
  generalize u1.heap.size = ob at *
  have k0 := AQ.cell 0 _ rfl
  have k1 := AQ.cell 1 _ rfl
  have k2 := AQ.cell 2 _ rfl
  have k3 := AQ.cell 3 _ rfl
  have k4 := AQ.cell 4 _ rfl
  have m0 := AR.cell 0 _ rfl
  have m1 := AR.cell 1 _ rfl
  have m2 := AR.cell 2 _ rfl
  have m3 := AR.cell 3 _ rfl
  have m4 := AR.cell 4 _ rfl
  have m5 := AR.cell 5 _ rfl
  have m6 := AR.cell 6 _ rfl
  have m7 := AR.cell 7 _ rfl
  go_wp2_with fail
  refine (CI _ (lab.on b1a) (ert.on b1a)).mono ?_
  rintro e u2 ⟨rfl, b2⟩
  have AQ2 := AQ.on b2
  have AR2 := AR.on b2
  have B2 := btr b1a b2
  clear AQ AR b1a b2 CI k0 k1 k2 k3 k4 m0 m1 m2 m3 m4 m5 m6 m7
  go_wp2_with fail
  refine (DrawApplyRoll_any (w0.on B2)).mono ?_
  rintro e u3 ⟨lx, ln, lc, ls, x, at', rfl, hls, hx, RL, b3⟩
  have hxm : x.p.n.size ≤ maxLen := by simp only [maxLen]; omega
  have b3a := bal b3 (.cells #[.string x.p.n, .int .i64 x.p.a, .int .i64 x.p.b, .int .i64 x.p.e, .int .i64 x.p.u, .int .i64 x.b, .int .i64 x.x, .int .i64 x.y] 29)
  have AX : At u3.heap.size x.vals (u3.alloc (.cells #[.string x.p.n, .int .i64 x.p.a, .int .i64 x.p.b, .int .i64 x.p.e, .int .i64 x.p.u, .int .i64 x.b, .int .i64 x.x, .int .i64 x.y] 29)) := At.new u3 x.vals 29
  have RL3 := RL.on (bal (Below.refl _ u3) (.cells #[.string x.p.n, .int .i64 x.p.a, .int .i64 x.p.b, .int .i64 x.p.e, .int .i64 x.p.u, .int .i64 x.b, .int .i64 x.x, .int .i64 x.y] 29))
  have AQ3 := AQ2.on b3a
  have AR3 := AR2.on b3a
  have B3 := btr B2 b3a
  have hln := Lib.hid RL.length
  have HN := Lib.hid (applyL_names8 (t := at') (m21 hls) hxm)
  have AI := fun w l e hR => implApplyRoll_any lx ln lc w.heap.size ls x at' w l e hR (Nat.le_refl _) hxm
  have AS := fun w hR => specApplyRoll_any lx ln lc w.heap.size ls x at' w hR (Nat.le_refl _) hxm
  have FI := fun w e => implRollFault_any x w e hxm
  have FS := fun w => specRollFault_any x w hxm
  have NI := fun zs a n c w hR => implPinsFault_any a n c w.heap.size zs w hR (Nat.le_refl _)
  have GI := fun zs a n c w hR => implFindPin_any a n c w.heap.size zs x.p.n w hR (Nat.le_refl _) hxm
  have QI := fun zs a n c w l e hR => implApplyRoll_any a n c w.heap.size zs x at' w l e hR (Nat.le_refl _) hxm
  clear hls hx RL b3 b3a AQ2 AR2 B2
  have m0 := AX.cell 0 _ rfl
  have m1 := AX.cell 1 _ rfl
  have m2 := AX.cell 2 _ rfl
  have m3 := AX.cell 3 _ rfl
  have m4 := AX.cell 4 _ rfl
  have m5 := AX.cell 5 _ rfl
  have m6 := AX.cell 6 _ rfl
  have m7 := AX.cell 7 _ rfl
  go_wp2_with fail
  generalize u3.alloc (.cells #[.string x.p.n, .int .i64 x.p.a, .int .i64 x.p.b, .int .i64 x.p.e, .int .i64 x.p.u, .int .i64 x.b, .int .i64 x.x, .int .i64 x.y] 29) = v3 at *
  generalize u3.heap.size = xb at *
  refine (AI _ (lab.on B3) (ert.on B3) RL3).mono ?_
  rintro e u4 ⟨rx, rn, rc, rfl, OR, b4⟩
  have lr := OR.len7
  subst lr
  generalize hzs : applyL ls x at' = zs at *
  generalize hac : applyC ls x at' = ac at *
  have HZS := Lib.hid hzs
  have HAC := Lib.hid hac
  clear hzs hac
  have b4a := bal b4 (.cells #[.int .i64 ac, .slice rx zs.length rc] 37)
  have AA : At u4.heap.size [.int .i64 ac, .slice rx zs.length rc] (u4.alloc (.cells #[.int .i64 ac, .slice rx zs.length rc] 37)) := At.new u4 [.int .i64 ac, .slice rx zs.length rc] 37
  have RR := (OwnP.row OR HN.out).on (bal (Below.refl _ u4) (.cells #[.int .i64 ac, .slice rx zs.length rc] 37))
  have RL4 := RL3.on b4a
  have AX4 := AX.on b4a
  have AQ4 := AQ3.on b4a
  have AR4 := AR3.on b4a
  have B4 := btr B3 b4a
  clear b4 b4a RL3 AX AQ3 AR3 B3 OR AI m0 m1 m2 m3 m4 m5 m6 m7
  go_wp2_with fail
  generalize u4.alloc (.cells #[.int .i64 ac, .slice rx zs.length rc] 37) = v4 at *
  generalize u4.heap.size = ab at *
  refine (DrawSignRoll_any (w0.on B4)).mono ?_
  rintro e u5 ⟨s, p, rfl, hp, b5⟩
  have hpm : p.n.size ≤ maxLen := by simp only [maxLen]; omega
  have b5a := bal b5 (.cells #[.string p.n, .int .i64 p.a, .int .i64 p.b, .int .i64 p.e, .int .i64 p.u] 25)
  have AP : At u5.heap.size p.vals (u5.alloc (.cells #[.string p.n, .int .i64 p.a, .int .i64 p.b, .int .i64 p.e, .int .i64 p.u] 25)) := At.new u5 p.vals 25
  have AA5 := AA.on b5a
  have RR5 := RR.on b5a
  have RL5 := RL4.on b5a
  have AX5 := AX4.on b5a
  have AQ5 := AQ4.on b5a
  have AR5 := AR4.on b5a
  have B5 := btr B4 b5a
  have SGI := fun w l e => implSignRoll_any s p w l e hpm
  have SG := fun w => specSignRoll_any s p w hpm
  have HG := Lib.hid (fun h : signC s p = 0 => sign_right h)
  have hgn := signL_name s hpm
  generalize signC s p = gc at *
  generalize signL s p = gd at *
  clear b5 b5a AA RR RL4 AX4 AQ4 AR4 B4 hp
  have m0 := AP.cell 0 _ rfl
  have m1 := AP.cell 1 _ rfl
  have m2 := AP.cell 2 _ rfl
  have m3 := AP.cell 3 _ rfl
  have m4 := AP.cell 4 _ rfl
  go_wp2_with fail
  generalize u5.alloc (.cells #[.string p.n, .int .i64 p.a, .int .i64 p.b, .int .i64 p.e, .int .i64 p.u] 25) = v5 at *
  generalize u5.heap.size = pb at *
  refine (SGI _ (lab.on B5) (ert.on B5)).mono ?_
  rintro e u6 ⟨rfl, b6⟩
  have b6a := btr b6 (bal (Below.refl _ u6) (.cells #[.int .i64 gc, .string gd.p.n, .int .i64 gd.p.a, .int .i64 gd.p.b, .int .i64 gd.p.e, .int .i64 gd.p.u, .int .i64 gd.b, .int .i64 gd.x, .int .i64 gd.y] 42))
  have AG : At u6.heap.size (RL9 gc gd) (u6.alloc (.cells #[.int .i64 gc, .string gd.p.n, .int .i64 gd.p.a, .int .i64 gd.p.b, .int .i64 gd.p.e, .int .i64 gd.p.u, .int .i64 gd.b, .int .i64 gd.x, .int .i64 gd.y] 42)) := At.new u6 (RL9 gc gd) 42
  have AP9 := AP.on b6a
  have AA9 := AA5.on b6a
  have RR9 := RR5.on b6a
  have RL9' := RL5.on b6a
  have AX9 := AX5.on b6a
  have AQ9 := AQ5.on b6a
  have AR9 := AR5.on b6a
  have B9 := btr B5 b6a
  clear b6 b6a AP AA5 RR5 RL5 AX5 AQ5 AR5 B5 SGI m0 m1 m2 m3 m4
  go_upto_region 9 with fail
  generalize u6.alloc (.cells #[.int .i64 gc, .string gd.p.n, .int .i64 gd.p.a, .int .i64 gd.p.b, .int .i64 gd.p.e, .int .i64 gd.p.u, .int .i64 gd.b, .int .i64 gd.x, .int .i64 gd.y] 42) = W at *
  generalize u6.heap.size = gb at *
  go_cut [123] from 44 to 123 (fun v wx => WentOn W v wx)
  case first =>
    clear hl hm hbig hB HN AS FI FS NI GI QI hln HZS HAC AA9 RR9 RL9' AX9
    have f1 := ir1
    have f2 := rr0
    have f3 := rr1
    have f4 := roll_neq8
    have f5 := roll_guard8
    refine wp_region_pieces (Bel W) [(0, true), (1, true), (2, true), (3, true), (4, false), (5, true), (6, true), (7, true), (8, true), (9, true), (10, true), (11, true), (12, true), (13, true), (14, true), (15, true), (16, true), (17, true), (18, true), (19, true), (20, true), (21, true), (22, true), (23, true), (24, true), (25, true), (26, true), (27, true), (28, true), (29, true), (30, true), (31, true), (32, true), (33, true), (34, false), (35, true), (36, true), (37, true), (38, true), (39, true), (40, true), (41, true), (44, true), (45, true), (42, false), (43, true), (46, false), (47, true), (48, true), (49, true), (50, true), (51, true), (52, true), (53, true), (54, true), (55, true), (56, false), (57, true), (58, true), (59, true), (60, true), (61, true), (62, true), (63, true), (64, true), (65, true), (66, true), (67, false), (68, true), (69, true), (70, true), (71, true), (72, true), (73, true), (74, false), (75, true), (76, true), (77, true), (78, true), (79, true)] ops L0 L8 (by kernel_rfl) (by kernel_rfl) noSel rfl start line done (fun _ _ d _ _ h => by cases d <;> exact h) (Bel.drew W) ?_
    have hst := Bel.drew W
    have inst : Nonempty (Of (Bel W)) := ⟨⟨_, hst⟩⟩
    have q0 := bel_cell (AQ9.cell 0 _ rfl)
    have q1 := bel_cell (AQ9.cell 1 _ rfl)
    have q2 := bel_cell (AQ9.cell 2 _ rfl)
    have q3 := bel_cell (AQ9.cell 3 _ rfl)
    have q4 := bel_cell (AQ9.cell 4 _ rfl)
    have y0 := bel_cell (AR9.cell 0 _ rfl)
    have y1 := bel_cell (AR9.cell 1 _ rfl)
    have y2 := bel_cell (AR9.cell 2 _ rfl)
    have y3 := bel_cell (AR9.cell 3 _ rfl)
    have y4 := bel_cell (AR9.cell 4 _ rfl)
    have y5 := bel_cell (AR9.cell 5 _ rfl)
    have y6 := bel_cell (AR9.cell 6 _ rfl)
    have y7 := bel_cell (AR9.cell 7 _ rfl)
    by_cases hc0 : c = 0
    · obtain ⟨⟨hep, hwho, hlive, hpf, hsg⟩, he0, he1⟩ := HC.out hc0
      subst hc0
      have E2 : (r.p.e == q.e + 1) = true := by simpa using hep
      have N2 : (r.p.e != q.e + 1) = false := by simp [hep]
      rw [hlive] at VI
      rw [hsg] at CK
      generalize rsumV r.p = rs at *
      generalize r.p.f = pf at *
      have HW := Lib.hid hwho
      clear hep hwho hlive hpf hsg HC
      by_cases h3 : r.b = q.a
      · have E3 : (r.b == q.a) = true := by simpa using h3
        have N3 : (r.b != q.a) = false := by simp [h3]
        have D3 : decide (r.b = q.a) = true := by simp [h3]
        clear h3 HW
        by_cases hg : gc = 0
        · have hgf := HG.out hg
          subst hg
          have RF := fun w e => implRollFault_any gd w e hgn
          rw [hgf] at RF
          iterate 4 (refine line_read rfl (by kernel_rfl) (fun K hK => ?_); go_big_quiet_op; refine hK _ ?_; clear hK K)
          refine line_alone rfl (by kernel_rfl) (fun K hK => ?_)
          refine call_wp (args := #[P5 q, R8 r, .int .i64 t]) rfl (by kernel_rfl) (by kernel_rfl) (CS _) (fun wn hbn => ?_)
          have hst2 := hst.on hbn
          refine hK _ _ hst2 ?_
          clear hK K hst hbn
          have hst := hst2
          clear hst2
          simp only [Act.put, List.setIfInBounds_toArray, List.set_cons_zero, List.set_cons_succ]
          iterate 5 (refine line_read rfl (by kernel_rfl) (fun K hK => ?_); go_big_quiet_op; refine hK _ ?_; clear hK K)
          iterate 8 (refine line_read rfl (by kernel_rfl) (fun K hK => ?_); go_big_quiet_op; refine hK _ ?_; clear hK K)
          iterate 6 (refine line_read rfl (by kernel_rfl) (fun K hK => ?_); go_big_quiet_op; refine hK _ ?_; clear hK K)
          iterate 5 (refine line_skip rfl (by kernel_rfl) ?_; simp only [Act.put, List.setIfInBounds_toArray, List.set_cons_zero, List.set_cons_succ])
          iterate 5 (refine line_read rfl (by kernel_rfl) (fun K hK => ?_); go_big_quiet_op; refine hK _ ?_; clear hK K)
          refine line_alone rfl (by kernel_rfl) (fun K hK => ?_)
          refine call_wp (args := #[P5 q, .int .i64 t]) rfl (by kernel_rfl) (by kernel_rfl) (VI _) (fun wn hbn => ?_)
          have hst2 := hst.on hbn
          refine hK _ _ hst2 ?_
          clear hK K hst hbn
          have hst := hst2
          clear hst2
          simp only [Act.put, List.setIfInBounds_toArray, List.set_cons_zero, List.set_cons_succ]
          iterate 9 (refine line_read rfl (by kernel_rfl) (fun K hK => ?_); go_big_quiet_op; refine hK _ ?_; clear hK K)
          refine line_alone rfl (by kernel_rfl) (fun K hK => ?_)
          refine call_wp (args := #[P5 r.p]) rfl (by kernel_rfl) (by kernel_rfl) (SI _ (lab.on (btr B9 hst.out)) (ert.on (btr B9 hst.out))) (fun wn hbn => ?_)
          have hst2 := hst.on hbn
          refine hK _ _ hst2 ?_
          clear hK K hst hbn
          have hst := hst2
          clear hst2
          simp only [Act.put, List.setIfInBounds_toArray, List.set_cons_zero, List.set_cons_succ]
          iterate 1 (refine line_read rfl (by kernel_rfl) (fun K hK => ?_); go_big_quiet_op; refine hK _ ?_; clear hK K)
          refine line_alone rfl (by kernel_rfl) (fun K hK => ?_)
          refine call_wp (args := #[.int .i64 r.b, .int .i64 rs, I2 r.x r.y]) rfl (by kernel_rfl) (by kernel_rfl) (CK _ (lab.on (btr B9 hst.out))) (fun wn hbn => ?_)
          have hst2 := hst.on hbn
          refine hK _ _ hst2 ?_
          clear hK K hst hbn
          have hst := hst2
          clear hst2
          simp only [Act.put, List.setIfInBounds_toArray, List.set_cons_zero, List.set_cons_succ]
          clear q0 q1 q2 q3 q4 y0 y1 y2 y3 y4 y5 y6 y7
          have g0 := bel_cell (AG.cell 0 _ rfl)
          have g1 := bel_cell (AG.cell 1 _ rfl)
          have g2 := bel_cell (AG.cell 2 _ rfl)
          have g3 := bel_cell (AG.cell 3 _ rfl)
          have g4 := bel_cell (AG.cell 4 _ rfl)
          have g5 := bel_cell (AG.cell 5 _ rfl)
          have g6 := bel_cell (AG.cell 6 _ rfl)
          have g7 := bel_cell (AG.cell 7 _ rfl)
          have g8 := bel_cell (AG.cell 8 _ rfl)
          have k0 := bel_cell (AP9.cell 0 _ rfl)
          have k1 := bel_cell (AP9.cell 1 _ rfl)
          have k2 := bel_cell (AP9.cell 2 _ rfl)
          have k3 := bel_cell (AP9.cell 3 _ rfl)
          have k4 := bel_cell (AP9.cell 4 _ rfl)
          iterate 9 (refine line_read rfl (by kernel_rfl) (fun K hK => ?_); go_big_quiet_op; refine hK _ ?_; clear hK K)
          refine line_alone rfl (by kernel_rfl) (fun K hK => ?_)
          refine call_wp (args := #[.int .i64 s, P5 p]) rfl (by kernel_rfl) (by kernel_rfl) (SG _) (fun wn hbn => ?_)
          have hst2 := hst.on hbn
          refine hK _ _ hst2 ?_
          clear hK K hst hbn
          have hst := hst2
          clear hst2
          simp only [Act.put, List.setIfInBounds_toArray, List.set_cons_zero, List.set_cons_succ]
          iterate 10 (refine line_read rfl (by kernel_rfl) (fun K hK => ?_); go_big_quiet_op; refine hK _ ?_; clear hK K)
          refine line_alone rfl (by kernel_rfl) (fun K hK => ?_)
          refine call_wp (args := #[R8 gd]) rfl (by kernel_rfl) (by kernel_rfl) (RF _ (ert.on (btr B9 hst.out))) (fun wn hbn => ?_)
          have hst2 := hst.on hbn
          refine hK _ _ hst2 ?_
          clear hK K hst hbn
          have hst := hst2
          clear hst2
          simp only [Act.put, List.setIfInBounds_toArray, List.set_cons_zero, List.set_cons_succ]
          iterate 6 (refine line_read rfl (by kernel_rfl) (fun K hK => ?_); go_big_quiet_op; refine hK _ ?_; clear hK K)
          refine line_alone rfl (by kernel_rfl) (fun K hK => ?_)
          refine call_wp (args := #[.int .i64 s, P5 p]) rfl (by kernel_rfl) (by kernel_rfl) (SG _) (fun wn hbn => ?_)
          have hst2 := hst.on hbn
          refine hK _ _ hst2 ?_
          clear hK K hst hbn
          have hst := hst2
          clear hst2
          simp only [Act.put, List.setIfInBounds_toArray, List.set_cons_zero, List.set_cons_succ]
          iterate 5 (refine line_read rfl (by kernel_rfl) (fun K hK => ?_); go_big_quiet_op; refine hK _ ?_; clear hK K)
          refine line_nil ?_
          have HT := Lib.hid hst.out
          clear hst
          go_wp2_with fail
          go_meet
          case rel => exact ⟨rfl, HT.out⟩
        · have m0 : (gc == 0) = false := by simpa using hg
          have m1 : (gc != 0) = true := by simp [hg]
          have m2 : decide (gc = 0) = false := by simp [hg]
          iterate 4 (refine line_read rfl (by kernel_rfl) (fun K hK => ?_); go_big_quiet_op; refine hK _ ?_; clear hK K)
          refine line_alone rfl (by kernel_rfl) (fun K hK => ?_)
          refine call_wp (args := #[P5 q, R8 r, .int .i64 t]) rfl (by kernel_rfl) (by kernel_rfl) (CS _) (fun wn hbn => ?_)
          have hst2 := hst.on hbn
          refine hK _ _ hst2 ?_
          clear hK K hst hbn
          have hst := hst2
          clear hst2
          simp only [Act.put, List.setIfInBounds_toArray, List.set_cons_zero, List.set_cons_succ]
          iterate 5 (refine line_read rfl (by kernel_rfl) (fun K hK => ?_); go_big_quiet_op; refine hK _ ?_; clear hK K)
          iterate 8 (refine line_read rfl (by kernel_rfl) (fun K hK => ?_); go_big_quiet_op; refine hK _ ?_; clear hK K)
          iterate 6 (refine line_read rfl (by kernel_rfl) (fun K hK => ?_); go_big_quiet_op; refine hK _ ?_; clear hK K)
          iterate 5 (refine line_skip rfl (by kernel_rfl) ?_; simp only [Act.put, List.setIfInBounds_toArray, List.set_cons_zero, List.set_cons_succ])
          iterate 5 (refine line_read rfl (by kernel_rfl) (fun K hK => ?_); go_big_quiet_op; refine hK _ ?_; clear hK K)
          refine line_alone rfl (by kernel_rfl) (fun K hK => ?_)
          refine call_wp (args := #[P5 q, .int .i64 t]) rfl (by kernel_rfl) (by kernel_rfl) (VI _) (fun wn hbn => ?_)
          have hst2 := hst.on hbn
          refine hK _ _ hst2 ?_
          clear hK K hst hbn
          have hst := hst2
          clear hst2
          simp only [Act.put, List.setIfInBounds_toArray, List.set_cons_zero, List.set_cons_succ]
          iterate 9 (refine line_read rfl (by kernel_rfl) (fun K hK => ?_); go_big_quiet_op; refine hK _ ?_; clear hK K)
          refine line_alone rfl (by kernel_rfl) (fun K hK => ?_)
          refine call_wp (args := #[P5 r.p]) rfl (by kernel_rfl) (by kernel_rfl) (SI _ (lab.on (btr B9 hst.out)) (ert.on (btr B9 hst.out))) (fun wn hbn => ?_)
          have hst2 := hst.on hbn
          refine hK _ _ hst2 ?_
          clear hK K hst hbn
          have hst := hst2
          clear hst2
          simp only [Act.put, List.setIfInBounds_toArray, List.set_cons_zero, List.set_cons_succ]
          iterate 1 (refine line_read rfl (by kernel_rfl) (fun K hK => ?_); go_big_quiet_op; refine hK _ ?_; clear hK K)
          refine line_alone rfl (by kernel_rfl) (fun K hK => ?_)
          refine call_wp (args := #[.int .i64 r.b, .int .i64 rs, I2 r.x r.y]) rfl (by kernel_rfl) (by kernel_rfl) (CK _ (lab.on (btr B9 hst.out))) (fun wn hbn => ?_)
          have hst2 := hst.on hbn
          refine hK _ _ hst2 ?_
          clear hK K hst hbn
          have hst := hst2
          clear hst2
          simp only [Act.put, List.setIfInBounds_toArray, List.set_cons_zero, List.set_cons_succ]
          clear q0 q1 q2 q3 q4 y0 y1 y2 y3 y4 y5 y6 y7
          have g0 := bel_cell (AG.cell 0 _ rfl)
          have g1 := bel_cell (AG.cell 1 _ rfl)
          have g2 := bel_cell (AG.cell 2 _ rfl)
          have g3 := bel_cell (AG.cell 3 _ rfl)
          have g4 := bel_cell (AG.cell 4 _ rfl)
          have g5 := bel_cell (AG.cell 5 _ rfl)
          have g6 := bel_cell (AG.cell 6 _ rfl)
          have g7 := bel_cell (AG.cell 7 _ rfl)
          have g8 := bel_cell (AG.cell 8 _ rfl)
          have k0 := bel_cell (AP9.cell 0 _ rfl)
          have k1 := bel_cell (AP9.cell 1 _ rfl)
          have k2 := bel_cell (AP9.cell 2 _ rfl)
          have k3 := bel_cell (AP9.cell 3 _ rfl)
          have k4 := bel_cell (AP9.cell 4 _ rfl)
          iterate 9 (refine line_read rfl (by kernel_rfl) (fun K hK => ?_); go_big_quiet_op; refine hK _ ?_; clear hK K)
          refine line_alone rfl (by kernel_rfl) (fun K hK => ?_)
          refine call_wp (args := #[.int .i64 s, P5 p]) rfl (by kernel_rfl) (by kernel_rfl) (SG _) (fun wn hbn => ?_)
          have hst2 := hst.on hbn
          refine hK _ _ hst2 ?_
          clear hK K hst hbn
          have hst := hst2
          clear hst2
          simp only [Act.put, List.setIfInBounds_toArray, List.set_cons_zero, List.set_cons_succ]
          iterate 8 (refine line_read rfl (by kernel_rfl) (fun K hK => ?_); go_big_quiet_op; refine hK _ ?_; clear hK K)
          iterate 13 (refine line_skip rfl (by kernel_rfl) ?_; simp only [Act.put, List.setIfInBounds_toArray, List.set_cons_zero, List.set_cons_succ])
          iterate 2 (refine line_read rfl (by kernel_rfl) (fun K hK => ?_); go_big_quiet_op; refine hK _ ?_; clear hK K)
          refine line_nil ?_
          have HT := Lib.hid hst.out
          clear hst
          go_wp2_with fail
          go_meet
          case rel => exact ⟨rfl, HT.out⟩
      · have h4 : r.b = q.b := HW.out.resolve_left h3
        have E3 : (r.b == q.a) = false := by simpa using h3
        have N3 : (r.b != q.a) = true := by simp [h3]
        have D3 : decide (r.b = q.a) = false := by simp [h3]
        have E4 : (r.b == q.b) = true := by simpa using h4
        have N4 : (r.b != q.b) = false := by simp [h4]
        have D4 : decide (r.b = q.b) = true := by simp [h4]
        clear h3 h4 HW
        by_cases hg : gc = 0
        · have hgf := HG.out hg
          subst hg
          have RF := fun w e => implRollFault_any gd w e hgn
          rw [hgf] at RF
          iterate 4 (refine line_read rfl (by kernel_rfl) (fun K hK => ?_); go_big_quiet_op; refine hK _ ?_; clear hK K)
          refine line_alone rfl (by kernel_rfl) (fun K hK => ?_)
          refine call_wp (args := #[P5 q, R8 r, .int .i64 t]) rfl (by kernel_rfl) (by kernel_rfl) (CS _) (fun wn hbn => ?_)
          have hst2 := hst.on hbn
          refine hK _ _ hst2 ?_
          clear hK K hst hbn
          have hst := hst2
          clear hst2
          simp only [Act.put, List.setIfInBounds_toArray, List.set_cons_zero, List.set_cons_succ]
          iterate 5 (refine line_read rfl (by kernel_rfl) (fun K hK => ?_); go_big_quiet_op; refine hK _ ?_; clear hK K)
          iterate 8 (refine line_read rfl (by kernel_rfl) (fun K hK => ?_); go_big_quiet_op; refine hK _ ?_; clear hK K)
          iterate 6 (refine line_read rfl (by kernel_rfl) (fun K hK => ?_); go_big_quiet_op; refine hK _ ?_; clear hK K)
          iterate 5 (refine line_read rfl (by kernel_rfl) (fun K hK => ?_); go_big_quiet_op; refine hK _ ?_; clear hK K)
          iterate 5 (refine line_read rfl (by kernel_rfl) (fun K hK => ?_); go_big_quiet_op; refine hK _ ?_; clear hK K)
          refine line_alone rfl (by kernel_rfl) (fun K hK => ?_)
          refine call_wp (args := #[P5 q, .int .i64 t]) rfl (by kernel_rfl) (by kernel_rfl) (VI _) (fun wn hbn => ?_)
          have hst2 := hst.on hbn
          refine hK _ _ hst2 ?_
          clear hK K hst hbn
          have hst := hst2
          clear hst2
          simp only [Act.put, List.setIfInBounds_toArray, List.set_cons_zero, List.set_cons_succ]
          iterate 9 (refine line_read rfl (by kernel_rfl) (fun K hK => ?_); go_big_quiet_op; refine hK _ ?_; clear hK K)
          refine line_alone rfl (by kernel_rfl) (fun K hK => ?_)
          refine call_wp (args := #[P5 r.p]) rfl (by kernel_rfl) (by kernel_rfl) (SI _ (lab.on (btr B9 hst.out)) (ert.on (btr B9 hst.out))) (fun wn hbn => ?_)
          have hst2 := hst.on hbn
          refine hK _ _ hst2 ?_
          clear hK K hst hbn
          have hst := hst2
          clear hst2
          simp only [Act.put, List.setIfInBounds_toArray, List.set_cons_zero, List.set_cons_succ]
          iterate 1 (refine line_read rfl (by kernel_rfl) (fun K hK => ?_); go_big_quiet_op; refine hK _ ?_; clear hK K)
          refine line_alone rfl (by kernel_rfl) (fun K hK => ?_)
          refine call_wp (args := #[.int .i64 r.b, .int .i64 rs, I2 r.x r.y]) rfl (by kernel_rfl) (by kernel_rfl) (CK _ (lab.on (btr B9 hst.out))) (fun wn hbn => ?_)
          have hst2 := hst.on hbn
          refine hK _ _ hst2 ?_
          clear hK K hst hbn
          have hst := hst2
          clear hst2
          simp only [Act.put, List.setIfInBounds_toArray, List.set_cons_zero, List.set_cons_succ]
          clear q0 q1 q2 q3 q4 y0 y1 y2 y3 y4 y5 y6 y7
          have g0 := bel_cell (AG.cell 0 _ rfl)
          have g1 := bel_cell (AG.cell 1 _ rfl)
          have g2 := bel_cell (AG.cell 2 _ rfl)
          have g3 := bel_cell (AG.cell 3 _ rfl)
          have g4 := bel_cell (AG.cell 4 _ rfl)
          have g5 := bel_cell (AG.cell 5 _ rfl)
          have g6 := bel_cell (AG.cell 6 _ rfl)
          have g7 := bel_cell (AG.cell 7 _ rfl)
          have g8 := bel_cell (AG.cell 8 _ rfl)
          have k0 := bel_cell (AP9.cell 0 _ rfl)
          have k1 := bel_cell (AP9.cell 1 _ rfl)
          have k2 := bel_cell (AP9.cell 2 _ rfl)
          have k3 := bel_cell (AP9.cell 3 _ rfl)
          have k4 := bel_cell (AP9.cell 4 _ rfl)
          iterate 9 (refine line_read rfl (by kernel_rfl) (fun K hK => ?_); go_big_quiet_op; refine hK _ ?_; clear hK K)
          refine line_alone rfl (by kernel_rfl) (fun K hK => ?_)
          refine call_wp (args := #[.int .i64 s, P5 p]) rfl (by kernel_rfl) (by kernel_rfl) (SG _) (fun wn hbn => ?_)
          have hst2 := hst.on hbn
          refine hK _ _ hst2 ?_
          clear hK K hst hbn
          have hst := hst2
          clear hst2
          simp only [Act.put, List.setIfInBounds_toArray, List.set_cons_zero, List.set_cons_succ]
          iterate 10 (refine line_read rfl (by kernel_rfl) (fun K hK => ?_); go_big_quiet_op; refine hK _ ?_; clear hK K)
          refine line_alone rfl (by kernel_rfl) (fun K hK => ?_)
          refine call_wp (args := #[R8 gd]) rfl (by kernel_rfl) (by kernel_rfl) (RF _ (ert.on (btr B9 hst.out))) (fun wn hbn => ?_)
          have hst2 := hst.on hbn
          refine hK _ _ hst2 ?_
          clear hK K hst hbn
          have hst := hst2
          clear hst2
          simp only [Act.put, List.setIfInBounds_toArray, List.set_cons_zero, List.set_cons_succ]
          iterate 6 (refine line_read rfl (by kernel_rfl) (fun K hK => ?_); go_big_quiet_op; refine hK _ ?_; clear hK K)
          refine line_alone rfl (by kernel_rfl) (fun K hK => ?_)
          refine call_wp (args := #[.int .i64 s, P5 p]) rfl (by kernel_rfl) (by kernel_rfl) (SG _) (fun wn hbn => ?_)
          have hst2 := hst.on hbn
          refine hK _ _ hst2 ?_
          clear hK K hst hbn
          have hst := hst2
          clear hst2
          simp only [Act.put, List.setIfInBounds_toArray, List.set_cons_zero, List.set_cons_succ]
          iterate 5 (refine line_read rfl (by kernel_rfl) (fun K hK => ?_); go_big_quiet_op; refine hK _ ?_; clear hK K)
          refine line_nil ?_
          have HT := Lib.hid hst.out
          clear hst
          go_wp2_with fail
          go_meet
          case rel => exact ⟨rfl, HT.out⟩
        · have m0 : (gc == 0) = false := by simpa using hg
          have m1 : (gc != 0) = true := by simp [hg]
          have m2 : decide (gc = 0) = false := by simp [hg]
          iterate 4 (refine line_read rfl (by kernel_rfl) (fun K hK => ?_); go_big_quiet_op; refine hK _ ?_; clear hK K)
          refine line_alone rfl (by kernel_rfl) (fun K hK => ?_)
          refine call_wp (args := #[P5 q, R8 r, .int .i64 t]) rfl (by kernel_rfl) (by kernel_rfl) (CS _) (fun wn hbn => ?_)
          have hst2 := hst.on hbn
          refine hK _ _ hst2 ?_
          clear hK K hst hbn
          have hst := hst2
          clear hst2
          simp only [Act.put, List.setIfInBounds_toArray, List.set_cons_zero, List.set_cons_succ]
          iterate 5 (refine line_read rfl (by kernel_rfl) (fun K hK => ?_); go_big_quiet_op; refine hK _ ?_; clear hK K)
          iterate 8 (refine line_read rfl (by kernel_rfl) (fun K hK => ?_); go_big_quiet_op; refine hK _ ?_; clear hK K)
          iterate 6 (refine line_read rfl (by kernel_rfl) (fun K hK => ?_); go_big_quiet_op; refine hK _ ?_; clear hK K)
          iterate 5 (refine line_read rfl (by kernel_rfl) (fun K hK => ?_); go_big_quiet_op; refine hK _ ?_; clear hK K)
          iterate 5 (refine line_read rfl (by kernel_rfl) (fun K hK => ?_); go_big_quiet_op; refine hK _ ?_; clear hK K)
          refine line_alone rfl (by kernel_rfl) (fun K hK => ?_)
          refine call_wp (args := #[P5 q, .int .i64 t]) rfl (by kernel_rfl) (by kernel_rfl) (VI _) (fun wn hbn => ?_)
          have hst2 := hst.on hbn
          refine hK _ _ hst2 ?_
          clear hK K hst hbn
          have hst := hst2
          clear hst2
          simp only [Act.put, List.setIfInBounds_toArray, List.set_cons_zero, List.set_cons_succ]
          iterate 9 (refine line_read rfl (by kernel_rfl) (fun K hK => ?_); go_big_quiet_op; refine hK _ ?_; clear hK K)
          refine line_alone rfl (by kernel_rfl) (fun K hK => ?_)
          refine call_wp (args := #[P5 r.p]) rfl (by kernel_rfl) (by kernel_rfl) (SI _ (lab.on (btr B9 hst.out)) (ert.on (btr B9 hst.out))) (fun wn hbn => ?_)
          have hst2 := hst.on hbn
          refine hK _ _ hst2 ?_
          clear hK K hst hbn
          have hst := hst2
          clear hst2
          simp only [Act.put, List.setIfInBounds_toArray, List.set_cons_zero, List.set_cons_succ]
          iterate 1 (refine line_read rfl (by kernel_rfl) (fun K hK => ?_); go_big_quiet_op; refine hK _ ?_; clear hK K)
          refine line_alone rfl (by kernel_rfl) (fun K hK => ?_)
          refine call_wp (args := #[.int .i64 r.b, .int .i64 rs, I2 r.x r.y]) rfl (by kernel_rfl) (by kernel_rfl) (CK _ (lab.on (btr B9 hst.out))) (fun wn hbn => ?_)
          have hst2 := hst.on hbn
          refine hK _ _ hst2 ?_
          clear hK K hst hbn
          have hst := hst2
          clear hst2
          simp only [Act.put, List.setIfInBounds_toArray, List.set_cons_zero, List.set_cons_succ]
          clear q0 q1 q2 q3 q4 y0 y1 y2 y3 y4 y5 y6 y7
          have g0 := bel_cell (AG.cell 0 _ rfl)
          have g1 := bel_cell (AG.cell 1 _ rfl)
          have g2 := bel_cell (AG.cell 2 _ rfl)
          have g3 := bel_cell (AG.cell 3 _ rfl)
          have g4 := bel_cell (AG.cell 4 _ rfl)
          have g5 := bel_cell (AG.cell 5 _ rfl)
          have g6 := bel_cell (AG.cell 6 _ rfl)
          have g7 := bel_cell (AG.cell 7 _ rfl)
          have g8 := bel_cell (AG.cell 8 _ rfl)
          have k0 := bel_cell (AP9.cell 0 _ rfl)
          have k1 := bel_cell (AP9.cell 1 _ rfl)
          have k2 := bel_cell (AP9.cell 2 _ rfl)
          have k3 := bel_cell (AP9.cell 3 _ rfl)
          have k4 := bel_cell (AP9.cell 4 _ rfl)
          iterate 9 (refine line_read rfl (by kernel_rfl) (fun K hK => ?_); go_big_quiet_op; refine hK _ ?_; clear hK K)
          refine line_alone rfl (by kernel_rfl) (fun K hK => ?_)
          refine call_wp (args := #[.int .i64 s, P5 p]) rfl (by kernel_rfl) (by kernel_rfl) (SG _) (fun wn hbn => ?_)
          have hst2 := hst.on hbn
          refine hK _ _ hst2 ?_
          clear hK K hst hbn
          have hst := hst2
          clear hst2
          simp only [Act.put, List.setIfInBounds_toArray, List.set_cons_zero, List.set_cons_succ]
          iterate 8 (refine line_read rfl (by kernel_rfl) (fun K hK => ?_); go_big_quiet_op; refine hK _ ?_; clear hK K)
          iterate 13 (refine line_skip rfl (by kernel_rfl) ?_; simp only [Act.put, List.setIfInBounds_toArray, List.set_cons_zero, List.set_cons_succ])
          iterate 2 (refine line_read rfl (by kernel_rfl) (fun K hK => ?_); go_big_quiet_op; refine hK _ ?_; clear hK K)
          refine line_nil ?_
          have HT := Lib.hid hst.out
          clear hst
          go_wp2_with fail
          go_meet
          case rel => exact ⟨rfl, HT.out⟩
    · have n0 : (c == 0) = false := by simpa using hc0
      have n1 : (c != 0) = true := by simp [hc0]
      have n2 : decide (c = 0) = false := by simp [hc0]
      clear hc0 HC VI SI CK
      by_cases hg : gc = 0
      · have hgf := HG.out hg
        subst hg
        have RF := fun w e => implRollFault_any gd w e hgn
        rw [hgf] at RF
        iterate 4 (refine line_read rfl (by kernel_rfl) (fun K hK => ?_); go_big_quiet_op; refine hK _ ?_; clear hK K)
        refine line_alone rfl (by kernel_rfl) (fun K hK => ?_)
        refine call_wp (args := #[P5 q, R8 r, .int .i64 t]) rfl (by kernel_rfl) (by kernel_rfl) (CS _) (fun wn hbn => ?_)
        have hst2 := hst.on hbn
        refine hK _ _ hst2 ?_
        clear hK K hst hbn
        have hst := hst2
        clear hst2
        simp only [Act.put, List.setIfInBounds_toArray, List.set_cons_zero, List.set_cons_succ]
        iterate 5 (refine line_read rfl (by kernel_rfl) (fun K hK => ?_); go_big_quiet_op; refine hK _ ?_; clear hK K)
        iterate 39 (refine line_skip rfl (by kernel_rfl) ?_; simp only [Act.put, List.setIfInBounds_toArray, List.set_cons_zero, List.set_cons_succ])
        clear q0 q1 q2 q3 q4 y0 y1 y2 y3 y4 y5 y6 y7
        have g0 := bel_cell (AG.cell 0 _ rfl)
        have g1 := bel_cell (AG.cell 1 _ rfl)
        have g2 := bel_cell (AG.cell 2 _ rfl)
        have g3 := bel_cell (AG.cell 3 _ rfl)
        have g4 := bel_cell (AG.cell 4 _ rfl)
        have g5 := bel_cell (AG.cell 5 _ rfl)
        have g6 := bel_cell (AG.cell 6 _ rfl)
        have g7 := bel_cell (AG.cell 7 _ rfl)
        have g8 := bel_cell (AG.cell 8 _ rfl)
        have k0 := bel_cell (AP9.cell 0 _ rfl)
        have k1 := bel_cell (AP9.cell 1 _ rfl)
        have k2 := bel_cell (AP9.cell 2 _ rfl)
        have k3 := bel_cell (AP9.cell 3 _ rfl)
        have k4 := bel_cell (AP9.cell 4 _ rfl)
        iterate 7 (refine line_read rfl (by kernel_rfl) (fun K hK => ?_); go_big_quiet_op; refine hK _ ?_; clear hK K)
        refine line_alone rfl (by kernel_rfl) (fun K hK => ?_)
        refine call_wp (args := #[.int .i64 s, P5 p]) rfl (by kernel_rfl) (by kernel_rfl) (SG _) (fun wn hbn => ?_)
        have hst2 := hst.on hbn
        refine hK _ _ hst2 ?_
        clear hK K hst hbn
        have hst := hst2
        clear hst2
        simp only [Act.put, List.setIfInBounds_toArray, List.set_cons_zero, List.set_cons_succ]
        iterate 10 (refine line_read rfl (by kernel_rfl) (fun K hK => ?_); go_big_quiet_op; refine hK _ ?_; clear hK K)
        refine line_alone rfl (by kernel_rfl) (fun K hK => ?_)
        refine call_wp (args := #[R8 gd]) rfl (by kernel_rfl) (by kernel_rfl) (RF _ (ert.on (btr B9 hst.out))) (fun wn hbn => ?_)
        have hst2 := hst.on hbn
        refine hK _ _ hst2 ?_
        clear hK K hst hbn
        have hst := hst2
        clear hst2
        simp only [Act.put, List.setIfInBounds_toArray, List.set_cons_zero, List.set_cons_succ]
        iterate 6 (refine line_read rfl (by kernel_rfl) (fun K hK => ?_); go_big_quiet_op; refine hK _ ?_; clear hK K)
        refine line_alone rfl (by kernel_rfl) (fun K hK => ?_)
        refine call_wp (args := #[.int .i64 s, P5 p]) rfl (by kernel_rfl) (by kernel_rfl) (SG _) (fun wn hbn => ?_)
        have hst2 := hst.on hbn
        refine hK _ _ hst2 ?_
        clear hK K hst hbn
        have hst := hst2
        clear hst2
        simp only [Act.put, List.setIfInBounds_toArray, List.set_cons_zero, List.set_cons_succ]
        iterate 5 (refine line_read rfl (by kernel_rfl) (fun K hK => ?_); go_big_quiet_op; refine hK _ ?_; clear hK K)
        refine line_nil ?_
        have HT := Lib.hid hst.out
        clear hst
        go_wp2_with fail
        go_meet
        case rel => exact ⟨rfl, HT.out⟩
      · have m0 : (gc == 0) = false := by simpa using hg
        have m1 : (gc != 0) = true := by simp [hg]
        have m2 : decide (gc = 0) = false := by simp [hg]
        iterate 4 (refine line_read rfl (by kernel_rfl) (fun K hK => ?_); go_big_quiet_op; refine hK _ ?_; clear hK K)
        refine line_alone rfl (by kernel_rfl) (fun K hK => ?_)
        refine call_wp (args := #[P5 q, R8 r, .int .i64 t]) rfl (by kernel_rfl) (by kernel_rfl) (CS _) (fun wn hbn => ?_)
        have hst2 := hst.on hbn
        refine hK _ _ hst2 ?_
        clear hK K hst hbn
        have hst := hst2
        clear hst2
        simp only [Act.put, List.setIfInBounds_toArray, List.set_cons_zero, List.set_cons_succ]
        iterate 5 (refine line_read rfl (by kernel_rfl) (fun K hK => ?_); go_big_quiet_op; refine hK _ ?_; clear hK K)
        iterate 39 (refine line_skip rfl (by kernel_rfl) ?_; simp only [Act.put, List.setIfInBounds_toArray, List.set_cons_zero, List.set_cons_succ])
        clear q0 q1 q2 q3 q4 y0 y1 y2 y3 y4 y5 y6 y7
        have g0 := bel_cell (AG.cell 0 _ rfl)
        have g1 := bel_cell (AG.cell 1 _ rfl)
        have g2 := bel_cell (AG.cell 2 _ rfl)
        have g3 := bel_cell (AG.cell 3 _ rfl)
        have g4 := bel_cell (AG.cell 4 _ rfl)
        have g5 := bel_cell (AG.cell 5 _ rfl)
        have g6 := bel_cell (AG.cell 6 _ rfl)
        have g7 := bel_cell (AG.cell 7 _ rfl)
        have g8 := bel_cell (AG.cell 8 _ rfl)
        have k0 := bel_cell (AP9.cell 0 _ rfl)
        have k1 := bel_cell (AP9.cell 1 _ rfl)
        have k2 := bel_cell (AP9.cell 2 _ rfl)
        have k3 := bel_cell (AP9.cell 3 _ rfl)
        have k4 := bel_cell (AP9.cell 4 _ rfl)
        iterate 7 (refine line_read rfl (by kernel_rfl) (fun K hK => ?_); go_big_quiet_op; refine hK _ ?_; clear hK K)
        refine line_alone rfl (by kernel_rfl) (fun K hK => ?_)
        refine call_wp (args := #[.int .i64 s, P5 p]) rfl (by kernel_rfl) (by kernel_rfl) (SG _) (fun wn hbn => ?_)
        have hst2 := hst.on hbn
        refine hK _ _ hst2 ?_
        clear hK K hst hbn
        have hst := hst2
        clear hst2
        simp only [Act.put, List.setIfInBounds_toArray, List.set_cons_zero, List.set_cons_succ]
        iterate 8 (refine line_read rfl (by kernel_rfl) (fun K hK => ?_); go_big_quiet_op; refine hK _ ?_; clear hK K)
        iterate 13 (refine line_skip rfl (by kernel_rfl) ?_; simp only [Act.put, List.setIfInBounds_toArray, List.set_cons_zero, List.set_cons_succ])
        iterate 2 (refine line_read rfl (by kernel_rfl) (fun K hK => ?_); go_big_quiet_op; refine hK _ ?_; clear hK K)
        refine line_nil ?_
        have HT := Lib.hid hst.out
        clear hst
        go_wp2_with fail
        go_meet
        case rel => exact ⟨rfl, HT.out⟩
  case rest =>
    obtain ⟨rfl, f9⟩ := hcut
    have AA10 := AA9.on f9
    have RR10 := RR9.on f9
    have RL10 := RL9'.on f9
    have AX10 := AX9.on f9
    have B10 := btr B9 f9
    clear AA9 RR9 RL9' AX9 B9 f9 AP9 AQ9 AR9 AG CS VI SI CK SG HG HC hgn
    have k0 := AA10.cell 0 _ rfl
    have k1 := AA10.cell 1 _ rfl
    by_cases ha : ac = 0
    · subst ha
      have F := app_ok HAC.out
      have hzs := HZS.out
      have hfr : pinsF zs = 0 := by rw [← hzs, F.res]; exact F.fr
      have hff : findR zs x.p.n.data.toList = x.p := by rw [← hzs, F.res]; exact F.ff
      have hlen : zs.length = ls.length := by rw [← hzs, F.res]; exact F.len
      have honce : applyC zs x at' ≠ 0 := by rw [← hzs, F.res]; exact F.once
      have LE : ((zs.length : Int) == (ln : Int)) = true := by rw [hlen, hln.out]; simp
      have LN : ((zs.length : Int) != (ln : Int)) = false := by rw [hlen, hln.out]; simp
      have NI2 := fun a n c w hR => NI zs a n c w hR
      have GI2 := fun a n c w hR => GI zs a n c w hR
      have QI2 := fun a n c w l e hR => QI zs a n c w l e hR
      rw [hfr] at NI2
      rw [hff] at GI2
      have o0 : (applyC zs x at' == 0) = false := by simpa using honce
      have o1 : (applyC zs x at' != 0) = true := by simp [honce]
      have o2 : decide (applyC zs x at' = 0) = false := by simp [honce]
      generalize findC zs x.p.n.data.toList = fc at *
      generalize applyC zs x at' = oc at *
      generalize applyL zs x at' = os at *
      have HLZ := Lib.hid hlen
      have SM := fun sa sc w => implSamePins_any rx sa zs.length zs.length rc sc w.heap.size zs zs w
      rw [sameL_self] at SM
      have AS2 := Lib.hid AS
      clear F hzs hfr hff hlen honce NI GI QI HAC HZS FI FS hln
      have g1 := pr1
      have g2 := pin_eql7
      have g3 := pin_guard7
      have g4 := ps0
      have g5 := ps1
      go_wp2_with fail
      refine wp_region_line (Bel wc) [(0, true), (1, true), (2, false), (3, true), (4, true), (5, true), (6, true), (7, true), (8, true), (9, true), (12, true), (13, true), (10, false), (11, true), (14, true), (15, true), (16, true), (17, true), (18, true), (19, true), (20, true), (21, true), (22, true), (23, true), (24, true), (25, true), (26, true), (27, true), (28, true), (29, false), (30, true), (31, true), (32, true), (33, true), (34, true), (35, true), (36, true), (37, true), (38, true), (39, false), (40, true), (41, false), (42, true), (43, true)] (by kernel_rfl) (by kernel_rfl) (fun _ _ d _ _ h => by cases d <;> exact h) (Bel.drew wc) ?_
      have hst := Bel.drew wc
      have inst : Nonempty (Of (Bel wc)) := ⟨⟨_, hst⟩⟩
      have q0 := bel_cell k0
      have q1 := bel_cell k1
      have y0 := bel_cell (AX10.cell 0 _ rfl)
      have y1 := bel_cell (AX10.cell 1 _ rfl)
      have y2 := bel_cell (AX10.cell 2 _ rfl)
      have y3 := bel_cell (AX10.cell 3 _ rfl)
      have y4 := bel_cell (AX10.cell 4 _ rfl)
      have y5 := bel_cell (AX10.cell 5 _ rfl)
      have y6 := bel_cell (AX10.cell 6 _ rfl)
      have y7 := bel_cell (AX10.cell 7 _ rfl)
      generalize wc.drew = V1 at *
      iterate 2 (refine line_read rfl (by kernel_rfl) (fun K hK => ?_); go_big_quiet_op; refine hK _ ?_; clear hK K)
      refine line_alone rfl (by kernel_rfl) (fun K hK => ?_)
      refine call_wp (args := #[.slice rx zs.length rc]) rfl (by kernel_rfl) (by kernel_rfl) (NI2 _ _ _ _ (RR10.on hst.out)) (fun wn hbn => ?_)
      have hst2 := hst.on hbn
      refine hK _ _ hst2 ?_
      clear hK K hst hbn
      have hst := hst2
      clear hst2
      simp only [Act.put, List.setIfInBounds_toArray, List.set_cons_zero, List.set_cons_succ]
      iterate 9 (refine line_read rfl (by kernel_rfl) (fun K hK => ?_); go_big_quiet_op; refine hK _ ?_; clear hK K)
      refine line_alone rfl (by kernel_rfl) (fun K hK => ?_)
      refine call_wp (args := #[.slice rx zs.length rc, .string x.p.n]) rfl (by kernel_rfl) (by kernel_rfl) (GI2 _ _ _ _ (RR10.on hst.out)) (fun wn hbn => ?_)
      have hst2 := hst.on hbn
      refine hK _ _ hst2 ?_
      clear hK K hst hbn
      have hst := hst2
      clear hst2
      simp only [Act.put, List.setIfInBounds_toArray, List.set_cons_zero, List.set_cons_succ]
      iterate 16 (refine line_read rfl (by kernel_rfl) (fun K hK => ?_); go_big_quiet_op; refine hK _ ?_; clear hK K)
      refine line_alone rfl (by kernel_rfl) (fun K hK => ?_)
      refine call_any (args := #[.slice rx zs.length rc, R8 x, .int .i64 at']) rfl (by kernel_rfl) (by kernel_rfl) (QI2 _ _ _ _ (lab.on (btr B10 hst.out)) (ert.on (btr B10 hst.out)) (RR10.on hst.out)) ?_
      rintro e V5 ⟨sa, sn, sc, rfl, OS, be⟩
      have hst2 := hst.on be
      refine ⟨_, rfl, hK _ _ hst2 ?_⟩
      clear hK K hst be OS
      have hst := hst2
      clear hst2
      simp only [Act.put, List.setIfInBounds_toArray, List.set_cons_zero, List.set_cons_succ]
      iterate 9 (refine line_read rfl (by kernel_rfl) (fun K hK => ?_); go_big_quiet_op; refine hK _ ?_; clear hK K)
      refine line_alone rfl (by kernel_rfl) (fun K hK => ?_)
      refine call_any (args := #[.slice lx ln lc, R8 x, .int .i64 at']) rfl (by kernel_rfl) (by kernel_rfl) (AS2.out _ (RL10.on hst.out)) ?_
      rintro e V6 ⟨ta, tn, tc, rfl, OS, be⟩
      have RS := OwnP.row OS HN.out
      have lS := OwnP.len7 OS
      subst lS
      have hst2 := hst.on be
      have RR11 := RR10.on hst2.out
      refine ⟨_, rfl, hK _ _ hst2 ?_⟩
      clear hK K hst be OS
      have hst := hst2
      clear hst2
      simp only [Act.put, List.setIfInBounds_toArray, List.set_cons_zero, List.set_cons_succ]
      iterate 1 (refine line_read rfl (by kernel_rfl) (fun K hK => ?_); go_big_quiet_op; refine hK _ ?_; clear hK K)
      refine line_alone rfl (by kernel_rfl) (fun K hK => ?_)
      refine call_wp (args := #[.slice rx zs.length rc, .slice ta zs.length tc]) rfl (by kernel_rfl) (by kernel_rfl) (SM _ _ _ RR11 RS (Nat.le_refl _)) (fun wn hbn => ?_)
      have hst2 := hst.on hbn
      refine hK _ _ hst2 ?_
      clear hK K hst hbn
      have hst := hst2
      clear hst2
      simp only [Act.put, List.setIfInBounds_toArray, List.set_cons_zero, List.set_cons_succ]
      iterate 2 (refine line_read rfl (by kernel_rfl) (fun K hK => ?_); go_big_quiet_op; refine hK _ ?_; clear hK K)
      refine line_nil ?_
      have hb := btr B10 hst.out
      clear hst
      go_wp2_with fail
      go_ret
      exact ⟨rfl, hb⟩
    · have n0 : (ac == 0) = false := by simpa using ha
      have n1 : (ac != 0) = true := by simp [ha]
      have n2 : decide (ac = 0) = false := by simp [ha]
      generalize x.f = xf at *
      have AS2 := Lib.hid AS
      clear ha NI GI QI HAC HZS hln AS
      have g4 := ps0
      go_wp2_with fail
      refine wp_region_line (Bel wc) [(0, true), (1, true), (2, true), (5, true), (6, true), (3, false), (4, true), (7, true), (8, true), (9, true), (11, true), (10, false), (12, false), (13, true), (14, true), (15, true)] (by kernel_rfl) (by kernel_rfl) (fun _ _ d _ _ h => by cases d <;> exact h) (Bel.drew wc) ?_
      have hst := Bel.drew wc
      have inst : Nonempty (Of (Bel wc)) := ⟨⟨_, hst⟩⟩
      have q0 := bel_cell k0
      have y0 := bel_cell (AX10.cell 0 _ rfl)
      have y1 := bel_cell (AX10.cell 1 _ rfl)
      have y2 := bel_cell (AX10.cell 2 _ rfl)
      have y3 := bel_cell (AX10.cell 3 _ rfl)
      have y4 := bel_cell (AX10.cell 4 _ rfl)
      have y5 := bel_cell (AX10.cell 5 _ rfl)
      have y6 := bel_cell (AX10.cell 6 _ rfl)
      have y7 := bel_cell (AX10.cell 7 _ rfl)
      generalize wc.drew = V1 at *
      iterate 5 (refine line_read rfl (by kernel_rfl) (fun K hK => ?_); go_big_quiet_op; refine hK _ ?_; clear hK K)
      refine line_alone rfl (by kernel_rfl) (fun K hK => ?_)
      refine call_any (args := #[.slice lx ln lc, R8 x, .int .i64 at']) rfl (by kernel_rfl) (by kernel_rfl) (AS2.out _ (RL10.on hst.out)) ?_
      rintro e V6 ⟨ta, tn, tc, rfl, OS, be⟩
      have hst2 := hst.on be
      refine ⟨_, rfl, hK _ _ hst2 ?_⟩
      clear hK K hst be OS
      have hst := hst2
      clear hst2
      simp only [Act.put, List.setIfInBounds_toArray, List.set_cons_zero, List.set_cons_succ]
      iterate 5 (refine line_read rfl (by kernel_rfl) (fun K hK => ?_); go_big_quiet_op; refine hK _ ?_; clear hK K)
      refine line_alone rfl (by kernel_rfl) (fun K hK => ?_)
      refine call_wp (args := #[R8 x]) rfl (by kernel_rfl) (by kernel_rfl) (FI _ (ert.on (btr B10 hst.out))) (fun wn hbn => ?_)
      have hst2 := hst.on hbn
      refine hK _ _ hst2 ?_
      clear hK K hst hbn
      have hst := hst2
      clear hst2
      simp only [Act.put, List.setIfInBounds_toArray, List.set_cons_zero, List.set_cons_succ]
      refine line_alone rfl (by kernel_rfl) (fun K hK => ?_)
      refine call_wp (args := #[R8 x]) rfl (by kernel_rfl) (by kernel_rfl) (FS _) (fun wn hbn => ?_)
      have hst2 := hst.on hbn
      refine hK _ _ hst2 ?_
      clear hK K hst hbn
      have hst := hst2
      clear hst2
      simp only [Act.put, List.setIfInBounds_toArray, List.set_cons_zero, List.set_cons_succ]
      iterate 3 (refine line_read rfl (by kernel_rfl) (fun K hK => ?_); go_big_quiet_op; refine hK _ ?_; clear hK K)
      refine line_nil ?_
      have hb := btr B10 hst.out
      clear hst
      go_wp2_with fail
      go_ret
      exact ⟨rfl, hb⟩

end Go.Proofs.YtmdknbgpddnplaaGreatDoor.fnRolls
