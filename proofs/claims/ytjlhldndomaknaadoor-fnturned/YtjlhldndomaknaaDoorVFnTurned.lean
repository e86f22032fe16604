/- A tag that was turned is told, and so is a record of another number, at every input that is drawn out of whatever bytes. The walk: the law's Go text answers true and turns nothing that was there. Conditions: as the theorem states. -/
import Derived.Test.YtjlhldndomaknaaDoorC4i
import Derived.Test.YtjlhldndomaknaaDoorD4
import Derived.WalkKit
import Derived.Below
namespace Go.Proofs.YtjlhldndomaknaaDoor.fnTurned
open Go.RowKit
set_option linter.unusedVariables false

/-- What stays so while the law goes on: what was sealed at block rb, its copy with another tag at block xb. -/
structure St (w : World) (rb xb : Nat) (s k : Int) (a : Option Addr) (n c : Nat) (tg T : Int) (ys : List Int) (cur : World) : Prop where
  bel : Below w.heap.size w cur
  res : At rb (L5 0 s k a n c tg) cur
  cpy : At xb (L4 s k a n c T) cur
  own : OwnK .u8 cur w.heap.size (.slice a n c) ys
section
variable {w : World} {rb xb : Nat} {s k : Int} {a : Option Addr} {n c : Nat} {tg T : Int} {ys : List Int} {cur cur' : World}
theorem St.on (h : St w rb xb s k a n c tg T ys cur) (hb : Below cur.heap.size cur cur') : St w rb xb s k a n c tg T ys cur' := ⟨btr h.bel hb, h.res.on hb, h.cpy.on hb, Own.below h.own hb⟩
theorem St.put (h : St w rb xb s k a n c tg T ys cur) {T' : Int} (hx : w.heap.size ≤ xb) (hne : rb ≠ xb) (ho : Off xb (.slice a n c)) : St w rb xb s k a n c tg T' ys (cur.setCell ⟨xb, 3, none⟩ (.int .i64 T')) :=
  ⟨bset h.bel hx _, h.res.setB hne _, h.cpy.set 3 _, Own.setCell h.own (fun q hq => ho q hq) _⟩
end
/-- The copy's tag is some sum. -/
def Turned (w : World) (rb xb : Nat) (s k : Int) (a : Option Addr) (n c : Nat) (tg : Int) (ys : List Int) (wx : World) : Prop := ∃ T, 0 ≤ T ∧ T ≤ 65520 ∧ St w rb xb s k a n c tg T ys wx
theorem rf0 (e s k : Int) (a : Option Addr) (n c : Nat) (t : Int) (w : World) : Sem.run Tryd.prog (Instr.field 68 (.agg #[.int .i64 e, .int .i64 s, .int .i64 k, .slice a n c, .int .i64 t]) 0) w = .ok (.int .i64 e) w := by kernel_rfl
theorem bf0 (c : Int) (a : Option Addr) (n k : Nat) (w : World) : Sem.run Tryd.prog (Instr.field 44 (.agg #[.int .i64 c, .slice a n k]) 0) w = .ok (.int .i64 c) w := by kernel_rfl
set_option maxHeartbeats 4000000 in
set_option maxRecDepth 100000 in
theorem walk (a0 : Option Addr) (len0 cap0 : Nat) (z0 : List Int) (w : World) (w0 : Row .u8 w w.heap.size a0 len0 cap0 z0) (lab : Labels w) :
    Calls Tryd.prog 6 #[.slice a0 len0 cap0] w fun e w' => e = .returned (.bool true) ∧ Below w.heap.size w w' := by
  have hl := w0.fits
  have hm := w0.most
  unfold maxLen at hm
  by_cases hbig : 1048576 < len0
  · have hB : decide (1048576 < len0) = true := by simp [hbig]
    go_enter Tryd.func6, Tryd.ntmps6
    go_wp2_with fail
    refine (lwBig_any _ _ _ _ (by omega)).mono ?_
    rintro r w' ⟨rfl, rfl⟩
    go_wp2_with fail
    go_ret
    exact ⟨rfl, Below.refl _ _⟩
  have hB : decide (1048576 < len0) = false := by simp [hbig]
  have r0 := rf0
  have r1 := bf0
  go_enter Tryd.func6, Tryd.ntmps6
  go_wp2_with fail
  refine (lwBig_any _ _ _ _ (by omega)).mono ?_
  rintro r w' ⟨rfl, rfl⟩
  go_wp2_with fail
  refine (DrawSealData_any w0).mono ?_
  rintro r u1 ⟨x, y, z, a1, n1, c1, z1, rfl, R1, b1⟩
  by_cases hC : M.sealC x y z z1.length = 0
  · obtain ⟨hx, hy, hz, hn⟩ := sealC_zero hC
    have S1 := (implSealData_any x y z a1 n1 c1 _ z1 _ (lab.on b1) R1 (Nat.le_refl _)).mono fun _ _ h => h.all
    have e1 : seS x y z z1 = y := by unfold seS; rw [if_pos hC]
    have e2 : seK x y z z1 = z := by unfold seK; rw [if_pos hC]
    have e3 : seX x y z z1 = M.turnL x y z1 := by unfold seX; rw [if_pos hC]
    have e4 : seT x y z z1 = M.recT x y z (M.turnL x y z1) := by unfold seT; rw [if_pos hC]
    rw [e1, e2, e3, e4, hC] at S1
    have hL : (M.turnL x y z1).length ≤ 60 := by rw [M.turnL_length]; exact hn
    have HW := Lib.hid (fun z hz => byte_wf (M.turnL_byte (key := x) (seq := y) R1.bytes z hz))
    obtain ⟨t0, t1⟩ := M.recT_bd x y z (M.turnL x y z1)
    have O1 := fun T (hT : 0 ≤ T) (hT2 : T ≤ 65520) (hne : T ≠ M.recT x y z (M.turnL x y z1)) => show M.openC x y y z (M.turnL x y z1) T = 9 by
      unfold M.openC
      rw [M.recF_ok hy hz (by simp [M.sumB]; omega) hL, hx, hy]
      simp [hne]
    obtain ⟨y0, y1⟩ := M.sumB_bd hy
    have hy2 : 0 ≤ (y + 1) % 65520 ∧ (y + 1) % 65520 < 65520 ∧ (y + 1) % 65520 ≠ y := by omega
    have O2 : M.openC x y ((y + 1) % 65520) z (M.turnL x y z1) (M.recT x y z (M.turnL x y z1)) = 8 := by
      unfold M.openC
      rw [M.recF_ok (by simp [M.sumB]; omega) hz (M.recT_sum _ _ _ _) hL, hx, hy]
      simp [hy2.2.2]
    have P1 := fun s a n c t B w hL hR hB => implOpenRecord_any x y s z a n c t B (M.turnL x y z1) w hL hR hB
    generalize M.recT x y z (M.turnL x y z1) = tg at *
    generalize M.turnL x y z1 = ys at *
    have HO1 := Lib.hid O1
    have HO2 := Lib.hid O2
    clear e1 e2 e3 e4 hC O1 O2
    go_wp2_with fail
    refine S1.mono ?_
    rintro r u2 ⟨a2, n2, c2, rfl, O2, b2⟩
    have A2 := At.new u2 (L5 0 y z a2 n2 c2 tg) 68
    have b2a := bal b2 (.cells #[.int .i64 0, .int .i64 y, .int .i64 z, .slice a2 n2 c2, .int .i64 tg] 68)
    have A3 := (At.new (u2.alloc (.cells #[.int .i64 0, .int .i64 y, .int .i64 z, .slice a2 n2 c2, .int .i64 tg] 68)) (L4 y z a2 n2 c2 tg) 66)
    have O3 := (O2.alloc (.cells #[.int .i64 0, .int .i64 y, .int .i64 z, .slice a2 n2 c2, .int .i64 tg] 68)).alloc (.cells #[.int .i64 y, .int .i64 z, .slice a2 n2 c2, .int .i64 tg] 66)
    simp only [World.size_alloc] at A3
    have leW : w.heap.size ≤ u2.heap.size := by have := b1.size; have := b2.size; omega
    have S3 : St w u2.heap.size (u2.heap.size + 1) y z a2 n2 c2 tg tg ys ((u2.alloc (.cells #[.int .i64 0, .int .i64 y, .int .i64 z, .slice a2 n2 c2, .int .i64 tg] 68)).alloc (.cells #[.int .i64 y, .int .i64 z, .slice a2 n2 c2, .int .i64 tg] 66)) :=
      ⟨bal (btr b1 b2a) _, A2.alloc _, A3, O3.less b1.size⟩
    have off1 := O2.offHi (g := u2.heap.size + 1) (by omega)
    clear S1 O2 b2 A2 b2a A3 O3 b1 R1
    go_upto_region 8 with fail
    generalize (u2.alloc (.cells #[.int .i64 0, .int .i64 y, .int .i64 z, .slice a2 n2 c2, .int .i64 tg] 68)).alloc (.cells #[.int .i64 y, .int .i64 z, .slice a2 n2 c2, .int .i64 tg] 66) = v3 at *
    go_cut [] from 39 to 46 (fun wx => Turned w u2.heap.size (u2.heap.size + 1) y z a2 n2 c2 tg ys wx)
    case first =>
      have S4 := S3.on (bdrew _)
      have S0 : Bel w v3.drew := ⟨S4.bel⟩
      clear S3
      refine wp_region_fork (Bel w) (by kernel_rfl) (S0) ?_
      have hst : (Bel w) _ := (S0)
      have inst : Nonempty (Of (Bel w)) := ⟨⟨_, hst⟩⟩
      generalize v3.drew = V at *
      clear S0
      refine any_seg 7 [(0, true), (3, true)] (by kernel_rfl) (fun _ _ d _ _ h => by cases d <;> exact h) ?_
      iterate 2 (refine line_read rfl (by kernel_rfl) (fun K hK => ?_); go_big_quiet_op; refine hK _ ?_; clear hK K)
      refine line_nil ?_
      refine any_fork 1 4 (by kernel_rfl) rfl rfl (by kernel_rfl) (by kernel_rfl) (fun K hK => ?_) (fun K hK => ?_)
      · have c3 := S4.cpy.cell 3 _ rfl
        go_big_op
        refine hK _ _ hst ?_
        clear hK K
        refine any_rest [(2, true), (4, false), (5, true), (6, true), (7, true), (8, false)] (by kernel_rfl) (fun _ _ d _ _ h => by cases d <;> exact h) ?_
        iterate 1 (refine line_read rfl (by kernel_rfl) (fun K hK => ?_); go_big_quiet_op; refine hK _ ?_; clear hK K)
        refine line_alone rfl (by kernel_rfl) (fun K hK => ?_)
        refine call_any (args := #[.slice a0 len0 cap0, .int .i64 2, .int .i64 65520]) rfl (by kernel_rfl) (by kernel_rfl) (lwAt_any 2 65520 a0 len0 cap0 _ z0 V (w0.on S4.bel) (by omega)) ?_
        rintro e V2 ⟨q, q0, q1, rfl, b5⟩
        have S5 := S4.on b5
        have q2 : q < 65520 := by omega
        refine ⟨_, rfl, hK _ _ ⟨S5.bel⟩ ?_⟩
        clear hK K hst q1 c3 S4 b5
        simp only [Act.put, List.setIfInBounds_toArray, List.set_cons_zero, List.set_cons_succ]
        iterate 3 (refine line_read rfl (by kernel_rfl) (fun K hK => ?_); go_big_quiet_op; refine hK _ ?_; clear hK K)
        have c3 := S5.cpy.cell 3 _ rfl
        have f3 := S5.cpy.free 3 _ rfl
        have S6 := S5.put (T' := (tg + 1 + q) % 65521) (by omega) (by omega) off1
        refine line_alone rfl (by kernel_rfl) (fun K hK => ?_)
        go_big_op
        refine hK _ _ (⟨S6.bel⟩) ?_
        clear hK K
        refine line_nil ?_
        have HT := Lib.hid (show Turned w u2.heap.size (u2.heap.size + 1) y z a2 n2 c2 tg ys _ from ⟨(tg + 1 + q) % 65521, by omega, by omega, S6⟩)
        clear S5 S6 c3 f3
        go_wp2_with fail
        go_meet
        case rel => exact HT.out
      · refine call_any (args := #[.slice a0 len0 cap0, .int .i64 2, .int .i64 65520]) rfl (by kernel_rfl) (by kernel_rfl) (lwAt_any 2 65520 a0 len0 cap0 _ z0 V (w0.on S4.bel) (by omega)) ?_
        rintro e V2 ⟨q, q0, q1, rfl, b5⟩
        have S5 := S4.on b5
        have q2 : q < 65520 := by omega
        have hst5 : Bel w V2 := ⟨S5.bel⟩
        refine ⟨_, rfl, hK _ _ hst5 ?_⟩
        clear hK K hst q1 S4 b5
        simp only [Act.put, List.setIfInBounds_toArray, List.set_cons_zero, List.set_cons_succ]
        refine any_rest [(1, false), (2, true), (5, true), (6, true), (7, true), (8, false)] (by kernel_rfl) (fun _ _ d _ _ h => by cases d <;> exact h) ?_
        have c3 := S5.cpy.cell 3 _ rfl
        refine line_alone rfl (by kernel_rfl) (fun K hK => ?_)
        go_big_op
        refine hK _ _ (hst5) ?_
        clear hK K
        iterate 4 (refine line_read rfl (by kernel_rfl) (fun K hK => ?_); go_big_quiet_op; refine hK _ ?_; clear hK K)
        have c3 := S5.cpy.cell 3 _ rfl
        have f3 := S5.cpy.free 3 _ rfl
        have S6 := S5.put (T' := (tg + 1 + q) % 65521) (by omega) (by omega) off1
        refine line_alone rfl (by kernel_rfl) (fun K hK => ?_)
        go_big_op
        refine hK _ _ (⟨S6.bel⟩) ?_
        clear hK K
        refine line_nil ?_
        have HT := Lib.hid (show Turned w u2.heap.size (u2.heap.size + 1) y z a2 n2 c2 tg ys _ from ⟨(tg + 1 + q) % 65521, by omega, by omega, S6⟩)
        clear S5 S6 c3 f3
        go_wp2_with fail
        go_meet
        case rel => exact HT.out
    case rest =>
      obtain ⟨T, T0, T1, S5⟩ := hcut
      have p0 := S5.res.cell 0 _ rfl
      have p1 := S5.res.cell 1 _ rfl
      have p2 := S5.res.cell 2 _ rfl
      have p3 := S5.res.cell 3 _ rfl
      have p4 := S5.res.cell 4 _ rfl
      have q0 := S5.cpy.cell 0 _ rfl
      have q1 := S5.cpy.cell 1 _ rfl
      have q2 := S5.cpy.cell 2 _ rfl
      have q3 := S5.cpy.cell 3 _ rfl
      have l5 := S5.res.lt (by simp)
      have l6 := S5.cpy.lt (by simp)
      have S6 := S5.on (bal (Below.refl _ wc) (.cells #[.int .i64 ((y + 1) % 65520), .int .i64 z, .slice a2 n2 c2, .int .i64 tg] 66))
      obtain ⟨y2, y3, y4⟩ := hy2
      by_cases hT : T = tg
      · subst hT
        have A7 := At.new wc (L4 ((y + 1) % 65520) z a2 n2 c2 T) 66
        have P2 := P1 ((y + 1) % 65520) a2 n2 c2 T _ _ (lab.on S6.bel) (Own.row S6.own HW.out) (Nat.le_refl _)
        rw [HO2.out] at P2
        go_wp2_with fail
        refine P2.mono ?_
        rintro r u7 ⟨a7, n7, c7, rfl, O7, b7⟩
        have hb := btr S6.bel b7
        clear O7 b7 S5 S6 P1 P2
        go_wp2_with fail
        go_ret
        exact ⟨rfl, hb⟩
      · have hT' : (T == tg) = false := by rw [beq_eq_false_iff_ne]; exact hT
        have P2 := P1 y a2 n2 c2 T _ _ (lab.on S6.bel) (Own.row S6.own HW.out) (Nat.le_refl _)
        rw [HO1.out T T0 T1 hT] at P2
        have A7 := At.new wc (L4 ((y + 1) % 65520) z a2 n2 c2 tg) 66
        go_wp2_with fail
        generalize wc.alloc (.cells #[.int .i64 ((y + 1) % 65520), .int .i64 z, .slice a2 n2 c2, .int .i64 tg] 66) = v6 at *
        refine P2.mono ?_
        rintro r u7 ⟨a7, n7, c7, rfl, O7, b7⟩
        have S7 := S6.on b7
        have y0 := (A7.on b7).cell 0 _ rfl
        have y1 := (A7.on b7).cell 1 _ rfl
        have y2 := (A7.on b7).cell 2 _ rfl
        have y3 := (A7.on b7).cell 3 _ rfl
        have P3 := P1 ((y + 1) % 65520) a2 n2 c2 tg _ _ (lab.on S7.bel) (Own.row S7.own HW.out) (Nat.le_refl _)
        rw [HO2.out] at P3
        clear O7 b7 S5 S6 P2 A7 p0 p1 p2 p3 p4 q0 q1 q2 q3
        go_wp2_with fail
        refine P3.mono ?_
        rintro r u8 ⟨a8, n8, c8, rfl, O8, b8⟩
        have hb := btr S7.bel b8
        clear O8 b8 S7 P1 P3
        go_wp2_with fail
        go_ret
        exact ⟨rfl, hb⟩
  · have S1 := (implSealData_any x y z a1 n1 c1 _ z1 _ (lab.on b1) R1 (Nat.le_refl _)).mono fun _ _ h => h.all
    have S2 := fun w hR hB => (specSealData_any x y z a1 n1 c1 u1.heap.size z1 w hR hB).mono fun _ _ h => h.all
    have hC' : (M.sealC x y z z1.length != 0) = true := by simpa [bne] using hC
    generalize M.sealC x y z z1.length = e at *
    generalize seS x y z z1 = s at *
    generalize seK x y z z1 = k at *
    generalize seX x y z z1 = ys at *
    generalize seT x y z z1 = t at *
    clear hC
    go_wp2_with fail
    refine S1.mono ?_
    rintro r u2 ⟨a2, n2, c2, rfl, O2, b2⟩
    have b2a := bal b2 (.cells #[.int .i64 e, .int .i64 s, .int .i64 k, .slice a2 n2 c2, .int .i64 t] 68)
    have A2 := At.new u2 (L5 e s k a2 n2 c2 t) 68
    have c0 := A2.cell 0 _ rfl
    have R2 := R1.below b2a
    have hz2 := b2a.size
    have B2 := btr b1 b2a
    clear S1 O2 b2 A2 b2a b1 R1
    go_wp2_with fail
    generalize u2.alloc (.cells #[.int .i64 e, .int .i64 s, .int .i64 k, .slice a2 n2 c2, .int .i64 t] 68) = v2 at *
    refine wp_region_line (Bel v2) [(0, true), (1, true), (2, true), (3, true), (6, true), (7, true), (4, false), (5, true), (8, true), (9, true)] (by kernel_rfl) (by kernel_rfl) (fun _ _ d _ _ h => by cases d <;> exact h) (Bel.drew v2) ?_
    have hst := Bel.drew v2
    have inst : Nonempty (Of (Bel v2)) := ⟨⟨_, hst⟩⟩
    have k0 := bel_cell c0
    iterate 6 (refine line_read rfl (by kernel_rfl) (fun K hK => ?_); go_big_quiet_op; refine hK _ ?_; clear hK K)
    refine line_alone rfl (by kernel_rfl) (fun K hK => ?_)
    refine call_any (args := #[.int .i64 x, .int .i64 y, .int .i64 z, .slice a1 n1 c1]) rfl (by kernel_rfl) (by kernel_rfl) (S2 _ (R2.below (hst.out.mono hz2)) (Nat.le_trans hz2 hst.out.size)) ?_
    rintro e2 u3 ⟨a3, n3, c3, rfl, O3, b3⟩
    have hst2 := hst.on b3
    refine ⟨_, rfl, hK _ _ hst2 ?_⟩
    clear hK K hst O3 b3
    simp only [Act.put, List.setIfInBounds_toArray, List.set_cons_zero, List.set_cons_succ]
    iterate 3 (refine line_read rfl (by kernel_rfl) (fun K hK => ?_); go_big_quiet_op; refine hK _ ?_; clear hK K)
    refine line_nil ?_
    have hb := btr B2 hst2.out
    go_wp2_with fail
    go_ret
    exact ⟨rfl, hb⟩

end Go.Proofs.YtjlhldndomaknaaDoor.fnTurned
