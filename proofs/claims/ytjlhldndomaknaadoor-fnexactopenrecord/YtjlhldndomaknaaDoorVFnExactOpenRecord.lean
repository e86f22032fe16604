/- The function OpenRecord answers, at every argument, as its model does, in memory of its own, and leaves its argument as it was. The walk: the law's Go text answers true and turns nothing that was there. Conditions: as the theorem states. -/
import Derived.Test.YtjlhldndomaknaaDoorC4i
import Derived.Test.YtjlhldndomaknaaDoorL4
import Derived.Test.YtjlhldndomaknaaDoorOpen4
import Derived.WalkKit
import Derived.Below
namespace Go.Proofs.YtjlhldndomaknaaDoor.fnExactOpenRecord
open Go.RowKit
set_option linter.unusedVariables false

set_option maxRecDepth 100000 in
set_option maxHeartbeats 1000000 in
theorem walk (a0 : Int) (a1 : Int) (a2s a2k : Int) (a2 : Option Addr) (len2 cap2 : Nat) (z2 : List Int) (a2t : Int) (w : World) (w0 : (Lit.int .i64 a0).wf = true) (w1 : (Lit.int .i64 a1).wf = true) (w2s : (Lit.int .i64 a2s).wf = true) (w2k : (Lit.int .i64 a2k).wf = true) (w2t : (Lit.int .i64 a2t).wf = true) (w2 : Row .u8 w w.heap.size a2 len2 cap2 z2) (lab : Labels w) :
    Calls Tryd.prog 13 #[.int .i64 a0, .int .i64 a1, .agg #[.int .i64 a2s, .int .i64 a2k, .slice a2 len2 cap2, .int .i64 a2t]] w fun e w' => e = .returned (.bool true) ∧ Below w.heap.size w w' := by
  have hl := w2.fits
  have hm := w2.most
  have hmx : len2 ≤ maxLen := Nat.le_trans hl hm
  unfold maxLen at hm
  have b0 := bal (Below.refl _ w) (.cells #[.int .i64 a2s, .int .i64 a2k, .slice a2 len2 cap2, .int .i64 a2t] 94)
  have A0 := At.new w (L4 a2s a2k a2 len2 cap2 a2t) 94
  have F := fun w => szRecord_any a2s a2k a2 len2 cap2 a2t 1048576 w hmx (by omega) (by omega)
  by_cases hbig : (1048576 : Int) < len2
  · simp only [if_pos hbig] at F
    go_enter Tryd.func13, Tryd.ntmps13
    go_wp2_with fail
    refine (F _).mono ?_
    rintro r u1 ⟨rfl, b1⟩
    have hb := btr b0 b1
    go_wp2_with fail
    go_ret
    exact ⟨rfl, hb⟩
  simp only [if_neg hbig] at F
  have hs0 : ¬ (1048576 : Int) - len2 < 0 := by omega
  have hl2 : len2 ≤ 1048576 := by omega
  have S1 := fun a c B w hR hB => specOpenRecord_any a0 a1 a2s a2k a len2 c a2t B z2 w hR hB
  have S2 := fun a c B w hL hR hB => implOpenRecord_any a0 a1 a2s a2k a len2 c a2t B z2 w hL hR hB
  have hn := openL_len a0 a1 a2s a2k z2 a2t
  rw [w2.length] at hn
  have HW := Lib.hid (openL_wf (key := a0) (q := a1) (s := a2s) (k := a2k) (t := a2t) w2.bytes)
  generalize M.openL a0 a1 a2s a2k z2 a2t = zs at *
  generalize M.openC a0 a1 a2s a2k z2 a2t = cd at *
  go_enter Tryd.func13, Tryd.ntmps13
  go_wp2_with fail
  generalize w.alloc (.cells #[.int .i64 a2s, .int .i64 a2k, .slice a2 len2 cap2, .int .i64 a2t] 94) = W0 at *
  refine (F _).mono ?_
  rintro r u1 ⟨rfl, b1⟩
  have A := A0.on b1
  have B := btr b0 b1
  have p0 := A.cell 0 _ rfl
  have p1 := A.cell 1 _ rfl
  have p2 := A.cell 2 _ rfl
  have p3 := A.cell 3 _ rfl
  clear b1 b0 A0 F
  go_wp2_with fail
  refine (toRecord_any a2s a2k a2 len2 cap2 a2t _ _ _ (w2.on B) (Nat.le_refl _) hl2).mono ?_
  rintro r u2 ⟨a22, c22, rfl, O2, b2⟩
  go_wp2_with fail
  refine (S1 a22 c22 _ _ (Own.row O2 w2.wf) (Nat.le_refl _)).mono ?_
  rintro r u3 ⟨a3, n3, c3, rfl, O3, b3⟩
  have l3 := O3.len
  subst l3
  have bb := bal (btr b2 b3) (.cells #[.int .i64 cd, .slice a3 zs.length c3] 44)
  have y0 := (A.on (btr b2 b3)).cell 0 _ rfl
  have y1 := (A.on (btr b2 b3)).cell 1 _ rfl
  have y2 := (A.on (btr b2 b3)).cell 2 _ rfl
  have y3 := (A.on (btr b2 b3)).cell 3 _ rfl
  have ltA : w.heap.size < u3.heap.size := (A.on (btr b2 b3)).lt (by simp)
  have AA := A.on bb
  have BB := btr B bb
  have X3 := At.new u3 [.int .i64 cd, .slice a3 zs.length c3] 44
  have P3 := (O3.less (B' := w.heap.size) (by have := B.size; have := b2.size; omega)).alloc (.cells #[.int .i64 cd, .slice a3 zs.length c3] 44)
  have F3 := O3.offHi (Nat.le_refl _)
  have hsz3 : (u3.alloc (.cells #[.int .i64 cd, .slice a3 zs.length c3] 44)).heap.size = u3.heap.size + 1 := by simp
  have HZ3 := Lib.hid hsz3
  clear O2 O3 b2 b3 bb A B p0 p1 p2 p3 hsz3
  go_wp2_with fail
  generalize u3.alloc (.cells #[.int .i64 cd, .slice a3 zs.length c3] 44) = v3 at *
  refine (toRecord_any a2s a2k a2 len2 cap2 a2t _ _ _ (w2.on BB) (Nat.le_refl _) hl2).mono ?_
  rintro r u4 ⟨a4, c4, rfl, O4, b4⟩
  have bb := bal b4 (.cells #[.int .i64 a2s, .int .i64 a2k, .slice a4 len2 c4, .int .i64 a2t] 66)
  have A := AA.on bb
  have B := btr BB bb
  have X4 := X3.on bb
  have P4 := Own.below P3 bb
  have Y4 := At.new u4 (L4 a2s a2k a4 len2 c4 a2t) 66
  have Q4 := O4.alloc (.cells #[.int .i64 a2s, .int .i64 a2k, .slice a4 len2 c4, .int .i64 a2t] 66)
  have G4 := O4.offHi (Nat.le_refl _)
  have sep34 := Own.sep P3 O4 (Nat.le_refl _)
  have G34 := O4.offLo (g := u3.heap.size) (by have := HZ3.out; omega)
  have G4A := O4.offLo (g := w.heap.size) (by have := HZ3.out; omega)
  have lt34 : u3.heap.size < u4.heap.size := (X3.on b4).lt (by simp)
  have hsz4 : (u4.alloc (.cells #[.int .i64 a2s, .int .i64 a2k, .slice a4 len2 c4, .int .i64 a2t] 66)).heap.size = u4.heap.size + 1 := by simp
  have HZ4 := Lib.hid hsz4
  clear O4 b4 bb AA BB X3 P3 y0 y1 y2 y3 hsz4
  go_wp2_with fail
  generalize u4.alloc (.cells #[.int .i64 a2s, .int .i64 a2k, .slice a4 len2 c4, .int .i64 a2t] 66) = v4 at *
  refine (S2 a4 c4 _ _ (lab.on B) (Own.row Q4 w2.wf) (Nat.le_refl _)).mono ?_
  rintro r u5 ⟨a5, n5, c5, rfl, O5, b5⟩
  have l5 := O5.len
  subst l5
  have bb := bal b5 (.cells #[.int .i64 cd, .slice a5 zs.length c5] 44)
  have A5 := A.on bb
  have B5 := btr B bb
  have X5 := X4.on bb
  have P5 := Own.below P4 bb
  have Y5 := Y4.on bb
  have Q5 := Own.below Q4 bb
  have Z5 := At.new u5 [.int .i64 cd, .slice a5 zs.length c5] 44
  have T5 := O5.alloc (.cells #[.int .i64 cd, .slice a5 zs.length c5] 44)
  have H5 := O5.offHi (Nat.le_refl _)
  have sep35 := Own.sep P4 O5 (Nat.le_refl _)
  have sep45 := Own.sep Q4 O5 (Nat.le_refl _)
  have H45 := O5.offLo (g := u4.heap.size) (by have := HZ4.out; omega)
  have H35 := O5.offLo (g := u3.heap.size) (by have := HZ4.out; omega)
  have HA5 := O5.offLo (g := w.heap.size) (by have := HZ4.out; omega)
  have lt45 : u4.heap.size < u5.heap.size := (Y4.on b5).lt (by simp)
  have G5 := Q4.offHi (g := u5.heap.size) b5.size
  have x0 := (X4.on b5).cell 0 _ rfl
  have x1 := (X4.on b5).cell 1 _ rfl
  have lt35 : u3.heap.size < u5.heap.size := by omega
  clear O5 b5 bb A B X4 P4 Y4 Q4
  go_wp2_with fail
  generalize u5.alloc (.cells #[.int .i64 cd, .slice a5 zs.length c5] 44) = v5 at *
  refine (eqBytes_any _ _ _ _ _ _ v5.heap.size _ _ (Own.row T5 HW.out) (Own.row P5 HW.out) (Nat.le_refl _)).mono ?_
  rintro r u6 ⟨rfl, b6⟩
  have A := A5.on b6
  have B := btr B5 b6
  have X := X5.on b6
  have P := Own.below P5 b6
  have Y := Y5.on b6
  have Q := Own.below Q5 b6
  have Z := Z5.on b6
  have T := Own.below T5 b6
  clear b6 A5 B5 X5 P5 Y5 Q5 Z5 T5 x0 x1
  go_wp2_with fail
  have p0 := A.cell 0 _ rfl
  have p1 := A.cell 1 _ rfl
  have p2 := A.cell 2 _ rfl
  have p3 := A.cell 3 _ rfl
  have y0 := Y.cell 0 _ rfl
  have y1 := Y.cell 1 _ rfl
  have y2 := Y.cell 2 _ rfl
  have y3 := Y.cell 3 _ rfl
  refine wp_region_line (Bel u6) [(0, true), (1, true), (2, false), (3, false), (4, true)] (by kernel_rfl) (by kernel_rfl) (fun _ _ d _ _ h => by cases d <;> exact h) (Bel.drew u6) ?_
  have hst := Bel.drew u6
  have inst : Nonempty (Of (Bel u6)) := ⟨⟨_, hst⟩⟩
  have k0 := bel_cell p0
  have k1 := bel_cell p1
  have k2 := bel_cell p2
  have k3 := bel_cell p3
  have m0 := bel_cell y0
  have m1 := bel_cell y1
  have m2 := bel_cell y2
  have m3 := bel_cell y3
  iterate 2 (refine line_read rfl (by kernel_rfl) (fun K hK => ?_); go_big_quiet_op; refine hK _ ?_; clear hK K)
  refine line_alone rfl (by kernel_rfl) (fun K hK => ?_)
  refine call_any (args := #[.agg #[.int .i64 a2s, .int .i64 a2k, .slice a2 len2 cap2, .int .i64 a2t]]) rfl (by kernel_rfl) (by kernel_rfl) (toRecord_any a2s a2k a2 len2 cap2 a2t _ _ _ ((w2.on B).on hst.out) (Nat.le_refl _) hl2) ?_
  rintro e u7 ⟨a7, c7, rfl, O7, b7⟩
  have hst2 := hst.on b7
  refine ⟨_, rfl, hK _ _ hst2 ?_⟩
  have Q7 := Own.row O7 w2.wf
  have R7 := (Own.row Q w2.wf).on hst2.out
  clear hK K hst O7 b7
  simp only [Act.put, List.setIfInBounds_toArray, List.set_cons_zero, List.set_cons_succ]
  refine line_alone rfl (by kernel_rfl) (fun K hK => ?_)
  refine call_any (args := #[.agg #[.int .i64 a2s, .int .i64 a2k, .slice a4 len2 c4, .int .i64 a2t], .agg #[.int .i64 a2s, .int .i64 a2k, .slice a7 len2 c7, .int .i64 a2t]]) rfl (by kernel_rfl) (by kernel_rfl) (eqRecord_any _ _ _ _ _ _ _ _ _ _ _ R7 Q7 (Nat.le_refl _)) ?_
  rintro e u8 ⟨rfl, b8⟩
  have hst := hst2.on b8
  refine ⟨_, rfl, hK _ _ hst ?_⟩
  clear hK K hst2 R7 Q7 b8
  simp only [Act.put, List.setIfInBounds_toArray, List.set_cons_zero, List.set_cons_succ]
  iterate 1 (refine line_read rfl (by kernel_rfl) (fun K hK => ?_); go_big_quiet_op; refine hK _ ?_; clear hK K)
  refine line_nil ?_
  have A8 := A.on hst.out
  have B8 := btr B hst.out
  have X8 := X.on hst.out
  have P8 := Own.below P hst.out
  have Y8 := Y.on hst.out
  have Q8 := Own.below Q hst.out
  have Z8 := Z.on hst.out
  have T8 := Own.below T hst.out
  clear A B X P Y Q Z T hst inst k0 k1 k2 k3 m0 m1 m2 m3 p0 p1 p2 p3 y0 y1 y2 y3
  have y0 := Y8.cell 0 _ rfl
  have y1 := Y8.cell 1 _ rfl
  have y2 := Y8.cell 2 _ rfl
  have y3 := Y8.cell 3 _ rfl
  go_wp2_with fail
  refine (markRecord_any 0 a2s a2k a2t a4 len2 c4 _ 1 z2 _ Q8 (by omega) (by omega) hl2).mono ?_
  rintro r u9 ⟨rfl, O9, g9⟩
  have A := A8.keptS g9 G4A
  have B := (Q8.less (B' := w.heap.size) (by have := HZ3.out; omega)).grown B8 B8.size g9
  have X := X8.keptS g9 G34
  have P := Own.keptS P8 g9 sep34
  have Z := Z8.keptS g9 G5
  have T := Own.keptS T8 g9 sep45.symm
  clear A8 B8 X8 P8 Y8 Q8 Z8 T8 O9 g9 y0 y1 y2 y3
  have x0 := X.cell 0 _ rfl
  have x1 := X.cell 1 _ rfl
  have y0 := Z.cell 0 _ rfl
  have y1 := Z.cell 1 _ rfl
  have hk0 : ¬ (1 : Int) + len2 < 0 := by omega
  go_wp2_with fail
  refine (eqBytes_any _ _ _ _ _ _ u9.heap.size _ _ (Own.row T HW.out) (Own.row P HW.out) (Nat.le_refl _)).mono ?_
  rintro r u10 ⟨rfl, b10⟩
  have A10 := A.on b10
  have B10 := btr B b10
  have X10 := X.on b10
  have P10 := Own.below P b10
  have Z10 := Z.on b10
  have T10 := Own.below T b10
  clear A B X P Z T b10 x0 x1 y0 y1
  have y0 := Z10.cell 0 _ rfl
  have y1 := Z10.cell 1 _ rfl
  go_wp2_with fail
  refine (markBytes_any _ _ _ _ _ _ _ _ T10 (by omega) (by omega) (by omega)).mono ?_
  rintro r u11 ⟨rfl, O11, g11⟩
  have A := A10.keptS g11 HA5
  have B := (T10.less (B' := w.heap.size) (by have := HZ3.out; have := HZ4.out; omega)).grown B10 B10.size g11
  have X := X10.keptS g11 H35
  have P := Own.keptS P10 g11 sep35
  have Z := Z10.keptS g11 H5
  clear A10 B10 X10 P10 Z10 T10 g11 y0 y1
  have y0 := Z.cell 0 _ rfl
  have y1 := Z.cell 1 _ rfl
  go_wp2_with fail
  refine (heldBytes_any _ _ _ _ u11.heap.size _ _ (Own.row O11 (marks_wf _ _)) (Nat.le_refl _) (by omega) (by omega) (by omega)).mono ?_
  rintro r u12 ⟨rfl, b12⟩
  have A12 := A.on b12
  have B12 := btr B b12
  have X12 := X.on b12
  have P12 := Own.below P b12
  have Z12 := Z.on b12
  have T12 := Own.below O11 b12
  clear A B X P Z O11 b12 y0 y1
  have p0 := A12.cell 0 _ rfl
  have p1 := A12.cell 1 _ rfl
  have p2 := A12.cell 2 _ rfl
  have p3 := A12.cell 3 _ rfl
  have hk1 : ¬ (1 : Int) + (zs.length : Int) < 0 := by omega
  go_wp2_with fail
  refine (toRecord_any a2s a2k a2 len2 cap2 a2t _ _ _ (w2.on B12) (Nat.le_refl _) hl2).mono ?_
  rintro r u13 ⟨a13, c13, rfl, O13, b13⟩
  go_wp2_with fail
  refine (S2 a13 c13 _ _ (lab.on (btr B12 b13)) (Own.row O13 w2.wf) (Nat.le_refl _)).mono ?_
  rintro r u14 ⟨a14, n14, c14, rfl, O14, b14⟩
  have l14 := O14.len
  subst l14
  have bb := bal (btr b13 b14) (.cells #[.int .i64 cd, .slice a14 zs.length c14] 44)
  have B := btr B12 bb
  have x0 := (X12.on (btr b13 b14)).cell 0 _ rfl
  have x1 := (X12.on (btr b13 b14)).cell 1 _ rfl
  have lt14 : u3.heap.size < u14.heap.size := (X12.on (btr b13 b14)).lt (by simp)
  have P := Own.below P12 bb
  have Z := Z12.on bb
  have T := Own.below T12 bb
  have R14 := (Own.row O14 HW.out).on (bal (Below.refl _ _) (.cells #[.int .i64 cd, .slice a14 zs.length c14] 44))
  clear A12 B12 X12 P12 Z12 T12 O13 O14 b13 b14 bb p0 p1 p2 p3
  go_wp2_with fail
  generalize u14.alloc (.cells #[.int .i64 cd, .slice a14 zs.length c14] 44) = v14 at *
  refine (eqBytes_any _ _ _ _ _ _ v14.heap.size _ _ R14 (Own.row P HW.out) (Nat.le_refl _)).mono ?_
  rintro r u15 ⟨rfl, b15⟩
  have B15 := btr B b15
  have Z15 := Z.on b15
  have T15 := Own.below T b15
  clear B P Z T R14 b15 x0 x1
  have y0 := Z15.cell 0 _ rfl
  have y1 := Z15.cell 1 _ rfl
  go_wp2_with fail
  refine (heldBytes_any _ _ _ _ u15.heap.size _ _ (Own.row T15 (marks_wf _ _)) (Nat.le_refl _) (by omega) (by omega) (by omega)).mono ?_
  rintro r u16 ⟨rfl, b16⟩
  have B16 := btr B15 b16
  clear B15 Z15 T15 b16 y0 y1
  go_wp2_with fail
  go_ret
  exact ⟨rfl, B16⟩

end Go.Proofs.YtjlhldndomaknaaDoor.fnExactOpenRecord
