/- The function SealData answers, at every argument, as its model does, in memory of its own, and leaves its argument as it was. The walk: the law's Go text answers true and turns nothing that was there. Conditions: as the theorem states. -/
import Derived.Test.YtjlhldndomaknaaDoorC4i
import Derived.Test.YtjlhldndomaknaaDoorL4
import Derived.WalkKit
import Derived.Below
namespace Go.Proofs.YtjlhldndomaknaaDoor.fnExactSealData
open Go.RowKit
set_option linter.unusedVariables false

set_option maxRecDepth 100000 in
set_option maxHeartbeats 1000000 in
theorem walk (a0 : Int) (a1 : Int) (a2 : Int) (a3 : Option Addr) (len3 cap3 : Nat) (z3 : List Int) (w : World) (w0 : (Lit.int .i64 a0).wf = true) (w1 : (Lit.int .i64 a1).wf = true) (w2 : (Lit.int .i64 a2).wf = true) (w3 : Row .u8 w w.heap.size a3 len3 cap3 z3) (lab : Labels w) :
    Calls Tryd.prog 12 #[.int .i64 a0, .int .i64 a1, .int .i64 a2, .slice a3 len3 cap3] w fun e w' => e = .returned (.bool true) ∧ Below w.heap.size w w' := by
  have hl := w3.fits
  have hm := w3.most
  unfold maxLen at hm
  by_cases hbig : 1048576 < len3
  · go_enter Tryd.func12, Tryd.ntmps12
    go_wp2_with fail
    go_ret
    exact ⟨rfl, Below.refl _ _⟩
  have hl2 : len3 ≤ 1048576 := by omega
  have S1 := fun a c B w hR hB => (specSealData_any a0 a1 a2 a len3 c B z3 w hR hB).mono fun _ _ h => h.all
  have S2 := fun a c B w hL hR hB => (implSealData_any a0 a1 a2 a len3 c B z3 w hL hR hB).mono fun _ _ h => h.all
  have hn := seX_len a0 a1 a2 z3
  have HW := Lib.hid (seX_wf (key := a0) (s := a1) (k := a2) w3.bytes)
  generalize seX a0 a1 a2 z3 = zs at *
  generalize M.sealC a0 a1 a2 z3.length = e at *
  generalize seS a0 a1 a2 z3 = s at *
  generalize seK a0 a1 a2 z3 = k at *
  generalize seT a0 a1 a2 z3 = t at *
  go_enter Tryd.func12, Tryd.ntmps12
  go_wp2_with fail
  refine (toByteS_any a3 len3 cap3 _ z3 _ w3 (Nat.le_refl _) hl2).mono ?_
  rintro r u2 ⟨rfl, O2, b2⟩
  go_wp2_with fail
  refine (S1 _ _ _ _ (Own.row O2 w3.wf) (Nat.le_refl _)).mono ?_
  rintro r u3 ⟨a33, n33, c33, rfl, O3, b3⟩
  have l3 := O3.len
  subst l3
  have bb := bal (btr b2 b3) (.cells #[.int .i64 e, .int .i64 s, .int .i64 k, .slice a33 zs.length c33, .int .i64 t] 68)
  have X3 := At.new u3 (L5 e s k a33 zs.length c33 t) 68
  have P3 := (O3.less (B' := w.heap.size) (by have := b2.size; omega)).alloc (.cells #[.int .i64 e, .int .i64 s, .int .i64 k, .slice a33 zs.length c33, .int .i64 t] 68)
  have HZ3 := Lib.hid (show (u3.alloc (.cells #[.int .i64 e, .int .i64 s, .int .i64 k, .slice a33 zs.length c33, .int .i64 t] 68)).heap.size = u3.heap.size + 1 by simp)
  clear O2 O3 b2 b3
  go_wp2_with fail
  generalize u3.alloc (.cells #[.int .i64 e, .int .i64 s, .int .i64 k, .slice a33 zs.length c33, .int .i64 t] 68) = v3 at *
  refine (toByteS_any a3 len3 cap3 _ z3 _ (w3.on bb) (Nat.le_refl _) hl2).mono ?_
  rintro r u4 ⟨rfl, O4, b4⟩
  have B := btr bb b4
  have X := X3.on b4
  have P := Own.below P3 b4
  have sep34 := Own.sep P3 O4 (Nat.le_refl _)
  have G34 := O4.offLo (g := u3.heap.size) (by have := HZ3.out; omega)
  clear b4 X3 P3
  go_wp2_with fail
  refine (S2 _ _ _ _ (lab.on B) (Own.row O4 w3.wf) (Nat.le_refl _)).mono ?_
  rintro r u5 ⟨a5, n5, c5, rfl, O5, b5⟩
  have l5 := O5.len
  subst l5
  have bv := bal b5 (.cells #[.int .i64 e, .int .i64 s, .int .i64 k, .slice a5 zs.length c5, .int .i64 t] 68)
  have B5 := btr B bv
  have X5 := X.on bv
  have P5 := Own.below P bv
  have Q5 := Own.below O4 bv
  have Z5 := At.new u5 (L5 e s k a5 zs.length c5 t) 68
  have T5 := O5.alloc (.cells #[.int .i64 e, .int .i64 s, .int .i64 k, .slice a5 zs.length c5, .int .i64 t] 68)
  have H5 := O5.offHi (Nat.le_refl _)
  have sep35 := Own.sep P O5 (Nat.le_refl _)
  have sep45 := Own.sep O4 O5 (Nat.le_refl _)
  have H35 := O5.offLo (g := u3.heap.size) (X.lt (by simp))
  have G5 := O4.offHi (g := u5.heap.size) b5.size
  have ltw : w.heap.size ≤ u4.heap.size := B.size
  have lt35 : u3.heap.size < u5.heap.size := (X.on b5).lt (by simp)
  have x0 := (X.on b5).cell 0 _ rfl
  have x1 := (X.on b5).cell 1 _ rfl
  have x2 := (X.on b5).cell 2 _ rfl
  have x3 := (X.on b5).cell 3 _ rfl
  have x4 := (X.on b5).cell 4 _ rfl
  clear O5 b5 bv B X P O4
  go_wp2_with fail
  generalize u5.alloc (.cells #[.int .i64 e, .int .i64 s, .int .i64 k, .slice a5 zs.length c5, .int .i64 t] 68) = v5 at *
  refine (eqRecordResult_any _ _ _ _ _ _ _ _ _ v5.heap.size _ _ (Own.row T5 HW.out) (Own.row P5 HW.out) (Nat.le_refl _)).mono ?_
  rintro r u6 ⟨rfl, b6⟩
  have B := btr B5 b6
  have X := X5.on b6
  have P := Own.below P5 b6
  have Q := Own.below Q5 b6
  have Z := Z5.on b6
  have T := Own.below T5 b6
  clear b6 B5 X5 P5 Q5 Z5 T5 x0 x1 x2 x3 x4
  go_wp2_with fail
  refine (toByteS_any a3 len3 cap3 _ z3 _ (w3.on B) (Nat.le_refl _) hl2).mono ?_
  rintro r u7 ⟨rfl, O7, b7⟩
  go_wp2_with fail
  refine (eqByteS_any _ _ _ _ _ _ _ _ ((Own.row Q w3.wf).on b7) (Own.row O7 w3.wf) (Nat.le_refl _)).mono ?_
  rintro r u8 ⟨rfl, b8⟩
  have bw := btr b7 b8
  have B8 := btr B bw
  have X8 := X.on bw
  have P8 := Own.below P bw
  have Q8 := Own.below Q bw
  have Z8 := Z.on bw
  have T8 := Own.below T bw
  clear B X P Q Z T O7 b7 b8 bw
  go_wp2_with fail
  refine (markByteS_any _ len3 _ _ 1 z3 _ Q8 (by omega) (by omega) hl2).mono ?_
  rintro r u9 ⟨rfl, O9, g9⟩
  have B := (Q8.less (B' := w.heap.size) bb.size).grown B8 B8.size g9
  have X := X8.keptS g9 G34
  have P := Own.keptS P8 g9 sep34
  have Z := Z8.keptS g9 G5
  have T := Own.keptS T8 g9 sep45.symm
  clear B8 X8 P8 Q8 Z8 T8 O9 g9
  have x0 := X.cell 0 _ rfl
  have x1 := X.cell 1 _ rfl
  have x2 := X.cell 2 _ rfl
  have x3 := X.cell 3 _ rfl
  have x4 := X.cell 4 _ rfl
  have y0 := Z.cell 0 _ rfl
  have y1 := Z.cell 1 _ rfl
  have y2 := Z.cell 2 _ rfl
  have y3 := Z.cell 3 _ rfl
  have y4 := Z.cell 4 _ rfl
  have hk0 : ¬ (1 : Int) + len3 < 0 := by omega
  go_wp2_with fail
  refine (eqRecordResult_any _ _ _ _ _ _ _ _ _ u9.heap.size _ _ (Own.row T HW.out) (Own.row P HW.out) (Nat.le_refl _)).mono ?_
  rintro r u10 ⟨rfl, b10⟩
  have B10 := btr B b10
  have X10 := X.on b10
  have P10 := Own.below P b10
  have Z10 := Z.on b10
  have T10 := Own.below T b10
  clear B X P Z T b10 x0 x1 x2 x3 x4 y0 y1 y2 y3 y4
  have y0 := Z10.cell 0 _ rfl
  have y1 := Z10.cell 1 _ rfl
  have y2 := Z10.cell 2 _ rfl
  have y3 := Z10.cell 3 _ rfl
  have y4 := Z10.cell 4 _ rfl
  go_wp2_with fail
  refine (markRecordResult_any _ _ _ _ _ _ _ _ _ _ _ T10 (by omega) (by omega) (by omega)).mono ?_
  rintro r u11 ⟨rfl, O11, g11⟩
  have B := (T10.less (B' := w.heap.size) ltw).grown B10 B10.size g11
  have X := X10.keptS g11 H35
  have P := Own.keptS P10 g11 sep35
  have Z := Z10.keptS g11 H5
  clear B10 X10 P10 Z10 T10 g11 y0 y1 y2 y3 y4
  have y0 := Z.cell 0 _ rfl
  have y1 := Z.cell 1 _ rfl
  have y2 := Z.cell 2 _ rfl
  have y3 := Z.cell 3 _ rfl
  have y4 := Z.cell 4 _ rfl
  go_wp2_with fail
  refine (heldRecordResult_any _ _ _ _ _ _ _ u11.heap.size _ _ (Own.row O11 (marks_wf _ _)) (Nat.le_refl _) (by omega) (by omega) (by omega)).mono ?_
  rintro r u12 ⟨rfl, b12⟩
  have B12 := btr B b12
  have X12 := X.on b12
  have P12 := Own.below P b12
  have Z12 := Z.on b12
  have T12 := Own.below O11 b12
  clear B X P Z O11 b12 y0 y1 y2 y3 y4
  have hk1 : ¬ (1 : Int) + (zs.length : Int) < 0 := by omega
  go_wp2_with fail
  refine (toByteS_any a3 len3 cap3 _ z3 _ (w3.on B12) (Nat.le_refl _) hl2).mono ?_
  rintro r u13 ⟨rfl, O13, b13⟩
  go_wp2_with fail
  refine (S2 _ _ _ _ (lab.on (btr B12 b13)) (Own.row O13 w3.wf) (Nat.le_refl _)).mono ?_
  rintro r u14 ⟨a14, n14, c14, rfl, O14, b14⟩
  have l14 := O14.len
  subst l14
  have bx := bal (btr b13 b14) (.cells #[.int .i64 e, .int .i64 s, .int .i64 k, .slice a14 zs.length c14, .int .i64 t] 68)
  have B := btr B12 bx
  have x0 := (X12.on (btr b13 b14)).cell 0 _ rfl
  have x1 := (X12.on (btr b13 b14)).cell 1 _ rfl
  have x2 := (X12.on (btr b13 b14)).cell 2 _ rfl
  have x3 := (X12.on (btr b13 b14)).cell 3 _ rfl
  have x4 := (X12.on (btr b13 b14)).cell 4 _ rfl
  have lt14 : u3.heap.size < u14.heap.size := (X12.on (btr b13 b14)).lt (by simp)
  have P := Own.below P12 bx
  have Z := Z12.on bx
  have T := Own.below T12 bx
  have R14 := (Own.row O14 HW.out).on (bal (Below.refl _ _) (.cells #[.int .i64 e, .int .i64 s, .int .i64 k, .slice a14 zs.length c14, .int .i64 t] 68))
  clear B12 X12 P12 Z12 T12 O13 O14 b13 b14 bx
  go_wp2_with fail
  generalize u14.alloc (.cells #[.int .i64 e, .int .i64 s, .int .i64 k, .slice a14 zs.length c14, .int .i64 t] 68) = v14 at *
  refine (eqRecordResult_any _ _ _ _ _ _ _ _ _ v14.heap.size _ _ R14 (Own.row P HW.out) (Nat.le_refl _)).mono ?_
  rintro r u15 ⟨rfl, b15⟩
  have B15 := btr B b15
  have Z15 := Z.on b15
  have T15 := Own.below T b15
  clear B P Z T R14 b15 x0 x1 x2 x3 x4
  have y0 := Z15.cell 0 _ rfl
  have y1 := Z15.cell 1 _ rfl
  have y2 := Z15.cell 2 _ rfl
  have y3 := Z15.cell 3 _ rfl
  have y4 := Z15.cell 4 _ rfl
  go_wp2_with fail
  refine (heldRecordResult_any _ _ _ _ _ _ _ u15.heap.size _ _ (Own.row T15 (marks_wf _ _)) (Nat.le_refl _) (by omega) (by omega) (by omega)).mono ?_
  rintro r u16 ⟨rfl, b16⟩
  have B16 := btr B15 b16
  clear B15 Z15 T15 b16 y0 y1 y2 y3 y4
  go_wp2_with fail
  go_ret
  exact ⟨rfl, B16⟩

end Go.Proofs.YtjlhldndomaknaaDoor.fnExactSealData
