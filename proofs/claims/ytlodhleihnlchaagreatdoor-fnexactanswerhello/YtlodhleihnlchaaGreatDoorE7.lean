/- Texts of this seat that several laws rest on, laid into one. Conditions: as each theorem states. -/
import Derived.Test.YtlodhleihnlchaaGreatDoorE3
import Derived.Test.YtlodhleihnlchaaGreatDoorE4
import Derived.Test.YtlodhleihnlchaaGreatDoorE5
import Derived.Test.YtlodhleihnlchaaGreatDoorE6
import Derived.Laws.StructEq
import Derived.Deep.DeepCutAuto
namespace Go.Proofs.YtlodhleihnlchaaGreatDoor
open Go.RowKit
set_option maxRecDepth 100000
set_option linter.unusedVariables false

set_option maxHeartbeats 2000000 in
theorem l11Answer0_any (g : Nat) (i s rd : Int) (n : ByteArray) (r0 s0 : Int) (w : World) (A0 : At g (HL3 r0 s0 n) w) (hi : inB i 1 1438 = true) (hs : inB s 1 1438 = true) (hr : M.sumB rd = true) (hh : helF n.data.toList r0 s0 = 0) :
    Calls Tryz.prog 167 #[.int .i64 i, .int .i64 s, .int .i64 rd, .pointer (some ⟨g, 0, none⟩)] w fun e w' => e = .returned (T11 (ansD i s rd n r0 s0)) ∧ Below w.heap.size w w' := by
  have g1 := kf11
  have hi' := hi
  have hs' := hs
  simp only [inB, decide_eq_true_eq] at hi' hs'
  obtain ⟨-, h0s, -⟩ := helF_zero hh
  have hsb := pub_bd h0s
  have K1 : ∀ w, Calls Tryz.prog 187 #[.int .i64 s] w fun r w' => r = .returned (I2 s (M.pubN s)) ∧ Below w.heap.size w w' := fun w => l1Key_any s w (by omega) (by omega)
  have K2 : ∀ w, Calls Tryz.prog 187 #[.int .i64 i] w fun r w' => r = .returned (I2 i (M.pubN i)) ∧ Below w.heap.size w w' := fun w => l1Key_any i w (by omega) (by omega)
  have H := fun h w A1 A2 => l6HeardW_any g h n r0 s0 rd (M.pubN s) (M.pubN i) 0 0 0 w A1 A2 hh hr (pub_of hs) (pub_of hi)
  have hhe := heardL_sum [packH n r0 s0, frontR rd (M.pubN s) (M.pubN i)]
  have R1 := fun w => l1Raise_int s0 s w (by omega) (by omega) (by omega) (by omega)
  have hsh : M.sumB (M.pw s0 s.toNat 2879) = true := M.pow_sum _
  unfold ansD ansH heN shN
  generalize M.heardL [packH n r0 s0, frontR rd (M.pubN s) (M.pubN i)] = he at *
  generalize M.pw s0 s.toNat 2879 = sh at *
  have V := fun w => l11Verify_any he w hhe
  have G := fun w => l3Sign_any i (verN he) w hi (verN_sum he)
  have F := fun w => l11Finish_any sh he w hsh hhe
  have Y := fun w => l11Keys_any sh he (M.pubN i) w hsh hhe
  generalize M.sigPt i (verN he) = x at *
  generalize M.sigPr i (verN he) = y at *
  generalize verN he = vh at *
  generalize finN sh he = f at *
  generalize upN sh he = u at *
  generalize downN sh he = d at *
  generalize M.pubN s = p1 at *
  generalize M.pubN i = p2 at *
  have b0 := bal (Below.refl _ w) (.cells #[.int .i64 0, .int .i64 0, .int .i64 0, .int .i64 0, .int .i64 0, .int .i64 0, .int .i64 0, .int .i64 0, .int .i64 0, .int .i64 0, .int .i64 0] 112)
  have Z0 := At.new w [.int .i64 0, .int .i64 0, .int .i64 0, .int .i64 0, .int .i64 0, .int .i64 0, .int .i64 0, .int .i64 0, .int .i64 0, .int .i64 0, .int .i64 0] 112
  have A1 := A0.alloc (.cells #[.int .i64 0, .int .i64 0, .int .i64 0, .int .i64 0, .int .i64 0, .int .i64 0, .int .i64 0, .int .i64 0, .int .i64 0, .int .i64 0, .int .i64 0] 112)
  clear A0 hi hs hi' hs' hr hh h0s hsb hhe hsh
  go_enter Tryz.func167, Tryz.ntmps167
  go_wp2_with fail
  generalize w.alloc (.cells #[.int .i64 0, .int .i64 0, .int .i64 0, .int .i64 0, .int .i64 0, .int .i64 0, .int .i64 0, .int .i64 0, .int .i64 0, .int .i64 0, .int .i64 0] 112) = W0 at *
  refine (K1 _).mono ?_
  rintro e u1 ⟨rfl, b1⟩
  go_wp2_with fail
  refine (K2 _).mono ?_
  rintro e u2 ⟨rfl, b2⟩
  have b12 := btr b1 b2
  have ltz : w.heap.size < u2.heap.size := (Z0.on b12).lt (by simp)
  have ltg : g < u2.heap.size := (A1.on b12).lt (by simp)
  have b3 := bal b12 (.cells #[.int .i64 rd, .int .i64 p1, .int .i64 p2, .int .i64 0, .int .i64 0, .int .i64 0] 33)
  have X3 := At.new u2 [.int .i64 rd, .int .i64 p1, .int .i64 p2, .int .i64 0, .int .i64 0, .int .i64 0] 33
  have A3 := A1.on b3
  have Z3 := Z0.on b3
  have B3 := btr b0 b3
  clear b0 b1 b2 b12 b3 Z0 A1 K1 K2
  go_wp2_with fail
  generalize u2.alloc (.cells #[.int .i64 rd, .int .i64 p1, .int .i64 p2, .int .i64 0, .int .i64 0, .int .i64 0] 33) = W1 at *
  refine (H _ _ A3 X3).mono ?_
  rintro e u3 ⟨rfl, b4⟩
  have A4 := A3.on b4
  have X4 := X3.on b4
  have Z4 := Z3.on b4
  have B4 := btr B3 b4
  have aa0 := A4.cell 0 _ rfl
  have aa1 := A4.cell 1 _ rfl
  have aa2 := A4.cell 2 _ rfl
  clear b4 A3 X3 Z3 B3 H
  go_wp2_with fail
  refine (R1 _).mono ?_
  rintro e u3' ⟨rfl, rfl⟩
  go_wp2_with fail
  refine (V _).mono ?_
  rintro e u4 ⟨rfl, b5⟩
  go_wp2_with fail
  refine (G _).mono ?_
  rintro e u5 ⟨rfl, b6⟩
  have b56 := btr b5 b6
  have X6 := X4.on b56
  have Z6 := Z4.on b56
  have B6 := btr B4 b56
  have kk0 := X6.cell 0 _ rfl
  have kk1 := X6.cell 1 _ rfl
  have kk2 := X6.cell 2 _ rfl
  have kk3 := X6.cell 3 _ rfl
  have kk4 := X6.cell 4 _ rfl
  have kk5 := X6.cell 5 _ rfl
  have ff0 := X6.free 0 _ rfl
  have ff1 := X6.free 1 _ rfl
  have ff2 := X6.free 2 _ rfl
  have ff3 := X6.free 3 _ rfl
  have ff4 := X6.free 4 _ rfl
  have ff5 := X6.free 5 _ rfl
  have X7 : At u2.heap.size [.int .i64 rd, .int .i64 p1, .int .i64 p2, .int .i64 x, .int .i64 y, .int .i64 0] ((u5.setCell ⟨u2.heap.size, 3, none⟩ (.int .i64 x)).setCell ⟨u2.heap.size, 4, none⟩ (.int .i64 y)) := (X6.set 3 (.int .i64 x)).set 4 (.int .i64 y)
  have Z7 := (Z6.setB (p := ⟨u2.heap.size, 3, none⟩) (by dsimp only; omega) (.int .i64 x)).setB (p := ⟨u2.heap.size, 4, none⟩) (by dsimp only; omega) (.int .i64 y)
  have B7 := bset (bset B6 (p := ⟨u2.heap.size, 3, none⟩) (by dsimp only; omega) (.int .i64 x)) (p := ⟨u2.heap.size, 4, none⟩) (by dsimp only; omega) (.int .i64 y)
  clear b5 b6 b56 A4 X4 Z4 B4 X6 Z6 B6 V G R1 aa0 aa1 aa2
  go_wp2_with fail
  generalize (u5.setCell ⟨u2.heap.size, 3, none⟩ (.int .i64 x)).setCell ⟨u2.heap.size, 4, none⟩ (.int .i64 y) = W7 at *
  clear kk0 kk1 kk2 kk3 kk4 kk5 ff0 ff1 ff2 ff3 ff4 ff5
  refine (F _).mono ?_
  rintro e u6 ⟨rfl, b8⟩
  have X8 := X7.on b8
  have Z8 := Z7.on b8
  have B8 := btr B7 b8
  have kk0 := X8.cell 0 _ rfl
  have kk1 := X8.cell 1 _ rfl
  have kk2 := X8.cell 2 _ rfl
  have kk3 := X8.cell 3 _ rfl
  have kk4 := X8.cell 4 _ rfl
  have kk5 := X8.cell 5 _ rfl
  have ff0 := X8.free 0 _ rfl
  have ff1 := X8.free 1 _ rfl
  have ff2 := X8.free 2 _ rfl
  have ff3 := X8.free 3 _ rfl
  have ff4 := X8.free 4 _ rfl
  have ff5 := X8.free 5 _ rfl
  have XX : At u2.heap.size [.int .i64 rd, .int .i64 p1, .int .i64 p2, .int .i64 x, .int .i64 y, .int .i64 f] (u6.setCell ⟨u2.heap.size, 5, none⟩ (.int .i64 f)) := X8.set 5 (.int .i64 f)
  have Z9 := Z8.setB (p := ⟨u2.heap.size, 5, none⟩) (by dsimp only; omega) (.int .i64 f)
  have B9 := bset B8 (p := ⟨u2.heap.size, 5, none⟩) (by dsimp only; omega) (.int .i64 f)
  clear b8 X7 X8 Z7 Z8 B7 B8 F
  go_wp2_with fail
  generalize u6.setCell ⟨u2.heap.size, 5, none⟩ (.int .i64 f) = W9 at *
  have S0 : Hold w (u2.heap.size) [.int .i64 rd, .int .i64 p1, .int .i64 p2, .int .i64 x, .int .i64 y, .int .i64 f] W9.drew := ⟨B9.drew, XX.on (bdrew _)⟩
  have ZZ := Z9.on (bdrew W9)
  refine wp_region_line (Hold w (u2.heap.size) [.int .i64 rd, .int .i64 p1, .int .i64 p2, .int .i64 x, .int .i64 y, .int .i64 f]) [(0, true), (1, true), (2, true), (3, true), (4, true), (5, false), (6, true), (7, false)] (by kernel_rfl) (by kernel_rfl) (fun _ _ d _ _ h => by cases d <;> exact h) S0 ?_
  have hst := S0
  have inst : Nonempty (Of (Hold w (u2.heap.size) [.int .i64 rd, .int .i64 p1, .int .i64 p2, .int .i64 x, .int .i64 y, .int .i64 f])) := ⟨⟨_, hst⟩⟩
  have qh0 := hold_cell (W := w) (g := u2.heap.size) (cs := [.int .i64 rd, .int .i64 p1, .int .i64 p2, .int .i64 x, .int .i64 y, .int .i64 f]) 0 _ rfl
  have qh1 := hold_cell (W := w) (g := u2.heap.size) (cs := [.int .i64 rd, .int .i64 p1, .int .i64 p2, .int .i64 x, .int .i64 y, .int .i64 f]) 1 _ rfl
  have qh2 := hold_cell (W := w) (g := u2.heap.size) (cs := [.int .i64 rd, .int .i64 p1, .int .i64 p2, .int .i64 x, .int .i64 y, .int .i64 f]) 2 _ rfl
  have qh3 := hold_cell (W := w) (g := u2.heap.size) (cs := [.int .i64 rd, .int .i64 p1, .int .i64 p2, .int .i64 x, .int .i64 y, .int .i64 f]) 3 _ rfl
  have qh4 := hold_cell (W := w) (g := u2.heap.size) (cs := [.int .i64 rd, .int .i64 p1, .int .i64 p2, .int .i64 x, .int .i64 y, .int .i64 f]) 4 _ rfl
  have qh5 := hold_cell (W := w) (g := u2.heap.size) (cs := [.int .i64 rd, .int .i64 p1, .int .i64 p2, .int .i64 x, .int .i64 y, .int .i64 f]) 5 _ rfl
  clear S0 XX Z9 B9 kk0 kk1 kk2 kk3 kk4 kk5 ff0 ff1 ff2 ff3 ff4 ff5
  generalize W9.drew = V1 at *
  iterate 5 (refine line_read rfl (by kernel_rfl) (fun K hK => ?_); go_big_quiet_op; refine hK _ ?_; clear hK K)
  refine line_alone rfl (by kernel_rfl) (fun K hK => ?_)
  refine call_any (args := #[.int .i64 sh, .int .i64 he, .int .i64 p2]) rfl (by kernel_rfl) (by kernel_rfl) (Y _) ?_
  rintro e wn ⟨rfl, hbn⟩
  have hst2 := hst.on hbn
  have Z2 := ZZ.on hbn
  refine ⟨_, rfl, hK _ _ hst2 ?_⟩
  clear hK K hst hbn ZZ
  simp only [Act.put, List.setIfInBounds_toArray, List.set_cons_zero, List.set_cons_succ]
  refine line_readv (v := .agg #[.int .i64 0, .int .i64 rd, .int .i64 p1, .int .i64 p2, .int .i64 x, .int .i64 y, .int .i64 f, .int .i64 u, .int .i64 d, .int .i64 he, .int .i64 p2]) rfl (by kernel_rfl) (fun _ => by kernel_rfl) ?_
  simp only [Act.put, List.setIfInBounds_toArray, List.set_cons_zero, List.set_cons_succ]
  have zz0 := Z2.cell 0 _ rfl
  have zz1 := Z2.cell 1 _ rfl
  have zz2 := Z2.cell 2 _ rfl
  have zz3 := Z2.cell 3 _ rfl
  have zz4 := Z2.cell 4 _ rfl
  have zz5 := Z2.cell 5 _ rfl
  have zz6 := Z2.cell 6 _ rfl
  have zz7 := Z2.cell 7 _ rfl
  have zz8 := Z2.cell 8 _ rfl
  have zz9 := Z2.cell 9 _ rfl
  have zz10 := Z2.cell 10 _ rfl
  have hh0 := Z2.free 0 _ rfl
  have hh1 := Z2.free 1 _ rfl
  have hh2 := Z2.free 2 _ rfl
  have hh3 := Z2.free 3 _ rfl
  have hh4 := Z2.free 4 _ rfl
  have hh5 := Z2.free 5 _ rfl
  have hh6 := Z2.free 6 _ rfl
  have hh7 := Z2.free 7 _ rfl
  have hh8 := Z2.free 8 _ rfl
  have hh9 := Z2.free 9 _ rfl
  have hh10 := Z2.free 10 _ rfl
  have S9 : Hold w (u2.heap.size) [.int .i64 rd, .int .i64 p1, .int .i64 p2, .int .i64 x, .int .i64 y, .int .i64 f] (((((((((((wn.setCell ⟨w.heap.size, 0, none⟩ (.int .i64 0)).setCell ⟨w.heap.size, 1, none⟩ (.int .i64 rd)).setCell ⟨w.heap.size, 2, none⟩ (.int .i64 p1)).setCell ⟨w.heap.size, 3, none⟩ (.int .i64 p2)).setCell ⟨w.heap.size, 4, none⟩ (.int .i64 x)).setCell ⟨w.heap.size, 5, none⟩ (.int .i64 y)).setCell ⟨w.heap.size, 6, none⟩ (.int .i64 f)).setCell ⟨w.heap.size, 7, none⟩ (.int .i64 u)).setCell ⟨w.heap.size, 8, none⟩ (.int .i64 d)).setCell ⟨w.heap.size, 9, none⟩ (.int .i64 he)).setCell ⟨w.heap.size, 10, none⟩ (.int .i64 p2)) := by
    iterate 11 (refine Hold.setB ?_ (by dsimp only; omega) (by dsimp only; omega) _)
    exact hst2
  have HB9 := Lib.hid S9.bel
  clear hst2
  refine line_alone rfl (by kernel_rfl) (fun K hK => ?_)
  go_big_op
  refine hK _ _ (S9) ?_
  clear hK K
  refine line_nil ?_
  clear inst qh0 qh1 qh2 qh3 qh4 qh5 Z2 S9
  go_wp2_with fail
  exact bodyPost_ret (v := .agg #[.int .i64 0, .int .i64 rd, .int .i64 p1, .int .i64 p2, .int .i64 x, .int .i64 y, .int .i64 f, .int .i64 u, .int .i64 d, .int .i64 he, .int .i64 p2]) (by simp [results, Tryz.results167, go_sem, zz0, zz1, zz2, zz3, zz4, zz5, zz6, zz7, zz8, zz9, zz10]) rfl ⟨rfl, HB9.out⟩
theorem specAnswerHello_any (i s rd r0 s0 : Int) (n : ByteArray) (w : World) (hn : n.size ≤ maxLen) :
    Calls Tryz.prog 63 #[.int .i64 i, .int .i64 s, .int .i64 rd, H3 r0 s0 n] w fun e w' => e = .returned (T11 (ansT i s rd n r0 s0)) ∧ Below w.heap.size w w' := by
  have b0 := bal (bal (Below.refl _ w) (.cells #[.int .i64 r0, .int .i64 s0, .string n] 26)) (.cells #[.int .i64 0, .int .i64 0, .int .i64 0, .int .i64 0, .int .i64 0, .int .i64 0, .int .i64 0, .int .i64 0, .int .i64 0, .int .i64 0, .int .i64 0] 112)
  have A0 := (At.new w (HL3 r0 s0 n) 26).alloc (.cells #[.int .i64 0, .int .i64 0, .int .i64 0, .int .i64 0, .int .i64 0, .int .i64 0, .int .i64 0, .int .i64 0, .int .i64 0, .int .i64 0, .int .i64 0] 112)
  have Z0 := At.new (w.alloc (.cells #[.int .i64 r0, .int .i64 s0, .string n] 26)) [.int .i64 0, .int .i64 0, .int .i64 0, .int .i64 0, .int .i64 0, .int .i64 0, .int .i64 0, .int .i64 0, .int .i64 0, .int .i64 0, .int .i64 0] 112
  simp only [World.size_alloc] at A0 Z0
  have F := fun g w A => l6Hello_any g r0 s0 n w A hn
  cases hi : inB i 1 1438
  · rw [ansT_no (show ansB i s rd = false by simp [ansB, hi])]
    go_enter Tryz.func63, Tryz.ntmps63
    go_wp2_with fail
    generalize (w.alloc (.cells #[.int .i64 r0, .int .i64 s0, .string n] 26)).alloc (.cells #[.int .i64 0, .int .i64 0, .int .i64 0, .int .i64 0, .int .i64 0, .int .i64 0, .int .i64 0, .int .i64 0, .int .i64 0, .int .i64 0, .int .i64 0] 112) = W0 at *
    refine (l1Secret_any _ _).mono ?_
    rintro e w' ⟨rfl, rfl⟩
    have q0 := (Z0).cell 0 _ rfl
    have q1 := (Z0).cell 1 _ rfl
    have q2 := (Z0).cell 2 _ rfl
    have q3 := (Z0).cell 3 _ rfl
    have q4 := (Z0).cell 4 _ rfl
    have q5 := (Z0).cell 5 _ rfl
    have q6 := (Z0).cell 6 _ rfl
    have q7 := (Z0).cell 7 _ rfl
    have q8 := (Z0).cell 8 _ rfl
    have q9 := (Z0).cell 9 _ rfl
    have q10 := (Z0).cell 10 _ rfl
    have z0 := (Z0).free 0 _ rfl
    have z1 := (Z0).free 1 _ rfl
    have z2 := (Z0).free 2 _ rfl
    have z3 := (Z0).free 3 _ rfl
    have z4 := (Z0).free 4 _ rfl
    have z5 := (Z0).free 5 _ rfl
    have z6 := (Z0).free 6 _ rfl
    have z7 := (Z0).free 7 _ rfl
    have z8 := (Z0).free 8 _ rfl
    have z9 := (Z0).free 9 _ rfl
    have z10 := (Z0).free 10 _ rfl
    have HB := Lib.hid (b0)
    clear A0 Z0 b0 F
    go_wp2_with fail
    refine bodyPost_ret (v := .agg #[.int .i64 3, .int .i64 0, .int .i64 0, .int .i64 0, .int .i64 0, .int .i64 0, .int .i64 0, .int .i64 0, .int .i64 0, .int .i64 0, .int .i64 0]) (by simp [results, Tryz.results63, go_sem, q0, q1, q2, q3, q4, q5, q6, q7, q8, q9, q10]) rfl ⟨rfl, ?_⟩
    exact (by (iterate 11 (refine bset ?_ (by dsimp only; omega) _)); exact HB.out)
  cases hs : inB s 1 1438
  · rw [ansT_no (show ansB i s rd = false by simp [ansB, hs])]
    go_enter Tryz.func63, Tryz.ntmps63
    go_wp2_with fail
    generalize (w.alloc (.cells #[.int .i64 r0, .int .i64 s0, .string n] 26)).alloc (.cells #[.int .i64 0, .int .i64 0, .int .i64 0, .int .i64 0, .int .i64 0, .int .i64 0, .int .i64 0, .int .i64 0, .int .i64 0, .int .i64 0, .int .i64 0] 112) = W0 at *
    refine (l1Secret_any _ _).mono ?_
    rintro e w' ⟨rfl, rfl⟩
    go_wp2_with fail
    refine (l1Secret_any _ _).mono ?_
    rintro r w' ⟨rfl, rfl⟩
    have q0 := (Z0).cell 0 _ rfl
    have q1 := (Z0).cell 1 _ rfl
    have q2 := (Z0).cell 2 _ rfl
    have q3 := (Z0).cell 3 _ rfl
    have q4 := (Z0).cell 4 _ rfl
    have q5 := (Z0).cell 5 _ rfl
    have q6 := (Z0).cell 6 _ rfl
    have q7 := (Z0).cell 7 _ rfl
    have q8 := (Z0).cell 8 _ rfl
    have q9 := (Z0).cell 9 _ rfl
    have q10 := (Z0).cell 10 _ rfl
    have z0 := (Z0).free 0 _ rfl
    have z1 := (Z0).free 1 _ rfl
    have z2 := (Z0).free 2 _ rfl
    have z3 := (Z0).free 3 _ rfl
    have z4 := (Z0).free 4 _ rfl
    have z5 := (Z0).free 5 _ rfl
    have z6 := (Z0).free 6 _ rfl
    have z7 := (Z0).free 7 _ rfl
    have z8 := (Z0).free 8 _ rfl
    have z9 := (Z0).free 9 _ rfl
    have z10 := (Z0).free 10 _ rfl
    have HB := Lib.hid (b0)
    clear A0 Z0 b0 F
    go_wp2_with fail
    refine bodyPost_ret (v := .agg #[.int .i64 3, .int .i64 0, .int .i64 0, .int .i64 0, .int .i64 0, .int .i64 0, .int .i64 0, .int .i64 0, .int .i64 0, .int .i64 0, .int .i64 0]) (by simp [results, Tryz.results63, go_sem, q0, q1, q2, q3, q4, q5, q6, q7, q8, q9, q10]) rfl ⟨rfl, ?_⟩
    exact (by (iterate 11 (refine bset ?_ (by dsimp only; omega) _)); exact HB.out)
  cases hr : M.sumB rd
  · rw [ansT_no (show ansB i s rd = false by simp [ansB, hr])]
    go_enter Tryz.func63, Tryz.ntmps63
    go_wp2_with fail
    generalize (w.alloc (.cells #[.int .i64 r0, .int .i64 s0, .string n] 26)).alloc (.cells #[.int .i64 0, .int .i64 0, .int .i64 0, .int .i64 0, .int .i64 0, .int .i64 0, .int .i64 0, .int .i64 0, .int .i64 0, .int .i64 0, .int .i64 0] 112) = W0 at *
    refine (l1Secret_any _ _).mono ?_
    rintro e w' ⟨rfl, rfl⟩
    go_wp2_with fail
    refine (l1Secret_any _ _).mono ?_
    rintro r w' ⟨rfl, rfl⟩
    go_wp2_with fail
    refine (l2Is_any _ _).mono ?_
    rintro r w' ⟨rfl, rfl⟩
    have q0 := (Z0).cell 0 _ rfl
    have q1 := (Z0).cell 1 _ rfl
    have q2 := (Z0).cell 2 _ rfl
    have q3 := (Z0).cell 3 _ rfl
    have q4 := (Z0).cell 4 _ rfl
    have q5 := (Z0).cell 5 _ rfl
    have q6 := (Z0).cell 6 _ rfl
    have q7 := (Z0).cell 7 _ rfl
    have q8 := (Z0).cell 8 _ rfl
    have q9 := (Z0).cell 9 _ rfl
    have q10 := (Z0).cell 10 _ rfl
    have z0 := (Z0).free 0 _ rfl
    have z1 := (Z0).free 1 _ rfl
    have z2 := (Z0).free 2 _ rfl
    have z3 := (Z0).free 3 _ rfl
    have z4 := (Z0).free 4 _ rfl
    have z5 := (Z0).free 5 _ rfl
    have z6 := (Z0).free 6 _ rfl
    have z7 := (Z0).free 7 _ rfl
    have z8 := (Z0).free 8 _ rfl
    have z9 := (Z0).free 9 _ rfl
    have z10 := (Z0).free 10 _ rfl
    have HB := Lib.hid (b0)
    clear A0 Z0 b0 F
    go_wp2_with fail
    refine bodyPost_ret (v := .agg #[.int .i64 3, .int .i64 0, .int .i64 0, .int .i64 0, .int .i64 0, .int .i64 0, .int .i64 0, .int .i64 0, .int .i64 0, .int .i64 0, .int .i64 0]) (by simp [results, Tryz.results63, go_sem, q0, q1, q2, q3, q4, q5, q6, q7, q8, q9, q10]) rfl ⟨rfl, ?_⟩
    exact (by (iterate 11 (refine bset ?_ (by dsimp only; omega) _)); exact HB.out)
  have hB : ansB i s rd = true := by simp [ansB, hi, hs, hr]
  by_cases h0 : helF n.data.toList r0 s0 = 0
  · rw [ansT_yes hB h0]
    have AN := fun g w A => l11Answer0_any g i s rd n r0 s0 w A hi hs hr h0
    rw [h0] at F
    generalize ansD i s rd n r0 s0 = t at *
    obtain ⟨tc, tr, ts, tp, tx, ty, tf, tu, td, th, tk⟩ := t
    clear hB h0
    go_enter Tryz.func63, Tryz.ntmps63
    go_wp2_with fail
    generalize (w.alloc (.cells #[.int .i64 r0, .int .i64 s0, .string n] 26)).alloc (.cells #[.int .i64 0, .int .i64 0, .int .i64 0, .int .i64 0, .int .i64 0, .int .i64 0, .int .i64 0, .int .i64 0, .int .i64 0, .int .i64 0, .int .i64 0] 112) = W0 at *
    refine (l1Secret_any _ _).mono ?_
    rintro e w' ⟨rfl, rfl⟩
    go_wp2_with fail
    refine (l1Secret_any _ _).mono ?_
    rintro r w' ⟨rfl, rfl⟩
    go_wp2_with fail
    refine (l2Is_any _ _).mono ?_
    rintro r w' ⟨rfl, rfl⟩
    go_wp2_with fail
    refine (F _ _ A0).mono ?_
    rintro e u1 ⟨rfl, b1⟩
    go_wp2_with fail
    refine (AN _ _ (A0.on b1)).mono ?_
    rintro e u2 ⟨rfl, b2⟩
    have b12 := btr b1 b2
    have q0 := (Z0.on b12).cell 0 _ rfl
    have q1 := (Z0.on b12).cell 1 _ rfl
    have q2 := (Z0.on b12).cell 2 _ rfl
    have q3 := (Z0.on b12).cell 3 _ rfl
    have q4 := (Z0.on b12).cell 4 _ rfl
    have q5 := (Z0.on b12).cell 5 _ rfl
    have q6 := (Z0.on b12).cell 6 _ rfl
    have q7 := (Z0.on b12).cell 7 _ rfl
    have q8 := (Z0.on b12).cell 8 _ rfl
    have q9 := (Z0.on b12).cell 9 _ rfl
    have q10 := (Z0.on b12).cell 10 _ rfl
    have z0 := (Z0.on b12).free 0 _ rfl
    have z1 := (Z0.on b12).free 1 _ rfl
    have z2 := (Z0.on b12).free 2 _ rfl
    have z3 := (Z0.on b12).free 3 _ rfl
    have z4 := (Z0.on b12).free 4 _ rfl
    have z5 := (Z0.on b12).free 5 _ rfl
    have z6 := (Z0.on b12).free 6 _ rfl
    have z7 := (Z0.on b12).free 7 _ rfl
    have z8 := (Z0.on b12).free 8 _ rfl
    have z9 := (Z0.on b12).free 9 _ rfl
    have z10 := (Z0.on b12).free 10 _ rfl
    have HB := Lib.hid (btr b0 b12)
    clear A0 Z0 b0 b1 b2 b12 F AN
    go_wp2_with fail
    refine bodyPost_ret (v := .agg #[.int .i64 tc, .int .i64 tr, .int .i64 ts, .int .i64 tp, .int .i64 tx, .int .i64 ty, .int .i64 tf, .int .i64 tu, .int .i64 td, .int .i64 th, .int .i64 tk]) (by simp [results, Tryz.results63, go_sem, q0, q1, q2, q3, q4, q5, q6, q7, q8, q9, q10]) rfl ⟨rfl, ?_⟩
    exact (by (iterate 11 (refine bset ?_ (by dsimp only; omega) _)); exact HB.out)
  · rw [ansT_hel hB h0]
    have e3 : (helF n.data.toList r0 s0 != 0) = true := by simpa using h0
    generalize helF n.data.toList r0 s0 = c at *
    clear hB
    go_enter Tryz.func63, Tryz.ntmps63
    go_wp2_with fail
    generalize (w.alloc (.cells #[.int .i64 r0, .int .i64 s0, .string n] 26)).alloc (.cells #[.int .i64 0, .int .i64 0, .int .i64 0, .int .i64 0, .int .i64 0, .int .i64 0, .int .i64 0, .int .i64 0, .int .i64 0, .int .i64 0, .int .i64 0] 112) = W0 at *
    refine (l1Secret_any _ _).mono ?_
    rintro e w' ⟨rfl, rfl⟩
    go_wp2_with fail
    refine (l1Secret_any _ _).mono ?_
    rintro r w' ⟨rfl, rfl⟩
    go_wp2_with fail
    refine (l2Is_any _ _).mono ?_
    rintro r w' ⟨rfl, rfl⟩
    go_wp2_with fail
    refine (F _ _ A0).mono ?_
    rintro e u1 ⟨rfl, b1⟩
    have q0 := (Z0.on b1).cell 0 _ rfl
    have q1 := (Z0.on b1).cell 1 _ rfl
    have q2 := (Z0.on b1).cell 2 _ rfl
    have q3 := (Z0.on b1).cell 3 _ rfl
    have q4 := (Z0.on b1).cell 4 _ rfl
    have q5 := (Z0.on b1).cell 5 _ rfl
    have q6 := (Z0.on b1).cell 6 _ rfl
    have q7 := (Z0.on b1).cell 7 _ rfl
    have q8 := (Z0.on b1).cell 8 _ rfl
    have q9 := (Z0.on b1).cell 9 _ rfl
    have q10 := (Z0.on b1).cell 10 _ rfl
    have z0 := (Z0.on b1).free 0 _ rfl
    have z1 := (Z0.on b1).free 1 _ rfl
    have z2 := (Z0.on b1).free 2 _ rfl
    have z3 := (Z0.on b1).free 3 _ rfl
    have z4 := (Z0.on b1).free 4 _ rfl
    have z5 := (Z0.on b1).free 5 _ rfl
    have z6 := (Z0.on b1).free 6 _ rfl
    have z7 := (Z0.on b1).free 7 _ rfl
    have z8 := (Z0.on b1).free 8 _ rfl
    have z9 := (Z0.on b1).free 9 _ rfl
    have z10 := (Z0.on b1).free 10 _ rfl
    have HB := Lib.hid (btr b0 b1)
    clear A0 Z0 b0 b1 F
    go_wp2_with fail
    refine bodyPost_ret (v := .agg #[.int .i64 c, .int .i64 0, .int .i64 0, .int .i64 0, .int .i64 0, .int .i64 0, .int .i64 0, .int .i64 0, .int .i64 0, .int .i64 0, .int .i64 0]) (by simp [results, Tryz.results63, go_sem, q0, q1, q2, q3, q4, q5, q6, q7, q8, q9, q10]) rfl ⟨rfl, ?_⟩
    exact (by (iterate 11 (refine bset ?_ (by dsimp only; omega) _)); exact HB.out)
set_option maxHeartbeats 2000000 in
theorem l11Take_any (g h : Nat) (k r0 s0 : Int) (n : ByteArray) (r s p x y f : Int) (w : World) (A0 : At g (HL4 k r0 s0 n) w) (C0 : At h (RL6 r s p x y f) w) (hc : cliF k r0 s0 n = 0) (hr : repF r s p x y f = 0) :
    Calls Tryz.prog 178 #[.pointer (some ⟨g, 0, none⟩), .pointer (some ⟨h, 0, none⟩)] w fun e w' => e = .returned (T11 (takT k r0 s0 n r s p x y f)) ∧ Below w.heap.size w w' := by
  obtain ⟨c1, c2, -⟩ := cliF_zero hc
  obtain ⟨q1, q2, q3, -, -⟩ := repF_zero hr
  have hk' := c1
  simp only [inB, decide_eq_true_eq] at hk'
  have hsb := pub_bd q2
  have H := fun g h w A1 A2 => l6Heard1_any g h k n r0 s0 r s p x y f w A1 A2 c2 q1 q2 q3
  have hhe : M.sumB (heN n r0 s0 r s p) = true := heardL_sum _
  have R1 : ∀ w, Calls Tryz.prog 251 #[.int .i64 s, .int .i64 k] w fun e w' => e = .returned (.int .i64 (shN k s)) ∧ w = w' := fun w => l1Raise_int s k w (by omega) (by omega) (by omega) (by omega)
  have hsh : M.sumB (shN k s) = true := M.pow_sum _
  rw [show M.heardL [packH n r0 s0, frontR r s p] = heN n r0 s0 r s p from rfl] at H
  have T0 := takC_sign (x := x) (y := y) (f := f) hc hr
  have T1 := takC_fin (x := x) (y := y) (f := f) hc hr
  have T2 := takC_yes (x := x) (y := y) (f := f) hc hr
  have T3 := takT_no (k := k) (r0 := r0) (s0 := s0) (n := n) (r := r) (s := s) (p := p) (x := x) (y := y) (f := f)
  have T4 := takT_yes (k := k) (r0 := r0) (s0 := s0) (n := n) (r := r) (s := s) (p := p) (x := x) (y := y) (f := f)
  unfold takK at T4
  generalize takT k r0 s0 n r s p x y f = tt at *
  generalize takC k r0 s0 n r s p x y f = tc at *
  generalize heN n r0 s0 r s p = he at *
  generalize shN k s = sh at *
  have V := fun w => l11Verify_any he w hhe
  have G := fun w d3 d4 => l3Check_at p (verN he) h 3 x y w d3 d4
  have F := fun w => l11Finish_any sh he w hsh hhe
  have Y := fun w => l11Keys_any sh he p w hsh hhe
  generalize hck : M.checkB p (verN he) x y = ck at *
  generalize verN he = vh at *
  generalize finN sh he = fv at *
  generalize upN sh he = u at *
  generalize downN sh he = d at *
  have b0 := bal (Below.refl _ w) (.cells #[.int .i64 0, .int .i64 0, .int .i64 0, .int .i64 0, .int .i64 0, .int .i64 0, .int .i64 0, .int .i64 0, .int .i64 0, .int .i64 0, .int .i64 0] 112)
  have Z0 := At.new w [.int .i64 0, .int .i64 0, .int .i64 0, .int .i64 0, .int .i64 0, .int .i64 0, .int .i64 0, .int .i64 0, .int .i64 0, .int .i64 0, .int .i64 0] 112
  have A1 := A0.alloc (.cells #[.int .i64 0, .int .i64 0, .int .i64 0, .int .i64 0, .int .i64 0, .int .i64 0, .int .i64 0, .int .i64 0, .int .i64 0, .int .i64 0, .int .i64 0] 112)
  have C1 := C0.alloc (.cells #[.int .i64 0, .int .i64 0, .int .i64 0, .int .i64 0, .int .i64 0, .int .i64 0, .int .i64 0, .int .i64 0, .int .i64 0, .int .i64 0, .int .i64 0] 112)
  have ltg := A0.lt (by simp)
  have lth := C0.lt (by simp)
  clear A0 C0 c1 c2 q1 q2 q3 hk' hsb hhe hsh hck hc hr
  cases ck
  · have e0 := T0 rfl
    have e1 := T3 (by rw [e0]; omega)
    rw [e1, e0]
    clear T0 T1 T2 T3 T4 e0 e1
    go_enter Tryz.func178, Tryz.ntmps178
    go_wp2_with fail
    generalize w.alloc (.cells #[.int .i64 0, .int .i64 0, .int .i64 0, .int .i64 0, .int .i64 0, .int .i64 0, .int .i64 0, .int .i64 0, .int .i64 0, .int .i64 0, .int .i64 0] 112) = W0 at *
    refine (H _ _ _ A1 C1).mono ?_
    rintro e u1 ⟨rfl, b1⟩
    have A2 := A1.on b1
    have C2 := C1.on b1
    have Z2 := Z0.on b1
    have B2 := btr b0 b1
    clear b0 b1 A1 C1 Z0 H
    have cc0 := C2.cell 0 _ rfl
    have cc1 := C2.cell 1 _ rfl
    have cc2 := C2.cell 2 _ rfl
    have cc3 := C2.cell 3 _ rfl
    have cc4 := C2.cell 4 _ rfl
    have cc5 := C2.cell 5 _ rfl
    go_wp2_with fail
    refine wp_region_line (Bel u1) [(0, true), (1, true), (2, true), (3, true), (4, true), (6, true), (7, true), (8, true), (5, false), (9, false), (10, true)] (by kernel_rfl) (by kernel_rfl) (fun _ _ d _ _ h => by cases d <;> exact h) (Bel.drew u1) ?_
    have hst := Bel.drew u1
    have inst : Nonempty (Of (Bel u1)) := ⟨⟨_, hst⟩⟩
    have qc2 := bel_cell cc2
    have C3 := C2.on (bdrew u1)
    have Z3 := Z2.on (bdrew u1)
    have A3 := A2.on (bdrew u1)
    have B3 := btr B2 (bdrew u1)
    clear A2 C2 Z2 B2 cc0 cc1 cc2 cc3 cc4 cc5
    generalize u1.drew = V0 at *
    iterate 8 (refine line_read rfl (by kernel_rfl) (fun K hK => ?_); go_big_quiet_op; refine hK _ ?_; clear hK K)
    refine line_alone rfl (by kernel_rfl) (fun K hK => ?_)
    refine call_any (args := #[.int .i64 he]) rfl (by kernel_rfl) (by kernel_rfl) (V _) ?_
    rintro e u2 ⟨rfl, be⟩
    have hst2 := hst.on be
    have A4 := A3.on be
    have C4 := C3.on be
    have Z4 := Z3.on be
    have B4 := btr B3 be
    refine ⟨_, rfl, hK _ _ hst2 ?_⟩
    clear hK K hst be A3 C3 Z3 B3 V
    simp only [Act.put, List.setIfInBounds_toArray, List.set_cons_zero, List.set_cons_succ]
    refine line_alone rfl (by kernel_rfl) (fun K hK => ?_)
    refine call_any (args := #[.int .i64 p, .int .i64 vh, .pointer (some ⟨h, 3, none⟩)]) rfl (by kernel_rfl) (by kernel_rfl) (G _ (C4.cell 3 _ rfl) (C4.cell 4 _ rfl)) ?_
    rintro e u3 ⟨rfl, be⟩
    have hst3 := hst2.on be
    have A5 := A4.on be
    have C5 := C4.on be
    have Z5 := Z4.on be
    have B5 := btr B4 be
    refine ⟨_, rfl, hK _ _ hst3 ?_⟩
    clear hK K hst2 be A4 C4 Z4 B4 G
    simp only [Act.put, List.setIfInBounds_toArray, List.set_cons_zero, List.set_cons_succ]
    iterate 1 (refine line_read rfl (by kernel_rfl) (fun K hK => ?_); go_big_quiet_op; refine hK _ ?_; clear hK K)
    refine line_nil ?_
    clear hst3 inst
    have q0 := (Z5).cell 0 _ rfl
    have q1 := (Z5).cell 1 _ rfl
    have q2 := (Z5).cell 2 _ rfl
    have q3 := (Z5).cell 3 _ rfl
    have q4 := (Z5).cell 4 _ rfl
    have q5 := (Z5).cell 5 _ rfl
    have q6 := (Z5).cell 6 _ rfl
    have q7 := (Z5).cell 7 _ rfl
    have q8 := (Z5).cell 8 _ rfl
    have q9 := (Z5).cell 9 _ rfl
    have q10 := (Z5).cell 10 _ rfl
    have z0 := (Z5).free 0 _ rfl
    have z1 := (Z5).free 1 _ rfl
    have z2 := (Z5).free 2 _ rfl
    have z3 := (Z5).free 3 _ rfl
    have z4 := (Z5).free 4 _ rfl
    have z5 := (Z5).free 5 _ rfl
    have z6 := (Z5).free 6 _ rfl
    have z7 := (Z5).free 7 _ rfl
    have z8 := (Z5).free 8 _ rfl
    have z9 := (Z5).free 9 _ rfl
    have z10 := (Z5).free 10 _ rfl
    have HB := Lib.hid (B5)
    clear A5 C5 Z5 B5 R1 F Y
    go_wp2_with fail
    refine bodyPost_ret (v := .agg #[.int .i64 9, .int .i64 0, .int .i64 0, .int .i64 0, .int .i64 0, .int .i64 0, .int .i64 0, .int .i64 0, .int .i64 0, .int .i64 0, .int .i64 0]) (by simp [results, Tryz.results178, go_sem, q0, q1, q2, q3, q4, q5, q6, q7, q8, q9, q10]) rfl ⟨rfl, ?_⟩
    exact (by (iterate 11 (refine bset ?_ (by dsimp only; omega) _)); exact HB.out)
  by_cases h4 : f = fv
  · have e0 := T2 rfl h4
    rw [T4 e0]
    have e3 : (f != fv) = false := by simpa using h4
    have e4 : decide (f = fv) = true := by simpa using h4
    have e5 : (f == fv) = true := by simpa using h4
    clear T0 T1 T2 T3 T4 e0 h4
    go_enter Tryz.func178, Tryz.ntmps178
    go_wp2_with fail
    generalize w.alloc (.cells #[.int .i64 0, .int .i64 0, .int .i64 0, .int .i64 0, .int .i64 0, .int .i64 0, .int .i64 0, .int .i64 0, .int .i64 0, .int .i64 0, .int .i64 0] 112) = W0 at *
    refine (H _ _ _ A1 C1).mono ?_
    rintro e u1 ⟨rfl, b1⟩
    have A2 := A1.on b1
    have C2 := C1.on b1
    have Z2 := Z0.on b1
    have B2 := btr b0 b1
    clear b0 b1 A1 C1 Z0 H
    have cc0 := C2.cell 0 _ rfl
    have cc1 := C2.cell 1 _ rfl
    have cc2 := C2.cell 2 _ rfl
    have cc3 := C2.cell 3 _ rfl
    have cc4 := C2.cell 4 _ rfl
    have cc5 := C2.cell 5 _ rfl
    go_wp2_with fail
    refine wp_region_line (Bel u1) [(0, true), (1, true), (2, true), (3, true), (4, true), (6, true), (7, true), (8, true), (5, false), (9, false), (10, true)] (by kernel_rfl) (by kernel_rfl) (fun _ _ d _ _ h => by cases d <;> exact h) (Bel.drew u1) ?_
    have hst := Bel.drew u1
    have inst : Nonempty (Of (Bel u1)) := ⟨⟨_, hst⟩⟩
    have qc2 := bel_cell cc2
    have C3 := C2.on (bdrew u1)
    have Z3 := Z2.on (bdrew u1)
    have A3 := A2.on (bdrew u1)
    have B3 := btr B2 (bdrew u1)
    clear A2 C2 Z2 B2 cc0 cc1 cc2 cc3 cc4 cc5
    generalize u1.drew = V0 at *
    iterate 8 (refine line_read rfl (by kernel_rfl) (fun K hK => ?_); go_big_quiet_op; refine hK _ ?_; clear hK K)
    refine line_alone rfl (by kernel_rfl) (fun K hK => ?_)
    refine call_any (args := #[.int .i64 he]) rfl (by kernel_rfl) (by kernel_rfl) (V _) ?_
    rintro e u2 ⟨rfl, be⟩
    have hst2 := hst.on be
    have A4 := A3.on be
    have C4 := C3.on be
    have Z4 := Z3.on be
    have B4 := btr B3 be
    refine ⟨_, rfl, hK _ _ hst2 ?_⟩
    clear hK K hst be A3 C3 Z3 B3 V
    simp only [Act.put, List.setIfInBounds_toArray, List.set_cons_zero, List.set_cons_succ]
    refine line_alone rfl (by kernel_rfl) (fun K hK => ?_)
    refine call_any (args := #[.int .i64 p, .int .i64 vh, .pointer (some ⟨h, 3, none⟩)]) rfl (by kernel_rfl) (by kernel_rfl) (G _ (C4.cell 3 _ rfl) (C4.cell 4 _ rfl)) ?_
    rintro e u3 ⟨rfl, be⟩
    have hst3 := hst2.on be
    have A5 := A4.on be
    have C5 := C4.on be
    have Z5 := Z4.on be
    have B5 := btr B4 be
    refine ⟨_, rfl, hK _ _ hst3 ?_⟩
    clear hK K hst2 be A4 C4 Z4 B4 G
    simp only [Act.put, List.setIfInBounds_toArray, List.set_cons_zero, List.set_cons_succ]
    iterate 1 (refine line_read rfl (by kernel_rfl) (fun K hK => ?_); go_big_quiet_op; refine hK _ ?_; clear hK K)
    refine line_nil ?_
    clear hst3 inst
    have aa0 := A5.cell 0 _ rfl
    have aa1 := A5.cell 1 _ rfl
    have aa2 := A5.cell 2 _ rfl
    have aa3 := A5.cell 3 _ rfl
    have cc0 := C5.cell 0 _ rfl
    have cc1 := C5.cell 1 _ rfl
    have cc2 := C5.cell 2 _ rfl
    have cc3 := C5.cell 3 _ rfl
    have cc4 := C5.cell 4 _ rfl
    have cc5 := C5.cell 5 _ rfl
    go_wp2_with fail
    refine wp_region_line (Bel u3) [(0, true), (1, true), (2, true), (3, true), (4, true), (5, true), (6, true), (7, true), (8, false), (9, true)] (by kernel_rfl) (by kernel_rfl) (fun _ _ d _ _ h => by cases d <;> exact h) (Bel.drew u3) ?_
    have hst := Bel.drew u3
    have inst : Nonempty (Of (Bel u3)) := ⟨⟨_, hst⟩⟩
    have qa0 := bel_cell aa0
    have qc1 := bel_cell cc1
    have C6 := C5.on (bdrew u3)
    have Z6 := Z5.on (bdrew u3)
    have B6 := btr B5 (bdrew u3)
    clear A5 C5 Z5 B5 aa0 aa1 aa2 aa3 cc0 cc1 cc2 cc3 cc4 cc5
    generalize u3.drew = V2 at *
    iterate 8 (refine line_read rfl (by kernel_rfl) (fun K hK => ?_); go_big_quiet_op; refine hK _ ?_; clear hK K)
    refine line_alone rfl (by kernel_rfl) (fun K hK => ?_)
    refine call_wp (args := #[.int .i64 s, .int .i64 k]) rfl (by kernel_rfl) (by kernel_rfl) (R1 _) (fun wn hbn => ?_)
    subst hbn
    refine hK _ _ hst ?_
    clear hK K
    simp only [Act.put, List.setIfInBounds_toArray, List.set_cons_zero, List.set_cons_succ]
    iterate 1 (refine line_read rfl (by kernel_rfl) (fun K hK => ?_); go_big_quiet_op; refine hK _ ?_; clear hK K)
    refine line_nil ?_
    clear hst inst
    have cc0 := C6.cell 0 _ rfl
    have cc1 := C6.cell 1 _ rfl
    have cc2 := C6.cell 2 _ rfl
    have cc3 := C6.cell 3 _ rfl
    have cc4 := C6.cell 4 _ rfl
    have cc5 := C6.cell 5 _ rfl
    go_wp2_with fail
    refine wp_region_line (Bel V2) [(0, true), (1, true), (2, true), (3, true), (4, true), (5, true), (6, false), (7, true)] (by kernel_rfl) (by kernel_rfl) (fun _ _ d _ _ h => by cases d <;> exact h) (Bel.drew V2) ?_
    have hst := Bel.drew V2
    have inst : Nonempty (Of (Bel V2)) := ⟨⟨_, hst⟩⟩
    have qc5 := bel_cell cc5
    have C7 := C6.on (bdrew V2)
    have Z7 := Z6.on (bdrew V2)
    have B7 := btr B6 (bdrew V2)
    clear C6 Z6 B6 cc0 cc1 cc2 cc3 cc4 cc5
    generalize V2.drew = V3 at *
    iterate 6 (refine line_read rfl (by kernel_rfl) (fun K hK => ?_); go_big_quiet_op; refine hK _ ?_; clear hK K)
    refine line_alone rfl (by kernel_rfl) (fun K hK => ?_)
    refine call_any (args := #[.int .i64 sh, .int .i64 he]) rfl (by kernel_rfl) (by kernel_rfl) (F _) ?_
    rintro e u4 ⟨rfl, be⟩
    have hst2 := hst.on be
    have XX := C7.on be
    have Z8 := Z7.on be
    have B8 := btr B7 be
    refine ⟨_, rfl, hK _ _ hst2 ?_⟩
    clear hK K hst be C7 Z7 B7 F
    simp only [Act.put, List.setIfInBounds_toArray, List.set_cons_zero, List.set_cons_succ]
    iterate 1 (refine line_read rfl (by kernel_rfl) (fun K hK => ?_); go_big_quiet_op; refine hK _ ?_; clear hK K)
    refine line_nil ?_
    clear hst2 inst
    have cc0 := XX.cell 0 _ rfl
    have cc1 := XX.cell 1 _ rfl
    have cc2 := XX.cell 2 _ rfl
    have cc3 := XX.cell 3 _ rfl
    have cc4 := XX.cell 4 _ rfl
    have cc5 := XX.cell 5 _ rfl
    go_wp2_with fail
    have S0 : Hold w (h) [.int .i64 r, .int .i64 s, .int .i64 p, .int .i64 x, .int .i64 y, .int .i64 f] u4.drew := ⟨B8.drew, XX.on (bdrew _)⟩
    have ZZ := Z8.on (bdrew u4)
    refine wp_region_line (Hold w (h) [.int .i64 r, .int .i64 s, .int .i64 p, .int .i64 x, .int .i64 y, .int .i64 f]) [(0, true), (1, true), (2, true), (3, true), (4, true), (5, true), (6, true), (7, true), (8, true), (9, false), (10, true), (11, false)] (by kernel_rfl) (by kernel_rfl) (fun _ _ d _ _ h => by cases d <;> exact h) S0 ?_
    have hst := S0
    have inst : Nonempty (Of (Hold w (h) [.int .i64 r, .int .i64 s, .int .i64 p, .int .i64 x, .int .i64 y, .int .i64 f])) := ⟨⟨_, hst⟩⟩
    have qh0 := hold_cell (W := w) (g := h) (cs := [.int .i64 r, .int .i64 s, .int .i64 p, .int .i64 x, .int .i64 y, .int .i64 f]) 0 _ rfl
    have qh1 := hold_cell (W := w) (g := h) (cs := [.int .i64 r, .int .i64 s, .int .i64 p, .int .i64 x, .int .i64 y, .int .i64 f]) 1 _ rfl
    have qh2 := hold_cell (W := w) (g := h) (cs := [.int .i64 r, .int .i64 s, .int .i64 p, .int .i64 x, .int .i64 y, .int .i64 f]) 2 _ rfl
    have qh3 := hold_cell (W := w) (g := h) (cs := [.int .i64 r, .int .i64 s, .int .i64 p, .int .i64 x, .int .i64 y, .int .i64 f]) 3 _ rfl
    have qh4 := hold_cell (W := w) (g := h) (cs := [.int .i64 r, .int .i64 s, .int .i64 p, .int .i64 x, .int .i64 y, .int .i64 f]) 4 _ rfl
    have qh5 := hold_cell (W := w) (g := h) (cs := [.int .i64 r, .int .i64 s, .int .i64 p, .int .i64 x, .int .i64 y, .int .i64 f]) 5 _ rfl
    clear S0 XX Z8 B8 cc0 cc1 cc2 cc3 cc4 cc5 e3 e4 e5
    generalize u4.drew = V1 at *
    iterate 9 (refine line_read rfl (by kernel_rfl) (fun K hK => ?_); go_big_quiet_op; refine hK _ ?_; clear hK K)
    refine line_alone rfl (by kernel_rfl) (fun K hK => ?_)
    refine call_any (args := #[.int .i64 sh, .int .i64 he, .int .i64 p]) rfl (by kernel_rfl) (by kernel_rfl) (Y _) ?_
    rintro e wn ⟨rfl, hbn⟩
    have hst2 := hst.on hbn
    have Z2 := ZZ.on hbn
    refine ⟨_, rfl, hK _ _ hst2 ?_⟩
    clear hK K hst hbn ZZ
    simp only [Act.put, List.setIfInBounds_toArray, List.set_cons_zero, List.set_cons_succ]
    refine line_readv (v := .agg #[.int .i64 0, .int .i64 r, .int .i64 s, .int .i64 p, .int .i64 x, .int .i64 y, .int .i64 f, .int .i64 u, .int .i64 d, .int .i64 he, .int .i64 p]) rfl (by kernel_rfl) (fun _ => by kernel_rfl) ?_
    simp only [Act.put, List.setIfInBounds_toArray, List.set_cons_zero, List.set_cons_succ]
    have zz0 := Z2.cell 0 _ rfl
    have zz1 := Z2.cell 1 _ rfl
    have zz2 := Z2.cell 2 _ rfl
    have zz3 := Z2.cell 3 _ rfl
    have zz4 := Z2.cell 4 _ rfl
    have zz5 := Z2.cell 5 _ rfl
    have zz6 := Z2.cell 6 _ rfl
    have zz7 := Z2.cell 7 _ rfl
    have zz8 := Z2.cell 8 _ rfl
    have zz9 := Z2.cell 9 _ rfl
    have zz10 := Z2.cell 10 _ rfl
    have hh0 := Z2.free 0 _ rfl
    have hh1 := Z2.free 1 _ rfl
    have hh2 := Z2.free 2 _ rfl
    have hh3 := Z2.free 3 _ rfl
    have hh4 := Z2.free 4 _ rfl
    have hh5 := Z2.free 5 _ rfl
    have hh6 := Z2.free 6 _ rfl
    have hh7 := Z2.free 7 _ rfl
    have hh8 := Z2.free 8 _ rfl
    have hh9 := Z2.free 9 _ rfl
    have hh10 := Z2.free 10 _ rfl
    have S9 : Hold w (h) [.int .i64 r, .int .i64 s, .int .i64 p, .int .i64 x, .int .i64 y, .int .i64 f] (((((((((((wn.setCell ⟨w.heap.size, 0, none⟩ (.int .i64 0)).setCell ⟨w.heap.size, 1, none⟩ (.int .i64 r)).setCell ⟨w.heap.size, 2, none⟩ (.int .i64 s)).setCell ⟨w.heap.size, 3, none⟩ (.int .i64 p)).setCell ⟨w.heap.size, 4, none⟩ (.int .i64 x)).setCell ⟨w.heap.size, 5, none⟩ (.int .i64 y)).setCell ⟨w.heap.size, 6, none⟩ (.int .i64 f)).setCell ⟨w.heap.size, 7, none⟩ (.int .i64 u)).setCell ⟨w.heap.size, 8, none⟩ (.int .i64 d)).setCell ⟨w.heap.size, 9, none⟩ (.int .i64 he)).setCell ⟨w.heap.size, 10, none⟩ (.int .i64 p)) := by
      iterate 11 (refine Hold.setB ?_ (by dsimp only; omega) (by dsimp only; omega) _)
      exact hst2
    have HB9 := Lib.hid S9.bel
    clear hst2
    refine line_alone rfl (by kernel_rfl) (fun K hK => ?_)
    go_big_op
    refine hK _ _ (S9) ?_
    clear hK K
    refine line_nil ?_
    clear inst qh0 qh1 qh2 qh3 qh4 qh5 Z2 S9
    go_wp2_with fail
    exact bodyPost_ret (v := .agg #[.int .i64 0, .int .i64 r, .int .i64 s, .int .i64 p, .int .i64 x, .int .i64 y, .int .i64 f, .int .i64 u, .int .i64 d, .int .i64 he, .int .i64 p]) (by simp [results, Tryz.results178, go_sem, zz0, zz1, zz2, zz3, zz4, zz5, zz6, zz7, zz8, zz9, zz10]) rfl ⟨rfl, HB9.out⟩
  · have e0 := T1 rfl h4
    have e1 := T3 (by rw [e0]; omega)
    rw [e1, e0]
    have e3 : (f != fv) = true := by simpa using h4
    have e4 : decide (f = fv) = false := by simpa using h4
    have e5 : (f == fv) = false := by simpa using h4
    clear T0 T1 T2 T3 T4 e0 e1 h4
    go_enter Tryz.func178, Tryz.ntmps178
    go_wp2_with fail
    generalize w.alloc (.cells #[.int .i64 0, .int .i64 0, .int .i64 0, .int .i64 0, .int .i64 0, .int .i64 0, .int .i64 0, .int .i64 0, .int .i64 0, .int .i64 0, .int .i64 0] 112) = W0 at *
    refine (H _ _ _ A1 C1).mono ?_
    rintro e u1 ⟨rfl, b1⟩
    have A2 := A1.on b1
    have C2 := C1.on b1
    have Z2 := Z0.on b1
    have B2 := btr b0 b1
    clear b0 b1 A1 C1 Z0 H
    have cc0 := C2.cell 0 _ rfl
    have cc1 := C2.cell 1 _ rfl
    have cc2 := C2.cell 2 _ rfl
    have cc3 := C2.cell 3 _ rfl
    have cc4 := C2.cell 4 _ rfl
    have cc5 := C2.cell 5 _ rfl
    go_wp2_with fail
    refine wp_region_line (Bel u1) [(0, true), (1, true), (2, true), (3, true), (4, true), (6, true), (7, true), (8, true), (5, false), (9, false), (10, true)] (by kernel_rfl) (by kernel_rfl) (fun _ _ d _ _ h => by cases d <;> exact h) (Bel.drew u1) ?_
    have hst := Bel.drew u1
    have inst : Nonempty (Of (Bel u1)) := ⟨⟨_, hst⟩⟩
    have qc2 := bel_cell cc2
    have C3 := C2.on (bdrew u1)
    have Z3 := Z2.on (bdrew u1)
    have A3 := A2.on (bdrew u1)
    have B3 := btr B2 (bdrew u1)
    clear A2 C2 Z2 B2 cc0 cc1 cc2 cc3 cc4 cc5
    generalize u1.drew = V0 at *
    iterate 8 (refine line_read rfl (by kernel_rfl) (fun K hK => ?_); go_big_quiet_op; refine hK _ ?_; clear hK K)
    refine line_alone rfl (by kernel_rfl) (fun K hK => ?_)
    refine call_any (args := #[.int .i64 he]) rfl (by kernel_rfl) (by kernel_rfl) (V _) ?_
    rintro e u2 ⟨rfl, be⟩
    have hst2 := hst.on be
    have A4 := A3.on be
    have C4 := C3.on be
    have Z4 := Z3.on be
    have B4 := btr B3 be
    refine ⟨_, rfl, hK _ _ hst2 ?_⟩
    clear hK K hst be A3 C3 Z3 B3 V
    simp only [Act.put, List.setIfInBounds_toArray, List.set_cons_zero, List.set_cons_succ]
    refine line_alone rfl (by kernel_rfl) (fun K hK => ?_)
    refine call_any (args := #[.int .i64 p, .int .i64 vh, .pointer (some ⟨h, 3, none⟩)]) rfl (by kernel_rfl) (by kernel_rfl) (G _ (C4.cell 3 _ rfl) (C4.cell 4 _ rfl)) ?_
    rintro e u3 ⟨rfl, be⟩
    have hst3 := hst2.on be
    have A5 := A4.on be
    have C5 := C4.on be
    have Z5 := Z4.on be
    have B5 := btr B4 be
    refine ⟨_, rfl, hK _ _ hst3 ?_⟩
    clear hK K hst2 be A4 C4 Z4 B4 G
    simp only [Act.put, List.setIfInBounds_toArray, List.set_cons_zero, List.set_cons_succ]
    iterate 1 (refine line_read rfl (by kernel_rfl) (fun K hK => ?_); go_big_quiet_op; refine hK _ ?_; clear hK K)
    refine line_nil ?_
    clear hst3 inst
    have aa0 := A5.cell 0 _ rfl
    have aa1 := A5.cell 1 _ rfl
    have aa2 := A5.cell 2 _ rfl
    have aa3 := A5.cell 3 _ rfl
    have cc0 := C5.cell 0 _ rfl
    have cc1 := C5.cell 1 _ rfl
    have cc2 := C5.cell 2 _ rfl
    have cc3 := C5.cell 3 _ rfl
    have cc4 := C5.cell 4 _ rfl
    have cc5 := C5.cell 5 _ rfl
    go_wp2_with fail
    refine wp_region_line (Bel u3) [(0, true), (1, true), (2, true), (3, true), (4, true), (5, true), (6, true), (7, true), (8, false), (9, true)] (by kernel_rfl) (by kernel_rfl) (fun _ _ d _ _ h => by cases d <;> exact h) (Bel.drew u3) ?_
    have hst := Bel.drew u3
    have inst : Nonempty (Of (Bel u3)) := ⟨⟨_, hst⟩⟩
    have qa0 := bel_cell aa0
    have qc1 := bel_cell cc1
    have C6 := C5.on (bdrew u3)
    have Z6 := Z5.on (bdrew u3)
    have B6 := btr B5 (bdrew u3)
    clear A5 C5 Z5 B5 aa0 aa1 aa2 aa3 cc0 cc1 cc2 cc3 cc4 cc5
    generalize u3.drew = V2 at *
    iterate 8 (refine line_read rfl (by kernel_rfl) (fun K hK => ?_); go_big_quiet_op; refine hK _ ?_; clear hK K)
    refine line_alone rfl (by kernel_rfl) (fun K hK => ?_)
    refine call_wp (args := #[.int .i64 s, .int .i64 k]) rfl (by kernel_rfl) (by kernel_rfl) (R1 _) (fun wn hbn => ?_)
    subst hbn
    refine hK _ _ hst ?_
    clear hK K
    simp only [Act.put, List.setIfInBounds_toArray, List.set_cons_zero, List.set_cons_succ]
    iterate 1 (refine line_read rfl (by kernel_rfl) (fun K hK => ?_); go_big_quiet_op; refine hK _ ?_; clear hK K)
    refine line_nil ?_
    clear hst inst
    have cc0 := C6.cell 0 _ rfl
    have cc1 := C6.cell 1 _ rfl
    have cc2 := C6.cell 2 _ rfl
    have cc3 := C6.cell 3 _ rfl
    have cc4 := C6.cell 4 _ rfl
    have cc5 := C6.cell 5 _ rfl
    go_wp2_with fail
    refine wp_region_line (Bel V2) [(0, true), (1, true), (2, true), (3, true), (4, true), (5, true), (6, false), (7, true)] (by kernel_rfl) (by kernel_rfl) (fun _ _ d _ _ h => by cases d <;> exact h) (Bel.drew V2) ?_
    have hst := Bel.drew V2
    have inst : Nonempty (Of (Bel V2)) := ⟨⟨_, hst⟩⟩
    have qc5 := bel_cell cc5
    have C7 := C6.on (bdrew V2)
    have Z7 := Z6.on (bdrew V2)
    have B7 := btr B6 (bdrew V2)
    clear C6 Z6 B6 cc0 cc1 cc2 cc3 cc4 cc5
    generalize V2.drew = V3 at *
    iterate 6 (refine line_read rfl (by kernel_rfl) (fun K hK => ?_); go_big_quiet_op; refine hK _ ?_; clear hK K)
    refine line_alone rfl (by kernel_rfl) (fun K hK => ?_)
    refine call_any (args := #[.int .i64 sh, .int .i64 he]) rfl (by kernel_rfl) (by kernel_rfl) (F _) ?_
    rintro e u4 ⟨rfl, be⟩
    have hst2 := hst.on be
    have XX := C7.on be
    have Z8 := Z7.on be
    have B8 := btr B7 be
    refine ⟨_, rfl, hK _ _ hst2 ?_⟩
    clear hK K hst be C7 Z7 B7 F
    simp only [Act.put, List.setIfInBounds_toArray, List.set_cons_zero, List.set_cons_succ]
    iterate 1 (refine line_read rfl (by kernel_rfl) (fun K hK => ?_); go_big_quiet_op; refine hK _ ?_; clear hK K)
    refine line_nil ?_
    clear hst2 inst
    have q0 := (Z8).cell 0 _ rfl
    have q1 := (Z8).cell 1 _ rfl
    have q2 := (Z8).cell 2 _ rfl
    have q3 := (Z8).cell 3 _ rfl
    have q4 := (Z8).cell 4 _ rfl
    have q5 := (Z8).cell 5 _ rfl
    have q6 := (Z8).cell 6 _ rfl
    have q7 := (Z8).cell 7 _ rfl
    have q8 := (Z8).cell 8 _ rfl
    have q9 := (Z8).cell 9 _ rfl
    have q10 := (Z8).cell 10 _ rfl
    have z0 := (Z8).free 0 _ rfl
    have z1 := (Z8).free 1 _ rfl
    have z2 := (Z8).free 2 _ rfl
    have z3 := (Z8).free 3 _ rfl
    have z4 := (Z8).free 4 _ rfl
    have z5 := (Z8).free 5 _ rfl
    have z6 := (Z8).free 6 _ rfl
    have z7 := (Z8).free 7 _ rfl
    have z8 := (Z8).free 8 _ rfl
    have z9 := (Z8).free 9 _ rfl
    have z10 := (Z8).free 10 _ rfl
    have HB := Lib.hid (B8)
    clear XX Z8 B8 Y
    go_wp2_with fail
    refine bodyPost_ret (v := .agg #[.int .i64 8, .int .i64 0, .int .i64 0, .int .i64 0, .int .i64 0, .int .i64 0, .int .i64 0, .int .i64 0, .int .i64 0, .int .i64 0, .int .i64 0]) (by simp [results, Tryz.results178, go_sem, q0, q1, q2, q3, q4, q5, q6, q7, q8, q9, q10]) rfl ⟨rfl, ?_⟩
    exact (by (iterate 11 (refine bset ?_ (by dsimp only; omega) _)); exact HB.out)
theorem specTakeReply_any (k r0 s0 : Int) (n : ByteArray) (r s p x y f : Int) (w : World) (hn : n.size ≤ maxLen) :
    Calls Tryz.prog 77 #[H4 k r0 s0 n, R6 r s p x y f] w fun e w' => e = .returned (T11 (takT k r0 s0 n r s p x y f)) ∧ Below w.heap.size w w' := by
  have b0 := bal (bal (bal (Below.refl _ w) (.cells #[.int .i64 k, .int .i64 r0, .int .i64 s0, .string n] 103)) (.cells #[.int .i64 r, .int .i64 s, .int .i64 p, .int .i64 x, .int .i64 y, .int .i64 f] 33)) (.cells #[.int .i64 0, .int .i64 0, .int .i64 0, .int .i64 0, .int .i64 0, .int .i64 0, .int .i64 0, .int .i64 0, .int .i64 0, .int .i64 0, .int .i64 0] 112)
  have A0 := ((At.new w (HL4 k r0 s0 n) 103).alloc (.cells #[.int .i64 r, .int .i64 s, .int .i64 p, .int .i64 x, .int .i64 y, .int .i64 f] 33)).alloc (.cells #[.int .i64 0, .int .i64 0, .int .i64 0, .int .i64 0, .int .i64 0, .int .i64 0, .int .i64 0, .int .i64 0, .int .i64 0, .int .i64 0, .int .i64 0] 112)
  have C0 := (At.new (w.alloc (.cells #[.int .i64 k, .int .i64 r0, .int .i64 s0, .string n] 103)) (RL6 r s p x y f) 33).alloc (.cells #[.int .i64 0, .int .i64 0, .int .i64 0, .int .i64 0, .int .i64 0, .int .i64 0, .int .i64 0, .int .i64 0, .int .i64 0, .int .i64 0, .int .i64 0] 112)
  have Z0 := At.new ((w.alloc (.cells #[.int .i64 k, .int .i64 r0, .int .i64 s0, .string n] 103)).alloc (.cells #[.int .i64 r, .int .i64 s, .int .i64 p, .int .i64 x, .int .i64 y, .int .i64 f] 33)) [.int .i64 0, .int .i64 0, .int .i64 0, .int .i64 0, .int .i64 0, .int .i64 0, .int .i64 0, .int .i64 0, .int .i64 0, .int .i64 0, .int .i64 0] 112
  simp only [World.size_alloc] at A0 C0 Z0
  have F1 := fun g w A => l11Fault_any g k r0 s0 n w A hn
  have F2 := fun g w A => l6Reply_any g r s p x y f w A
  by_cases h1 : cliF k r0 s0 n = 0
  · by_cases h2 : repF r s p x y f = 0
    · have TK := fun g h w A C => l11Take_any g h k r0 s0 n r s p x y f w A C h1 h2
      rw [h1] at F1
      rw [h2] at F2
      generalize takT k r0 s0 n r s p x y f = t at *
      obtain ⟨tc, tr, ts, tp, tx, ty, tf, tu, td, th, tk⟩ := t
      clear h1 h2
      go_enter Tryz.func77, Tryz.ntmps77
      go_wp2_with fail
      generalize ((w.alloc (.cells #[.int .i64 k, .int .i64 r0, .int .i64 s0, .string n] 103)).alloc (.cells #[.int .i64 r, .int .i64 s, .int .i64 p, .int .i64 x, .int .i64 y, .int .i64 f] 33)).alloc (.cells #[.int .i64 0, .int .i64 0, .int .i64 0, .int .i64 0, .int .i64 0, .int .i64 0, .int .i64 0, .int .i64 0, .int .i64 0, .int .i64 0, .int .i64 0] 112) = W0 at *
      refine (F1 _ _ A0).mono ?_
      rintro e u1 ⟨rfl, b1⟩
      go_wp2_with fail
      refine (F2 _ _ (C0.on b1)).mono ?_
      rintro e w' ⟨rfl, rfl⟩
      go_wp2_with fail
      refine (TK _ _ _ (A0.on b1) (C0.on b1)).mono ?_
      rintro e u2 ⟨rfl, b2⟩
      have b12 := btr b1 b2
      have q0 := (Z0.on b12).cell 0 _ rfl
      have q1 := (Z0.on b12).cell 1 _ rfl
      have q2 := (Z0.on b12).cell 2 _ rfl
      have q3 := (Z0.on b12).cell 3 _ rfl
      have q4 := (Z0.on b12).cell 4 _ rfl
      have q5 := (Z0.on b12).cell 5 _ rfl
      have q6 := (Z0.on b12).cell 6 _ rfl
      have q7 := (Z0.on b12).cell 7 _ rfl
      have q8 := (Z0.on b12).cell 8 _ rfl
      have q9 := (Z0.on b12).cell 9 _ rfl
      have q10 := (Z0.on b12).cell 10 _ rfl
      have z0 := (Z0.on b12).free 0 _ rfl
      have z1 := (Z0.on b12).free 1 _ rfl
      have z2 := (Z0.on b12).free 2 _ rfl
      have z3 := (Z0.on b12).free 3 _ rfl
      have z4 := (Z0.on b12).free 4 _ rfl
      have z5 := (Z0.on b12).free 5 _ rfl
      have z6 := (Z0.on b12).free 6 _ rfl
      have z7 := (Z0.on b12).free 7 _ rfl
      have z8 := (Z0.on b12).free 8 _ rfl
      have z9 := (Z0.on b12).free 9 _ rfl
      have z10 := (Z0.on b12).free 10 _ rfl
      have HB := Lib.hid (btr b0 b12)
      clear A0 C0 Z0 b0 b1 b2 b12 F1 F2 TK
      go_wp2_with fail
      refine bodyPost_ret (v := .agg #[.int .i64 tc, .int .i64 tr, .int .i64 ts, .int .i64 tp, .int .i64 tx, .int .i64 ty, .int .i64 tf, .int .i64 tu, .int .i64 td, .int .i64 th, .int .i64 tk]) (by simp [results, Tryz.results77, go_sem, q0, q1, q2, q3, q4, q5, q6, q7, q8, q9, q10]) rfl ⟨rfl, ?_⟩
      exact (by (iterate 11 (refine bset ?_ (by dsimp only; omega) _)); exact HB.out)
    · have e0 := takC_rep (x := x) (y := y) (f := f) h1 h2
      rw [takT_no (by rw [e0]; exact h2), e0]
      have e3 : (repF r s p x y f != 0) = true := by simpa using h2
      rw [h1] at F1
      generalize repF r s p x y f = c at *
      clear h1 h2 e0
      go_enter Tryz.func77, Tryz.ntmps77
      go_wp2_with fail
      generalize ((w.alloc (.cells #[.int .i64 k, .int .i64 r0, .int .i64 s0, .string n] 103)).alloc (.cells #[.int .i64 r, .int .i64 s, .int .i64 p, .int .i64 x, .int .i64 y, .int .i64 f] 33)).alloc (.cells #[.int .i64 0, .int .i64 0, .int .i64 0, .int .i64 0, .int .i64 0, .int .i64 0, .int .i64 0, .int .i64 0, .int .i64 0, .int .i64 0, .int .i64 0] 112) = W0 at *
      refine (F1 _ _ A0).mono ?_
      rintro e u1 ⟨rfl, b1⟩
      go_wp2_with fail
      refine (F2 _ _ (C0.on b1)).mono ?_
      rintro e w' ⟨rfl, rfl⟩
      have q0 := (Z0.on b1).cell 0 _ rfl
      have q1 := (Z0.on b1).cell 1 _ rfl
      have q2 := (Z0.on b1).cell 2 _ rfl
      have q3 := (Z0.on b1).cell 3 _ rfl
      have q4 := (Z0.on b1).cell 4 _ rfl
      have q5 := (Z0.on b1).cell 5 _ rfl
      have q6 := (Z0.on b1).cell 6 _ rfl
      have q7 := (Z0.on b1).cell 7 _ rfl
      have q8 := (Z0.on b1).cell 8 _ rfl
      have q9 := (Z0.on b1).cell 9 _ rfl
      have q10 := (Z0.on b1).cell 10 _ rfl
      have z0 := (Z0.on b1).free 0 _ rfl
      have z1 := (Z0.on b1).free 1 _ rfl
      have z2 := (Z0.on b1).free 2 _ rfl
      have z3 := (Z0.on b1).free 3 _ rfl
      have z4 := (Z0.on b1).free 4 _ rfl
      have z5 := (Z0.on b1).free 5 _ rfl
      have z6 := (Z0.on b1).free 6 _ rfl
      have z7 := (Z0.on b1).free 7 _ rfl
      have z8 := (Z0.on b1).free 8 _ rfl
      have z9 := (Z0.on b1).free 9 _ rfl
      have z10 := (Z0.on b1).free 10 _ rfl
      have HB := Lib.hid (btr b0 b1)
      clear A0 C0 Z0 b0 b1 F1 F2
      go_wp2_with fail
      refine bodyPost_ret (v := .agg #[.int .i64 c, .int .i64 0, .int .i64 0, .int .i64 0, .int .i64 0, .int .i64 0, .int .i64 0, .int .i64 0, .int .i64 0, .int .i64 0, .int .i64 0]) (by simp [results, Tryz.results77, go_sem, q0, q1, q2, q3, q4, q5, q6, q7, q8, q9, q10]) rfl ⟨rfl, ?_⟩
      exact (by (iterate 11 (refine bset ?_ (by dsimp only; omega) _)); exact HB.out)
  · have e0 := takC_cli (r := r) (s := s) (p := p) (x := x) (y := y) (f := f) h1
    rw [takT_no (by rw [e0]; exact h1), e0]
    have e3 : (cliF k r0 s0 n != 0) = true := by simpa using h1
    generalize cliF k r0 s0 n = c at *
    clear h1 e0
    go_enter Tryz.func77, Tryz.ntmps77
    go_wp2_with fail
    generalize ((w.alloc (.cells #[.int .i64 k, .int .i64 r0, .int .i64 s0, .string n] 103)).alloc (.cells #[.int .i64 r, .int .i64 s, .int .i64 p, .int .i64 x, .int .i64 y, .int .i64 f] 33)).alloc (.cells #[.int .i64 0, .int .i64 0, .int .i64 0, .int .i64 0, .int .i64 0, .int .i64 0, .int .i64 0, .int .i64 0, .int .i64 0, .int .i64 0, .int .i64 0] 112) = W0 at *
    refine (F1 _ _ A0).mono ?_
    rintro e u1 ⟨rfl, b1⟩
    have q0 := (Z0.on b1).cell 0 _ rfl
    have q1 := (Z0.on b1).cell 1 _ rfl
    have q2 := (Z0.on b1).cell 2 _ rfl
    have q3 := (Z0.on b1).cell 3 _ rfl
    have q4 := (Z0.on b1).cell 4 _ rfl
    have q5 := (Z0.on b1).cell 5 _ rfl
    have q6 := (Z0.on b1).cell 6 _ rfl
    have q7 := (Z0.on b1).cell 7 _ rfl
    have q8 := (Z0.on b1).cell 8 _ rfl
    have q9 := (Z0.on b1).cell 9 _ rfl
    have q10 := (Z0.on b1).cell 10 _ rfl
    have z0 := (Z0.on b1).free 0 _ rfl
    have z1 := (Z0.on b1).free 1 _ rfl
    have z2 := (Z0.on b1).free 2 _ rfl
    have z3 := (Z0.on b1).free 3 _ rfl
    have z4 := (Z0.on b1).free 4 _ rfl
    have z5 := (Z0.on b1).free 5 _ rfl
    have z6 := (Z0.on b1).free 6 _ rfl
    have z7 := (Z0.on b1).free 7 _ rfl
    have z8 := (Z0.on b1).free 8 _ rfl
    have z9 := (Z0.on b1).free 9 _ rfl
    have z10 := (Z0.on b1).free 10 _ rfl
    have HB := Lib.hid (btr b0 b1)
    clear A0 C0 Z0 b0 b1 F1 F2
    go_wp2_with fail
    refine bodyPost_ret (v := .agg #[.int .i64 c, .int .i64 0, .int .i64 0, .int .i64 0, .int .i64 0, .int .i64 0, .int .i64 0, .int .i64 0, .int .i64 0, .int .i64 0, .int .i64 0]) (by simp [results, Tryz.results77, go_sem, q0, q1, q2, q3, q4, q5, q6, q7, q8, q9, q10]) rfl ⟨rfl, ?_⟩
    exact (by (iterate 11 (refine bset ?_ (by dsimp only; omega) _)); exact HB.out)
end Go.Proofs.YtlodhleihnlchaaGreatDoor
namespace Go.Proofs.YtlodhleihnlchaaGreatDoor
open Go.RowKit
set_option maxRecDepth 100000
set_option linter.unusedVariables false

theorem pair_eq11 (a b c d : Int) (w : World) : (Op.equalIn 10000 119 (I2 a b) (I2 c d)).run Tryz.prog w = .ok (decide (a = c ∧ b = d)) w := by
  have u3 := Tryz.underlying2
  have a3 := Tryz.isAgg2
  have z3 := Tryz.sizeOf2
  have hS : Tryz.prog.underlying 119 = some (.struct (Tryz.prog.fieldsOf 119)) := by kernel_rfl
  have hp : Tryz.prog.stoodInHeld 119 = false := by kernel_rfl
  rw [show (10000 : Nat) = 9999 + 1 from rfl, run_equalIn_agg w 9999 119 _ _ hS hp]
  simp only [Program.fieldsOf, Tryz.underlying119]
  go_simp
  by_cases h0 : a = c <;> by_cases h1 : b = d <;> simp [h0, h1]
theorem pair_neq11 (k u s : Int) (v : Bool) (h : (u != s) = v) (w : World) : (binOp .neq 119 (I2 k u) (I2 k s)).run Tryz.prog w = .ok (.bool v) w := by
  rw [run_neq_struct, pair_eq11]
  subst h
  by_cases e : u = s <;> simp [e]
theorem pair_guard11 (op : BinOp) (x y : Operand) (a b c d : Int) (w : World) : (eqGuard op 119 x y (I2 a b) (I2 c d)).run Tryz.prog w = .ok () w := run_eqGuard_agg w op 119 x y _ _ (by kernel_rfl)
theorem keyR_no {k : Int} (h : inB k 1 1438 = false) : keyR k = (3, 0, 0) := by simp [keyR, h]
theorem keyR_yes {k : Int} (h : inB k 1 1438 = true) : keyR k = (0, k, M.pubN k) := by simp [keyR, h, M.pubN]

theorem implClientFault_any (k r s : Int) (n : ByteArray) (w : World) (hn : n.size ≤ maxLen) :
    Calls Tryz.prog 68 #[H4 k r s n] w fun e w' => e = .returned (.int .i64 (cliF k r s n)) ∧ Below w.heap.size w w' := by
  have b0 := bal (Below.refl _ w) (.cells #[.int .i64 k, .int .i64 r, .int .i64 s, .string n] 103)
  have A0 := At.new w (HL4 k r s n) 103
  have K1 := fun w => implKeyOf_any k w
  have F := fun w => implHelloFault_any r s n w hn
  cases hk : inB k 1 1438
  · rw [cliF_sec hk]
    rw [keyR_no hk] at K1
    dsimp only at K1
    go_enter Tryz.func68, Tryz.ntmps68
    go_wp2_with fail
    generalize w.alloc (.cells #[.int .i64 k, .int .i64 r, .int .i64 s, .string n] 103) = W0 at *
    refine (K1 _).mono ?_
    rintro e u1 ⟨rfl, b1⟩
    have D1 := At.new u1 [.int .i64 3, .int .i64 0, .int .i64 0] 121
    have b2 := bal b1 (.cells #[.int .i64 3, .int .i64 0, .int .i64 0] 121)
    have A2 := A0.on b2
    have B2 := btr b0 b2
    have p0 := A2.cell 0 _ rfl
    have p1 := A2.cell 1 _ rfl
    have p2 := A2.cell 2 _ rfl
    have p3 := A2.cell 3 _ rfl
    clear b1 b2 b0 A0
    go_wp2_with fail
    go_ret
    exact ⟨rfl, B2⟩
  rw [keyR_yes hk] at K1
  dsimp only at K1
  by_cases h2 : helF n.data.toList r s = 0
  · rw [h2] at F
    have g9 := pair_guard11
    by_cases h3 : M.pubN k = s
    · rw [cliF_yes hk h2 h3]
      have g8 := pair_neq11 k (M.pubN k) s false (by simpa using h3)
      generalize M.pubN k = u at *
      clear h3 h2 hk
      go_enter Tryz.func68, Tryz.ntmps68
      go_wp2_with fail
      generalize w.alloc (.cells #[.int .i64 k, .int .i64 r, .int .i64 s, .string n] 103) = W0 at *
      refine (K1 _).mono ?_
      rintro e u1 ⟨rfl, b1⟩
      have D1 := At.new u1 [.int .i64 0, .int .i64 k, .int .i64 u] 121
      have b2 := bal b1 (.cells #[.int .i64 0, .int .i64 k, .int .i64 u] 121)
      have A2 := A0.on b2
      have B2 := btr b0 b2
      have p0 := A2.cell 0 _ rfl
      have p1 := A2.cell 1 _ rfl
      have p2 := A2.cell 2 _ rfl
      have p3 := A2.cell 3 _ rfl
      clear b1 b2 b0 A0
      go_wp2_with fail
      generalize u1.alloc (.cells #[.int .i64 0, .int .i64 k, .int .i64 u] 121) = W1 at *
      refine (F _).mono ?_
      rintro e u2 ⟨rfl, b3⟩
      have B3 := btr B2 b3
      have v0 := (A2.on b3).cell 0 _ rfl
      have v1 := (A2.on b3).cell 1 _ rfl
      have v2 := (A2.on b3).cell 2 _ rfl
      have v3 := (A2.on b3).cell 3 _ rfl
      have x0 := (D1.on b3).cell 0 _ rfl
      have x1 := (D1.on b3).cell 1 _ rfl
      have x2 := (D1.on b3).cell 2 _ rfl
      clear A2 D1 b3 B2 K1 F p0 p1 p2 p3
      go_wp2_with fail
      go_ret
      exact ⟨rfl, B3⟩
    · rw [cliF_form hk h2 h3]
      have g8 := pair_neq11 k (M.pubN k) s true (by simpa using h3)
      generalize M.pubN k = u at *
      clear h3 h2 hk
      go_enter Tryz.func68, Tryz.ntmps68
      go_wp2_with fail
      generalize w.alloc (.cells #[.int .i64 k, .int .i64 r, .int .i64 s, .string n] 103) = W0 at *
      refine (K1 _).mono ?_
      rintro e u1 ⟨rfl, b1⟩
      have D1 := At.new u1 [.int .i64 0, .int .i64 k, .int .i64 u] 121
      have b2 := bal b1 (.cells #[.int .i64 0, .int .i64 k, .int .i64 u] 121)
      have A2 := A0.on b2
      have B2 := btr b0 b2
      have p0 := A2.cell 0 _ rfl
      have p1 := A2.cell 1 _ rfl
      have p2 := A2.cell 2 _ rfl
      have p3 := A2.cell 3 _ rfl
      clear b1 b2 b0 A0
      go_wp2_with fail
      generalize u1.alloc (.cells #[.int .i64 0, .int .i64 k, .int .i64 u] 121) = W1 at *
      refine (F _).mono ?_
      rintro e u2 ⟨rfl, b3⟩
      have B3 := btr B2 b3
      have v0 := (A2.on b3).cell 0 _ rfl
      have v1 := (A2.on b3).cell 1 _ rfl
      have v2 := (A2.on b3).cell 2 _ rfl
      have v3 := (A2.on b3).cell 3 _ rfl
      have x0 := (D1.on b3).cell 0 _ rfl
      have x1 := (D1.on b3).cell 1 _ rfl
      have x2 := (D1.on b3).cell 2 _ rfl
      clear A2 D1 b3 B2 K1 F p0 p1 p2 p3
      go_wp2_with fail
      go_ret
      exact ⟨rfl, B3⟩
  · rw [cliF_hel hk h2]
    generalize M.pubN k = u at *
    generalize helF n.data.toList r s = c at *
    have e3 : (c != 0) = true := by simpa using h2
    go_enter Tryz.func68, Tryz.ntmps68
    go_wp2_with fail
    generalize w.alloc (.cells #[.int .i64 k, .int .i64 r, .int .i64 s, .string n] 103) = W0 at *
    refine (K1 _).mono ?_
    rintro e u1 ⟨rfl, b1⟩
    have D1 := At.new u1 [.int .i64 0, .int .i64 k, .int .i64 u] 121
    have b2 := bal b1 (.cells #[.int .i64 0, .int .i64 k, .int .i64 u] 121)
    have A2 := A0.on b2
    have B2 := btr b0 b2
    have p0 := A2.cell 0 _ rfl
    have p1 := A2.cell 1 _ rfl
    have p2 := A2.cell 2 _ rfl
    have p3 := A2.cell 3 _ rfl
    clear b1 b2 b0 A0
    go_wp2_with fail
    generalize u1.alloc (.cells #[.int .i64 0, .int .i64 k, .int .i64 u] 121) = W1 at *
    refine (F _).mono ?_
    rintro e u2 ⟨rfl, b3⟩
    have B3 := btr B2 b3
    go_wp2_with fail
    go_ret
    exact ⟨rfl, B3⟩

theorem keysBy_any (b : Nat) (m he pb : Int) (w : World) (lab : Labels w) (hA : At b [.int .i64 m] w) (hm : M.sumB m = true) :
    Calls Tryz.prog 164 #[walkV b, .int .i64 he, .int .i64 pb] w fun e w' => e = .returned (K4 (M.tagL M.upS [m]) (M.tagL M.downS [m]) he pb) ∧ Below w.heap.size w w' := by
  have b0 := bal (Below.refl _ w) (.cells #[.int .i64 0, .int .i64 0, .int .i64 0, .int .i64 0] 110)
  have A0 := At.new w (KL4 0 0 0 0) 110
  have L0 := lab.on b0
  have X0 := hA.on b0
  have U := fun w L A => walk_up b m w L A hm
  have D := fun w L A => walk_down b m w L A hm
  generalize M.tagL M.upS [m] = u at *
  generalize M.tagL M.downS [m] = d at *
  clear lab hA
  go_enter Tryz.func164, Tryz.ntmps164
  go_wp2_with fail
  generalize w.alloc (.cells #[.int .i64 0, .int .i64 0, .int .i64 0, .int .i64 0] 110) = W0 at *
  refine (U _ L0 X0).mono ?_
  rintro e u1 ⟨rfl, b1⟩
  go_wp2_with fail
  refine (D _ (L0.on b1) (X0.on b1)).mono ?_
  rintro e u2 ⟨rfl, b2⟩
  have b12 := btr b1 b2
  have q0 := (A0.on b12).cell 0 _ rfl
  have q1 := (A0.on b12).cell 1 _ rfl
  have q2 := (A0.on b12).cell 2 _ rfl
  have q3 := (A0.on b12).cell 3 _ rfl
  have z0 := (A0.on b12).free 0 _ rfl
  have z1 := (A0.on b12).free 1 _ rfl
  have z2 := (A0.on b12).free 2 _ rfl
  have z3 := (A0.on b12).free 3 _ rfl
  have HB := Lib.hid (btr b0 b12)
  clear A0 b0 b1 b2 b12 U D L0 X0
  go_wp2_with fail
  refine bodyPost_ret (v := K4 u d he pb) (by simp [results, Tryz.results164, go_sem, q0, q1, q2, q3]) rfl ⟨rfl, ?_⟩
  exact (by (iterate 4 (refine bset ?_ (by dsimp only; omega) _)); exact HB.out)
end Go.Proofs.YtlodhleihnlchaaGreatDoor
