/- Texts of this seat that several laws rest on, laid into one. Conditions: as each theorem states. -/
import Derived.Test.YtlodhleihnlchaaGreatDoorH3
import Derived.Test.YtlodhleihnlchaaGreatDoorH4
import Derived.Test.YtlodhleihnlchaaGreatDoorH5
import Derived.Test.YtlodhleihnlchaaGreatDoorH6
import Derived.Test.YtlodhleihnlchaaGreatDoorH8
import Derived.Test.YtlodhleihnlchaaGreatDoorH9
import Derived.Laws.StructEq
import Derived.Deep.DeepCutAuto
import Derived.Test.YtlodhleihnlchaaGreatDoorRows
import Derived.ProofKit
import Derived.JoinedCond
import Derived.Test.YtlodhleihnlchaaGreatDoorTie
import Derived.Test.YtlodhleihnlchaaGreatDoorCards
import Derived.LaidHandle
import Derived.LaidLaws
import Derived.OpenShut
import Derived.WalkSmall
import Derived.Carry
import Derived.Below
import Derived.Deep.DeepHandedRow
import Derived.Lib.LaidTab
import Derived.Lay
import Derived.MakeChecks
import Derived.LaidMore
import Derived.Stop.Joined
namespace Go.Proofs.YtlodhleihnlchaaGreatDoor
open Go.RowKit
set_option maxRecDepth 100000
set_option linter.unusedVariables false

theorem pair_eq11 (a b c d : Int) (w : World) : (Op.equalIn 10000 119 (I2 a b) (I2 c d)).run Tryz.prog w = .ok (decide (a = c ∧ b = d)) w := by
  have u3 := Tryz.underlying2
  have a3 := Tryz.isAgg2
  have z3 := Tryz.sizeOf2
  have hS : Tryz.prog.underlying 119 = some (.struct (Tryz.prog.fieldsOf 119)) := by kernel_rfl
  have hp : Tryz.prog.stoodInHeld 119 = false := by kernel_rfl
  rw [show (10000 : Nat) = 9999 + 1 from rfl, run_equalIn_agg w 9999 119 _ _ hS hp]
  simp only [Program.fieldsOf, Tryz.underlying119]
  go_simp
  by_cases h0 : a = c <;> by_cases h1 : b = d <;> simp [h0, h1]
theorem pair_neq11 (k u s : Int) (v : Bool) (h : (u != s) = v) (w : World) : (binOp .neq 119 (I2 k u) (I2 k s)).run Tryz.prog w = .ok (.bool v) w := by
  rw [run_neq_struct, pair_eq11]
  subst h
  by_cases e : u = s <;> simp [e]
theorem pair_guard11 (op : BinOp) (x y : Operand) (a b c d : Int) (w : World) : (eqGuard op 119 x y (I2 a b) (I2 c d)).run Tryz.prog w = .ok () w := run_eqGuard_agg w op 119 x y _ _ (by kernel_rfl)
theorem sta_valsI {k rd : Int} {n : ByteArray} (h : ¬ staC k rd n = 0) (v : Int) : staI k rd n v = 0 ∧ staN k rd n = { data := #[] } := by simp [staI, staN, h]
theorem keyR_no {k : Int} (h : inB k 1 1438 = false) : keyR k = (3, 0, 0) := by simp [keyR, h]
theorem keyR_yes {k : Int} (h : inB k 1 1438 = true) : keyR k = (0, k, M.pubN k) := by simp [keyR, h, M.pubN]

theorem implClientFault_any (k r s : Int) (n : ByteArray) (w : World) (hn : n.size ≤ maxLen) :
    Calls Tryz.prog 68 #[H4 k r s n] w fun e w' => e = .returned (.int .i64 (cliF k r s n)) ∧ Below w.heap.size w w' := by
  have b0 := bal (Below.refl _ w) (.cells #[.int .i64 k, .int .i64 r, .int .i64 s, .string n] 103)
  have A0 := At.new w (HL4 k r s n) 103
  have K1 := fun w => implKeyOf_any k w
  have F := fun w => implHelloFault_any r s n w hn
  cases hk : inB k 1 1438
  · rw [cliF_sec hk]
    rw [keyR_no hk] at K1
    dsimp only at K1
    go_enter Tryz.func68, Tryz.ntmps68
    go_wp2_with fail
    generalize w.alloc (.cells #[.int .i64 k, .int .i64 r, .int .i64 s, .string n] 103) = W0 at *
    refine (K1 _).mono ?_
    rintro e u1 ⟨rfl, b1⟩
    have D1 := At.new u1 [.int .i64 3, .int .i64 0, .int .i64 0] 121
    have b2 := bal b1 (.cells #[.int .i64 3, .int .i64 0, .int .i64 0] 121)
    have A2 := A0.on b2
    have B2 := btr b0 b2
    have p0 := A2.cell 0 _ rfl
    have p1 := A2.cell 1 _ rfl
    have p2 := A2.cell 2 _ rfl
    have p3 := A2.cell 3 _ rfl
    clear b1 b2 b0 A0
    go_wp2_with fail
    go_ret
    exact ⟨rfl, B2⟩
  rw [keyR_yes hk] at K1
  dsimp only at K1
  by_cases h2 : helF n.data.toList r s = 0
  · rw [h2] at F
    have g9 := pair_guard11
    by_cases h3 : M.pubN k = s
    · rw [cliF_yes hk h2 h3]
      have g8 := pair_neq11 k (M.pubN k) s false (by simpa using h3)
      generalize M.pubN k = u at *
      clear h3 h2 hk
      go_enter Tryz.func68, Tryz.ntmps68
      go_wp2_with fail
      generalize w.alloc (.cells #[.int .i64 k, .int .i64 r, .int .i64 s, .string n] 103) = W0 at *
      refine (K1 _).mono ?_
      rintro e u1 ⟨rfl, b1⟩
      have D1 := At.new u1 [.int .i64 0, .int .i64 k, .int .i64 u] 121
      have b2 := bal b1 (.cells #[.int .i64 0, .int .i64 k, .int .i64 u] 121)
      have A2 := A0.on b2
      have B2 := btr b0 b2
      have p0 := A2.cell 0 _ rfl
      have p1 := A2.cell 1 _ rfl
      have p2 := A2.cell 2 _ rfl
      have p3 := A2.cell 3 _ rfl
      clear b1 b2 b0 A0
      go_wp2_with fail
      generalize u1.alloc (.cells #[.int .i64 0, .int .i64 k, .int .i64 u] 121) = W1 at *
      refine (F _).mono ?_
      rintro e u2 ⟨rfl, b3⟩
      have B3 := btr B2 b3
      have v0 := (A2.on b3).cell 0 _ rfl
      have v1 := (A2.on b3).cell 1 _ rfl
      have v2 := (A2.on b3).cell 2 _ rfl
      have v3 := (A2.on b3).cell 3 _ rfl
      have x0 := (D1.on b3).cell 0 _ rfl
      have x1 := (D1.on b3).cell 1 _ rfl
      have x2 := (D1.on b3).cell 2 _ rfl
      clear A2 D1 b3 B2 K1 F p0 p1 p2 p3
      go_wp2_with fail
      go_ret
      exact ⟨rfl, B3⟩
    · rw [cliF_form hk h2 h3]
      have g8 := pair_neq11 k (M.pubN k) s true (by simpa using h3)
      generalize M.pubN k = u at *
      clear h3 h2 hk
      go_enter Tryz.func68, Tryz.ntmps68
      go_wp2_with fail
      generalize w.alloc (.cells #[.int .i64 k, .int .i64 r, .int .i64 s, .string n] 103) = W0 at *
      refine (K1 _).mono ?_
      rintro e u1 ⟨rfl, b1⟩
      have D1 := At.new u1 [.int .i64 0, .int .i64 k, .int .i64 u] 121
      have b2 := bal b1 (.cells #[.int .i64 0, .int .i64 k, .int .i64 u] 121)
      have A2 := A0.on b2
      have B2 := btr b0 b2
      have p0 := A2.cell 0 _ rfl
      have p1 := A2.cell 1 _ rfl
      have p2 := A2.cell 2 _ rfl
      have p3 := A2.cell 3 _ rfl
      clear b1 b2 b0 A0
      go_wp2_with fail
      generalize u1.alloc (.cells #[.int .i64 0, .int .i64 k, .int .i64 u] 121) = W1 at *
      refine (F _).mono ?_
      rintro e u2 ⟨rfl, b3⟩
      have B3 := btr B2 b3
      have v0 := (A2.on b3).cell 0 _ rfl
      have v1 := (A2.on b3).cell 1 _ rfl
      have v2 := (A2.on b3).cell 2 _ rfl
      have v3 := (A2.on b3).cell 3 _ rfl
      have x0 := (D1.on b3).cell 0 _ rfl
      have x1 := (D1.on b3).cell 1 _ rfl
      have x2 := (D1.on b3).cell 2 _ rfl
      clear A2 D1 b3 B2 K1 F p0 p1 p2 p3
      go_wp2_with fail
      go_ret
      exact ⟨rfl, B3⟩
  · rw [cliF_hel hk h2]
    generalize M.pubN k = u at *
    generalize helF n.data.toList r s = c at *
    have e3 : (c != 0) = true := by simpa using h2
    go_enter Tryz.func68, Tryz.ntmps68
    go_wp2_with fail
    generalize w.alloc (.cells #[.int .i64 k, .int .i64 r, .int .i64 s, .string n] 103) = W0 at *
    refine (K1 _).mono ?_
    rintro e u1 ⟨rfl, b1⟩
    have D1 := At.new u1 [.int .i64 0, .int .i64 k, .int .i64 u] 121
    have b2 := bal b1 (.cells #[.int .i64 0, .int .i64 k, .int .i64 u] 121)
    have A2 := A0.on b2
    have B2 := btr b0 b2
    have p0 := A2.cell 0 _ rfl
    have p1 := A2.cell 1 _ rfl
    have p2 := A2.cell 2 _ rfl
    have p3 := A2.cell 3 _ rfl
    clear b1 b2 b0 A0
    go_wp2_with fail
    generalize u1.alloc (.cells #[.int .i64 0, .int .i64 k, .int .i64 u] 121) = W1 at *
    refine (F _).mono ?_
    rintro e u2 ⟨rfl, b3⟩
    have B3 := btr B2 b3
    go_wp2_with fail
    go_ret
    exact ⟨rfl, B3⟩

theorem keysBy_any (b : Nat) (m he pb : Int) (w : World) (lab : Labels w) (hA : At b [.int .i64 m] w) (hm : M.sumB m = true) :
    Calls Tryz.prog 164 #[walkV b, .int .i64 he, .int .i64 pb] w fun e w' => e = .returned (K4 (M.tagL M.upS [m]) (M.tagL M.downS [m]) he pb) ∧ Below w.heap.size w w' := by
  have b0 := bal (Below.refl _ w) (.cells #[.int .i64 0, .int .i64 0, .int .i64 0, .int .i64 0] 110)
  have A0 := At.new w (KL4 0 0 0 0) 110
  have L0 := lab.on b0
  have X0 := hA.on b0
  have U := fun w L A => walk_up b m w L A hm
  have D := fun w L A => walk_down b m w L A hm
  generalize M.tagL M.upS [m] = u at *
  generalize M.tagL M.downS [m] = d at *
  clear lab hA
  go_enter Tryz.func164, Tryz.ntmps164
  go_wp2_with fail
  generalize w.alloc (.cells #[.int .i64 0, .int .i64 0, .int .i64 0, .int .i64 0] 110) = W0 at *
  refine (U _ L0 X0).mono ?_
  rintro e u1 ⟨rfl, b1⟩
  go_wp2_with fail
  refine (D _ (L0.on b1) (X0.on b1)).mono ?_
  rintro e u2 ⟨rfl, b2⟩
  have b12 := btr b1 b2
  have q0 := (A0.on b12).cell 0 _ rfl
  have q1 := (A0.on b12).cell 1 _ rfl
  have q2 := (A0.on b12).cell 2 _ rfl
  have q3 := (A0.on b12).cell 3 _ rfl
  have z0 := (A0.on b12).free 0 _ rfl
  have z1 := (A0.on b12).free 1 _ rfl
  have z2 := (A0.on b12).free 2 _ rfl
  have z3 := (A0.on b12).free 3 _ rfl
  have HB := Lib.hid (btr b0 b12)
  clear A0 b0 b1 b2 b12 U D L0 X0
  go_wp2_with fail
  refine bodyPost_ret (v := K4 u d he pb) (by simp [results, Tryz.results164, go_sem, q0, q1, q2, q3]) rfl ⟨rfl, ?_⟩
  exact (by (iterate 4 (refine bset ?_ (by dsimp only; omega) _)); exact HB.out)
theorem implFinishOf_any (sh he : Int) (w : World) (lab : Labels w) :
    Calls Tryz.prog 75 #[.int .i64 sh, .int .i64 he] w fun e w' => e = .returned (I2 (finR sh he).1 (finR sh he).2) ∧ Below w.heap.size w w' := by
  have b0 := bal (Below.refl _ w) (.cells #[.int .i64 0, .int .i64 0] 49)
  have A0 := At.new w [.int .i64 0, .int .i64 0] 49
  have L0 := lab.on b0
  clear lab
  cases hs : pubB sh
  · rw [show finR sh he = (3, 0) by simp [finR, hs]]
    go_enter Tryz.func75, Tryz.ntmps75
    go_wp2_with fail
    generalize w.alloc (.cells #[.int .i64 0, .int .i64 0] 49) = W0 at *
    refine (implIsPublic_any _ _).mono ?_
    rintro e u1 ⟨rfl, b1⟩
    have q0 := (A0.on b1).cell 0 _ rfl
    have q1 := (A0.on b1).cell 1 _ rfl
    have z0 := (A0.on b1).free 0 _ rfl
    have z1 := (A0.on b1).free 1 _ rfl
    have HB := Lib.hid (btr b0 b1)
    clear A0 b0 b1 L0
    go_wp2_with fail
    refine bodyPost_ret (v := I2 3 0) (by simp [results, Tryz.results75, go_sem, q0, q1]) rfl ⟨rfl, ?_⟩
    exact (by (iterate 2 (refine bset ?_ (by dsimp only; omega) _)); exact HB.out)
  cases hh : M.sumB he
  · rw [show finR sh he = (3, 0) by simp [finR, hh]]
    go_enter Tryz.func75, Tryz.ntmps75
    go_wp2_with fail
    generalize w.alloc (.cells #[.int .i64 0, .int .i64 0] 49) = W0 at *
    refine (implIsPublic_any _ _).mono ?_
    rintro e u1 ⟨rfl, b1⟩
    go_wp2_with fail
    refine (isSum_any _ _).mono ?_
    rintro r w' ⟨rfl, rfl⟩
    have q0 := (A0.on b1).cell 0 _ rfl
    have q1 := (A0.on b1).cell 1 _ rfl
    have z0 := (A0.on b1).free 0 _ rfl
    have z1 := (A0.on b1).free 1 _ rfl
    have HB := Lib.hid (btr b0 b1)
    clear A0 b0 b1 L0
    go_wp2_with fail
    refine bodyPost_ret (v := I2 3 0) (by simp [results, Tryz.results75, go_sem, q0, q1]) rfl ⟨rfl, ?_⟩
    exact (by (iterate 2 (refine bset ?_ (by dsimp only; omega) _)); exact HB.out)
  rw [show finR sh he = (0, finN sh he) by simp [finR, hs, hh]]
  have W := fun w L => walkFrom_any sh he w L (pub_sum6 hs) hh
  have hm := masterN_sum sh he
  unfold finN
  generalize masterN sh he = m at *
  have D := fun b w L A => walk_fin b m w L A hm
  generalize M.tagL M.finishS [m] = f at *
  go_enter Tryz.func75, Tryz.ntmps75
  go_wp2_with fail
  generalize w.alloc (.cells #[.int .i64 0, .int .i64 0] 49) = W0 at *
  refine (implIsPublic_any _ _).mono ?_
  rintro e u1 ⟨rfl, b1⟩
  go_wp2_with fail
  refine (isSum_any _ _).mono ?_
  rintro r w' ⟨rfl, rfl⟩
  go_wp2_with fail
  refine (W _ (L0.on b1)).mono ?_
  rintro e u2 ⟨g, rfl, X2, b2, -⟩
  have b12 := btr b1 b2
  go_wp2_with fail
  refine (D g _ (L0.on b12) X2).mono ?_
  rintro e u3 ⟨rfl, b3⟩
  have b13 := btr b12 b3
  have q0 := (A0.on b13).cell 0 _ rfl
  have q1 := (A0.on b13).cell 1 _ rfl
  have z0 := (A0.on b13).free 0 _ rfl
  have z1 := (A0.on b13).free 1 _ rfl
  have HB := Lib.hid (btr b0 b13)
  clear A0 b0 b1 b2 b3 b12 b13 L0 W D X2
  go_wp2_with fail
  refine bodyPost_ret (v := I2 0 f) (by simp [results, Tryz.results75, go_sem, q0, q1]) rfl ⟨rfl, ?_⟩
  exact (by (iterate 2 (refine bset ?_ (by dsimp only; omega) _)); exact HB.out)
theorem implKeysOf_any (sh he pb : Int) (w : World) (lab : Labels w) :
    Calls Tryz.prog 72 #[.int .i64 sh, .int .i64 he, .int .i64 pb] w fun e w' => e = .returned (T11 (keysT sh he pb)) ∧ Below w.heap.size w w' := by
  have b0 := bal (Below.refl _ w) (.cells #[.int .i64 0, .int .i64 0, .int .i64 0, .int .i64 0, .int .i64 0, .int .i64 0, .int .i64 0, .int .i64 0, .int .i64 0, .int .i64 0, .int .i64 0] 112)
  have A0 := At.new w [.int .i64 0, .int .i64 0, .int .i64 0, .int .i64 0, .int .i64 0, .int .i64 0, .int .i64 0, .int .i64 0, .int .i64 0, .int .i64 0, .int .i64 0] 112
  have L0 := lab.on b0
  clear lab
  cases hs : pubB sh
  · rw [keysT_no (show keysB sh he pb = false by simp [keysB, hs])]
    go_enter Tryz.func72, Tryz.ntmps72
    go_wp2_with fail
    generalize w.alloc (.cells #[.int .i64 0, .int .i64 0, .int .i64 0, .int .i64 0, .int .i64 0, .int .i64 0, .int .i64 0, .int .i64 0, .int .i64 0, .int .i64 0, .int .i64 0] 112) = W0 at *
    refine (implIsPublic_any _ _).mono ?_
    rintro e u1 ⟨rfl, b1⟩
    have q0 := (A0.on b1).cell 0 _ rfl
    have q1 := (A0.on b1).cell 1 _ rfl
    have q2 := (A0.on b1).cell 2 _ rfl
    have q3 := (A0.on b1).cell 3 _ rfl
    have q4 := (A0.on b1).cell 4 _ rfl
    have q5 := (A0.on b1).cell 5 _ rfl
    have q6 := (A0.on b1).cell 6 _ rfl
    have q7 := (A0.on b1).cell 7 _ rfl
    have q8 := (A0.on b1).cell 8 _ rfl
    have q9 := (A0.on b1).cell 9 _ rfl
    have q10 := (A0.on b1).cell 10 _ rfl
    have z0 := (A0.on b1).free 0 _ rfl
    have z1 := (A0.on b1).free 1 _ rfl
    have z2 := (A0.on b1).free 2 _ rfl
    have z3 := (A0.on b1).free 3 _ rfl
    have z4 := (A0.on b1).free 4 _ rfl
    have z5 := (A0.on b1).free 5 _ rfl
    have z6 := (A0.on b1).free 6 _ rfl
    have z7 := (A0.on b1).free 7 _ rfl
    have z8 := (A0.on b1).free 8 _ rfl
    have z9 := (A0.on b1).free 9 _ rfl
    have z10 := (A0.on b1).free 10 _ rfl
    have HB := Lib.hid (btr b0 b1)
    clear A0 b0 b1 L0
    go_wp2_with fail
    refine bodyPost_ret (v := .agg #[.int .i64 3, .int .i64 0, .int .i64 0, .int .i64 0, .int .i64 0, .int .i64 0, .int .i64 0, .int .i64 0, .int .i64 0, .int .i64 0, .int .i64 0]) (by simp [results, Tryz.results72, go_sem, q0, q1, q2, q3, q4, q5, q6, q7, q8, q9, q10]) rfl ⟨rfl, ?_⟩
    exact (by (iterate 11 (refine bset ?_ (by dsimp only; omega) _)); exact HB.out)
  cases hh : M.sumB he
  · rw [keysT_no (show keysB sh he pb = false by simp [keysB, hh])]
    go_enter Tryz.func72, Tryz.ntmps72
    go_wp2_with fail
    generalize w.alloc (.cells #[.int .i64 0, .int .i64 0, .int .i64 0, .int .i64 0, .int .i64 0, .int .i64 0, .int .i64 0, .int .i64 0, .int .i64 0, .int .i64 0, .int .i64 0] 112) = W0 at *
    refine (implIsPublic_any _ _).mono ?_
    rintro e u1 ⟨rfl, b1⟩
    go_wp2_with fail
    refine (isSum_any _ _).mono ?_
    rintro r w' ⟨rfl, rfl⟩
    have q0 := (A0.on b1).cell 0 _ rfl
    have q1 := (A0.on b1).cell 1 _ rfl
    have q2 := (A0.on b1).cell 2 _ rfl
    have q3 := (A0.on b1).cell 3 _ rfl
    have q4 := (A0.on b1).cell 4 _ rfl
    have q5 := (A0.on b1).cell 5 _ rfl
    have q6 := (A0.on b1).cell 6 _ rfl
    have q7 := (A0.on b1).cell 7 _ rfl
    have q8 := (A0.on b1).cell 8 _ rfl
    have q9 := (A0.on b1).cell 9 _ rfl
    have q10 := (A0.on b1).cell 10 _ rfl
    have z0 := (A0.on b1).free 0 _ rfl
    have z1 := (A0.on b1).free 1 _ rfl
    have z2 := (A0.on b1).free 2 _ rfl
    have z3 := (A0.on b1).free 3 _ rfl
    have z4 := (A0.on b1).free 4 _ rfl
    have z5 := (A0.on b1).free 5 _ rfl
    have z6 := (A0.on b1).free 6 _ rfl
    have z7 := (A0.on b1).free 7 _ rfl
    have z8 := (A0.on b1).free 8 _ rfl
    have z9 := (A0.on b1).free 9 _ rfl
    have z10 := (A0.on b1).free 10 _ rfl
    have HB := Lib.hid (btr b0 b1)
    clear A0 b0 b1 L0
    go_wp2_with fail
    refine bodyPost_ret (v := .agg #[.int .i64 3, .int .i64 0, .int .i64 0, .int .i64 0, .int .i64 0, .int .i64 0, .int .i64 0, .int .i64 0, .int .i64 0, .int .i64 0, .int .i64 0]) (by simp [results, Tryz.results72, go_sem, q0, q1, q2, q3, q4, q5, q6, q7, q8, q9, q10]) rfl ⟨rfl, ?_⟩
    exact (by (iterate 11 (refine bset ?_ (by dsimp only; omega) _)); exact HB.out)
  cases hp : pubB pb
  · rw [keysT_no (show keysB sh he pb = false by simp [keysB, hp])]
    go_enter Tryz.func72, Tryz.ntmps72
    go_wp2_with fail
    generalize w.alloc (.cells #[.int .i64 0, .int .i64 0, .int .i64 0, .int .i64 0, .int .i64 0, .int .i64 0, .int .i64 0, .int .i64 0, .int .i64 0, .int .i64 0, .int .i64 0] 112) = W0 at *
    refine (implIsPublic_any _ _).mono ?_
    rintro e u1 ⟨rfl, b1⟩
    go_wp2_with fail
    refine (isSum_any _ _).mono ?_
    rintro r w' ⟨rfl, rfl⟩
    go_wp2_with fail
    refine (implIsPublic_any _ _).mono ?_
    rintro e u2 ⟨rfl, b2⟩
    have b12 := btr b1 b2
    have q0 := (A0.on b12).cell 0 _ rfl
    have q1 := (A0.on b12).cell 1 _ rfl
    have q2 := (A0.on b12).cell 2 _ rfl
    have q3 := (A0.on b12).cell 3 _ rfl
    have q4 := (A0.on b12).cell 4 _ rfl
    have q5 := (A0.on b12).cell 5 _ rfl
    have q6 := (A0.on b12).cell 6 _ rfl
    have q7 := (A0.on b12).cell 7 _ rfl
    have q8 := (A0.on b12).cell 8 _ rfl
    have q9 := (A0.on b12).cell 9 _ rfl
    have q10 := (A0.on b12).cell 10 _ rfl
    have z0 := (A0.on b12).free 0 _ rfl
    have z1 := (A0.on b12).free 1 _ rfl
    have z2 := (A0.on b12).free 2 _ rfl
    have z3 := (A0.on b12).free 3 _ rfl
    have z4 := (A0.on b12).free 4 _ rfl
    have z5 := (A0.on b12).free 5 _ rfl
    have z6 := (A0.on b12).free 6 _ rfl
    have z7 := (A0.on b12).free 7 _ rfl
    have z8 := (A0.on b12).free 8 _ rfl
    have z9 := (A0.on b12).free 9 _ rfl
    have z10 := (A0.on b12).free 10 _ rfl
    have HB := Lib.hid (btr b0 b12)
    clear A0 b0 b1 b2 b12 L0
    go_wp2_with fail
    refine bodyPost_ret (v := .agg #[.int .i64 3, .int .i64 0, .int .i64 0, .int .i64 0, .int .i64 0, .int .i64 0, .int .i64 0, .int .i64 0, .int .i64 0, .int .i64 0, .int .i64 0]) (by simp [results, Tryz.results72, go_sem, q0, q1, q2, q3, q4, q5, q6, q7, q8, q9, q10]) rfl ⟨rfl, ?_⟩
    exact (by (iterate 11 (refine bset ?_ (by dsimp only; omega) _)); exact HB.out)
  rw [keysT_yes (show keysB sh he pb = true by simp [keysB, hs, hh, hp])]
  have W := fun w L => walkFrom_any sh he w L (pub_sum6 hs) hh
  have hm := masterN_sum sh he
  unfold keysK upN downN
  generalize masterN sh he = m at *
  have D := fun b w L A => keysBy_any b m he pb w L A hm
  generalize M.tagL M.upS [m] = u at *
  generalize M.tagL M.downS [m] = d at *
  go_enter Tryz.func72, Tryz.ntmps72
  go_wp2_with fail
  generalize w.alloc (.cells #[.int .i64 0, .int .i64 0, .int .i64 0, .int .i64 0, .int .i64 0, .int .i64 0, .int .i64 0, .int .i64 0, .int .i64 0, .int .i64 0, .int .i64 0] 112) = W0 at *
  refine (implIsPublic_any _ _).mono ?_
  rintro e u1 ⟨rfl, b1⟩
  go_wp2_with fail
  refine (isSum_any _ _).mono ?_
  rintro r w' ⟨rfl, rfl⟩
  go_wp2_with fail
  refine (implIsPublic_any _ _).mono ?_
  rintro e u2 ⟨rfl, b2⟩
  have b12 := btr b1 b2
  go_wp2_with fail
  refine (W _ (L0.on b12)).mono ?_
  rintro e u3 ⟨g, rfl, X3, b3, -⟩
  have b13 := btr b12 b3
  go_wp2_with fail
  refine (D g _ (L0.on b13) X3).mono ?_
  rintro e u4 ⟨rfl, b4⟩
  have b14 := btr b13 b4
  have q0 := (A0.on b14).cell 0 _ rfl
  have q1 := (A0.on b14).cell 1 _ rfl
  have q2 := (A0.on b14).cell 2 _ rfl
  have q3 := (A0.on b14).cell 3 _ rfl
  have q4 := (A0.on b14).cell 4 _ rfl
  have q5 := (A0.on b14).cell 5 _ rfl
  have q6 := (A0.on b14).cell 6 _ rfl
  have q7 := (A0.on b14).cell 7 _ rfl
  have q8 := (A0.on b14).cell 8 _ rfl
  have q9 := (A0.on b14).cell 9 _ rfl
  have q10 := (A0.on b14).cell 10 _ rfl
  have z0 := (A0.on b14).free 0 _ rfl
  have z1 := (A0.on b14).free 1 _ rfl
  have z2 := (A0.on b14).free 2 _ rfl
  have z3 := (A0.on b14).free 3 _ rfl
  have z4 := (A0.on b14).free 4 _ rfl
  have z5 := (A0.on b14).free 5 _ rfl
  have z6 := (A0.on b14).free 6 _ rfl
  have z7 := (A0.on b14).free 7 _ rfl
  have z8 := (A0.on b14).free 8 _ rfl
  have z9 := (A0.on b14).free 9 _ rfl
  have z10 := (A0.on b14).free 10 _ rfl
  have HB := Lib.hid (btr b0 b14)
  clear A0 b0 b1 b2 b3 b4 b12 b13 b14 L0 W D X3
  go_wp2_with fail
  refine bodyPost_ret (v := .agg #[.int .i64 0, .int .i64 0, .int .i64 0, .int .i64 0, .int .i64 0, .int .i64 0, .int .i64 0, .int .i64 u, .int .i64 d, .int .i64 he, .int .i64 pb]) (by simp [results, Tryz.results72, go_sem, q0, q1, q2, q3, q4, q5, q6, q7, q8, q9, q10]) rfl ⟨rfl, ?_⟩
  exact (by (iterate 11 (refine bset ?_ (by dsimp only; omega) _)); exact HB.out)

theorem implStartClient_any (k rd : Int) (n : ByteArray) (w : World) (hn : n.size ≤ maxLen) :
    Calls Tryz.prog 60 #[.int .i64 k, .int .i64 rd, .string n] w fun e w' => e = .returned (C5 (staC k rd n) (staI k rd n k) (staI k rd n rd) (staI k rd n (M.pubN k)) (staN k rd n)) ∧ Below w.heap.size w w' := by
  have b0 := bal (Below.refl _ w) (.cells #[.int .i64 0, .int .i64 0, .int .i64 0, .int .i64 0, .string { data := #[] }] 105)
  have A0 := At.new w (CL5 0 0 0 0 { data := #[] }) 105
  have K1 := fun w => implKeyOf_any k w
  have F := fun w => implNormalName_any n w hn
  cases hk : inB k 1 1438
  · have h := staC_no (n := n) (show (inB k 1 1438 && M.sumB rd) = false by rw [hk]; rfl)
    have hc : ¬ staC k rd n = 0 := by rw [h]; omega
    rw [(sta_valsI hc k).1, (sta_valsI hc rd).1, (sta_valsI hc (M.pubN k)).1, (sta_valsI hc k).2, h]
    rw [keyR_no hk] at K1
    dsimp only at K1
    clear h hc
    go_enter Tryz.func60, Tryz.ntmps60
    go_wp2_with fail
    generalize w.alloc (.cells #[.int .i64 0, .int .i64 0, .int .i64 0, .int .i64 0, .string { data := #[] }] 105) = W0 at *
    refine (K1 _).mono ?_
    rintro e u1 ⟨rfl, b1⟩
    have D1 := At.new u1 [.int .i64 3, .int .i64 0, .int .i64 0] 121
    have b2 := bal b1 (.cells #[.int .i64 3, .int .i64 0, .int .i64 0] 121)
    have A2 := A0.on b2
    have B2 := btr b0 b2
    clear b1 b2 b0 A0
    go_upto_region 2 with fail
    generalize u1.alloc (.cells #[.int .i64 3, .int .i64 0, .int .i64 0] 121) = W1 at *
    have v0 := D1.cell 0 _ rfl
    have v1 := D1.cell 1 _ rfl
    have v2 := D1.cell 2 _ rfl
    have q0 := (A2).cell 0 _ rfl
    have q1 := (A2).cell 1 _ rfl
    have q2 := (A2).cell 2 _ rfl
    have q3 := (A2).cell 3 _ rfl
    have q4 := (A2).cell 4 _ rfl
    have z0 := (A2).free 0 _ rfl
    have z1 := (A2).free 1 _ rfl
    have z2 := (A2).free 2 _ rfl
    have z3 := (A2).free 3 _ rfl
    have z4 := (A2).free 4 _ rfl
    have HB := Lib.hid (B2)
    clear A2 B2 K1 F D1
    go_wp2_with fail
    refine bodyPost_ret (v := C5 3 0 0 0 { data := #[] }) (by simp [results, Tryz.results60, go_sem, q0, q1, q2, q3, q4]) rfl ⟨rfl, ?_⟩
    exact (by (iterate 5 (refine bset ?_ (by dsimp only; omega) _)); exact HB.out)
  rw [keyR_yes hk] at K1
  dsimp only at K1
  cases hr : M.sumB rd
  · have h := staC_no (n := n) (show (inB k 1 1438 && M.sumB rd) = false by rw [hk, hr]; rfl)
    have hc : ¬ staC k rd n = 0 := by rw [h]; omega
    rw [(sta_valsI hc k).1, (sta_valsI hc rd).1, (sta_valsI hc (M.pubN k)).1, (sta_valsI hc k).2, h]
    generalize M.pubN k = u at *
    clear h hc
    go_enter Tryz.func60, Tryz.ntmps60
    go_wp2_with fail
    generalize w.alloc (.cells #[.int .i64 0, .int .i64 0, .int .i64 0, .int .i64 0, .string { data := #[] }] 105) = W0 at *
    refine (K1 _).mono ?_
    rintro e u1 ⟨rfl, b1⟩
    have D1 := At.new u1 [.int .i64 0, .int .i64 k, .int .i64 u] 121
    have b2 := bal b1 (.cells #[.int .i64 0, .int .i64 k, .int .i64 u] 121)
    have A2 := A0.on b2
    have B2 := btr b0 b2
    clear b1 b2 b0 A0
    go_upto_region 2 with fail
    generalize u1.alloc (.cells #[.int .i64 0, .int .i64 k, .int .i64 u] 121) = W1 at *
    have v0 := D1.cell 0 _ rfl
    have v1 := D1.cell 1 _ rfl
    have v2 := D1.cell 2 _ rfl
    go_wp2_with fail
    refine (isSum_any _ _).mono ?_
    rintro r w' ⟨rfl, rfl⟩
    have q0 := (A2).cell 0 _ rfl
    have q1 := (A2).cell 1 _ rfl
    have q2 := (A2).cell 2 _ rfl
    have q3 := (A2).cell 3 _ rfl
    have q4 := (A2).cell 4 _ rfl
    have z0 := (A2).free 0 _ rfl
    have z1 := (A2).free 1 _ rfl
    have z2 := (A2).free 2 _ rfl
    have z3 := (A2).free 3 _ rfl
    have z4 := (A2).free 4 _ rfl
    have HB := Lib.hid (B2)
    clear A2 B2 K1 F D1 v0 v1 v2
    go_wp2_with fail
    refine bodyPost_ret (v := C5 3 0 0 0 { data := #[] }) (by simp [results, Tryz.results60, go_sem, q0, q1, q2, q3, q4]) rfl ⟨rfl, ?_⟩
    exact (by (iterate 5 (refine bset ?_ (by dsimp only; omega) _)); exact HB.out)
  have h := staC_yes (n := n) (show (inB k 1 1438 && M.sumB rd) = true by rw [hk, hr]; rfl)
  by_cases h0 : M.nameF n.data.toList = 0
  · have hc : staC k rd n = 0 := by rw [h]; exact h0
    have e1 : ∀ v, staI k rd n v = v := fun v => by simp [staI, hc]
    have e2 : staN k rd n = M.bs (M.nrm n.data.toList) := by simp [staN, hc]
    rw [e1, e1, e1, e2, hc]
    rw [M.nrmT_yes h0, h0] at F
    generalize M.bs (M.nrm n.data.toList) = m at *
    generalize M.pubN k = u at *
    clear e1 e2 h hc h0
    go_enter Tryz.func60, Tryz.ntmps60
    go_wp2_with fail
    generalize w.alloc (.cells #[.int .i64 0, .int .i64 0, .int .i64 0, .int .i64 0, .string { data := #[] }] 105) = W0 at *
    refine (K1 _).mono ?_
    rintro e u1 ⟨rfl, b1⟩
    have D1 := At.new u1 [.int .i64 0, .int .i64 k, .int .i64 u] 121
    have b2 := bal b1 (.cells #[.int .i64 0, .int .i64 k, .int .i64 u] 121)
    have A2 := A0.on b2
    have B2 := btr b0 b2
    clear b1 b2 b0 A0
    go_upto_region 2 with fail
    generalize u1.alloc (.cells #[.int .i64 0, .int .i64 k, .int .i64 u] 121) = W1 at *
    have v0 := D1.cell 0 _ rfl
    have v1 := D1.cell 1 _ rfl
    have v2 := D1.cell 2 _ rfl
    go_wp2_with fail
    refine (isSum_any _ _).mono ?_
    rintro r w' ⟨rfl, rfl⟩
    go_wp2_with fail
    refine (F _).mono ?_
    rintro e u2 ⟨rfl, b3⟩
    have b4 := bal b3 (.cells #[.int .i64 0, .string m] 92)
    have X4 := At.new u2 [.int .i64 0, .string m] 92
    have A4 := A2.on b4
    have D4 := D1.on b4
    have B4 := btr B2 b4
    clear b3 b4 A2 D1 B2 v0 v1 v2
    go_upto_region 5 with fail
    generalize u2.alloc (.cells #[.int .i64 0, .string m] 92) = W2 at *
    have v0 := D4.cell 0 _ rfl
    have v1 := D4.cell 1 _ rfl
    have v2 := D4.cell 2 _ rfl
    have x0 := X4.cell 0 _ rfl
    have x1 := X4.cell 1 _ rfl
    have X5 := At.new W2 [.int .i64 rd, .int .i64 u, .string m] 26
    have B5 := bal B4 (.cells #[.int .i64 rd, .int .i64 u, .string m] 26)
    have A5 := A4.alloc (.cells #[.int .i64 rd, .int .i64 u, .string m] 26)
    go_upto_region 8 with fail
    generalize W2.alloc (.cells #[.int .i64 rd, .int .i64 u, .string m] 26) = W3 at *
    have y0 := X5.cell 0 _ rfl
    have y1 := X5.cell 1 _ rfl
    have y2 := X5.cell 2 _ rfl
    have q0 := (A5).cell 0 _ rfl
    have q1 := (A5).cell 1 _ rfl
    have q2 := (A5).cell 2 _ rfl
    have q3 := (A5).cell 3 _ rfl
    have q4 := (A5).cell 4 _ rfl
    have z0 := (A5).free 0 _ rfl
    have z1 := (A5).free 1 _ rfl
    have z2 := (A5).free 2 _ rfl
    have z3 := (A5).free 3 _ rfl
    have z4 := (A5).free 4 _ rfl
    have HB := Lib.hid (B5)
    clear A4 A5 D4 X4 X5 B4 B5 K1 F v0 v1 v2 x0 x1
    go_wp2_with fail
    refine bodyPost_ret (v := C5 0 k rd u m) (by simp [results, Tryz.results60, go_sem, q0, q1, q2, q3, q4]) rfl ⟨rfl, ?_⟩
    exact (by (iterate 5 (refine bset ?_ (by dsimp only; omega) _)); exact HB.out)
  · have hc : ¬ staC k rd n = 0 := by rw [h]; exact h0
    rw [(sta_valsI hc k).1, (sta_valsI hc rd).1, (sta_valsI hc (M.pubN k)).1, (sta_valsI hc k).2, h]
    rw [M.nrmT_no h0, show M.bs [] = { data := #[] } from rfl] at F
    generalize M.pubN k = u at *
    generalize M.nameF n.data.toList = c at *
    have e3 : (c != 0) = true := by simpa using h0
    clear h hc h0
    go_enter Tryz.func60, Tryz.ntmps60
    go_wp2_with fail
    generalize w.alloc (.cells #[.int .i64 0, .int .i64 0, .int .i64 0, .int .i64 0, .string { data := #[] }] 105) = W0 at *
    refine (K1 _).mono ?_
    rintro e u1 ⟨rfl, b1⟩
    have D1 := At.new u1 [.int .i64 0, .int .i64 k, .int .i64 u] 121
    have b2 := bal b1 (.cells #[.int .i64 0, .int .i64 k, .int .i64 u] 121)
    have A2 := A0.on b2
    have B2 := btr b0 b2
    clear b1 b2 b0 A0
    go_upto_region 2 with fail
    generalize u1.alloc (.cells #[.int .i64 0, .int .i64 k, .int .i64 u] 121) = W1 at *
    have v0 := D1.cell 0 _ rfl
    have v1 := D1.cell 1 _ rfl
    have v2 := D1.cell 2 _ rfl
    go_wp2_with fail
    refine (isSum_any _ _).mono ?_
    rintro r w' ⟨rfl, rfl⟩
    go_wp2_with fail
    refine (F _).mono ?_
    rintro e u2 ⟨rfl, b3⟩
    have b4 := bal b3 (.cells #[.int .i64 c, .string { data := #[] }] 92)
    have X4 := At.new u2 [.int .i64 c, .string { data := #[] }] 92
    have A4 := A2.on b4
    have D4 := D1.on b4
    have B4 := btr B2 b4
    clear b3 b4 A2 D1 B2 v0 v1 v2
    go_upto_region 5 with fail
    generalize u2.alloc (.cells #[.int .i64 c, .string { data := #[] }] 92) = W2 at *
    have v0 := D4.cell 0 _ rfl
    have v1 := D4.cell 1 _ rfl
    have v2 := D4.cell 2 _ rfl
    have x0 := X4.cell 0 _ rfl
    have x1 := X4.cell 1 _ rfl
    have q0 := (A4).cell 0 _ rfl
    have q1 := (A4).cell 1 _ rfl
    have q2 := (A4).cell 2 _ rfl
    have q3 := (A4).cell 3 _ rfl
    have q4 := (A4).cell 4 _ rfl
    have z0 := (A4).free 0 _ rfl
    have z1 := (A4).free 1 _ rfl
    have z2 := (A4).free 2 _ rfl
    have z3 := (A4).free 3 _ rfl
    have z4 := (A4).free 4 _ rfl
    have HB := Lib.hid (B4)
    clear A4 D4 X4 B4 K1 F
    go_wp2_with fail
    refine bodyPost_ret (v := C5 c 0 0 0 { data := #[] }) (by simp [results, Tryz.results60, go_sem, q0, q1, q2, q3, q4]) rfl ⟨rfl, ?_⟩
    exact (by (iterate 5 (refine bset ?_ (by dsimp only; omega) _)); exact HB.out)
end Go.Proofs.YtlodhleihnlchaaGreatDoor
namespace Go.Proofs.YtlodhleihnlchaaGreatDoor
open Go.RowKit
set_option maxRecDepth 100000
set_option linter.unusedVariables false

theorem sg11 (a b c : Int) (w : World) : Sem.run Tryz.prog (Instr.field 233 (.agg #[.int .i64 a, .int .i64 b, .int .i64 c]) 1) w = .ok (.agg #[.int .i64 b, .int .i64 c]) w := by kernel_rfl
theorem sharedR_yes {s p : Int} (h1 : inB s 1 1438 = true) (h2 : pubB p = true) : sharedR s p = (0, shN s p) := by simp [sharedR, h1, h2, shN]
theorem signR_yes {s t : Int} (h1 : inB s 1 1438 = true) (h2 : M.sumB t = true) : M.signR s t = (0, M.sigPt s t, M.sigPr s t) := by simp [M.signR, h1, h2]
set_option maxHeartbeats 2000000 in
theorem implAnswerHello_any (i s rd r0 s0 : Int) (n : ByteArray) (w : World) (lab : Labels w) (ert : ErrT w) (hn : n.size ≤ maxLen) :
    Calls Tryz.prog 62 #[.int .i64 i, .int .i64 s, .int .i64 rd, H3 r0 s0 n] w fun e w' => e = .returned (T11 (ansT i s rd n r0 s0)) ∧ Below w.heap.size w w' := by
  have f1 := fld1
  have g3 := sg11
  have b0 := bal (bal (Below.refl _ w) (.cells #[.int .i64 r0, .int .i64 s0, .string n] 26)) (.cells #[.int .i64 0, .int .i64 0, .int .i64 0, .int .i64 0, .int .i64 0, .int .i64 0, .int .i64 0, .int .i64 0, .int .i64 0, .int .i64 0, .int .i64 0] 112)
  have A0 := (At.new w (HL3 r0 s0 n) 26).alloc (.cells #[.int .i64 0, .int .i64 0, .int .i64 0, .int .i64 0, .int .i64 0, .int .i64 0, .int .i64 0, .int .i64 0, .int .i64 0, .int .i64 0, .int .i64 0] 112)
  have Z0 := At.new (w.alloc (.cells #[.int .i64 r0, .int .i64 s0, .string n] 26)) [.int .i64 0, .int .i64 0, .int .i64 0, .int .i64 0, .int .i64 0, .int .i64 0, .int .i64 0, .int .i64 0, .int .i64 0, .int .i64 0, .int .i64 0] 112
  simp only [World.size_alloc] at A0 Z0
  have L0 := lab.on b0
  have E0 := ert.on b0
  have K1 := fun w => implKeyOf_any i w
  have K2 := fun w => implKeyOf_any s w
  have F := fun w => implHelloFault_any r0 s0 n w hn
  have hll := lab.lt
  clear lab ert
  cases hi : inB i 1 1438
  · rw [ansT_no (show ansB i s rd = false by simp [ansB, hi])]
    rw [keyR_no hi] at K1
    dsimp only at K1
    generalize keyR s = ky at *
    obtain ⟨k0, k1, k2⟩ := ky
    dsimp only at K2
    go_enter Tryz.func62, Tryz.ntmps62
    go_wp2_with fail
    generalize (w.alloc (.cells #[.int .i64 r0, .int .i64 s0, .string n] 26)).alloc (.cells #[.int .i64 0, .int .i64 0, .int .i64 0, .int .i64 0, .int .i64 0, .int .i64 0, .int .i64 0, .int .i64 0, .int .i64 0, .int .i64 0, .int .i64 0] 112) = W0 at *
    refine (K1 _).mono ?_
    rintro e u1 ⟨rfl, b1⟩
    have D1 := At.new u1 [.int .i64 3, .int .i64 0, .int .i64 0] 121
    have c1 := bal b1 (.cells #[.int .i64 3, .int .i64 0, .int .i64 0] 121)
    have A1 := A0.on c1
    have Z1 := Z0.on c1
    have B1 := btr b0 c1
    have L1 := L0.on c1
    have E1 := E0.on c1
    clear b0 b1 c1 A0 Z0 L0 E0
    go_wp2_with fail
    generalize u1.alloc (.cells #[.int .i64 3, .int .i64 0, .int .i64 0] 121) = W1 at *
    refine (K2 _).mono ?_
    rintro e u2 ⟨rfl, b2⟩
    have D2 := At.new u2 [.int .i64 k0, .int .i64 k1, .int .i64 k2] 121
    have c2 := bal b2 (.cells #[.int .i64 k0, .int .i64 k1, .int .i64 k2] 121)
    have A2 := A1.on c2
    have Z2 := Z1.on c2
    have B2 := btr B1 c2
    have L2 := L1.on c2
    have E2 := E1.on c2
    have G2 := D1.on c2
    clear b2 c2 A1 Z1 L1 E1 B1 D1
    go_upto_region 3 with fail
    generalize u2.alloc (.cells #[.int .i64 k0, .int .i64 k1, .int .i64 k2] 121) = W2 at *
    have dd0 := G2.cell 0 _ rfl
    have dd1 := G2.cell 1 _ rfl
    have dd2 := G2.cell 2 _ rfl
    have ee0 := D2.cell 0 _ rfl
    have ee1 := D2.cell 1 _ rfl
    have ee2 := D2.cell 2 _ rfl
    have aa0 := A2.cell 0 _ rfl
    have aa1 := A2.cell 1 _ rfl
    have aa2 := A2.cell 2 _ rfl
    have q0 := (Z2).cell 0 _ rfl
    have q1 := (Z2).cell 1 _ rfl
    have q2 := (Z2).cell 2 _ rfl
    have q3 := (Z2).cell 3 _ rfl
    have q4 := (Z2).cell 4 _ rfl
    have q5 := (Z2).cell 5 _ rfl
    have q6 := (Z2).cell 6 _ rfl
    have q7 := (Z2).cell 7 _ rfl
    have q8 := (Z2).cell 8 _ rfl
    have q9 := (Z2).cell 9 _ rfl
    have q10 := (Z2).cell 10 _ rfl
    have z0 := (Z2).free 0 _ rfl
    have z1 := (Z2).free 1 _ rfl
    have z2 := (Z2).free 2 _ rfl
    have z3 := (Z2).free 3 _ rfl
    have z4 := (Z2).free 4 _ rfl
    have z5 := (Z2).free 5 _ rfl
    have z6 := (Z2).free 6 _ rfl
    have z7 := (Z2).free 7 _ rfl
    have z8 := (Z2).free 8 _ rfl
    have z9 := (Z2).free 9 _ rfl
    have z10 := (Z2).free 10 _ rfl
    have HB := Lib.hid (B2)
    clear A2 Z2 B2 L2 E2 G2 D2 F K1 K2
    go_wp2_with fail
    refine bodyPost_ret (v := .agg #[.int .i64 3, .int .i64 0, .int .i64 0, .int .i64 0, .int .i64 0, .int .i64 0, .int .i64 0, .int .i64 0, .int .i64 0, .int .i64 0, .int .i64 0]) (by simp [results, Tryz.results62, go_sem, q0, q1, q2, q3, q4, q5, q6, q7, q8, q9, q10]) rfl ⟨rfl, ?_⟩
    exact (by (iterate 11 (refine bset ?_ (by dsimp only; omega) _)); exact HB.out)
  rw [keyR_yes hi] at K1
  dsimp only at K1
  have hpi := pub_of hi
  cases hs : inB s 1 1438
  · rw [ansT_no (show ansB i s rd = false by simp [ansB, hs])]
    rw [keyR_no hs] at K2
    dsimp only at K2
    generalize M.pubN i = p2 at *
    go_enter Tryz.func62, Tryz.ntmps62
    go_wp2_with fail
    generalize (w.alloc (.cells #[.int .i64 r0, .int .i64 s0, .string n] 26)).alloc (.cells #[.int .i64 0, .int .i64 0, .int .i64 0, .int .i64 0, .int .i64 0, .int .i64 0, .int .i64 0, .int .i64 0, .int .i64 0, .int .i64 0, .int .i64 0] 112) = W0 at *
    refine (K1 _).mono ?_
    rintro e u1 ⟨rfl, b1⟩
    have D1 := At.new u1 [.int .i64 0, .int .i64 i, .int .i64 p2] 121
    have c1 := bal b1 (.cells #[.int .i64 0, .int .i64 i, .int .i64 p2] 121)
    have A1 := A0.on c1
    have Z1 := Z0.on c1
    have B1 := btr b0 c1
    have L1 := L0.on c1
    have E1 := E0.on c1
    clear b0 b1 c1 A0 Z0 L0 E0
    go_wp2_with fail
    generalize u1.alloc (.cells #[.int .i64 0, .int .i64 i, .int .i64 p2] 121) = W1 at *
    refine (K2 _).mono ?_
    rintro e u2 ⟨rfl, b2⟩
    have D2 := At.new u2 [.int .i64 3, .int .i64 0, .int .i64 0] 121
    have c2 := bal b2 (.cells #[.int .i64 3, .int .i64 0, .int .i64 0] 121)
    have A2 := A1.on c2
    have Z2 := Z1.on c2
    have B2 := btr B1 c2
    have L2 := L1.on c2
    have E2 := E1.on c2
    have G2 := D1.on c2
    clear b2 c2 A1 Z1 L1 E1 B1 D1
    go_upto_region 3 with fail
    generalize u2.alloc (.cells #[.int .i64 3, .int .i64 0, .int .i64 0] 121) = W2 at *
    have dd0 := G2.cell 0 _ rfl
    have dd1 := G2.cell 1 _ rfl
    have dd2 := G2.cell 2 _ rfl
    have ee0 := D2.cell 0 _ rfl
    have ee1 := D2.cell 1 _ rfl
    have ee2 := D2.cell 2 _ rfl
    have aa0 := A2.cell 0 _ rfl
    have aa1 := A2.cell 1 _ rfl
    have aa2 := A2.cell 2 _ rfl
    have q0 := (Z2).cell 0 _ rfl
    have q1 := (Z2).cell 1 _ rfl
    have q2 := (Z2).cell 2 _ rfl
    have q3 := (Z2).cell 3 _ rfl
    have q4 := (Z2).cell 4 _ rfl
    have q5 := (Z2).cell 5 _ rfl
    have q6 := (Z2).cell 6 _ rfl
    have q7 := (Z2).cell 7 _ rfl
    have q8 := (Z2).cell 8 _ rfl
    have q9 := (Z2).cell 9 _ rfl
    have q10 := (Z2).cell 10 _ rfl
    have z0 := (Z2).free 0 _ rfl
    have z1 := (Z2).free 1 _ rfl
    have z2 := (Z2).free 2 _ rfl
    have z3 := (Z2).free 3 _ rfl
    have z4 := (Z2).free 4 _ rfl
    have z5 := (Z2).free 5 _ rfl
    have z6 := (Z2).free 6 _ rfl
    have z7 := (Z2).free 7 _ rfl
    have z8 := (Z2).free 8 _ rfl
    have z9 := (Z2).free 9 _ rfl
    have z10 := (Z2).free 10 _ rfl
    have HB := Lib.hid (B2)
    clear A2 Z2 B2 L2 E2 G2 D2 F K1 K2 hpi
    go_wp2_with fail
    refine bodyPost_ret (v := .agg #[.int .i64 3, .int .i64 0, .int .i64 0, .int .i64 0, .int .i64 0, .int .i64 0, .int .i64 0, .int .i64 0, .int .i64 0, .int .i64 0, .int .i64 0]) (by simp [results, Tryz.results62, go_sem, q0, q1, q2, q3, q4, q5, q6, q7, q8, q9, q10]) rfl ⟨rfl, ?_⟩
    exact (by (iterate 11 (refine bset ?_ (by dsimp only; omega) _)); exact HB.out)
  rw [keyR_yes hs] at K2
  dsimp only at K2
  have hps := pub_of hs
  cases hr : M.sumB rd
  · rw [ansT_no (show ansB i s rd = false by simp [ansB, hr])]
    generalize M.pubN i = p2 at *
    generalize M.pubN s = p1 at *
    go_enter Tryz.func62, Tryz.ntmps62
    go_wp2_with fail
    generalize (w.alloc (.cells #[.int .i64 r0, .int .i64 s0, .string n] 26)).alloc (.cells #[.int .i64 0, .int .i64 0, .int .i64 0, .int .i64 0, .int .i64 0, .int .i64 0, .int .i64 0, .int .i64 0, .int .i64 0, .int .i64 0, .int .i64 0] 112) = W0 at *
    refine (K1 _).mono ?_
    rintro e u1 ⟨rfl, b1⟩
    have D1 := At.new u1 [.int .i64 0, .int .i64 i, .int .i64 p2] 121
    have c1 := bal b1 (.cells #[.int .i64 0, .int .i64 i, .int .i64 p2] 121)
    have A1 := A0.on c1
    have Z1 := Z0.on c1
    have B1 := btr b0 c1
    have L1 := L0.on c1
    have E1 := E0.on c1
    clear b0 b1 c1 A0 Z0 L0 E0
    go_wp2_with fail
    generalize u1.alloc (.cells #[.int .i64 0, .int .i64 i, .int .i64 p2] 121) = W1 at *
    refine (K2 _).mono ?_
    rintro e u2 ⟨rfl, b2⟩
    have D2 := At.new u2 [.int .i64 0, .int .i64 s, .int .i64 p1] 121
    have c2 := bal b2 (.cells #[.int .i64 0, .int .i64 s, .int .i64 p1] 121)
    have A2 := A1.on c2
    have Z2 := Z1.on c2
    have B2 := btr B1 c2
    have L2 := L1.on c2
    have E2 := E1.on c2
    have G2 := D1.on c2
    clear b2 c2 A1 Z1 L1 E1 B1 D1
    go_upto_region 3 with fail
    generalize u2.alloc (.cells #[.int .i64 0, .int .i64 s, .int .i64 p1] 121) = W2 at *
    have dd0 := G2.cell 0 _ rfl
    have dd1 := G2.cell 1 _ rfl
    have dd2 := G2.cell 2 _ rfl
    have ee0 := D2.cell 0 _ rfl
    have ee1 := D2.cell 1 _ rfl
    have ee2 := D2.cell 2 _ rfl
    have aa0 := A2.cell 0 _ rfl
    have aa1 := A2.cell 1 _ rfl
    have aa2 := A2.cell 2 _ rfl
    go_wp2_with fail
    refine (isSum_any _ _).mono ?_
    rintro r w' ⟨rfl, rfl⟩
    have q0 := (Z2).cell 0 _ rfl
    have q1 := (Z2).cell 1 _ rfl
    have q2 := (Z2).cell 2 _ rfl
    have q3 := (Z2).cell 3 _ rfl
    have q4 := (Z2).cell 4 _ rfl
    have q5 := (Z2).cell 5 _ rfl
    have q6 := (Z2).cell 6 _ rfl
    have q7 := (Z2).cell 7 _ rfl
    have q8 := (Z2).cell 8 _ rfl
    have q9 := (Z2).cell 9 _ rfl
    have q10 := (Z2).cell 10 _ rfl
    have z0 := (Z2).free 0 _ rfl
    have z1 := (Z2).free 1 _ rfl
    have z2 := (Z2).free 2 _ rfl
    have z3 := (Z2).free 3 _ rfl
    have z4 := (Z2).free 4 _ rfl
    have z5 := (Z2).free 5 _ rfl
    have z6 := (Z2).free 6 _ rfl
    have z7 := (Z2).free 7 _ rfl
    have z8 := (Z2).free 8 _ rfl
    have z9 := (Z2).free 9 _ rfl
    have z10 := (Z2).free 10 _ rfl
    have HB := Lib.hid (B2)
    clear A2 Z2 B2 L2 E2 G2 D2 F K1 K2 hpi hps
    go_wp2_with fail
    refine bodyPost_ret (v := .agg #[.int .i64 3, .int .i64 0, .int .i64 0, .int .i64 0, .int .i64 0, .int .i64 0, .int .i64 0, .int .i64 0, .int .i64 0, .int .i64 0, .int .i64 0]) (by simp [results, Tryz.results62, go_sem, q0, q1, q2, q3, q4, q5, q6, q7, q8, q9, q10]) rfl ⟨rfl, ?_⟩
    exact (by (iterate 11 (refine bset ?_ (by dsimp only; omega) _)); exact HB.out)
  have hB : ansB i s rd = true := by simp [ansB, hi, hs, hr]
  by_cases h0 : helF n.data.toList r0 s0 = 0
  · rw [ansT_yes hB h0]
    obtain ⟨-, h0s, -⟩ := helF_zero h0
    have H := fun w L => heardSum_any n r0 s0 rd (M.pubN s) (M.pubN i) 0 0 0 w L h0 hr hps hpi
    have hhe := heardL_sum [packH n r0 s0, frontR rd (M.pubN s) (M.pubN i)]
    have SH := fun w => implSharedOf_any s s0 w
    rw [sharedR_yes hs h0s] at SH
    dsimp only at SH
    have hsh : M.sumB (shN s s0) = true := M.pow_sum _
    unfold ansD ansH heN
    generalize M.heardL [packH n r0 s0, frontR rd (M.pubN s) (M.pubN i)] = he at *
    generalize shN s s0 = sh at *
    have WF := fun w L => walkFrom_any sh he w L hsh hhe
    have V := fun w L => verifySum_any he w L hhe
    have SG := fun w L E => implSignSum_any i (verN he) w L E
    rw [signR_yes hi (verN_sum he)] at SG
    dsimp only at SG
    have hm := masterN_sum sh he
    unfold finN upN downN
    generalize masterN sh he = m at *
    have WN := fun b w L A => walk_fin b m w L A hm
    have Y := fun b w L A => keysBy_any b m he (M.pubN i) w L A hm
    generalize M.tagL M.finishS [m] = f at *
    generalize M.tagL M.upS [m] = u at *
    generalize M.tagL M.downS [m] = d at *
    generalize M.sigPt i (verN he) = x at *
    generalize M.sigPr i (verN he) = y at *
    generalize verN he = vh at *
    rw [h0] at F
    generalize M.pubN i = p2 at *
    generalize M.pubN s = p1 at *
    clear hB h0 h0s hhe hsh hm hpi hps
    go_enter Tryz.func62, Tryz.ntmps62
    go_wp2_with fail
    generalize (w.alloc (.cells #[.int .i64 r0, .int .i64 s0, .string n] 26)).alloc (.cells #[.int .i64 0, .int .i64 0, .int .i64 0, .int .i64 0, .int .i64 0, .int .i64 0, .int .i64 0, .int .i64 0, .int .i64 0, .int .i64 0, .int .i64 0] 112) = W0 at *
    refine (K1 _).mono ?_
    rintro e u1 ⟨rfl, b1⟩
    have D1 := At.new u1 [.int .i64 0, .int .i64 i, .int .i64 p2] 121
    have c1 := bal b1 (.cells #[.int .i64 0, .int .i64 i, .int .i64 p2] 121)
    have A1 := A0.on c1
    have Z1 := Z0.on c1
    have B1 := btr b0 c1
    have L1 := L0.on c1
    have E1 := E0.on c1
    clear b0 b1 c1 A0 Z0 L0 E0
    go_wp2_with fail
    generalize u1.alloc (.cells #[.int .i64 0, .int .i64 i, .int .i64 p2] 121) = W1 at *
    refine (K2 _).mono ?_
    rintro e u2 ⟨rfl, b2⟩
    have D2 := At.new u2 [.int .i64 0, .int .i64 s, .int .i64 p1] 121
    have c2 := bal b2 (.cells #[.int .i64 0, .int .i64 s, .int .i64 p1] 121)
    have A2 := A1.on c2
    have Z2 := Z1.on c2
    have B2 := btr B1 c2
    have L2 := L1.on c2
    have E2 := E1.on c2
    have G2 := D1.on c2
    clear b2 c2 A1 Z1 L1 E1 B1 D1
    go_upto_region 3 with fail
    generalize u2.alloc (.cells #[.int .i64 0, .int .i64 s, .int .i64 p1] 121) = W2 at *
    have dd0 := G2.cell 0 _ rfl
    have dd1 := G2.cell 1 _ rfl
    have dd2 := G2.cell 2 _ rfl
    have ee0 := D2.cell 0 _ rfl
    have ee1 := D2.cell 1 _ rfl
    have ee2 := D2.cell 2 _ rfl
    have aa0 := A2.cell 0 _ rfl
    have aa1 := A2.cell 1 _ rfl
    have aa2 := A2.cell 2 _ rfl
    go_wp2_with fail
    refine (isSum_any _ _).mono ?_
    rintro r w' ⟨rfl, rfl⟩
    go_wp2_with fail
    refine (F _).mono ?_
    rintro e u3 ⟨rfl, b3⟩
    have A3 := A2.on b3
    have Z3 := Z2.on b3
    have B3 := btr B2 b3
    have L3 := L2.on b3
    have E3 := E2.on b3
    have G3 := G2.on b3
    have D3 := D2.on b3
    clear b3 A2 Z2 B2 L2 E2 G2 D2 dd0 dd1 dd2 ee0 ee1 ee2 aa0 aa1 aa2
    have ee0 := D3.cell 0 _ rfl
    have ee1 := D3.cell 1 _ rfl
    have ee2 := D3.cell 2 _ rfl
    have dd0 := G3.cell 0 _ rfl
    have dd1 := G3.cell 1 _ rfl
    have dd2 := G3.cell 2 _ rfl
    have ltz : w.heap.size + 1 < u3.heap.size := Z3.lt (by simp)
    have X4 := At.new u3 [.int .i64 rd, .int .i64 p1, .int .i64 p2, .int .i64 0, .int .i64 0, .int .i64 0] 33
    have b4 := bal (Below.refl _ u3) (.cells #[.int .i64 rd, .int .i64 p1, .int .i64 p2, .int .i64 0, .int .i64 0, .int .i64 0] 33)
    have A4 := A3.on b4
    have Z4 := Z3.on b4
    have B4 := btr B3 b4
    have L4 := L3.on b4
    have E4 := E3.on b4
    clear b4 A3 Z3 B3 L3 E3 G3 D3
    go_upto_region 9 with fail
    generalize u3.alloc (.cells #[.int .i64 rd, .int .i64 p1, .int .i64 p2, .int .i64 0, .int .i64 0, .int .i64 0] 33) = W4 at *
    have kk0 := X4.cell 0 _ rfl
    have kk1 := X4.cell 1 _ rfl
    have kk2 := X4.cell 2 _ rfl
    have kk3 := X4.cell 3 _ rfl
    have kk4 := X4.cell 4 _ rfl
    have kk5 := X4.cell 5 _ rfl
    have aa0 := A4.cell 0 _ rfl
    have aa1 := A4.cell 1 _ rfl
    have aa2 := A4.cell 2 _ rfl
    clear dd0 dd1 dd2 ee0 ee1 ee2 K1 K2 F
    go_wp2_with fail
    refine (H _ L4).mono ?_
    rintro e u5 ⟨rfl, b5⟩
    have A5 := A4.on b5
    have X5 := X4.on b5
    have Z5 := Z4.on b5
    have B5 := btr B4 b5
    have L5 := L4.on b5
    have E5 := E4.on b5
    clear b5 A4 X4 Z4 B4 L4 E4 H kk0 kk1 kk2 kk3 kk4 kk5 aa0 aa1 aa2
    have aa0 := A5.cell 0 _ rfl
    have aa1 := A5.cell 1 _ rfl
    have aa2 := A5.cell 2 _ rfl
    go_wp2_with fail
    refine (SH _).mono ?_
    rintro e u6 ⟨rfl, b6⟩
    go_wp2_with fail
    refine (WF _ (L5.on b6)).mono ?_
    rintro e u7 ⟨wb, rfl, Y7, b7, hwb⟩
    have hx5 := (X5.on b6).lt (by simp)
    have ltw : u3.heap.size < wb := by omega
    have b67 := btr b6 b7
    have X7 := X5.on b67
    have Z7 := Z5.on b67
    have B7 := btr B5 b67
    have L7 := L5.on b67
    have E7 := E5.on b67
    clear b6 b7 b67 A5 X5 Z5 B5 L5 E5 SH WF aa0 aa1 aa2
    go_wp2_with fail
    refine (V _ L7).mono ?_
    rintro e u8 ⟨rfl, b8⟩
    go_wp2_with fail
    refine (SG _ (L7.on b8) (E7.on b8)).mono ?_
    rintro e u9 ⟨rfl, b9⟩
    have b89 := btr b8 b9
    have X9 := X7.on b89
    have Z9 := Z7.on b89
    have B9 := btr B7 b89
    have L9 := L7.on b89
    have Y9 := Y7.on b89
    have kk0 := X9.cell 0 _ rfl
    have kk1 := X9.cell 1 _ rfl
    have kk2 := X9.cell 2 _ rfl
    have kk3 := X9.cell 3 _ rfl
    have kk4 := X9.cell 4 _ rfl
    have kk5 := X9.cell 5 _ rfl
    have ff0 := X9.free 0 _ rfl
    have ff1 := X9.free 1 _ rfl
    have ff2 := X9.free 2 _ rfl
    have ff3 := X9.free 3 _ rfl
    have ff4 := X9.free 4 _ rfl
    have ff5 := X9.free 5 _ rfl
    have X10 : At u3.heap.size [.int .i64 rd, .int .i64 p1, .int .i64 p2, .int .i64 x, .int .i64 y, .int .i64 0] ((u9.setCell ⟨u3.heap.size, 3, none⟩ (.int .i64 x)).setCell ⟨u3.heap.size, 4, none⟩ (.int .i64 y)) := (X9.set 3 (.int .i64 x)).set 4 (.int .i64 y)
    have Z10 := (Z9.setB (p := ⟨u3.heap.size, 3, none⟩) (by dsimp only; omega) (.int .i64 x)).setB (p := ⟨u3.heap.size, 4, none⟩) (by dsimp only; omega) (.int .i64 y)
    have Y10 := (Y9.setB (p := ⟨u3.heap.size, 3, none⟩) (by dsimp only; omega) (.int .i64 x)).setB (p := ⟨u3.heap.size, 4, none⟩) (by dsimp only; omega) (.int .i64 y)
    have B10 := bset (bset B9 (p := ⟨u3.heap.size, 3, none⟩) (by dsimp only; omega) (.int .i64 x)) (p := ⟨u3.heap.size, 4, none⟩) (by dsimp only; omega) (.int .i64 y)
    have L10 := (L9.setB (p := ⟨u3.heap.size, 3, none⟩) (by dsimp only; omega) (.int .i64 x)).setB (p := ⟨u3.heap.size, 4, none⟩) (by dsimp only; omega) (.int .i64 y)
    clear b8 b9 b89 X7 Z7 B7 L7 E7 Y7 X9 Z9 B9 Y9 L9 V SG
    go_wp2_with fail
    generalize (u9.setCell ⟨u3.heap.size, 3, none⟩ (.int .i64 x)).setCell ⟨u3.heap.size, 4, none⟩ (.int .i64 y) = W10 at *
    clear kk0 kk1 kk2 kk3 kk4 kk5 ff0 ff1 ff2 ff3 ff4 ff5
    refine (WN _ _ L10 Y10).mono ?_
    rintro e u11 ⟨rfl, b11⟩
    have X11 := X10.on b11
    have Z11 := Z10.on b11
    have B11 := btr B10 b11
    have L11 := L10.on b11
    have Y11 := Y10.on b11
    have kk0 := X11.cell 0 _ rfl
    have kk1 := X11.cell 1 _ rfl
    have kk2 := X11.cell 2 _ rfl
    have kk3 := X11.cell 3 _ rfl
    have kk4 := X11.cell 4 _ rfl
    have kk5 := X11.cell 5 _ rfl
    have ff0 := X11.free 0 _ rfl
    have ff1 := X11.free 1 _ rfl
    have ff2 := X11.free 2 _ rfl
    have ff3 := X11.free 3 _ rfl
    have ff4 := X11.free 4 _ rfl
    have ff5 := X11.free 5 _ rfl
    have XX : At u3.heap.size [.int .i64 rd, .int .i64 p1, .int .i64 p2, .int .i64 x, .int .i64 y, .int .i64 f] (u11.setCell ⟨u3.heap.size, 5, none⟩ (.int .i64 f)) := X11.set 5 (.int .i64 f)
    have Z12 := Z11.setB (p := ⟨u3.heap.size, 5, none⟩) (by dsimp only; omega) (.int .i64 f)
    have Y12 := Y11.setB (p := ⟨u3.heap.size, 5, none⟩) (by dsimp only; omega) (.int .i64 f)
    have B12 := bset B11 (p := ⟨u3.heap.size, 5, none⟩) (by dsimp only; omega) (.int .i64 f)
    have L12 := L11.setB (p := ⟨u3.heap.size, 5, none⟩) (by dsimp only; omega) (.int .i64 f)
    clear b11 X10 X11 Z10 Z11 B10 B11 L10 L11 Y10 Y11 WN
    go_wp2_with fail
    generalize u11.setCell ⟨u3.heap.size, 5, none⟩ (.int .i64 f) = W12 at *
    have S0 : Hold w (u3.heap.size) [.int .i64 rd, .int .i64 p1, .int .i64 p2, .int .i64 x, .int .i64 y, .int .i64 f] W12.drew := ⟨B12.drew, XX.on (bdrew _)⟩
    have ZZ := Z12.on (bdrew W12)
    have LL := L12.on (bdrew W12)
    have YY := Y12.on (bdrew W12)
    clear L12 Y12
    refine wp_region_line (Hold w (u3.heap.size) [.int .i64 rd, .int .i64 p1, .int .i64 p2, .int .i64 x, .int .i64 y, .int .i64 f]) [(0, true), (1, true), (2, true), (3, true), (4, true), (5, false), (6, true), (7, false)] (by kernel_rfl) (by kernel_rfl) (fun _ _ d _ _ h => by cases d <;> exact h) S0 ?_
    have hst := S0
    have inst : Nonempty (Of (Hold w (u3.heap.size) [.int .i64 rd, .int .i64 p1, .int .i64 p2, .int .i64 x, .int .i64 y, .int .i64 f])) := ⟨⟨_, hst⟩⟩
    have qh0 := hold_cell (W := w) (g := u3.heap.size) (cs := [.int .i64 rd, .int .i64 p1, .int .i64 p2, .int .i64 x, .int .i64 y, .int .i64 f]) 0 _ rfl
    have qh1 := hold_cell (W := w) (g := u3.heap.size) (cs := [.int .i64 rd, .int .i64 p1, .int .i64 p2, .int .i64 x, .int .i64 y, .int .i64 f]) 1 _ rfl
    have qh2 := hold_cell (W := w) (g := u3.heap.size) (cs := [.int .i64 rd, .int .i64 p1, .int .i64 p2, .int .i64 x, .int .i64 y, .int .i64 f]) 2 _ rfl
    have qh3 := hold_cell (W := w) (g := u3.heap.size) (cs := [.int .i64 rd, .int .i64 p1, .int .i64 p2, .int .i64 x, .int .i64 y, .int .i64 f]) 3 _ rfl
    have qh4 := hold_cell (W := w) (g := u3.heap.size) (cs := [.int .i64 rd, .int .i64 p1, .int .i64 p2, .int .i64 x, .int .i64 y, .int .i64 f]) 4 _ rfl
    have qh5 := hold_cell (W := w) (g := u3.heap.size) (cs := [.int .i64 rd, .int .i64 p1, .int .i64 p2, .int .i64 x, .int .i64 y, .int .i64 f]) 5 _ rfl
    clear S0 XX Z12 B12 kk0 kk1 kk2 kk3 kk4 kk5 ff0 ff1 ff2 ff3 ff4 ff5
    generalize W12.drew = V1 at *
    iterate 5 (refine line_read rfl (by kernel_rfl) (fun K hK => ?_); go_big_quiet_op; refine hK _ ?_; clear hK K)
    refine line_alone rfl (by kernel_rfl) (fun K hK => ?_)
    refine call_any (args := #[walkV wb, .int .i64 he, .int .i64 p2]) rfl (by kernel_rfl) (by kernel_rfl) (Y _ _ LL YY) ?_
    rintro e wn ⟨rfl, hbn⟩
    have hst2 := hst.on hbn
    have Z2 := ZZ.on hbn
    refine ⟨_, rfl, hK _ _ hst2 ?_⟩
    clear hK K hst hbn ZZ
    simp only [Act.put, List.setIfInBounds_toArray, List.set_cons_zero, List.set_cons_succ]
    refine line_readv (v := .agg #[.int .i64 0, .int .i64 rd, .int .i64 p1, .int .i64 p2, .int .i64 x, .int .i64 y, .int .i64 f, .int .i64 u, .int .i64 d, .int .i64 he, .int .i64 p2]) rfl (by kernel_rfl) (fun _ => by kernel_rfl) ?_
    simp only [Act.put, List.setIfInBounds_toArray, List.set_cons_zero, List.set_cons_succ]
    have zz0 := Z2.cell 0 _ rfl
    have zz1 := Z2.cell 1 _ rfl
    have zz2 := Z2.cell 2 _ rfl
    have zz3 := Z2.cell 3 _ rfl
    have zz4 := Z2.cell 4 _ rfl
    have zz5 := Z2.cell 5 _ rfl
    have zz6 := Z2.cell 6 _ rfl
    have zz7 := Z2.cell 7 _ rfl
    have zz8 := Z2.cell 8 _ rfl
    have zz9 := Z2.cell 9 _ rfl
    have zz10 := Z2.cell 10 _ rfl
    have hh0 := Z2.free 0 _ rfl
    have hh1 := Z2.free 1 _ rfl
    have hh2 := Z2.free 2 _ rfl
    have hh3 := Z2.free 3 _ rfl
    have hh4 := Z2.free 4 _ rfl
    have hh5 := Z2.free 5 _ rfl
    have hh6 := Z2.free 6 _ rfl
    have hh7 := Z2.free 7 _ rfl
    have hh8 := Z2.free 8 _ rfl
    have hh9 := Z2.free 9 _ rfl
    have hh10 := Z2.free 10 _ rfl
    have S9 : Hold w (u3.heap.size) [.int .i64 rd, .int .i64 p1, .int .i64 p2, .int .i64 x, .int .i64 y, .int .i64 f] (((((((((((wn.setCell ⟨w.heap.size + 1, 0, none⟩ (.int .i64 0)).setCell ⟨w.heap.size + 1, 1, none⟩ (.int .i64 rd)).setCell ⟨w.heap.size + 1, 2, none⟩ (.int .i64 p1)).setCell ⟨w.heap.size + 1, 3, none⟩ (.int .i64 p2)).setCell ⟨w.heap.size + 1, 4, none⟩ (.int .i64 x)).setCell ⟨w.heap.size + 1, 5, none⟩ (.int .i64 y)).setCell ⟨w.heap.size + 1, 6, none⟩ (.int .i64 f)).setCell ⟨w.heap.size + 1, 7, none⟩ (.int .i64 u)).setCell ⟨w.heap.size + 1, 8, none⟩ (.int .i64 d)).setCell ⟨w.heap.size + 1, 9, none⟩ (.int .i64 he)).setCell ⟨w.heap.size + 1, 10, none⟩ (.int .i64 p2)) := by
      iterate 11 (refine Hold.setB ?_ (by dsimp only; omega) (by dsimp only; omega) _)
      exact hst2
    have HB9 := Lib.hid S9.bel
    clear hst2
    refine line_alone rfl (by kernel_rfl) (fun K hK => ?_)
    go_big_op
    refine hK _ _ (S9) ?_
    clear hK K
    refine line_nil ?_
    clear inst qh0 qh1 qh2 qh3 qh4 qh5 Z2 S9
    go_wp2_with fail
    exact bodyPost_ret (v := .agg #[.int .i64 0, .int .i64 rd, .int .i64 p1, .int .i64 p2, .int .i64 x, .int .i64 y, .int .i64 f, .int .i64 u, .int .i64 d, .int .i64 he, .int .i64 p2]) (by simp [results, Tryz.results62, go_sem, zz0, zz1, zz2, zz3, zz4, zz5, zz6, zz7, zz8, zz9, zz10]) rfl ⟨rfl, HB9.out⟩
  · rw [ansT_hel hB h0]
    have e3 : (helF n.data.toList r0 s0 != 0) = true := by simpa using h0
    generalize helF n.data.toList r0 s0 = c at *
    generalize M.pubN i = p2 at *
    generalize M.pubN s = p1 at *
    clear hB hpi hps
    go_enter Tryz.func62, Tryz.ntmps62
    go_wp2_with fail
    generalize (w.alloc (.cells #[.int .i64 r0, .int .i64 s0, .string n] 26)).alloc (.cells #[.int .i64 0, .int .i64 0, .int .i64 0, .int .i64 0, .int .i64 0, .int .i64 0, .int .i64 0, .int .i64 0, .int .i64 0, .int .i64 0, .int .i64 0] 112) = W0 at *
    refine (K1 _).mono ?_
    rintro e u1 ⟨rfl, b1⟩
    have D1 := At.new u1 [.int .i64 0, .int .i64 i, .int .i64 p2] 121
    have c1 := bal b1 (.cells #[.int .i64 0, .int .i64 i, .int .i64 p2] 121)
    have A1 := A0.on c1
    have Z1 := Z0.on c1
    have B1 := btr b0 c1
    have L1 := L0.on c1
    have E1 := E0.on c1
    clear b0 b1 c1 A0 Z0 L0 E0
    go_wp2_with fail
    generalize u1.alloc (.cells #[.int .i64 0, .int .i64 i, .int .i64 p2] 121) = W1 at *
    refine (K2 _).mono ?_
    rintro e u2 ⟨rfl, b2⟩
    have D2 := At.new u2 [.int .i64 0, .int .i64 s, .int .i64 p1] 121
    have c2 := bal b2 (.cells #[.int .i64 0, .int .i64 s, .int .i64 p1] 121)
    have A2 := A1.on c2
    have Z2 := Z1.on c2
    have B2 := btr B1 c2
    have L2 := L1.on c2
    have E2 := E1.on c2
    have G2 := D1.on c2
    clear b2 c2 A1 Z1 L1 E1 B1 D1
    go_upto_region 3 with fail
    generalize u2.alloc (.cells #[.int .i64 0, .int .i64 s, .int .i64 p1] 121) = W2 at *
    have dd0 := G2.cell 0 _ rfl
    have dd1 := G2.cell 1 _ rfl
    have dd2 := G2.cell 2 _ rfl
    have ee0 := D2.cell 0 _ rfl
    have ee1 := D2.cell 1 _ rfl
    have ee2 := D2.cell 2 _ rfl
    have aa0 := A2.cell 0 _ rfl
    have aa1 := A2.cell 1 _ rfl
    have aa2 := A2.cell 2 _ rfl
    go_wp2_with fail
    refine (isSum_any _ _).mono ?_
    rintro r w' ⟨rfl, rfl⟩
    go_wp2_with fail
    refine (F _).mono ?_
    rintro e u3 ⟨rfl, b3⟩
    have A3 := A2.on b3
    have Z3 := Z2.on b3
    have B3 := btr B2 b3
    have L3 := L2.on b3
    have E3 := E2.on b3
    have G3 := G2.on b3
    have D3 := D2.on b3
    clear b3 A2 Z2 B2 L2 E2 G2 D2 dd0 dd1 dd2 ee0 ee1 ee2 aa0 aa1 aa2
    have q0 := (Z3).cell 0 _ rfl
    have q1 := (Z3).cell 1 _ rfl
    have q2 := (Z3).cell 2 _ rfl
    have q3 := (Z3).cell 3 _ rfl
    have q4 := (Z3).cell 4 _ rfl
    have q5 := (Z3).cell 5 _ rfl
    have q6 := (Z3).cell 6 _ rfl
    have q7 := (Z3).cell 7 _ rfl
    have q8 := (Z3).cell 8 _ rfl
    have q9 := (Z3).cell 9 _ rfl
    have q10 := (Z3).cell 10 _ rfl
    have z0 := (Z3).free 0 _ rfl
    have z1 := (Z3).free 1 _ rfl
    have z2 := (Z3).free 2 _ rfl
    have z3 := (Z3).free 3 _ rfl
    have z4 := (Z3).free 4 _ rfl
    have z5 := (Z3).free 5 _ rfl
    have z6 := (Z3).free 6 _ rfl
    have z7 := (Z3).free 7 _ rfl
    have z8 := (Z3).free 8 _ rfl
    have z9 := (Z3).free 9 _ rfl
    have z10 := (Z3).free 10 _ rfl
    have HB := Lib.hid (B3)
    clear A3 Z3 B3 L3 E3 G3 D3 F K1 K2
    go_wp2_with fail
    refine bodyPost_ret (v := .agg #[.int .i64 c, .int .i64 0, .int .i64 0, .int .i64 0, .int .i64 0, .int .i64 0, .int .i64 0, .int .i64 0, .int .i64 0, .int .i64 0, .int .i64 0]) (by simp [results, Tryz.results62, go_sem, q0, q1, q2, q3, q4, q5, q6, q7, q8, q9, q10]) rfl ⟨rfl, ?_⟩
    exact (by (iterate 11 (refine bset ?_ (by dsimp only; omega) _)); exact HB.out)
set_option maxHeartbeats 2000000 in
theorem implTakeReply_any (k r0 s0 : Int) (n : ByteArray) (r s p x y f : Int) (w : World) (lab : Labels w) (ert : ErrT w) (hn : n.size ≤ maxLen) :
    Calls Tryz.prog 67 #[H4 k r0 s0 n, R6 r s p x y f] w fun e w' => e = .returned (T11 (takT k r0 s0 n r s p x y f)) ∧ Below w.heap.size w w' := by
  have f1 := fld1
  have b0 := bal (bal (bal (Below.refl _ w) (.cells #[.int .i64 k, .int .i64 r0, .int .i64 s0, .string n] 103)) (.cells #[.int .i64 r, .int .i64 s, .int .i64 p, .int .i64 x, .int .i64 y, .int .i64 f] 33)) (.cells #[.int .i64 0, .int .i64 0, .int .i64 0, .int .i64 0, .int .i64 0, .int .i64 0, .int .i64 0, .int .i64 0, .int .i64 0, .int .i64 0, .int .i64 0] 112)
  have A0 := ((At.new w (HL4 k r0 s0 n) 103).alloc (.cells #[.int .i64 r, .int .i64 s, .int .i64 p, .int .i64 x, .int .i64 y, .int .i64 f] 33)).alloc (.cells #[.int .i64 0, .int .i64 0, .int .i64 0, .int .i64 0, .int .i64 0, .int .i64 0, .int .i64 0, .int .i64 0, .int .i64 0, .int .i64 0, .int .i64 0] 112)
  have C0 := (At.new (w.alloc (.cells #[.int .i64 k, .int .i64 r0, .int .i64 s0, .string n] 103)) (RL6 r s p x y f) 33).alloc (.cells #[.int .i64 0, .int .i64 0, .int .i64 0, .int .i64 0, .int .i64 0, .int .i64 0, .int .i64 0, .int .i64 0, .int .i64 0, .int .i64 0, .int .i64 0] 112)
  have Z0 := At.new ((w.alloc (.cells #[.int .i64 k, .int .i64 r0, .int .i64 s0, .string n] 103)).alloc (.cells #[.int .i64 r, .int .i64 s, .int .i64 p, .int .i64 x, .int .i64 y, .int .i64 f] 33)) [.int .i64 0, .int .i64 0, .int .i64 0, .int .i64 0, .int .i64 0, .int .i64 0, .int .i64 0, .int .i64 0, .int .i64 0, .int .i64 0, .int .i64 0] 112
  simp only [World.size_alloc] at A0 C0 Z0
  have L0 := lab.on b0
  have E0 := ert.on b0
  have F1 := fun w => implClientFault_any k r0 s0 n w hn
  have F2 := fun w E => implReplyFault_any r s p x y f w E
  clear lab ert
  by_cases h1 : cliF k r0 s0 n = 0
  · by_cases h2 : repF r s p x y f = 0
    · obtain ⟨c1, c2, -⟩ := cliF_zero h1
      obtain ⟨q1, q2, q3, -, -⟩ := repF_zero h2
      rw [h1] at F1
      rw [h2] at F2
      have H := fun w L => heardSum_any n r0 s0 r s p x y f w L c2 q1 q2 q3
      have hhe : M.sumB (heN n r0 s0 r s p) = true := heardL_sum _
      have SH := fun w => implSharedOf_any k s w
      rw [sharedR_yes c1 q2] at SH
      dsimp only at SH
      have hsh : M.sumB (shN k s) = true := M.pow_sum _
      rw [show M.heardL [packH n r0 s0, frontR r s p] = heN n r0 s0 r s p from rfl] at H
      have T0 := takC_sign (x := x) (y := y) (f := f) h1 h2
      have T1 := takC_fin (x := x) (y := y) (f := f) h1 h2
      have T2 := takC_yes (x := x) (y := y) (f := f) h1 h2
      have T3 := takT_no (k := k) (r0 := r0) (s0 := s0) (n := n) (r := r) (s := s) (p := p) (x := x) (y := y) (f := f)
      have T4 := takT_yes (k := k) (r0 := r0) (s0 := s0) (n := n) (r := r) (s := s) (p := p) (x := x) (y := y) (f := f)
      unfold takK at T4
      generalize takT k r0 s0 n r s p x y f = tt at *
      generalize takC k r0 s0 n r s p x y f = tc at *
      generalize heN n r0 s0 r s p = he at *
      generalize shN k s = sh at *
      have V := fun w L => verifySum_any he w L hhe
      have G := fun w L => implCheckSign_any p (verN he) x y w L
      have WF := fun w L => walkFrom_any sh he w L hsh hhe
      have hm := masterN_sum sh he
      unfold finN at T1 T2
      unfold upN downN at T4
      generalize masterN sh he = m at *
      have WN := fun b w L A => walk_fin b m w L A hm
      have Y := fun b w L A => keysBy_any b m he p w L A hm
      generalize M.tagL M.finishS [m] = fv at *
      generalize M.tagL M.upS [m] = u at *
      generalize M.tagL M.downS [m] = d at *
      generalize hck : M.checkB p (verN he) x y = ck at *
      generalize verN he = vh at *
      clear c1 c2 q1 q2 q3 hhe hsh hm hck h1 h2
      cases ck
      · have e0 := T0 rfl
        have e1 := T3 (by rw [e0]; omega)
        rw [e1, e0]
        clear T0 T1 T2 T3 T4 e0 e1
        go_enter Tryz.func67, Tryz.ntmps67
        go_wp2_with fail
        generalize ((w.alloc (.cells #[.int .i64 k, .int .i64 r0, .int .i64 s0, .string n] 103)).alloc (.cells #[.int .i64 r, .int .i64 s, .int .i64 p, .int .i64 x, .int .i64 y, .int .i64 f] 33)).alloc (.cells #[.int .i64 0, .int .i64 0, .int .i64 0, .int .i64 0, .int .i64 0, .int .i64 0, .int .i64 0, .int .i64 0, .int .i64 0, .int .i64 0, .int .i64 0] 112) = W0 at *
        refine (F1 _).mono ?_
        rintro e u1 ⟨rfl, b1⟩
        have A1 := A0.on b1
        have C1 := C0.on b1
        have Z1 := Z0.on b1
        have B1 := btr b0 b1
        have L1 := L0.on b1
        have E1 := E0.on b1
        have cc0 := C1.cell 0 _ rfl
        have cc1 := C1.cell 1 _ rfl
        have cc2 := C1.cell 2 _ rfl
        have cc3 := C1.cell 3 _ rfl
        have cc4 := C1.cell 4 _ rfl
        have cc5 := C1.cell 5 _ rfl
        clear b0 b1 A0 C0 Z0 L0 E0 F1
        go_wp2_with fail
        refine (F2 _ E1).mono ?_
        rintro e u2 ⟨rfl, b2⟩
        have A2 := A1.on b2
        have C2 := C1.on b2
        have Z2 := Z1.on b2
        have B2 := btr B1 b2
        have L2 := L1.on b2
        clear b2 A1 C1 Z1 B1 L1 E1 F2 cc0 cc1 cc2 cc3 cc4 cc5
        have aa0 := A2.cell 0 _ rfl
        have aa1 := A2.cell 1 _ rfl
        have aa2 := A2.cell 2 _ rfl
        have aa3 := A2.cell 3 _ rfl
        have cc0 := C2.cell 0 _ rfl
        have cc1 := C2.cell 1 _ rfl
        have cc2 := C2.cell 2 _ rfl
        have cc3 := C2.cell 3 _ rfl
        have cc4 := C2.cell 4 _ rfl
        have cc5 := C2.cell 5 _ rfl
        go_wp2_with fail
        refine (H _ L2).mono ?_
        rintro e u3 ⟨rfl, b3⟩
        have A3 := A2.on b3
        have C3 := C2.on b3
        have Z3 := Z2.on b3
        have B3 := btr B2 b3
        have L3 := L2.on b3
        clear b3 A2 C2 Z2 B2 L2 H aa0 aa1 aa2 aa3 cc0 cc1 cc2 cc3 cc4 cc5
        have cc0 := C3.cell 0 _ rfl
        have cc1 := C3.cell 1 _ rfl
        have cc2 := C3.cell 2 _ rfl
        have cc3 := C3.cell 3 _ rfl
        have cc4 := C3.cell 4 _ rfl
        have cc5 := C3.cell 5 _ rfl
        go_wp2_with fail
        refine wp_region_line (Bel u3) [(0, true), (1, true), (2, true), (4, true), (5, true), (3, false), (6, false), (7, true)] (by kernel_rfl) (by kernel_rfl) (fun _ _ d _ _ h => by cases d <;> exact h) (Bel.drew u3) ?_
        have hst := Bel.drew u3
        have inst : Nonempty (Of (Bel u3)) := ⟨⟨_, hst⟩⟩
        have qc2 := bel_cell cc2
        have qc3 := bel_cell cc3
        have qc4 := bel_cell cc4
        have A4 := A3.on (bdrew u3)
        have C4 := C3.on (bdrew u3)
        have Z4 := Z3.on (bdrew u3)
        have B4 := btr B3 (bdrew u3)
        have L4 := L3.on (bdrew u3)
        clear A3 C3 Z3 B3 L3 cc0 cc1 cc2 cc3 cc4 cc5
        generalize u3.drew = V0 at *
        iterate 5 (refine line_read rfl (by kernel_rfl) (fun K hK => ?_); go_big_quiet_op; refine hK _ ?_; clear hK K)
        refine line_alone rfl (by kernel_rfl) (fun K hK => ?_)
        refine call_any (args := #[.int .i64 he]) rfl (by kernel_rfl) (by kernel_rfl) (V _ L4) ?_
        rintro e u4 ⟨rfl, be⟩
        have hst2 := hst.on be
        have A5 := A4.on be
        have C5 := C4.on be
        have Z5 := Z4.on be
        have B5 := btr B4 be
        have L5 := L4.on be
        refine ⟨_, rfl, hK _ _ hst2 ?_⟩
        clear hK K hst be A4 C4 Z4 B4 L4 V
        simp only [Act.put, List.setIfInBounds_toArray, List.set_cons_zero, List.set_cons_succ]
        refine line_alone rfl (by kernel_rfl) (fun K hK => ?_)
        refine call_any (args := #[.int .i64 p, .int .i64 vh, I2 x y]) rfl (by kernel_rfl) (by kernel_rfl) (G _ L5) ?_
        rintro e u5 ⟨rfl, be⟩
        have hst3 := hst2.on be
        have A6 := A5.on be
        have C6 := C5.on be
        have Z6 := Z5.on be
        have B6 := btr B5 be
        have L6 := L5.on be
        refine ⟨_, rfl, hK _ _ hst3 ?_⟩
        clear hK K hst2 be A5 C5 Z5 B5 L5 G
        simp only [Act.put, List.setIfInBounds_toArray, List.set_cons_zero, List.set_cons_succ]
        iterate 1 (refine line_read rfl (by kernel_rfl) (fun K hK => ?_); go_big_quiet_op; refine hK _ ?_; clear hK K)
        refine line_nil ?_
        clear hst3 inst
        have q0 := (Z6).cell 0 _ rfl
        have q1 := (Z6).cell 1 _ rfl
        have q2 := (Z6).cell 2 _ rfl
        have q3 := (Z6).cell 3 _ rfl
        have q4 := (Z6).cell 4 _ rfl
        have q5 := (Z6).cell 5 _ rfl
        have q6 := (Z6).cell 6 _ rfl
        have q7 := (Z6).cell 7 _ rfl
        have q8 := (Z6).cell 8 _ rfl
        have q9 := (Z6).cell 9 _ rfl
        have q10 := (Z6).cell 10 _ rfl
        have z0 := (Z6).free 0 _ rfl
        have z1 := (Z6).free 1 _ rfl
        have z2 := (Z6).free 2 _ rfl
        have z3 := (Z6).free 3 _ rfl
        have z4 := (Z6).free 4 _ rfl
        have z5 := (Z6).free 5 _ rfl
        have z6 := (Z6).free 6 _ rfl
        have z7 := (Z6).free 7 _ rfl
        have z8 := (Z6).free 8 _ rfl
        have z9 := (Z6).free 9 _ rfl
        have z10 := (Z6).free 10 _ rfl
        have HB := Lib.hid (B6)
        clear A6 C6 Z6 B6 L6 SH WF WN Y
        go_wp2_with fail
        refine bodyPost_ret (v := .agg #[.int .i64 9, .int .i64 0, .int .i64 0, .int .i64 0, .int .i64 0, .int .i64 0, .int .i64 0, .int .i64 0, .int .i64 0, .int .i64 0, .int .i64 0]) (by simp [results, Tryz.results67, go_sem, q0, q1, q2, q3, q4, q5, q6, q7, q8, q9, q10]) rfl ⟨rfl, ?_⟩
        exact (by (iterate 11 (refine bset ?_ (by dsimp only; omega) _)); exact HB.out)
      by_cases h4 : f = fv
      · have e0 := T2 rfl h4
        rw [T4 e0]
        have e3 : (f != fv) = false := by simpa using h4
        have e4 : decide (f = fv) = true := by simpa using h4
        have e5 : (f == fv) = true := by simpa using h4
        clear T0 T1 T2 T3 T4 e0 h4
        go_enter Tryz.func67, Tryz.ntmps67
        go_wp2_with fail
        generalize ((w.alloc (.cells #[.int .i64 k, .int .i64 r0, .int .i64 s0, .string n] 103)).alloc (.cells #[.int .i64 r, .int .i64 s, .int .i64 p, .int .i64 x, .int .i64 y, .int .i64 f] 33)).alloc (.cells #[.int .i64 0, .int .i64 0, .int .i64 0, .int .i64 0, .int .i64 0, .int .i64 0, .int .i64 0, .int .i64 0, .int .i64 0, .int .i64 0, .int .i64 0] 112) = W0 at *
        refine (F1 _).mono ?_
        rintro e u1 ⟨rfl, b1⟩
        have A1 := A0.on b1
        have C1 := C0.on b1
        have Z1 := Z0.on b1
        have B1 := btr b0 b1
        have L1 := L0.on b1
        have E1 := E0.on b1
        have cc0 := C1.cell 0 _ rfl
        have cc1 := C1.cell 1 _ rfl
        have cc2 := C1.cell 2 _ rfl
        have cc3 := C1.cell 3 _ rfl
        have cc4 := C1.cell 4 _ rfl
        have cc5 := C1.cell 5 _ rfl
        clear b0 b1 A0 C0 Z0 L0 E0 F1
        go_wp2_with fail
        refine (F2 _ E1).mono ?_
        rintro e u2 ⟨rfl, b2⟩
        have A2 := A1.on b2
        have C2 := C1.on b2
        have Z2 := Z1.on b2
        have B2 := btr B1 b2
        have L2 := L1.on b2
        clear b2 A1 C1 Z1 B1 L1 E1 F2 cc0 cc1 cc2 cc3 cc4 cc5
        have aa0 := A2.cell 0 _ rfl
        have aa1 := A2.cell 1 _ rfl
        have aa2 := A2.cell 2 _ rfl
        have aa3 := A2.cell 3 _ rfl
        have cc0 := C2.cell 0 _ rfl
        have cc1 := C2.cell 1 _ rfl
        have cc2 := C2.cell 2 _ rfl
        have cc3 := C2.cell 3 _ rfl
        have cc4 := C2.cell 4 _ rfl
        have cc5 := C2.cell 5 _ rfl
        go_wp2_with fail
        refine (H _ L2).mono ?_
        rintro e u3 ⟨rfl, b3⟩
        have A3 := A2.on b3
        have C3 := C2.on b3
        have Z3 := Z2.on b3
        have B3 := btr B2 b3
        have L3 := L2.on b3
        clear b3 A2 C2 Z2 B2 L2 H aa0 aa1 aa2 aa3 cc0 cc1 cc2 cc3 cc4 cc5
        have cc0 := C3.cell 0 _ rfl
        have cc1 := C3.cell 1 _ rfl
        have cc2 := C3.cell 2 _ rfl
        have cc3 := C3.cell 3 _ rfl
        have cc4 := C3.cell 4 _ rfl
        have cc5 := C3.cell 5 _ rfl
        go_wp2_with fail
        refine wp_region_line (Bel u3) [(0, true), (1, true), (2, true), (4, true), (5, true), (3, false), (6, false), (7, true)] (by kernel_rfl) (by kernel_rfl) (fun _ _ d _ _ h => by cases d <;> exact h) (Bel.drew u3) ?_
        have hst := Bel.drew u3
        have inst : Nonempty (Of (Bel u3)) := ⟨⟨_, hst⟩⟩
        have qc2 := bel_cell cc2
        have qc3 := bel_cell cc3
        have qc4 := bel_cell cc4
        have A4 := A3.on (bdrew u3)
        have C4 := C3.on (bdrew u3)
        have Z4 := Z3.on (bdrew u3)
        have B4 := btr B3 (bdrew u3)
        have L4 := L3.on (bdrew u3)
        clear A3 C3 Z3 B3 L3 cc0 cc1 cc2 cc3 cc4 cc5
        generalize u3.drew = V0 at *
        iterate 5 (refine line_read rfl (by kernel_rfl) (fun K hK => ?_); go_big_quiet_op; refine hK _ ?_; clear hK K)
        refine line_alone rfl (by kernel_rfl) (fun K hK => ?_)
        refine call_any (args := #[.int .i64 he]) rfl (by kernel_rfl) (by kernel_rfl) (V _ L4) ?_
        rintro e u4 ⟨rfl, be⟩
        have hst2 := hst.on be
        have A5 := A4.on be
        have C5 := C4.on be
        have Z5 := Z4.on be
        have B5 := btr B4 be
        have L5 := L4.on be
        refine ⟨_, rfl, hK _ _ hst2 ?_⟩
        clear hK K hst be A4 C4 Z4 B4 L4 V
        simp only [Act.put, List.setIfInBounds_toArray, List.set_cons_zero, List.set_cons_succ]
        refine line_alone rfl (by kernel_rfl) (fun K hK => ?_)
        refine call_any (args := #[.int .i64 p, .int .i64 vh, I2 x y]) rfl (by kernel_rfl) (by kernel_rfl) (G _ L5) ?_
        rintro e u5 ⟨rfl, be⟩
        have hst3 := hst2.on be
        have A6 := A5.on be
        have C6 := C5.on be
        have Z6 := Z5.on be
        have B6 := btr B5 be
        have L6 := L5.on be
        refine ⟨_, rfl, hK _ _ hst3 ?_⟩
        clear hK K hst2 be A5 C5 Z5 B5 L5 G
        simp only [Act.put, List.setIfInBounds_toArray, List.set_cons_zero, List.set_cons_succ]
        iterate 1 (refine line_read rfl (by kernel_rfl) (fun K hK => ?_); go_big_quiet_op; refine hK _ ?_; clear hK K)
        refine line_nil ?_
        clear hst3 inst
        have aa0 := A6.cell 0 _ rfl
        have aa1 := A6.cell 1 _ rfl
        have aa2 := A6.cell 2 _ rfl
        have aa3 := A6.cell 3 _ rfl
        have cc0 := C6.cell 0 _ rfl
        have cc1 := C6.cell 1 _ rfl
        have cc2 := C6.cell 2 _ rfl
        have cc3 := C6.cell 3 _ rfl
        have cc4 := C6.cell 4 _ rfl
        have cc5 := C6.cell 5 _ rfl
        go_wp2_with fail
        refine (SH _).mono ?_
        rintro e u6 ⟨rfl, b6⟩
        go_wp2_with fail
        refine (WF _ (L6.on b6)).mono ?_
        rintro e u7 ⟨wb, rfl, Y7, b7, -⟩
        have b67 := btr b6 b7
        have C7 := C6.on b67
        have Z7 := Z6.on b67
        have B7 := btr B6 b67
        have L7 := L6.on b67
        clear b6 b7 b67 A6 C6 Z6 B6 L6 SH WF aa0 aa1 aa2 aa3 cc0 cc1 cc2 cc3 cc4 cc5
        have cc0 := C7.cell 0 _ rfl
        have cc1 := C7.cell 1 _ rfl
        have cc2 := C7.cell 2 _ rfl
        have cc3 := C7.cell 3 _ rfl
        have cc4 := C7.cell 4 _ rfl
        have cc5 := C7.cell 5 _ rfl
        go_wp2_with fail
        refine wp_region_line (Bel u7) [(0, true), (1, true), (2, true), (3, false), (4, true)] (by kernel_rfl) (by kernel_rfl) (fun _ _ d _ _ h => by cases d <;> exact h) (Bel.drew u7) ?_
        have hst := Bel.drew u7
        have inst : Nonempty (Of (Bel u7)) := ⟨⟨_, hst⟩⟩
        have qc5 := bel_cell cc5
        have C8 := C7.on (bdrew u7)
        have Z8 := Z7.on (bdrew u7)
        have B8 := btr B7 (bdrew u7)
        have L8 := L7.on (bdrew u7)
        have Y8 := Y7.on (bdrew u7)
        clear C7 Z7 B7 L7 Y7 cc0 cc1 cc2 cc3 cc4 cc5
        generalize u7.drew = V3 at *
        iterate 3 (refine line_read rfl (by kernel_rfl) (fun K hK => ?_); go_big_quiet_op; refine hK _ ?_; clear hK K)
        refine line_alone rfl (by kernel_rfl) (fun K hK => ?_)
        refine call_val (f := 248) (cap := #[.pointer (some ⟨wb, 0, none⟩)]) (args := #[.int .i64 10, .pointer (some ⟨wb, 0, none⟩)]) rfl rfl (by kernel_rfl) (by kernel_rfl) (WN _ _ L8 Y8) ?_
        rintro e u8 ⟨rfl, be⟩
        have hst2 := hst.on be
        have XX := C8.on be
        have Z9 := Z8.on be
        have B9 := btr B8 be
        have L9 := L8.on be
        have Y9 := Y8.on be
        refine ⟨_, rfl, hK _ _ hst2 ?_⟩
        clear hK K hst be C8 Z8 B8 L8 Y8 WN
        simp only [Act.put, List.setIfInBounds_toArray, List.set_cons_zero, List.set_cons_succ]
        iterate 1 (refine line_read rfl (by kernel_rfl) (fun K hK => ?_); go_big_quiet_op; refine hK _ ?_; clear hK K)
        refine line_nil ?_
        clear hst2 inst
        have cc0 := XX.cell 0 _ rfl
        have cc1 := XX.cell 1 _ rfl
        have cc2 := XX.cell 2 _ rfl
        have cc3 := XX.cell 3 _ rfl
        have cc4 := XX.cell 4 _ rfl
        have cc5 := XX.cell 5 _ rfl
        go_wp2_with fail
        have S0 : Hold w (w.heap.size + 1) [.int .i64 r, .int .i64 s, .int .i64 p, .int .i64 x, .int .i64 y, .int .i64 f] u8.drew := ⟨B9.drew, XX.on (bdrew _)⟩
        have ZZ := Z9.on (bdrew u8)
        have LL := L9.on (bdrew u8)
        have YY := Y9.on (bdrew u8)
        clear L9 Y9
        refine wp_region_line (Hold w (w.heap.size + 1) [.int .i64 r, .int .i64 s, .int .i64 p, .int .i64 x, .int .i64 y, .int .i64 f]) [(0, true), (1, true), (2, true), (3, true), (4, true), (5, false), (6, true), (7, false)] (by kernel_rfl) (by kernel_rfl) (fun _ _ d _ _ h => by cases d <;> exact h) S0 ?_
        have hst := S0
        have inst : Nonempty (Of (Hold w (w.heap.size + 1) [.int .i64 r, .int .i64 s, .int .i64 p, .int .i64 x, .int .i64 y, .int .i64 f])) := ⟨⟨_, hst⟩⟩
        have qh0 := hold_cell (W := w) (g := w.heap.size + 1) (cs := [.int .i64 r, .int .i64 s, .int .i64 p, .int .i64 x, .int .i64 y, .int .i64 f]) 0 _ rfl
        have qh1 := hold_cell (W := w) (g := w.heap.size + 1) (cs := [.int .i64 r, .int .i64 s, .int .i64 p, .int .i64 x, .int .i64 y, .int .i64 f]) 1 _ rfl
        have qh2 := hold_cell (W := w) (g := w.heap.size + 1) (cs := [.int .i64 r, .int .i64 s, .int .i64 p, .int .i64 x, .int .i64 y, .int .i64 f]) 2 _ rfl
        have qh3 := hold_cell (W := w) (g := w.heap.size + 1) (cs := [.int .i64 r, .int .i64 s, .int .i64 p, .int .i64 x, .int .i64 y, .int .i64 f]) 3 _ rfl
        have qh4 := hold_cell (W := w) (g := w.heap.size + 1) (cs := [.int .i64 r, .int .i64 s, .int .i64 p, .int .i64 x, .int .i64 y, .int .i64 f]) 4 _ rfl
        have qh5 := hold_cell (W := w) (g := w.heap.size + 1) (cs := [.int .i64 r, .int .i64 s, .int .i64 p, .int .i64 x, .int .i64 y, .int .i64 f]) 5 _ rfl
        clear S0 XX Z9 B9 cc0 cc1 cc2 cc3 cc4 cc5 e3 e4 e5
        generalize u8.drew = V1 at *
        iterate 5 (refine line_read rfl (by kernel_rfl) (fun K hK => ?_); go_big_quiet_op; refine hK _ ?_; clear hK K)
        refine line_alone rfl (by kernel_rfl) (fun K hK => ?_)
        refine call_any (args := #[walkV wb, .int .i64 he, .int .i64 p]) rfl (by kernel_rfl) (by kernel_rfl) (Y _ _ LL YY) ?_
        rintro e wn ⟨rfl, hbn⟩
        have hst2 := hst.on hbn
        have Z2 := ZZ.on hbn
        refine ⟨_, rfl, hK _ _ hst2 ?_⟩
        clear hK K hst hbn ZZ
        simp only [Act.put, List.setIfInBounds_toArray, List.set_cons_zero, List.set_cons_succ]
        refine line_readv (v := .agg #[.int .i64 0, .int .i64 r, .int .i64 s, .int .i64 p, .int .i64 x, .int .i64 y, .int .i64 f, .int .i64 u, .int .i64 d, .int .i64 he, .int .i64 p]) rfl (by kernel_rfl) (fun _ => by kernel_rfl) ?_
        simp only [Act.put, List.setIfInBounds_toArray, List.set_cons_zero, List.set_cons_succ]
        have zz0 := Z2.cell 0 _ rfl
        have zz1 := Z2.cell 1 _ rfl
        have zz2 := Z2.cell 2 _ rfl
        have zz3 := Z2.cell 3 _ rfl
        have zz4 := Z2.cell 4 _ rfl
        have zz5 := Z2.cell 5 _ rfl
        have zz6 := Z2.cell 6 _ rfl
        have zz7 := Z2.cell 7 _ rfl
        have zz8 := Z2.cell 8 _ rfl
        have zz9 := Z2.cell 9 _ rfl
        have zz10 := Z2.cell 10 _ rfl
        have hh0 := Z2.free 0 _ rfl
        have hh1 := Z2.free 1 _ rfl
        have hh2 := Z2.free 2 _ rfl
        have hh3 := Z2.free 3 _ rfl
        have hh4 := Z2.free 4 _ rfl
        have hh5 := Z2.free 5 _ rfl
        have hh6 := Z2.free 6 _ rfl
        have hh7 := Z2.free 7 _ rfl
        have hh8 := Z2.free 8 _ rfl
        have hh9 := Z2.free 9 _ rfl
        have hh10 := Z2.free 10 _ rfl
        have S9 : Hold w (w.heap.size + 1) [.int .i64 r, .int .i64 s, .int .i64 p, .int .i64 x, .int .i64 y, .int .i64 f] (((((((((((wn.setCell ⟨w.heap.size + 1 + 1, 0, none⟩ (.int .i64 0)).setCell ⟨w.heap.size + 1 + 1, 1, none⟩ (.int .i64 r)).setCell ⟨w.heap.size + 1 + 1, 2, none⟩ (.int .i64 s)).setCell ⟨w.heap.size + 1 + 1, 3, none⟩ (.int .i64 p)).setCell ⟨w.heap.size + 1 + 1, 4, none⟩ (.int .i64 x)).setCell ⟨w.heap.size + 1 + 1, 5, none⟩ (.int .i64 y)).setCell ⟨w.heap.size + 1 + 1, 6, none⟩ (.int .i64 f)).setCell ⟨w.heap.size + 1 + 1, 7, none⟩ (.int .i64 u)).setCell ⟨w.heap.size + 1 + 1, 8, none⟩ (.int .i64 d)).setCell ⟨w.heap.size + 1 + 1, 9, none⟩ (.int .i64 he)).setCell ⟨w.heap.size + 1 + 1, 10, none⟩ (.int .i64 p)) := by
          iterate 11 (refine Hold.setB ?_ (by dsimp only; omega) (by dsimp only; omega) _)
          exact hst2
        have HB9 := Lib.hid S9.bel
        clear hst2
        refine line_alone rfl (by kernel_rfl) (fun K hK => ?_)
        go_big_op
        refine hK _ _ (S9) ?_
        clear hK K
        refine line_nil ?_
        clear inst qh0 qh1 qh2 qh3 qh4 qh5 Z2 S9
        go_wp2_with fail
        exact bodyPost_ret (v := .agg #[.int .i64 0, .int .i64 r, .int .i64 s, .int .i64 p, .int .i64 x, .int .i64 y, .int .i64 f, .int .i64 u, .int .i64 d, .int .i64 he, .int .i64 p]) (by simp [results, Tryz.results67, go_sem, zz0, zz1, zz2, zz3, zz4, zz5, zz6, zz7, zz8, zz9, zz10]) rfl ⟨rfl, HB9.out⟩
      · have e0 := T1 rfl h4
        have e1 := T3 (by rw [e0]; omega)
        rw [e1, e0]
        have e3 : (f != fv) = true := by simpa using h4
        have e4 : decide (f = fv) = false := by simpa using h4
        have e5 : (f == fv) = false := by simpa using h4
        clear T0 T1 T2 T3 T4 e0 e1 h4
        go_enter Tryz.func67, Tryz.ntmps67
        go_wp2_with fail
        generalize ((w.alloc (.cells #[.int .i64 k, .int .i64 r0, .int .i64 s0, .string n] 103)).alloc (.cells #[.int .i64 r, .int .i64 s, .int .i64 p, .int .i64 x, .int .i64 y, .int .i64 f] 33)).alloc (.cells #[.int .i64 0, .int .i64 0, .int .i64 0, .int .i64 0, .int .i64 0, .int .i64 0, .int .i64 0, .int .i64 0, .int .i64 0, .int .i64 0, .int .i64 0] 112) = W0 at *
        refine (F1 _).mono ?_
        rintro e u1 ⟨rfl, b1⟩
        have A1 := A0.on b1
        have C1 := C0.on b1
        have Z1 := Z0.on b1
        have B1 := btr b0 b1
        have L1 := L0.on b1
        have E1 := E0.on b1
        have cc0 := C1.cell 0 _ rfl
        have cc1 := C1.cell 1 _ rfl
        have cc2 := C1.cell 2 _ rfl
        have cc3 := C1.cell 3 _ rfl
        have cc4 := C1.cell 4 _ rfl
        have cc5 := C1.cell 5 _ rfl
        clear b0 b1 A0 C0 Z0 L0 E0 F1
        go_wp2_with fail
        refine (F2 _ E1).mono ?_
        rintro e u2 ⟨rfl, b2⟩
        have A2 := A1.on b2
        have C2 := C1.on b2
        have Z2 := Z1.on b2
        have B2 := btr B1 b2
        have L2 := L1.on b2
        clear b2 A1 C1 Z1 B1 L1 E1 F2 cc0 cc1 cc2 cc3 cc4 cc5
        have aa0 := A2.cell 0 _ rfl
        have aa1 := A2.cell 1 _ rfl
        have aa2 := A2.cell 2 _ rfl
        have aa3 := A2.cell 3 _ rfl
        have cc0 := C2.cell 0 _ rfl
        have cc1 := C2.cell 1 _ rfl
        have cc2 := C2.cell 2 _ rfl
        have cc3 := C2.cell 3 _ rfl
        have cc4 := C2.cell 4 _ rfl
        have cc5 := C2.cell 5 _ rfl
        go_wp2_with fail
        refine (H _ L2).mono ?_
        rintro e u3 ⟨rfl, b3⟩
        have A3 := A2.on b3
        have C3 := C2.on b3
        have Z3 := Z2.on b3
        have B3 := btr B2 b3
        have L3 := L2.on b3
        clear b3 A2 C2 Z2 B2 L2 H aa0 aa1 aa2 aa3 cc0 cc1 cc2 cc3 cc4 cc5
        have cc0 := C3.cell 0 _ rfl
        have cc1 := C3.cell 1 _ rfl
        have cc2 := C3.cell 2 _ rfl
        have cc3 := C3.cell 3 _ rfl
        have cc4 := C3.cell 4 _ rfl
        have cc5 := C3.cell 5 _ rfl
        go_wp2_with fail
        refine wp_region_line (Bel u3) [(0, true), (1, true), (2, true), (4, true), (5, true), (3, false), (6, false), (7, true)] (by kernel_rfl) (by kernel_rfl) (fun _ _ d _ _ h => by cases d <;> exact h) (Bel.drew u3) ?_
        have hst := Bel.drew u3
        have inst : Nonempty (Of (Bel u3)) := ⟨⟨_, hst⟩⟩
        have qc2 := bel_cell cc2
        have qc3 := bel_cell cc3
        have qc4 := bel_cell cc4
        have A4 := A3.on (bdrew u3)
        have C4 := C3.on (bdrew u3)
        have Z4 := Z3.on (bdrew u3)
        have B4 := btr B3 (bdrew u3)
        have L4 := L3.on (bdrew u3)
        clear A3 C3 Z3 B3 L3 cc0 cc1 cc2 cc3 cc4 cc5
        generalize u3.drew = V0 at *
        iterate 5 (refine line_read rfl (by kernel_rfl) (fun K hK => ?_); go_big_quiet_op; refine hK _ ?_; clear hK K)
        refine line_alone rfl (by kernel_rfl) (fun K hK => ?_)
        refine call_any (args := #[.int .i64 he]) rfl (by kernel_rfl) (by kernel_rfl) (V _ L4) ?_
        rintro e u4 ⟨rfl, be⟩
        have hst2 := hst.on be
        have A5 := A4.on be
        have C5 := C4.on be
        have Z5 := Z4.on be
        have B5 := btr B4 be
        have L5 := L4.on be
        refine ⟨_, rfl, hK _ _ hst2 ?_⟩
        clear hK K hst be A4 C4 Z4 B4 L4 V
        simp only [Act.put, List.setIfInBounds_toArray, List.set_cons_zero, List.set_cons_succ]
        refine line_alone rfl (by kernel_rfl) (fun K hK => ?_)
        refine call_any (args := #[.int .i64 p, .int .i64 vh, I2 x y]) rfl (by kernel_rfl) (by kernel_rfl) (G _ L5) ?_
        rintro e u5 ⟨rfl, be⟩
        have hst3 := hst2.on be
        have A6 := A5.on be
        have C6 := C5.on be
        have Z6 := Z5.on be
        have B6 := btr B5 be
        have L6 := L5.on be
        refine ⟨_, rfl, hK _ _ hst3 ?_⟩
        clear hK K hst2 be A5 C5 Z5 B5 L5 G
        simp only [Act.put, List.setIfInBounds_toArray, List.set_cons_zero, List.set_cons_succ]
        iterate 1 (refine line_read rfl (by kernel_rfl) (fun K hK => ?_); go_big_quiet_op; refine hK _ ?_; clear hK K)
        refine line_nil ?_
        clear hst3 inst
        have aa0 := A6.cell 0 _ rfl
        have aa1 := A6.cell 1 _ rfl
        have aa2 := A6.cell 2 _ rfl
        have aa3 := A6.cell 3 _ rfl
        have cc0 := C6.cell 0 _ rfl
        have cc1 := C6.cell 1 _ rfl
        have cc2 := C6.cell 2 _ rfl
        have cc3 := C6.cell 3 _ rfl
        have cc4 := C6.cell 4 _ rfl
        have cc5 := C6.cell 5 _ rfl
        go_wp2_with fail
        refine (SH _).mono ?_
        rintro e u6 ⟨rfl, b6⟩
        go_wp2_with fail
        refine (WF _ (L6.on b6)).mono ?_
        rintro e u7 ⟨wb, rfl, Y7, b7, -⟩
        have b67 := btr b6 b7
        have C7 := C6.on b67
        have Z7 := Z6.on b67
        have B7 := btr B6 b67
        have L7 := L6.on b67
        clear b6 b7 b67 A6 C6 Z6 B6 L6 SH WF aa0 aa1 aa2 aa3 cc0 cc1 cc2 cc3 cc4 cc5
        have cc0 := C7.cell 0 _ rfl
        have cc1 := C7.cell 1 _ rfl
        have cc2 := C7.cell 2 _ rfl
        have cc3 := C7.cell 3 _ rfl
        have cc4 := C7.cell 4 _ rfl
        have cc5 := C7.cell 5 _ rfl
        go_wp2_with fail
        refine wp_region_line (Bel u7) [(0, true), (1, true), (2, true), (3, false), (4, true)] (by kernel_rfl) (by kernel_rfl) (fun _ _ d _ _ h => by cases d <;> exact h) (Bel.drew u7) ?_
        have hst := Bel.drew u7
        have inst : Nonempty (Of (Bel u7)) := ⟨⟨_, hst⟩⟩
        have qc5 := bel_cell cc5
        have C8 := C7.on (bdrew u7)
        have Z8 := Z7.on (bdrew u7)
        have B8 := btr B7 (bdrew u7)
        have L8 := L7.on (bdrew u7)
        have Y8 := Y7.on (bdrew u7)
        clear C7 Z7 B7 L7 Y7 cc0 cc1 cc2 cc3 cc4 cc5
        generalize u7.drew = V3 at *
        iterate 3 (refine line_read rfl (by kernel_rfl) (fun K hK => ?_); go_big_quiet_op; refine hK _ ?_; clear hK K)
        refine line_alone rfl (by kernel_rfl) (fun K hK => ?_)
        refine call_val (f := 248) (cap := #[.pointer (some ⟨wb, 0, none⟩)]) (args := #[.int .i64 10, .pointer (some ⟨wb, 0, none⟩)]) rfl rfl (by kernel_rfl) (by kernel_rfl) (WN _ _ L8 Y8) ?_
        rintro e u8 ⟨rfl, be⟩
        have hst2 := hst.on be
        have XX := C8.on be
        have Z9 := Z8.on be
        have B9 := btr B8 be
        have L9 := L8.on be
        have Y9 := Y8.on be
        refine ⟨_, rfl, hK _ _ hst2 ?_⟩
        clear hK K hst be C8 Z8 B8 L8 Y8 WN
        simp only [Act.put, List.setIfInBounds_toArray, List.set_cons_zero, List.set_cons_succ]
        iterate 1 (refine line_read rfl (by kernel_rfl) (fun K hK => ?_); go_big_quiet_op; refine hK _ ?_; clear hK K)
        refine line_nil ?_
        clear hst2 inst
        have q0 := (Z9).cell 0 _ rfl
        have q1 := (Z9).cell 1 _ rfl
        have q2 := (Z9).cell 2 _ rfl
        have q3 := (Z9).cell 3 _ rfl
        have q4 := (Z9).cell 4 _ rfl
        have q5 := (Z9).cell 5 _ rfl
        have q6 := (Z9).cell 6 _ rfl
        have q7 := (Z9).cell 7 _ rfl
        have q8 := (Z9).cell 8 _ rfl
        have q9 := (Z9).cell 9 _ rfl
        have q10 := (Z9).cell 10 _ rfl
        have z0 := (Z9).free 0 _ rfl
        have z1 := (Z9).free 1 _ rfl
        have z2 := (Z9).free 2 _ rfl
        have z3 := (Z9).free 3 _ rfl
        have z4 := (Z9).free 4 _ rfl
        have z5 := (Z9).free 5 _ rfl
        have z6 := (Z9).free 6 _ rfl
        have z7 := (Z9).free 7 _ rfl
        have z8 := (Z9).free 8 _ rfl
        have z9 := (Z9).free 9 _ rfl
        have z10 := (Z9).free 10 _ rfl
        have HB := Lib.hid (B9)
        clear XX Z9 B9 L9 Y9 Y
        go_wp2_with fail
        refine bodyPost_ret (v := .agg #[.int .i64 8, .int .i64 0, .int .i64 0, .int .i64 0, .int .i64 0, .int .i64 0, .int .i64 0, .int .i64 0, .int .i64 0, .int .i64 0, .int .i64 0]) (by simp [results, Tryz.results67, go_sem, q0, q1, q2, q3, q4, q5, q6, q7, q8, q9, q10]) rfl ⟨rfl, ?_⟩
        exact (by (iterate 11 (refine bset ?_ (by dsimp only; omega) _)); exact HB.out)
    · have e0 := takC_rep (x := x) (y := y) (f := f) h1 h2
      rw [takT_no (by rw [e0]; exact h2), e0]
      have e3 : (repF r s p x y f != 0) = true := by simpa using h2
      rw [h1] at F1
      generalize repF r s p x y f = c at *
      clear h1 h2 e0
      go_enter Tryz.func67, Tryz.ntmps67
      go_wp2_with fail
      generalize ((w.alloc (.cells #[.int .i64 k, .int .i64 r0, .int .i64 s0, .string n] 103)).alloc (.cells #[.int .i64 r, .int .i64 s, .int .i64 p, .int .i64 x, .int .i64 y, .int .i64 f] 33)).alloc (.cells #[.int .i64 0, .int .i64 0, .int .i64 0, .int .i64 0, .int .i64 0, .int .i64 0, .int .i64 0, .int .i64 0, .int .i64 0, .int .i64 0, .int .i64 0] 112) = W0 at *
      refine (F1 _).mono ?_
      rintro e u1 ⟨rfl, b1⟩
      have A1 := A0.on b1
      have C1 := C0.on b1
      have Z1 := Z0.on b1
      have B1 := btr b0 b1
      have L1 := L0.on b1
      have E1 := E0.on b1
      have cc0 := C1.cell 0 _ rfl
      have cc1 := C1.cell 1 _ rfl
      have cc2 := C1.cell 2 _ rfl
      have cc3 := C1.cell 3 _ rfl
      have cc4 := C1.cell 4 _ rfl
      have cc5 := C1.cell 5 _ rfl
      clear b0 b1 A0 C0 Z0 L0 E0 F1
      go_wp2_with fail
      refine (F2 _ E1).mono ?_
      rintro e u2 ⟨rfl, b2⟩
      have A2 := A1.on b2
      have C2 := C1.on b2
      have Z2 := Z1.on b2
      have B2 := btr B1 b2
      have L2 := L1.on b2
      clear b2 A1 C1 Z1 B1 L1 E1 F2 cc0 cc1 cc2 cc3 cc4 cc5
      have q0 := (Z2).cell 0 _ rfl
      have q1 := (Z2).cell 1 _ rfl
      have q2 := (Z2).cell 2 _ rfl
      have q3 := (Z2).cell 3 _ rfl
      have q4 := (Z2).cell 4 _ rfl
      have q5 := (Z2).cell 5 _ rfl
      have q6 := (Z2).cell 6 _ rfl
      have q7 := (Z2).cell 7 _ rfl
      have q8 := (Z2).cell 8 _ rfl
      have q9 := (Z2).cell 9 _ rfl
      have q10 := (Z2).cell 10 _ rfl
      have z0 := (Z2).free 0 _ rfl
      have z1 := (Z2).free 1 _ rfl
      have z2 := (Z2).free 2 _ rfl
      have z3 := (Z2).free 3 _ rfl
      have z4 := (Z2).free 4 _ rfl
      have z5 := (Z2).free 5 _ rfl
      have z6 := (Z2).free 6 _ rfl
      have z7 := (Z2).free 7 _ rfl
      have z8 := (Z2).free 8 _ rfl
      have z9 := (Z2).free 9 _ rfl
      have z10 := (Z2).free 10 _ rfl
      have HB := Lib.hid (B2)
      clear A2 C2 Z2 B2 L2
      go_wp2_with fail
      refine bodyPost_ret (v := .agg #[.int .i64 c, .int .i64 0, .int .i64 0, .int .i64 0, .int .i64 0, .int .i64 0, .int .i64 0, .int .i64 0, .int .i64 0, .int .i64 0, .int .i64 0]) (by simp [results, Tryz.results67, go_sem, q0, q1, q2, q3, q4, q5, q6, q7, q8, q9, q10]) rfl ⟨rfl, ?_⟩
      exact (by (iterate 11 (refine bset ?_ (by dsimp only; omega) _)); exact HB.out)
  · have e0 := takC_cli (r := r) (s := s) (p := p) (x := x) (y := y) (f := f) h1
    rw [takT_no (by rw [e0]; exact h1), e0]
    have e3 : (cliF k r0 s0 n != 0) = true := by simpa using h1
    generalize cliF k r0 s0 n = c at *
    clear h1 e0
    go_enter Tryz.func67, Tryz.ntmps67
    go_wp2_with fail
    generalize ((w.alloc (.cells #[.int .i64 k, .int .i64 r0, .int .i64 s0, .string n] 103)).alloc (.cells #[.int .i64 r, .int .i64 s, .int .i64 p, .int .i64 x, .int .i64 y, .int .i64 f] 33)).alloc (.cells #[.int .i64 0, .int .i64 0, .int .i64 0, .int .i64 0, .int .i64 0, .int .i64 0, .int .i64 0, .int .i64 0, .int .i64 0, .int .i64 0, .int .i64 0] 112) = W0 at *
    refine (F1 _).mono ?_
    rintro e u1 ⟨rfl, b1⟩
    have A1 := A0.on b1
    have C1 := C0.on b1
    have Z1 := Z0.on b1
    have B1 := btr b0 b1
    have L1 := L0.on b1
    have E1 := E0.on b1
    have cc0 := C1.cell 0 _ rfl
    have cc1 := C1.cell 1 _ rfl
    have cc2 := C1.cell 2 _ rfl
    have cc3 := C1.cell 3 _ rfl
    have cc4 := C1.cell 4 _ rfl
    have cc5 := C1.cell 5 _ rfl
    clear b0 b1 A0 C0 Z0 L0 E0 F1
    have q0 := (Z1).cell 0 _ rfl
    have q1 := (Z1).cell 1 _ rfl
    have q2 := (Z1).cell 2 _ rfl
    have q3 := (Z1).cell 3 _ rfl
    have q4 := (Z1).cell 4 _ rfl
    have q5 := (Z1).cell 5 _ rfl
    have q6 := (Z1).cell 6 _ rfl
    have q7 := (Z1).cell 7 _ rfl
    have q8 := (Z1).cell 8 _ rfl
    have q9 := (Z1).cell 9 _ rfl
    have q10 := (Z1).cell 10 _ rfl
    have z0 := (Z1).free 0 _ rfl
    have z1 := (Z1).free 1 _ rfl
    have z2 := (Z1).free 2 _ rfl
    have z3 := (Z1).free 3 _ rfl
    have z4 := (Z1).free 4 _ rfl
    have z5 := (Z1).free 5 _ rfl
    have z6 := (Z1).free 6 _ rfl
    have z7 := (Z1).free 7 _ rfl
    have z8 := (Z1).free 8 _ rfl
    have z9 := (Z1).free 9 _ rfl
    have z10 := (Z1).free 10 _ rfl
    have HB := Lib.hid (B1)
    clear A1 C1 Z1 B1 L1 E1 F2 cc0 cc1 cc2 cc3 cc4 cc5
    go_wp2_with fail
    refine bodyPost_ret (v := .agg #[.int .i64 c, .int .i64 0, .int .i64 0, .int .i64 0, .int .i64 0, .int .i64 0, .int .i64 0, .int .i64 0, .int .i64 0, .int .i64 0, .int .i64 0]) (by simp [results, Tryz.results67, go_sem, q0, q1, q2, q3, q4, q5, q6, q7, q8, q9, q10]) rfl ⟨rfl, ?_⟩
    exact (by (iterate 11 (refine bset ?_ (by dsimp only; omega) _)); exact HB.out)
end Go.Proofs.YtlodhleihnlchaaGreatDoor
namespace Go.Proofs.YtlodhleihnlchaaGreatDoor
open Go.RowKit
set_option maxRecDepth 100000

structure LRel (w0 : World) (a : Option Addr) (len cap : Nat) (zs : List Int) (p b : Nat) (v : Value) (wr : World) : Prop where
  own : ∃ zs', zs'.length ≤ b ∧ OwnK .i64 wr (w0.heap.size + 1) v zs' ∧ ∀ z ∈ zs', (Lit.int .i64 z).wf = true
  draw : Draw w0 a len cap zs p wr
section
variable {w0 : World} {a : Option Addr} {len cap : Nat} {zs : List Int} {p p' b : Nat} {v : Value} {w w' : World}
theorem LRel.only (h : LRel w0 a len cap zs p b v w) (hO : Only w0.heap.size w w') (D : Draw w0 a len cap zs p' w') : LRel w0 a len cap zs p' b v w' := by
  obtain ⟨zs', h1, h2, h3⟩ := h.own
  exact ⟨⟨zs', h1, h2.only hO (by omega), h3⟩, D⟩
theorem LRel.alloc (h : LRel w0 a len cap zs p b v w) (o : Obj) : LRel w0 a len cap zs p b v (w.alloc o) := by
  obtain ⟨zs', h1, h2, h3⟩ := h.own
  exact ⟨⟨zs', h1, h2.alloc o, h3⟩, h.draw.alloc o⟩
theorem LRel.kept (h : LRel w0 a len cap zs p b v w) (hg : w.grownBy w' (some w0.heap.size)) (D : Draw w0 a len cap zs p' w') : LRel w0 a len cap zs p' b v w' := by
  obtain ⟨zs', h1, h2, h3⟩ := h.own
  exact ⟨⟨zs', h1, h2.kept hg (.inr (fun e => by have := (h2.lt _ e).1; omega)), h3⟩, D⟩
end
structure GRel (w0 : World) (a : Option Addr) (len cap : Nat) (zs : List Int) (p b : Nat) (v : Value) (wr : World) : Prop where
  own : ∃ rows, rows.length ≤ b ∧ Own2 wr (w0.heap.size + 1) v rows
  draw : Draw w0 a len cap zs p wr
section
variable {w0 : World} {a : Option Addr} {len cap : Nat} {zs : List Int} {p p' b : Nat} {v : Value} {w w' : World}
theorem GRel.only (h : GRel w0 a len cap zs p b v w) (hO : Only w0.heap.size w w') (D : Draw w0 a len cap zs p' w') : GRel w0 a len cap zs p' b v w' := by
  obtain ⟨rows, h1, h2⟩ := h.own
  exact ⟨⟨rows, h1, h2.only hO (by omega)⟩, D⟩
theorem GRel.alloc (h : GRel w0 a len cap zs p b v w) (o : Obj) : GRel w0 a len cap zs p b v (w.alloc o) := by
  obtain ⟨rows, h1, h2⟩ := h.own
  exact ⟨⟨rows, h1, h2.alloc o⟩, h.draw.alloc o⟩
theorem GRel.kept (h : GRel w0 a len cap zs p b v w) (hg : w.grownBy w' (some w0.heap.size)) (D : Draw w0 a len cap zs p' w') : GRel w0 a len cap zs p' b v w' := by
  obtain ⟨rows, h1, h2⟩ := h.own
  exact ⟨⟨rows, h1, h2.kept hg (by omega)⟩, D⟩
end
end Go.Proofs.YtlodhleihnlchaaGreatDoor
namespace Go.Proofs.YtlodhleihnlchaaGreatDoor.Facts
set_option maxRecDepth 100000

theorem laidOut : laidOutB Tryz.prog = true := by kernel_rfl
theorem mapsRowed : mapsRowed Tryz.prog = true := by kernel_rfl
theorem stopsHeard : Tryz.prog.stopsHeard = true := by kernel_rfl
theorem mayEnter : Tryz.prog.mayEnter = true := by kernel_rfl
theorem plainKeys : (false == Tryz.prog.plainKeys) = true := by kernel_rfl
theorem liftsFinal : (false == Tryz.prog.liftsFinal) = true := by kernel_rfl
theorem make : (Tryz.prog.make == some Make.cut) = true := by kernel_rfl

theorem joined_of {P : Program} {f : FuncId} {fn : Func} {s : ChangeSpec} {c : OpenClaim}
    (g2 : laidOutB P = true) (g3 : Go.mapsRowed P = true) (g4 : P.stopsHeard = true) (g5 : P.mayEnter = true)
    (h1 : c.wf (OpenSpec.ofChange s) = true) (h4 : fn.params.all (P.readableRec ·) = true) (h5 : namedTie P c.named s.vars = true)
    (h6 : (c.stops == []) = true) (h7 : (P.stops == []) = true) (h8 : (c.knobs == []) = true) (h9 : (P.stopKnobs == []) = true)
    (h10 : c.inPlace = P.inPlace f) (h11 : c.unfollowed = P.unfollowed f) (h12 : c.recurses = P.recurses f) (h13 : c.named = P.varsNamed f)
    (h14 : (c.maps == (fn.params.toList ++ s.plain.varTypes P).any (P.mapsRec ·)) = true) (h15 : (c.ifaces == (fn.params.toList ++ s.plain.varTypes P).any (P.ifacesRec ·)) = true) (h16 : (c.mapsOut == P.mapsAmong fn.resultTypes.toList) = true)
    (h17 : (c.loops == (fn.params.toList ++ s.plain.varTypes P).any (P.loopsFrom ·)) = true) (h18 : (c.wideKeys == (fn.params.toList ++ s.plain.varTypes P ++ fn.resultTypes.toList).any (P.wideKeysFrom ·)) = true)
    (h19 : s.vars.all (P.varReadable ·) = true) (h20 : fn.resultTypes.all (fun t => P.readableRec t && decide (t < P.types.size)) = true) (h21 : (c.ifacesOut == fn.resultTypes.toList.any (P.ifacesRec ·)) = true) (h22 : (c.loopsOut == fn.resultTypes.toList.any (P.loopsFrom ·)) = true)
    (h23 : (c.plainKeys == P.plainKeys) = true) (h24 : c.shortTexts.isNone = true) (h25 : (c.lifted == P.liftsFinal) = true) (h26 : (P.make == some c.make) = true)
    (h27 : (c.kinds == (if c.domain.isEmpty then [] else fn.params.toList.map fun t => match P.underlying t with | some (.int k) => some k | _ => none)) = true) (h28 : (c.pinned == c.pinnedBy) = true)
    (h29 : (c.veiled == (fn.params.toList ++ s.plain.varTypes P ++ fn.resultTypes.toList).any (P.veiledRec ·)) = true) (h30 : c.veiledFits P fn.params.toList (fn.params.toList ++ s.plain.varTypes P ++ fn.resultTypes.toList) = true) :
    joinedFacts P f fn s c = true := by
  have g10 : (c.inPlace == P.inPlace f) = true := by rw [h10]; simp
  have g11 : (c.unfollowed == P.unfollowed f) = true := by rw [h11]; simp
  have g12 : (c.recurses == P.recurses f) = true := by rw [h12]; simp
  have g13 : (c.named == P.varsNamed f) = true := by rw [h13]; simp
  unfold joinedFacts
  simp only [Bool.and_eq_true]
  exact ⟨⟨⟨⟨⟨⟨⟨⟨⟨⟨⟨⟨⟨⟨⟨⟨⟨⟨⟨⟨⟨⟨⟨⟨⟨⟨⟨⟨⟨⟨⟨h1, g2⟩, g3⟩, h4⟩, h5⟩, h6⟩, h7⟩, h8⟩, h9⟩, g10⟩, g11⟩, g12⟩, g13⟩, h14⟩, h15⟩, h16⟩, h17⟩, h18⟩, h19⟩, h20⟩, h21⟩, h22⟩, h23⟩, h24⟩, g4⟩, g5⟩, h25⟩, h26⟩, h27⟩, h28⟩, h29⟩, h30⟩
end Go.Proofs.YtlodhleihnlchaaGreatDoor.Facts
namespace Go.Proofs.YtlodhleihnlchaaGreatDoor
open Go.ChangeShapes Go.WideShapes Go.ChangeAt Go.RowKit

theorem own : ownKnob Tryz.prog.godebug = none := by kernel_rfl
theorem laidOut : laidOutB Tryz.prog = true := by kernel_rfl

def varsOk (P : Program) (names : List String) : Bool :=
  names.all fun n => match P.globalNamed n with
    | some g => match (P.globals[g]?).map (·.type) with
      | some t => P.readableRec t && decide (t < P.types.size)
      | Option.none => false
    | Option.none => false
theorem vars_keep {H : Type} {enc : TypeId × Value → H} {P : Program} (hl : laidOutB P = true) {W W' : World} (bel : Below W.heap.size W W') : ∀ (names : List String) (gs : List (DataW H)) (q : List MemPlace),
    varsOk P names = true → DataW.TrodVars enc P W (fun _ => true) names gs q → (∀ x ∈ q, x.block < W.heap.size) → DataW.TrodVars enc P W' (fun b => decide (b < W.heap.size)) names gs q
  | [], gs, q, _, h, _ => by
    obtain ⟨rfl, rfl⟩ := trodVars_none h
    exact rfl
  | n :: r, [], q, _, h, _ => by simp [DataW.TrodVars] at h
  | n :: r, d :: ds, q, hok, h, hlt => by
    obtain ⟨g, t, cs, fuel, p, q2, h1, h2, h3, h4, h5, rfl⟩ := h
    simp only [varsOk, List.all_cons, Bool.and_eq_true] at hok
    obtain ⟨ho, hor⟩ := hok
    simp only [h1, h2, Bool.and_eq_true, decide_eq_true_eq] at ho
    have hg : g < W.heap.size := by
      rcases Nat.lt_or_ge g W.heap.size with hlt | hge
      · exact hlt
      · simp [World.var?, h1, Array.getElem?_eq_none hge] at h3
    have hT : DataW.Trod enc P W 0 (fun _ => true) true t (.agg cs) d p := ⟨fuel, h4⟩
    obtain ⟨fuel', h4'⟩ := Below.trod hl ho.1 ho.2 hT bel (fun x hx => hlt x (by simp [hx]))
    exact ⟨g, t, cs, fuel', p, q2, h1, h2, var?_below bel h1 hg h3, h4', vars_keep hl bel r ds q2 hor h5 (fun x hx => hlt x (by simp [hx])), rfl⟩

theorem cells_of_words {H : Type} {enc : TypeId × Value → H} {P : Program} {w : World} {base : Nat} {sp : Nat → Bool} {held : Bool} {fuel : Nat} {t e : TypeId} {n : Nat} {cs : List Value} {ss : List (List UInt8)} {p : List MemPlace}
    (ht : P.underlying t = some (.array n e)) (he : P.underlying e = some .string) (hce : P.cellsOf e = 1) (hct : P.cellsOf t = n)
    (h : DataW.trod enc P w base sp held fuel t cs = some (.agg (ss.map fun s => .lit (.string s)), p)) : cs = ss.map fun s => Value.string ⟨s.toArray⟩ := by
  cases fuel with
  | zero => simp [DataW.trod] at h
  | succ fuel =>
    simp only [DataW.trod, ht, hce, hct, Nat.mul_one] at h
    split at h
    · rename_i hl
      obtain ⟨xs, hm, hx⟩ := Option.map_eq_some_iff.1 h
      have hxs : xs.map (·.1) = ss.map fun s => (DataW.lit (.string s) : DataW H) := by
        have := congrArg Prod.fst hx
        simpa using this
      have hxl : xs.length = n := by simpa using Lib.mapM_length hm
      have hzl : ss.length = n := by
        have := congrArg List.length hxs
        simp at this
        omega
      apply List.ext_getElem?
      intro i
      by_cases hi : i < n
      · obtain ⟨b, hb, hf⟩ := Lib.mapM_at hm i i (by simp [hi])
        obtain ⟨s, hc, rfl, _⟩ := DataW.trod_string he hf
        have h1 : cs[i]? = some (.string s) := by
          have := congrArg (·[0]?) hc
          simpa [List.getElem?_take, List.getElem?_drop] using this
        have h2 : (xs.map (·.1))[i]? = some (DataW.lit (.string s.data.toList) : DataW H) := by simp [hb]
        rw [hxs] at h2
        simp only [List.getElem?_map, Option.map_eq_some_iff, DataW.lit.injEq, Lit.string.injEq] at h2
        obtain ⟨z', hz', e'⟩ := h2
        rw [h1]
        simp [hz', e']
      · rw [List.getElem?_eq_none (by omega), List.getElem?_eq_none (by simp; omega)]
    · cases h

theorem gLabels : Tryz.prog.globalNamed "loop.example/g00618/impl.labels" = some 1 := by kernel_rfl
theorem gLabelsType : (Tryz.prog.globals[1]?).map (·.type) = some 178 := by kernel_rfl
theorem cLabels : Tryz.prog.cellsOf 178 = 13 := by kernel_rfl
theorem cWord : Tryz.prog.cellsOf 9 = 1 := by kernel_rfl
theorem gErrT : Tryz.prog.globalNamed "errors.errorType" = some 3 := by kernel_rfl
theorem rtErrT : (Tryz.prog.cutTypes.find? (·.1 == "internal/reflectlite.rtype")).map (·.2) = some 384 := by kernel_rfl
theorem rowErrT : ((List.range 466).filter fun t => Tryz.prog.rowNamed t [101, 114, 114, 111, 114]) = [160] := by kernel_rfl
theorem sizeErrT : Tryz.prog.types.size = 466 := by kernel_rfl
theorem ErrT_of {W : World} (h : handlesMet Tryz.prog [("errors.errorType", Rows.laid_errors_errorType)] W) : ErrT W := by
  obtain ⟨name, u, ty, e1, e2, e3, e4, e5⟩ := h _ (List.mem_singleton.2 rfl)
  have en : name = [101, 114, 114, 111, 114] := (Option.some.inj e1).symm
  subst en
  obtain rfl := Option.some.inj (rtErrT.symm.trans e2)
  have hm : ty ∈ (List.range 466).filter fun t => Tryz.prog.rowNamed t [101, 114, 114, 111, 114] := List.mem_filter.2 ⟨List.mem_range.2 (by rw [← sizeErrT]; exact e3), e4⟩
  rw [rowErrT] at hm
  obtain rfl := List.mem_singleton.1 hm
  have hh : typeHandle Tryz.prog 160 = .pointer (some ⟨8, 160, none⟩) := by kernel_rfl
  rw [hh] at e5
  exact ⟨by simpa using World.var?_cell gErrT e5 0⟩
noncomputable def laidWorld (os : Os) : World :=
  { World.holding Tryz.prog os ⟨#[], #[], []⟩ with heap := ((World.holding Tryz.prog os ⟨#[], #[], []⟩).heap
       |>.modify 1 (fun | .cells _ t frozen => .cells #[.string M.streamS, .string M.heardS, .string M.nonceS, .string M.signS, .string M.macS, .string M.sealS, .string M.spkiS, .string M.rollS, .string M.masterS, .string M.verifyS, .string M.finishS, .string M.upS, .string M.downS] t frozen | o => o)
       |>.modify 3 (fun | .cells _ t frozen => .cells #[.iface 384 (.agg #[.pointer (some ⟨8, 160, none⟩)])] t frozen | o => o)
    ) }
end Go.Proofs.YtlodhleihnlchaaGreatDoor
namespace Go.Proofs.YtlodhleihnlchaaGreatDoor
open Go.ChangeShapes Go.WideShapes Go.ChangeAt Go.RowKit

def listL : List (String × DataW Unit) := [("unicode/utf8.acceptRanges", Rows.laid_unicode_utf8_acceptRanges), ("loop.example/g00618/impl.labels", Rows.laid_loop_example_g00618_impl_labels), ("unicode.CaseRanges", Rows.laid_unicode_CaseRanges), ("unicode/utf8.first", Rows.laid_unicode_utf8_first)]
def listN : List (String × DataW Unit) := [("unicode/utf8.acceptRanges", Rows.laid_unicode_utf8_acceptRanges), ("unicode.CaseRanges", Rows.laid_unicode_CaseRanges), ("unicode/utf8.first", Rows.laid_unicode_utf8_first)]

theorem laid_mem {P : Program} {w : World} : ∀ (l : List (String × DataW Unit)) (ps : List MemPlace), DataW.LaidVars P w l ps → ∀ n d, (n, d) ∈ l →
    ∃ g t cs fuel p, P.globalNamed n = some g ∧ (P.globals[g]?).map (·.type) = some t ∧ w.var? P n = some cs ∧ DataW.trod (fun _ => ()) P w 0 (fun _ => true) false fuel t cs.toList = some (d, p)
  | [], _, _, n, d, h => by cases h
  | (n', d') :: r, ps, ⟨g, t, cs, fuel, p, q, h1, h2, h3, h4, h5, _⟩, n, d, h => by
    rcases List.mem_cons.1 h with e | h
    · injection e with e1 e2
      subst e1
      subst e2
      exact ⟨g, t, cs, fuel, p, h1, h2, h3, h4⟩
    · exact laid_mem r q h5 n d h
theorem witness_tabs {H : Type} {enc : TypeId × Value → H} {C : Checked} {os : Os} {f : FuncId} {fn : Func} {s : OpenSpec} {conds : List PathCond} {apart : Bool} {laid : List (String × DataW Unit)} (modest : Bool) (w0 : World) (args : Array Value) (hos : w0.os = os)
    (hsh : (w0.forCall (fun _ _ => 0) ⟨#[], args, []⟩).Shaped C.prog)
    (hok : Input.okWideB C.prog (w0.forCall (fun _ _ => 0) ⟨#[], args, []⟩) f ⟨#[], args, []⟩ = true)
    (hrow : s.preRow enc C.prog fn conds apart laid (w0.forCall (fun _ _ => 0) ⟨#[], args, []⟩).memory args) :
    ∃ (w : World) (tape : Tape) (i : Input), w.os = os ∧ (w.forCall tape i).Shaped C.prog ∧ i.vars = [] ∧ Input.okWide C.prog (w.forCall tape i) .any w.heap.size f i ∧
      s.preRow enc C.prog fn conds apart laid (w.forCall tape i).memory i.args ∧ ({ modest := modest } : Assume).holds C.prog (lone (Frame.enter C.prog f i.args .normal) [] (w.forCall tape i)) :=
  ⟨w0, fun _ _ => 0, ⟨#[], args, []⟩, hos, hsh, (Input.okWide_of_okWideB (base := 0) hok).1, (Input.okWide_of_okWideB hok).2, hrow, by
    simp only [Assume.holds]
    exact ⟨by simp, by simp, fun _ => Modest.zero, by simp, by simp⟩⟩

end Go.Proofs.YtlodhleihnlchaaGreatDoor
