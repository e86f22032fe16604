/- Contracts of the program's clients, and of its keys and finishes. Conditions: as each theorem states. -/
import Derived.Test.YtlodhleihnlchaaDoorC11a
import Derived.Test.YtlodhleihnlchaaDoorC6a
import Derived.Test.YtlodhleihnlchaaDoorC5f
import Derived.Test.YtlodhleihnlchaaDoorL11
import Derived.Laws.StructEq
import Derived.Deep.DeepCutAuto
namespace Go.Proofs.YtlodhleihnlchaaDoor
open Go.RowKit
set_option maxRecDepth 100000
set_option linter.unusedVariables false

theorem pair_eq11 (a b c d : Int) (w : World) : (Op.equalIn 10000 59 (I2 a b) (I2 c d)).run Tryd.prog w = .ok (decide (a = c ∧ b = d)) w := by
  have u3 := Tryd.underlying2
  have a3 := Tryd.isAgg2
  have z3 := Tryd.sizeOf2
  have hS : Tryd.prog.underlying 59 = some (.struct (Tryd.prog.fieldsOf 59)) := by kernel_rfl
  have hp : Tryd.prog.stoodInHeld 59 = false := by kernel_rfl
  rw [show (10000 : Nat) = 9999 + 1 from rfl, run_equalIn_agg w 9999 59 _ _ hS hp]
  simp only [Program.fieldsOf, Tryd.underlying59]
  go_simp
  by_cases h0 : a = c <;> by_cases h1 : b = d <;> simp [h0, h1]
theorem pair_neq11 (k u s : Int) (v : Bool) (h : (u != s) = v) (w : World) : (binOp .neq 59 (I2 k u) (I2 k s)).run Tryd.prog w = .ok (.bool v) w := by
  rw [run_neq_struct, pair_eq11]
  subst h
  by_cases e : u = s <;> simp [e]
theorem pair_guard11 (op : BinOp) (x y : Operand) (a b c d : Int) (w : World) : (eqGuard op 59 x y (I2 a b) (I2 c d)).run Tryd.prog w = .ok () w := run_eqGuard_agg w op 59 x y _ _ (by kernel_rfl)
theorem sta_valsI {k rd : Int} {n : ByteArray} (h : ¬ staC k rd n = 0) (v : Int) : staI k rd n v = 0 ∧ staN k rd n = { data := #[] } := by simp [staI, staN, h]
theorem keyR_no {k : Int} (h : inB k 1 1438 = false) : keyR k = (3, 0, 0) := by simp [keyR, h]
theorem keyR_yes {k : Int} (h : inB k 1 1438 = true) : keyR k = (0, k, M.pubN k) := by simp [keyR, h, M.pubN]

theorem implClientFault_any (k r s : Int) (n : ByteArray) (w : World) (hn : n.size ≤ maxLen) :
    Calls Tryd.prog 10 #[H4 k r s n] w fun e w' => e = .returned (.int .i64 (cliF k r s n)) ∧ Below w.heap.size w w' := by
  have b0 := bal (Below.refl _ w) (.cells #[.int .i64 k, .int .i64 r, .int .i64 s, .string n] 30)
  have A0 := At.new w (HL4 k r s n) 30
  have K1 := fun w => implKeyOf_any k w
  have F := fun w => implHelloFault_any r s n w hn
  cases hk : inB k 1 1438
  · rw [cliF_sec hk]
    rw [keyR_no hk] at K1
    dsimp only at K1
    go_enter Tryd.func10, Tryd.ntmps10
    go_wp2_with fail
    generalize w.alloc (.cells #[.int .i64 k, .int .i64 r, .int .i64 s, .string n] 30) = W0 at *
    refine (K1 _).mono ?_
    rintro e u1 ⟨rfl, b1⟩
    have D1 := At.new u1 [.int .i64 3, .int .i64 0, .int .i64 0] 61
    have b2 := bal b1 (.cells #[.int .i64 3, .int .i64 0, .int .i64 0] 61)
    have A2 := A0.on b2
    have B2 := btr b0 b2
    have p0 := A2.cell 0 _ rfl
    have p1 := A2.cell 1 _ rfl
    have p2 := A2.cell 2 _ rfl
    have p3 := A2.cell 3 _ rfl
    clear b1 b2 b0 A0
    go_wp2_with fail
    go_ret
    exact ⟨rfl, B2⟩
  rw [keyR_yes hk] at K1
  dsimp only at K1
  by_cases h2 : helF n.data.toList r s = 0
  · rw [h2] at F
    have g9 := pair_guard11
    by_cases h3 : M.pubN k = s
    · rw [cliF_yes hk h2 h3]
      have g8 := pair_neq11 k (M.pubN k) s false (by simpa using h3)
      generalize M.pubN k = u at *
      clear h3 h2 hk
      go_enter Tryd.func10, Tryd.ntmps10
      go_wp2_with fail
      generalize w.alloc (.cells #[.int .i64 k, .int .i64 r, .int .i64 s, .string n] 30) = W0 at *
      refine (K1 _).mono ?_
      rintro e u1 ⟨rfl, b1⟩
      have D1 := At.new u1 [.int .i64 0, .int .i64 k, .int .i64 u] 61
      have b2 := bal b1 (.cells #[.int .i64 0, .int .i64 k, .int .i64 u] 61)
      have A2 := A0.on b2
      have B2 := btr b0 b2
      have p0 := A2.cell 0 _ rfl
      have p1 := A2.cell 1 _ rfl
      have p2 := A2.cell 2 _ rfl
      have p3 := A2.cell 3 _ rfl
      clear b1 b2 b0 A0
      go_wp2_with fail
      generalize u1.alloc (.cells #[.int .i64 0, .int .i64 k, .int .i64 u] 61) = W1 at *
      refine (F _).mono ?_
      rintro e u2 ⟨rfl, b3⟩
      have B3 := btr B2 b3
      have v0 := (A2.on b3).cell 0 _ rfl
      have v1 := (A2.on b3).cell 1 _ rfl
      have v2 := (A2.on b3).cell 2 _ rfl
      have v3 := (A2.on b3).cell 3 _ rfl
      have x0 := (D1.on b3).cell 0 _ rfl
      have x1 := (D1.on b3).cell 1 _ rfl
      have x2 := (D1.on b3).cell 2 _ rfl
      clear A2 D1 b3 B2 K1 F p0 p1 p2 p3
      go_wp2_with fail
      go_ret
      exact ⟨rfl, B3⟩
    · rw [cliF_form hk h2 h3]
      have g8 := pair_neq11 k (M.pubN k) s true (by simpa using h3)
      generalize M.pubN k = u at *
      clear h3 h2 hk
      go_enter Tryd.func10, Tryd.ntmps10
      go_wp2_with fail
      generalize w.alloc (.cells #[.int .i64 k, .int .i64 r, .int .i64 s, .string n] 30) = W0 at *
      refine (K1 _).mono ?_
      rintro e u1 ⟨rfl, b1⟩
      have D1 := At.new u1 [.int .i64 0, .int .i64 k, .int .i64 u] 61
      have b2 := bal b1 (.cells #[.int .i64 0, .int .i64 k, .int .i64 u] 61)
      have A2 := A0.on b2
      have B2 := btr b0 b2
      have p0 := A2.cell 0 _ rfl
      have p1 := A2.cell 1 _ rfl
      have p2 := A2.cell 2 _ rfl
      have p3 := A2.cell 3 _ rfl
      clear b1 b2 b0 A0
      go_wp2_with fail
      generalize u1.alloc (.cells #[.int .i64 0, .int .i64 k, .int .i64 u] 61) = W1 at *
      refine (F _).mono ?_
      rintro e u2 ⟨rfl, b3⟩
      have B3 := btr B2 b3
      have v0 := (A2.on b3).cell 0 _ rfl
      have v1 := (A2.on b3).cell 1 _ rfl
      have v2 := (A2.on b3).cell 2 _ rfl
      have v3 := (A2.on b3).cell 3 _ rfl
      have x0 := (D1.on b3).cell 0 _ rfl
      have x1 := (D1.on b3).cell 1 _ rfl
      have x2 := (D1.on b3).cell 2 _ rfl
      clear A2 D1 b3 B2 K1 F p0 p1 p2 p3
      go_wp2_with fail
      go_ret
      exact ⟨rfl, B3⟩
  · rw [cliF_hel hk h2]
    generalize M.pubN k = u at *
    generalize helF n.data.toList r s = c at *
    have e3 : (c != 0) = true := by simpa using h2
    go_enter Tryd.func10, Tryd.ntmps10
    go_wp2_with fail
    generalize w.alloc (.cells #[.int .i64 k, .int .i64 r, .int .i64 s, .string n] 30) = W0 at *
    refine (K1 _).mono ?_
    rintro e u1 ⟨rfl, b1⟩
    have D1 := At.new u1 [.int .i64 0, .int .i64 k, .int .i64 u] 61
    have b2 := bal b1 (.cells #[.int .i64 0, .int .i64 k, .int .i64 u] 61)
    have A2 := A0.on b2
    have B2 := btr b0 b2
    have p0 := A2.cell 0 _ rfl
    have p1 := A2.cell 1 _ rfl
    have p2 := A2.cell 2 _ rfl
    have p3 := A2.cell 3 _ rfl
    clear b1 b2 b0 A0
    go_wp2_with fail
    generalize u1.alloc (.cells #[.int .i64 0, .int .i64 k, .int .i64 u] 61) = W1 at *
    refine (F _).mono ?_
    rintro e u2 ⟨rfl, b3⟩
    have B3 := btr B2 b3
    go_wp2_with fail
    go_ret
    exact ⟨rfl, B3⟩

theorem keysBy_any (b : Nat) (m he pb : Int) (w : World) (lab : Labels w) (hA : At b [.int .i64 m] w) (hm : M.sumB m = true) :
    Calls Tryd.prog 35 #[walkV b, .int .i64 he, .int .i64 pb] w fun e w' => e = .returned (K4 (M.tagL M.upS [m]) (M.tagL M.downS [m]) he pb) ∧ Below w.heap.size w w' := by
  have b0 := bal (Below.refl _ w) (.cells #[.int .i64 0, .int .i64 0, .int .i64 0, .int .i64 0] 43)
  have A0 := At.new w (KL4 0 0 0 0) 43
  have L0 := lab.on b0
  have X0 := hA.on b0
  have U := fun w L A => walk_up b m w L A hm
  have D := fun w L A => walk_down b m w L A hm
  generalize M.tagL M.upS [m] = u at *
  generalize M.tagL M.downS [m] = d at *
  clear lab hA
  go_enter Tryd.func35, Tryd.ntmps35
  go_wp2_with fail
  generalize w.alloc (.cells #[.int .i64 0, .int .i64 0, .int .i64 0, .int .i64 0] 43) = W0 at *
  refine (U _ L0 X0).mono ?_
  rintro e u1 ⟨rfl, b1⟩
  go_wp2_with fail
  refine (D _ (L0.on b1) (X0.on b1)).mono ?_
  rintro e u2 ⟨rfl, b2⟩
  have b12 := btr b1 b2
  have q0 := (A0.on b12).cell 0 _ rfl
  have q1 := (A0.on b12).cell 1 _ rfl
  have q2 := (A0.on b12).cell 2 _ rfl
  have q3 := (A0.on b12).cell 3 _ rfl
  have z0 := (A0.on b12).free 0 _ rfl
  have z1 := (A0.on b12).free 1 _ rfl
  have z2 := (A0.on b12).free 2 _ rfl
  have z3 := (A0.on b12).free 3 _ rfl
  have HB := Lib.hid (btr b0 b12)
  clear A0 b0 b1 b2 b12 U D L0 X0
  go_wp2_with fail
  refine bodyPost_ret (v := K4 u d he pb) (by simp [results, Tryd.results35, go_sem, q0, q1, q2, q3]) rfl ⟨rfl, ?_⟩
  exact (by (iterate 4 (refine bset ?_ (by dsimp only; omega) _)); exact HB.out)
theorem implFinishOf_any (sh he : Int) (w : World) (lab : Labels w) :
    Calls Tryd.prog 18 #[.int .i64 sh, .int .i64 he] w fun e w' => e = .returned (I2 (finR sh he).1 (finR sh he).2) ∧ Below w.heap.size w w' := by
  have b0 := bal (Below.refl _ w) (.cells #[.int .i64 0, .int .i64 0] 50)
  have A0 := At.new w [.int .i64 0, .int .i64 0] 50
  have L0 := lab.on b0
  clear lab
  cases hs : pubB sh
  · rw [show finR sh he = (3, 0) by simp [finR, hs]]
    go_enter Tryd.func18, Tryd.ntmps18
    go_wp2_with fail
    generalize w.alloc (.cells #[.int .i64 0, .int .i64 0] 50) = W0 at *
    refine (implIsPublic_any _ _).mono ?_
    rintro e u1 ⟨rfl, b1⟩
    have q0 := (A0.on b1).cell 0 _ rfl
    have q1 := (A0.on b1).cell 1 _ rfl
    have z0 := (A0.on b1).free 0 _ rfl
    have z1 := (A0.on b1).free 1 _ rfl
    have HB := Lib.hid (btr b0 b1)
    clear A0 b0 b1 L0
    go_wp2_with fail
    refine bodyPost_ret (v := I2 3 0) (by simp [results, Tryd.results18, go_sem, q0, q1]) rfl ⟨rfl, ?_⟩
    exact (by (iterate 2 (refine bset ?_ (by dsimp only; omega) _)); exact HB.out)
  cases hh : M.sumB he
  · rw [show finR sh he = (3, 0) by simp [finR, hh]]
    go_enter Tryd.func18, Tryd.ntmps18
    go_wp2_with fail
    generalize w.alloc (.cells #[.int .i64 0, .int .i64 0] 50) = W0 at *
    refine (implIsPublic_any _ _).mono ?_
    rintro e u1 ⟨rfl, b1⟩
    go_wp2_with fail
    refine (isSum_any _ _).mono ?_
    rintro r w' ⟨rfl, rfl⟩
    have q0 := (A0.on b1).cell 0 _ rfl
    have q1 := (A0.on b1).cell 1 _ rfl
    have z0 := (A0.on b1).free 0 _ rfl
    have z1 := (A0.on b1).free 1 _ rfl
    have HB := Lib.hid (btr b0 b1)
    clear A0 b0 b1 L0
    go_wp2_with fail
    refine bodyPost_ret (v := I2 3 0) (by simp [results, Tryd.results18, go_sem, q0, q1]) rfl ⟨rfl, ?_⟩
    exact (by (iterate 2 (refine bset ?_ (by dsimp only; omega) _)); exact HB.out)
  rw [show finR sh he = (0, finN sh he) by simp [finR, hs, hh]]
  have W := fun w L => walkFrom_any sh he w L (pub_sum6 hs) hh
  have hm := masterN_sum sh he
  unfold finN
  generalize masterN sh he = m at *
  have D := fun b w L A => walk_fin b m w L A hm
  generalize M.tagL M.finishS [m] = f at *
  go_enter Tryd.func18, Tryd.ntmps18
  go_wp2_with fail
  generalize w.alloc (.cells #[.int .i64 0, .int .i64 0] 50) = W0 at *
  refine (implIsPublic_any _ _).mono ?_
  rintro e u1 ⟨rfl, b1⟩
  go_wp2_with fail
  refine (isSum_any _ _).mono ?_
  rintro r w' ⟨rfl, rfl⟩
  go_wp2_with fail
  refine (W _ (L0.on b1)).mono ?_
  rintro e u2 ⟨g, rfl, X2, b2⟩
  have b12 := btr b1 b2
  go_wp2_with fail
  refine (D g _ (L0.on b12) X2).mono ?_
  rintro e u3 ⟨rfl, b3⟩
  have b13 := btr b12 b3
  have q0 := (A0.on b13).cell 0 _ rfl
  have q1 := (A0.on b13).cell 1 _ rfl
  have z0 := (A0.on b13).free 0 _ rfl
  have z1 := (A0.on b13).free 1 _ rfl
  have HB := Lib.hid (btr b0 b13)
  clear A0 b0 b1 b2 b3 b12 b13 L0 W D X2
  go_wp2_with fail
  refine bodyPost_ret (v := I2 0 f) (by simp [results, Tryd.results18, go_sem, q0, q1]) rfl ⟨rfl, ?_⟩
  exact (by (iterate 2 (refine bset ?_ (by dsimp only; omega) _)); exact HB.out)
theorem implKeysOf_any (sh he pb : Int) (w : World) (lab : Labels w) :
    Calls Tryd.prog 15 #[.int .i64 sh, .int .i64 he, .int .i64 pb] w fun e w' => e = .returned (T11 (keysT sh he pb)) ∧ Below w.heap.size w w' := by
  have b0 := bal (Below.refl _ w) (.cells #[.int .i64 0, .int .i64 0, .int .i64 0, .int .i64 0, .int .i64 0, .int .i64 0, .int .i64 0, .int .i64 0, .int .i64 0, .int .i64 0, .int .i64 0] 45)
  have A0 := At.new w [.int .i64 0, .int .i64 0, .int .i64 0, .int .i64 0, .int .i64 0, .int .i64 0, .int .i64 0, .int .i64 0, .int .i64 0, .int .i64 0, .int .i64 0] 45
  have L0 := lab.on b0
  clear lab
  cases hs : pubB sh
  · rw [keysT_no (show keysB sh he pb = false by simp [keysB, hs])]
    go_enter Tryd.func15, Tryd.ntmps15
    go_wp2_with fail
    generalize w.alloc (.cells #[.int .i64 0, .int .i64 0, .int .i64 0, .int .i64 0, .int .i64 0, .int .i64 0, .int .i64 0, .int .i64 0, .int .i64 0, .int .i64 0, .int .i64 0] 45) = W0 at *
    refine (implIsPublic_any _ _).mono ?_
    rintro e u1 ⟨rfl, b1⟩
    have q0 := (A0.on b1).cell 0 _ rfl
    have q1 := (A0.on b1).cell 1 _ rfl
    have q2 := (A0.on b1).cell 2 _ rfl
    have q3 := (A0.on b1).cell 3 _ rfl
    have q4 := (A0.on b1).cell 4 _ rfl
    have q5 := (A0.on b1).cell 5 _ rfl
    have q6 := (A0.on b1).cell 6 _ rfl
    have q7 := (A0.on b1).cell 7 _ rfl
    have q8 := (A0.on b1).cell 8 _ rfl
    have q9 := (A0.on b1).cell 9 _ rfl
    have q10 := (A0.on b1).cell 10 _ rfl
    have z0 := (A0.on b1).free 0 _ rfl
    have z1 := (A0.on b1).free 1 _ rfl
    have z2 := (A0.on b1).free 2 _ rfl
    have z3 := (A0.on b1).free 3 _ rfl
    have z4 := (A0.on b1).free 4 _ rfl
    have z5 := (A0.on b1).free 5 _ rfl
    have z6 := (A0.on b1).free 6 _ rfl
    have z7 := (A0.on b1).free 7 _ rfl
    have z8 := (A0.on b1).free 8 _ rfl
    have z9 := (A0.on b1).free 9 _ rfl
    have z10 := (A0.on b1).free 10 _ rfl
    have HB := Lib.hid (btr b0 b1)
    clear A0 b0 b1 L0
    go_wp2_with fail
    refine bodyPost_ret (v := .agg #[.int .i64 3, .int .i64 0, .int .i64 0, .int .i64 0, .int .i64 0, .int .i64 0, .int .i64 0, .int .i64 0, .int .i64 0, .int .i64 0, .int .i64 0]) (by simp [results, Tryd.results15, go_sem, q0, q1, q2, q3, q4, q5, q6, q7, q8, q9, q10]) rfl ⟨rfl, ?_⟩
    exact (by (iterate 11 (refine bset ?_ (by dsimp only; omega) _)); exact HB.out)
  cases hh : M.sumB he
  · rw [keysT_no (show keysB sh he pb = false by simp [keysB, hh])]
    go_enter Tryd.func15, Tryd.ntmps15
    go_wp2_with fail
    generalize w.alloc (.cells #[.int .i64 0, .int .i64 0, .int .i64 0, .int .i64 0, .int .i64 0, .int .i64 0, .int .i64 0, .int .i64 0, .int .i64 0, .int .i64 0, .int .i64 0] 45) = W0 at *
    refine (implIsPublic_any _ _).mono ?_
    rintro e u1 ⟨rfl, b1⟩
    go_wp2_with fail
    refine (isSum_any _ _).mono ?_
    rintro r w' ⟨rfl, rfl⟩
    have q0 := (A0.on b1).cell 0 _ rfl
    have q1 := (A0.on b1).cell 1 _ rfl
    have q2 := (A0.on b1).cell 2 _ rfl
    have q3 := (A0.on b1).cell 3 _ rfl
    have q4 := (A0.on b1).cell 4 _ rfl
    have q5 := (A0.on b1).cell 5 _ rfl
    have q6 := (A0.on b1).cell 6 _ rfl
    have q7 := (A0.on b1).cell 7 _ rfl
    have q8 := (A0.on b1).cell 8 _ rfl
    have q9 := (A0.on b1).cell 9 _ rfl
    have q10 := (A0.on b1).cell 10 _ rfl
    have z0 := (A0.on b1).free 0 _ rfl
    have z1 := (A0.on b1).free 1 _ rfl
    have z2 := (A0.on b1).free 2 _ rfl
    have z3 := (A0.on b1).free 3 _ rfl
    have z4 := (A0.on b1).free 4 _ rfl
    have z5 := (A0.on b1).free 5 _ rfl
    have z6 := (A0.on b1).free 6 _ rfl
    have z7 := (A0.on b1).free 7 _ rfl
    have z8 := (A0.on b1).free 8 _ rfl
    have z9 := (A0.on b1).free 9 _ rfl
    have z10 := (A0.on b1).free 10 _ rfl
    have HB := Lib.hid (btr b0 b1)
    clear A0 b0 b1 L0
    go_wp2_with fail
    refine bodyPost_ret (v := .agg #[.int .i64 3, .int .i64 0, .int .i64 0, .int .i64 0, .int .i64 0, .int .i64 0, .int .i64 0, .int .i64 0, .int .i64 0, .int .i64 0, .int .i64 0]) (by simp [results, Tryd.results15, go_sem, q0, q1, q2, q3, q4, q5, q6, q7, q8, q9, q10]) rfl ⟨rfl, ?_⟩
    exact (by (iterate 11 (refine bset ?_ (by dsimp only; omega) _)); exact HB.out)
  cases hp : pubB pb
  · rw [keysT_no (show keysB sh he pb = false by simp [keysB, hp])]
    go_enter Tryd.func15, Tryd.ntmps15
    go_wp2_with fail
    generalize w.alloc (.cells #[.int .i64 0, .int .i64 0, .int .i64 0, .int .i64 0, .int .i64 0, .int .i64 0, .int .i64 0, .int .i64 0, .int .i64 0, .int .i64 0, .int .i64 0] 45) = W0 at *
    refine (implIsPublic_any _ _).mono ?_
    rintro e u1 ⟨rfl, b1⟩
    go_wp2_with fail
    refine (isSum_any _ _).mono ?_
    rintro r w' ⟨rfl, rfl⟩
    go_wp2_with fail
    refine (implIsPublic_any _ _).mono ?_
    rintro e u2 ⟨rfl, b2⟩
    have b12 := btr b1 b2
    have q0 := (A0.on b12).cell 0 _ rfl
    have q1 := (A0.on b12).cell 1 _ rfl
    have q2 := (A0.on b12).cell 2 _ rfl
    have q3 := (A0.on b12).cell 3 _ rfl
    have q4 := (A0.on b12).cell 4 _ rfl
    have q5 := (A0.on b12).cell 5 _ rfl
    have q6 := (A0.on b12).cell 6 _ rfl
    have q7 := (A0.on b12).cell 7 _ rfl
    have q8 := (A0.on b12).cell 8 _ rfl
    have q9 := (A0.on b12).cell 9 _ rfl
    have q10 := (A0.on b12).cell 10 _ rfl
    have z0 := (A0.on b12).free 0 _ rfl
    have z1 := (A0.on b12).free 1 _ rfl
    have z2 := (A0.on b12).free 2 _ rfl
    have z3 := (A0.on b12).free 3 _ rfl
    have z4 := (A0.on b12).free 4 _ rfl
    have z5 := (A0.on b12).free 5 _ rfl
    have z6 := (A0.on b12).free 6 _ rfl
    have z7 := (A0.on b12).free 7 _ rfl
    have z8 := (A0.on b12).free 8 _ rfl
    have z9 := (A0.on b12).free 9 _ rfl
    have z10 := (A0.on b12).free 10 _ rfl
    have HB := Lib.hid (btr b0 b12)
    clear A0 b0 b1 b2 b12 L0
    go_wp2_with fail
    refine bodyPost_ret (v := .agg #[.int .i64 3, .int .i64 0, .int .i64 0, .int .i64 0, .int .i64 0, .int .i64 0, .int .i64 0, .int .i64 0, .int .i64 0, .int .i64 0, .int .i64 0]) (by simp [results, Tryd.results15, go_sem, q0, q1, q2, q3, q4, q5, q6, q7, q8, q9, q10]) rfl ⟨rfl, ?_⟩
    exact (by (iterate 11 (refine bset ?_ (by dsimp only; omega) _)); exact HB.out)
  rw [keysT_yes (show keysB sh he pb = true by simp [keysB, hs, hh, hp])]
  have W := fun w L => walkFrom_any sh he w L (pub_sum6 hs) hh
  have hm := masterN_sum sh he
  unfold keysK upN downN
  generalize masterN sh he = m at *
  have D := fun b w L A => keysBy_any b m he pb w L A hm
  generalize M.tagL M.upS [m] = u at *
  generalize M.tagL M.downS [m] = d at *
  go_enter Tryd.func15, Tryd.ntmps15
  go_wp2_with fail
  generalize w.alloc (.cells #[.int .i64 0, .int .i64 0, .int .i64 0, .int .i64 0, .int .i64 0, .int .i64 0, .int .i64 0, .int .i64 0, .int .i64 0, .int .i64 0, .int .i64 0] 45) = W0 at *
  refine (implIsPublic_any _ _).mono ?_
  rintro e u1 ⟨rfl, b1⟩
  go_wp2_with fail
  refine (isSum_any _ _).mono ?_
  rintro r w' ⟨rfl, rfl⟩
  go_wp2_with fail
  refine (implIsPublic_any _ _).mono ?_
  rintro e u2 ⟨rfl, b2⟩
  have b12 := btr b1 b2
  go_wp2_with fail
  refine (W _ (L0.on b12)).mono ?_
  rintro e u3 ⟨g, rfl, X3, b3⟩
  have b13 := btr b12 b3
  go_wp2_with fail
  refine (D g _ (L0.on b13) X3).mono ?_
  rintro e u4 ⟨rfl, b4⟩
  have b14 := btr b13 b4
  have q0 := (A0.on b14).cell 0 _ rfl
  have q1 := (A0.on b14).cell 1 _ rfl
  have q2 := (A0.on b14).cell 2 _ rfl
  have q3 := (A0.on b14).cell 3 _ rfl
  have q4 := (A0.on b14).cell 4 _ rfl
  have q5 := (A0.on b14).cell 5 _ rfl
  have q6 := (A0.on b14).cell 6 _ rfl
  have q7 := (A0.on b14).cell 7 _ rfl
  have q8 := (A0.on b14).cell 8 _ rfl
  have q9 := (A0.on b14).cell 9 _ rfl
  have q10 := (A0.on b14).cell 10 _ rfl
  have z0 := (A0.on b14).free 0 _ rfl
  have z1 := (A0.on b14).free 1 _ rfl
  have z2 := (A0.on b14).free 2 _ rfl
  have z3 := (A0.on b14).free 3 _ rfl
  have z4 := (A0.on b14).free 4 _ rfl
  have z5 := (A0.on b14).free 5 _ rfl
  have z6 := (A0.on b14).free 6 _ rfl
  have z7 := (A0.on b14).free 7 _ rfl
  have z8 := (A0.on b14).free 8 _ rfl
  have z9 := (A0.on b14).free 9 _ rfl
  have z10 := (A0.on b14).free 10 _ rfl
  have HB := Lib.hid (btr b0 b14)
  clear A0 b0 b1 b2 b3 b4 b12 b13 b14 L0 W D X3
  go_wp2_with fail
  refine bodyPost_ret (v := .agg #[.int .i64 0, .int .i64 0, .int .i64 0, .int .i64 0, .int .i64 0, .int .i64 0, .int .i64 0, .int .i64 u, .int .i64 d, .int .i64 he, .int .i64 pb]) (by simp [results, Tryd.results15, go_sem, q0, q1, q2, q3, q4, q5, q6, q7, q8, q9, q10]) rfl ⟨rfl, ?_⟩
  exact (by (iterate 11 (refine bset ?_ (by dsimp only; omega) _)); exact HB.out)

theorem implStartClient_any (k rd : Int) (n : ByteArray) (w : World) (hn : n.size ≤ maxLen) :
    Calls Tryd.prog 12 #[.int .i64 k, .int .i64 rd, .string n] w fun e w' => e = .returned (C5 (staC k rd n) (staI k rd n k) (staI k rd n rd) (staI k rd n (M.pubN k)) (staN k rd n)) ∧ Below w.heap.size w w' := by
  have b0 := bal (Below.refl _ w) (.cells #[.int .i64 0, .int .i64 0, .int .i64 0, .int .i64 0, .string { data := #[] }] 34)
  have A0 := At.new w (CL5 0 0 0 0 { data := #[] }) 34
  have K1 := fun w => implKeyOf_any k w
  have F := fun w => implNormalName_any n w hn
  cases hk : inB k 1 1438
  · have h := staC_no (n := n) (show (inB k 1 1438 && M.sumB rd) = false by rw [hk]; rfl)
    have hc : ¬ staC k rd n = 0 := by rw [h]; omega
    rw [(sta_valsI hc k).1, (sta_valsI hc rd).1, (sta_valsI hc (M.pubN k)).1, (sta_valsI hc k).2, h]
    rw [keyR_no hk] at K1
    dsimp only at K1
    clear h hc
    go_enter Tryd.func12, Tryd.ntmps12
    go_wp2_with fail
    generalize w.alloc (.cells #[.int .i64 0, .int .i64 0, .int .i64 0, .int .i64 0, .string { data := #[] }] 34) = W0 at *
    refine (K1 _).mono ?_
    rintro e u1 ⟨rfl, b1⟩
    have D1 := At.new u1 [.int .i64 3, .int .i64 0, .int .i64 0] 61
    have b2 := bal b1 (.cells #[.int .i64 3, .int .i64 0, .int .i64 0] 61)
    have A2 := A0.on b2
    have B2 := btr b0 b2
    clear b1 b2 b0 A0
    go_upto_region 2 with fail
    generalize u1.alloc (.cells #[.int .i64 3, .int .i64 0, .int .i64 0] 61) = W1 at *
    have v0 := D1.cell 0 _ rfl
    have v1 := D1.cell 1 _ rfl
    have v2 := D1.cell 2 _ rfl
    have q0 := (A2).cell 0 _ rfl
    have q1 := (A2).cell 1 _ rfl
    have q2 := (A2).cell 2 _ rfl
    have q3 := (A2).cell 3 _ rfl
    have q4 := (A2).cell 4 _ rfl
    have z0 := (A2).free 0 _ rfl
    have z1 := (A2).free 1 _ rfl
    have z2 := (A2).free 2 _ rfl
    have z3 := (A2).free 3 _ rfl
    have z4 := (A2).free 4 _ rfl
    have HB := Lib.hid (B2)
    clear A2 B2 K1 F D1
    go_wp2_with fail
    refine bodyPost_ret (v := C5 3 0 0 0 { data := #[] }) (by simp [results, Tryd.results12, go_sem, q0, q1, q2, q3, q4]) rfl ⟨rfl, ?_⟩
    exact (by (iterate 5 (refine bset ?_ (by dsimp only; omega) _)); exact HB.out)
  rw [keyR_yes hk] at K1
  dsimp only at K1
  cases hr : M.sumB rd
  · have h := staC_no (n := n) (show (inB k 1 1438 && M.sumB rd) = false by rw [hk, hr]; rfl)
    have hc : ¬ staC k rd n = 0 := by rw [h]; omega
    rw [(sta_valsI hc k).1, (sta_valsI hc rd).1, (sta_valsI hc (M.pubN k)).1, (sta_valsI hc k).2, h]
    generalize M.pubN k = u at *
    clear h hc
    go_enter Tryd.func12, Tryd.ntmps12
    go_wp2_with fail
    generalize w.alloc (.cells #[.int .i64 0, .int .i64 0, .int .i64 0, .int .i64 0, .string { data := #[] }] 34) = W0 at *
    refine (K1 _).mono ?_
    rintro e u1 ⟨rfl, b1⟩
    have D1 := At.new u1 [.int .i64 0, .int .i64 k, .int .i64 u] 61
    have b2 := bal b1 (.cells #[.int .i64 0, .int .i64 k, .int .i64 u] 61)
    have A2 := A0.on b2
    have B2 := btr b0 b2
    clear b1 b2 b0 A0
    go_upto_region 2 with fail
    generalize u1.alloc (.cells #[.int .i64 0, .int .i64 k, .int .i64 u] 61) = W1 at *
    have v0 := D1.cell 0 _ rfl
    have v1 := D1.cell 1 _ rfl
    have v2 := D1.cell 2 _ rfl
    go_wp2_with fail
    refine (isSum_any _ _).mono ?_
    rintro r w' ⟨rfl, rfl⟩
    have q0 := (A2).cell 0 _ rfl
    have q1 := (A2).cell 1 _ rfl
    have q2 := (A2).cell 2 _ rfl
    have q3 := (A2).cell 3 _ rfl
    have q4 := (A2).cell 4 _ rfl
    have z0 := (A2).free 0 _ rfl
    have z1 := (A2).free 1 _ rfl
    have z2 := (A2).free 2 _ rfl
    have z3 := (A2).free 3 _ rfl
    have z4 := (A2).free 4 _ rfl
    have HB := Lib.hid (B2)
    clear A2 B2 K1 F D1 v0 v1 v2
    go_wp2_with fail
    refine bodyPost_ret (v := C5 3 0 0 0 { data := #[] }) (by simp [results, Tryd.results12, go_sem, q0, q1, q2, q3, q4]) rfl ⟨rfl, ?_⟩
    exact (by (iterate 5 (refine bset ?_ (by dsimp only; omega) _)); exact HB.out)
  have h := staC_yes (n := n) (show (inB k 1 1438 && M.sumB rd) = true by rw [hk, hr]; rfl)
  by_cases h0 : M.nameF n.data.toList = 0
  · have hc : staC k rd n = 0 := by rw [h]; exact h0
    have e1 : ∀ v, staI k rd n v = v := fun v => by simp [staI, hc]
    have e2 : staN k rd n = M.bs (M.nrm n.data.toList) := by simp [staN, hc]
    rw [e1, e1, e1, e2, hc]
    rw [M.nrmT_yes h0, h0] at F
    generalize M.bs (M.nrm n.data.toList) = m at *
    generalize M.pubN k = u at *
    clear e1 e2 h hc h0
    go_enter Tryd.func12, Tryd.ntmps12
    go_wp2_with fail
    generalize w.alloc (.cells #[.int .i64 0, .int .i64 0, .int .i64 0, .int .i64 0, .string { data := #[] }] 34) = W0 at *
    refine (K1 _).mono ?_
    rintro e u1 ⟨rfl, b1⟩
    have D1 := At.new u1 [.int .i64 0, .int .i64 k, .int .i64 u] 61
    have b2 := bal b1 (.cells #[.int .i64 0, .int .i64 k, .int .i64 u] 61)
    have A2 := A0.on b2
    have B2 := btr b0 b2
    clear b1 b2 b0 A0
    go_upto_region 2 with fail
    generalize u1.alloc (.cells #[.int .i64 0, .int .i64 k, .int .i64 u] 61) = W1 at *
    have v0 := D1.cell 0 _ rfl
    have v1 := D1.cell 1 _ rfl
    have v2 := D1.cell 2 _ rfl
    go_wp2_with fail
    refine (isSum_any _ _).mono ?_
    rintro r w' ⟨rfl, rfl⟩
    go_wp2_with fail
    refine (F _).mono ?_
    rintro e u2 ⟨rfl, b3⟩
    have b4 := bal b3 (.cells #[.int .i64 0, .string m] 68)
    have X4 := At.new u2 [.int .i64 0, .string m] 68
    have A4 := A2.on b4
    have D4 := D1.on b4
    have B4 := btr B2 b4
    clear b3 b4 A2 D1 B2 v0 v1 v2
    go_upto_region 5 with fail
    generalize u2.alloc (.cells #[.int .i64 0, .string m] 68) = W2 at *
    have v0 := D4.cell 0 _ rfl
    have v1 := D4.cell 1 _ rfl
    have v2 := D4.cell 2 _ rfl
    have x0 := X4.cell 0 _ rfl
    have x1 := X4.cell 1 _ rfl
    have X5 := At.new W2 [.int .i64 rd, .int .i64 u, .string m] 28
    have B5 := bal B4 (.cells #[.int .i64 rd, .int .i64 u, .string m] 28)
    have A5 := A4.alloc (.cells #[.int .i64 rd, .int .i64 u, .string m] 28)
    go_upto_region 8 with fail
    generalize W2.alloc (.cells #[.int .i64 rd, .int .i64 u, .string m] 28) = W3 at *
    have y0 := X5.cell 0 _ rfl
    have y1 := X5.cell 1 _ rfl
    have y2 := X5.cell 2 _ rfl
    have q0 := (A5).cell 0 _ rfl
    have q1 := (A5).cell 1 _ rfl
    have q2 := (A5).cell 2 _ rfl
    have q3 := (A5).cell 3 _ rfl
    have q4 := (A5).cell 4 _ rfl
    have z0 := (A5).free 0 _ rfl
    have z1 := (A5).free 1 _ rfl
    have z2 := (A5).free 2 _ rfl
    have z3 := (A5).free 3 _ rfl
    have z4 := (A5).free 4 _ rfl
    have HB := Lib.hid (B5)
    clear A4 A5 D4 X4 X5 B4 B5 K1 F v0 v1 v2 x0 x1
    go_wp2_with fail
    refine bodyPost_ret (v := C5 0 k rd u m) (by simp [results, Tryd.results12, go_sem, q0, q1, q2, q3, q4]) rfl ⟨rfl, ?_⟩
    exact (by (iterate 5 (refine bset ?_ (by dsimp only; omega) _)); exact HB.out)
  · have hc : ¬ staC k rd n = 0 := by rw [h]; exact h0
    rw [(sta_valsI hc k).1, (sta_valsI hc rd).1, (sta_valsI hc (M.pubN k)).1, (sta_valsI hc k).2, h]
    rw [M.nrmT_no h0, show M.bs [] = { data := #[] } from rfl] at F
    generalize M.pubN k = u at *
    generalize M.nameF n.data.toList = c at *
    have e3 : (c != 0) = true := by simpa using h0
    clear h hc h0
    go_enter Tryd.func12, Tryd.ntmps12
    go_wp2_with fail
    generalize w.alloc (.cells #[.int .i64 0, .int .i64 0, .int .i64 0, .int .i64 0, .string { data := #[] }] 34) = W0 at *
    refine (K1 _).mono ?_
    rintro e u1 ⟨rfl, b1⟩
    have D1 := At.new u1 [.int .i64 0, .int .i64 k, .int .i64 u] 61
    have b2 := bal b1 (.cells #[.int .i64 0, .int .i64 k, .int .i64 u] 61)
    have A2 := A0.on b2
    have B2 := btr b0 b2
    clear b1 b2 b0 A0
    go_upto_region 2 with fail
    generalize u1.alloc (.cells #[.int .i64 0, .int .i64 k, .int .i64 u] 61) = W1 at *
    have v0 := D1.cell 0 _ rfl
    have v1 := D1.cell 1 _ rfl
    have v2 := D1.cell 2 _ rfl
    go_wp2_with fail
    refine (isSum_any _ _).mono ?_
    rintro r w' ⟨rfl, rfl⟩
    go_wp2_with fail
    refine (F _).mono ?_
    rintro e u2 ⟨rfl, b3⟩
    have b4 := bal b3 (.cells #[.int .i64 c, .string { data := #[] }] 68)
    have X4 := At.new u2 [.int .i64 c, .string { data := #[] }] 68
    have A4 := A2.on b4
    have D4 := D1.on b4
    have B4 := btr B2 b4
    clear b3 b4 A2 D1 B2 v0 v1 v2
    go_upto_region 5 with fail
    generalize u2.alloc (.cells #[.int .i64 c, .string { data := #[] }] 68) = W2 at *
    have v0 := D4.cell 0 _ rfl
    have v1 := D4.cell 1 _ rfl
    have v2 := D4.cell 2 _ rfl
    have x0 := X4.cell 0 _ rfl
    have x1 := X4.cell 1 _ rfl
    have q0 := (A4).cell 0 _ rfl
    have q1 := (A4).cell 1 _ rfl
    have q2 := (A4).cell 2 _ rfl
    have q3 := (A4).cell 3 _ rfl
    have q4 := (A4).cell 4 _ rfl
    have z0 := (A4).free 0 _ rfl
    have z1 := (A4).free 1 _ rfl
    have z2 := (A4).free 2 _ rfl
    have z3 := (A4).free 3 _ rfl
    have z4 := (A4).free 4 _ rfl
    have HB := Lib.hid (B4)
    clear A4 D4 X4 B4 K1 F
    go_wp2_with fail
    refine bodyPost_ret (v := C5 c 0 0 0 { data := #[] }) (by simp [results, Tryd.results12, go_sem, q0, q1, q2, q3, q4]) rfl ⟨rfl, ?_⟩
    exact (by (iterate 5 (refine bset ?_ (by dsimp only; omega) _)); exact HB.out)
end Go.Proofs.YtlodhleihnlchaaDoor
