/- Contracts of rollovers by the model: what is wrong with one, what is signed, how one is signed, whether it may follow. Conditions: as each theorem states. -/
import Derived.Test.YtmdknbgpddnplaaDoorG8
import Derived.Test.YtmdknbgpddnplaaDoorC3e
import Derived.Test.YtmdknbgpddnplaaDoorC7b
namespace Go.Proofs.YtmdknbgpddnplaaDoor
open Go.RowKit
set_option maxRecDepth 100000
set_option linter.unusedVariables false

theorem At.pin {g : Nat} {r : RollD} {w : World} (A : At g r.vals w) : At g r.p.vals w := by
  have e : r.vals = r.p.vals ++ [.int .i64 r.b, .int .i64 r.x, .int .i64 r.y] := rfl
  have k : ∀ i v, r.p.vals[i]? = some v → r.vals[i]? = some v := fun i v h => by
    rw [e, List.getElem?_append_left (List.getElem?_eq_some_iff.1 h).1]
    exact h
  exact ⟨fun i v h => A.cell i v (k i v h), fun i v h => A.free i v (k i v h)⟩
theorem l8Fault_any (g : Nat) (r : RollD) (w : World) (A : At g r.vals w) (hn : r.p.n.size ≤ maxLen) :
    Calls Tryd.prog 14 #[.pointer (some ⟨g, 0, none⟩)] w fun e w' => e = .returned (.int .i64 r.f) ∧ Below w.heap.size w w' := by
  have F := fun w (A : At g r.p.vals w) => l7Fault_any g r.p w A hn
  by_cases h0 : r.p.f = 0
  · rw [h0] at F
    cases h1 : pubB r.b
    · rw [rollF_by h0 h1]
      go_enter Tryd.func14, Tryd.ntmps14
      go_wp2_with fail
      refine (F _ A.pin).mono ?_
      rintro e u1 ⟨rfl, b1⟩
      have c5 := (A.on b1).cell 5 _ rfl
      have c6 := (A.on b1).cell 6 _ rfl
      have c7 := (A.on b1).cell 7 _ rfl
      clear F
      go_wp2_with fail
      refine (l1Public_any _ _).mono ?_
      rintro r w' ⟨rfl, rfl⟩
      go_wp2_with fail
      go_ret
      exact ⟨rfl, b1⟩
    · rw [rollF_sig h0 h1]
      have S := fun w c6 c7 => l3Fault_at g 6 r.x r.y w c6 c7
      generalize M.sigF r.x r.y = c at *
      go_enter Tryd.func14, Tryd.ntmps14
      go_wp2_with fail
      refine (F _ A.pin).mono ?_
      rintro e u1 ⟨rfl, b1⟩
      have c5 := (A.on b1).cell 5 _ rfl
      have c6 := (A.on b1).cell 6 _ rfl
      have c7 := (A.on b1).cell 7 _ rfl
      clear F
      go_wp2_with fail
      refine (l1Public_any _ _).mono ?_
      rintro r w' ⟨rfl, rfl⟩
      go_wp2_with fail
      refine (S _ c6 c7).mono ?_
      rintro r w' ⟨rfl, rfl⟩
      go_wp2_with fail
      go_ret
      exact ⟨rfl, b1⟩
  · rw [rollF_pin h0]
    generalize r.p.f = c at *
    have q0 : (c == 0) = false := by simpa using h0
    go_enter Tryd.func14, Tryd.ntmps14
    go_wp2_with fail
    refine (F _ A.pin).mono ?_
    rintro e u1 ⟨rfl, b1⟩
    have c5 := (A.on b1).cell 5 _ rfl
    have c6 := (A.on b1).cell 6 _ rfl
    have c7 := (A.on b1).cell 7 _ rfl
    clear F
    go_wp2_with fail
    go_ret
    exact ⟨rfl, b1⟩
theorem specRollFault_any (r : RollD) (w : World) (hn : r.p.n.size ≤ maxLen) :
    Calls Tryd.prog 6 #[R8 r] w fun e w' => e = .returned (.int .i64 r.f) ∧ Below w.heap.size w w' := by
  have b0 := bal (Below.refl _ w) (.cells #[.string r.p.n, .int .i64 r.p.a, .int .i64 r.p.b, .int .i64 r.p.e, .int .i64 r.p.u, .int .i64 r.b, .int .i64 r.x, .int .i64 r.y] 33)
  have A0 : At w.heap.size r.vals (w.alloc (.cells #[.string r.p.n, .int .i64 r.p.a, .int .i64 r.p.b, .int .i64 r.p.e, .int .i64 r.p.u, .int .i64 r.b, .int .i64 r.x, .int .i64 r.y] 33)) := At.new w r.vals 33
  go_enter Tryd.func6, Tryd.ntmps6
  go_wp2_with fail
  refine (l8Fault_any _ r _ A0 hn).mono ?_
  rintro e u1 ⟨rfl, b1⟩
  have hb := btr b0 b1
  go_wp2_with fail
  go_ret
  exact ⟨rfl, hb⟩
theorem l8Sum_any (g : Nat) (p : PinD) (w : World) (A : At g p.vals w) (h : p.f = 0) :
    Calls Tryd.prog 19 #[.pointer (some ⟨g, 0, none⟩)] w fun e w' => e = .returned (.int .i64 (rsum p)) ∧ Below w.heap.size w w' := by
  have hw := fun z hz => byte_wf (packP_byte h z hz)
  have P := fun w A => l7Pack_any g p w A h
  unfold rsum
  have hs := M.sumL_bd (packP p)
  have hB : M.sumB (M.sumL (packP p)) = true := by simp only [M.sumB, decide_eq_true_eq]; omega
  clear h
  generalize packP p = zs at *
  have S := fun a n c B w R => l2Sum_any a n c B zs w R
  generalize M.sumL zs = x at *
  have R1 := fun w => row_one0 (w := w) x 2 hB
  have HA := Lib.hid (show [x].all M.sumB = true by simp [hB])
  have T := fun w => l2Tag_any M.rollS _ _ _ _ _ _ (by decide) (R1 w) (by simp) HA.out (by omega)
  clear hs hB R1
  generalize M.tagL M.rollS [x] = y at *
  go_enter Tryd.func19, Tryd.ntmps19
  go_wp2_with fail
  refine (P _ A).mono ?_
  rintro r u1 ⟨a, n, c, rfl, O1, b1⟩
  have R1 := Own.row O1 hw
  clear O1 P
  go_wp2_with fail
  refine (S _ _ _ _ _ R1).mono ?_
  rintro r u2 ⟨rfl, rfl⟩
  clear R1 S
  go_wp2_with fail
  refine (T _).mono ?_
  rintro r u2 ⟨rfl, b2⟩
  have hb := btr b1 (btr (bal (Below.refl _ _) _) b2)
  clear b1 b2 T
  go_wp2_with fail
  go_ret
  exact ⟨rfl, hb⟩
theorem specRollSum_any (p : PinD) (w : World) (hn : p.n.size ≤ maxLen) :
    Calls Tryd.prog 10 #[P5 p] w fun e w' => e = .returned (I2 p.f (rsumV p)) ∧ Below w.heap.size w w' := by
  have b0 := bal (bal (Below.refl _ w) (.cells #[.string p.n, .int .i64 p.a, .int .i64 p.b, .int .i64 p.e, .int .i64 p.u] 30)) (.cells #[.int .i64 0, .int .i64 0] 38)
  have A0 : At w.heap.size p.vals ((w.alloc (.cells #[.string p.n, .int .i64 p.a, .int .i64 p.b, .int .i64 p.e, .int .i64 p.u] 30)).alloc (.cells #[.int .i64 0, .int .i64 0] 38)) := (At.new w p.vals 30).alloc _
  have Q0 := At.new (w.alloc (.cells #[.string p.n, .int .i64 p.a, .int .i64 p.b, .int .i64 p.e, .int .i64 p.u] 30)) [.int .i64 0, .int .i64 0] 38
  simp only [World.size_alloc] at Q0
  have F := fun g w A => l7Fault_any g p w A hn
  by_cases h0 : p.f = 0
  · have e : rsumV p = rsum p := by unfold rsumV; rw [if_pos h0]
    rw [e]
    have S := fun g w A => l8Sum_any g p w A h0
    clear e
    generalize rsum p = x at *
    rw [h0] at F ⊢
    go_enter Tryd.func10, Tryd.ntmps10
    go_wp2_with fail
    generalize (w.alloc (.cells #[.string p.n, .int .i64 p.a, .int .i64 p.b, .int .i64 p.e, .int .i64 p.u] 30)).alloc (.cells #[.int .i64 0, .int .i64 0] 38) = W0 at *
    refine (F _ _ A0).mono ?_
    rintro e u1 ⟨rfl, b1⟩
    have A1 := A0.on b1
    have Q1 := Q0.on b1
    have B1 := btr b0 b1
    clear A0 Q0 b0 b1 F
    go_wp2_with fail
    refine (S _ _ A1).mono ?_
    rintro e u2 ⟨rfl, b2⟩
    have q0 := (Q1.on b2).cell 0 _ rfl
    have q1 := (Q1.on b2).cell 1 _ rfl
    have h0 := (Q1.on b2).free 0 _ rfl
    have h1 := (Q1.on b2).free 1 _ rfl
    have B2 := btr B1 b2
    clear B1 b2 S A1 Q1
    go_wp2_with fail
    exact bodyPost_ret (v := I2 0 x) (by simp [results, Tryd.results10, go_sem, q0, q1]) rfl ⟨rfl, (by (iterate 2 (refine bset ?_ (by dsimp only; omega) _)); exact B2)⟩
  · have e : rsumV p = 0 := by unfold rsumV; rw [if_neg h0]
    rw [e]
    clear e
    generalize p.f = c at *
    have q0 : (c == 0) = false := by simpa using h0
    go_enter Tryd.func10, Tryd.ntmps10
    go_wp2_with fail
    generalize (w.alloc (.cells #[.string p.n, .int .i64 p.a, .int .i64 p.b, .int .i64 p.e, .int .i64 p.u] 30)).alloc (.cells #[.int .i64 0, .int .i64 0] 38) = W0 at *
    refine (F _ _ A0).mono ?_
    rintro e u1 ⟨rfl, b1⟩
    have A1 := A0.on b1
    have Q1 := Q0.on b1
    have B1 := btr b0 b1
    clear A0 Q0 b0 b1 F
    have y0 := Q1.cell 0 _ rfl
    have y1 := Q1.cell 1 _ rfl
    have h0 := Q1.free 0 _ rfl
    have h1 := Q1.free 1 _ rfl
    go_wp2_with fail
    exact bodyPost_ret (v := I2 c 0) (by simp [results, Tryd.results10, go_sem, y0, y1]) rfl ⟨rfl, (by (iterate 2 (refine bset ?_ (by dsimp only; omega) _)); exact B1)⟩
end Go.Proofs.YtmdknbgpddnplaaDoor
