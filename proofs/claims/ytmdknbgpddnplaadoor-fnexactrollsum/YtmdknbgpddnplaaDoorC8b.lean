/- Contracts of what is wrong with a rollover, of what is signed, and of how one is signed, by the program. Conditions: as each theorem states. -/
import Derived.Test.YtmdknbgpddnplaaDoorC8a
import Derived.Test.YtmdknbgpddnplaaDoorC8s
import Derived.Test.YtmdknbgpddnplaaDoorC7l
import Derived.Test.YtmdknbgpddnplaaDoorC3d
namespace Go.Proofs.YtmdknbgpddnplaaDoor
open Go.RowKit
set_option maxRecDepth 100000
set_option linter.unusedVariables false

/-- An error of what does not fit was answered. -/
def Mis8 (c : Int) (w : World) (r : Ending) (w' : World) : Prop := ∃ s, r = .returned (misV c s) ∧ Below w.heap.size w w'
theorem pinReason_no (p : PinD) (w : World) (hn : p.n.size ≤ maxLen) (h : p.f = 0) :
    Calls Tryd.prog 20 #[P5 p] w fun r w' => r = .returned .nilIface ∧ Below w.heap.size w w' := by
  have b0 := bal (Below.refl _ w) (.cells #[.string p.n, .int .i64 p.a, .int .i64 p.b, .int .i64 p.e, .int .i64 p.u] 30)
  have A0 : At w.heap.size p.vals (w.alloc (.cells #[.string p.n, .int .i64 p.a, .int .i64 p.b, .int .i64 p.e, .int .i64 p.u] 30)) := At.new w p.vals 30
  have F := fun w => implPinFault_any p w hn
  rw [h] at F
  go_enter Tryd.func20, Tryd.ntmps20
  go_wp2_with fail
  generalize w.alloc (.cells #[.string p.n, .int .i64 p.a, .int .i64 p.b, .int .i64 p.e, .int .i64 p.u] 30) = W0 at *
  refine (F _).mono ?_
  rintro r u1 ⟨rfl, b1⟩
  have B1 := btr b0 b1
  clear A0 b0 b1 F
  go_wp2_with fail
  go_ret
  exact ⟨rfl, B1⟩
theorem pinReason_yes (p : PinD) (w : World) (hn : p.n.size ≤ maxLen) (h : p.f ≠ 0) :
    Calls Tryd.prog 20 #[P5 p] w (Mis8 p.f w) := by
  have b0 := bal (Below.refl _ w) (.cells #[.string p.n, .int .i64 p.a, .int .i64 p.b, .int .i64 p.e, .int .i64 p.u] 30)
  have A0 : At w.heap.size p.vals (w.alloc (.cells #[.string p.n, .int .i64 p.a, .int .i64 p.b, .int .i64 p.e, .int .i64 p.u] 30)) := At.new w p.vals 30
  have F := fun w => implPinFault_any p w hn
  generalize p.f = c at *
  have q0 : (c == 0) = false := by simpa using h
  go_enter Tryd.func20, Tryd.ntmps20
  go_wp2_with fail
  generalize w.alloc (.cells #[.string p.n, .int .i64 p.a, .int .i64 p.b, .int .i64 p.e, .int .i64 p.u] 30) = W0 at *
  refine (F _).mono ?_
  rintro r u1 ⟨rfl, b1⟩
  have B1 := btr b0 b1
  clear A0 b0 b1 F
  go_wp2_with fail
  go_ret
  exact ⟨_, rfl, B1⟩
theorem by8 (c : Int) (a : Option Addr) (n k : Nat) (w : World) : Sem.run Tryd.prog (Instr.field 82 (.agg #[.int .i64 c, .slice a n k]) 1) w = .ok (.slice a n k) w := by kernel_rfl
theorem rollSum_any (p : PinD) (w : World) (lab : Labels w) (hn : p.n.size ≤ maxLen) (h : p.f = 0) :
    Calls Tryd.prog 21 #[P5 p] w fun r w' => r = .returned (.int .i64 (rsum p)) ∧ Below w.heap.size w w' := by
  have b0 := bal (Below.refl _ w) (.cells #[.string p.n, .int .i64 p.a, .int .i64 p.b, .int .i64 p.e, .int .i64 p.u] 30)
  have A0 : At w.heap.size p.vals (w.alloc (.cells #[.string p.n, .int .i64 p.a, .int .i64 p.b, .int .i64 p.e, .int .i64 p.u] 30)) := At.new w p.vals 30
  have hw := fun z hz => byte_wf (packPL_byte p z hz)
  have P := fun w => implPackPin_any p w hn
  have e : packPL p = packP p := by unfold packPL; rw [if_pos h]
  rw [e, h] at P
  rw [e] at hw
  unfold rsum
  have hs := M.sumL_bd (packP p)
  have hB : M.sumB (M.sumL (packP p)) = true := by simp only [M.sumB, decide_eq_true_eq]; omega
  clear h e
  generalize packP p = zs at *
  have S := fun a n c B w R => sumBytes_any a n c B zs w R
  generalize M.sumL zs = x at *
  have R1 := fun w => row_one0 (w := w) x 2 hB
  have HA := Lib.hid (show [x].all M.sumB = true by simp [hB])
  have T := fun w => sumTagged_any M.rollS _ _ _ _ _ _ (by decide) (R1 w) (by simp) HA.out (by omega)
  obtain ⟨t0, t1⟩ := M.tagL_bd M.rollS [x]
  clear hB R1
  generalize M.tagL M.rollS [x] = y at *
  have lab0 := lab.on b0
  have f1 := by8
  go_enter Tryd.func21, Tryd.ntmps21
  go_wp2_with fail
  generalize w.alloc (.cells #[.string p.n, .int .i64 p.a, .int .i64 p.b, .int .i64 p.e, .int .i64 p.u] 30) = W0 at *
  refine (P _).mono ?_
  rintro r u1 ⟨a, n, c, rfl, O1, b1⟩
  have R1 := Own.row O1 hw
  have B1 := btr b0 b1
  have hlab := (lab0.on b1).rollW
  clear O1 P b0 b1 A0 lab0
  go_wp2_with fail
  refine (S _ _ _ _ _ R1).mono ?_
  rintro r u2 ⟨rfl, rfl⟩
  clear R1 S
  go_wp2_with fail
  refine (T _).mono ?_
  rintro r u2 ⟨rfl, b2⟩
  have hb := btr B1 (btr (bal (Below.refl _ _) _) b2)
  clear B1 b2 T hlab
  go_wp2_with fail
  go_ret
  exact ⟨rfl, hb⟩
/-- A rollover that has a fault: an error that has its code. -/
def Roll8No (c : Int) (w : World) (r : Ending) (w' : World) : Prop := ∃ e, ErrC1 c e ∧ r = .returned (.tuple #[R8 roll0, e]) ∧ Below w.heap.size w w'
def zero8 : List Value := [.string { data := #[] }, .int .i64 0, .int .i64 0, .int .i64 0, .int .i64 0, .int .i64 0, .int .i64 0, .int .i64 0]
theorem rolloverOf_no (r : RollD) (w : World) (hn : r.p.n.size ≤ maxLen) (h : r.f ≠ 0) : Calls Tryd.prog 16 #[R8 r] w (Roll8No r.f w) := by
  have b0 := bal (bal (bal (Below.refl _ w) (.cells #[.string r.p.n, .int .i64 r.p.a, .int .i64 r.p.b, .int .i64 r.p.e, .int .i64 r.p.u, .int .i64 r.b, .int .i64 r.x, .int .i64 r.y] 33)) (.cells #[.string { data := #[] }, .int .i64 0, .int .i64 0, .int .i64 0, .int .i64 0, .int .i64 0, .int .i64 0, .int .i64 0] 47)) (.cells #[.string r.p.n, .int .i64 r.p.a, .int .i64 r.p.b, .int .i64 r.p.e, .int .i64 r.p.u, .int .i64 r.b, .int .i64 r.x, .int .i64 r.y] 47)
  have Z0 : At (w.heap.size + 1) zero8 (((w.alloc (.cells #[.string r.p.n, .int .i64 r.p.a, .int .i64 r.p.b, .int .i64 r.p.e, .int .i64 r.p.u, .int .i64 r.b, .int .i64 r.x, .int .i64 r.y] 33)).alloc (.cells #[.string { data := #[] }, .int .i64 0, .int .i64 0, .int .i64 0, .int .i64 0, .int .i64 0, .int .i64 0, .int .i64 0] 47)).alloc (.cells #[.string r.p.n, .int .i64 r.p.a, .int .i64 r.p.b, .int .i64 r.p.e, .int .i64 r.p.u, .int .i64 r.b, .int .i64 r.x, .int .i64 r.y] 47)) := (At.newN (w := (w.alloc (.cells #[.string r.p.n, .int .i64 r.p.a, .int .i64 r.p.b, .int .i64 r.p.e, .int .i64 r.p.u, .int .i64 r.b, .int .i64 r.x, .int .i64 r.y] 33))) zero8 47 (by simp)).alloc (.cells #[.string r.p.n, .int .i64 r.p.a, .int .i64 r.p.b, .int .i64 r.p.e, .int .i64 r.p.u, .int .i64 r.b, .int .i64 r.x, .int .i64 r.y] 47)
  have A0 : At (w.heap.size + 1 + 1) r.vals (((w.alloc (.cells #[.string r.p.n, .int .i64 r.p.a, .int .i64 r.p.b, .int .i64 r.p.e, .int .i64 r.p.u, .int .i64 r.b, .int .i64 r.x, .int .i64 r.y] 33)).alloc (.cells #[.string { data := #[] }, .int .i64 0, .int .i64 0, .int .i64 0, .int .i64 0, .int .i64 0, .int .i64 0, .int .i64 0] 47)).alloc (.cells #[.string r.p.n, .int .i64 r.p.a, .int .i64 r.p.b, .int .i64 r.p.e, .int .i64 r.p.u, .int .i64 r.b, .int .i64 r.x, .int .i64 r.y] 47)) := At.newN (w := ((w.alloc (.cells #[.string r.p.n, .int .i64 r.p.a, .int .i64 r.p.b, .int .i64 r.p.e, .int .i64 r.p.u, .int .i64 r.b, .int .i64 r.x, .int .i64 r.y] 33)).alloc (.cells #[.string { data := #[] }, .int .i64 0, .int .i64 0, .int .i64 0, .int .i64 0, .int .i64 0, .int .i64 0, .int .i64 0] 47))) r.vals 47 (by simp)
  by_cases h0 : r.p.f = 0
  · have F := fun w => pinReason_no r.p w hn h0
    cases h1 : pubB r.b
    · rw [rollF_by h0 h1]
      clear h h0
      go_enter Tryd.func16, Tryd.ntmps16
      go_wp2_with fail
      generalize ((w.alloc (.cells #[.string r.p.n, .int .i64 r.p.a, .int .i64 r.p.b, .int .i64 r.p.e, .int .i64 r.p.u, .int .i64 r.b, .int .i64 r.x, .int .i64 r.y] 33)).alloc (.cells #[.string { data := #[] }, .int .i64 0, .int .i64 0, .int .i64 0, .int .i64 0, .int .i64 0, .int .i64 0, .int .i64 0] 47)).alloc (.cells #[.string r.p.n, .int .i64 r.p.a, .int .i64 r.p.b, .int .i64 r.p.e, .int .i64 r.p.u, .int .i64 r.b, .int .i64 r.x, .int .i64 r.y] 47) = W0 at *
      refine (F _).mono ?_
      rintro e u1 ⟨rfl, b1⟩
      have A1 := A0.on b1
      have Z1 := Z0.on b1
      have B1 := btr b0 b1
      have c5 := A1.cell 5 _ rfl
      clear A0 Z0 b0 b1 F
      go_wp2_with fail
      refine (implIsPublic_any _ _).mono ?_
      rintro e u2 ⟨rfl, b2⟩
      have A2 := A1.on b2
      have Z2 := Z1.on b2
      have B2 := btr B1 b2
      clear A1 Z1 B1 b2 c5
      have z0 := Z2.cell 0 _ rfl
      have z1 := Z2.cell 1 _ rfl
      have z2 := Z2.cell 2 _ rfl
      have z3 := Z2.cell 3 _ rfl
      have z4 := Z2.cell 4 _ rfl
      have z5 := Z2.cell 5 _ rfl
      have z6 := Z2.cell 6 _ rfl
      have z7 := Z2.cell 7 _ rfl
      have h0 := Z2.free 0 _ rfl
      have h1 := Z2.free 1 _ rfl
      have h2 := Z2.free 2 _ rfl
      have h3 := Z2.free 3 _ rfl
      have h4 := Z2.free 4 _ rfl
      have h5 := Z2.free 5 _ rfl
      have h6 := Z2.free 6 _ rfl
      have h7 := Z2.free 7 _ rfl
      have HB := Lib.hid B2
      clear Z2 B2
      go_wp2_with fail
      refine bodyPost_ret (v := .tuple #[R8 roll0, misV 3 { data := #[119, 104, 111, 32, 115, 97, 121, 115, 32, 105, 116] }]) (by simp [results, Tryd.results16, go_sem, z0, z1, z2, z3, z4, z5, z6, z7, roll0, pin0]) rfl ⟨_, .inl ⟨_, rfl⟩, rfl, (by (iterate 8 (refine bset ?_ (by dsimp only; omega) _)); exact HB.out)⟩
    · cases h2 : M.sigB r.x r.y
      · rw [rollF_sig h0 h1, sigF_no h2]
        have S := fun w => pairOf_no r.x r.y w h2
        clear h h0
        go_enter Tryd.func16, Tryd.ntmps16
        go_wp2_with fail
        generalize ((w.alloc (.cells #[.string r.p.n, .int .i64 r.p.a, .int .i64 r.p.b, .int .i64 r.p.e, .int .i64 r.p.u, .int .i64 r.b, .int .i64 r.x, .int .i64 r.y] 33)).alloc (.cells #[.string { data := #[] }, .int .i64 0, .int .i64 0, .int .i64 0, .int .i64 0, .int .i64 0, .int .i64 0, .int .i64 0] 47)).alloc (.cells #[.string r.p.n, .int .i64 r.p.a, .int .i64 r.p.b, .int .i64 r.p.e, .int .i64 r.p.u, .int .i64 r.b, .int .i64 r.x, .int .i64 r.y] 47) = W0 at *
        refine (F _).mono ?_
        rintro e u1 ⟨rfl, b1⟩
        have A1 := A0.on b1
        have Z1 := Z0.on b1
        have B1 := btr b0 b1
        have c5 := A1.cell 5 _ rfl
        clear A0 Z0 b0 b1 F
        go_wp2_with fail
        refine (implIsPublic_any _ _).mono ?_
        rintro e u2 ⟨rfl, b2⟩
        have A2 := A1.on b2
        have Z2 := Z1.on b2
        have B2 := btr B1 b2
        clear A1 Z1 B1 b2 c5
        have c6 := A2.cell 6 _ rfl
        have c7 := A2.cell 7 _ rfl
        go_wp2_with fail
        refine (S _).mono ?_
        rintro e u3 ⟨s, v, rfl, b3⟩
        have Z3 := Z2.on b3
        have B3 := btr B2 b3
        clear A2 Z2 B2 b3 S c6 c7
        have z0 := Z3.cell 0 _ rfl
        have z1 := Z3.cell 1 _ rfl
        have z2 := Z3.cell 2 _ rfl
        have z3 := Z3.cell 3 _ rfl
        have z4 := Z3.cell 4 _ rfl
        have z5 := Z3.cell 5 _ rfl
        have z6 := Z3.cell 6 _ rfl
        have z7 := Z3.cell 7 _ rfl
        have h0 := Z3.free 0 _ rfl
        have h1 := Z3.free 1 _ rfl
        have h2 := Z3.free 2 _ rfl
        have h3 := Z3.free 3 _ rfl
        have h4 := Z3.free 4 _ rfl
        have h5 := Z3.free 5 _ rfl
        have h6 := Z3.free 6 _ rfl
        have h7 := Z3.free 7 _ rfl
        have HB := Lib.hid B3
        clear Z3 B3
        go_wp2_with fail
        refine bodyPost_ret (v := .tuple #[R8 roll0, refV { data := #[116, 104, 101, 32, 115, 105, 103, 110, 97, 116, 117, 114, 101] } (misV 3 s)]) (by simp [results, Tryd.results16, go_sem, z0, z1, z2, z3, z4, z5, z6, z7, roll0, pin0]) rfl ⟨_, .inr ⟨_, _, rfl⟩, rfl, (by (iterate 8 (refine bset ?_ (by dsimp only; omega) _)); exact HB.out)⟩
      · exact absurd (by rw [rollF_sig h0 h1, sigF_yes h2]) h
  · rw [rollF_pin h0]
    have F := fun w => pinReason_yes r.p w hn h0
    generalize r.p.f = c at *
    clear h h0
    go_enter Tryd.func16, Tryd.ntmps16
    go_wp2_with fail
    generalize ((w.alloc (.cells #[.string r.p.n, .int .i64 r.p.a, .int .i64 r.p.b, .int .i64 r.p.e, .int .i64 r.p.u, .int .i64 r.b, .int .i64 r.x, .int .i64 r.y] 33)).alloc (.cells #[.string { data := #[] }, .int .i64 0, .int .i64 0, .int .i64 0, .int .i64 0, .int .i64 0, .int .i64 0, .int .i64 0] 47)).alloc (.cells #[.string r.p.n, .int .i64 r.p.a, .int .i64 r.p.b, .int .i64 r.p.e, .int .i64 r.p.u, .int .i64 r.b, .int .i64 r.x, .int .i64 r.y] 47) = W0 at *
    refine (F _).mono ?_
    rintro e u1 ⟨s, rfl, b1⟩
    have Z1 := Z0.on b1
    have B1 := btr b0 b1
    clear A0 Z0 b0 b1 F
    have z0 := Z1.cell 0 _ rfl
    have z1 := Z1.cell 1 _ rfl
    have z2 := Z1.cell 2 _ rfl
    have z3 := Z1.cell 3 _ rfl
    have z4 := Z1.cell 4 _ rfl
    have z5 := Z1.cell 5 _ rfl
    have z6 := Z1.cell 6 _ rfl
    have z7 := Z1.cell 7 _ rfl
    have h0 := Z1.free 0 _ rfl
    have h1 := Z1.free 1 _ rfl
    have h2 := Z1.free 2 _ rfl
    have h3 := Z1.free 3 _ rfl
    have h4 := Z1.free 4 _ rfl
    have h5 := Z1.free 5 _ rfl
    have h6 := Z1.free 6 _ rfl
    have h7 := Z1.free 7 _ rfl
    have HB := Lib.hid B1
    clear Z1 B1
    go_wp2_with fail
    refine bodyPost_ret (v := .tuple #[R8 roll0, refV { data := #[116, 104, 101, 32, 112, 105, 110, 32, 116, 104, 97, 116, 32, 105, 115, 32, 116, 111, 32, 98, 101] } (misV c s)]) (by simp [results, Tryd.results16, go_sem, z0, z1, z2, z3, z4, z5, z6, z7, roll0, pin0]) rfl ⟨_, .inr ⟨_, _, rfl⟩, rfl, (by (iterate 8 (refine bset ?_ (by dsimp only; omega) _)); exact HB.out)⟩
theorem rolloverOf_yes (r : RollD) (w : World) (hn : r.p.n.size ≤ maxLen) (h : r.f = 0) :
    Calls Tryd.prog 16 #[R8 r] w fun e w' => e = .returned (.tuple #[R8 r, .nilIface]) ∧ Below w.heap.size w w' := by
  have b0 := bal (bal (bal (Below.refl _ w) (.cells #[.string r.p.n, .int .i64 r.p.a, .int .i64 r.p.b, .int .i64 r.p.e, .int .i64 r.p.u, .int .i64 r.b, .int .i64 r.x, .int .i64 r.y] 33)) (.cells #[.string { data := #[] }, .int .i64 0, .int .i64 0, .int .i64 0, .int .i64 0, .int .i64 0, .int .i64 0, .int .i64 0] 47)) (.cells #[.string r.p.n, .int .i64 r.p.a, .int .i64 r.p.b, .int .i64 r.p.e, .int .i64 r.p.u, .int .i64 r.b, .int .i64 r.x, .int .i64 r.y] 47)
  have Z0 : At (w.heap.size + 1) zero8 (((w.alloc (.cells #[.string r.p.n, .int .i64 r.p.a, .int .i64 r.p.b, .int .i64 r.p.e, .int .i64 r.p.u, .int .i64 r.b, .int .i64 r.x, .int .i64 r.y] 33)).alloc (.cells #[.string { data := #[] }, .int .i64 0, .int .i64 0, .int .i64 0, .int .i64 0, .int .i64 0, .int .i64 0, .int .i64 0] 47)).alloc (.cells #[.string r.p.n, .int .i64 r.p.a, .int .i64 r.p.b, .int .i64 r.p.e, .int .i64 r.p.u, .int .i64 r.b, .int .i64 r.x, .int .i64 r.y] 47)) := (At.newN (w := (w.alloc (.cells #[.string r.p.n, .int .i64 r.p.a, .int .i64 r.p.b, .int .i64 r.p.e, .int .i64 r.p.u, .int .i64 r.b, .int .i64 r.x, .int .i64 r.y] 33))) zero8 47 (by simp)).alloc (.cells #[.string r.p.n, .int .i64 r.p.a, .int .i64 r.p.b, .int .i64 r.p.e, .int .i64 r.p.u, .int .i64 r.b, .int .i64 r.x, .int .i64 r.y] 47)
  have A0 : At (w.heap.size + 1 + 1) r.vals (((w.alloc (.cells #[.string r.p.n, .int .i64 r.p.a, .int .i64 r.p.b, .int .i64 r.p.e, .int .i64 r.p.u, .int .i64 r.b, .int .i64 r.x, .int .i64 r.y] 33)).alloc (.cells #[.string { data := #[] }, .int .i64 0, .int .i64 0, .int .i64 0, .int .i64 0, .int .i64 0, .int .i64 0, .int .i64 0] 47)).alloc (.cells #[.string r.p.n, .int .i64 r.p.a, .int .i64 r.p.b, .int .i64 r.p.e, .int .i64 r.p.u, .int .i64 r.b, .int .i64 r.x, .int .i64 r.y] 47)) := At.newN (w := ((w.alloc (.cells #[.string r.p.n, .int .i64 r.p.a, .int .i64 r.p.b, .int .i64 r.p.e, .int .i64 r.p.u, .int .i64 r.b, .int .i64 r.x, .int .i64 r.y] 33)).alloc (.cells #[.string { data := #[] }, .int .i64 0, .int .i64 0, .int .i64 0, .int .i64 0, .int .i64 0, .int .i64 0, .int .i64 0] 47))) r.vals 47 (by simp)
  obtain ⟨h0, h1, h2⟩ := rollF_zero h
  have F := fun w => pinReason_no r.p w hn h0
  have S := fun w => pairOf_yes r.x r.y w h2
  unfold pairV at S
  clear h h0 h2
  go_enter Tryd.func16, Tryd.ntmps16
  go_wp2_with fail
  generalize ((w.alloc (.cells #[.string r.p.n, .int .i64 r.p.a, .int .i64 r.p.b, .int .i64 r.p.e, .int .i64 r.p.u, .int .i64 r.b, .int .i64 r.x, .int .i64 r.y] 33)).alloc (.cells #[.string { data := #[] }, .int .i64 0, .int .i64 0, .int .i64 0, .int .i64 0, .int .i64 0, .int .i64 0, .int .i64 0] 47)).alloc (.cells #[.string r.p.n, .int .i64 r.p.a, .int .i64 r.p.b, .int .i64 r.p.e, .int .i64 r.p.u, .int .i64 r.b, .int .i64 r.x, .int .i64 r.y] 47) = W0 at *
  refine (F _).mono ?_
  rintro e u1 ⟨rfl, b1⟩
  have A1 := A0.on b1
  have Z1 := Z0.on b1
  have B1 := btr b0 b1
  have c5 := A1.cell 5 _ rfl
  clear A0 Z0 b0 b1 F
  go_wp2_with fail
  refine (implIsPublic_any _ _).mono ?_
  rintro e u2 ⟨rfl, b2⟩
  have A2 := A1.on b2
  have Z2 := Z1.on b2
  have B2 := btr B1 b2
  clear A1 Z1 B1 b2 c5
  have c6 := A2.cell 6 _ rfl
  have c7 := A2.cell 7 _ rfl
  go_wp2_with fail
  refine (S _).mono ?_
  rintro e u3 ⟨rfl, b3⟩
  have c0 := (A2.on b3).cell 0 _ rfl
  have c1 := (A2.on b3).cell 1 _ rfl
  have c2 := (A2.on b3).cell 2 _ rfl
  have c3 := (A2.on b3).cell 3 _ rfl
  have c4 := (A2.on b3).cell 4 _ rfl
  have c5 := (A2.on b3).cell 5 _ rfl
  have c6 := (A2.on b3).cell 6 _ rfl
  have c7 := (A2.on b3).cell 7 _ rfl
  have z0 := (Z2.on b3).cell 0 _ rfl
  have z1 := (Z2.on b3).cell 1 _ rfl
  have z2 := (Z2.on b3).cell 2 _ rfl
  have z3 := (Z2.on b3).cell 3 _ rfl
  have z4 := (Z2.on b3).cell 4 _ rfl
  have z5 := (Z2.on b3).cell 5 _ rfl
  have z6 := (Z2.on b3).cell 6 _ rfl
  have z7 := (Z2.on b3).cell 7 _ rfl
  have h0 := (Z2.on b3).free 0 _ rfl
  have h1 := (Z2.on b3).free 1 _ rfl
  have h2 := (Z2.on b3).free 2 _ rfl
  have h3 := (Z2.on b3).free 3 _ rfl
  have h4 := (Z2.on b3).free 4 _ rfl
  have h5 := (Z2.on b3).free 5 _ rfl
  have h6 := (Z2.on b3).free 6 _ rfl
  have h7 := (Z2.on b3).free 7 _ rfl
  have HB := Lib.hid (btr B2 b3)
  clear A2 Z2 B2 b3 S
  go_wp2_with fail
  refine bodyPost_ret (v := .tuple #[R8 r, .nilIface]) (by simp [results, Tryd.results16, go_sem, z0, z1, z2, z3, z4, z5, z6, z7]) rfl ⟨rfl, (by (iterate 8 (refine bset ?_ (by dsimp only; omega) _)); exact HB.out)⟩
theorem implRollFault_any (r : RollD) (w : World) (ert : ErrT w) (hn : r.p.n.size ≤ maxLen) :
    Calls Tryd.prog 8 #[R8 r] w fun e w' => e = .returned (.int .i64 r.f) ∧ Below w.heap.size w w' := by
  have b0 := bal (Below.refl _ w) (.cells #[.string r.p.n, .int .i64 r.p.a, .int .i64 r.p.b, .int .i64 r.p.e, .int .i64 r.p.u, .int .i64 r.b, .int .i64 r.x, .int .i64 r.y] 33)
  have ert0 := ert.on b0
  by_cases h : r.f = 0
  · rw [h]
    have F := fun w => rolloverOf_yes r w hn h
    go_enter Tryd.func8, Tryd.ntmps8
    go_wp2_with fail
    generalize w.alloc (.cells #[.string r.p.n, .int .i64 r.p.a, .int .i64 r.p.b, .int .i64 r.p.e, .int .i64 r.p.u, .int .i64 r.b, .int .i64 r.x, .int .i64 r.y] 33) = W0 at *
    refine (F _).mono ?_
    rintro e u1 ⟨rfl, b1⟩
    have B1 := bal (btr b0 b1) (.cells #[.string r.p.n, .int .i64 r.p.a, .int .i64 r.p.b, .int .i64 r.p.e, .int .i64 r.p.u, .int .i64 r.b, .int .i64 r.x, .int .i64 r.y] 47)
    clear b0 b1 F ert0
    go_wp2_with fail
    refine (codeOf_nil _).mono ?_
    rintro e u2 ⟨rfl, b2⟩
    have hb := btr B1 b2
    go_wp2_with fail
    go_ret
    exact ⟨rfl, hb⟩
  · have F := fun w => rolloverOf_no r w hn h
    generalize r.f = c at *
    go_enter Tryd.func8, Tryd.ntmps8
    go_wp2_with fail
    generalize w.alloc (.cells #[.string r.p.n, .int .i64 r.p.a, .int .i64 r.p.b, .int .i64 r.p.e, .int .i64 r.p.u, .int .i64 r.b, .int .i64 r.x, .int .i64 r.y] 33) = W0 at *
    refine (F _).mono ?_
    rintro e u1 ⟨x, hx, rfl, b1⟩
    have B1 := bal b1 (.cells #[.string { data := #[] }, .int .i64 0, .int .i64 0, .int .i64 0, .int .i64 0, .int .i64 0, .int .i64 0, .int .i64 0] 47)
    have E1 := ert0.on B1
    have B2 := btr b0 B1
    clear b0 b1 F ert0 B1
    go_wp2_with fail
    refine (codeOf_err hx.all _ E1).mono ?_
    rintro e u2 ⟨rfl, b2⟩
    have hb := btr B2 b2
    go_wp2_with fail
    go_ret
    exact ⟨rfl, hb⟩
theorem implRollSum_any (p : PinD) (w : World) (lab : Labels w) (ert : ErrT w) (hn : p.n.size ≤ maxLen) :
    Calls Tryd.prog 12 #[P5 p] w fun e w' => e = .returned (I2 p.f (rsumV p)) ∧ Below w.heap.size w w' := by
  have b0 := bal (bal (Below.refl _ w) (.cells #[.string p.n, .int .i64 p.a, .int .i64 p.b, .int .i64 p.e, .int .i64 p.u] 30)) (.cells #[.int .i64 0, .int .i64 0] 38)
  have A0 : At w.heap.size p.vals ((w.alloc (.cells #[.string p.n, .int .i64 p.a, .int .i64 p.b, .int .i64 p.e, .int .i64 p.u] 30)).alloc (.cells #[.int .i64 0, .int .i64 0] 38)) := (At.new w p.vals 30).alloc _
  have Q0 := At.new (w.alloc (.cells #[.string p.n, .int .i64 p.a, .int .i64 p.b, .int .i64 p.e, .int .i64 p.u] 30)) [.int .i64 0, .int .i64 0] 38
  simp only [World.size_alloc] at Q0
  have lab0 := lab.on b0
  have ert0 := ert.on b0
  by_cases h : p.f = 0
  · have e : rsumV p = rsum p := by unfold rsumV; rw [if_pos h]
    rw [e, h]
    have F := fun w => pinReason_no p w hn h
    have S := fun w lab => rollSum_any p w lab hn h
    clear e h
    generalize rsum p = x at *
    go_enter Tryd.func12, Tryd.ntmps12
    go_wp2_with fail
    generalize (w.alloc (.cells #[.string p.n, .int .i64 p.a, .int .i64 p.b, .int .i64 p.e, .int .i64 p.u] 30)).alloc (.cells #[.int .i64 0, .int .i64 0] 38) = W0 at *
    refine (F _).mono ?_
    rintro e u1 ⟨rfl, b1⟩
    have A1 := A0.on b1
    have Q1 := Q0.on b1
    have B1 := btr b0 b1
    have L1 := lab0.on b1
    have c0 := A1.cell 0 _ rfl
    have c1 := A1.cell 1 _ rfl
    have c2 := A1.cell 2 _ rfl
    have c3 := A1.cell 3 _ rfl
    have c4 := A1.cell 4 _ rfl
    clear A0 Q0 b0 b1 F lab0 ert0
    go_wp2_with fail
    refine (S _ L1).mono ?_
    rintro e u2 ⟨rfl, b2⟩
    have q0 := (Q1.on b2).cell 0 _ rfl
    have q1 := (Q1.on b2).cell 1 _ rfl
    have h0 := (Q1.on b2).free 0 _ rfl
    have h1 := (Q1.on b2).free 1 _ rfl
    have B2 := btr B1 b2
    clear A1 Q1 B1 b2 S L1 c0 c1 c2 c3 c4
    go_wp2_with fail
    exact bodyPost_ret (v := I2 0 x) (by simp [results, Tryd.results12, go_sem, q0, q1]) rfl ⟨rfl, (by (iterate 2 (refine bset ?_ (by dsimp only; omega) _)); exact B2)⟩
  · have e : rsumV p = 0 := by unfold rsumV; rw [if_neg h]
    rw [e]
    have F := fun w => pinReason_yes p w hn h
    clear e
    generalize p.f = c at *
    go_enter Tryd.func12, Tryd.ntmps12
    go_wp2_with fail
    generalize (w.alloc (.cells #[.string p.n, .int .i64 p.a, .int .i64 p.b, .int .i64 p.e, .int .i64 p.u] 30)).alloc (.cells #[.int .i64 0, .int .i64 0] 38) = W0 at *
    refine (F _).mono ?_
    rintro e u1 ⟨s, rfl, b1⟩
    have Q1 := Q0.on b1
    have B1 := btr b0 b1
    have E1 := ert0.on b1
    clear A0 Q0 b0 b1 F lab0 ert0
    go_wp2_with fail
    refine (codeOf_mis _ _ _ E1).mono ?_
    rintro e u2 ⟨rfl, b2⟩
    have q0 := (Q1.on b2).cell 0 _ rfl
    have q1 := (Q1.on b2).cell 1 _ rfl
    have h0 := (Q1.on b2).free 0 _ rfl
    have h1 := (Q1.on b2).free 1 _ rfl
    have B2 := btr B1 b2
    clear Q1 B1 b2 E1
    go_wp2_with fail
    exact bodyPost_ret (v := I2 c 0) (by simp [results, Tryd.results12, go_sem, q0, q1]) rfl ⟨rfl, (by (iterate 2 (refine bset ?_ (by dsimp only; omega) _)); exact B2)⟩
end Go.Proofs.YtmdknbgpddnplaaDoor
