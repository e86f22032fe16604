/- Texts of this seat that several laws rest on, laid into one. Conditions: as each theorem states. -/
import Derived.Test.YtlodhleihnlchaaGreatDoorX0
import Derived.Test.YtlodhleihnlchaaGreatDoorX2
import Derived.Test.YtlodhleihnlchaaGreatDoorX3
import Derived.Test.YtlodhleihnlchaaGreatDoorX4
import Derived.Test.YtlodhleihnlchaaGreatDoorX5
import Derived.Test.YtlodhleihnlchaaGreatDoorX7
import Derived.Test.YtlodhleihnlchaaGreatDoorX8
namespace Go.Proofs.YtlodhleihnlchaaGreatDoor
open Go.RowKit
set_option maxRecDepth 100000
set_option linter.unusedVariables false

def Mis8 (c : Int) (w : World) (r : Ending) (w' : World) : Prop := ∃ s, r = .returned (misV c s) ∧ Below w.heap.size w w'
theorem pinReason_no (p : PinD) (w : World) (hn : p.n.size ≤ maxLen) (h : p.f = 0) :
    Calls Tryz.prog 271 #[P5 p] w fun r w' => r = .returned .nilIface ∧ Below w.heap.size w w' := by
  have b0 := bal (Below.refl _ w) (.cells #[.string p.n, .int .i64 p.a, .int .i64 p.b, .int .i64 p.e, .int .i64 p.u] 59)
  have A0 : At w.heap.size p.vals (w.alloc (.cells #[.string p.n, .int .i64 p.a, .int .i64 p.b, .int .i64 p.e, .int .i64 p.u] 59)) := At.new w p.vals 59
  have F := fun w => implPinFault_any p w hn
  rw [h] at F
  go_enter Tryz.func271, Tryz.ntmps271
  go_wp2_with fail
  generalize w.alloc (.cells #[.string p.n, .int .i64 p.a, .int .i64 p.b, .int .i64 p.e, .int .i64 p.u] 59) = W0 at *
  refine (F _).mono ?_
  rintro r u1 ⟨rfl, b1⟩
  have B1 := btr b0 b1
  clear A0 b0 b1 F
  go_wp2_with fail
  go_ret
  exact ⟨rfl, B1⟩
theorem pinReason_yes (p : PinD) (w : World) (hn : p.n.size ≤ maxLen) (h : p.f ≠ 0) :
    Calls Tryz.prog 271 #[P5 p] w (Mis8 p.f w) := by
  have b0 := bal (Below.refl _ w) (.cells #[.string p.n, .int .i64 p.a, .int .i64 p.b, .int .i64 p.e, .int .i64 p.u] 59)
  have A0 : At w.heap.size p.vals (w.alloc (.cells #[.string p.n, .int .i64 p.a, .int .i64 p.b, .int .i64 p.e, .int .i64 p.u] 59)) := At.new w p.vals 59
  have F := fun w => implPinFault_any p w hn
  generalize p.f = c at *
  have q0 : (c == 0) = false := by simpa using h
  go_enter Tryz.func271, Tryz.ntmps271
  go_wp2_with fail
  generalize w.alloc (.cells #[.string p.n, .int .i64 p.a, .int .i64 p.b, .int .i64 p.e, .int .i64 p.u] 59) = W0 at *
  refine (F _).mono ?_
  rintro r u1 ⟨rfl, b1⟩
  have B1 := btr b0 b1
  clear A0 b0 b1 F
  go_wp2_with fail
  go_ret
  exact ⟨_, rfl, B1⟩
theorem by8 (c : Int) (a : Option Addr) (n k : Nat) (w : World) : Sem.run Tryz.prog (Instr.field 39 (.agg #[.int .i64 c, .slice a n k]) 1) w = .ok (.slice a n k) w := by kernel_rfl
theorem rollSum_any (p : PinD) (w : World) (lab : Labels w) (hn : p.n.size ≤ maxLen) (h : p.f = 0) :
    Calls Tryz.prog 304 #[P5 p] w fun r w' => r = .returned (.int .i64 (rsum p)) ∧ Below w.heap.size w w' := by
  have b0 := bal (Below.refl _ w) (.cells #[.string p.n, .int .i64 p.a, .int .i64 p.b, .int .i64 p.e, .int .i64 p.u] 59)
  have A0 : At w.heap.size p.vals (w.alloc (.cells #[.string p.n, .int .i64 p.a, .int .i64 p.b, .int .i64 p.e, .int .i64 p.u] 59)) := At.new w p.vals 59
  have hw := fun z hz => byte_wf (packPL_byte p z hz)
  have P := fun w => implPackPin_any p w hn
  have e : packPL p = packP p := by unfold packPL; rw [if_pos h]
  rw [e, h] at P
  rw [e] at hw
  unfold rsum
  have hs := M.sumL_bd (packP p)
  have hB : M.sumB (M.sumL (packP p)) = true := by simp only [M.sumB, decide_eq_true_eq]; omega
  clear h e
  generalize packP p = zs at *
  have S := fun a n c B w R => sumBytes_any a n c B zs w R
  generalize M.sumL zs = x at *
  have R1 := fun w => row_one0 (w := w) x 2 hB
  have HA := Lib.hid (show [x].all M.sumB = true by simp [hB])
  have T := fun w => sumTagged_any M.rollS _ _ _ _ _ _ (by decide) (R1 w) (by simp) HA.out (by omega)
  obtain ⟨t0, t1⟩ := M.tagL_bd M.rollS [x]
  clear hB R1
  generalize M.tagL M.rollS [x] = y at *
  have lab0 := lab.on b0
  have f1 := by8
  go_enter Tryz.func304, Tryz.ntmps304
  go_wp2_with fail
  generalize w.alloc (.cells #[.string p.n, .int .i64 p.a, .int .i64 p.b, .int .i64 p.e, .int .i64 p.u] 59) = W0 at *
  refine (P _).mono ?_
  rintro r u1 ⟨a, n, c, rfl, O1, b1⟩
  have R1 := Own.row O1 hw
  have B1 := btr b0 b1
  have hlab := (lab0.on b1).rollW
  clear O1 P b0 b1 A0 lab0
  go_wp2_with fail
  refine (S _ _ _ _ _ R1).mono ?_
  rintro r u2 ⟨rfl, rfl⟩
  clear R1 S
  go_wp2_with fail
  refine (T _).mono ?_
  rintro r u2 ⟨rfl, b2⟩
  have hb := btr B1 (btr (bal (Below.refl _ _) _) b2)
  clear B1 b2 T hlab
  go_wp2_with fail
  go_ret
  exact ⟨rfl, hb⟩
def Roll8No (c : Int) (w : World) (r : Ending) (w' : World) : Prop := ∃ e, ErrC1 c e ∧ r = .returned (.tuple #[R8 roll0, e]) ∧ Below w.heap.size w w'
def zero8 : List Value := [.string { data := #[] }, .int .i64 0, .int .i64 0, .int .i64 0, .int .i64 0, .int .i64 0, .int .i64 0, .int .i64 0]
theorem rolloverOf_no (r : RollD) (w : World) (hn : r.p.n.size ≤ maxLen) (h : r.f ≠ 0) : Calls Tryz.prog 215 #[R8 r] w (Roll8No r.f w) := by
  have b0 := bal (bal (bal (Below.refl _ w) (.cells #[.string r.p.n, .int .i64 r.p.a, .int .i64 r.p.b, .int .i64 r.p.e, .int .i64 r.p.u, .int .i64 r.b, .int .i64 r.x, .int .i64 r.y] 66)) (.cells #[.string { data := #[] }, .int .i64 0, .int .i64 0, .int .i64 0, .int .i64 0, .int .i64 0, .int .i64 0, .int .i64 0] 286)) (.cells #[.string r.p.n, .int .i64 r.p.a, .int .i64 r.p.b, .int .i64 r.p.e, .int .i64 r.p.u, .int .i64 r.b, .int .i64 r.x, .int .i64 r.y] 286)
  have Z0 : At (w.heap.size + 1) zero8 (((w.alloc (.cells #[.string r.p.n, .int .i64 r.p.a, .int .i64 r.p.b, .int .i64 r.p.e, .int .i64 r.p.u, .int .i64 r.b, .int .i64 r.x, .int .i64 r.y] 66)).alloc (.cells #[.string { data := #[] }, .int .i64 0, .int .i64 0, .int .i64 0, .int .i64 0, .int .i64 0, .int .i64 0, .int .i64 0] 286)).alloc (.cells #[.string r.p.n, .int .i64 r.p.a, .int .i64 r.p.b, .int .i64 r.p.e, .int .i64 r.p.u, .int .i64 r.b, .int .i64 r.x, .int .i64 r.y] 286)) := (At.newN (w := (w.alloc (.cells #[.string r.p.n, .int .i64 r.p.a, .int .i64 r.p.b, .int .i64 r.p.e, .int .i64 r.p.u, .int .i64 r.b, .int .i64 r.x, .int .i64 r.y] 66))) zero8 286 (by simp)).alloc (.cells #[.string r.p.n, .int .i64 r.p.a, .int .i64 r.p.b, .int .i64 r.p.e, .int .i64 r.p.u, .int .i64 r.b, .int .i64 r.x, .int .i64 r.y] 286)
  have A0 : At (w.heap.size + 1 + 1) r.vals (((w.alloc (.cells #[.string r.p.n, .int .i64 r.p.a, .int .i64 r.p.b, .int .i64 r.p.e, .int .i64 r.p.u, .int .i64 r.b, .int .i64 r.x, .int .i64 r.y] 66)).alloc (.cells #[.string { data := #[] }, .int .i64 0, .int .i64 0, .int .i64 0, .int .i64 0, .int .i64 0, .int .i64 0, .int .i64 0] 286)).alloc (.cells #[.string r.p.n, .int .i64 r.p.a, .int .i64 r.p.b, .int .i64 r.p.e, .int .i64 r.p.u, .int .i64 r.b, .int .i64 r.x, .int .i64 r.y] 286)) := At.newN (w := ((w.alloc (.cells #[.string r.p.n, .int .i64 r.p.a, .int .i64 r.p.b, .int .i64 r.p.e, .int .i64 r.p.u, .int .i64 r.b, .int .i64 r.x, .int .i64 r.y] 66)).alloc (.cells #[.string { data := #[] }, .int .i64 0, .int .i64 0, .int .i64 0, .int .i64 0, .int .i64 0, .int .i64 0, .int .i64 0] 286))) r.vals 286 (by simp)
  by_cases h0 : r.p.f = 0
  · have F := fun w => pinReason_no r.p w hn h0
    cases h1 : pubB r.b
    · rw [rollF_by h0 h1]
      clear h h0
      go_enter Tryz.func215, Tryz.ntmps215
      go_wp2_with fail
      generalize ((w.alloc (.cells #[.string r.p.n, .int .i64 r.p.a, .int .i64 r.p.b, .int .i64 r.p.e, .int .i64 r.p.u, .int .i64 r.b, .int .i64 r.x, .int .i64 r.y] 66)).alloc (.cells #[.string { data := #[] }, .int .i64 0, .int .i64 0, .int .i64 0, .int .i64 0, .int .i64 0, .int .i64 0, .int .i64 0] 286)).alloc (.cells #[.string r.p.n, .int .i64 r.p.a, .int .i64 r.p.b, .int .i64 r.p.e, .int .i64 r.p.u, .int .i64 r.b, .int .i64 r.x, .int .i64 r.y] 286) = W0 at *
      refine (F _).mono ?_
      rintro e u1 ⟨rfl, b1⟩
      have A1 := A0.on b1
      have Z1 := Z0.on b1
      have B1 := btr b0 b1
      have c5 := A1.cell 5 _ rfl
      clear A0 Z0 b0 b1 F
      go_wp2_with fail
      refine (implIsPublic_any _ _).mono ?_
      rintro e u2 ⟨rfl, b2⟩
      have A2 := A1.on b2
      have Z2 := Z1.on b2
      have B2 := btr B1 b2
      clear A1 Z1 B1 b2 c5
      have z0 := Z2.cell 0 _ rfl
      have z1 := Z2.cell 1 _ rfl
      have z2 := Z2.cell 2 _ rfl
      have z3 := Z2.cell 3 _ rfl
      have z4 := Z2.cell 4 _ rfl
      have z5 := Z2.cell 5 _ rfl
      have z6 := Z2.cell 6 _ rfl
      have z7 := Z2.cell 7 _ rfl
      have h0 := Z2.free 0 _ rfl
      have h1 := Z2.free 1 _ rfl
      have h2 := Z2.free 2 _ rfl
      have h3 := Z2.free 3 _ rfl
      have h4 := Z2.free 4 _ rfl
      have h5 := Z2.free 5 _ rfl
      have h6 := Z2.free 6 _ rfl
      have h7 := Z2.free 7 _ rfl
      have HB := Lib.hid B2
      clear Z2 B2
      go_wp2_with fail
      refine bodyPost_ret (v := .tuple #[R8 roll0, misV 3 { data := #[119, 104, 111, 32, 115, 97, 121, 115, 32, 105, 116] }]) (by simp [results, Tryz.results215, go_sem, z0, z1, z2, z3, z4, z5, z6, z7, roll0, pin0]) rfl ⟨_, .inl ⟨_, rfl⟩, rfl, (by (iterate 8 (refine bset ?_ (by dsimp only; omega) _)); exact HB.out)⟩
    · cases h2 : M.sigB r.x r.y
      · rw [rollF_sig h0 h1, sigF_no h2]
        have S := fun w => pairOf_no r.x r.y w h2
        clear h h0
        go_enter Tryz.func215, Tryz.ntmps215
        go_wp2_with fail
        generalize ((w.alloc (.cells #[.string r.p.n, .int .i64 r.p.a, .int .i64 r.p.b, .int .i64 r.p.e, .int .i64 r.p.u, .int .i64 r.b, .int .i64 r.x, .int .i64 r.y] 66)).alloc (.cells #[.string { data := #[] }, .int .i64 0, .int .i64 0, .int .i64 0, .int .i64 0, .int .i64 0, .int .i64 0, .int .i64 0] 286)).alloc (.cells #[.string r.p.n, .int .i64 r.p.a, .int .i64 r.p.b, .int .i64 r.p.e, .int .i64 r.p.u, .int .i64 r.b, .int .i64 r.x, .int .i64 r.y] 286) = W0 at *
        refine (F _).mono ?_
        rintro e u1 ⟨rfl, b1⟩
        have A1 := A0.on b1
        have Z1 := Z0.on b1
        have B1 := btr b0 b1
        have c5 := A1.cell 5 _ rfl
        clear A0 Z0 b0 b1 F
        go_wp2_with fail
        refine (implIsPublic_any _ _).mono ?_
        rintro e u2 ⟨rfl, b2⟩
        have A2 := A1.on b2
        have Z2 := Z1.on b2
        have B2 := btr B1 b2
        clear A1 Z1 B1 b2 c5
        have c6 := A2.cell 6 _ rfl
        have c7 := A2.cell 7 _ rfl
        go_wp2_with fail
        refine (S _).mono ?_
        rintro e u3 ⟨s, v, rfl, b3⟩
        have Z3 := Z2.on b3
        have B3 := btr B2 b3
        clear A2 Z2 B2 b3 S c6 c7
        have z0 := Z3.cell 0 _ rfl
        have z1 := Z3.cell 1 _ rfl
        have z2 := Z3.cell 2 _ rfl
        have z3 := Z3.cell 3 _ rfl
        have z4 := Z3.cell 4 _ rfl
        have z5 := Z3.cell 5 _ rfl
        have z6 := Z3.cell 6 _ rfl
        have z7 := Z3.cell 7 _ rfl
        have h0 := Z3.free 0 _ rfl
        have h1 := Z3.free 1 _ rfl
        have h2 := Z3.free 2 _ rfl
        have h3 := Z3.free 3 _ rfl
        have h4 := Z3.free 4 _ rfl
        have h5 := Z3.free 5 _ rfl
        have h6 := Z3.free 6 _ rfl
        have h7 := Z3.free 7 _ rfl
        have HB := Lib.hid B3
        clear Z3 B3
        go_wp2_with fail
        refine bodyPost_ret (v := .tuple #[R8 roll0, refV { data := #[116, 104, 101, 32, 115, 105, 103, 110, 97, 116, 117, 114, 101] } (misV 3 s)]) (by simp [results, Tryz.results215, go_sem, z0, z1, z2, z3, z4, z5, z6, z7, roll0, pin0]) rfl ⟨_, .inr ⟨_, _, rfl⟩, rfl, (by (iterate 8 (refine bset ?_ (by dsimp only; omega) _)); exact HB.out)⟩
      · exact absurd (by rw [rollF_sig h0 h1, sigF_yes h2]) h
  · rw [rollF_pin h0]
    have F := fun w => pinReason_yes r.p w hn h0
    generalize r.p.f = c at *
    clear h h0
    go_enter Tryz.func215, Tryz.ntmps215
    go_wp2_with fail
    generalize ((w.alloc (.cells #[.string r.p.n, .int .i64 r.p.a, .int .i64 r.p.b, .int .i64 r.p.e, .int .i64 r.p.u, .int .i64 r.b, .int .i64 r.x, .int .i64 r.y] 66)).alloc (.cells #[.string { data := #[] }, .int .i64 0, .int .i64 0, .int .i64 0, .int .i64 0, .int .i64 0, .int .i64 0, .int .i64 0] 286)).alloc (.cells #[.string r.p.n, .int .i64 r.p.a, .int .i64 r.p.b, .int .i64 r.p.e, .int .i64 r.p.u, .int .i64 r.b, .int .i64 r.x, .int .i64 r.y] 286) = W0 at *
    refine (F _).mono ?_
    rintro e u1 ⟨s, rfl, b1⟩
    have Z1 := Z0.on b1
    have B1 := btr b0 b1
    clear A0 Z0 b0 b1 F
    have z0 := Z1.cell 0 _ rfl
    have z1 := Z1.cell 1 _ rfl
    have z2 := Z1.cell 2 _ rfl
    have z3 := Z1.cell 3 _ rfl
    have z4 := Z1.cell 4 _ rfl
    have z5 := Z1.cell 5 _ rfl
    have z6 := Z1.cell 6 _ rfl
    have z7 := Z1.cell 7 _ rfl
    have h0 := Z1.free 0 _ rfl
    have h1 := Z1.free 1 _ rfl
    have h2 := Z1.free 2 _ rfl
    have h3 := Z1.free 3 _ rfl
    have h4 := Z1.free 4 _ rfl
    have h5 := Z1.free 5 _ rfl
    have h6 := Z1.free 6 _ rfl
    have h7 := Z1.free 7 _ rfl
    have HB := Lib.hid B1
    clear Z1 B1
    go_wp2_with fail
    refine bodyPost_ret (v := .tuple #[R8 roll0, refV { data := #[116, 104, 101, 32, 112, 105, 110, 32, 116, 104, 97, 116, 32, 105, 115, 32, 116, 111, 32, 98, 101] } (misV c s)]) (by simp [results, Tryz.results215, go_sem, z0, z1, z2, z3, z4, z5, z6, z7, roll0, pin0]) rfl ⟨_, .inr ⟨_, _, rfl⟩, rfl, (by (iterate 8 (refine bset ?_ (by dsimp only; omega) _)); exact HB.out)⟩
theorem rolloverOf_yes (r : RollD) (w : World) (hn : r.p.n.size ≤ maxLen) (h : r.f = 0) :
    Calls Tryz.prog 215 #[R8 r] w fun e w' => e = .returned (.tuple #[R8 r, .nilIface]) ∧ Below w.heap.size w w' := by
  have b0 := bal (bal (bal (Below.refl _ w) (.cells #[.string r.p.n, .int .i64 r.p.a, .int .i64 r.p.b, .int .i64 r.p.e, .int .i64 r.p.u, .int .i64 r.b, .int .i64 r.x, .int .i64 r.y] 66)) (.cells #[.string { data := #[] }, .int .i64 0, .int .i64 0, .int .i64 0, .int .i64 0, .int .i64 0, .int .i64 0, .int .i64 0] 286)) (.cells #[.string r.p.n, .int .i64 r.p.a, .int .i64 r.p.b, .int .i64 r.p.e, .int .i64 r.p.u, .int .i64 r.b, .int .i64 r.x, .int .i64 r.y] 286)
  have Z0 : At (w.heap.size + 1) zero8 (((w.alloc (.cells #[.string r.p.n, .int .i64 r.p.a, .int .i64 r.p.b, .int .i64 r.p.e, .int .i64 r.p.u, .int .i64 r.b, .int .i64 r.x, .int .i64 r.y] 66)).alloc (.cells #[.string { data := #[] }, .int .i64 0, .int .i64 0, .int .i64 0, .int .i64 0, .int .i64 0, .int .i64 0, .int .i64 0] 286)).alloc (.cells #[.string r.p.n, .int .i64 r.p.a, .int .i64 r.p.b, .int .i64 r.p.e, .int .i64 r.p.u, .int .i64 r.b, .int .i64 r.x, .int .i64 r.y] 286)) := (At.newN (w := (w.alloc (.cells #[.string r.p.n, .int .i64 r.p.a, .int .i64 r.p.b, .int .i64 r.p.e, .int .i64 r.p.u, .int .i64 r.b, .int .i64 r.x, .int .i64 r.y] 66))) zero8 286 (by simp)).alloc (.cells #[.string r.p.n, .int .i64 r.p.a, .int .i64 r.p.b, .int .i64 r.p.e, .int .i64 r.p.u, .int .i64 r.b, .int .i64 r.x, .int .i64 r.y] 286)
  have A0 : At (w.heap.size + 1 + 1) r.vals (((w.alloc (.cells #[.string r.p.n, .int .i64 r.p.a, .int .i64 r.p.b, .int .i64 r.p.e, .int .i64 r.p.u, .int .i64 r.b, .int .i64 r.x, .int .i64 r.y] 66)).alloc (.cells #[.string { data := #[] }, .int .i64 0, .int .i64 0, .int .i64 0, .int .i64 0, .int .i64 0, .int .i64 0, .int .i64 0] 286)).alloc (.cells #[.string r.p.n, .int .i64 r.p.a, .int .i64 r.p.b, .int .i64 r.p.e, .int .i64 r.p.u, .int .i64 r.b, .int .i64 r.x, .int .i64 r.y] 286)) := At.newN (w := ((w.alloc (.cells #[.string r.p.n, .int .i64 r.p.a, .int .i64 r.p.b, .int .i64 r.p.e, .int .i64 r.p.u, .int .i64 r.b, .int .i64 r.x, .int .i64 r.y] 66)).alloc (.cells #[.string { data := #[] }, .int .i64 0, .int .i64 0, .int .i64 0, .int .i64 0, .int .i64 0, .int .i64 0, .int .i64 0] 286))) r.vals 286 (by simp)
  obtain ⟨h0, h1, h2⟩ := rollF_zero h
  have F := fun w => pinReason_no r.p w hn h0
  have S := fun w => pairOf_yes r.x r.y w h2
  unfold pairV at S
  clear h h0 h2
  go_enter Tryz.func215, Tryz.ntmps215
  go_wp2_with fail
  generalize ((w.alloc (.cells #[.string r.p.n, .int .i64 r.p.a, .int .i64 r.p.b, .int .i64 r.p.e, .int .i64 r.p.u, .int .i64 r.b, .int .i64 r.x, .int .i64 r.y] 66)).alloc (.cells #[.string { data := #[] }, .int .i64 0, .int .i64 0, .int .i64 0, .int .i64 0, .int .i64 0, .int .i64 0, .int .i64 0] 286)).alloc (.cells #[.string r.p.n, .int .i64 r.p.a, .int .i64 r.p.b, .int .i64 r.p.e, .int .i64 r.p.u, .int .i64 r.b, .int .i64 r.x, .int .i64 r.y] 286) = W0 at *
  refine (F _).mono ?_
  rintro e u1 ⟨rfl, b1⟩
  have A1 := A0.on b1
  have Z1 := Z0.on b1
  have B1 := btr b0 b1
  have c5 := A1.cell 5 _ rfl
  clear A0 Z0 b0 b1 F
  go_wp2_with fail
  refine (implIsPublic_any _ _).mono ?_
  rintro e u2 ⟨rfl, b2⟩
  have A2 := A1.on b2
  have Z2 := Z1.on b2
  have B2 := btr B1 b2
  clear A1 Z1 B1 b2 c5
  have c6 := A2.cell 6 _ rfl
  have c7 := A2.cell 7 _ rfl
  go_wp2_with fail
  refine (S _).mono ?_
  rintro e u3 ⟨rfl, b3⟩
  have c0 := (A2.on b3).cell 0 _ rfl
  have c1 := (A2.on b3).cell 1 _ rfl
  have c2 := (A2.on b3).cell 2 _ rfl
  have c3 := (A2.on b3).cell 3 _ rfl
  have c4 := (A2.on b3).cell 4 _ rfl
  have c5 := (A2.on b3).cell 5 _ rfl
  have c6 := (A2.on b3).cell 6 _ rfl
  have c7 := (A2.on b3).cell 7 _ rfl
  have z0 := (Z2.on b3).cell 0 _ rfl
  have z1 := (Z2.on b3).cell 1 _ rfl
  have z2 := (Z2.on b3).cell 2 _ rfl
  have z3 := (Z2.on b3).cell 3 _ rfl
  have z4 := (Z2.on b3).cell 4 _ rfl
  have z5 := (Z2.on b3).cell 5 _ rfl
  have z6 := (Z2.on b3).cell 6 _ rfl
  have z7 := (Z2.on b3).cell 7 _ rfl
  have h0 := (Z2.on b3).free 0 _ rfl
  have h1 := (Z2.on b3).free 1 _ rfl
  have h2 := (Z2.on b3).free 2 _ rfl
  have h3 := (Z2.on b3).free 3 _ rfl
  have h4 := (Z2.on b3).free 4 _ rfl
  have h5 := (Z2.on b3).free 5 _ rfl
  have h6 := (Z2.on b3).free 6 _ rfl
  have h7 := (Z2.on b3).free 7 _ rfl
  have HB := Lib.hid (btr B2 b3)
  clear A2 Z2 B2 b3 S
  go_wp2_with fail
  refine bodyPost_ret (v := .tuple #[R8 r, .nilIface]) (by simp [results, Tryz.results215, go_sem, z0, z1, z2, z3, z4, z5, z6, z7]) rfl ⟨rfl, (by (iterate 8 (refine bset ?_ (by dsimp only; omega) _)); exact HB.out)⟩
end Go.Proofs.YtlodhleihnlchaaGreatDoor
namespace Go.Proofs.YtlodhleihnlchaaGreatDoor
open Go.RowKit
set_option maxRecDepth 100000
set_option linter.unusedVariables false

def zer8 : List Value := [.string { data := #[] }, .int .i64 0, .int .i64 0, .int .i64 0, .int .i64 0, .int .i64 0, .int .i64 0, .int .i64 0]
theorem kp1 (a b : Int) (w : World) : Sem.run Tryz.prog (Instr.field 119 (.agg #[.int .i64 a, .int .i64 b]) 1) w = .ok (.int .i64 b) w := by kernel_rfl
structure HoldL (W : World) (bs : List (Nat × List Value)) (cur : World) : Prop where
  bel : Below W.heap.size W cur
  at' : ∀ x ∈ bs, At x.1 x.2 cur
theorem HoldL.on {W cur cur' : World} {bs : List (Nat × List Value)} (h : HoldL W bs cur) (hb : Below cur.heap.size cur cur') : HoldL W bs cur' := ⟨btr h.bel hb, fun x hx => (h.at' x hx).on hb⟩
theorem HoldL.cell {W : World} {bs : List (Nat × List Value)} {g : Nat} {cs : List Value} (hx : (g, cs) ∈ bs) (i : Nat) (v : Value) (h : cs[i]? = some v) : ∀ z : Of (HoldL W bs), z.val.cell? ⟨g, i, none⟩ = some v := fun z => (z.prop.at' _ hx).cell i v h
theorem l8Sign_any (s : Int) (p : PinD) (w : World) (hs : inB s 1 1438 = true) (h : p.f = 0) :
    Calls Tryz.prog 213 #[.int .i64 s, P5 p] w fun e w' => e = .returned (R8 (signD s p)) ∧ Below w.heap.size w w' := by
  have b0 := bal (bal (Below.refl _ w) (.cells #[.string p.n, .int .i64 p.a, .int .i64 p.b, .int .i64 p.e, .int .i64 p.u] 59)) (.cells #[.string { data := #[] }, .int .i64 0, .int .i64 0, .int .i64 0, .int .i64 0, .int .i64 0, .int .i64 0, .int .i64 0] 66)
  have A0 : At w.heap.size p.vals ((w.alloc (.cells #[.string p.n, .int .i64 p.a, .int .i64 p.b, .int .i64 p.e, .int .i64 p.u] 59)).alloc (.cells #[.string { data := #[] }, .int .i64 0, .int .i64 0, .int .i64 0, .int .i64 0, .int .i64 0, .int .i64 0, .int .i64 0] 66)) := (At.new w p.vals 59).alloc _
  have Z0 : At (w.heap.size + 1) zer8 ((w.alloc (.cells #[.string p.n, .int .i64 p.a, .int .i64 p.b, .int .i64 p.e, .int .i64 p.u] 59)).alloc (.cells #[.string { data := #[] }, .int .i64 0, .int .i64 0, .int .i64 0, .int .i64 0, .int .i64 0, .int .i64 0, .int .i64 0] 66)) := At.newN (w := w.alloc (.cells #[.string p.n, .int .i64 p.a, .int .i64 p.b, .int .i64 p.e, .int .i64 p.u] 59)) zer8 66 (by simp)
  have hs' := hs
  simp only [inB, decide_eq_true_eq] at hs'
  obtain ⟨s0, s1⟩ := hs'
  have KY := fun w => l1Key_any s w (by omega) (by omega)
  have S := fun g w A => l8Sum_any g p w A h
  have T := fun w => l3Sign_any s (rsum p) w hs (rsum_sum p)
  have e : signD s p = ⟨p, M.pw 4 s.toNat 2879, M.sigPt s (rsum p), M.sigPr s (rsum p)⟩ := rfl
  rw [e]
  clear e h hs
  generalize M.sigPt s (rsum p) = x at *
  generalize M.sigPr s (rsum p) = y at *
  generalize rsum p = z at *
  generalize M.pw 4 s.toNat 2879 = u at *
  have g1 := kp1
  go_enter Tryz.func213, Tryz.ntmps213
  go_wp2_with fail
  generalize (w.alloc (.cells #[.string p.n, .int .i64 p.a, .int .i64 p.b, .int .i64 p.e, .int .i64 p.u] 59)).alloc (.cells #[.string { data := #[] }, .int .i64 0, .int .i64 0, .int .i64 0, .int .i64 0, .int .i64 0, .int .i64 0, .int .i64 0] 66) = W0 at *
  have H0 : HoldL w [(w.heap.size, p.vals)] W0.drew := ⟨btr b0 (bdrew _), fun x hx => by simp only [List.mem_cons, List.not_mem_nil, or_false] at hx; subst hx; exact A0.on (bdrew _)⟩
  have Z := Z0.on (bdrew W0)
  have ltz := Z.lt (by simp [zer8])
  refine wp_region_line (HoldL w [(w.heap.size, p.vals)]) [(0, true), (1, true), (4, true), (2, false), (3, true), (5, false), (6, false), (7, true), (8, false)] (by kernel_rfl) (by kernel_rfl) (fun _ _ d _ _ h => by cases d <;> exact h) H0 ?_
  have hst := H0
  have inst : Nonempty (Of (HoldL w [(w.heap.size, p.vals)])) := ⟨⟨_, hst⟩⟩
  have q0 := HoldL.cell (W := w) (bs := [(w.heap.size, p.vals)]) (List.mem_cons_self ..) 0 _ rfl
  have q1 := HoldL.cell (W := w) (bs := [(w.heap.size, p.vals)]) (List.mem_cons_self ..) 1 _ rfl
  have q2 := HoldL.cell (W := w) (bs := [(w.heap.size, p.vals)]) (List.mem_cons_self ..) 2 _ rfl
  have q3 := HoldL.cell (W := w) (bs := [(w.heap.size, p.vals)]) (List.mem_cons_self ..) 3 _ rfl
  have q4 := HoldL.cell (W := w) (bs := [(w.heap.size, p.vals)]) (List.mem_cons_self ..) 4 _ rfl
  clear H0 A0 Z0 b0
  generalize W0.drew = V1 at *
  iterate 3 (refine line_read rfl (by kernel_rfl) (fun K hK => ?_); go_big_quiet_op; refine hK _ ?_; clear hK K)
  refine line_alone rfl (by kernel_rfl) (fun K hK => ?_)
  refine call_any (args := #[.int .i64 s]) rfl (by kernel_rfl) (by kernel_rfl) (KY _) ?_
  rintro e wn ⟨rfl, hbn⟩
  have hstN := hst.on hbn
  have ZN := Z.on hbn
  refine ⟨_, rfl, hK _ _ hstN ?_⟩
  clear hK K hst hbn Z
  have hst := hstN
  have Z := ZN
  clear hstN ZN
  simp only [Act.put, List.setIfInBounds_toArray, List.set_cons_zero, List.set_cons_succ]
  iterate 1 (refine line_read rfl (by kernel_rfl) (fun K hK => ?_); go_big_quiet_op; refine hK _ ?_; clear hK K)
  refine line_alone rfl (by kernel_rfl) (fun K hK => ?_)
  refine call_any (args := #[.pointer (some ⟨w.heap.size, 0, none⟩)]) rfl (by kernel_rfl) (by kernel_rfl) (S _ _ (hst.at' _ (List.mem_cons_self ..))) ?_
  rintro e wn ⟨rfl, hbn⟩
  have hstN := hst.on hbn
  have ZN := Z.on hbn
  refine ⟨_, rfl, hK _ _ hstN ?_⟩
  clear hK K hst hbn Z
  have hst := hstN
  have Z := ZN
  clear hstN ZN
  simp only [Act.put, List.setIfInBounds_toArray, List.set_cons_zero, List.set_cons_succ]
  refine line_alone rfl (by kernel_rfl) (fun K hK => ?_)
  refine call_any (args := #[.int .i64 s, .int .i64 z]) rfl (by kernel_rfl) (by kernel_rfl) (T _) ?_
  rintro e wn ⟨rfl, hbn⟩
  have hstN := hst.on hbn
  have ZN := Z.on hbn
  refine ⟨_, rfl, hK _ _ hstN ?_⟩
  clear hK K hst hbn Z
  have hst := hstN
  have Z := ZN
  clear hstN ZN
  simp only [Act.put, List.setIfInBounds_toArray, List.set_cons_zero, List.set_cons_succ]
  iterate 1 (refine line_read rfl (by kernel_rfl) (fun K hK => ?_); go_big_quiet_op; refine hK _ ?_; clear hK K)
  have z0 := Z.cell 0 _ rfl
  have z1 := Z.cell 1 _ rfl
  have z2 := Z.cell 2 _ rfl
  have z3 := Z.cell 3 _ rfl
  have z4 := Z.cell 4 _ rfl
  have z5 := Z.cell 5 _ rfl
  have z6 := Z.cell 6 _ rfl
  have z7 := Z.cell 7 _ rfl
  have h0 := Z.free 0 _ rfl
  have h1 := Z.free 1 _ rfl
  have h2 := Z.free 2 _ rfl
  have h3 := Z.free 3 _ rfl
  have h4 := Z.free 4 _ rfl
  have h5 := Z.free 5 _ rfl
  have h6 := Z.free 6 _ rfl
  have h7 := Z.free 7 _ rfl
  have P8 : At w.heap.size p.vals ((((((((wn.setCell ⟨w.heap.size + 1, 0, none⟩ (.string p.n)).setCell ⟨w.heap.size + 1, 1, none⟩ (.int .i64 p.a)).setCell ⟨w.heap.size + 1, 2, none⟩ (.int .i64 p.b)).setCell ⟨w.heap.size + 1, 3, none⟩ (.int .i64 p.e)).setCell ⟨w.heap.size + 1, 4, none⟩ (.int .i64 p.u)).setCell ⟨w.heap.size + 1, 5, none⟩ (.int .i64 u)).setCell ⟨w.heap.size + 1, 6, none⟩ (.int .i64 x)).setCell ⟨w.heap.size + 1, 7, none⟩ (.int .i64 y)) := by
    have hp := hst.at' _ (List.mem_cons_self ..)
    iterate 8 (refine At.setB ?_ (by simp) _)
    exact hp
  have B8 : Below w.heap.size w ((((((((wn.setCell ⟨w.heap.size + 1, 0, none⟩ (.string p.n)).setCell ⟨w.heap.size + 1, 1, none⟩ (.int .i64 p.a)).setCell ⟨w.heap.size + 1, 2, none⟩ (.int .i64 p.b)).setCell ⟨w.heap.size + 1, 3, none⟩ (.int .i64 p.e)).setCell ⟨w.heap.size + 1, 4, none⟩ (.int .i64 p.u)).setCell ⟨w.heap.size + 1, 5, none⟩ (.int .i64 u)).setCell ⟨w.heap.size + 1, 6, none⟩ (.int .i64 x)).setCell ⟨w.heap.size + 1, 7, none⟩ (.int .i64 y)) := by
    have hp := hst.bel
    iterate 8 (refine bset ?_ (by simp) _)
    exact hp
  have S8 : HoldL w [(w.heap.size, p.vals)] ((((((((wn.setCell ⟨w.heap.size + 1, 0, none⟩ (.string p.n)).setCell ⟨w.heap.size + 1, 1, none⟩ (.int .i64 p.a)).setCell ⟨w.heap.size + 1, 2, none⟩ (.int .i64 p.b)).setCell ⟨w.heap.size + 1, 3, none⟩ (.int .i64 p.e)).setCell ⟨w.heap.size + 1, 4, none⟩ (.int .i64 p.u)).setCell ⟨w.heap.size + 1, 5, none⟩ (.int .i64 u)).setCell ⟨w.heap.size + 1, 6, none⟩ (.int .i64 x)).setCell ⟨w.heap.size + 1, 7, none⟩ (.int .i64 y)) := ⟨B8, fun q hq => by rw [List.mem_singleton.1 hq]; exact P8⟩
  have HB8 := Lib.hid B8
  clear P8 B8
  refine line_alone rfl (by kernel_rfl) (fun K hK => ?_)
  go_big_op
  refine hK _ _ (S8) ?_
  clear hK K
  refine line_nil ?_
  clear hst inst q0 q1 q2 q3 q4 Z KY S T ltz S8
  go_wp2_with fail
  exact bodyPost_ret (v := R8 ⟨p, u, x, y⟩) (by simp [results, Tryz.results213, go_sem, z0, z1, z2, z3, z4, z5, z6, z7]) rfl ⟨rfl, HB8.out⟩
end Go.Proofs.YtlodhleihnlchaaGreatDoor
namespace Go.Proofs.YtlodhleihnlchaaGreatDoor
open Go.RowKit
set_option maxRecDepth 100000
set_option linter.unusedVariables false

set_option maxHeartbeats 1000000 in
theorem dl8Next {w0 : World} {a : Option Addr} {len cap : Nat} {zs : List Int} {p0 : Nat} {w : World} (D : Draw w0 a len cap zs p0 w) (hp0 : p0 ≤ 900) (q : PinD) (hq : q.n.size ≤ 21) :
    Calls Tryz.prog 212 #[.pointer (some ⟨w0.heap.size, 0, none⟩), P5 q] w (DPin (p0 + 2) (fun q => q.n.size ≤ 21) w0 a len cap zs w) := by
  have hlt := D.lt
  have B1 : BentP w0 a len cap zs p0 w (w.heap.size + 1) pinZero w.heap.size [.string q.n, .int .i64 q.a, .int .i64 q.b, .int .i64 (wrap64 (q.e + 1)), .int .i64 q.u] ((w.alloc (.cells #[.string q.n, .int .i64 q.a, .int .i64 q.b, .int .i64 (wrap64 (q.e + 1)), .int .i64 q.u] 59)).alloc (.cells #[.string { data := #[] }, .int .i64 0, .int .i64 0, .int .i64 0, .int .i64 0] 59)) :=
    ⟨⟨(D.alloc _).alloc _, gal (gal (World.grownBy.refl w (some w0.heap.size)) _) _, At.newN (w := w.alloc (.cells #[.string q.n, .int .i64 q.a, .int .i64 q.b, .int .i64 (wrap64 (q.e + 1)), .int .i64 q.u] 59)) pinZero 59 (by simp)⟩, (At.new w [.string q.n, .int .i64 q.a, .int .i64 q.b, .int .i64 (wrap64 (q.e + 1)), .int .i64 q.u] 59).alloc _⟩
  have HQ := Lib.hid hq
  clear D hq
  go_enter Tryz.func212, Tryz.ntmps212
  go_wp2_with fail
  generalize (w.alloc (.cells #[.string q.n, .int .i64 q.a, .int .i64 q.b, .int .i64 (wrap64 (q.e + 1)), .int .i64 q.u] 59)).alloc (.cells #[.string { data := #[] }, .int .i64 0, .int .i64 0, .int .i64 0, .int .i64 0] 59) = W1 at *
  generalize wrap64 (q.e + 1) = ep at *
  refine (dl7Public B1.drw.draw (by omega)).mono ?_
  rintro r w2 ⟨ac, hac, rfl, D2, g2⟩
  have B2 := B1.kept g2 D2 (by omega) (by omega)
  clear B1 D2 g2 hac
  have B3 := (B2.put 1 (.int .i64 ac) (by omega) (by omega) (by omega)).put 2 (.int .i64 0) (by omega) (by omega) (by omega)
  have x0 := B2.one.cell 0 _ rfl
  have x1 := B2.one.cell 1 _ rfl
  have x2 := B2.one.cell 2 _ rfl
  have x3 := B2.one.cell 3 _ rfl
  have x4 := B2.one.cell 4 _ rfl
  have f0 := B2.one.free 0 _ rfl
  have f1 := B2.one.free 1 _ rfl
  have f2 := B2.one.free 2 _ rfl
  have f3 := B2.one.free 3 _ rfl
  have f4 := B2.one.free 4 _ rfl
  go_wp2_with fail
  clear B2 x0 x1 x2 x3 x4 f0 f1 f2 f3 f4
  have hsz : ((w2.setCell ⟨w.heap.size, 1, none⟩ (.int .i64 ac)).setCell ⟨w.heap.size, 2, none⟩ (.int .i64 0)).heap.size = w2.heap.size := by simp
  generalize (w2.setCell ⟨w.heap.size, 1, none⟩ (.int .i64 ac)).setCell ⟨w.heap.size, 2, none⟩ (.int .i64 0) = W3 at *
  rw [← hsz]
  clear hsz
  refine (dpick [50, 9999] 2 B3.drw.draw (by omega) (by omega) (by omega) rfl 2).mono ?_
  rintro r w4 ⟨u, hu, rfl, D4, O4⟩
  have B4 := (B3.alloc (.cells #[.int .i64 50, .int .i64 9999] 2)).only O4 D4 (by omega) (by omega)
  have B5 := B4.put 4 (.int .i64 u) (by omega) (by omega) (by omega)
  clear B3 D4 O4 hu
  have q0 := B4.drw.res.cell 0 _ rfl
  have q1 := B4.drw.res.cell 1 _ rfl
  have q2 := B4.drw.res.cell 2 _ rfl
  have q3 := B4.drw.res.cell 3 _ rfl
  have q4 := B4.drw.res.cell 4 _ rfl
  have z0 := B4.drw.res.free 0 _ rfl
  have z1 := B4.drw.res.free 1 _ rfl
  have z2 := B4.drw.res.free 2 _ rfl
  have z3 := B4.drw.res.free 3 _ rfl
  have z4 := B4.drw.res.free 4 _ rfl
  have x0 := B4.one.cell 0 _ rfl
  have x1 := B4.one.cell 1 _ rfl
  have x2 := B4.one.cell 2 _ rfl
  have x3 := B4.one.cell 3 _ rfl
  have x4 := B4.one.cell 4 _ rfl
  have f0 := B4.one.free 0 _ rfl
  have f1 := B4.one.free 1 _ rfl
  have f2 := B4.one.free 2 _ rfl
  have f3 := B4.one.free 3 _ rfl
  have f4 := B4.one.free 4 _ rfl
  have HB := Lib.hid B5
  clear B4 B5
  go_wp2_with fail
  refine bodyPost_ret (v := P5 ⟨q.n, ac, 0, ep, u⟩) (by simp [results, Tryz.results212, go_sem, q0, q1, q2, q3, q4]) rfl ?_
  refine ⟨⟨q.n, ac, 0, ep, u⟩, p0 + 1 + 1, HQ.out, by omega, rfl, ?hd, ?hg⟩
  case hd =>
    iterate 5 (refine Draw.put ?_ (by dsimp only; omega) _)
    exact HB.out.drw.draw
  case hg =>
    iterate 5 (refine gset ?_ (by dsimp only; omega) _)
    exact HB.out.drw.grew
set_option maxHeartbeats 1000000 in
theorem dl8Secret {w0 : World} {a : Option Addr} {len cap : Nat} {zs : List Int} {p0 : Nat} {w : World} (D : Draw w0 a len cap zs p0 w) (hp0 : p0 ≤ 1000) (u : Int) :
    Calls Tryz.prog 214 #[.pointer (some ⟨w0.heap.size, 0, none⟩), .int .i64 u] w fun r w' => ∃ (v : Int) (p : Nat), 1 ≤ v ∧ v ≤ 4 ∧ p ≤ p0 + 1 ∧ r = .returned (.int .i64 v) ∧ Draw w0 a len cap zs p w' ∧ w.grownBy w' (some w0.heap.size) := by
  have g1 := key1
  have T0 : Draw w0 a len cap zs p0 w ∧ w.grownBy w (some w0.heap.size) := ⟨D, World.grownBy.refl w (some w0.heap.size)⟩
  clear D
  go_enter Tryz.func214, Tryz.ntmps214
  go_wp2_with fail
  go_loopw [5] (fun i wr => ∃ k : Nat, 1 ≤ k ∧ k ≤ 5 ∧ i = .int .i64 k ∧ Draw w0 a len cap zs p0 wr ∧ w.grownBy wr (some w0.heap.size)) (fun i _ => 5 - (intOf i).toNat)
  case atStart => exact ⟨1, Nat.le_refl _, by omega, rfl, T0⟩
  case round =>
    obtain ⟨k, hk1, hk, rfl, hD, hg⟩ := hrel
    clear T0
    by_cases hlt : k < 5
    · have K := fun w => l1Key_any (k : Int) w (by omega) (by omega)
      generalize M.pw 4 (k : Int).toNat 2879 = y at *
      have HD := Lib.hid hD
      have HG := Lib.hid hg
      clear hD hg
      cases hyu : (y == u)
      · go_wp2_with fail
        refine (K _).mono ?_
        rintro e u1 ⟨rfl, b1⟩
        have D1 := Lib.hid (HD.out.below b1)
        have G1 := Lib.hid (gbe HG.out b1)
        clear b1 HD HG K
        go_wp2_with fail
        go_roundw
        case rel => exact ⟨k + 1, by omega, by omega, by go_num, D1.out, G1.out⟩
        case measure => simp [intOf]; omega
      · go_wp2_with fail
        refine (K _).mono ?_
        rintro e u1 ⟨rfl, b1⟩
        have D1 := Lib.hid (HD.out.below b1)
        have G1 := Lib.hid (gbe HG.out b1)
        clear b1 HD HG K
        go_wp2_with fail
        go_ret
        exact ⟨k, p0, by omega, by omega, by omega, rfl, D1.out, G1.out⟩
    · obtain rfl : k = 5 := by omega
      go_wp2_with fail
      refine (dnext 4 hD (by omega)).mono ?_
      rintro r w1 ⟨x, x0, x1, rfl, D1, O1⟩
      have hx : x < 4 := by omega
      have H := Lib.hid (And.intro D1 (gtr hg O1.grown))
      clear hD hg D1 O1 x1
      go_wp2_with fail
      go_ret
      exact ⟨1 + x, p0 + 1, by omega, by omega, by omega, rfl, H.out.1, H.out.2⟩

end Go.Proofs.YtlodhleihnlchaaGreatDoor
namespace Go.Proofs.YtlodhleihnlchaaGreatDoor
open Go.RowKit
set_option maxRecDepth 100000
set_option linter.unusedVariables false

def DRoll (K : Nat) (w0 : World) (a : Option Addr) (len cap : Nat) (zs : List Int) (w : World) (e : Ending) (w' : World) : Prop :=
  ∃ (q : RollD) (p : Nat), q.p.n.size ≤ 21 ∧ p ≤ K ∧ e = .returned (R8 q) ∧ Draw w0 a len cap zs p w' ∧ w.grownBy w' (some w0.heap.size)
structure Rd8 (g : Nat) (cs : List Value) (k : Nat) (ds : List Value) (x : World) : Prop where
  a : At g cs x
  b : At k ds x
def Got8 (w0 : World) (a : Option Addr) (len cap : Nat) (zs : List Int) (K : Nat) (w : World) (v : Value) (wx : World) : Prop :=
  ∃ (gb : Nat) (r : RollD) (p : Nat), v = .pointer (some ⟨gb, 0, none⟩) ∧ r.p.n.size ≤ 21 ∧ p ≤ K ∧ w.heap.size + 1 < gb ∧ BentP w0 a len cap zs p w (w.heap.size + 1) zer8 gb r.vals wx
def Nx8 (w0 : World) (a : Option Addr) (len cap : Nat) (zs : List Int) (K : Nat) (w : World) (nb : Nat) (q : PinD) (wx : World) : Prop :=
  ∃ (nx : PinD) (p : Nat), nx.f = 0 ∧ nx.n.size ≤ 21 ∧ p ≤ K ∧ DrwP w0 a len cap zs p w (w.heap.size + 1) zer8 wx ∧ At w.heap.size q.vals wx ∧ At nb nx.vals wx
set_option maxHeartbeats 8000000 in
theorem dl8Draw {w0 : World} {a : Option Addr} {len cap : Nat} {zs : List Int} {p0 : Nat} {w : World} (D : Draw w0 a len cap zs p0 w) (hp0 : p0 ≤ 400) (q : PinD) (hq : q.n.size ≤ 21) :
    Calls Tryz.prog 123 #[.pointer (some ⟨w0.heap.size, 0, none⟩), P5 q] w (DRoll (p0 + 12) w0 a len cap zs w) := by
  have hlt := D.lt
  have R0 : DrwP w0 a len cap zs p0 w (w.heap.size + 1) zer8 ((w.alloc (.cells #[.string q.n, .int .i64 q.a, .int .i64 q.b, .int .i64 q.e, .int .i64 q.u] 59)).alloc (.cells #[.string { data := #[] }, .int .i64 0, .int .i64 0, .int .i64 0, .int .i64 0, .int .i64 0, .int .i64 0, .int .i64 0] 66)) :=
    ⟨(D.alloc _).alloc _, gal (gal (World.grownBy.refl w (some w0.heap.size)) _) _, At.newN (w := w.alloc (.cells #[.string q.n, .int .i64 q.a, .int .i64 q.b, .int .i64 q.e, .int .i64 q.u] 59)) zer8 66 (by simp)⟩
  have A0 : At w.heap.size q.vals ((w.alloc (.cells #[.string q.n, .int .i64 q.a, .int .i64 q.b, .int .i64 q.e, .int .i64 q.u] 59)).alloc (.cells #[.string { data := #[] }, .int .i64 0, .int .i64 0, .int .i64 0, .int .i64 0, .int .i64 0, .int .i64 0, .int .i64 0] 66)) := (At.new w q.vals 59).alloc _
  clear D
  go_enter Tryz.func123, Tryz.ntmps123
  go_wp2_with fail
  generalize (w.alloc (.cells #[.string q.n, .int .i64 q.a, .int .i64 q.b, .int .i64 q.e, .int .i64 q.u] 59)).alloc (.cells #[.string { data := #[] }, .int .i64 0, .int .i64 0, .int .i64 0, .int .i64 0, .int .i64 0, .int .i64 0, .int .i64 0] 66) = W0 at *
  refine (dl8Next R0.draw (by omega) q hq).mono ?_
  rintro e u1 ⟨nx, p1, hn1, hp1, rfl, D1, g1⟩
  have R1 := (R0.kept g1 D1 (by omega)).alloc (.cells #[.string nx.n, .int .i64 nx.a, .int .i64 nx.b, .int .i64 nx.e, .int .i64 nx.u] 59)
  have A1 := (A0.kept g1 (fun e => by injection e with e; omega)).alloc (.cells #[.string nx.n, .int .i64 nx.a, .int .i64 nx.b, .int .i64 nx.e, .int .i64 nx.u] 59)
  have X1 : At u1.heap.size nx.vals (u1.alloc (.cells #[.string nx.n, .int .i64 nx.a, .int .i64 nx.b, .int .i64 nx.e, .int .i64 nx.u] 59)) := At.new u1 nx.vals 59
  have lt1 := (R0.kept g1 D1 (by omega)).res.lt (by simp [zer8])
  have F := fun g w A => l7Fault_any g nx w A (by simp only [maxLen]; omega)
  clear R0 A0 D1 g1 hq
  go_wp2_with fail
  generalize u1.alloc (.cells #[.string nx.n, .int .i64 nx.a, .int .i64 nx.b, .int .i64 nx.e, .int .i64 nx.u] 59) = W1 at *
  generalize u1.heap.size = nb at *
  refine (F _ _ X1).mono ?_
  rintro e W2 ⟨rfl, b2⟩
  have R2 := R1.on b2
  have A2 := A1.on b2
  have X2 := X1.on b2
  have hN1 := Lib.hid hn1
  generalize hfz : nx.f = fz at *
  have HFZ := Lib.hid hfz
  clear R1 A1 X1 b2 F hn1 hfz
  go_upto_if 11 with fail
  go_cut [] from 10 to 13 (fun wx => Nx8 w0 a len cap zs (p0 + 8) w nb q wx)
  case first =>
    by_cases hf : fz = 0
    · have n0 : (fz == 0) = true := by simpa using hf
      have n1 : (fz != 0) = false := by simp [hf]
      have HF := Lib.hid hf
      clear hf
      go_wp2_with fail
      go_meet
      case rel => exact ⟨nx, _, HFZ.out.trans HF.out, hN1.out, by omega, R2, A2, X2⟩
    · have n0 : (fz == 0) = false := by simpa using hf
      have n1 : (fz != 0) = true := by simp [hf]
      go_wp2_with fail
      refine (dl7Draw R2.draw (by omega)).mono ?_
      rintro e W3 ⟨ny, p3, hf3, hp3, rfl, D3, g3⟩
      have B3 : BentP _ _ _ _ _ _ _ _ _ _ _ _ := ⟨R2.kept g3 D3 (by omega), X2.kept g3 (fun e => by injection e with e; omega)⟩
      have A3 := A2.kept g3 (fun e => by injection e with e; omega)
      have A4 : At w.heap.size q.vals (((((W3.setCell ⟨nb, 0, none⟩ (.string ny.n)).setCell ⟨nb, 1, none⟩ (.int .i64 ny.a)).setCell ⟨nb, 2, none⟩ (.int .i64 ny.b)).setCell ⟨nb, 3, none⟩ (.int .i64 ny.e)).setCell ⟨nb, 4, none⟩ (.int .i64 ny.u)) := by
        iterate 5 (refine At.setB ?_ (by dsimp only; omega) _)
        exact A3
      have B4 := ((((B3.put 0 (.string ny.n) (by omega) (by omega) (by omega)).put 1 (.int .i64 ny.a) (by omega) (by omega) (by omega)).put 2 (.int .i64 ny.b) (by omega) (by omega) (by omega)).put 3 (.int .i64 ny.e) (by omega) (by omega) (by omega)).put 4 (.int .i64 ny.u) (by omega) (by omega) (by omega)
      have HH := Lib.hid (show Nx8 w0 a len cap zs (p0 + 8) w nb q (((((W3.setCell ⟨nb, 0, none⟩ (.string ny.n)).setCell ⟨nb, 1, none⟩ (.int .i64 ny.a)).setCell ⟨nb, 2, none⟩ (.int .i64 ny.b)).setCell ⟨nb, 3, none⟩ (.int .i64 ny.e)).setCell ⟨nb, 4, none⟩ (.int .i64 ny.u)) from ⟨ny, p3, hf3, by have := pin_size hf3; omega, by omega, B4.drw, A4, B4.one⟩)
      have x0 := B3.one.cell 0 _ rfl
      have x1 := B3.one.cell 1 _ rfl
      have x2 := B3.one.cell 2 _ rfl
      have x3 := B3.one.cell 3 _ rfl
      have x4 := B3.one.cell 4 _ rfl
      have f0 := B3.one.free 0 _ rfl
      have f1 := B3.one.free 1 _ rfl
      have f2 := B3.one.free 2 _ rfl
      have f3 := B3.one.free 3 _ rfl
      have f4 := B3.one.free 4 _ rfl
      clear R2 A2 X2 D3 g3 A3 A4 B3 B4 hf hf3
      go_wp2_with fail
      go_meet
      case rel => exact HH.out
  case rest =>
    obtain ⟨nx, p5, hnf, hns, hp5, R5, A5, X5⟩ := hcut
    clear R2 A2 X2 hN1 HFZ
    generalize wc = W5 at *
    go_upto_region 4 with fail
    go_cut [6] from 14 to 20 (fun v wx => Got8 w0 a len cap zs (p0 + 9) w v wx)
    case first =>
      refine wp_region_fork (Rd8 w.heap.size q.vals nb nx.vals) (by kernel_rfl) (⟨A5.on (bdrew _), X5.on (bdrew _)⟩) ?_
      have hst : (Rd8 w.heap.size q.vals nb nx.vals) _ := (⟨A5.on (bdrew _), X5.on (bdrew _)⟩)
      have inst : Nonempty (Of (Rd8 w.heap.size q.vals nb nx.vals)) := ⟨⟨_, hst⟩⟩
      have R := R5.on (bdrew _)
      have y1 : ∀ z : Of (Rd8 w.heap.size q.vals nb nx.vals), z.val.cell? ⟨w.heap.size, 1, none⟩ = some (.int .i64 q.a) := fun z => z.prop.a.cell 1 _ rfl
      have n0 : ∀ z : Of (Rd8 w.heap.size q.vals nb nx.vals), z.val.cell? ⟨nb, 0, none⟩ = some (.string nx.n) := fun z => z.prop.b.cell 0 _ rfl
      have n1 : ∀ z : Of (Rd8 w.heap.size q.vals nb nx.vals), z.val.cell? ⟨nb, 1, none⟩ = some (.int .i64 nx.a) := fun z => z.prop.b.cell 1 _ rfl
      have n2 : ∀ z : Of (Rd8 w.heap.size q.vals nb nx.vals), z.val.cell? ⟨nb, 2, none⟩ = some (.int .i64 nx.b) := fun z => z.prop.b.cell 2 _ rfl
      have n3 : ∀ z : Of (Rd8 w.heap.size q.vals nb nx.vals), z.val.cell? ⟨nb, 3, none⟩ = some (.int .i64 nx.e) := fun z => z.prop.b.cell 3 _ rfl
      have n4 : ∀ z : Of (Rd8 w.heap.size q.vals nb nx.vals), z.val.cell? ⟨nb, 4, none⟩ = some (.int .i64 nx.u) := fun z => z.prop.b.cell 4 _ rfl
      clear A5 X5 R5
      generalize W5.drew = V1 at *
      refine any_seg 4 [(0, true), (1, true), (2, true), (4, true)] (by kernel_rfl) (fun _ _ d _ _ h => by cases d <;> exact h) ?_
      iterate 4 (refine line_read rfl (by kernel_rfl) (fun K hK => ?_); go_big_quiet_op; refine hK _ ?_; clear hK K)
      refine line_nil ?_
      clear y1 n0 n1 n2 n3 n4
      refine any_fork 3 6 (by kernel_rfl) rfl rfl (by kernel_rfl) (by kernel_rfl) (fun K hK => ?_) (fun K hK => ?_)
      · refine call_any (args := #[.pointer (some ⟨w0.heap.size, 0, none⟩), .int .i64 q.a]) rfl (by kernel_rfl) (by kernel_rfl) (dl8Secret R.draw (by omega) q.a) ?_
        rintro e x1 ⟨s, ps, s0, s1, hps, rfl, D1, g1⟩
        have RN := R.kept g1 D1 (by omega)
        clear R
        have R := RN
        clear RN D1
        have hstN : Rd8 w.heap.size q.vals nb nx.vals x1 := ⟨hst.a.kept g1 (fun e => by injection e with e; omega), hst.b.kept g1 (fun e => by injection e with e; omega)⟩
        clear g1
        have hst2 := hstN
        refine ⟨_, rfl, hK _ _ hst2 ?_⟩
        clear hK K hst hstN
        have hst := hst2
        clear hst2
        simp only [Act.put, List.setIfInBounds_toArray, List.set_cons_zero, List.set_cons_succ]
        refine any_fork 5 6 (by kernel_rfl) rfl rfl (by kernel_rfl) (by kernel_rfl) (fun K hK => ?_) (fun K hK => ?_)
        · have hsb : inB s 1 1438 = true := by simp [inB]; omega
          refine call_any (args := #[.int .i64 s, P5 nx]) rfl (by kernel_rfl) (by kernel_rfl) (l8Sign_any s nx _ hsb hnf) ?_
          rintro e x2 ⟨rfl, b2⟩
          have RN := R.on b2
          clear R
          have R := RN
          clear RN
          have hstN : Rd8 w.heap.size q.vals nb nx.vals x2 := ⟨hst.a.on b2, hst.b.on b2⟩
          clear b2
          have hst2 := hstN
          refine ⟨_, rfl, hK _ _ hst2 ?_⟩
          clear hK K hst hstN
          have hst := hst2
          clear hst2
          simp only [Act.put, List.setIfInBounds_toArray, List.set_cons_zero, List.set_cons_succ]
          refine any_rest [(6, false), (7, false)] (by kernel_rfl) (fun _ _ d _ _ h => by cases d <;> exact h) ?_
          refine line_alone rfl (by kernel_rfl) (fun K hK => ?_)
          go_big_op
          have hst2 : Rd8 w.heap.size q.vals nb nx.vals (x2.alloc (.cells #[.string { data := #[] }, .int .i64 0, .int .i64 0, .int .i64 0, .int .i64 0, .int .i64 0, .int .i64 0, .int .i64 0] 66)) := ⟨hst.a.alloc _, hst.b.alloc _⟩
          have X : At x2.heap.size zer8 (x2.alloc (.cells #[.string { data := #[] }, .int .i64 0, .int .i64 0, .int .i64 0, .int .i64 0, .int .i64 0, .int .i64 0, .int .i64 0] 66)) := At.new x2 zer8 66
          have RN := R.alloc (.cells #[.string { data := #[] }, .int .i64 0, .int .i64 0, .int .i64 0, .int .i64 0, .int .i64 0, .int .i64 0, .int .i64 0] 66)
          have ltA := R.res.lt (by simp [zer8])
          have ltN := hst.b.lt (by simp [PinD.vals])
          clear R
          have R := RN
          clear RN
          refine hK _ _ hst2 ?_
          clear hK K hst
          have hst := hst2
          clear hst2
          generalize x2.alloc (.cells #[.string { data := #[] }, .int .i64 0, .int .i64 0, .int .i64 0, .int .i64 0, .int .i64 0, .int .i64 0, .int .i64 0] 66) = xa at *
          generalize x2.heap.size = ga at *
          have hrn : (signD s nx).p.n.size ≤ 21 := hns
          generalize signD s nx = r at *
          have h0 := X.cell 0 _ rfl
          have h1 := X.cell 1 _ rfl
          have h2 := X.cell 2 _ rfl
          have h3 := X.cell 3 _ rfl
          have h4 := X.cell 4 _ rfl
          have h5 := X.cell 5 _ rfl
          have h6 := X.cell 6 _ rfl
          have h7 := X.cell 7 _ rfl
          have f0 := X.free 0 _ rfl
          have f1 := X.free 1 _ rfl
          have f2 := X.free 2 _ rfl
          have f3 := X.free 3 _ rfl
          have f4 := X.free 4 _ rfl
          have f5 := X.free 5 _ rfl
          have f6 := X.free 6 _ rfl
          have f7 := X.free 7 _ rfl
          have SA : At w.heap.size q.vals ((((((((xa.setCell ⟨ga, 0, none⟩ (.string r.p.n)).setCell ⟨ga, 1, none⟩ (.int .i64 r.p.a)).setCell ⟨ga, 2, none⟩ (.int .i64 r.p.b)).setCell ⟨ga, 3, none⟩ (.int .i64 r.p.e)).setCell ⟨ga, 4, none⟩ (.int .i64 r.p.u)).setCell ⟨ga, 5, none⟩ (.int .i64 r.b)).setCell ⟨ga, 6, none⟩ (.int .i64 r.x)).setCell ⟨ga, 7, none⟩ (.int .i64 r.y)) := by
            iterate 8 (refine At.setB ?_ (by dsimp only; omega) _)
            exact hst.a
          have SB : At nb nx.vals ((((((((xa.setCell ⟨ga, 0, none⟩ (.string r.p.n)).setCell ⟨ga, 1, none⟩ (.int .i64 r.p.a)).setCell ⟨ga, 2, none⟩ (.int .i64 r.p.b)).setCell ⟨ga, 3, none⟩ (.int .i64 r.p.e)).setCell ⟨ga, 4, none⟩ (.int .i64 r.p.u)).setCell ⟨ga, 5, none⟩ (.int .i64 r.b)).setCell ⟨ga, 6, none⟩ (.int .i64 r.x)).setCell ⟨ga, 7, none⟩ (.int .i64 r.y)) := by
            iterate 8 (refine At.setB ?_ (by dsimp only; omega) _)
            exact hst.b
          have S8 : Rd8 w.heap.size q.vals nb nx.vals ((((((((xa.setCell ⟨ga, 0, none⟩ (.string r.p.n)).setCell ⟨ga, 1, none⟩ (.int .i64 r.p.a)).setCell ⟨ga, 2, none⟩ (.int .i64 r.p.b)).setCell ⟨ga, 3, none⟩ (.int .i64 r.p.e)).setCell ⟨ga, 4, none⟩ (.int .i64 r.p.u)).setCell ⟨ga, 5, none⟩ (.int .i64 r.b)).setCell ⟨ga, 6, none⟩ (.int .i64 r.x)).setCell ⟨ga, 7, none⟩ (.int .i64 r.y)) := ⟨SA, SB⟩
          have B8 : BentP _ _ _ _ _ _ _ _ _ _ _ _ := ⟨R, X⟩
          have B9 := (((((((B8.put 0 (.string r.p.n) (by omega) (by omega) (by omega)).put 1 (.int .i64 r.p.a) (by omega) (by omega) (by omega)).put 2 (.int .i64 r.p.b) (by omega) (by omega) (by omega)).put 3 (.int .i64 r.p.e) (by omega) (by omega) (by omega)).put 4 (.int .i64 r.p.u) (by omega) (by omega) (by omega)).put 5 (.int .i64 r.b) (by omega) (by omega) (by omega)).put 6 (.int .i64 r.x) (by omega) (by omega) (by omega)).put 7 (.int .i64 r.y) (by omega) (by omega) (by omega)
          have H9 := Lib.hid B9
          clear B8 B9 X R SA SB
          refine line_alone rfl (by kernel_rfl) (fun K hK => ?_)
          go_big_op
          refine hK _ _ (S8) ?_
          clear hK K
          refine line_nil ?_
          clear hst S8 h0 h1 h2 h3 h4 h5 h6 h7 f0 f1 f2 f3 f4 f5 f6 f7
          go_wp2_with fail
          go_meet
          case rel => exact ⟨_, r, _, rfl, hrn, by omega, by omega, H9.out⟩
        · go_big_op
          have hst2 : Rd8 w.heap.size q.vals nb nx.vals (x1.alloc (.cells #[.string { data := #[] }, .int .i64 0, .int .i64 0, .int .i64 0, .int .i64 0, .int .i64 0, .int .i64 0, .int .i64 0] 66)) := ⟨hst.a.alloc _, hst.b.alloc _⟩
          have X : At x1.heap.size zer8 (x1.alloc (.cells #[.string { data := #[] }, .int .i64 0, .int .i64 0, .int .i64 0, .int .i64 0, .int .i64 0, .int .i64 0, .int .i64 0] 66)) := At.new x1 zer8 66
          have RN := R.alloc (.cells #[.string { data := #[] }, .int .i64 0, .int .i64 0, .int .i64 0, .int .i64 0, .int .i64 0, .int .i64 0, .int .i64 0] 66)
          have ltA := R.res.lt (by simp [zer8])
          have ltN := hst.b.lt (by simp [PinD.vals])
          clear R
          have R := RN
          clear RN
          refine hK _ _ hst2 ?_
          clear hK K hst
          have hst := hst2
          clear hst2
          generalize x1.alloc (.cells #[.string { data := #[] }, .int .i64 0, .int .i64 0, .int .i64 0, .int .i64 0, .int .i64 0, .int .i64 0, .int .i64 0] 66) = xa at *
          generalize x1.heap.size = ga at *
          refine any_rest [(5, false), (7, false)] (by kernel_rfl) (fun _ _ d _ _ h => by cases d <;> exact h) ?_
          refine line_alone rfl (by kernel_rfl) (fun K hK => ?_)
          have hsb : inB s 1 1438 = true := by simp [inB]; omega
          refine call_any (args := #[.int .i64 s, P5 nx]) rfl (by kernel_rfl) (by kernel_rfl) (l8Sign_any s nx _ hsb hnf) ?_
          rintro e x2 ⟨rfl, b2⟩
          have RN := R.on b2
          clear R
          have R := RN
          clear RN
          have hstN : Rd8 w.heap.size q.vals nb nx.vals x2 := ⟨hst.a.on b2, hst.b.on b2⟩
          have XN := X.on b2
          clear X b2
          have X := XN
          clear XN
          have hst2 := hstN
          refine ⟨_, rfl, hK _ _ hst2 ?_⟩
          clear hK K hst hstN
          have hst := hst2
          clear hst2
          simp only [Act.put, List.setIfInBounds_toArray, List.set_cons_zero, List.set_cons_succ]
          have hrn : (signD s nx).p.n.size ≤ 21 := hns
          generalize signD s nx = r at *
          have h0 := X.cell 0 _ rfl
          have h1 := X.cell 1 _ rfl
          have h2 := X.cell 2 _ rfl
          have h3 := X.cell 3 _ rfl
          have h4 := X.cell 4 _ rfl
          have h5 := X.cell 5 _ rfl
          have h6 := X.cell 6 _ rfl
          have h7 := X.cell 7 _ rfl
          have f0 := X.free 0 _ rfl
          have f1 := X.free 1 _ rfl
          have f2 := X.free 2 _ rfl
          have f3 := X.free 3 _ rfl
          have f4 := X.free 4 _ rfl
          have f5 := X.free 5 _ rfl
          have f6 := X.free 6 _ rfl
          have f7 := X.free 7 _ rfl
          have SA : At w.heap.size q.vals ((((((((x2.setCell ⟨ga, 0, none⟩ (.string r.p.n)).setCell ⟨ga, 1, none⟩ (.int .i64 r.p.a)).setCell ⟨ga, 2, none⟩ (.int .i64 r.p.b)).setCell ⟨ga, 3, none⟩ (.int .i64 r.p.e)).setCell ⟨ga, 4, none⟩ (.int .i64 r.p.u)).setCell ⟨ga, 5, none⟩ (.int .i64 r.b)).setCell ⟨ga, 6, none⟩ (.int .i64 r.x)).setCell ⟨ga, 7, none⟩ (.int .i64 r.y)) := by
            iterate 8 (refine At.setB ?_ (by dsimp only; omega) _)
            exact hst.a
          have SB : At nb nx.vals ((((((((x2.setCell ⟨ga, 0, none⟩ (.string r.p.n)).setCell ⟨ga, 1, none⟩ (.int .i64 r.p.a)).setCell ⟨ga, 2, none⟩ (.int .i64 r.p.b)).setCell ⟨ga, 3, none⟩ (.int .i64 r.p.e)).setCell ⟨ga, 4, none⟩ (.int .i64 r.p.u)).setCell ⟨ga, 5, none⟩ (.int .i64 r.b)).setCell ⟨ga, 6, none⟩ (.int .i64 r.x)).setCell ⟨ga, 7, none⟩ (.int .i64 r.y)) := by
            iterate 8 (refine At.setB ?_ (by dsimp only; omega) _)
            exact hst.b
          have S8 : Rd8 w.heap.size q.vals nb nx.vals ((((((((x2.setCell ⟨ga, 0, none⟩ (.string r.p.n)).setCell ⟨ga, 1, none⟩ (.int .i64 r.p.a)).setCell ⟨ga, 2, none⟩ (.int .i64 r.p.b)).setCell ⟨ga, 3, none⟩ (.int .i64 r.p.e)).setCell ⟨ga, 4, none⟩ (.int .i64 r.p.u)).setCell ⟨ga, 5, none⟩ (.int .i64 r.b)).setCell ⟨ga, 6, none⟩ (.int .i64 r.x)).setCell ⟨ga, 7, none⟩ (.int .i64 r.y)) := ⟨SA, SB⟩
          have B8 : BentP _ _ _ _ _ _ _ _ _ _ _ _ := ⟨R, X⟩
          have B9 := (((((((B8.put 0 (.string r.p.n) (by omega) (by omega) (by omega)).put 1 (.int .i64 r.p.a) (by omega) (by omega) (by omega)).put 2 (.int .i64 r.p.b) (by omega) (by omega) (by omega)).put 3 (.int .i64 r.p.e) (by omega) (by omega) (by omega)).put 4 (.int .i64 r.p.u) (by omega) (by omega) (by omega)).put 5 (.int .i64 r.b) (by omega) (by omega) (by omega)).put 6 (.int .i64 r.x) (by omega) (by omega) (by omega)).put 7 (.int .i64 r.y) (by omega) (by omega) (by omega)
          have H9 := Lib.hid B9
          clear B8 B9 X R SA SB
          refine line_alone rfl (by kernel_rfl) (fun K hK => ?_)
          go_big_op
          refine hK _ _ (S8) ?_
          clear hK K
          refine line_nil ?_
          clear hst S8 h0 h1 h2 h3 h4 h5 h6 h7 f0 f1 f2 f3 f4 f5 f6 f7
          go_wp2_with fail
          go_meet
          case rel => exact ⟨_, r, _, rfl, hrn, by omega, by omega, H9.out⟩
      · go_big_op
        have hst2 : Rd8 w.heap.size q.vals nb nx.vals (V1.alloc (.cells #[.string { data := #[] }, .int .i64 0, .int .i64 0, .int .i64 0, .int .i64 0, .int .i64 0, .int .i64 0, .int .i64 0] 66)) := ⟨hst.a.alloc _, hst.b.alloc _⟩
        have X : At V1.heap.size zer8 (V1.alloc (.cells #[.string { data := #[] }, .int .i64 0, .int .i64 0, .int .i64 0, .int .i64 0, .int .i64 0, .int .i64 0, .int .i64 0] 66)) := At.new V1 zer8 66
        have RN := R.alloc (.cells #[.string { data := #[] }, .int .i64 0, .int .i64 0, .int .i64 0, .int .i64 0, .int .i64 0, .int .i64 0, .int .i64 0] 66)
        have ltA := R.res.lt (by simp [zer8])
        have ltN := hst.b.lt (by simp [PinD.vals])
        clear R
        have R := RN
        clear RN
        refine hK _ _ hst2 ?_
        clear hK K hst
        have hst := hst2
        clear hst2
        generalize V1.alloc (.cells #[.string { data := #[] }, .int .i64 0, .int .i64 0, .int .i64 0, .int .i64 0, .int .i64 0, .int .i64 0, .int .i64 0] 66) = xa at *
        generalize V1.heap.size = ga at *
        refine any_rest [(3, false), (5, false), (7, false)] (by kernel_rfl) (fun _ _ d _ _ h => by cases d <;> exact h) ?_
        refine line_alone rfl (by kernel_rfl) (fun K hK => ?_)
        refine call_any (args := #[.pointer (some ⟨w0.heap.size, 0, none⟩), .int .i64 q.a]) rfl (by kernel_rfl) (by kernel_rfl) (dl8Secret R.draw (by omega) q.a) ?_
        rintro e x1 ⟨s, ps, s0, s1, hps, rfl, D1, g1⟩
        have RN := R.kept g1 D1 (by omega)
        clear R
        have R := RN
        clear RN D1
        have hstN : Rd8 w.heap.size q.vals nb nx.vals x1 := ⟨hst.a.kept g1 (fun e => by injection e with e; omega), hst.b.kept g1 (fun e => by injection e with e; omega)⟩
        have XN := X.kept g1 (fun e => by injection e with e; omega)
        clear X g1
        have X := XN
        clear XN
        have hst2 := hstN
        refine ⟨_, rfl, hK _ _ hst2 ?_⟩
        clear hK K hst hstN
        have hst := hst2
        clear hst2
        simp only [Act.put, List.setIfInBounds_toArray, List.set_cons_zero, List.set_cons_succ]
        refine line_alone rfl (by kernel_rfl) (fun K hK => ?_)
        have hsb : inB s 1 1438 = true := by simp [inB]; omega
        refine call_any (args := #[.int .i64 s, P5 nx]) rfl (by kernel_rfl) (by kernel_rfl) (l8Sign_any s nx _ hsb hnf) ?_
        rintro e x2 ⟨rfl, b2⟩
        have RN := R.on b2
        clear R
        have R := RN
        clear RN
        have hstN : Rd8 w.heap.size q.vals nb nx.vals x2 := ⟨hst.a.on b2, hst.b.on b2⟩
        have XN := X.on b2
        clear X b2
        have X := XN
        clear XN
        have hst2 := hstN
        refine ⟨_, rfl, hK _ _ hst2 ?_⟩
        clear hK K hst hstN
        have hst := hst2
        clear hst2
        simp only [Act.put, List.setIfInBounds_toArray, List.set_cons_zero, List.set_cons_succ]
        have hrn : (signD s nx).p.n.size ≤ 21 := hns
        generalize signD s nx = r at *
        have h0 := X.cell 0 _ rfl
        have h1 := X.cell 1 _ rfl
        have h2 := X.cell 2 _ rfl
        have h3 := X.cell 3 _ rfl
        have h4 := X.cell 4 _ rfl
        have h5 := X.cell 5 _ rfl
        have h6 := X.cell 6 _ rfl
        have h7 := X.cell 7 _ rfl
        have f0 := X.free 0 _ rfl
        have f1 := X.free 1 _ rfl
        have f2 := X.free 2 _ rfl
        have f3 := X.free 3 _ rfl
        have f4 := X.free 4 _ rfl
        have f5 := X.free 5 _ rfl
        have f6 := X.free 6 _ rfl
        have f7 := X.free 7 _ rfl
        have SA : At w.heap.size q.vals ((((((((x2.setCell ⟨ga, 0, none⟩ (.string r.p.n)).setCell ⟨ga, 1, none⟩ (.int .i64 r.p.a)).setCell ⟨ga, 2, none⟩ (.int .i64 r.p.b)).setCell ⟨ga, 3, none⟩ (.int .i64 r.p.e)).setCell ⟨ga, 4, none⟩ (.int .i64 r.p.u)).setCell ⟨ga, 5, none⟩ (.int .i64 r.b)).setCell ⟨ga, 6, none⟩ (.int .i64 r.x)).setCell ⟨ga, 7, none⟩ (.int .i64 r.y)) := by
          iterate 8 (refine At.setB ?_ (by dsimp only; omega) _)
          exact hst.a
        have SB : At nb nx.vals ((((((((x2.setCell ⟨ga, 0, none⟩ (.string r.p.n)).setCell ⟨ga, 1, none⟩ (.int .i64 r.p.a)).setCell ⟨ga, 2, none⟩ (.int .i64 r.p.b)).setCell ⟨ga, 3, none⟩ (.int .i64 r.p.e)).setCell ⟨ga, 4, none⟩ (.int .i64 r.p.u)).setCell ⟨ga, 5, none⟩ (.int .i64 r.b)).setCell ⟨ga, 6, none⟩ (.int .i64 r.x)).setCell ⟨ga, 7, none⟩ (.int .i64 r.y)) := by
          iterate 8 (refine At.setB ?_ (by dsimp only; omega) _)
          exact hst.b
        have S8 : Rd8 w.heap.size q.vals nb nx.vals ((((((((x2.setCell ⟨ga, 0, none⟩ (.string r.p.n)).setCell ⟨ga, 1, none⟩ (.int .i64 r.p.a)).setCell ⟨ga, 2, none⟩ (.int .i64 r.p.b)).setCell ⟨ga, 3, none⟩ (.int .i64 r.p.e)).setCell ⟨ga, 4, none⟩ (.int .i64 r.p.u)).setCell ⟨ga, 5, none⟩ (.int .i64 r.b)).setCell ⟨ga, 6, none⟩ (.int .i64 r.x)).setCell ⟨ga, 7, none⟩ (.int .i64 r.y)) := ⟨SA, SB⟩
        have B8 : BentP _ _ _ _ _ _ _ _ _ _ _ _ := ⟨R, X⟩
        have B9 := (((((((B8.put 0 (.string r.p.n) (by omega) (by omega) (by omega)).put 1 (.int .i64 r.p.a) (by omega) (by omega) (by omega)).put 2 (.int .i64 r.p.b) (by omega) (by omega) (by omega)).put 3 (.int .i64 r.p.e) (by omega) (by omega) (by omega)).put 4 (.int .i64 r.p.u) (by omega) (by omega) (by omega)).put 5 (.int .i64 r.b) (by omega) (by omega) (by omega)).put 6 (.int .i64 r.x) (by omega) (by omega) (by omega)).put 7 (.int .i64 r.y) (by omega) (by omega) (by omega)
        have H9 := Lib.hid B9
        clear B8 B9 X R SA SB
        refine line_alone rfl (by kernel_rfl) (fun K hK => ?_)
        go_big_op
        refine hK _ _ (S8) ?_
        clear hK K
        refine line_nil ?_
        clear hst S8 h0 h1 h2 h3 h4 h5 h6 h7 f0 f1 f2 f3 f4 f5 f6 f7
        go_wp2_with fail
        go_meet
        case rel => exact ⟨_, r, _, rfl, hrn, by omega, by omega, H9.out⟩
    case rest =>
      obtain ⟨gb, r, pr, rfl, hrs, hpr, hgb, B6⟩ := hcut
      clear A5 X5 R5
      go_wp2_with fail
      refine (dnext 10 B6.drw.draw (by omega)).mono ?_
      rintro e w7 ⟨sw, t0, t1, rfl, D7, O7⟩
      have B7 := B6.only O7 D7 (by omega) (by omega)
      clear B6 D7 O7 t1
      by_cases e0 : sw = 0
      · subst e0
        go_wp2_with fail
        refine (dl7Public B7.drw.draw (by omega)).mono ?_
        rintro e w8 ⟨y, hy, rfl, D8, g8⟩
        have B8 := B7.kept g8 D8 (by omega) (by omega)
        have B9 := B8.put 5 (.int .i64 y) (by omega) (by omega) (by omega)
        clear B7 D8 g8 hy
        have q0 := B8.drw.res.cell 0 _ rfl
        have q1 := B8.drw.res.cell 1 _ rfl
        have q2 := B8.drw.res.cell 2 _ rfl
        have q3 := B8.drw.res.cell 3 _ rfl
        have q4 := B8.drw.res.cell 4 _ rfl
        have q5 := B8.drw.res.cell 5 _ rfl
        have q6 := B8.drw.res.cell 6 _ rfl
        have q7 := B8.drw.res.cell 7 _ rfl
        have z0 := B8.drw.res.free 0 _ rfl
        have z1 := B8.drw.res.free 1 _ rfl
        have z2 := B8.drw.res.free 2 _ rfl
        have z3 := B8.drw.res.free 3 _ rfl
        have z4 := B8.drw.res.free 4 _ rfl
        have z5 := B8.drw.res.free 5 _ rfl
        have z6 := B8.drw.res.free 6 _ rfl
        have z7 := B8.drw.res.free 7 _ rfl
        have x0 := B8.one.cell 0 _ rfl
        have x1 := B8.one.cell 1 _ rfl
        have x2 := B8.one.cell 2 _ rfl
        have x3 := B8.one.cell 3 _ rfl
        have x4 := B8.one.cell 4 _ rfl
        have x5 := B8.one.cell 5 _ rfl
        have x6 := B8.one.cell 6 _ rfl
        have x7 := B8.one.cell 7 _ rfl
        have f0 := B8.one.free 0 _ rfl
        have f1 := B8.one.free 1 _ rfl
        have f2 := B8.one.free 2 _ rfl
        have f3 := B8.one.free 3 _ rfl
        have f4 := B8.one.free 4 _ rfl
        have f5 := B8.one.free 5 _ rfl
        have f6 := B8.one.free 6 _ rfl
        have f7 := B8.one.free 7 _ rfl
        have HB := Lib.hid B9
        clear B8 B9
        go_wp2_with fail
        refine bodyPost_ret (v := R8 ⟨r.p, y, r.x, r.y⟩) (by simp [results, Tryz.results123, go_sem, q0, q1, q2, q3, q4, q5, q6, q7]) rfl ?_
        refine ⟨⟨r.p, y, r.x, r.y⟩, pr + 1 + 1, hrs, by omega, rfl, ?hd, ?hg⟩
        case hd =>
          iterate 8 (refine Draw.put ?_ (by dsimp only; omega) _)
          exact HB.out.drw.draw
        case hg =>
          iterate 8 (refine gset ?_ (by dsimp only; omega) _)
          exact HB.out.drw.grew
      by_cases e1 : sw = 1
      · subst e1
        go_wp2_with fail
        refine (dpick [1, 2, 3, 201] 4 B7.drw.draw (by omega) (by omega) (by omega) rfl 2).mono ?_
        rintro e w8 ⟨y, hy, rfl, D8, O8⟩
        have B8 := (B7.alloc (.cells #[.int .i64 1, .int .i64 2, .int .i64 3, .int .i64 201] 2)).only O8 D8 (by omega) (by omega)
        have B9 := B8.put 3 (.int .i64 y) (by omega) (by omega) (by omega)
        clear B7 D8 O8 hy
        have q0 := B8.drw.res.cell 0 _ rfl
        have q1 := B8.drw.res.cell 1 _ rfl
        have q2 := B8.drw.res.cell 2 _ rfl
        have q3 := B8.drw.res.cell 3 _ rfl
        have q4 := B8.drw.res.cell 4 _ rfl
        have q5 := B8.drw.res.cell 5 _ rfl
        have q6 := B8.drw.res.cell 6 _ rfl
        have q7 := B8.drw.res.cell 7 _ rfl
        have z0 := B8.drw.res.free 0 _ rfl
        have z1 := B8.drw.res.free 1 _ rfl
        have z2 := B8.drw.res.free 2 _ rfl
        have z3 := B8.drw.res.free 3 _ rfl
        have z4 := B8.drw.res.free 4 _ rfl
        have z5 := B8.drw.res.free 5 _ rfl
        have z6 := B8.drw.res.free 6 _ rfl
        have z7 := B8.drw.res.free 7 _ rfl
        have x0 := B8.one.cell 0 _ rfl
        have x1 := B8.one.cell 1 _ rfl
        have x2 := B8.one.cell 2 _ rfl
        have x3 := B8.one.cell 3 _ rfl
        have x4 := B8.one.cell 4 _ rfl
        have x5 := B8.one.cell 5 _ rfl
        have x6 := B8.one.cell 6 _ rfl
        have x7 := B8.one.cell 7 _ rfl
        have f0 := B8.one.free 0 _ rfl
        have f1 := B8.one.free 1 _ rfl
        have f2 := B8.one.free 2 _ rfl
        have f3 := B8.one.free 3 _ rfl
        have f4 := B8.one.free 4 _ rfl
        have f5 := B8.one.free 5 _ rfl
        have f6 := B8.one.free 6 _ rfl
        have f7 := B8.one.free 7 _ rfl
        have HB := Lib.hid B9
        clear B8 B9
        go_wp2_with fail
        refine bodyPost_ret (v := R8 ⟨⟨r.p.n, r.p.a, r.p.b, y, r.p.u⟩, r.b, r.x, r.y⟩) (by simp [results, Tryz.results123, go_sem, q0, q1, q2, q3, q4, q5, q6, q7]) rfl ?_
        refine ⟨⟨⟨r.p.n, r.p.a, r.p.b, y, r.p.u⟩, r.b, r.x, r.y⟩, pr + 1 + 1, hrs, by omega, rfl, ?hd, ?hg⟩
        case hd =>
          iterate 8 (refine Draw.put ?_ (by dsimp only; omega) _)
          exact HB.out.drw.draw
        case hg =>
          iterate 8 (refine gset ?_ (by dsimp only; omega) _)
          exact HB.out.drw.grew
      by_cases e2 : sw = 2
      · subst e2
        go_wp2_with fail
        refine (dpick [0, 1439] 2 B7.drw.draw (by omega) (by omega) (by omega) rfl 2).mono ?_
        rintro e w8 ⟨y, hy, rfl, D8, O8⟩
        have B8 := (B7.alloc (.cells #[.int .i64 0, .int .i64 1439] 2)).only O8 D8 (by omega) (by omega)
        have B9 := B8.put 7 (.int .i64 y) (by omega) (by omega) (by omega)
        clear B7 D8 O8 hy
        have q0 := B8.drw.res.cell 0 _ rfl
        have q1 := B8.drw.res.cell 1 _ rfl
        have q2 := B8.drw.res.cell 2 _ rfl
        have q3 := B8.drw.res.cell 3 _ rfl
        have q4 := B8.drw.res.cell 4 _ rfl
        have q5 := B8.drw.res.cell 5 _ rfl
        have q6 := B8.drw.res.cell 6 _ rfl
        have q7 := B8.drw.res.cell 7 _ rfl
        have z0 := B8.drw.res.free 0 _ rfl
        have z1 := B8.drw.res.free 1 _ rfl
        have z2 := B8.drw.res.free 2 _ rfl
        have z3 := B8.drw.res.free 3 _ rfl
        have z4 := B8.drw.res.free 4 _ rfl
        have z5 := B8.drw.res.free 5 _ rfl
        have z6 := B8.drw.res.free 6 _ rfl
        have z7 := B8.drw.res.free 7 _ rfl
        have x0 := B8.one.cell 0 _ rfl
        have x1 := B8.one.cell 1 _ rfl
        have x2 := B8.one.cell 2 _ rfl
        have x3 := B8.one.cell 3 _ rfl
        have x4 := B8.one.cell 4 _ rfl
        have x5 := B8.one.cell 5 _ rfl
        have x6 := B8.one.cell 6 _ rfl
        have x7 := B8.one.cell 7 _ rfl
        have f0 := B8.one.free 0 _ rfl
        have f1 := B8.one.free 1 _ rfl
        have f2 := B8.one.free 2 _ rfl
        have f3 := B8.one.free 3 _ rfl
        have f4 := B8.one.free 4 _ rfl
        have f5 := B8.one.free 5 _ rfl
        have f6 := B8.one.free 6 _ rfl
        have f7 := B8.one.free 7 _ rfl
        have HB := Lib.hid B9
        clear B8 B9
        go_wp2_with fail
        refine bodyPost_ret (v := R8 ⟨r.p, r.b, r.x, y⟩) (by simp [results, Tryz.results123, go_sem, q0, q1, q2, q3, q4, q5, q6, q7]) rfl ?_
        refine ⟨⟨r.p, r.b, r.x, y⟩, pr + 1 + 1, hrs, by omega, rfl, ?hd, ?hg⟩
        case hd =>
          iterate 8 (refine Draw.put ?_ (by dsimp only; omega) _)
          exact HB.out.drw.draw
        case hg =>
          iterate 8 (refine gset ?_ (by dsimp only; omega) _)
          exact HB.out.drw.grew
      by_cases e3 : sw = 3
      · subst e3
        have B9 := B7.put 4 (.int .i64 60) (by omega) (by omega) (by omega)
        have q0 := B7.drw.res.cell 0 _ rfl
        have q1 := B7.drw.res.cell 1 _ rfl
        have q2 := B7.drw.res.cell 2 _ rfl
        have q3 := B7.drw.res.cell 3 _ rfl
        have q4 := B7.drw.res.cell 4 _ rfl
        have q5 := B7.drw.res.cell 5 _ rfl
        have q6 := B7.drw.res.cell 6 _ rfl
        have q7 := B7.drw.res.cell 7 _ rfl
        have z0 := B7.drw.res.free 0 _ rfl
        have z1 := B7.drw.res.free 1 _ rfl
        have z2 := B7.drw.res.free 2 _ rfl
        have z3 := B7.drw.res.free 3 _ rfl
        have z4 := B7.drw.res.free 4 _ rfl
        have z5 := B7.drw.res.free 5 _ rfl
        have z6 := B7.drw.res.free 6 _ rfl
        have z7 := B7.drw.res.free 7 _ rfl
        have x0 := B7.one.cell 0 _ rfl
        have x1 := B7.one.cell 1 _ rfl
        have x2 := B7.one.cell 2 _ rfl
        have x3 := B7.one.cell 3 _ rfl
        have x4 := B7.one.cell 4 _ rfl
        have x5 := B7.one.cell 5 _ rfl
        have x6 := B7.one.cell 6 _ rfl
        have x7 := B7.one.cell 7 _ rfl
        have f0 := B7.one.free 0 _ rfl
        have f1 := B7.one.free 1 _ rfl
        have f2 := B7.one.free 2 _ rfl
        have f3 := B7.one.free 3 _ rfl
        have f4 := B7.one.free 4 _ rfl
        have f5 := B7.one.free 5 _ rfl
        have f6 := B7.one.free 6 _ rfl
        have f7 := B7.one.free 7 _ rfl
        have HB := Lib.hid B9
        clear B7 B9
        go_wp2_with fail
        refine bodyPost_ret (v := R8 ⟨⟨r.p.n, r.p.a, r.p.b, r.p.e, 60⟩, r.b, r.x, r.y⟩) (by simp [results, Tryz.results123, go_sem, q0, q1, q2, q3, q4, q5, q6, q7]) rfl ?_
        refine ⟨⟨⟨r.p.n, r.p.a, r.p.b, r.p.e, 60⟩, r.b, r.x, r.y⟩, pr + 1, hrs, by omega, rfl, ?hd, ?hg⟩
        case hd =>
          iterate 8 (refine Draw.put ?_ (by dsimp only; omega) _)
          exact HB.out.drw.draw
        case hg =>
          iterate 8 (refine gset ?_ (by dsimp only; omega) _)
          exact HB.out.drw.grew
      · have n0 : (sw == 0) = false := by rw [beq_eq_false_iff_ne]; exact e0
        have n1 : (sw == 1) = false := by rw [beq_eq_false_iff_ne]; exact e1
        have n2 : (sw == 2) = false := by rw [beq_eq_false_iff_ne]; exact e2
        have n3 : (sw == 3) = false := by rw [beq_eq_false_iff_ne]; exact e3
        have B9 := B7
        have q0 := B7.drw.res.cell 0 _ rfl
        have q1 := B7.drw.res.cell 1 _ rfl
        have q2 := B7.drw.res.cell 2 _ rfl
        have q3 := B7.drw.res.cell 3 _ rfl
        have q4 := B7.drw.res.cell 4 _ rfl
        have q5 := B7.drw.res.cell 5 _ rfl
        have q6 := B7.drw.res.cell 6 _ rfl
        have q7 := B7.drw.res.cell 7 _ rfl
        have z0 := B7.drw.res.free 0 _ rfl
        have z1 := B7.drw.res.free 1 _ rfl
        have z2 := B7.drw.res.free 2 _ rfl
        have z3 := B7.drw.res.free 3 _ rfl
        have z4 := B7.drw.res.free 4 _ rfl
        have z5 := B7.drw.res.free 5 _ rfl
        have z6 := B7.drw.res.free 6 _ rfl
        have z7 := B7.drw.res.free 7 _ rfl
        have x0 := B7.one.cell 0 _ rfl
        have x1 := B7.one.cell 1 _ rfl
        have x2 := B7.one.cell 2 _ rfl
        have x3 := B7.one.cell 3 _ rfl
        have x4 := B7.one.cell 4 _ rfl
        have x5 := B7.one.cell 5 _ rfl
        have x6 := B7.one.cell 6 _ rfl
        have x7 := B7.one.cell 7 _ rfl
        have f0 := B7.one.free 0 _ rfl
        have f1 := B7.one.free 1 _ rfl
        have f2 := B7.one.free 2 _ rfl
        have f3 := B7.one.free 3 _ rfl
        have f4 := B7.one.free 4 _ rfl
        have f5 := B7.one.free 5 _ rfl
        have f6 := B7.one.free 6 _ rfl
        have f7 := B7.one.free 7 _ rfl
        have HB := Lib.hid B9
        clear B7 B9
        go_wp2_with fail
        refine bodyPost_ret (v := R8 r) (by simp [results, Tryz.results123, go_sem, q0, q1, q2, q3, q4, q5, q6, q7]) rfl ?_
        refine ⟨r, pr + 1, hrs, by omega, rfl, ?hd, ?hg⟩
        case hd =>
          iterate 8 (refine Draw.put ?_ (by dsimp only; omega) _)
          exact HB.out.drw.draw
        case hg =>
          iterate 8 (refine gset ?_ (by dsimp only; omega) _)
          exact HB.out.drw.grew
end Go.Proofs.YtlodhleihnlchaaGreatDoor
namespace Go.Proofs.YtlodhleihnlchaaGreatDoor
open Go.RowKit
set_option linter.unusedVariables false

structure DiskD where
  rs : List (List Int)
  s : Int
structure StoreD where
  ps : List PinD
  d : DiskD
def disk0 : DiskD := ⟨[], 0⟩
def store0 : StoreD := ⟨[], disk0⟩
def longR (zs : List Int) : Bool := decide (40 < zs.length)
def diskF (d : DiskD) : Int := if 12 < d.rs.length then 2 else if d.rs.any longR then 2 else if 0 ≤ d.s ∧ d.s ≤ d.rs.length then 0 else 3
theorem diskF_many {d : DiskD} (h : 12 < d.rs.length) : diskF d = 2 := by unfold diskF; rw [if_pos h]
theorem diskF_long {d : DiskD} (h : ¬ 12 < d.rs.length) (h1 : d.rs.any longR = true) : diskF d = 2 := by unfold diskF; rw [if_neg h, if_pos h1]
theorem diskF_safe {d : DiskD} (h : ¬ 12 < d.rs.length) (h1 : d.rs.any longR = false) (h2 : ¬ (0 ≤ d.s ∧ d.s ≤ d.rs.length)) : diskF d = 3 := by unfold diskF; rw [if_neg h, if_neg (by rw [h1]; simp), if_neg h2]
theorem diskF_yes {d : DiskD} (h : ¬ 12 < d.rs.length) (h1 : d.rs.any longR = false) (h2 : 0 ≤ d.s ∧ d.s ≤ d.rs.length) : diskF d = 0 := by unfold diskF; rw [if_neg h, if_neg (by rw [h1]; simp), if_pos h2]
theorem diskF_zero {d : DiskD} (h : diskF d = 0) : d.rs.length ≤ 12 ∧ d.rs.any longR = false ∧ 0 ≤ d.s ∧ d.s ≤ d.rs.length := by
  by_cases h1 : 12 < d.rs.length
  · rw [diskF_many h1] at h; cases h
  · cases h2 : d.rs.any longR
    · by_cases h3 : 0 ≤ d.s ∧ d.s ≤ d.rs.length
      · exact ⟨by omega, rfl, h3.1, h3.2⟩
      · rw [diskF_safe h1 h2 h3] at h; cases h
    · rw [diskF_long h1 h2] at h; cases h
theorem long_of {rs : List (List Int)} (h : rs.any longR = false) : ∀ r ∈ rs, r.length ≤ 40 := by
  intro r hr
  have := List.any_eq_false.1 h r hr
  simp only [longR, decide_eq_true_eq] at this
  omega
end Go.Proofs.YtlodhleihnlchaaGreatDoor
namespace Go.Proofs.YtlodhleihnlchaaGreatDoor
open Go.RowKit
set_option maxRecDepth 100000
set_option linter.unusedVariables false

theorem long_no {rs : List (List Int)} (h : rs.any longR = false) {k : Nat} (hk : k < rs.length) : (rs[k]?.getD []).length ≤ 40 :=
  long_of h _ (by rw [List.getElem?_eq_getElem hk]; exact List.getElem_mem hk)
theorem any_next {rs : List (List Int)} {k : Nat} (hk : k < rs.length) (h : (rs.take k).any longR = false) (hl : ¬ 40 < (rs[k]?.getD []).length) : (rs.take (k + 1)).any longR = false :=
  M.any_take longR rs [] k hk h (by simpa [longR] using hl)

set_option maxHeartbeats 1000000 in
theorem implDiskFault_any (a : Option Addr) (n c B : Nat) (rs : List (List Int)) (s : Int) (w : World) (hG : Grid w B a n c rs) (hB : B ≤ w.heap.size) :
    Calls Tryz.prog 137 #[.agg #[.slice a n c, .int .i64 s]] w fun r w' => r = .returned (.int .i64 (diskF ⟨rs, s⟩)) ∧ Below w.heap.size w w' := by
  have hlen := hG.fits
  have hmost := hG.most
  unfold maxLen at hmost
  have hL := Lib.hid hG.length
  have b0 := bal (Below.refl _ w) (.cells #[.slice a n c, .int .i64 s] 55)
  by_cases h : 12 < n
  · have E : diskF ⟨rs, s⟩ = 2 := diskF_many (by show 12 < rs.length; rw [hL.out]; exact h)
    rw [E]; clear E hG
    have h' : (12 : Int) < n := by omega
    go_enter Tryz.func137, Tryz.ntmps137
    go_wp2_with fail
    go_ret
    exact ⟨rfl, b0⟩
  have h' : ¬ (12 : Int) < n := by omega
  have hG1 := hG.below (b0.mono hB)
  clear hG
  cases hA : rs.any longR
  · have E0 : ¬ (0 ≤ s ∧ s ≤ n) → diskF ⟨rs, s⟩ = 3 := fun q => diskF_safe (by show ¬ 12 < rs.length; rw [hL.out]; omega) hA (by show ¬ (0 ≤ s ∧ s ≤ rs.length); rw [hL.out]; exact q)
    have E1 : 0 ≤ s ∧ s ≤ n → diskF ⟨rs, s⟩ = 0 := fun q => diskF_yes (by show ¬ 12 < rs.length; rw [hL.out]; omega) hA (by show 0 ≤ s ∧ s ≤ rs.length; rw [hL.out]; exact q)
    have HA := Lib.hid hA
    have H0 := Lib.hid E0
    have H1 := Lib.hid E1
    clear hA E0 E1
    generalize diskF ⟨rs, s⟩ = D at *
    go_enter Tryz.func137, Tryz.ntmps137
    go_wp2_with fail
    go_loop [12] (fun i => ∃ k : Nat, k ≤ n ∧ i = .int .i64 k) (fun i => n - (intOf i).toNat)
    case atStart => exact ⟨0, Nat.zero_le _, rfl⟩
    case round =>
      obtain ⟨k, hk, rfl⟩ := hrel
      by_cases hlt : k < n
      · obtain ⟨b, off, ha, hb, hc⟩ := hG1.cells (by omega)
        obtain ⟨a', n', c', hcell, hrow⟩ := hc k hlt
        have hle : ¬ (40 : Int) < n' := by
          have := long_no HA.out (k := k) (by rw [hL.out]; exact hlt)
          rw [hrow.length] at this
          omega
        clear hc hrow hG1
        subst ha
        go_wp2_with fail
        go_round
        case rel => exact ⟨k + 1, by omega, by go_num⟩
        case measure => simp [intOf]; omega
      · have hkn : ¬ (k : Int) < n := by omega
        by_cases q0 : s < 0
        · have e := H0.out (by omega)
          subst e
          clear hG1
          go_wp2_with fail
          go_ret
          exact ⟨rfl, b0⟩
        · by_cases q1 : (n : Int) < s
          · have e := H0.out (by omega)
            subst e
            clear hG1
            go_wp2_with fail
            go_ret
            exact ⟨rfl, b0⟩
          · have e := H1.out (by omega)
            subst e
            clear hG1
            go_wp2_with fail
            go_ret
            exact ⟨rfl, b0⟩
  · have E : diskF ⟨rs, s⟩ = 2 := diskF_long (by show ¬ 12 < rs.length; rw [hL.out]; omega) hA
    rw [E]; clear E
    have HA := Lib.hid hA
    clear hA
    go_enter Tryz.func137, Tryz.ntmps137
    go_wp2_with fail
    go_loop [12] (fun i => ∃ k : Nat, k ≤ n ∧ i = .int .i64 k ∧ Hid ((rs.take k).any longR = false)) (fun i => n - (intOf i).toNat)
    case atStart => exact ⟨0, Nat.zero_le _, rfl, Lib.hid (by simp)⟩
    case round =>
      obtain ⟨k, hk, rfl, hT⟩ := hrel
      by_cases hlt : k < n
      · obtain ⟨b, off, ha, hb, hc⟩ := hG1.cells (by omega)
        obtain ⟨a', n', c', hcell, hrow⟩ := hc k hlt
        have hrl := Lib.hid hrow.length
        clear hc hrow
        subst ha
        by_cases hle : (40 : Int) < n'
        · go_wp2_with fail
          go_ret
          exact ⟨rfl, b0⟩
        · have T2 := Lib.hid (any_next (by rw [hL.out]; exact hlt) hT.out (by rw [hrl.out]; omega))
          clear hT
          go_wp2_with fail
          go_round
          case rel => exact ⟨k + 1, by omega, by go_num, T2⟩
          case measure => simp [intOf]; omega
      · exfalso
        have e := hT.out
        rw [List.take_of_length_le (by rw [hL.out]; omega), HA.out] at e
        cases e
set_option maxHeartbeats 1000000 in
theorem l9Disk_any (g : Nat) (a : Option Addr) (n c B : Nat) (rs : List (List Int)) (s : Int) (o : Nat) (w : World) (c0 : w.cell? ⟨g, o, none⟩ = some (.slice a n c)) (c1 : w.cell? ⟨g, o + 1, none⟩ = some (.int .i64 s)) (hG : Grid w B a n c rs) (hB : B ≤ w.heap.size) :
    Calls Tryz.prog 217 #[.pointer (some ⟨g, o, none⟩)] w fun r w' => r = .returned (.int .i64 (diskF ⟨rs, s⟩)) ∧ Below w.heap.size w w' := by
  have hlen := hG.fits
  have hmost := hG.most
  unfold maxLen at hmost
  have hL := Lib.hid hG.length
  by_cases h : 12 < n
  · have E : diskF ⟨rs, s⟩ = 2 := diskF_many (by show 12 < rs.length; rw [hL.out]; exact h)
    rw [E]; clear E hG
    have h' : (12 : Int) < n := by omega
    go_enter Tryz.func217, Tryz.ntmps217
    go_wp2_with fail
    go_ret
    exact ⟨rfl, Below.refl _ _⟩
  have h' : ¬ (12 : Int) < n := by omega
  cases hA : rs.any longR
  · have EE : diskF ⟨rs, s⟩ = if inB s 0 n then 0 else 3 := by
      by_cases q : 0 ≤ s ∧ s ≤ n
      · rw [show inB s 0 n = true by simp [inB, q], if_pos rfl]
        exact diskF_yes (by show ¬ 12 < rs.length; rw [hL.out]; omega) hA (by show 0 ≤ s ∧ s ≤ rs.length; rw [hL.out]; exact q)
      · rw [show inB s 0 n = false by simp only [inB, decide_eq_false_iff_not]; exact q]
        exact diskF_safe (by show ¬ 12 < rs.length; rw [hL.out]; omega) hA (by show ¬ (0 ≤ s ∧ s ≤ rs.length); rw [hL.out]; exact q)
    rw [EE]
    have HA := Lib.hid hA
    have LI := fun w => (l1In_any s 0 n w).mono (R' := fun e w' => e = .returned (.bool (inB s 0 n)) ∧ ∃ m, w' = w.drewN m) (by rintro e w' ⟨h, rfl⟩; exact ⟨h, 0, rfl⟩)
    generalize inB s 0 n = q at *
    clear hA EE
    go_enter Tryz.func217, Tryz.ntmps217
    go_wp2_with fail
    go_loop [3] (fun i => ∃ k : Nat, k ≤ n ∧ i = .int .i64 k) (fun i => n - (intOf i).toNat)
    case atStart => exact ⟨0, Nat.zero_le _, rfl⟩
    case round =>
      obtain ⟨k, hk, rfl⟩ := hrel
      by_cases hlt : k < n
      · obtain ⟨b, off, ha, hb, hc⟩ := hG.cells (by omega)
        obtain ⟨a', n', c', hcell, hrow⟩ := hc k hlt
        have hle : ¬ (40 : Int) < n' := by
          have := long_no HA.out (k := k) (by rw [hL.out]; exact hlt)
          rw [hrow.length] at this
          omega
        clear hc hrow hG
        subst ha
        go_wp2_with fail
        go_round
        case rel => exact ⟨k + 1, by omega, by go_num⟩
        case measure => simp [intOf]; omega
      · have hkn : ¬ (k : Int) < n := by omega
        clear hG
        cases q
        · go_wp2_with fail
          go_quiet ((go_at_call 151; exact Calls.quiet_of (LI _)))
          go_wp2_with fail
          go_ret
          exact ⟨rfl, bdrewN (Below.refl _ _) _⟩
        · go_wp2_with fail
          go_quiet ((go_at_call 151; exact Calls.quiet_of (LI _)))
          go_wp2_with fail
          go_ret
          exact ⟨rfl, bdrewN (Below.refl _ _) _⟩
  · have E : diskF ⟨rs, s⟩ = 2 := diskF_long (by show ¬ 12 < rs.length; rw [hL.out]; omega) hA
    rw [E]; clear E
    have HA := Lib.hid hA
    clear hA
    go_enter Tryz.func217, Tryz.ntmps217
    go_wp2_with fail
    go_loop [3] (fun i => ∃ k : Nat, k ≤ n ∧ i = .int .i64 k ∧ Hid ((rs.take k).any longR = false)) (fun i => n - (intOf i).toNat)
    case atStart => exact ⟨0, Nat.zero_le _, rfl, Lib.hid (by simp)⟩
    case round =>
      obtain ⟨k, hk, rfl, hT⟩ := hrel
      by_cases hlt : k < n
      · obtain ⟨b, off, ha, hb, hc⟩ := hG.cells (by omega)
        obtain ⟨a', n', c', hcell, hrow⟩ := hc k hlt
        have hrl := Lib.hid hrow.length
        clear hc hrow
        subst ha
        by_cases hle : (40 : Int) < n'
        · go_wp2_with fail
          go_ret
          exact ⟨rfl, Below.refl _ _⟩
        · have T2 := Lib.hid (any_next (by rw [hL.out]; exact hlt) hT.out (by rw [hrl.out]; omega))
          clear hT
          go_wp2_with fail
          go_round
          case rel => exact ⟨k + 1, by omega, by go_num, T2⟩
          case measure => simp [intOf]; omega
      · exfalso
        have e := hT.out
        rw [List.take_of_length_le (by rw [hL.out]; omega), HA.out] at e
        cases e
end Go.Proofs.YtlodhleihnlchaaGreatDoor
namespace Go.Proofs.YtlodhleihnlchaaGreatDoor.M

end Go.Proofs.YtlodhleihnlchaaGreatDoor.M
namespace Go.Proofs.YtlodhleihnlchaaGreatDoor
open Go.RowKit
set_option maxRecDepth 100000
set_option linter.unusedVariables false

abbrev R4 (s k : Int) (a : Option Addr) (n c : Nat) (t : Int) : Value := .agg #[.int .i64 s, .int .i64 k, .slice a n c, .int .i64 t]
abbrev R5 (e s k : Int) (a : Option Addr) (n c : Nat) (t : Int) : Value := .agg #[.int .i64 e, .int .i64 s, .int .i64 k, .slice a n c, .int .i64 t]
abbrev L4 (s k : Int) (a : Option Addr) (n c : Nat) (t : Int) : List Value := [.int .i64 s, .int .i64 k, .slice a n c, .int .i64 t]
end Go.Proofs.YtlodhleihnlchaaGreatDoor
