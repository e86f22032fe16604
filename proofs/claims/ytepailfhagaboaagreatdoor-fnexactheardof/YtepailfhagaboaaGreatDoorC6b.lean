/- Contracts of what is wrong with a reply, by the program and by its model. Conditions: as each theorem states. -/
import Derived.Test.YtepailfhagaboaaGreatDoorMath6
import Derived.Test.YtepailfhagaboaaGreatDoorC3c
import Derived.Test.YtepailfhagaboaaGreatDoorG2
namespace Go.Proofs.YtepailfhagaboaaGreatDoor
open Go.RowKit
set_option maxRecDepth 100000
set_option linter.unusedVariables false

abbrev R6 (r s p x y f : Int) : Value := .agg #[.int .i64 r, .int .i64 s, .int .i64 p, .int .i64 x, .int .i64 y, .int .i64 f]
abbrev RL6 (r s p x y f : Int) : List Value := [.int .i64 r, .int .i64 s, .int .i64 p, .int .i64 x, .int .i64 y, .int .i64 f]
abbrev R7 (c r s p x y f : Int) : Value := .agg #[.int .i64 c, .int .i64 r, .int .i64 s, .int .i64 p, .int .i64 x, .int .i64 y, .int .i64 f]
abbrev RL7 (c r s p x y f : Int) : List Value := [.int .i64 c, .int .i64 r, .int .i64 s, .int .i64 p, .int .i64 x, .int .i64 y, .int .i64 f]

theorem implReplyFault_any (r s p x y f : Int) (w : World) (hg : ErrT w) :
    Calls Tryz.prog 19 #[R6 r s p x y f] w fun e w' => e = .returned (.int .i64 (repF r s p x y f)) ∧ Below w.heap.size w w' := by
  have b0 := bal (Below.refl _ w) (.cells #[.int .i64 r, .int .i64 s, .int .i64 p, .int .i64 x, .int .i64 y, .int .i64 f] 33)
  have A0 := At.new w (RL6 r s p x y f) 33
  have E0 := hg.on b0
  clear hg
  cases hr : M.sumB r
  · rw [repF_no (by rw [hr]; rfl)]
    go_enter Tryz.func19, Tryz.ntmps19
    go_wp2_with fail
    refine (isSum_any _ _).mono ?_
    rintro r w' ⟨rfl, rfl⟩
    go_wp2_with fail
    go_ret
    exact ⟨rfl, b0⟩
  cases hs : pubB s
  · rw [repF_no (by rw [hs]; simp)]
    go_enter Tryz.func19, Tryz.ntmps19
    go_wp2_with fail
    refine (isSum_any _ _).mono ?_
    rintro r w' ⟨rfl, rfl⟩
    go_wp2_with fail
    generalize w.alloc (.cells #[.int .i64 r, .int .i64 s, .int .i64 p, .int .i64 x, .int .i64 y, .int .i64 f] 33) = W0 at *
    refine (implIsPublic_any _ _).mono ?_
    rintro e u1 ⟨rfl, b1⟩
    have B1 := btr b0 b1
    have d0 := (A0.on b1).cell 0 _ rfl
    have d1 := (A0.on b1).cell 1 _ rfl
    have d2 := (A0.on b1).cell 2 _ rfl
    have d3 := (A0.on b1).cell 3 _ rfl
    have d4 := (A0.on b1).cell 4 _ rfl
    have d5 := (A0.on b1).cell 5 _ rfl
    go_wp2_with fail
    go_ret
    exact ⟨rfl, B1⟩
  cases hp : pubB p
  · rw [repF_no (by rw [hp]; simp)]
    go_enter Tryz.func19, Tryz.ntmps19
    go_wp2_with fail
    refine (isSum_any _ _).mono ?_
    rintro r w' ⟨rfl, rfl⟩
    go_wp2_with fail
    generalize w.alloc (.cells #[.int .i64 r, .int .i64 s, .int .i64 p, .int .i64 x, .int .i64 y, .int .i64 f] 33) = W0 at *
    refine (implIsPublic_any _ _).mono ?_
    rintro e u1 ⟨rfl, b1⟩
    have B1 := btr b0 b1
    have d0 := (A0.on b1).cell 0 _ rfl
    have d1 := (A0.on b1).cell 1 _ rfl
    have d2 := (A0.on b1).cell 2 _ rfl
    have d3 := (A0.on b1).cell 3 _ rfl
    have d4 := (A0.on b1).cell 4 _ rfl
    have d5 := (A0.on b1).cell 5 _ rfl
    go_wp2_with fail
    refine (implIsPublic_any _ _).mono ?_
    rintro e u2 ⟨rfl, b2⟩
    have B2 := btr B1 b2
    have b12 := btr b1 b2
    clear d0 d1 d2 d3 d4 d5 b1 b2
    have d0 := (A0.on b12).cell 0 _ rfl
    have d1 := (A0.on b12).cell 1 _ rfl
    have d2 := (A0.on b12).cell 2 _ rfl
    have d3 := (A0.on b12).cell 3 _ rfl
    have d4 := (A0.on b12).cell 4 _ rfl
    have d5 := (A0.on b12).cell 5 _ rfl
    go_wp2_with fail
    go_ret
    exact ⟨rfl, B2⟩
  cases hf : M.sumB f
  · rw [repF_no (by rw [hf]; simp)]
    go_enter Tryz.func19, Tryz.ntmps19
    go_wp2_with fail
    refine (isSum_any _ _).mono ?_
    rintro r w' ⟨rfl, rfl⟩
    go_wp2_with fail
    generalize w.alloc (.cells #[.int .i64 r, .int .i64 s, .int .i64 p, .int .i64 x, .int .i64 y, .int .i64 f] 33) = W0 at *
    refine (implIsPublic_any _ _).mono ?_
    rintro e u1 ⟨rfl, b1⟩
    have B1 := btr b0 b1
    have d0 := (A0.on b1).cell 0 _ rfl
    have d1 := (A0.on b1).cell 1 _ rfl
    have d2 := (A0.on b1).cell 2 _ rfl
    have d3 := (A0.on b1).cell 3 _ rfl
    have d4 := (A0.on b1).cell 4 _ rfl
    have d5 := (A0.on b1).cell 5 _ rfl
    go_wp2_with fail
    refine (implIsPublic_any _ _).mono ?_
    rintro e u2 ⟨rfl, b2⟩
    have B2 := btr B1 b2
    have b12 := btr b1 b2
    clear d0 d1 d2 d3 d4 d5 b1 b2
    have d0 := (A0.on b12).cell 0 _ rfl
    have d1 := (A0.on b12).cell 1 _ rfl
    have d2 := (A0.on b12).cell 2 _ rfl
    have d3 := (A0.on b12).cell 3 _ rfl
    have d4 := (A0.on b12).cell 4 _ rfl
    have d5 := (A0.on b12).cell 5 _ rfl
    go_wp2_with fail
    refine (isSum_any _ _).mono ?_
    rintro r w' ⟨rfl, rfl⟩
    go_wp2_with fail
    go_ret
    exact ⟨rfl, B2⟩
  · rw [repF_yes (by rw [hr, hs, hp, hf]; rfl)]
    go_enter Tryz.func19, Tryz.ntmps19
    go_wp2_with fail
    refine (isSum_any _ _).mono ?_
    rintro r w' ⟨rfl, rfl⟩
    go_wp2_with fail
    generalize w.alloc (.cells #[.int .i64 r, .int .i64 s, .int .i64 p, .int .i64 x, .int .i64 y, .int .i64 f] 33) = W0 at *
    refine (implIsPublic_any _ _).mono ?_
    rintro e u1 ⟨rfl, b1⟩
    have B1 := btr b0 b1
    have d0 := (A0.on b1).cell 0 _ rfl
    have d1 := (A0.on b1).cell 1 _ rfl
    have d2 := (A0.on b1).cell 2 _ rfl
    have d3 := (A0.on b1).cell 3 _ rfl
    have d4 := (A0.on b1).cell 4 _ rfl
    have d5 := (A0.on b1).cell 5 _ rfl
    go_wp2_with fail
    refine (implIsPublic_any _ _).mono ?_
    rintro e u2 ⟨rfl, b2⟩
    have B2 := btr B1 b2
    have b12 := btr b1 b2
    clear d0 d1 d2 d3 d4 d5 b1 b2
    have d0 := (A0.on b12).cell 0 _ rfl
    have d1 := (A0.on b12).cell 1 _ rfl
    have d2 := (A0.on b12).cell 2 _ rfl
    have d3 := (A0.on b12).cell 3 _ rfl
    have d4 := (A0.on b12).cell 4 _ rfl
    have d5 := (A0.on b12).cell 5 _ rfl
    go_wp2_with fail
    refine (isSum_any _ _).mono ?_
    rintro r w' ⟨rfl, rfl⟩
    go_wp2_with fail
    refine (implSignFault_any x y _ (E0.on b12)).mono ?_
    rintro e u3 ⟨rfl, b3⟩
    have B3 := btr B2 b3
    go_wp2_with fail
    go_ret
    exact ⟨rfl, B3⟩

theorem l3Fault3_any (g : Nat) (p q : Int) (w : World) (c0 : w.cell? ⟨g, 3, none⟩ = some (.int .i64 p)) (c1 : w.cell? ⟨g, 4, none⟩ = some (.int .i64 q)) :
    Calls Tryz.prog 77 #[.pointer (some ⟨g, 3, none⟩)] w fun r w' => r = .returned (.int .i64 (M.sigF p q)) ∧ w = w' := by
  cases hp : pubB p
  · have E : M.sigF p q = 3 := by simp [M.sigF, M.sigB, hp]
    rw [E]; clear E
    go_enter Tryz.func77, Tryz.ntmps77
    go_wp2_with fail
    refine (l1Public_any _ _).mono ?_
    rintro r w' ⟨rfl, rfl⟩
    go_wp2_with fail
    go_ret
    simp
  cases hq : inB q 0 1438
  · have E : M.sigF p q = 3 := by simp [M.sigF, M.sigB, hq]
    rw [E]; clear E
    go_enter Tryz.func77, Tryz.ntmps77
    go_wp2_with fail
    refine (l1Public_any _ _).mono ?_
    rintro r w' ⟨rfl, rfl⟩
    go_wp2_with fail
    refine (l1In_any _ _ _ _).mono ?_
    rintro r w' ⟨rfl, rfl⟩
    go_wp2_with fail
    go_ret
    simp
  · have E : M.sigF p q = 0 := by simp [M.sigF, M.sigB, hp, hq]
    rw [E]; clear E
    go_enter Tryz.func77, Tryz.ntmps77
    go_wp2_with fail
    refine (l1Public_any _ _).mono ?_
    rintro r w' ⟨rfl, rfl⟩
    go_wp2_with fail
    refine (l1In_any _ _ _ _).mono ?_
    rintro r w' ⟨rfl, rfl⟩
    go_wp2_with fail
    go_ret
    simp
theorem l6Reply_any (g : Nat) (r s p x y f : Int) (w : World) (A0 : At g (RL6 r s p x y f) w) :
    Calls Tryz.prog 49 #[.pointer (some ⟨g, 0, none⟩)] w fun e w' => e = .returned (.int .i64 (repF r s p x y f)) ∧ w = w' := by
  have d0 := A0.cell 0 _ rfl
  have d1 := A0.cell 1 _ rfl
  have d2 := A0.cell 2 _ rfl
  have d3 := A0.cell 3 _ rfl
  have d4 := A0.cell 4 _ rfl
  have d5 := A0.cell 5 _ rfl
  cases hr : M.sumB r
  · rw [repF_no (by rw [hr]; rfl)]
    go_enter Tryz.func49, Tryz.ntmps49
    go_wp2_with fail
    refine (l2Is_any _ _).mono ?_
    rintro r w' ⟨rfl, rfl⟩
    go_wp2_with fail
    go_ret
    simp
  cases hs : pubB s
  · rw [repF_no (by rw [hs]; simp)]
    go_enter Tryz.func49, Tryz.ntmps49
    go_wp2_with fail
    refine (l2Is_any _ _).mono ?_
    rintro r w' ⟨rfl, rfl⟩
    go_wp2_with fail
    refine (l1Public_any _ _).mono ?_
    rintro r w' ⟨rfl, rfl⟩
    go_wp2_with fail
    go_ret
    simp
  cases hp : pubB p
  · rw [repF_no (by rw [hp]; simp)]
    go_enter Tryz.func49, Tryz.ntmps49
    go_wp2_with fail
    refine (l2Is_any _ _).mono ?_
    rintro r w' ⟨rfl, rfl⟩
    go_wp2_with fail
    refine (l1Public_any _ _).mono ?_
    rintro r w' ⟨rfl, rfl⟩
    go_wp2_with fail
    refine (l1Public_any _ _).mono ?_
    rintro r w' ⟨rfl, rfl⟩
    go_wp2_with fail
    go_ret
    simp
  cases hf : M.sumB f
  · rw [repF_no (by rw [hf]; simp)]
    go_enter Tryz.func49, Tryz.ntmps49
    go_wp2_with fail
    refine (l2Is_any _ _).mono ?_
    rintro r w' ⟨rfl, rfl⟩
    go_wp2_with fail
    refine (l1Public_any _ _).mono ?_
    rintro r w' ⟨rfl, rfl⟩
    go_wp2_with fail
    refine (l1Public_any _ _).mono ?_
    rintro r w' ⟨rfl, rfl⟩
    go_wp2_with fail
    refine (l2Is_any _ _).mono ?_
    rintro r w' ⟨rfl, rfl⟩
    go_wp2_with fail
    go_ret
    simp
  · rw [repF_yes (by rw [hr, hs, hp, hf]; rfl)]
    go_enter Tryz.func49, Tryz.ntmps49
    go_wp2_with fail
    refine (l2Is_any _ _).mono ?_
    rintro r w' ⟨rfl, rfl⟩
    go_wp2_with fail
    refine (l1Public_any _ _).mono ?_
    rintro r w' ⟨rfl, rfl⟩
    go_wp2_with fail
    refine (l1Public_any _ _).mono ?_
    rintro r w' ⟨rfl, rfl⟩
    go_wp2_with fail
    refine (l2Is_any _ _).mono ?_
    rintro r w' ⟨rfl, rfl⟩
    go_wp2_with fail
    refine (l3Fault3_any g x y _ d3 d4).mono ?_
    rintro r w' ⟨rfl, rfl⟩
    go_wp2_with fail
    go_ret
    simp
theorem specReplyFault_any (r s p x y f : Int) (w : World) :
    Calls Tryz.prog 20 #[R6 r s p x y f] w fun e w' => e = .returned (.int .i64 (repF r s p x y f)) ∧ Below w.heap.size w w' := by
  have b0 := bal (Below.refl _ w) (.cells #[.int .i64 r, .int .i64 s, .int .i64 p, .int .i64 x, .int .i64 y, .int .i64 f] 33)
  have A0 := At.new w (RL6 r s p x y f) 33
  go_enter Tryz.func20, Tryz.ntmps20
  go_wp2_with fail
  refine (l6Reply_any _ r s p x y f _ A0).mono ?_
  rintro r w' ⟨rfl, rfl⟩
  go_wp2_with fail
  go_ret
  exact ⟨rfl, b0⟩
end Go.Proofs.YtepailfhagaboaaGreatDoor
