/- Contracts of whether a pin is live, by the program and by its model. Conditions: as each theorem states. -/
import Derived.Test.YtcnpocppgghejaaDoorC7a
namespace Go.Proofs.YtcnpocppgghejaaDoor
open Go.RowKit
set_option maxRecDepth 100000
set_option linter.unusedVariables false

def liveB (p : PinD) (t : Int) : Bool := decide (p.f = 0) && timB t && decide (t ≤ p.u)
theorem implIsLive_any (p : PinD) (t : Int) (w : World) (hn : p.n.size ≤ maxLen) :
    Calls Tryd.prog 29 #[P5 p, .int .i64 t] w fun e w' => e = .returned (.bool (liveB p t)) ∧ Below w.heap.size w w' := by
  have b0 := bal (Below.refl _ w) (.cells #[.string p.n, .int .i64 p.a, .int .i64 p.b, .int .i64 p.e, .int .i64 p.u] 26)
  have A0 : At w.heap.size p.vals (w.alloc (.cells #[.string p.n, .int .i64 p.a, .int .i64 p.b, .int .i64 p.e, .int .i64 p.u] 26)) := At.new w p.vals 26
  have F := fun w => implPinFault_any p w hn
  by_cases h0 : p.f = 0
  · rw [h0] at F
    cases ht : timB t
    · rw [show liveB p t = false by simp [liveB, ht]]
      go_enter Tryd.func29, Tryd.ntmps29
      go_wp2_with fail
      generalize w.alloc (.cells #[.string p.n, .int .i64 p.a, .int .i64 p.b, .int .i64 p.e, .int .i64 p.u] 26) = W0 at *
      refine (F _).mono ?_
      rintro r u1 ⟨rfl, b1⟩
      have c4 := (A0.on b1).cell 4 _ rfl
      have B1 := btr b0 b1
      clear A0 b0 b1 F
      go_wp2_with fail
      refine (isTime_any _ _).mono ?_
      rintro r w' ⟨rfl, rfl⟩
      go_wp2_with fail
      go_ret
      exact ⟨rfl, B1⟩
    by_cases hu : t ≤ p.u
    · rw [show liveB p t = true by simp [liveB, h0, ht, hu]]
      go_enter Tryd.func29, Tryd.ntmps29
      go_wp2_with fail
      generalize w.alloc (.cells #[.string p.n, .int .i64 p.a, .int .i64 p.b, .int .i64 p.e, .int .i64 p.u] 26) = W0 at *
      refine (F _).mono ?_
      rintro r u1 ⟨rfl, b1⟩
      have c4 := (A0.on b1).cell 4 _ rfl
      have B1 := btr b0 b1
      clear A0 b0 b1 F
      go_wp2_with fail
      refine (isTime_any _ _).mono ?_
      rintro r w' ⟨rfl, rfl⟩
      go_wp2_with fail
      go_ret
      exact ⟨rfl, B1⟩
    · rw [show liveB p t = false by simp [liveB, hu]]
      go_enter Tryd.func29, Tryd.ntmps29
      go_wp2_with fail
      generalize w.alloc (.cells #[.string p.n, .int .i64 p.a, .int .i64 p.b, .int .i64 p.e, .int .i64 p.u] 26) = W0 at *
      refine (F _).mono ?_
      rintro r u1 ⟨rfl, b1⟩
      have c4 := (A0.on b1).cell 4 _ rfl
      have B1 := btr b0 b1
      clear A0 b0 b1 F
      go_wp2_with fail
      refine (isTime_any _ _).mono ?_
      rintro r w' ⟨rfl, rfl⟩
      go_wp2_with fail
      go_ret
      exact ⟨by simpa using hu, B1⟩
  · rw [show liveB p t = false by simp [liveB, h0]]
    generalize p.f = c at *
    have q0 : (c == 0) = false := by simpa using h0
    go_enter Tryd.func29, Tryd.ntmps29
    go_wp2_with fail
    generalize w.alloc (.cells #[.string p.n, .int .i64 p.a, .int .i64 p.b, .int .i64 p.e, .int .i64 p.u] 26) = W0 at *
    refine (F _).mono ?_
    rintro r u1 ⟨rfl, b1⟩
    have c4 := (A0.on b1).cell 4 _ rfl
    have B1 := btr b0 b1
    clear A0 b0 b1 F
    go_wp2_with fail
    go_ret
    exact ⟨rfl, B1⟩
theorem l7Live_any (g : Nat) (p : PinD) (t : Int) (w : World) (A : At g p.vals w) : Calls Tryd.prog 58 #[.pointer (some ⟨g, 0, none⟩), .int .i64 t] w fun e w' => e = .returned (.bool (decide (t ≤ p.u))) ∧ Below w.heap.size w w' := by
  have c4 := A.cell 4 _ rfl
  go_enter Tryd.func58, Tryd.ntmps58
  go_wp2_with fail
  go_ret
  exact ⟨rfl, Below.refl _ _⟩
theorem specIsLive_any (p : PinD) (t : Int) (w : World) (hn : p.n.size ≤ maxLen) :
    Calls Tryd.prog 28 #[P5 p, .int .i64 t] w fun e w' => e = .returned (.bool (liveB p t)) ∧ Below w.heap.size w w' := by
  have b0 := bal (Below.refl _ w) (.cells #[.string p.n, .int .i64 p.a, .int .i64 p.b, .int .i64 p.e, .int .i64 p.u] 26)
  have A0 : At w.heap.size p.vals (w.alloc (.cells #[.string p.n, .int .i64 p.a, .int .i64 p.b, .int .i64 p.e, .int .i64 p.u] 26)) := At.new w p.vals 26
  have F := fun g w A => l7Fault_any g p w A hn
  by_cases h0 : p.f = 0
  · rw [h0] at F
    cases ht : timB t
    · rw [show liveB p t = false by simp [liveB, ht]]
      go_enter Tryd.func28, Tryd.ntmps28
      go_wp2_with fail
      generalize w.alloc (.cells #[.string p.n, .int .i64 p.a, .int .i64 p.b, .int .i64 p.e, .int .i64 p.u] 26) = W0 at *
      refine (F _ _ A0).mono ?_
      rintro r u1 ⟨rfl, b1⟩
      have A1 := A0.on b1
      have B1 := btr b0 b1
      clear A0 b0 b1 F
      go_wp2_with fail
      refine (l7Time_any _ _).mono ?_
      rintro r w' ⟨rfl, rfl⟩
      go_wp2_with fail
      go_ret
      exact ⟨rfl, B1⟩
    have e : liveB p t = decide (t ≤ p.u) := by simp [liveB, h0, ht]
    rw [e]
    have L := fun g w A => l7Live_any g p t w A
    generalize decide (t ≤ p.u) = c at *
    clear e
    go_enter Tryd.func28, Tryd.ntmps28
    go_wp2_with fail
    generalize w.alloc (.cells #[.string p.n, .int .i64 p.a, .int .i64 p.b, .int .i64 p.e, .int .i64 p.u] 26) = W0 at *
    refine (F _ _ A0).mono ?_
    rintro r u1 ⟨rfl, b1⟩
    have A1 := A0.on b1
    have B1 := btr b0 b1
    clear A0 b0 b1 F
    go_wp2_with fail
    refine (l7Time_any _ _).mono ?_
    rintro r w' ⟨rfl, rfl⟩
    go_wp2_with fail
    refine (L _ _ A1).mono ?_
    rintro r u2 ⟨rfl, b2⟩
    have B2 := btr B1 b2
    go_wp2_with fail
    go_ret
    exact ⟨rfl, B2⟩
  · rw [show liveB p t = false by simp [liveB, h0]]
    generalize p.f = c at *
    have q0 : (c == 0) = false := by simpa using h0
    go_enter Tryd.func28, Tryd.ntmps28
    go_wp2_with fail
    generalize w.alloc (.cells #[.string p.n, .int .i64 p.a, .int .i64 p.b, .int .i64 p.e, .int .i64 p.u] 26) = W0 at *
    refine (F _ _ A0).mono ?_
    rintro r u1 ⟨rfl, b1⟩
    have A1 := A0.on b1
    have B1 := btr b0 b1
    clear A0 b0 b1 F
    go_wp2_with fail
    go_ret
    exact ⟨rfl, B1⟩
end Go.Proofs.YtcnpocppgghejaaDoor
