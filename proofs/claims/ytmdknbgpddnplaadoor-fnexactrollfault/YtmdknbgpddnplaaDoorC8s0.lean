/- Contracts of rollovers by the model: what is wrong with one, what is signed, how one is signed, whether it may follow. Conditions: as each theorem states. -/
import Derived.Test.YtmdknbgpddnplaaDoorG8
import Derived.Test.YtmdknbgpddnplaaDoorC3c
import Derived.Test.YtmdknbgpddnplaaDoorC7b
namespace Go.Proofs.YtmdknbgpddnplaaDoor
open Go.RowKit
set_option maxRecDepth 100000
set_option linter.unusedVariables false

theorem At.pin {g : Nat} {r : RollD} {w : World} (A : At g r.vals w) : At g r.p.vals w := by
  have e : r.vals = r.p.vals ++ [.int .i64 r.b, .int .i64 r.x, .int .i64 r.y] := rfl
  have k : ∀ i v, r.p.vals[i]? = some v → r.vals[i]? = some v := fun i v h => by
    rw [e, List.getElem?_append_left (List.getElem?_eq_some_iff.1 h).1]
    exact h
  exact ⟨fun i v h => A.cell i v (k i v h), fun i v h => A.free i v (k i v h)⟩
theorem l8Fault_any (g : Nat) (r : RollD) (w : World) (A : At g r.vals w) (hn : r.p.n.size ≤ maxLen) :
    Calls Tryd.prog 14 #[.pointer (some ⟨g, 0, none⟩)] w fun e w' => e = .returned (.int .i64 r.f) ∧ Below w.heap.size w w' := by
  have F := fun w (A : At g r.p.vals w) => l7Fault_any g r.p w A hn
  by_cases h0 : r.p.f = 0
  · rw [h0] at F
    cases h1 : pubB r.b
    · rw [rollF_by h0 h1]
      go_enter Tryd.func14, Tryd.ntmps14
      go_wp2_with fail
      refine (F _ A.pin).mono ?_
      rintro e u1 ⟨rfl, b1⟩
      have c5 := (A.on b1).cell 5 _ rfl
      have c6 := (A.on b1).cell 6 _ rfl
      have c7 := (A.on b1).cell 7 _ rfl
      clear F
      go_wp2_with fail
      refine (l1Public_any _ _).mono ?_
      rintro r w' ⟨rfl, rfl⟩
      go_wp2_with fail
      go_ret
      exact ⟨rfl, b1⟩
    · rw [rollF_sig h0 h1]
      have S := fun w c6 c7 => l3Fault_at g 6 r.x r.y w c6 c7
      generalize M.sigF r.x r.y = c at *
      go_enter Tryd.func14, Tryd.ntmps14
      go_wp2_with fail
      refine (F _ A.pin).mono ?_
      rintro e u1 ⟨rfl, b1⟩
      have c5 := (A.on b1).cell 5 _ rfl
      have c6 := (A.on b1).cell 6 _ rfl
      have c7 := (A.on b1).cell 7 _ rfl
      clear F
      go_wp2_with fail
      refine (l1Public_any _ _).mono ?_
      rintro r w' ⟨rfl, rfl⟩
      go_wp2_with fail
      refine (S _ c6 c7).mono ?_
      rintro r w' ⟨rfl, rfl⟩
      go_wp2_with fail
      go_ret
      exact ⟨rfl, b1⟩
  · rw [rollF_pin h0]
    generalize r.p.f = c at *
    have q0 : (c == 0) = false := by simpa using h0
    go_enter Tryd.func14, Tryd.ntmps14
    go_wp2_with fail
    refine (F _ A.pin).mono ?_
    rintro e u1 ⟨rfl, b1⟩
    have c5 := (A.on b1).cell 5 _ rfl
    have c6 := (A.on b1).cell 6 _ rfl
    have c7 := (A.on b1).cell 7 _ rfl
    clear F
    go_wp2_with fail
    go_ret
    exact ⟨rfl, b1⟩
theorem specRollFault_any (r : RollD) (w : World) (hn : r.p.n.size ≤ maxLen) :
    Calls Tryd.prog 6 #[R8 r] w fun e w' => e = .returned (.int .i64 r.f) ∧ Below w.heap.size w w' := by
  have b0 := bal (Below.refl _ w) (.cells #[.string r.p.n, .int .i64 r.p.a, .int .i64 r.p.b, .int .i64 r.p.e, .int .i64 r.p.u, .int .i64 r.b, .int .i64 r.x, .int .i64 r.y] 33)
  have A0 : At w.heap.size r.vals (w.alloc (.cells #[.string r.p.n, .int .i64 r.p.a, .int .i64 r.p.b, .int .i64 r.p.e, .int .i64 r.p.u, .int .i64 r.b, .int .i64 r.x, .int .i64 r.y] 33)) := At.new w r.vals 33
  go_enter Tryd.func6, Tryd.ntmps6
  go_wp2_with fail
  refine (l8Fault_any _ r _ A0 hn).mono ?_
  rintro e u1 ⟨rfl, b1⟩
  have hb := btr b0 b1
  go_wp2_with fail
  go_ret
  exact ⟨rfl, hb⟩
end Go.Proofs.YtmdknbgpddnplaaDoor
