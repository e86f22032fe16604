/- Contracts of what the laws do with rollovers: compare them, copy them, count them. Conditions: as each theorem states. -/
import Derived.Test.YtmdknbgpddnplaaDoorG8
import Derived.Test.YtmdknbgpddnplaaDoorL7
import Derived.Test.YtmdknbgpddnplaaDoorC3e
namespace Go.Proofs.YtmdknbgpddnplaaDoor
open Go.RowKit
set_option maxRecDepth 100000
set_option linter.unusedVariables false

def zeroR : List Value := [.string { data := #[] }, .int .i64 0, .int .i64 0, .int .i64 0, .int .i64 0, .int .i64 0, .int .i64 0, .int .i64 0]
theorem toRoll_any (r : RollD) (w : World) : Calls Tryd.prog 7 #[R8 r] w fun e w' => e = .returned (R8 r) ∧ Below w.heap.size w w' := by
  have b0 := bal (bal (bal (Below.refl _ w) (.cells #[.string r.p.n, .int .i64 r.p.a, .int .i64 r.p.b, .int .i64 r.p.e, .int .i64 r.p.u, .int .i64 r.b, .int .i64 r.x, .int .i64 r.y] 27)) (.cells #[.string { data := #[] }, .int .i64 0, .int .i64 0, .int .i64 0, .int .i64 0, .int .i64 0, .int .i64 0, .int .i64 0] 33)) (.cells #[.string { data := #[] }, .int .i64 0, .int .i64 0, .int .i64 0, .int .i64 0, .int .i64 0, .int .i64 0, .int .i64 0] 33)
  have A0 : At w.heap.size r.vals (((w.alloc (.cells #[.string r.p.n, .int .i64 r.p.a, .int .i64 r.p.b, .int .i64 r.p.e, .int .i64 r.p.u, .int .i64 r.b, .int .i64 r.x, .int .i64 r.y] 27)).alloc (.cells #[.string { data := #[] }, .int .i64 0, .int .i64 0, .int .i64 0, .int .i64 0, .int .i64 0, .int .i64 0, .int .i64 0] 33)).alloc (.cells #[.string { data := #[] }, .int .i64 0, .int .i64 0, .int .i64 0, .int .i64 0, .int .i64 0, .int .i64 0, .int .i64 0] 33)) := ((At.new w r.vals 27).alloc _).alloc _
  have Z0 : At (w.heap.size + 1) zeroR (((w.alloc (.cells #[.string r.p.n, .int .i64 r.p.a, .int .i64 r.p.b, .int .i64 r.p.e, .int .i64 r.p.u, .int .i64 r.b, .int .i64 r.x, .int .i64 r.y] 27)).alloc (.cells #[.string { data := #[] }, .int .i64 0, .int .i64 0, .int .i64 0, .int .i64 0, .int .i64 0, .int .i64 0, .int .i64 0] 33)).alloc (.cells #[.string { data := #[] }, .int .i64 0, .int .i64 0, .int .i64 0, .int .i64 0, .int .i64 0, .int .i64 0, .int .i64 0] 33)) := (At.newN (w := (w.alloc (.cells #[.string r.p.n, .int .i64 r.p.a, .int .i64 r.p.b, .int .i64 r.p.e, .int .i64 r.p.u, .int .i64 r.b, .int .i64 r.x, .int .i64 r.y] 27))) zeroR 33 (by simp)).alloc (.cells #[.string { data := #[] }, .int .i64 0, .int .i64 0, .int .i64 0, .int .i64 0, .int .i64 0, .int .i64 0, .int .i64 0] 33)
  have X0 : At (w.heap.size + 1 + 1) zeroR (((w.alloc (.cells #[.string r.p.n, .int .i64 r.p.a, .int .i64 r.p.b, .int .i64 r.p.e, .int .i64 r.p.u, .int .i64 r.b, .int .i64 r.x, .int .i64 r.y] 27)).alloc (.cells #[.string { data := #[] }, .int .i64 0, .int .i64 0, .int .i64 0, .int .i64 0, .int .i64 0, .int .i64 0, .int .i64 0] 33)).alloc (.cells #[.string { data := #[] }, .int .i64 0, .int .i64 0, .int .i64 0, .int .i64 0, .int .i64 0, .int .i64 0, .int .i64 0] 33)) := At.newN (w := ((w.alloc (.cells #[.string r.p.n, .int .i64 r.p.a, .int .i64 r.p.b, .int .i64 r.p.e, .int .i64 r.p.u, .int .i64 r.b, .int .i64 r.x, .int .i64 r.y] 27)).alloc (.cells #[.string { data := #[] }, .int .i64 0, .int .i64 0, .int .i64 0, .int .i64 0, .int .i64 0, .int .i64 0, .int .i64 0] 33))) zeroR 33 (by simp)
  have P := fun w => toPin_any r.p w
  have S := fun w => toSigned_any r.x r.y w
  go_enter Tryd.func7, Tryd.ntmps7
  go_wp2_with fail
  generalize ((w.alloc (.cells #[.string r.p.n, .int .i64 r.p.a, .int .i64 r.p.b, .int .i64 r.p.e, .int .i64 r.p.u, .int .i64 r.b, .int .i64 r.x, .int .i64 r.y] 27)).alloc (.cells #[.string { data := #[] }, .int .i64 0, .int .i64 0, .int .i64 0, .int .i64 0, .int .i64 0, .int .i64 0, .int .i64 0] 33)).alloc (.cells #[.string { data := #[] }, .int .i64 0, .int .i64 0, .int .i64 0, .int .i64 0, .int .i64 0, .int .i64 0, .int .i64 0] 33) = W0 at *
  refine (P _).mono ?_
  rintro e u1 ⟨rfl, b1⟩
  have A1 := A0.on b1
  have Z1 := Z0.on b1
  have X1 := X0.on b1
  have B1 := btr b0 b1
  clear A0 Z0 X0 b0 b1 P
  have p0 := A1.cell 0 _ rfl
  have p1 := A1.cell 1 _ rfl
  have p2 := A1.cell 2 _ rfl
  have p3 := A1.cell 3 _ rfl
  have p4 := A1.cell 4 _ rfl
  have p5 := A1.cell 5 _ rfl
  have p6 := A1.cell 6 _ rfl
  have p7 := A1.cell 7 _ rfl
  have x0 := X1.cell 0 _ rfl
  have x1 := X1.cell 1 _ rfl
  have x2 := X1.cell 2 _ rfl
  have x3 := X1.cell 3 _ rfl
  have x4 := X1.cell 4 _ rfl
  have x5 := X1.cell 5 _ rfl
  have x6 := X1.cell 6 _ rfl
  have x7 := X1.cell 7 _ rfl
  have f0 := X1.free 0 _ rfl
  have f1 := X1.free 1 _ rfl
  have f2 := X1.free 2 _ rfl
  have f3 := X1.free 3 _ rfl
  have f4 := X1.free 4 _ rfl
  have f5 := X1.free 5 _ rfl
  have f6 := X1.free 6 _ rfl
  have f7 := X1.free 7 _ rfl
  go_wp2_with fail
  have X2 := (((((X1.set 0 (.string r.p.n)).set 1 (.int .i64 r.p.a)).set 2 (.int .i64 r.p.b)).set 3 (.int .i64 r.p.e)).set 4 (.int .i64 r.p.u)).set 5 (.int .i64 r.b)
  have Z2 := (((((Z1.setB (p := ⟨w.heap.size + 1 + 1, 0, none⟩) (by simp) (.string r.p.n)).setB (p := ⟨w.heap.size + 1 + 1, 1, none⟩) (by simp) (.int .i64 r.p.a)).setB (p := ⟨w.heap.size + 1 + 1, 2, none⟩) (by simp) (.int .i64 r.p.b)).setB (p := ⟨w.heap.size + 1 + 1, 3, none⟩) (by simp) (.int .i64 r.p.e)).setB (p := ⟨w.heap.size + 1 + 1, 4, none⟩) (by simp) (.int .i64 r.p.u)).setB (p := ⟨w.heap.size + 1 + 1, 5, none⟩) (by simp) (.int .i64 r.b)
  have B2 := bset (bset (bset (bset (bset (bset B1 (p := ⟨w.heap.size + 1 + 1, 0, none⟩) (by dsimp only; omega) (.string r.p.n)) (p := ⟨w.heap.size + 1 + 1, 1, none⟩) (by dsimp only; omega) (.int .i64 r.p.a)) (p := ⟨w.heap.size + 1 + 1, 2, none⟩) (by dsimp only; omega) (.int .i64 r.p.b)) (p := ⟨w.heap.size + 1 + 1, 3, none⟩) (by dsimp only; omega) (.int .i64 r.p.e)) (p := ⟨w.heap.size + 1 + 1, 4, none⟩) (by dsimp only; omega) (.int .i64 r.p.u)) (p := ⟨w.heap.size + 1 + 1, 5, none⟩) (by dsimp only; omega) (.int .i64 r.b)
  generalize (((((u1.setCell ⟨w.heap.size + 1 + 1, 0, none⟩ (.string r.p.n)).setCell ⟨w.heap.size + 1 + 1, 1, none⟩ (.int .i64 r.p.a)).setCell ⟨w.heap.size + 1 + 1, 2, none⟩ (.int .i64 r.p.b)).setCell ⟨w.heap.size + 1 + 1, 3, none⟩ (.int .i64 r.p.e)).setCell ⟨w.heap.size + 1 + 1, 4, none⟩ (.int .i64 r.p.u)).setCell ⟨w.heap.size + 1 + 1, 5, none⟩ (.int .i64 r.b) = W2 at *
  clear A1 Z1 X1 B1 p0 p1 p2 p3 p4 p5 p6 p7 x0 x1 x2 x3 x4 x5 x6 x7 f0 f1 f2 f3 f4 f5 f6 f7
  refine (S _).mono ?_
  rintro e u2 ⟨rfl, b2⟩
  have X3 := X2.on b2
  have Z3 := Z2.on b2
  have B3 := btr B2 b2
  have x0 := X3.cell 0 _ rfl
  have x1 := X3.cell 1 _ rfl
  have x2 := X3.cell 2 _ rfl
  have x3 := X3.cell 3 _ rfl
  have x4 := X3.cell 4 _ rfl
  have x5 := X3.cell 5 _ rfl
  have x6 := X3.cell 6 _ rfl
  have x7 := X3.cell 7 _ rfl
  have f0 := X3.free 0 _ rfl
  have f1 := X3.free 1 _ rfl
  have f2 := X3.free 2 _ rfl
  have f3 := X3.free 3 _ rfl
  have f4 := X3.free 4 _ rfl
  have f5 := X3.free 5 _ rfl
  have f6 := X3.free 6 _ rfl
  have f7 := X3.free 7 _ rfl
  have z0 := Z3.cell 0 _ rfl
  have z1 := Z3.cell 1 _ rfl
  have z2 := Z3.cell 2 _ rfl
  have z3 := Z3.cell 3 _ rfl
  have z4 := Z3.cell 4 _ rfl
  have z5 := Z3.cell 5 _ rfl
  have z6 := Z3.cell 6 _ rfl
  have z7 := Z3.cell 7 _ rfl
  have h0 := Z3.free 0 _ rfl
  have h1 := Z3.free 1 _ rfl
  have h2 := Z3.free 2 _ rfl
  have h3 := Z3.free 3 _ rfl
  have h4 := Z3.free 4 _ rfl
  have h5 := Z3.free 5 _ rfl
  have h6 := Z3.free 6 _ rfl
  have h7 := Z3.free 7 _ rfl
  clear X2 Z2 B2 b2 S X3 Z3
  go_wp2_with fail
  exact bodyPost_ret (v := R8 r) (by simp [results, Tryd.results7, go_sem, z0, z1, z2, z3, z4, z5, z6, z7]) rfl ⟨rfl, (by (iterate 10 (refine bset ?_ (by dsimp only; omega) _)); exact B3)⟩
theorem szRoll_any (r : RollD) (l : Int) (w : World) (hn : r.p.n.size ≤ maxLen) (l0 : 0 ≤ l) (l1 : l ≤ 1048576) :
    Calls Tryd.prog 5 #[R8 r, .int .i64 l] w fun e w' => e = .returned (.int .i64 (if l < r.p.n.size then -1 else l - r.p.n.size)) ∧ Below w.heap.size w w' := by
  have hb := bal (Below.refl _ w) (.cells #[.string r.p.n, .int .i64 r.p.a, .int .i64 r.p.b, .int .i64 r.p.e, .int .i64 r.p.u, .int .i64 r.b, .int .i64 r.x, .int .i64 r.y] 27)
  have S := fun w => szPin_any r.p l w hn l0 l1
  by_cases h : l < r.p.n.size
  · rw [if_pos h] at S ⊢
    go_enter Tryd.func5, Tryd.ntmps5
    go_wp2_with fail
    refine (S _).mono ?_
    rintro r w1 ⟨rfl, b1⟩
    have bb := btr hb b1
    go_wp2_with fail
    go_ret
    exact ⟨rfl, bb⟩
  · have h' : ¬ l - r.p.n.size < 0 := by omega
    rw [if_neg h] at S ⊢
    go_enter Tryd.func5, Tryd.ntmps5
    go_wp2_with fail
    refine (S _).mono ?_
    rintro r w1 ⟨rfl, b1⟩
    have bb := btr hb b1
    go_wp2_with fail
    go_ret
    exact ⟨rfl, bb⟩
/-- How much of a bound rollovers leave. -/
def szR (ps : List RollD) (l : Int) : Int := szP (ps.map RollD.p) l
theorem szR_ok {ps : List RollD} {l : Int} (h : 0 ≤ szR ps l) : (ps.length : Int) ≤ l ∧ szR ps l ≤ l := by
  obtain ⟨h1, _, h3⟩ := szP_ok h
  rw [List.length_map] at h1
  exact ⟨h1, h3⟩
theorem map_at (ps : List RollD) (k : Nat) : (ps.map RollD.p)[k]?.getD pin0 = (ps[k]?.getD roll0).p := by
  rw [List.getElem?_map]
  cases ps[k]? <;> rfl
/-- A slice of rollovers was copied. -/
def CopiedR (n : Nat) (ps : List RollD) (w : World) (r : Ending) (w' : World) : Prop :=
  r = .returned (.slice (some ⟨w.heap.size, 0, none⟩) n n) ∧ OwnR w' w.heap.size (.slice (some ⟨w.heap.size, 0, none⟩) n n) ps ∧ Below w.heap.size w w'
theorem roll_info : (Tryd.prog.info? 33).map (fun i => (i.zero, i.size, i.bytes)) = some (some (R8 roll0), 8, 72) := by kernel_rfl
end Go.Proofs.YtmdknbgpddnplaaDoor
