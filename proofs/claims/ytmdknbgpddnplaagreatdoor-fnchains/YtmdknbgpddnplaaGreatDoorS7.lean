/- Texts of this seat that several laws rest on, laid into one. Conditions: as each theorem states. -/
import Derived.Test.YtmdknbgpddnplaaGreatDoorS2
import Derived.Test.YtmdknbgpddnplaaGreatDoorS4
import Derived.Test.YtmdknbgpddnplaaGreatDoorS5
import Derived.Test.YtmdknbgpddnplaaGreatDoorS6
import Derived.Lib.SmallJoins
import Derived.OpenShut
import Derived.Deep.Slices
import Derived.Test.YtmdknbgpddnplaaGreatDoorRows
import Derived.Test.YtmdknbgpddnplaaGreatDoorTie
import Derived.Test.YtmdknbgpddnplaaGreatDoorCards
import Derived.LaidHandle
import Derived.LaidLaws
import Derived.ProofKit
import Derived.WalkSmall
import Derived.Carry
import Derived.Below
import Derived.Deep.DeepHandedRow
import Derived.Lib.LaidTab
import Derived.Lay
import Derived.MakeChecks
import Derived.LaidMore
import Derived.Stop.Joined
namespace Go.Proofs.YtmdknbgpddnplaaGreatDoor
open Go.RowKit
set_option maxRecDepth 100000
set_option linter.unusedVariables false

def zer8 : List Value := [.string { data := #[] }, .int .i64 0, .int .i64 0, .int .i64 0, .int .i64 0, .int .i64 0, .int .i64 0, .int .i64 0]
def zer9 : List Value := [.int .i64 0, .string { data := #[] }, .int .i64 0, .int .i64 0, .int .i64 0, .int .i64 0, .int .i64 0, .int .i64 0, .int .i64 0]
theorem kp1 (a b : Int) (w : World) : Sem.run Tryz.prog (Instr.field 103 (.agg #[.int .i64 a, .int .i64 b]) 1) w = .ok (.int .i64 b) w := by kernel_rfl
theorem sg1 (c a b : Int) (w : World) : Sem.run Tryz.prog (Instr.field 108 (.agg #[.int .i64 c, .int .i64 a, .int .i64 b]) 1) w = .ok (.agg #[.int .i64 a, .int .i64 b]) w := by kernel_rfl
/-- Blocks that are read, and nothing of W has turned. -/
structure HoldL (W : World) (bs : List (Nat × List Value)) (cur : World) : Prop where
  bel : Below W.heap.size W cur
  at' : ∀ x ∈ bs, At x.1 x.2 cur
theorem HoldL.on {W cur cur' : World} {bs : List (Nat × List Value)} (h : HoldL W bs cur) (hb : Below cur.heap.size cur cur') : HoldL W bs cur' := ⟨btr h.bel hb, fun x hx => (h.at' x hx).on hb⟩
theorem HoldL.cell {W : World} {bs : List (Nat × List Value)} {g : Nat} {cs : List Value} (hx : (g, cs) ∈ bs) (i : Nat) (v : Value) (h : cs[i]? = some v) : ∀ z : Of (HoldL W bs), z.val.cell? ⟨g, i, none⟩ = some v := fun z => (z.prop.at' _ hx).cell i v h
theorem l8Sign_any (s : Int) (p : PinD) (w : World) (hs : inB s 1 1438 = true) (h : p.f = 0) :
    Calls Tryz.prog 78 #[.int .i64 s, P5 p] w fun e w' => e = .returned (R8 (signD s p)) ∧ Below w.heap.size w w' := by
  have b0 := bal (bal (Below.refl _ w) (.cells #[.string p.n, .int .i64 p.a, .int .i64 p.b, .int .i64 p.e, .int .i64 p.u] 25)) (.cells #[.string { data := #[] }, .int .i64 0, .int .i64 0, .int .i64 0, .int .i64 0, .int .i64 0, .int .i64 0, .int .i64 0] 29)
  have A0 : At w.heap.size p.vals ((w.alloc (.cells #[.string p.n, .int .i64 p.a, .int .i64 p.b, .int .i64 p.e, .int .i64 p.u] 25)).alloc (.cells #[.string { data := #[] }, .int .i64 0, .int .i64 0, .int .i64 0, .int .i64 0, .int .i64 0, .int .i64 0, .int .i64 0] 29)) := (At.new w p.vals 25).alloc _
  have Z0 : At (w.heap.size + 1) zer8 ((w.alloc (.cells #[.string p.n, .int .i64 p.a, .int .i64 p.b, .int .i64 p.e, .int .i64 p.u] 25)).alloc (.cells #[.string { data := #[] }, .int .i64 0, .int .i64 0, .int .i64 0, .int .i64 0, .int .i64 0, .int .i64 0, .int .i64 0] 29)) := At.newN (w := w.alloc (.cells #[.string p.n, .int .i64 p.a, .int .i64 p.b, .int .i64 p.e, .int .i64 p.u] 25)) zer8 29 (by simp)
  have hs' := hs
  simp only [inB, decide_eq_true_eq] at hs'
  obtain ⟨s0, s1⟩ := hs'
  have KY := fun w => l1Key_any s w (by omega) (by omega)
  have S := fun g w A => l8Sum_any g p w A h
  have T := fun w => l3Sign_any s (rsum p) w hs (rsum_sum p)
  have e : signD s p = ⟨p, M.pw 4 s.toNat 2879, M.sigPt s (rsum p), M.sigPr s (rsum p)⟩ := rfl
  rw [e]
  clear e h hs
  generalize M.sigPt s (rsum p) = x at *
  generalize M.sigPr s (rsum p) = y at *
  generalize rsum p = z at *
  generalize M.pw 4 s.toNat 2879 = u at *
  have g1 := kp1
  go_enter Tryz.func78, Tryz.ntmps78
  go_wp2_with fail
  generalize (w.alloc (.cells #[.string p.n, .int .i64 p.a, .int .i64 p.b, .int .i64 p.e, .int .i64 p.u] 25)).alloc (.cells #[.string { data := #[] }, .int .i64 0, .int .i64 0, .int .i64 0, .int .i64 0, .int .i64 0, .int .i64 0, .int .i64 0] 29) = W0 at *
  have H0 : HoldL w [(w.heap.size, p.vals)] W0.drew := ⟨btr b0 (bdrew _), fun x hx => by simp only [List.mem_cons, List.not_mem_nil, or_false] at hx; subst hx; exact A0.on (bdrew _)⟩
  have Z := Z0.on (bdrew W0)
  have ltz := Z.lt (by simp [zer8])
  refine wp_region_line (HoldL w [(w.heap.size, p.vals)]) [(0, true), (1, true), (4, true), (2, false), (3, true), (5, false), (6, false), (7, true), (8, false)] (by kernel_rfl) (by kernel_rfl) (fun _ _ d _ _ h => by cases d <;> exact h) H0 ?_
  have hst := H0
  have inst : Nonempty (Of (HoldL w [(w.heap.size, p.vals)])) := ⟨⟨_, hst⟩⟩
  have q0 := HoldL.cell (W := w) (bs := [(w.heap.size, p.vals)]) (List.mem_cons_self ..) 0 _ rfl
  have q1 := HoldL.cell (W := w) (bs := [(w.heap.size, p.vals)]) (List.mem_cons_self ..) 1 _ rfl
  have q2 := HoldL.cell (W := w) (bs := [(w.heap.size, p.vals)]) (List.mem_cons_self ..) 2 _ rfl
  have q3 := HoldL.cell (W := w) (bs := [(w.heap.size, p.vals)]) (List.mem_cons_self ..) 3 _ rfl
  have q4 := HoldL.cell (W := w) (bs := [(w.heap.size, p.vals)]) (List.mem_cons_self ..) 4 _ rfl
  clear H0 A0 Z0 b0
  generalize W0.drew = V1 at *
  iterate 3 (refine line_read rfl (by kernel_rfl) (fun K hK => ?_); go_big_quiet_op; refine hK _ ?_; clear hK K)
  refine line_alone rfl (by kernel_rfl) (fun K hK => ?_)
  refine call_any (args := #[.int .i64 s]) rfl (by kernel_rfl) (by kernel_rfl) (KY _) ?_
  rintro e wn ⟨rfl, hbn⟩
  have hstN := hst.on hbn
  have ZN := Z.on hbn
  refine ⟨_, rfl, hK _ _ hstN ?_⟩
  clear hK K hst hbn Z
  have hst := hstN
  have Z := ZN
  clear hstN ZN
  simp only [Act.put, List.setIfInBounds_toArray, List.set_cons_zero, List.set_cons_succ]
  iterate 1 (refine line_read rfl (by kernel_rfl) (fun K hK => ?_); go_big_quiet_op; refine hK _ ?_; clear hK K)
  refine line_alone rfl (by kernel_rfl) (fun K hK => ?_)
  refine call_any (args := #[.pointer (some ⟨w.heap.size, 0, none⟩)]) rfl (by kernel_rfl) (by kernel_rfl) (S _ _ (hst.at' _ (List.mem_cons_self ..))) ?_
  rintro e wn ⟨rfl, hbn⟩
  have hstN := hst.on hbn
  have ZN := Z.on hbn
  refine ⟨_, rfl, hK _ _ hstN ?_⟩
  clear hK K hst hbn Z
  have hst := hstN
  have Z := ZN
  clear hstN ZN
  simp only [Act.put, List.setIfInBounds_toArray, List.set_cons_zero, List.set_cons_succ]
  refine line_alone rfl (by kernel_rfl) (fun K hK => ?_)
  refine call_any (args := #[.int .i64 s, .int .i64 z]) rfl (by kernel_rfl) (by kernel_rfl) (T _) ?_
  rintro e wn ⟨rfl, hbn⟩
  have hstN := hst.on hbn
  have ZN := Z.on hbn
  refine ⟨_, rfl, hK _ _ hstN ?_⟩
  clear hK K hst hbn Z
  have hst := hstN
  have Z := ZN
  clear hstN ZN
  simp only [Act.put, List.setIfInBounds_toArray, List.set_cons_zero, List.set_cons_succ]
  iterate 1 (refine line_read rfl (by kernel_rfl) (fun K hK => ?_); go_big_quiet_op; refine hK _ ?_; clear hK K)
  have z0 := Z.cell 0 _ rfl
  have z1 := Z.cell 1 _ rfl
  have z2 := Z.cell 2 _ rfl
  have z3 := Z.cell 3 _ rfl
  have z4 := Z.cell 4 _ rfl
  have z5 := Z.cell 5 _ rfl
  have z6 := Z.cell 6 _ rfl
  have z7 := Z.cell 7 _ rfl
  have h0 := Z.free 0 _ rfl
  have h1 := Z.free 1 _ rfl
  have h2 := Z.free 2 _ rfl
  have h3 := Z.free 3 _ rfl
  have h4 := Z.free 4 _ rfl
  have h5 := Z.free 5 _ rfl
  have h6 := Z.free 6 _ rfl
  have h7 := Z.free 7 _ rfl
  have P8 : At w.heap.size p.vals ((((((((wn.setCell ⟨w.heap.size + 1, 0, none⟩ (.string p.n)).setCell ⟨w.heap.size + 1, 1, none⟩ (.int .i64 p.a)).setCell ⟨w.heap.size + 1, 2, none⟩ (.int .i64 p.b)).setCell ⟨w.heap.size + 1, 3, none⟩ (.int .i64 p.e)).setCell ⟨w.heap.size + 1, 4, none⟩ (.int .i64 p.u)).setCell ⟨w.heap.size + 1, 5, none⟩ (.int .i64 u)).setCell ⟨w.heap.size + 1, 6, none⟩ (.int .i64 x)).setCell ⟨w.heap.size + 1, 7, none⟩ (.int .i64 y)) := by
    have hp := hst.at' _ (List.mem_cons_self ..)
    iterate 8 (refine At.setB ?_ (by simp) _)
    exact hp
  have B8 : Below w.heap.size w ((((((((wn.setCell ⟨w.heap.size + 1, 0, none⟩ (.string p.n)).setCell ⟨w.heap.size + 1, 1, none⟩ (.int .i64 p.a)).setCell ⟨w.heap.size + 1, 2, none⟩ (.int .i64 p.b)).setCell ⟨w.heap.size + 1, 3, none⟩ (.int .i64 p.e)).setCell ⟨w.heap.size + 1, 4, none⟩ (.int .i64 p.u)).setCell ⟨w.heap.size + 1, 5, none⟩ (.int .i64 u)).setCell ⟨w.heap.size + 1, 6, none⟩ (.int .i64 x)).setCell ⟨w.heap.size + 1, 7, none⟩ (.int .i64 y)) := by
    have hp := hst.bel
    iterate 8 (refine bset ?_ (by simp) _)
    exact hp
  have S8 : HoldL w [(w.heap.size, p.vals)] ((((((((wn.setCell ⟨w.heap.size + 1, 0, none⟩ (.string p.n)).setCell ⟨w.heap.size + 1, 1, none⟩ (.int .i64 p.a)).setCell ⟨w.heap.size + 1, 2, none⟩ (.int .i64 p.b)).setCell ⟨w.heap.size + 1, 3, none⟩ (.int .i64 p.e)).setCell ⟨w.heap.size + 1, 4, none⟩ (.int .i64 p.u)).setCell ⟨w.heap.size + 1, 5, none⟩ (.int .i64 u)).setCell ⟨w.heap.size + 1, 6, none⟩ (.int .i64 x)).setCell ⟨w.heap.size + 1, 7, none⟩ (.int .i64 y)) := ⟨B8, fun q hq => by rw [List.mem_singleton.1 hq]; exact P8⟩
  have HB8 := Lib.hid B8
  clear P8 B8
  refine line_alone rfl (by kernel_rfl) (fun K hK => ?_)
  go_big_op
  refine hK _ _ (S8) ?_
  clear hK K
  refine line_nil ?_
  clear hst inst q0 q1 q2 q3 q4 Z KY S T ltz S8
  go_wp2_with fail
  exact bodyPost_ret (v := R8 ⟨p, u, x, y⟩) (by simp [results, Tryz.results78, go_sem, z0, z1, z2, z3, z4, z5, z6, z7]) rfl ⟨rfl, HB8.out⟩
theorem specSignRoll_any (s : Int) (p : PinD) (w : World) (hn : p.n.size ≤ maxLen) :
    Calls Tryz.prog 20 #[.int .i64 s, P5 p] w fun e w' => e = .returned (R9 (signC s p) (signL s p)) ∧ Below w.heap.size w w' := by
  have b0 := bal (bal (Below.refl _ w) (.cells #[.string p.n, .int .i64 p.a, .int .i64 p.b, .int .i64 p.e, .int .i64 p.u] 25)) (.cells #[.int .i64 0, .string { data := #[] }, .int .i64 0, .int .i64 0, .int .i64 0, .int .i64 0, .int .i64 0, .int .i64 0, .int .i64 0] 42)
  have A0 : At w.heap.size p.vals ((w.alloc (.cells #[.string p.n, .int .i64 p.a, .int .i64 p.b, .int .i64 p.e, .int .i64 p.u] 25)).alloc (.cells #[.int .i64 0, .string { data := #[] }, .int .i64 0, .int .i64 0, .int .i64 0, .int .i64 0, .int .i64 0, .int .i64 0, .int .i64 0] 42)) := (At.new w p.vals 25).alloc _
  have Z0 : At (w.heap.size + 1) zer9 ((w.alloc (.cells #[.string p.n, .int .i64 p.a, .int .i64 p.b, .int .i64 p.e, .int .i64 p.u] 25)).alloc (.cells #[.int .i64 0, .string { data := #[] }, .int .i64 0, .int .i64 0, .int .i64 0, .int .i64 0, .int .i64 0, .int .i64 0, .int .i64 0] 42)) := At.newN (w := w.alloc (.cells #[.string p.n, .int .i64 p.a, .int .i64 p.b, .int .i64 p.e, .int .i64 p.u] 25)) zer9 42 (by simp)
  have F := fun g w A => l7Fault_any g p w A hn
  cases hs : inB s 1 1438
  · obtain ⟨e1, e2⟩ := signC_no (p := p) hs
    rw [e1, e2]
    clear e1 e2 F
    go_enter Tryz.func20, Tryz.ntmps20
    go_wp2_with fail
    generalize (w.alloc (.cells #[.string p.n, .int .i64 p.a, .int .i64 p.b, .int .i64 p.e, .int .i64 p.u] 25)).alloc (.cells #[.int .i64 0, .string { data := #[] }, .int .i64 0, .int .i64 0, .int .i64 0, .int .i64 0, .int .i64 0, .int .i64 0, .int .i64 0] 42) = W0 at *
    refine (l1Secret_any _ _).mono ?_
    rintro e u1 ⟨rfl, rfl⟩
    have z0 := Z0.cell 0 _ rfl
    have z1 := Z0.cell 1 _ rfl
    have z2 := Z0.cell 2 _ rfl
    have z3 := Z0.cell 3 _ rfl
    have z4 := Z0.cell 4 _ rfl
    have z5 := Z0.cell 5 _ rfl
    have z6 := Z0.cell 6 _ rfl
    have z7 := Z0.cell 7 _ rfl
    have z8 := Z0.cell 8 _ rfl
    have h0 := Z0.free 0 _ rfl
    have h1 := Z0.free 1 _ rfl
    have h2 := Z0.free 2 _ rfl
    have h3 := Z0.free 3 _ rfl
    have h4 := Z0.free 4 _ rfl
    have h5 := Z0.free 5 _ rfl
    have h6 := Z0.free 6 _ rfl
    have h7 := Z0.free 7 _ rfl
    have h8 := Z0.free 8 _ rfl
    have HB := Lib.hid b0
    clear Z0 b0
    go_wp2_with fail
    exact bodyPost_ret (v := R9 3 roll0) (by simp [results, Tryz.results20, go_sem, z0, z1, z2, z3, z4, z5, z6, z7, z8, roll0, pin0]) rfl ⟨rfl, (by (iterate 9 (refine bset ?_ (by dsimp only; omega) _)); exact HB.out)⟩
  · by_cases h : p.f = 0
    · obtain ⟨e1, e2⟩ := signC_yes hs h
      rw [e1, e2]
      have S := fun w => l8Sign_any s p w hs h
      rw [h] at F
      generalize signD s p = r at *
      clear e1 e2 h
      go_enter Tryz.func20, Tryz.ntmps20
      go_wp2_with fail
      generalize (w.alloc (.cells #[.string p.n, .int .i64 p.a, .int .i64 p.b, .int .i64 p.e, .int .i64 p.u] 25)).alloc (.cells #[.int .i64 0, .string { data := #[] }, .int .i64 0, .int .i64 0, .int .i64 0, .int .i64 0, .int .i64 0, .int .i64 0, .int .i64 0] 42) = W0 at *
      refine (l1Secret_any _ _).mono ?_
      rintro e u1 ⟨rfl, rfl⟩
      go_wp2_with fail
      refine (F _ _ A0).mono ?_
      rintro e u1 ⟨rfl, b1⟩
      have c0 := (A0.on b1).cell 0 _ rfl
      have c1 := (A0.on b1).cell 1 _ rfl
      have c2 := (A0.on b1).cell 2 _ rfl
      have c3 := (A0.on b1).cell 3 _ rfl
      have c4 := (A0.on b1).cell 4 _ rfl
      have Z1 := Z0.on b1
      have B1 := btr b0 b1
      clear A0 Z0 b0 b1 F
      go_wp2_with fail
      refine (S _).mono ?_
      rintro e u2 ⟨rfl, b2⟩
      have Z2 := Z1.on b2
      have B2 := btr B1 b2
      clear Z1 B1 b2 S c0 c1 c2 c3 c4
      have z0 := Z2.cell 0 _ rfl
      have z1 := Z2.cell 1 _ rfl
      have z2 := Z2.cell 2 _ rfl
      have z3 := Z2.cell 3 _ rfl
      have z4 := Z2.cell 4 _ rfl
      have z5 := Z2.cell 5 _ rfl
      have z6 := Z2.cell 6 _ rfl
      have z7 := Z2.cell 7 _ rfl
      have z8 := Z2.cell 8 _ rfl
      have h0 := Z2.free 0 _ rfl
      have h1 := Z2.free 1 _ rfl
      have h2 := Z2.free 2 _ rfl
      have h3 := Z2.free 3 _ rfl
      have h4 := Z2.free 4 _ rfl
      have h5 := Z2.free 5 _ rfl
      have h6 := Z2.free 6 _ rfl
      have h7 := Z2.free 7 _ rfl
      have h8 := Z2.free 8 _ rfl
      have HB := Lib.hid B2
      clear Z2 B2
      go_wp2_with fail
      exact bodyPost_ret (v := R9 0 r) (by simp [results, Tryz.results20, go_sem, z0, z1, z2, z3, z4, z5, z6, z7, z8]) rfl ⟨rfl, (by (iterate 9 (refine bset ?_ (by dsimp only; omega) _)); exact HB.out)⟩
    · obtain ⟨e1, e2⟩ := signC_pin hs h
      rw [e1, e2]
      clear e1 e2
      generalize p.f = c at *
      have q0 : (c == 0) = false := by simpa using h
      go_enter Tryz.func20, Tryz.ntmps20
      go_wp2_with fail
      generalize (w.alloc (.cells #[.string p.n, .int .i64 p.a, .int .i64 p.b, .int .i64 p.e, .int .i64 p.u] 25)).alloc (.cells #[.int .i64 0, .string { data := #[] }, .int .i64 0, .int .i64 0, .int .i64 0, .int .i64 0, .int .i64 0, .int .i64 0, .int .i64 0] 42) = W0 at *
      refine (l1Secret_any _ _).mono ?_
      rintro e u1 ⟨rfl, rfl⟩
      go_wp2_with fail
      refine (F _ _ A0).mono ?_
      rintro e u1 ⟨rfl, b1⟩
      have Z1 := Z0.on b1
      have B1 := btr b0 b1
      clear A0 Z0 b0 b1 F
      have z0 := Z1.cell 0 _ rfl
      have z1 := Z1.cell 1 _ rfl
      have z2 := Z1.cell 2 _ rfl
      have z3 := Z1.cell 3 _ rfl
      have z4 := Z1.cell 4 _ rfl
      have z5 := Z1.cell 5 _ rfl
      have z6 := Z1.cell 6 _ rfl
      have z7 := Z1.cell 7 _ rfl
      have z8 := Z1.cell 8 _ rfl
      have h0 := Z1.free 0 _ rfl
      have h1 := Z1.free 1 _ rfl
      have h2 := Z1.free 2 _ rfl
      have h3 := Z1.free 3 _ rfl
      have h4 := Z1.free 4 _ rfl
      have h5 := Z1.free 5 _ rfl
      have h6 := Z1.free 6 _ rfl
      have h7 := Z1.free 7 _ rfl
      have h8 := Z1.free 8 _ rfl
      have HB := Lib.hid B1
      clear Z1 B1
      go_wp2_with fail
      exact bodyPost_ret (v := R9 c roll0) (by simp [results, Tryz.results20, go_sem, z0, z1, z2, z3, z4, z5, z6, z7, z8, roll0, pin0]) rfl ⟨rfl, (by (iterate 9 (refine bset ?_ (by dsimp only; omega) _)); exact HB.out)⟩
set_option maxHeartbeats 1000000 in
theorem implSignRoll_any (s : Int) (p : PinD) (w : World) (lab : Labels w) (ert : ErrT w) (hn : p.n.size ≤ maxLen) :
    Calls Tryz.prog 15 #[.int .i64 s, P5 p] w fun e w' => e = .returned (R9 (signC s p) (signL s p)) ∧ Below w.heap.size w w' := by
  have b0 := bal (bal (Below.refl _ w) (.cells #[.string p.n, .int .i64 p.a, .int .i64 p.b, .int .i64 p.e, .int .i64 p.u] 25)) (.cells #[.int .i64 0, .string { data := #[] }, .int .i64 0, .int .i64 0, .int .i64 0, .int .i64 0, .int .i64 0, .int .i64 0, .int .i64 0] 42)
  have A0 : At w.heap.size p.vals ((w.alloc (.cells #[.string p.n, .int .i64 p.a, .int .i64 p.b, .int .i64 p.e, .int .i64 p.u] 25)).alloc (.cells #[.int .i64 0, .string { data := #[] }, .int .i64 0, .int .i64 0, .int .i64 0, .int .i64 0, .int .i64 0, .int .i64 0, .int .i64 0] 42)) := (At.new w p.vals 25).alloc _
  have Z0 : At (w.heap.size + 1) zer9 ((w.alloc (.cells #[.string p.n, .int .i64 p.a, .int .i64 p.b, .int .i64 p.e, .int .i64 p.u] 25)).alloc (.cells #[.int .i64 0, .string { data := #[] }, .int .i64 0, .int .i64 0, .int .i64 0, .int .i64 0, .int .i64 0, .int .i64 0, .int .i64 0] 42)) := At.newN (w := w.alloc (.cells #[.string p.n, .int .i64 p.a, .int .i64 p.b, .int .i64 p.e, .int .i64 p.u] 25)) zer9 42 (by simp)
  have lab0 := lab.on b0
  have ert0 := ert.on b0
  have K := fun w => implKeyOf_any s w
  clear lab ert
  cases hs : inB s 1 1438
  · obtain ⟨e1, e2⟩ := signC_no (p := p) hs
    have E : keyR s = (3, 0, 0) := by simp [keyR, hs]
    rw [e1, e2]
    rw [E] at K
    clear e1 e2 E
    go_enter Tryz.func15, Tryz.ntmps15
    go_wp2_with fail
    generalize (w.alloc (.cells #[.string p.n, .int .i64 p.a, .int .i64 p.b, .int .i64 p.e, .int .i64 p.u] 25)).alloc (.cells #[.int .i64 0, .string { data := #[] }, .int .i64 0, .int .i64 0, .int .i64 0, .int .i64 0, .int .i64 0, .int .i64 0, .int .i64 0] 42) = W0 at *
    refine (K _).mono ?_
    rintro e u1 ⟨rfl, b1⟩
    have Z1 := (Z0.on b1).alloc (.cells #[.int .i64 3, .int .i64 0, .int .i64 0] 105)
    have B1 := bal (btr b0 b1) (.cells #[.int .i64 3, .int .i64 0, .int .i64 0] 105)
    clear A0 Z0 b0 b1 K lab0 ert0
    have z0 := Z1.cell 0 _ rfl
    have z1 := Z1.cell 1 _ rfl
    have z2 := Z1.cell 2 _ rfl
    have z3 := Z1.cell 3 _ rfl
    have z4 := Z1.cell 4 _ rfl
    have z5 := Z1.cell 5 _ rfl
    have z6 := Z1.cell 6 _ rfl
    have z7 := Z1.cell 7 _ rfl
    have z8 := Z1.cell 8 _ rfl
    have h0 := Z1.free 0 _ rfl
    have h1 := Z1.free 1 _ rfl
    have h2 := Z1.free 2 _ rfl
    have h3 := Z1.free 3 _ rfl
    have h4 := Z1.free 4 _ rfl
    have h5 := Z1.free 5 _ rfl
    have h6 := Z1.free 6 _ rfl
    have h7 := Z1.free 7 _ rfl
    have h8 := Z1.free 8 _ rfl
    have HB := Lib.hid B1
    clear Z1 B1
    go_wp2_with fail
    exact bodyPost_ret (v := R9 3 roll0) (by simp [results, Tryz.results15, go_sem, z0, z1, z2, z3, z4, z5, z6, z7, z8, roll0, pin0]) rfl ⟨rfl, (by (iterate 9 (refine bset ?_ (by dsimp only; omega) _)); exact HB.out)⟩
  · have E : keyR s = (0, s, M.pw 4 s.toNat 2879) := by simp [keyR, hs]
    rw [E] at K
    clear E
    have S := fun w lab ert => implRollSum_any p w lab ert hn
    by_cases h : p.f = 0
    · obtain ⟨e1, e2⟩ := signC_yes hs h
      have e3 : signD s p = ⟨p, M.pw 4 s.toNat 2879, M.sigPt s (rsum p), M.sigPr s (rsum p)⟩ := rfl
      have e4 : rsumV p = rsum p := by unfold rsumV; rw [if_pos h]
      have T := fun w lab ert => implSignSum_any s (rsum p) w lab ert
      have e5 : M.signR s (rsum p) = (0, M.sigPt s (rsum p), M.sigPr s (rsum p)) := by simp only [M.signR, hs, rsum_sum p, Bool.and_self, if_true]
      rw [e1, e2, e3]
      rw [e4, h] at S
      rw [e5] at T
      clear e1 e2 e3 e4 e5 h hs
      generalize M.sigPt s (rsum p) = xx at *
      generalize M.sigPr s (rsum p) = yy at *
      generalize rsum p = x at *
      generalize M.pw 4 s.toNat 2879 = u at *
      have f1 := sg1
      go_enter Tryz.func15, Tryz.ntmps15
      go_wp2_with fail
      generalize (w.alloc (.cells #[.string p.n, .int .i64 p.a, .int .i64 p.b, .int .i64 p.e, .int .i64 p.u] 25)).alloc (.cells #[.int .i64 0, .string { data := #[] }, .int .i64 0, .int .i64 0, .int .i64 0, .int .i64 0, .int .i64 0, .int .i64 0, .int .i64 0] 42) = W0 at *
      refine (K _).mono ?_
      rintro e u1 ⟨rfl, b1⟩
      have Z1 := (Z0.on b1).alloc (.cells #[.int .i64 0, .int .i64 s, .int .i64 u] 105)
      have A1 := (A0.on b1).alloc (.cells #[.int .i64 0, .int .i64 s, .int .i64 u] 105)
      have X1 := At.new u1 [.int .i64 0, .int .i64 s, .int .i64 u] 105
      have ltX := (Z0.on b1).lt (by simp [zer9])
      have ba := btr b1 (bal (Below.refl _ u1) (.cells #[.int .i64 0, .int .i64 s, .int .i64 u] 105))
      have B1 := btr b0 ba
      have L1 := lab0.on ba
      have E1 := ert0.on ba
      clear A0 Z0 b0 b1 ba K lab0 ert0
      have c0 := A1.cell 0 _ rfl
      have c1 := A1.cell 1 _ rfl
      have c2 := A1.cell 2 _ rfl
      have c3 := A1.cell 3 _ rfl
      have c4 := A1.cell 4 _ rfl
      go_wp2_with fail
      generalize u1.alloc (.cells #[.int .i64 0, .int .i64 s, .int .i64 u] 105) = W1 at *
      generalize u1.heap.size = kb at *
      refine (S _ L1 E1).mono ?_
      rintro e u2 ⟨rfl, b2⟩
      have ba := btr b2 (bal (Below.refl _ u2) (.cells #[.int .i64 0, .int .i64 x] 47))
      have Z2 := Z1.on ba
      have A2 := A1.on ba
      have X2 := X1.on ba
      have Y2 := At.new u2 [.int .i64 0, .int .i64 x] 47
      have ltY := (X1.on b2).lt (by simp)
      have B2 := btr B1 ba
      have L2 := L1.on ba
      have E2 := E1.on ba
      clear Z1 A1 X1 B1 L1 E1 b2 ba S c0 c1 c2 c3 c4
      go_wp2_with fail
      generalize u2.alloc (.cells #[.int .i64 0, .int .i64 x] 47) = W2 at *
      generalize u2.heap.size = sb at *
      have H0 : HoldL w [(w.heap.size, p.vals), (kb, [.int .i64 0, .int .i64 s, .int .i64 u]), (sb, [.int .i64 0, .int .i64 x])] W2.drew := ⟨btr B2 (bdrew _), fun x hx => by
        simp only [List.mem_cons, List.not_mem_nil, or_false] at hx
        rcases hx with rfl | rfl | rfl
        · exact A2.on (bdrew _)
        · exact X2.on (bdrew _)
        · exact Y2.on (bdrew _)⟩
      have L3 := L2.on (bdrew _)
      have E3 := E2.on (bdrew _)
      have Z := Z2.on (bdrew W2)
      have ltk := X2.lt (by simp)
      refine wp_region_line (HoldL w [(w.heap.size, p.vals), (kb, [.int .i64 0, .int .i64 s, .int .i64 u]), (sb, [.int .i64 0, .int .i64 x])]) [(0, true), (1, true), (2, true), (3, true), (4, true), (5, true), (6, true), (7, false), (8, true), (9, true), (10, true), (11, false)] (by kernel_rfl) (by kernel_rfl) (fun _ _ d _ _ h => by cases d <;> exact h) H0 ?_
      have hst := H0
      have inst : Nonempty (Of (HoldL w [(w.heap.size, p.vals), (kb, [.int .i64 0, .int .i64 s, .int .i64 u]), (sb, [.int .i64 0, .int .i64 x])])) := ⟨⟨_, hst⟩⟩
      have q0 := HoldL.cell (W := w) (bs := [(w.heap.size, p.vals), (kb, [.int .i64 0, .int .i64 s, .int .i64 u]), (sb, [.int .i64 0, .int .i64 x])]) (g := w.heap.size) (cs := p.vals) (by simp) 0 _ rfl
      have q1 := HoldL.cell (W := w) (bs := [(w.heap.size, p.vals), (kb, [.int .i64 0, .int .i64 s, .int .i64 u]), (sb, [.int .i64 0, .int .i64 x])]) (g := w.heap.size) (cs := p.vals) (by simp) 1 _ rfl
      have q2 := HoldL.cell (W := w) (bs := [(w.heap.size, p.vals), (kb, [.int .i64 0, .int .i64 s, .int .i64 u]), (sb, [.int .i64 0, .int .i64 x])]) (g := w.heap.size) (cs := p.vals) (by simp) 2 _ rfl
      have q3 := HoldL.cell (W := w) (bs := [(w.heap.size, p.vals), (kb, [.int .i64 0, .int .i64 s, .int .i64 u]), (sb, [.int .i64 0, .int .i64 x])]) (g := w.heap.size) (cs := p.vals) (by simp) 3 _ rfl
      have q4 := HoldL.cell (W := w) (bs := [(w.heap.size, p.vals), (kb, [.int .i64 0, .int .i64 s, .int .i64 u]), (sb, [.int .i64 0, .int .i64 x])]) (g := w.heap.size) (cs := p.vals) (by simp) 4 _ rfl
      have y2 := HoldL.cell (W := w) (bs := [(w.heap.size, p.vals), (kb, [.int .i64 0, .int .i64 s, .int .i64 u]), (sb, [.int .i64 0, .int .i64 x])]) (g := kb) (cs := [.int .i64 0, .int .i64 s, .int .i64 u]) (by simp) 2 _ rfl
      have x1 := HoldL.cell (W := w) (bs := [(w.heap.size, p.vals), (kb, [.int .i64 0, .int .i64 s, .int .i64 u]), (sb, [.int .i64 0, .int .i64 x])]) (g := sb) (cs := [.int .i64 0, .int .i64 x]) (by simp) 1 _ rfl
      clear H0 A2 X2 Y2 Z2 B2 L2 E2
      generalize W2.drew = V1 at *
      iterate 7 (refine line_read rfl (by kernel_rfl) (fun K hK => ?_); go_big_quiet_op; refine hK _ ?_; clear hK K)
      refine line_alone rfl (by kernel_rfl) (fun K hK => ?_)
      refine call_any (args := #[.int .i64 s, .int .i64 x]) rfl (by kernel_rfl) (by kernel_rfl) (T _ L3 E3) ?_
      rintro e wn ⟨rfl, hbn⟩
      have hstN := hst.on hbn
      have ZN := Z.on hbn
      refine ⟨_, rfl, hK _ _ hstN ?_⟩
      clear hK K hst hbn Z
      have hst := hstN
      have Z := ZN
      clear hstN ZN
      simp only [Act.put, List.setIfInBounds_toArray, List.set_cons_zero, List.set_cons_succ]
      iterate 3 (refine line_read rfl (by kernel_rfl) (fun K hK => ?_); go_big_quiet_op; refine hK _ ?_; clear hK K)
      have z0 := Z.cell 0 _ rfl
      have z1 := Z.cell 1 _ rfl
      have z2 := Z.cell 2 _ rfl
      have z3 := Z.cell 3 _ rfl
      have z4 := Z.cell 4 _ rfl
      have z5 := Z.cell 5 _ rfl
      have z6 := Z.cell 6 _ rfl
      have z7 := Z.cell 7 _ rfl
      have z8 := Z.cell 8 _ rfl
      have h0 := Z.free 0 _ rfl
      have h1 := Z.free 1 _ rfl
      have h2 := Z.free 2 _ rfl
      have h3 := Z.free 3 _ rfl
      have h4 := Z.free 4 _ rfl
      have h5 := Z.free 5 _ rfl
      have h6 := Z.free 6 _ rfl
      have h7 := Z.free 7 _ rfl
      have h8 := Z.free 8 _ rfl
      have hpp : At w.heap.size p.vals wn := hst.at' (w.heap.size, p.vals) (by simp)
      have hpk : At kb [.int .i64 0, .int .i64 s, .int .i64 u] wn := hst.at' (kb, [.int .i64 0, .int .i64 s, .int .i64 u]) (by simp)
      have hps : At sb [.int .i64 0, .int .i64 x] wn := hst.at' (sb, [.int .i64 0, .int .i64 x]) (by simp)
      have P9 : At w.heap.size p.vals (((((((((wn.setCell ⟨w.heap.size + 1, 0, none⟩ (.int .i64 0)).setCell ⟨w.heap.size + 1, 1, none⟩ (.string p.n)).setCell ⟨w.heap.size + 1, 2, none⟩ (.int .i64 p.a)).setCell ⟨w.heap.size + 1, 3, none⟩ (.int .i64 p.b)).setCell ⟨w.heap.size + 1, 4, none⟩ (.int .i64 p.e)).setCell ⟨w.heap.size + 1, 5, none⟩ (.int .i64 p.u)).setCell ⟨w.heap.size + 1, 6, none⟩ (.int .i64 u)).setCell ⟨w.heap.size + 1, 7, none⟩ (.int .i64 xx)).setCell ⟨w.heap.size + 1, 8, none⟩ (.int .i64 yy)) := by
        iterate 9 (refine At.setB ?_ (by simp) _)
        exact hpp
      have K9 : At kb [.int .i64 0, .int .i64 s, .int .i64 u] (((((((((wn.setCell ⟨w.heap.size + 1, 0, none⟩ (.int .i64 0)).setCell ⟨w.heap.size + 1, 1, none⟩ (.string p.n)).setCell ⟨w.heap.size + 1, 2, none⟩ (.int .i64 p.a)).setCell ⟨w.heap.size + 1, 3, none⟩ (.int .i64 p.b)).setCell ⟨w.heap.size + 1, 4, none⟩ (.int .i64 p.e)).setCell ⟨w.heap.size + 1, 5, none⟩ (.int .i64 p.u)).setCell ⟨w.heap.size + 1, 6, none⟩ (.int .i64 u)).setCell ⟨w.heap.size + 1, 7, none⟩ (.int .i64 xx)).setCell ⟨w.heap.size + 1, 8, none⟩ (.int .i64 yy)) := by
        iterate 9 (refine At.setB ?_ (by dsimp only; omega) _)
        exact hpk
      have Y9 : At sb [.int .i64 0, .int .i64 x] (((((((((wn.setCell ⟨w.heap.size + 1, 0, none⟩ (.int .i64 0)).setCell ⟨w.heap.size + 1, 1, none⟩ (.string p.n)).setCell ⟨w.heap.size + 1, 2, none⟩ (.int .i64 p.a)).setCell ⟨w.heap.size + 1, 3, none⟩ (.int .i64 p.b)).setCell ⟨w.heap.size + 1, 4, none⟩ (.int .i64 p.e)).setCell ⟨w.heap.size + 1, 5, none⟩ (.int .i64 p.u)).setCell ⟨w.heap.size + 1, 6, none⟩ (.int .i64 u)).setCell ⟨w.heap.size + 1, 7, none⟩ (.int .i64 xx)).setCell ⟨w.heap.size + 1, 8, none⟩ (.int .i64 yy)) := by
        iterate 9 (refine At.setB ?_ (by dsimp only; omega) _)
        exact hps
      have B9 : Below w.heap.size w (((((((((wn.setCell ⟨w.heap.size + 1, 0, none⟩ (.int .i64 0)).setCell ⟨w.heap.size + 1, 1, none⟩ (.string p.n)).setCell ⟨w.heap.size + 1, 2, none⟩ (.int .i64 p.a)).setCell ⟨w.heap.size + 1, 3, none⟩ (.int .i64 p.b)).setCell ⟨w.heap.size + 1, 4, none⟩ (.int .i64 p.e)).setCell ⟨w.heap.size + 1, 5, none⟩ (.int .i64 p.u)).setCell ⟨w.heap.size + 1, 6, none⟩ (.int .i64 u)).setCell ⟨w.heap.size + 1, 7, none⟩ (.int .i64 xx)).setCell ⟨w.heap.size + 1, 8, none⟩ (.int .i64 yy)) := by
        have hp := hst.bel
        iterate 9 (refine bset ?_ (by simp) _)
        exact hp
      have S9 : HoldL w [(w.heap.size, p.vals), (kb, [.int .i64 0, .int .i64 s, .int .i64 u]), (sb, [.int .i64 0, .int .i64 x])] (((((((((wn.setCell ⟨w.heap.size + 1, 0, none⟩ (.int .i64 0)).setCell ⟨w.heap.size + 1, 1, none⟩ (.string p.n)).setCell ⟨w.heap.size + 1, 2, none⟩ (.int .i64 p.a)).setCell ⟨w.heap.size + 1, 3, none⟩ (.int .i64 p.b)).setCell ⟨w.heap.size + 1, 4, none⟩ (.int .i64 p.e)).setCell ⟨w.heap.size + 1, 5, none⟩ (.int .i64 p.u)).setCell ⟨w.heap.size + 1, 6, none⟩ (.int .i64 u)).setCell ⟨w.heap.size + 1, 7, none⟩ (.int .i64 xx)).setCell ⟨w.heap.size + 1, 8, none⟩ (.int .i64 yy)) := ⟨B9, fun q hq => by
        rcases List.mem_cons.1 hq with e | hq
        · rw [e]; exact P9
        rcases List.mem_cons.1 hq with e | hq
        · rw [e]; exact K9
        rw [List.mem_singleton.1 hq]
        exact Y9⟩
      have HB9 := Lib.hid B9
      clear P9 K9 Y9 B9 hpp hpk hps
      refine line_alone rfl (by kernel_rfl) (fun K hK => ?_)
      go_big_op
      refine hK _ _ (S9) ?_
      clear hK K
      refine line_nil ?_
      clear hst inst q0 q1 q2 q3 q4 y2 x1 Z L3 E3 T S9
      go_wp2_with fail
      exact bodyPost_ret (v := R9 0 ⟨p, u, xx, yy⟩) (by simp [results, Tryz.results15, go_sem, z0, z1, z2, z3, z4, z5, z6, z7, z8]) rfl ⟨rfl, HB9.out⟩
    · obtain ⟨e1, e2⟩ := signC_pin hs h
      have e4 : rsumV p = 0 := by unfold rsumV; rw [if_neg h]
      rw [e1, e2]
      rw [e4] at S
      clear e1 e2 e4 hs
      generalize p.f = f at *
      generalize M.pw 4 s.toNat 2879 = u at *
      have q0 : (f == 0) = false := by simpa using h
      go_enter Tryz.func15, Tryz.ntmps15
      go_wp2_with fail
      generalize (w.alloc (.cells #[.string p.n, .int .i64 p.a, .int .i64 p.b, .int .i64 p.e, .int .i64 p.u] 25)).alloc (.cells #[.int .i64 0, .string { data := #[] }, .int .i64 0, .int .i64 0, .int .i64 0, .int .i64 0, .int .i64 0, .int .i64 0, .int .i64 0] 42) = W0 at *
      refine (K _).mono ?_
      rintro e u1 ⟨rfl, b1⟩
      have Z1 := (Z0.on b1).alloc (.cells #[.int .i64 0, .int .i64 s, .int .i64 u] 105)
      have A1 := (A0.on b1).alloc (.cells #[.int .i64 0, .int .i64 s, .int .i64 u] 105)
      have X1 := At.new u1 [.int .i64 0, .int .i64 s, .int .i64 u] 105
      have ltX := (Z0.on b1).lt (by simp [zer9])
      have ba := btr b1 (bal (Below.refl _ u1) (.cells #[.int .i64 0, .int .i64 s, .int .i64 u] 105))
      have B1 := btr b0 ba
      have L1 := lab0.on ba
      have E1 := ert0.on ba
      clear A0 Z0 b0 b1 ba K lab0 ert0
      have c0 := A1.cell 0 _ rfl
      have c1 := A1.cell 1 _ rfl
      have c2 := A1.cell 2 _ rfl
      have c3 := A1.cell 3 _ rfl
      have c4 := A1.cell 4 _ rfl
      go_wp2_with fail
      generalize u1.alloc (.cells #[.int .i64 0, .int .i64 s, .int .i64 u] 105) = W1 at *
      generalize u1.heap.size = kb at *
      refine (S _ L1 E1).mono ?_
      rintro e u2 ⟨rfl, b2⟩
      have ba := btr b2 (bal (Below.refl _ u2) (.cells #[.int .i64 f, .int .i64 0] 47))
      have Z2 := Z1.on ba
      have A2 := A1.on ba
      have X2 := X1.on ba
      have Y2 := At.new u2 [.int .i64 f, .int .i64 0] 47
      have ltY := (X1.on b2).lt (by simp)
      have B2 := btr B1 ba
      have L2 := L1.on ba
      have E2 := E1.on ba
      clear Z1 A1 X1 B1 L1 E1 b2 ba S c0 c1 c2 c3 c4
      have y0 := Y2.cell 0 _ rfl
      have y1 := Y2.cell 1 _ rfl
      clear A2 X2 Y2 L2 E2
      have z0 := Z2.cell 0 _ rfl
      have z1 := Z2.cell 1 _ rfl
      have z2 := Z2.cell 2 _ rfl
      have z3 := Z2.cell 3 _ rfl
      have z4 := Z2.cell 4 _ rfl
      have z5 := Z2.cell 5 _ rfl
      have z6 := Z2.cell 6 _ rfl
      have z7 := Z2.cell 7 _ rfl
      have z8 := Z2.cell 8 _ rfl
      have h0 := Z2.free 0 _ rfl
      have h1 := Z2.free 1 _ rfl
      have h2 := Z2.free 2 _ rfl
      have h3 := Z2.free 3 _ rfl
      have h4 := Z2.free 4 _ rfl
      have h5 := Z2.free 5 _ rfl
      have h6 := Z2.free 6 _ rfl
      have h7 := Z2.free 7 _ rfl
      have h8 := Z2.free 8 _ rfl
      have HB := Lib.hid B2
      clear Z2 B2
      go_wp2_with fail
      exact bodyPost_ret (v := R9 f roll0) (by simp [results, Tryz.results15, go_sem, z0, z1, z2, z3, z4, z5, z6, z7, z8, roll0, pin0]) rfl ⟨rfl, (by (iterate 9 (refine bset ?_ (by dsimp only; omega) _)); exact HB.out)⟩
end Go.Proofs.YtmdknbgpddnplaaGreatDoor
namespace Go.Proofs.YtmdknbgpddnplaaGreatDoor
open Go.Joins Go.ChangeShapes Go.WideShapes Go.RowKit Go.Deep

/-- Five cells that read as a pin. -/
theorem pin_cells {H : Type} {enc : TypeId × Value → H} {P : Program} {w : World} {base : Nat} {sp : Nat → Bool} {held : Bool} {fuel : Nat} {t : TypeId} {f0 f1 f2 f3 f4 : Field} {cs : List Value} {x : DataW H × List MemPlace}
    (hs : P.underlying t = some (.struct #[f0, f1, f2, f3, f4])) (e0 : P.underlying f0.type = some .string) (e1 : P.underlying f1.type = some (.int .i64)) (e2 : P.underlying f2.type = some (.int .i64)) (e3 : P.underlying f3.type = some (.int .i64)) (e4 : P.underlying f4.type = some (.int .i64))
    (ho : [f0.offset, f1.offset, f2.offset, f3.offset, f4.offset] = [0, 1, 2, 3, 4])
    (hc : [P.cellsOf f0.type, P.cellsOf f1.type, P.cellsOf f2.type, P.cellsOf f3.type, P.cellsOf f4.type] = [1, 1, 1, 1, 1]) (hl : cs.length = 5)
    (h : DataW.trod enc P w base sp held fuel t cs = some x) : ∃ p : PinD, cs = p.vals ∧ p.n.size ≤ maxLen := by
  simp only [List.cons.injEq, and_true] at ho hc
  obtain ⟨o0, o1, o2, o3, o4⟩ := ho
  obtain ⟨q0, q1, q2, q3, q4⟩ := hc
  obtain ⟨xs, n, -, -, -, hlen, hx⟩ := DataW.trod_struct hs h
  match cs, hl, xs, hlen with
  | [c0, c1, c2, c3, c4], _, [y0, y1, y2, y3, y4], _ =>
    have h0 := hx 0 f0 rfl
    have h1 := hx 1 f1 rfl
    have h2 := hx 2 f2 rfl
    have h3 := hx 3 f3 rfl
    have h4 := hx 4 f4 rfl
    simp [o0, o1, o2, o3, o4, q0, q1, q2, q3, q4] at h0 h1 h2 h3 h4
    obtain ⟨s, hx0, -, ws⟩ := DataW.trod_string e0 h0
    obtain ⟨x1, hx1, -, -⟩ := DataW.trod_int e1 h1
    obtain ⟨x2, hx2, -, -⟩ := DataW.trod_int e2 h2
    obtain ⟨x3, hx3, -, -⟩ := DataW.trod_int e3 h3
    obtain ⟨x4, hx4, -, -⟩ := DataW.trod_int e4 h4
    simp only [List.cons.injEq, and_true] at hx0 hx1 hx2 hx3 hx4
    subst hx0; subst hx1; subst hx2; subst hx3; subst hx4
    exact ⟨⟨s, x1, x2, x3, x4⟩, rfl, ws⟩
theorem open_pin {H : Type} {enc : TypeId × Value → H} {P : Program} {w : World} {r : Reach} {b0 : Nat} {t : TypeId} {f0 f1 f2 f3 f4 : Field} {v : Value} {d : DataW H} {p : List MemPlace}
    (hs : P.underlying t = some (.struct #[f0, f1, f2, f3, f4])) (e0 : P.underlying f0.type = some .string) (e1 : P.underlying f1.type = some (.int .i64)) (e2 : P.underlying f2.type = some (.int .i64)) (e3 : P.underlying f3.type = some (.int .i64)) (e4 : P.underlying f4.type = some (.int .i64))
    (ho : [f0.offset, f1.offset, f2.offset, f3.offset, f4.offset] = [0, 1, 2, 3, 4])
    (hc : [P.cellsOf f0.type, P.cellsOf f1.type, P.cellsOf f2.type, P.cellsOf f3.type, P.cellsOf f4.type] = [1, 1, 1, 1, 1]) (hC : P.cellsOf t = 5)
    (hv : Value.okWide P w r b0 t v) (h : DataW.Trod enc P w 0 (fun _ => true) true t v d p) : ∃ q : PinD, v = P5 q ∧ q.n.size ≤ maxLen := by
  obtain ⟨cs, rfl, hsz⟩ := okWide_struct hs hv
  obtain ⟨fuel, hf⟩ := h
  obtain ⟨q, hq, hn⟩ := pin_cells hs e0 e1 e2 e3 e4 ho hc (cs := cs.toList) (by simpa using hsz.trans hC) hf
  refine ⟨q, ?_, hn⟩
  have : cs = q.vals.toArray := by rw [← hq]
  rw [this]
  rfl
theorem open_pins {H : Type} {enc : TypeId × Value → H} {P : Program} {W : World} {t e : TypeId} {f0 f1 f2 f3 f4 : Field} {a : Option Addr} {len cap : Nat} {d : DataW H} {p : List MemPlace}
    (ht : P.underlying t = some (.slice e)) (hs : P.underlying e = some (.struct #[f0, f1, f2, f3, f4])) (e0 : P.underlying f0.type = some .string) (e1 : P.underlying f1.type = some (.int .i64)) (e2 : P.underlying f2.type = some (.int .i64)) (e3 : P.underlying f3.type = some (.int .i64)) (e4 : P.underlying f4.type = some (.int .i64))
    (ho : [f0.offset, f1.offset, f2.offset, f3.offset, f4.offset] = [0, 1, 2, 3, 4])
    (hc : [P.cellsOf f0.type, P.cellsOf f1.type, P.cellsOf f2.type, P.cellsOf f3.type, P.cellsOf f4.type] = [1, 1, 1, 1, 1]) (hC : P.cellsOf e = 5)
    (h : DataW.Trod enc P W 0 (fun _ => true) true t (.slice a len cap) d p) : ∃ ps, PRow W W.heap.size a len cap ps := by
  obtain ⟨fuel, hf⟩ := h
  rcases open_slice ht hf with ⟨hcs, _⟩ | ⟨x, l, c, m, n, D, Pl, hcs, _, hl, hm, hmm, _, hx⟩
  · simp [Value.cells] at hcs
    obtain ⟨rfl, rfl, rfl⟩ := hcs
    exact ⟨[], PRow.nil _ _⟩
  · simp [Value.cells] at hcs
    obtain ⟨rfl, rfl, rfl⟩ := hcs
    have hlm : len ≤ m := by rw [hmm]; split <;> omega
    rw [hC] at hx
    have each : ∀ i, i < len → ∃ q : PinD, q.n.size ≤ maxLen ∧ ∀ j v, q.vals[j]? = some v → W.cell? (x.add (i * 5 + j)) = some v := by
      intro i hi
      obtain ⟨cs', h1, h2⟩ := hx i (by omega)
      obtain ⟨_, hlen, hcell⟩ := World.cells?_some h1
      obtain ⟨q, rfl, hq⟩ := pin_cells hs e0 e1 e2 e3 e4 ho hc hlen h2
      refine ⟨q, hq, fun j v hj => ?_⟩
      have hj5 : j < 5 := by have := (List.getElem?_eq_some_iff.1 hj).1; simpa [PinD.vals_length] using this
      have := hcell j hj5
      rw [add_add] at this
      rw [this, hj]
    obtain ⟨q, hq⟩ := choose_lt each
    refine ⟨(List.range len).map q, by simp, hl, hm, fun y hy => ?_, fun hp => ?_⟩
    · obtain ⟨r, hr, rfl⟩ := List.mem_map.1 hy
      exact (hq r (List.mem_range.1 hr)).1
    · have hc0 := (hq 0 (by omega)).2 0 _ rfl
      have hs : x.spot = none := by
        have := World.cell?_spot hc0
        simpa [Addr.add] using this
      obtain ⟨b, off, spot⟩ := x
      simp at hs
      subst hs
      refine ⟨b, off, rfl, ?_, fun j hj i v hv => ?_⟩
      · have := cell_lt hc0
        simpa [Addr.add] using this
      · have e : ((List.range len).map q)[j]?.getD pin0 = q j := by simp [hj]
        rw [e] at hv
        have := (hq j hj).2 i v hv
        rw [Addr.add_lit] at this
        rw [Nat.add_assoc]
        exact this
end Go.Proofs.YtmdknbgpddnplaaGreatDoor
namespace Go.Proofs.YtmdknbgpddnplaaGreatDoor
open Go.Joins Go.ChangeShapes Go.WideShapes Go.RowKit Go.Deep

/-- Eight cells that read as a rollover. -/
theorem roll_cells {H : Type} {enc : TypeId × Value → H} {P : Program} {w : World} {base : Nat} {sp : Nat → Bool} {held : Bool} {fuel : Nat} {t : TypeId} {k0 k1 k2 f0 f1 f2 f3 f4 g0 g1 : Field} {cs : List Value} {x : DataW H × List MemPlace}
    (hr : P.underlying t = some (.struct #[k0, k1, k2])) (u0 : P.underlying k0.type = some (.struct #[f0, f1, f2, f3, f4])) (u1 : P.underlying k1.type = some (.int .i64)) (u2 : P.underlying k2.type = some (.struct #[g0, g1]))
    (e0 : P.underlying f0.type = some .string) (e1 : P.underlying f1.type = some (.int .i64)) (e2 : P.underlying f2.type = some (.int .i64)) (e3 : P.underlying f3.type = some (.int .i64)) (e4 : P.underlying f4.type = some (.int .i64))
    (y0 : P.underlying g0.type = some (.int .i64)) (y1 : P.underlying g1.type = some (.int .i64))
    (ho : [f0.offset, f1.offset, f2.offset, f3.offset, f4.offset] = [0, 1, 2, 3, 4])
    (hc : [P.cellsOf f0.type, P.cellsOf f1.type, P.cellsOf f2.type, P.cellsOf f3.type, P.cellsOf f4.type] = [1, 1, 1, 1, 1])
    (ho2 : [k0.offset, k1.offset, k2.offset, g0.offset, g1.offset] = [0, 5, 6, 0, 1])
    (hc2 : [P.cellsOf k0.type, P.cellsOf k1.type, P.cellsOf k2.type, P.cellsOf g0.type, P.cellsOf g1.type] = [5, 1, 2, 1, 1]) (hl : cs.length = 8)
    (h : DataW.trod enc P w base sp held fuel t cs = some x) : ∃ p : RollD, cs = p.vals ∧ p.p.n.size ≤ maxLen := by
  simp only [List.cons.injEq, and_true] at ho2 hc2
  obtain ⟨o0, o1, o2, o3, o4⟩ := ho2
  obtain ⟨q0, q1, q2, q3, q4⟩ := hc2
  obtain ⟨xs, n, -, -, -, hlen, hx⟩ := DataW.trod_struct hr h
  match cs, hl, xs, hlen with
  | [c0, c1, c2, c3, c4, c5, c6, c7], _, [z0, z1, z2], _ =>
    have h0 := hx 0 k0 rfl
    have h1 := hx 1 k1 rfl
    have h2 := hx 2 k2 rfl
    simp [o0, o1, o2, q0, q1, q2] at h0 h1 h2
    obtain ⟨p, hp, wp⟩ := pin_cells u0 e0 e1 e2 e3 e4 ho hc rfl h0
    obtain ⟨b, hb, -, -⟩ := DataW.trod_int u1 h1
    obtain ⟨y5, y6, m, -, -, h5, h6⟩ := trod_struct2 u2 h2
    simp [o3, o4, q3, q4] at h5 h6
    obtain ⟨x3, hx3, -, -⟩ := DataW.trod_int y0 h5
    obtain ⟨x4, hx4, -, -⟩ := DataW.trod_int y1 h6
    simp only [PinD.vals, List.cons.injEq, and_true] at hp hb hx3 hx4
    obtain ⟨rfl, rfl, rfl, rfl, rfl⟩ := hp
    subst hb; subst hx3; subst hx4
    exact ⟨⟨p, b, x3, x4⟩, rfl, wp⟩
section
variable {H : Type} {enc : TypeId × Value → H} {P : Program} {t : TypeId} {k0 k1 k2 f0 f1 f2 f3 f4 g0 g1 : Field}
theorem open_roll {w : World} {r : Reach} {b0 : Nat} {v : Value} {d : DataW H} {p : List MemPlace}
    (hr : P.underlying t = some (.struct #[k0, k1, k2])) (u0 : P.underlying k0.type = some (.struct #[f0, f1, f2, f3, f4])) (u1 : P.underlying k1.type = some (.int .i64)) (u2 : P.underlying k2.type = some (.struct #[g0, g1]))
    (e0 : P.underlying f0.type = some .string) (e1 : P.underlying f1.type = some (.int .i64)) (e2 : P.underlying f2.type = some (.int .i64)) (e3 : P.underlying f3.type = some (.int .i64)) (e4 : P.underlying f4.type = some (.int .i64))
    (y0 : P.underlying g0.type = some (.int .i64)) (y1 : P.underlying g1.type = some (.int .i64))
    (ho : [f0.offset, f1.offset, f2.offset, f3.offset, f4.offset] = [0, 1, 2, 3, 4])
    (hc : [P.cellsOf f0.type, P.cellsOf f1.type, P.cellsOf f2.type, P.cellsOf f3.type, P.cellsOf f4.type] = [1, 1, 1, 1, 1])
    (ho2 : [k0.offset, k1.offset, k2.offset, g0.offset, g1.offset] = [0, 5, 6, 0, 1])
    (hc2 : [P.cellsOf k0.type, P.cellsOf k1.type, P.cellsOf k2.type, P.cellsOf g0.type, P.cellsOf g1.type] = [5, 1, 2, 1, 1]) (hC : P.cellsOf t = 8)
    (hv : Value.okWide P w r b0 t v) (h : DataW.Trod enc P w 0 (fun _ => true) true t v d p) : ∃ q : RollD, v = R8 q ∧ q.p.n.size ≤ maxLen := by
  obtain ⟨cs, rfl, hsz⟩ := okWide_struct hr hv
  obtain ⟨fuel, hf⟩ := h
  obtain ⟨q, hq, hn⟩ := roll_cells hr u0 u1 u2 e0 e1 e2 e3 e4 y0 y1 ho hc ho2 hc2 (cs := cs.toList) (by simpa using hsz.trans hC) hf
  refine ⟨q, ?_, hn⟩
  have : cs = q.vals.toArray := by rw [← hq]
  rw [this]
  rfl
theorem open_rolls {W : World} {ts : TypeId} {a : Option Addr} {len cap : Nat} {d : DataW H} {p : List MemPlace}
    (ht : P.underlying ts = some (.slice t))
    (hr : P.underlying t = some (.struct #[k0, k1, k2])) (u0 : P.underlying k0.type = some (.struct #[f0, f1, f2, f3, f4])) (u1 : P.underlying k1.type = some (.int .i64)) (u2 : P.underlying k2.type = some (.struct #[g0, g1]))
    (e0 : P.underlying f0.type = some .string) (e1 : P.underlying f1.type = some (.int .i64)) (e2 : P.underlying f2.type = some (.int .i64)) (e3 : P.underlying f3.type = some (.int .i64)) (e4 : P.underlying f4.type = some (.int .i64))
    (y0 : P.underlying g0.type = some (.int .i64)) (y1 : P.underlying g1.type = some (.int .i64))
    (ho : [f0.offset, f1.offset, f2.offset, f3.offset, f4.offset] = [0, 1, 2, 3, 4])
    (hc : [P.cellsOf f0.type, P.cellsOf f1.type, P.cellsOf f2.type, P.cellsOf f3.type, P.cellsOf f4.type] = [1, 1, 1, 1, 1])
    (ho2 : [k0.offset, k1.offset, k2.offset, g0.offset, g1.offset] = [0, 5, 6, 0, 1])
    (hc2 : [P.cellsOf k0.type, P.cellsOf k1.type, P.cellsOf k2.type, P.cellsOf g0.type, P.cellsOf g1.type] = [5, 1, 2, 1, 1]) (hC : P.cellsOf t = 8)
    (h : DataW.Trod enc P W 0 (fun _ => true) true ts (.slice a len cap) d p) : ∃ ps, RRow W W.heap.size a len cap ps := by
  obtain ⟨fuel, hf⟩ := h
  rcases open_slice ht hf with ⟨hcs, _⟩ | ⟨x, l, c, m, n, D, Pl, hcs, _, hl, hm, hmm, _, hx⟩
  · simp [Value.cells] at hcs
    obtain ⟨rfl, rfl, rfl⟩ := hcs
    exact ⟨[], RRow.nil _ _⟩
  · simp [Value.cells] at hcs
    obtain ⟨rfl, rfl, rfl⟩ := hcs
    have hlm : len ≤ m := by rw [hmm]; split <;> omega
    rw [hC] at hx
    have each : ∀ i, i < len → ∃ q : RollD, q.p.n.size ≤ maxLen ∧ ∀ j v, q.vals[j]? = some v → W.cell? (x.add (i * 8 + j)) = some v := by
      intro i hi
      obtain ⟨cs', h1, h2⟩ := hx i (by omega)
      obtain ⟨_, hlen, hcell⟩ := World.cells?_some h1
      obtain ⟨q, rfl, hq⟩ := roll_cells hr u0 u1 u2 e0 e1 e2 e3 e4 y0 y1 ho hc ho2 hc2 hlen h2
      refine ⟨q, hq, fun j v hj => ?_⟩
      have hj5 : j < 8 := by have := (List.getElem?_eq_some_iff.1 hj).1; simpa [RollD.vals_length] using this
      have := hcell j hj5
      rw [add_add] at this
      rw [this, hj]
    obtain ⟨q, hq⟩ := choose_lt each
    refine ⟨(List.range len).map q, by simp, hl, hm, fun y hy => ?_, fun hp => ?_⟩
    · obtain ⟨r, hr, rfl⟩ := List.mem_map.1 hy
      exact (hq r (List.mem_range.1 hr)).1
    · have hc0 := (hq 0 (by omega)).2 0 _ rfl
      have hs : x.spot = none := by
        have := World.cell?_spot hc0
        simpa [Addr.add] using this
      obtain ⟨b, off, spot⟩ := x
      simp at hs
      subst hs
      refine ⟨b, off, rfl, ?_, fun j hj i v hv => ?_⟩
      · have := cell_lt hc0
        simpa [Addr.add] using this
      · have e : ((List.range len).map q)[j]?.getD roll0 = q j := by simp [hj]
        rw [e] at hv
        have := (hq j hj).2 i v hv
        rw [Addr.add_lit] at this
        rw [Nat.add_assoc]
        exact this
end
end Go.Proofs.YtmdknbgpddnplaaGreatDoor
namespace Go.Proofs.YtmdknbgpddnplaaGreatDoor
open Go.ChangeShapes Go.WideShapes Go.ChangeAt Go.RowKit

theorem own : ownKnob Tryz.prog.godebug = none := by kernel_rfl
theorem laidOut : laidOutB Tryz.prog = true := by kernel_rfl

/-- Each named variable is there, and its type can be read. -/
def varsOk (P : Program) (names : List String) : Bool :=
  names.all fun n => match P.globalNamed n with
    | some g => match (P.globals[g]?).map (·.type) with
      | some t => P.readableRec t && decide (t < P.types.size)
      | Option.none => false
    | Option.none => false
theorem vars_keep {H : Type} {enc : TypeId × Value → H} {P : Program} (hl : laidOutB P = true) {W W' : World} (bel : Below W.heap.size W W') : ∀ (names : List String) (gs : List (DataW H)) (q : List MemPlace),
    varsOk P names = true → DataW.TrodVars enc P W (fun _ => true) names gs q → (∀ x ∈ q, x.block < W.heap.size) → DataW.TrodVars enc P W' (fun b => decide (b < W.heap.size)) names gs q
  | [], gs, q, _, h, _ => by
    obtain ⟨rfl, rfl⟩ := trodVars_none h
    exact rfl
  | n :: r, [], q, _, h, _ => by simp [DataW.TrodVars] at h
  | n :: r, d :: ds, q, hok, h, hlt => by
    obtain ⟨g, t, cs, fuel, p, q2, h1, h2, h3, h4, h5, rfl⟩ := h
    simp only [varsOk, List.all_cons, Bool.and_eq_true] at hok
    obtain ⟨ho, hor⟩ := hok
    simp only [h1, h2, Bool.and_eq_true, decide_eq_true_eq] at ho
    have hg : g < W.heap.size := by
      rcases Nat.lt_or_ge g W.heap.size with hlt | hge
      · exact hlt
      · simp [World.var?, h1, Array.getElem?_eq_none hge] at h3
    have hT : DataW.Trod enc P W 0 (fun _ => true) true t (.agg cs) d p := ⟨fuel, h4⟩
    obtain ⟨fuel', h4'⟩ := Below.trod hl ho.1 ho.2 hT bel (fun x hx => hlt x (by simp [hx]))
    exact ⟨g, t, cs, fuel', p, q2, h1, h2, var?_below bel h1 hg h3, h4', vars_keep hl bel r ds q2 hor h5 (fun x hx => hlt x (by simp [hx])), rfl⟩

/-- An array of words that reads as it is listed holds these words, cell for cell. -/
theorem cells_of_words {H : Type} {enc : TypeId × Value → H} {P : Program} {w : World} {base : Nat} {sp : Nat → Bool} {held : Bool} {fuel : Nat} {t e : TypeId} {n : Nat} {cs : List Value} {ss : List (List UInt8)} {p : List MemPlace}
    (ht : P.underlying t = some (.array n e)) (he : P.underlying e = some .string) (hce : P.cellsOf e = 1) (hct : P.cellsOf t = n)
    (h : DataW.trod enc P w base sp held fuel t cs = some (.agg (ss.map fun s => .lit (.string s)), p)) : cs = ss.map fun s => Value.string ⟨s.toArray⟩ := by
  cases fuel with
  | zero => simp [DataW.trod] at h
  | succ fuel =>
    simp only [DataW.trod, ht, hce, hct, Nat.mul_one] at h
    split at h
    · rename_i hl
      obtain ⟨xs, hm, hx⟩ := Option.map_eq_some_iff.1 h
      have hxs : xs.map (·.1) = ss.map fun s => (DataW.lit (.string s) : DataW H) := by
        have := congrArg Prod.fst hx
        simpa using this
      have hxl : xs.length = n := by simpa using Lib.mapM_length hm
      have hzl : ss.length = n := by
        have := congrArg List.length hxs
        simp at this
        omega
      apply List.ext_getElem?
      intro i
      by_cases hi : i < n
      · obtain ⟨b, hb, hf⟩ := Lib.mapM_at hm i i (by simp [hi])
        obtain ⟨s, hc, rfl, _⟩ := DataW.trod_string he hf
        have h1 : cs[i]? = some (.string s) := by
          have := congrArg (·[0]?) hc
          simpa [List.getElem?_take, List.getElem?_drop] using this
        have h2 : (xs.map (·.1))[i]? = some (DataW.lit (.string s.data.toList) : DataW H) := by simp [hb]
        rw [hxs] at h2
        simp only [List.getElem?_map, Option.map_eq_some_iff, DataW.lit.injEq, Lit.string.injEq] at h2
        obtain ⟨z', hz', e'⟩ := h2
        rw [h1]
        simp [hz', e']
      · rw [List.getElem?_eq_none (by omega), List.getElem?_eq_none (by simp; omega)]
    · cases h

theorem gLabels : Tryz.prog.globalNamed "loop.example/g00618/impl.labels" = some 0 := by kernel_rfl
theorem gLabelsType : (Tryz.prog.globals[0]?).map (·.type) = some 163 := by kernel_rfl
theorem cLabels : Tryz.prog.cellsOf 163 = 8 := by kernel_rfl
theorem cWord : Tryz.prog.cellsOf 9 = 1 := by kernel_rfl
/-- What the listed datum of the labels gives a walk. -/
theorem Labels_of {W : World} (h : laidMet Tryz.prog [("loop.example/g00618/impl.labels", Rows.laid_loop_example_g00618_impl_labels)] W) : Labels W := by
  obtain ⟨ps, ⟨g, t, cs, fuel, p, q, hg, ht, hvar, hd, _, _⟩, _⟩ := h
  obtain rfl := Option.some.inj (gLabels.symm.trans hg)
  obtain rfl := Option.some.inj (gLabelsType.symm.trans ht)
  have e := cells_of_words (ss := [[115, 116, 114, 101, 97, 109], [104, 101, 97, 114, 100], [110, 111, 110, 99, 101], [115, 105, 103, 110], [109, 97, 99], [115, 101, 97, 108], [115, 112, 107, 105], [114, 111, 108, 108]]) Tryz.underlying163 Tryz.underlying9 cWord cLabels hd
  have c := fun i => World.var?_cell hg hvar i
  have a0 : cs[0]? = some (.string M.streamS) := by rw [← Array.getElem?_toList, e]; rfl
  have a1 : cs[1]? = some (.string M.heardS) := by rw [← Array.getElem?_toList, e]; rfl
  have a2 : cs[2]? = some (.string M.nonceS) := by rw [← Array.getElem?_toList, e]; rfl
  have a3 : cs[3]? = some (.string M.signS) := by rw [← Array.getElem?_toList, e]; rfl
  have a4 : cs[4]? = some (.string M.macS) := by rw [← Array.getElem?_toList, e]; rfl
  have a5 : cs[5]? = some (.string M.sealS) := by rw [← Array.getElem?_toList, e]; rfl
  have a6 : cs[6]? = some (.string M.spkiS) := by rw [← Array.getElem?_toList, e]; rfl
  have a7 : cs[7]? = some (.string M.rollS) := by rw [← Array.getElem?_toList, e]; rfl
  exact ⟨(c 0).trans a0, (c 1).trans a1, (c 2).trans a2, (c 3).trans a3, (c 4).trans a4, (c 5).trans a5, (c 6).trans a6, (c 7).trans a7⟩
theorem Labels_laid {W : World} (h : laidMetH Tryz.prog [("loop.example/g00618/impl.labels", Rows.laid_loop_example_g00618_impl_labels)] W) : Labels W := Labels_of h

theorem gErrT : Tryz.prog.globalNamed "errors.errorType" = some 1 := by kernel_rfl
theorem rtErrT : (Tryz.prog.cutTypes.find? (·.1 == "internal/reflectlite.rtype")).map (·.2) = some 211 := by kernel_rfl
theorem rowErrT : ((List.range 302).filter fun t => Tryz.prog.rowNamed t [101, 114, 114, 111, 114]) = [90] := by kernel_rfl
theorem sizeErrT : Tryz.prog.types.size = 302 := by kernel_rfl
/-- What the listed handle gives a walk: the variable's one cell. -/
theorem ErrT_of {W : World} (h : handlesMet Tryz.prog [("errors.errorType", Rows.laid_errors_errorType)] W) : ErrT W := by
  obtain ⟨name, u, ty, e1, e2, e3, e4, e5⟩ := h _ (List.mem_singleton.2 rfl)
  have en : name = [101, 114, 114, 111, 114] := (Option.some.inj e1).symm
  subst en
  obtain rfl := Option.some.inj (rtErrT.symm.trans e2)
  have hm : ty ∈ (List.range 302).filter fun t => Tryz.prog.rowNamed t [101, 114, 114, 111, 114] := List.mem_filter.2 ⟨List.mem_range.2 (by rw [← sizeErrT]; exact e3), e4⟩
  rw [rowErrT] at hm
  obtain rfl := List.mem_singleton.1 hm
  have hh : typeHandle Tryz.prog 90 = .pointer (some ⟨6, 90, none⟩) := by kernel_rfl
  rw [hh] at e5
  exact ⟨by simpa using World.var?_cell gErrT e5 0⟩
theorem ErrT_laid {W : World} (h : laidMetH Tryz.prog [("errors.errorType", Rows.laid_errors_errorType)] W) : ErrT W := ErrT_of (show laidMet Tryz.prog [] W ∧ handlesMet Tryz.prog [("errors.errorType", Rows.laid_errors_errorType)] W from h).2
theorem both_laid {W : World} (h : laidMetH Tryz.prog [("errors.errorType", Rows.laid_errors_errorType), ("loop.example/g00618/impl.labels", Rows.laid_loop_example_g00618_impl_labels)] W) : Labels W ∧ ErrT W := by
  have h' : laidMet Tryz.prog [("loop.example/g00618/impl.labels", Rows.laid_loop_example_g00618_impl_labels)] W ∧ handlesMet Tryz.prog [("errors.errorType", Rows.laid_errors_errorType)] W := h
  exact ⟨Labels_of h'.1, ErrT_of h'.2⟩

/-- A world for the witness: the settled one, its tables holding what their initialisers lay. -/
noncomputable def laidWorld (os : Os) : World :=
  { World.holding Tryz.prog os ⟨#[], #[], []⟩ with heap := ((World.holding Tryz.prog os ⟨#[], #[], []⟩).heap
       |>.modify 0 (fun | .cells _ t frozen => .cells #[.string M.streamS, .string M.heardS, .string M.nonceS, .string M.signS, .string M.macS, .string M.sealS, .string M.spkiS, .string M.rollS] t frozen | o => o)
       |>.modify 1 (fun | .cells _ t frozen => .cells #[.iface 211 (.agg #[.pointer (some ⟨6, 90, none⟩)])] t frozen | o => o)
    ) }
end Go.Proofs.YtmdknbgpddnplaaGreatDoor
namespace Go.Proofs.YtmdknbgpddnplaaGreatDoor
open Go.ChangeShapes Go.WideShapes Go.ChangeAt Go.RowKit

/-- What the rows list: with the labels (the variable at block 0). -/
def listL : List (String × DataW Unit) := [("unicode/utf8.acceptRanges", Rows.laid_unicode_utf8_acceptRanges), ("loop.example/g00618/impl.labels", Rows.laid_loop_example_g00618_impl_labels), ("unicode.CaseRanges", Rows.laid_unicode_CaseRanges), ("unicode/utf8.first", Rows.laid_unicode_utf8_first)]
/-- Without them. -/
def listN : List (String × DataW Unit) := [("unicode/utf8.acceptRanges", Rows.laid_unicode_utf8_acceptRanges), ("unicode.CaseRanges", Rows.laid_unicode_CaseRanges), ("unicode/utf8.first", Rows.laid_unicode_utf8_first)]

theorem laid_mem {P : Program} {w : World} : ∀ (l : List (String × DataW Unit)) (ps : List MemPlace), DataW.LaidVars P w l ps → ∀ n d, (n, d) ∈ l →
    ∃ g t cs fuel p, P.globalNamed n = some g ∧ (P.globals[g]?).map (·.type) = some t ∧ w.var? P n = some cs ∧ DataW.trod (fun _ => ()) P w 0 (fun _ => true) false fuel t cs.toList = some (d, p)
  | [], _, _, n, d, h => by cases h
  | (n', d') :: r, ps, ⟨g, t, cs, fuel, p, q, h1, h2, h3, h4, h5, _⟩, n, d, h => by
    rcases List.mem_cons.1 h with e | h
    · injection e with e1 e2
      subst e1
      subst e2
      exact ⟨g, t, cs, fuel, p, h1, h2, h3, h4⟩
    · exact laid_mem r q h5 n d h
theorem Labels_tabs {W : World} (h : laidMetH Tryz.prog listL W) : Labels W := by
  rw [MakeChecks.laidMetH_plain _ _ _ (by kernel_rfl)] at h
  obtain ⟨ps, hv, _⟩ := h
  obtain ⟨g, t, cs, fuel, p, hg, ht, hvar, hd⟩ := laid_mem _ _ hv "loop.example/g00618/impl.labels" Rows.laid_loop_example_g00618_impl_labels (List.mem_cons_of_mem _ (List.mem_cons_self ..))
  obtain rfl := Option.some.inj (gLabels.symm.trans hg)
  obtain rfl := Option.some.inj (gLabelsType.symm.trans ht)
  have e := cells_of_words (ss := [[115, 116, 114, 101, 97, 109], [104, 101, 97, 114, 100], [110, 111, 110, 99, 101], [115, 105, 103, 110], [109, 97, 99], [115, 101, 97, 108], [115, 112, 107, 105], [114, 111, 108, 108]]) Tryz.underlying163 Tryz.underlying9 cWord cLabels hd
  have c := fun i => World.var?_cell hg hvar i
  have a0 : cs[0]? = some (.string M.streamS) := by rw [← Array.getElem?_toList, e]; rfl
  have a1 : cs[1]? = some (.string M.heardS) := by rw [← Array.getElem?_toList, e]; rfl
  have a2 : cs[2]? = some (.string M.nonceS) := by rw [← Array.getElem?_toList, e]; rfl
  have a3 : cs[3]? = some (.string M.signS) := by rw [← Array.getElem?_toList, e]; rfl
  have a4 : cs[4]? = some (.string M.macS) := by rw [← Array.getElem?_toList, e]; rfl
  have a5 : cs[5]? = some (.string M.sealS) := by rw [← Array.getElem?_toList, e]; rfl
  have a6 : cs[6]? = some (.string M.spkiS) := by rw [← Array.getElem?_toList, e]; rfl
  have a7 : cs[7]? = some (.string M.rollS) := by rw [← Array.getElem?_toList, e]; rfl
  exact ⟨(c 0).trans a0, (c 1).trans a1, (c 2).trans a2, (c 3).trans a3, (c 4).trans a4, (c 5).trans a5, (c 6).trans a6, (c 7).trans a7⟩

theorem witness_tabs {H : Type} {enc : TypeId × Value → H} {C : Checked} {os : Os} {f : FuncId} {fn : Func} {s : OpenSpec} {conds : List PathCond} {apart : Bool} {laid : List (String × DataW Unit)} (modest : Bool) (w0 : World) (args : Array Value) (hos : w0.os = os)
    (hsh : (w0.forCall (fun _ _ => 0) ⟨#[], args, []⟩).Shaped C.prog)
    (hok : Input.okWideB C.prog (w0.forCall (fun _ _ => 0) ⟨#[], args, []⟩) f ⟨#[], args, []⟩ = true)
    (hrow : s.preRow enc C.prog fn conds apart laid (w0.forCall (fun _ _ => 0) ⟨#[], args, []⟩).memory args) :
    ∃ (w : World) (tape : Tape) (i : Input), w.os = os ∧ (w.forCall tape i).Shaped C.prog ∧ i.vars = [] ∧ Input.okWide C.prog (w.forCall tape i) .any w.heap.size f i ∧
      s.preRow enc C.prog fn conds apart laid (w.forCall tape i).memory i.args ∧ ({ modest := modest } : Assume).holds C.prog (lone (Frame.enter C.prog f i.args .normal) [] (w.forCall tape i)) :=
  ⟨w0, fun _ _ => 0, ⟨#[], args, []⟩, hos, hsh, (Input.okWide_of_okWideB (base := 0) hok).1, (Input.okWide_of_okWideB hok).2, hrow, by
    simp only [Assume.holds]
    exact ⟨by simp, by simp, fun _ => Modest.zero, by simp, by simp⟩⟩

theorem shapedL (os : Os) (args : Array Value) : ((World.laidAll Tryz.prog os listL).forCall (fun _ _ => 0) ⟨#[], args, []⟩).Shaped Tryz.prog := World.shaped_of_ZipB (by kernel_rfl) (by kernel_rfl)
theorem metL (os : Os) (args : Array Value) : laidMetH Tryz.prog listL ((World.laidAll Tryz.prog os listL).forCall (fun _ _ => 0) ⟨#[], args, []⟩).memory := by
  rw [MakeChecks.laidMetH_plain _ _ _ (by kernel_rfl)]
  exact laidMet_laidAll _ (by kernel_rfl) (by kernel_rfl)

theorem shapedN (os : Os) (args : Array Value) : ((World.laidAll Tryz.prog os listN).forCall (fun _ _ => 0) ⟨#[], args, []⟩).Shaped Tryz.prog := World.shaped_of_ZipB (by kernel_rfl) (by kernel_rfl)
theorem metN (os : Os) (args : Array Value) : laidMetH Tryz.prog listN ((World.laidAll Tryz.prog os listN).forCall (fun _ _ => 0) ⟨#[], args, []⟩).memory := by
  rw [MakeChecks.laidMetH_plain _ _ _ (by kernel_rfl)]
  exact laidMet_laidAll _ (by kernel_rfl) (by kernel_rfl)

end Go.Proofs.YtmdknbgpddnplaaGreatDoor
namespace Go.Proofs.YtmdknbgpddnplaaGreatDoor
open Go.ChangeShapes Go.WideShapes Go.ChangeAt Go.RowKit

/-- What the rows list: with the labels. -/
def listP : List (String × DataW Unit) := [("unicode/utf8.acceptRanges", Rows.laid_unicode_utf8_acceptRanges), ("errors.errorType", Rows.laid_errors_errorType), ("loop.example/g00618/impl.labels", Rows.laid_loop_example_g00618_impl_labels), ("unicode.CaseRanges", Rows.laid_unicode_CaseRanges), ("unicode/utf8.first", Rows.laid_unicode_utf8_first)]
/-- Without them. -/
def listE : List (String × DataW Unit) := [("unicode/utf8.acceptRanges", Rows.laid_unicode_utf8_acceptRanges), ("errors.errorType", Rows.laid_errors_errorType), ("unicode.CaseRanges", Rows.laid_unicode_CaseRanges), ("unicode/utf8.first", Rows.laid_unicode_utf8_first)]
/-- A world with the handle in its place. -/
noncomputable def heldW (os : Os) : World :=
  { World.holding Tryz.prog os ⟨#[], #[], []⟩ with heap := (World.holding Tryz.prog os ⟨#[], #[], []⟩).heap.modify 1 (fun | .cells _ t frozen => .cells #[.iface 211 (.agg #[.pointer (some ⟨6, 90, none⟩)])] t frozen | o => o) }
theorem laidMet_on {P : Program} {w0 : World} {laid : List (String × DataW Unit)} (args : Array Value) (hf : w0.layFits P laid [] = true) (hi : w0.layIfaces P laid (w0.layVars P laid) = true) :
    laidMet P laid ((w0.layVars P laid).forCall (fun _ _ => 0) ⟨#[], args, []⟩).memory := by
  have e1 : (laid.filter fun x => (laid.map (·.1)).contains x.1) = laid := List.filter_eq_self.2 fun x hx => List.contains_iff_mem.2 (List.mem_map.2 ⟨x, hx, rfl⟩)
  have e2 : (laid.filter fun x => !(laid.map (·.1)).contains x.1) = [] := List.filter_eq_nil_iff.2 fun x hx => by rw [List.contains_iff_mem.2 (List.mem_map.2 ⟨x, hx, rfl⟩)]; simp
  have h : laidMet P laid (w0.layVars P laid) := laidMet_layVars (w0 := w0) (laid.map (·.1)) [] (by rw [e1]) (by rw [e1]; exact hf) (by rw [e1]; exact hi) (by rw [e2]; exact LaidIn.none)
  exact h.of_heap (by simp [World.memory, World.forCall, Input.heap])
theorem listP_handle : (listP.filter fun x => x.2.handleName?.isSome) = [("errors.errorType", Rows.laid_errors_errorType)] := by kernel_rfl
theorem listP_plain : (listP.filter fun x => x.2.handleName?.isNone) = listL := by kernel_rfl
theorem all_P {W : World} (h : laidMetH Tryz.prog listP W) : laidMet Tryz.prog listL W ∧ handlesMet Tryz.prog [("errors.errorType", Rows.laid_errors_errorType)] W := by
  unfold laidMetH at h
  rw [listP_handle, listP_plain] at h
  exact h
theorem ErrT_P {W : World} (h : laidMetH Tryz.prog listP W) : ErrT W := ErrT_of (all_P h).2
noncomputable def laidP (os : Os) : World := (heldW os).layVars Tryz.prog listL
theorem laidP_os (os : Os) : (laidP os).os = os := World.layVars_os _ _ _
theorem shapedP (os : Os) (args : Array Value) : ((laidP os).forCall (fun _ _ => 0) ⟨#[], args, []⟩).Shaped Tryz.prog := World.shaped_of_ZipB (by kernel_rfl) (by kernel_rfl)
theorem metP (os : Os) (args : Array Value) : laidMetH Tryz.prog listP ((laidP os).forCall (fun _ _ => 0) ⟨#[], args, []⟩).memory :=
  laidMetH_of_parts (by rw [listP_plain]; exact laidMet_on args (by kernel_rfl) (by kernel_rfl)) (by rw [listP_handle]; kernel_rfl)

theorem listE_handle : (listE.filter fun x => x.2.handleName?.isSome) = [("errors.errorType", Rows.laid_errors_errorType)] := by kernel_rfl
theorem listE_plain : (listE.filter fun x => x.2.handleName?.isNone) = listN := by kernel_rfl
theorem all_E {W : World} (h : laidMetH Tryz.prog listE W) : laidMet Tryz.prog listN W ∧ handlesMet Tryz.prog [("errors.errorType", Rows.laid_errors_errorType)] W := by
  unfold laidMetH at h
  rw [listE_handle, listE_plain] at h
  exact h
theorem ErrT_E {W : World} (h : laidMetH Tryz.prog listE W) : ErrT W := ErrT_of (all_E h).2
noncomputable def laidE (os : Os) : World := (heldW os).layVars Tryz.prog listN
theorem laidE_os (os : Os) : (laidE os).os = os := World.layVars_os _ _ _
theorem shapedE (os : Os) (args : Array Value) : ((laidE os).forCall (fun _ _ => 0) ⟨#[], args, []⟩).Shaped Tryz.prog := World.shaped_of_ZipB (by kernel_rfl) (by kernel_rfl)
theorem metE (os : Os) (args : Array Value) : laidMetH Tryz.prog listE ((laidE os).forCall (fun _ _ => 0) ⟨#[], args, []⟩).memory :=
  laidMetH_of_parts (by rw [listE_plain]; exact laidMet_on args (by kernel_rfl) (by kernel_rfl)) (by rw [listE_handle]; kernel_rfl)

theorem Labels_P {W : World} (h : laidMetH Tryz.prog listP W) : Labels W := by
  obtain ⟨ps, hv, _⟩ := (all_P h).1
  obtain ⟨g, t, cs, fuel, p, hg, ht, hvar, hd⟩ := laid_mem _ _ hv "loop.example/g00618/impl.labels" Rows.laid_loop_example_g00618_impl_labels (List.mem_cons_of_mem _ (List.mem_cons_self ..))
  obtain rfl := Option.some.inj (gLabels.symm.trans hg)
  obtain rfl := Option.some.inj (gLabelsType.symm.trans ht)
  have e := cells_of_words (ss := [[115, 116, 114, 101, 97, 109], [104, 101, 97, 114, 100], [110, 111, 110, 99, 101], [115, 105, 103, 110], [109, 97, 99], [115, 101, 97, 108], [115, 112, 107, 105], [114, 111, 108, 108]]) Tryz.underlying163 Tryz.underlying9 cWord cLabels hd
  have c := fun i => World.var?_cell hg hvar i
  have a0 : cs[0]? = some (.string M.streamS) := by rw [← Array.getElem?_toList, e]; rfl
  have a1 : cs[1]? = some (.string M.heardS) := by rw [← Array.getElem?_toList, e]; rfl
  have a2 : cs[2]? = some (.string M.nonceS) := by rw [← Array.getElem?_toList, e]; rfl
  have a3 : cs[3]? = some (.string M.signS) := by rw [← Array.getElem?_toList, e]; rfl
  have a4 : cs[4]? = some (.string M.macS) := by rw [← Array.getElem?_toList, e]; rfl
  have a5 : cs[5]? = some (.string M.sealS) := by rw [← Array.getElem?_toList, e]; rfl
  have a6 : cs[6]? = some (.string M.spkiS) := by rw [← Array.getElem?_toList, e]; rfl
  have a7 : cs[7]? = some (.string M.rollS) := by rw [← Array.getElem?_toList, e]; rfl
  exact ⟨(c 0).trans a0, (c 1).trans a1, (c 2).trans a2, (c 3).trans a3, (c 4).trans a4, (c 5).trans a5, (c 6).trans a6, (c 7).trans a7⟩
end Go.Proofs.YtmdknbgpddnplaaGreatDoor
namespace Go.Proofs.YtmdknbgpddnplaaGreatDoor
open Go.RowKit
set_option maxRecDepth 100000
set_option linter.unusedVariables false

/-- No error where the code is 0, else one that has that code. -/
def Err8 (c : Int) (w : World) (r : Ending) (w' : World) : Prop := ∃ e, (c = 0 → e = .nilIface) ∧ (c ≠ 0 → ErrC1 c e) ∧ r = .returned e ∧ Below w.heap.size w w'
theorem Err8.mis {c : Int} {s : ByteArray} {w w' : World} (hc : c ≠ 0) (hb : Below w.heap.size w w') : Err8 c w (.returned (misV c s)) w' := ⟨_, fun h => absurd h hc, fun _ => .inl ⟨_, rfl⟩, rfl, hb⟩
theorem Err8.ref {c : Int} {s s1 : ByteArray} {w w' : World} (hc : c ≠ 0) (hb : Below w.heap.size w w') : Err8 c w (.returned (refV s1 (misV c s))) w' := ⟨_, fun h => absurd h hc, fun _ => .inr ⟨_, _, rfl⟩, rfl, hb⟩
theorem Err8.nil {w w' : World} (hb : Below w.heap.size w w') : Err8 0 w (.returned .nilIface) w' := ⟨_, fun _ => rfl, fun h => absurd rfl h, rfl, hb⟩
theorem nextReason_any (p o : PinD) (w : World) (ho : o.f = 0) (c : Int) (h : (p.nm ≠ o.nm ∧ c = 1) ∨ (p.nm = o.nm ∧ p.e ≠ o.e + 1 ∧ c = 11) ∨ (p.nm = o.nm ∧ p.e = o.e + 1 ∧ c = 0)) :
    Calls Tryz.prog 98 #[P5 p, P5 o] w fun r w' => (c = 0 ∧ r = .returned .nilIface ∨ c ≠ 0 ∧ ∃ s, r = .returned (misV c s)) ∧ Below w.heap.size w w' := by
  have b0 := bal (bal (Below.refl _ w) (.cells #[.string p.n, .int .i64 p.a, .int .i64 p.b, .int .i64 p.e, .int .i64 p.u] 25)) (.cells #[.string o.n, .int .i64 o.a, .int .i64 o.b, .int .i64 o.e, .int .i64 o.u] 25)
  obtain ⟨-, -, -, ⟨he0, he1⟩, -⟩ := pin_bounds ho
  have TQ : (p.n.toList == o.n.toList) = decide (p.nm = o.nm) := text_beq p.n o.n
  clear ho
  rcases h with ⟨h, rfl⟩ | ⟨h, h2, rfl⟩ | ⟨h, h2, rfl⟩
  · rw [decide_eq_false h] at TQ
    clear h
    go_enter Tryz.func98, Tryz.ntmps98
    go_wp2_with fail
    go_ret
    exact ⟨.inr ⟨by decide, _, rfl⟩, b0⟩
  · rw [decide_eq_true h] at TQ
    have E2 : (p.e == o.e + 1) = false := by simpa using h2
    have N2 : (p.e != o.e + 1) = true := by simp [h2]
    clear h h2
    go_enter Tryz.func98, Tryz.ntmps98
    go_wp2_with fail
    go_ret
    exact ⟨.inr ⟨by decide, _, rfl⟩, b0⟩
  · rw [decide_eq_true h] at TQ
    have E2 : (p.e == o.e + 1) = true := by simpa using h2
    have N2 : (p.e != o.e + 1) = false := by simp [h2]
    clear h h2
    go_enter Tryz.func98, Tryz.ntmps98
    go_wp2_with fail
    go_ret
    exact ⟨by simp, b0⟩
theorem sayReason_any (r : RollD) (o : PinD) (t : Int) (w : World) (lab : Labels w) (hn : o.n.size ≤ maxLen) (hm : r.p.n.size ≤ maxLen) (ho : o.f = 0) (hr : r.p.f = 0) (ht : timB t = true) (h1 : r.p.nm = o.nm) (h2 : r.p.e = o.e + 1) :
    Calls Tryz.prog 99 #[R8 r, P5 o, .int .i64 t] w (Err8 (chk o r t) w) := by
  have b0 := bal (bal (Below.refl _ w) (.cells #[.string r.p.n, .int .i64 r.p.a, .int .i64 r.p.b, .int .i64 r.p.e, .int .i64 r.p.u, .int .i64 r.b, .int .i64 r.x, .int .i64 r.y] 95)) (.cells #[.string o.n, .int .i64 o.a, .int .i64 o.b, .int .i64 o.e, .int .i64 o.u] 25)
  have A0 : At w.heap.size r.vals ((w.alloc (.cells #[.string r.p.n, .int .i64 r.p.a, .int .i64 r.p.b, .int .i64 r.p.e, .int .i64 r.p.u, .int .i64 r.b, .int .i64 r.x, .int .i64 r.y] 95)).alloc (.cells #[.string o.n, .int .i64 o.a, .int .i64 o.b, .int .i64 o.e, .int .i64 o.u] 25)) := (At.new w r.vals 95).alloc _
  have lab0 := lab.on b0
  have L := fun w => implIsLive_any o t w hn
  have S := fun w lab => rollSum_any r.p w lab hm hr
  have C := fun w lab => implCheckSign_any r.b (rsum r.p) r.x r.y w lab
  have eL : liveB o t = decide (t ≤ o.u) := by simp [liveB, ho, ht]
  rw [eL] at L
  clear ho hr ht eL lab
  by_cases h3 : r.b = o.a
  · have E3 : (r.b == o.a) = true := by simpa using h3
    have N3 : (r.b != o.a) = false := by simp [h3]
    have D3 : decide (r.b = o.a) = true := by simp [h3]
    have W3 := Lib.hid h3
    clear h3
    by_cases hu : t ≤ o.u
    · rw [decide_eq_true hu] at L
      cases hc : M.checkB r.b (rsum r.p) r.x r.y
      · rw [chk_sign h1 h2 (.inl W3.out) hu hc]
        rw [hc] at C
        generalize rsum r.p = x at *
        clear h1 h2 hu hc
        go_enter Tryz.func99, Tryz.ntmps99
        go_wp2_with fail
        generalize (w.alloc (.cells #[.string r.p.n, .int .i64 r.p.a, .int .i64 r.p.b, .int .i64 r.p.e, .int .i64 r.p.u, .int .i64 r.b, .int .i64 r.x, .int .i64 r.y] 95)).alloc (.cells #[.string o.n, .int .i64 o.a, .int .i64 o.b, .int .i64 o.e, .int .i64 o.u] 25) = W0 at *
        refine (L _).mono ?_
        rintro e u1 ⟨rfl, b1⟩
        have A1 := A0.on b1
        have B1 := btr b0 b1
        have L1 := lab0.on b1
        clear A0 b0 b1 L lab0
        have c0 := A1.cell 0 _ rfl
        have c1 := A1.cell 1 _ rfl
        have c2 := A1.cell 2 _ rfl
        have c3 := A1.cell 3 _ rfl
        have c4 := A1.cell 4 _ rfl
        have c5 := A1.cell 5 _ rfl
        have c6 := A1.cell 6 _ rfl
        have c7 := A1.cell 7 _ rfl
        go_wp2_with fail
        refine wp_region_line (Bel u1) [(0, true), (1, true), (2, true), (3, true), (5, true), (6, true), (4, false), (7, false), (8, true)] (by kernel_rfl) (by kernel_rfl) (fun _ _ d _ _ h => by cases d <;> exact h) (Bel.drew u1) ?_
        have hst := Bel.drew u1
        have inst : Nonempty (Of (Bel u1)) := ⟨⟨_, hst⟩⟩
        have q0 := bel_cell c0
        have q1 := bel_cell c1
        have q2 := bel_cell c2
        have q3 := bel_cell c3
        have q4 := bel_cell c4
        have q5 := bel_cell c5
        have q6 := bel_cell c6
        have q7 := bel_cell c7
        generalize u1.drew = V1 at *
        iterate 6 (refine line_read rfl (by kernel_rfl) (fun K hK => ?_); go_big_quiet_op; refine hK _ ?_; clear hK K)
        refine line_alone rfl (by kernel_rfl) (fun K hK => ?_)
        refine call_wp (args := #[P5 r.p]) rfl (by kernel_rfl) (by kernel_rfl) (S _ (L1.on hst.out)) (fun wn hbn => ?_)
        have hst2 := hst.on hbn
        refine hK _ _ hst2 ?_
        clear hK K hst hbn
        have hst := hst2
        clear hst2
        simp only [Act.put, List.setIfInBounds_toArray, List.set_cons_zero, List.set_cons_succ]
        refine line_alone rfl (by kernel_rfl) (fun K hK => ?_)
        refine call_wp (args := #[.int .i64 r.b, .int .i64 x, I2 r.x r.y]) rfl (by kernel_rfl) (by kernel_rfl) (C _ (L1.on hst.out)) (fun wn hbn => ?_)
        have hst2 := hst.on hbn
        refine hK _ _ hst2 ?_
        clear hK K hst hbn
        have hst := hst2
        clear hst2
        simp only [Act.put, List.setIfInBounds_toArray, List.set_cons_zero, List.set_cons_succ]
        iterate 1 (refine line_read rfl (by kernel_rfl) (fun K hK => ?_); go_big_quiet_op; refine hK _ ?_; clear hK K)
        refine line_nil ?_
        have hb := btr B1 hst.out
        clear hst inst q0 q1 q2 q3 q4 q5 q6 q7 c0 c1 c2 c3 c4 c5 c6 c7 A1 B1 L1 S C
        go_wp2_with fail
        go_ret
        exact Err8.mis (by decide) hb
      · rw [chk_yes h1 h2 (.inl W3.out) hu hc]
        rw [hc] at C
        generalize rsum r.p = x at *
        clear h1 h2 hu hc
        go_enter Tryz.func99, Tryz.ntmps99
        go_wp2_with fail
        generalize (w.alloc (.cells #[.string r.p.n, .int .i64 r.p.a, .int .i64 r.p.b, .int .i64 r.p.e, .int .i64 r.p.u, .int .i64 r.b, .int .i64 r.x, .int .i64 r.y] 95)).alloc (.cells #[.string o.n, .int .i64 o.a, .int .i64 o.b, .int .i64 o.e, .int .i64 o.u] 25) = W0 at *
        refine (L _).mono ?_
        rintro e u1 ⟨rfl, b1⟩
        have A1 := A0.on b1
        have B1 := btr b0 b1
        have L1 := lab0.on b1
        clear A0 b0 b1 L lab0
        have c0 := A1.cell 0 _ rfl
        have c1 := A1.cell 1 _ rfl
        have c2 := A1.cell 2 _ rfl
        have c3 := A1.cell 3 _ rfl
        have c4 := A1.cell 4 _ rfl
        have c5 := A1.cell 5 _ rfl
        have c6 := A1.cell 6 _ rfl
        have c7 := A1.cell 7 _ rfl
        go_wp2_with fail
        refine wp_region_line (Bel u1) [(0, true), (1, true), (2, true), (3, true), (5, true), (6, true), (4, false), (7, false), (8, true)] (by kernel_rfl) (by kernel_rfl) (fun _ _ d _ _ h => by cases d <;> exact h) (Bel.drew u1) ?_
        have hst := Bel.drew u1
        have inst : Nonempty (Of (Bel u1)) := ⟨⟨_, hst⟩⟩
        have q0 := bel_cell c0
        have q1 := bel_cell c1
        have q2 := bel_cell c2
        have q3 := bel_cell c3
        have q4 := bel_cell c4
        have q5 := bel_cell c5
        have q6 := bel_cell c6
        have q7 := bel_cell c7
        generalize u1.drew = V1 at *
        iterate 6 (refine line_read rfl (by kernel_rfl) (fun K hK => ?_); go_big_quiet_op; refine hK _ ?_; clear hK K)
        refine line_alone rfl (by kernel_rfl) (fun K hK => ?_)
        refine call_wp (args := #[P5 r.p]) rfl (by kernel_rfl) (by kernel_rfl) (S _ (L1.on hst.out)) (fun wn hbn => ?_)
        have hst2 := hst.on hbn
        refine hK _ _ hst2 ?_
        clear hK K hst hbn
        have hst := hst2
        clear hst2
        simp only [Act.put, List.setIfInBounds_toArray, List.set_cons_zero, List.set_cons_succ]
        refine line_alone rfl (by kernel_rfl) (fun K hK => ?_)
        refine call_wp (args := #[.int .i64 r.b, .int .i64 x, I2 r.x r.y]) rfl (by kernel_rfl) (by kernel_rfl) (C _ (L1.on hst.out)) (fun wn hbn => ?_)
        have hst2 := hst.on hbn
        refine hK _ _ hst2 ?_
        clear hK K hst hbn
        have hst := hst2
        clear hst2
        simp only [Act.put, List.setIfInBounds_toArray, List.set_cons_zero, List.set_cons_succ]
        iterate 1 (refine line_read rfl (by kernel_rfl) (fun K hK => ?_); go_big_quiet_op; refine hK _ ?_; clear hK K)
        refine line_nil ?_
        have hb := btr B1 hst.out
        clear hst inst q0 q1 q2 q3 q4 q5 q6 q7 c0 c1 c2 c3 c4 c5 c6 c7 A1 B1 L1 S C
        go_wp2_with fail
        go_ret
        exact Err8.nil hb
    · rw [chk_old h1 h2 (.inl W3.out) hu]
      rw [decide_eq_false hu] at L
      clear h1 h2 hu S C
      go_enter Tryz.func99, Tryz.ntmps99
      go_wp2_with fail
      generalize (w.alloc (.cells #[.string r.p.n, .int .i64 r.p.a, .int .i64 r.p.b, .int .i64 r.p.e, .int .i64 r.p.u, .int .i64 r.b, .int .i64 r.x, .int .i64 r.y] 95)).alloc (.cells #[.string o.n, .int .i64 o.a, .int .i64 o.b, .int .i64 o.e, .int .i64 o.u] 25) = W0 at *
      refine (L _).mono ?_
      rintro e u1 ⟨rfl, b1⟩
      have A1 := A0.on b1
      have B1 := btr b0 b1
      have L1 := lab0.on b1
      clear A0 b0 b1 L lab0
      go_wp2_with fail
      go_ret
      exact Err8.mis (by decide) B1
  · have E3 : (r.b == o.a) = false := by simpa using h3
    have N3 : (r.b != o.a) = true := by simp [h3]
    have D3 : decide (r.b = o.a) = false := by simp [h3]
    by_cases h4 : r.b = o.b
    · have E4 : (r.b == o.b) = true := by simpa using h4
      have N4 : (r.b != o.b) = false := by simp [h4]
      have W4 := Lib.hid h4
      clear h3 h4
      by_cases hu : t ≤ o.u
      · rw [decide_eq_true hu] at L
        cases hc : M.checkB r.b (rsum r.p) r.x r.y
        · rw [chk_sign h1 h2 (.inr W4.out) hu hc]
          rw [hc] at C
          generalize rsum r.p = x at *
          clear h1 h2 hu hc
          go_enter Tryz.func99, Tryz.ntmps99
          go_wp2_with fail
          generalize (w.alloc (.cells #[.string r.p.n, .int .i64 r.p.a, .int .i64 r.p.b, .int .i64 r.p.e, .int .i64 r.p.u, .int .i64 r.b, .int .i64 r.x, .int .i64 r.y] 95)).alloc (.cells #[.string o.n, .int .i64 o.a, .int .i64 o.b, .int .i64 o.e, .int .i64 o.u] 25) = W0 at *
          refine (L _).mono ?_
          rintro e u1 ⟨rfl, b1⟩
          have A1 := A0.on b1
          have B1 := btr b0 b1
          have L1 := lab0.on b1
          clear A0 b0 b1 L lab0
          have c0 := A1.cell 0 _ rfl
          have c1 := A1.cell 1 _ rfl
          have c2 := A1.cell 2 _ rfl
          have c3 := A1.cell 3 _ rfl
          have c4 := A1.cell 4 _ rfl
          have c5 := A1.cell 5 _ rfl
          have c6 := A1.cell 6 _ rfl
          have c7 := A1.cell 7 _ rfl
          go_wp2_with fail
          refine wp_region_line (Bel u1) [(0, true), (1, true), (2, true), (3, true), (5, true), (6, true), (4, false), (7, false), (8, true)] (by kernel_rfl) (by kernel_rfl) (fun _ _ d _ _ h => by cases d <;> exact h) (Bel.drew u1) ?_
          have hst := Bel.drew u1
          have inst : Nonempty (Of (Bel u1)) := ⟨⟨_, hst⟩⟩
          have q0 := bel_cell c0
          have q1 := bel_cell c1
          have q2 := bel_cell c2
          have q3 := bel_cell c3
          have q4 := bel_cell c4
          have q5 := bel_cell c5
          have q6 := bel_cell c6
          have q7 := bel_cell c7
          generalize u1.drew = V1 at *
          iterate 6 (refine line_read rfl (by kernel_rfl) (fun K hK => ?_); go_big_quiet_op; refine hK _ ?_; clear hK K)
          refine line_alone rfl (by kernel_rfl) (fun K hK => ?_)
          refine call_wp (args := #[P5 r.p]) rfl (by kernel_rfl) (by kernel_rfl) (S _ (L1.on hst.out)) (fun wn hbn => ?_)
          have hst2 := hst.on hbn
          refine hK _ _ hst2 ?_
          clear hK K hst hbn
          have hst := hst2
          clear hst2
          simp only [Act.put, List.setIfInBounds_toArray, List.set_cons_zero, List.set_cons_succ]
          refine line_alone rfl (by kernel_rfl) (fun K hK => ?_)
          refine call_wp (args := #[.int .i64 r.b, .int .i64 x, I2 r.x r.y]) rfl (by kernel_rfl) (by kernel_rfl) (C _ (L1.on hst.out)) (fun wn hbn => ?_)
          have hst2 := hst.on hbn
          refine hK _ _ hst2 ?_
          clear hK K hst hbn
          have hst := hst2
          clear hst2
          simp only [Act.put, List.setIfInBounds_toArray, List.set_cons_zero, List.set_cons_succ]
          iterate 1 (refine line_read rfl (by kernel_rfl) (fun K hK => ?_); go_big_quiet_op; refine hK _ ?_; clear hK K)
          refine line_nil ?_
          have hb := btr B1 hst.out
          clear hst inst q0 q1 q2 q3 q4 q5 q6 q7 c0 c1 c2 c3 c4 c5 c6 c7 A1 B1 L1 S C
          go_wp2_with fail
          go_ret
          exact Err8.mis (by decide) hb
        · rw [chk_yes h1 h2 (.inr W4.out) hu hc]
          rw [hc] at C
          generalize rsum r.p = x at *
          clear h1 h2 hu hc
          go_enter Tryz.func99, Tryz.ntmps99
          go_wp2_with fail
          generalize (w.alloc (.cells #[.string r.p.n, .int .i64 r.p.a, .int .i64 r.p.b, .int .i64 r.p.e, .int .i64 r.p.u, .int .i64 r.b, .int .i64 r.x, .int .i64 r.y] 95)).alloc (.cells #[.string o.n, .int .i64 o.a, .int .i64 o.b, .int .i64 o.e, .int .i64 o.u] 25) = W0 at *
          refine (L _).mono ?_
          rintro e u1 ⟨rfl, b1⟩
          have A1 := A0.on b1
          have B1 := btr b0 b1
          have L1 := lab0.on b1
          clear A0 b0 b1 L lab0
          have c0 := A1.cell 0 _ rfl
          have c1 := A1.cell 1 _ rfl
          have c2 := A1.cell 2 _ rfl
          have c3 := A1.cell 3 _ rfl
          have c4 := A1.cell 4 _ rfl
          have c5 := A1.cell 5 _ rfl
          have c6 := A1.cell 6 _ rfl
          have c7 := A1.cell 7 _ rfl
          go_wp2_with fail
          refine wp_region_line (Bel u1) [(0, true), (1, true), (2, true), (3, true), (5, true), (6, true), (4, false), (7, false), (8, true)] (by kernel_rfl) (by kernel_rfl) (fun _ _ d _ _ h => by cases d <;> exact h) (Bel.drew u1) ?_
          have hst := Bel.drew u1
          have inst : Nonempty (Of (Bel u1)) := ⟨⟨_, hst⟩⟩
          have q0 := bel_cell c0
          have q1 := bel_cell c1
          have q2 := bel_cell c2
          have q3 := bel_cell c3
          have q4 := bel_cell c4
          have q5 := bel_cell c5
          have q6 := bel_cell c6
          have q7 := bel_cell c7
          generalize u1.drew = V1 at *
          iterate 6 (refine line_read rfl (by kernel_rfl) (fun K hK => ?_); go_big_quiet_op; refine hK _ ?_; clear hK K)
          refine line_alone rfl (by kernel_rfl) (fun K hK => ?_)
          refine call_wp (args := #[P5 r.p]) rfl (by kernel_rfl) (by kernel_rfl) (S _ (L1.on hst.out)) (fun wn hbn => ?_)
          have hst2 := hst.on hbn
          refine hK _ _ hst2 ?_
          clear hK K hst hbn
          have hst := hst2
          clear hst2
          simp only [Act.put, List.setIfInBounds_toArray, List.set_cons_zero, List.set_cons_succ]
          refine line_alone rfl (by kernel_rfl) (fun K hK => ?_)
          refine call_wp (args := #[.int .i64 r.b, .int .i64 x, I2 r.x r.y]) rfl (by kernel_rfl) (by kernel_rfl) (C _ (L1.on hst.out)) (fun wn hbn => ?_)
          have hst2 := hst.on hbn
          refine hK _ _ hst2 ?_
          clear hK K hst hbn
          have hst := hst2
          clear hst2
          simp only [Act.put, List.setIfInBounds_toArray, List.set_cons_zero, List.set_cons_succ]
          iterate 1 (refine line_read rfl (by kernel_rfl) (fun K hK => ?_); go_big_quiet_op; refine hK _ ?_; clear hK K)
          refine line_nil ?_
          have hb := btr B1 hst.out
          clear hst inst q0 q1 q2 q3 q4 q5 q6 q7 c0 c1 c2 c3 c4 c5 c6 c7 A1 B1 L1 S C
          go_wp2_with fail
          go_ret
          exact Err8.nil hb
      · rw [chk_old h1 h2 (.inr W4.out) hu]
        rw [decide_eq_false hu] at L
        clear h1 h2 hu S C
        go_enter Tryz.func99, Tryz.ntmps99
        go_wp2_with fail
        generalize (w.alloc (.cells #[.string r.p.n, .int .i64 r.p.a, .int .i64 r.p.b, .int .i64 r.p.e, .int .i64 r.p.u, .int .i64 r.b, .int .i64 r.x, .int .i64 r.y] 95)).alloc (.cells #[.string o.n, .int .i64 o.a, .int .i64 o.b, .int .i64 o.e, .int .i64 o.u] 25) = W0 at *
        refine (L _).mono ?_
        rintro e u1 ⟨rfl, b1⟩
        have A1 := A0.on b1
        have B1 := btr b0 b1
        have L1 := lab0.on b1
        clear A0 b0 b1 L lab0
        go_wp2_with fail
        go_ret
        exact Err8.mis (by decide) B1
    · have E4 : (r.b == o.b) = false := by simpa using h4
      have N4 : (r.b != o.b) = true := by simp [h4]
      rw [chk_by h1 h2 h3 h4]
      clear h1 h2 h3 h4 L S C
      go_enter Tryz.func99, Tryz.ntmps99
      go_wp2_with fail
      go_ret
      exact Err8.mis (by decide) b0
set_option maxHeartbeats 1000000 in
theorem checkReason_any (o : PinD) (r : RollD) (t : Int) (w : World) (lab : Labels w) (hn : o.n.size ≤ maxLen) (hm : r.p.n.size ≤ maxLen) :
    Calls Tryz.prog 52 #[P5 o, R8 r, .int .i64 t] w (Err8 (checkF o r t) w) := by
  have b0 := bal (bal (Below.refl _ w) (.cells #[.string o.n, .int .i64 o.a, .int .i64 o.b, .int .i64 o.e, .int .i64 o.u] 25)) (.cells #[.string r.p.n, .int .i64 r.p.a, .int .i64 r.p.b, .int .i64 r.p.e, .int .i64 r.p.u, .int .i64 r.b, .int .i64 r.x, .int .i64 r.y] 29)
  have A0 : At w.heap.size o.vals ((w.alloc (.cells #[.string o.n, .int .i64 o.a, .int .i64 o.b, .int .i64 o.e, .int .i64 o.u] 25)).alloc (.cells #[.string r.p.n, .int .i64 r.p.a, .int .i64 r.p.b, .int .i64 r.p.e, .int .i64 r.p.u, .int .i64 r.b, .int .i64 r.x, .int .i64 r.y] 29)) := (At.new w o.vals 25).alloc _
  have Q0 : At (w.heap.size + 1) r.vals ((w.alloc (.cells #[.string o.n, .int .i64 o.a, .int .i64 o.b, .int .i64 o.e, .int .i64 o.u] 25)).alloc (.cells #[.string r.p.n, .int .i64 r.p.a, .int .i64 r.p.b, .int .i64 r.p.e, .int .i64 r.p.u, .int .i64 r.b, .int .i64 r.x, .int .i64 r.y] 29)) := At.newN (w := w.alloc (.cells #[.string o.n, .int .i64 o.a, .int .i64 o.b, .int .i64 o.e, .int .i64 o.u] 25)) r.vals 29 (by simp)
  have lab0 := lab.on b0
  clear lab
  by_cases h0 : o.f = 0
  · have F := fun w => pinReason_no o w hn h0
    by_cases h1 : r.f = 0
    · have G := fun w => rolloverOf_yes r w hm h1
      cases ht : timB t
      · rw [checkF_time h0 h1 ht]
        clear h0 h1
        go_enter Tryz.func52, Tryz.ntmps52
        go_wp2_with fail
        generalize (w.alloc (.cells #[.string o.n, .int .i64 o.a, .int .i64 o.b, .int .i64 o.e, .int .i64 o.u] 25)).alloc (.cells #[.string r.p.n, .int .i64 r.p.a, .int .i64 r.p.b, .int .i64 r.p.e, .int .i64 r.p.u, .int .i64 r.b, .int .i64 r.x, .int .i64 r.y] 29) = W0 at *
        refine (F _).mono ?_
        rintro e u1 ⟨rfl, b1⟩
        have A1 := A0.on b1
        have Q1 := Q0.on b1
        have B1 := btr b0 b1
        have L1 := lab0.on b1
        clear A0 Q0 b0 b1 F lab0
        have d0 := Q1.cell 0 _ rfl
        have d1 := Q1.cell 1 _ rfl
        have d2 := Q1.cell 2 _ rfl
        have d3 := Q1.cell 3 _ rfl
        have d4 := Q1.cell 4 _ rfl
        have d5 := Q1.cell 5 _ rfl
        have d6 := Q1.cell 6 _ rfl
        have d7 := Q1.cell 7 _ rfl
        go_wp2_with fail
        refine (G _).mono ?_
        rintro e u2 ⟨rfl, b2⟩
        have A2 := (A1.on b2).alloc (.cells #[.string r.p.n, .int .i64 r.p.a, .int .i64 r.p.b, .int .i64 r.p.e, .int .i64 r.p.u, .int .i64 r.b, .int .i64 r.x, .int .i64 r.y] 95)
        have X2 : At u2.heap.size r.vals (u2.alloc (.cells #[.string r.p.n, .int .i64 r.p.a, .int .i64 r.p.b, .int .i64 r.p.e, .int .i64 r.p.u, .int .i64 r.b, .int .i64 r.x, .int .i64 r.y] 95)) := At.new u2 r.vals 95
        have B2 := bal (btr B1 b2) (.cells #[.string r.p.n, .int .i64 r.p.a, .int .i64 r.p.b, .int .i64 r.p.e, .int .i64 r.p.u, .int .i64 r.b, .int .i64 r.x, .int .i64 r.y] 95)
        have L2 := (L1.on b2).on (bal (Below.refl _ _) (.cells #[.string r.p.n, .int .i64 r.p.a, .int .i64 r.p.b, .int .i64 r.p.e, .int .i64 r.p.u, .int .i64 r.b, .int .i64 r.x, .int .i64 r.y] 95))
        clear A1 Q1 B1 b2 G L1 d0 d1 d2 d3 d4 d5 d6 d7
        go_wp2_with fail
        generalize u2.alloc (.cells #[.string r.p.n, .int .i64 r.p.a, .int .i64 r.p.b, .int .i64 r.p.e, .int .i64 r.p.u, .int .i64 r.b, .int .i64 r.x, .int .i64 r.y] 95) = W2 at *
        refine (isTime_any _ _).mono ?_
        rintro e u3 ⟨rfl, rfl⟩
        go_wp2_with fail
        go_ret
        exact Err8.mis (by decide) B2
      · rw [checkF_chk h0 h1 ht]
        have hrp := (rollF_zero h1).1
        by_cases g1 : r.p.nm = o.nm
        · by_cases g2 : r.p.e = o.e + 1
          · have K := fun w => nextReason_any r.p o w h0 0 (.inr (.inr ⟨g1, g2, rfl⟩))
            have Y := fun w lab => sayReason_any r o t w lab hn hm h0 hrp ht g1 g2
            generalize chk o r t = c at *
            clear h0 h1 hrp g1 g2
            go_enter Tryz.func52, Tryz.ntmps52
            go_wp2_with fail
            generalize (w.alloc (.cells #[.string o.n, .int .i64 o.a, .int .i64 o.b, .int .i64 o.e, .int .i64 o.u] 25)).alloc (.cells #[.string r.p.n, .int .i64 r.p.a, .int .i64 r.p.b, .int .i64 r.p.e, .int .i64 r.p.u, .int .i64 r.b, .int .i64 r.x, .int .i64 r.y] 29) = W0 at *
            refine (F _).mono ?_
            rintro e u1 ⟨rfl, b1⟩
            have A1 := A0.on b1
            have Q1 := Q0.on b1
            have B1 := btr b0 b1
            have L1 := lab0.on b1
            clear A0 Q0 b0 b1 F lab0
            have d0 := Q1.cell 0 _ rfl
            have d1 := Q1.cell 1 _ rfl
            have d2 := Q1.cell 2 _ rfl
            have d3 := Q1.cell 3 _ rfl
            have d4 := Q1.cell 4 _ rfl
            have d5 := Q1.cell 5 _ rfl
            have d6 := Q1.cell 6 _ rfl
            have d7 := Q1.cell 7 _ rfl
            go_wp2_with fail
            refine (G _).mono ?_
            rintro e u2 ⟨rfl, b2⟩
            have A2 := (A1.on b2).alloc (.cells #[.string r.p.n, .int .i64 r.p.a, .int .i64 r.p.b, .int .i64 r.p.e, .int .i64 r.p.u, .int .i64 r.b, .int .i64 r.x, .int .i64 r.y] 95)
            have X2 : At u2.heap.size r.vals (u2.alloc (.cells #[.string r.p.n, .int .i64 r.p.a, .int .i64 r.p.b, .int .i64 r.p.e, .int .i64 r.p.u, .int .i64 r.b, .int .i64 r.x, .int .i64 r.y] 95)) := At.new u2 r.vals 95
            have B2 := bal (btr B1 b2) (.cells #[.string r.p.n, .int .i64 r.p.a, .int .i64 r.p.b, .int .i64 r.p.e, .int .i64 r.p.u, .int .i64 r.b, .int .i64 r.x, .int .i64 r.y] 95)
            have L2 := (L1.on b2).on (bal (Below.refl _ _) (.cells #[.string r.p.n, .int .i64 r.p.a, .int .i64 r.p.b, .int .i64 r.p.e, .int .i64 r.p.u, .int .i64 r.b, .int .i64 r.x, .int .i64 r.y] 95))
            clear A1 Q1 B1 b2 G L1 d0 d1 d2 d3 d4 d5 d6 d7
            go_wp2_with fail
            generalize u2.alloc (.cells #[.string r.p.n, .int .i64 r.p.a, .int .i64 r.p.b, .int .i64 r.p.e, .int .i64 r.p.u, .int .i64 r.b, .int .i64 r.x, .int .i64 r.y] 95) = W2 at *
            generalize u2.heap.size = xb at *
            refine (isTime_any _ _).mono ?_
            rintro e u3 ⟨rfl, rfl⟩
            have a0 := A2.cell 0 _ rfl
            have a1 := A2.cell 1 _ rfl
            have a2 := A2.cell 2 _ rfl
            have a3 := A2.cell 3 _ rfl
            have a4 := A2.cell 4 _ rfl
            have x0 := X2.cell 0 _ rfl
            have x1 := X2.cell 1 _ rfl
            have x2 := X2.cell 2 _ rfl
            have x3 := X2.cell 3 _ rfl
            have x4 := X2.cell 4 _ rfl
            have x5 := X2.cell 5 _ rfl
            have x6 := X2.cell 6 _ rfl
            have x7 := X2.cell 7 _ rfl
            go_wp2_with fail
            refine (K _).mono ?_
            rintro e u4 ⟨hx, b4⟩
            have A4 := A2.on b4
            have X4 := X2.on b4
            have B4 := btr B2 b4
            have L4 := L2.on b4
            clear A2 X2 B2 L2 b4 K a0 a1 a2 a3 a4 x0 x1 x2 x3 x4 x5 x6 x7
            rcases hx with ⟨-, rfl⟩ | ⟨h, -⟩
            · have a0 := A4.cell 0 _ rfl
              have a1 := A4.cell 1 _ rfl
              have a2 := A4.cell 2 _ rfl
              have a3 := A4.cell 3 _ rfl
              have a4 := A4.cell 4 _ rfl
              have x0 := X4.cell 0 _ rfl
              have x1 := X4.cell 1 _ rfl
              have x2 := X4.cell 2 _ rfl
              have x3 := X4.cell 3 _ rfl
              have x4 := X4.cell 4 _ rfl
              have x5 := X4.cell 5 _ rfl
              have x6 := X4.cell 6 _ rfl
              have x7 := X4.cell 7 _ rfl
              go_wp2_with fail
              refine (Y _ L4).mono ?_
              rintro e u5 ⟨z, hz0, hz1, rfl, b5⟩
              have hb := btr B4 b5
              clear A4 X4 B4 L4 b5 Y a0 a1 a2 a3 a4 x0 x1 x2 x3 x4 x5 x6 x7
              go_wp2_with fail
              go_ret
              exact ⟨z, hz0, hz1, rfl, hb⟩
            · exact absurd rfl h
          · rw [chk_ep g1 g2]
            have K := fun w => nextReason_any r.p o w h0 11 (.inr (.inl ⟨g1, g2, rfl⟩))
            clear h0 h1 hrp g1 g2
            go_enter Tryz.func52, Tryz.ntmps52
            go_wp2_with fail
            generalize (w.alloc (.cells #[.string o.n, .int .i64 o.a, .int .i64 o.b, .int .i64 o.e, .int .i64 o.u] 25)).alloc (.cells #[.string r.p.n, .int .i64 r.p.a, .int .i64 r.p.b, .int .i64 r.p.e, .int .i64 r.p.u, .int .i64 r.b, .int .i64 r.x, .int .i64 r.y] 29) = W0 at *
            refine (F _).mono ?_
            rintro e u1 ⟨rfl, b1⟩
            have A1 := A0.on b1
            have Q1 := Q0.on b1
            have B1 := btr b0 b1
            have L1 := lab0.on b1
            clear A0 Q0 b0 b1 F lab0
            have d0 := Q1.cell 0 _ rfl
            have d1 := Q1.cell 1 _ rfl
            have d2 := Q1.cell 2 _ rfl
            have d3 := Q1.cell 3 _ rfl
            have d4 := Q1.cell 4 _ rfl
            have d5 := Q1.cell 5 _ rfl
            have d6 := Q1.cell 6 _ rfl
            have d7 := Q1.cell 7 _ rfl
            go_wp2_with fail
            refine (G _).mono ?_
            rintro e u2 ⟨rfl, b2⟩
            have A2 := (A1.on b2).alloc (.cells #[.string r.p.n, .int .i64 r.p.a, .int .i64 r.p.b, .int .i64 r.p.e, .int .i64 r.p.u, .int .i64 r.b, .int .i64 r.x, .int .i64 r.y] 95)
            have X2 : At u2.heap.size r.vals (u2.alloc (.cells #[.string r.p.n, .int .i64 r.p.a, .int .i64 r.p.b, .int .i64 r.p.e, .int .i64 r.p.u, .int .i64 r.b, .int .i64 r.x, .int .i64 r.y] 95)) := At.new u2 r.vals 95
            have B2 := bal (btr B1 b2) (.cells #[.string r.p.n, .int .i64 r.p.a, .int .i64 r.p.b, .int .i64 r.p.e, .int .i64 r.p.u, .int .i64 r.b, .int .i64 r.x, .int .i64 r.y] 95)
            have L2 := (L1.on b2).on (bal (Below.refl _ _) (.cells #[.string r.p.n, .int .i64 r.p.a, .int .i64 r.p.b, .int .i64 r.p.e, .int .i64 r.p.u, .int .i64 r.b, .int .i64 r.x, .int .i64 r.y] 95))
            clear A1 Q1 B1 b2 G L1 d0 d1 d2 d3 d4 d5 d6 d7
            go_wp2_with fail
            generalize u2.alloc (.cells #[.string r.p.n, .int .i64 r.p.a, .int .i64 r.p.b, .int .i64 r.p.e, .int .i64 r.p.u, .int .i64 r.b, .int .i64 r.x, .int .i64 r.y] 95) = W2 at *
            generalize u2.heap.size = xb at *
            refine (isTime_any _ _).mono ?_
            rintro e u3 ⟨rfl, rfl⟩
            have a0 := A2.cell 0 _ rfl
            have a1 := A2.cell 1 _ rfl
            have a2 := A2.cell 2 _ rfl
            have a3 := A2.cell 3 _ rfl
            have a4 := A2.cell 4 _ rfl
            have x0 := X2.cell 0 _ rfl
            have x1 := X2.cell 1 _ rfl
            have x2 := X2.cell 2 _ rfl
            have x3 := X2.cell 3 _ rfl
            have x4 := X2.cell 4 _ rfl
            have x5 := X2.cell 5 _ rfl
            have x6 := X2.cell 6 _ rfl
            have x7 := X2.cell 7 _ rfl
            go_wp2_with fail
            refine (K _).mono ?_
            rintro e u4 ⟨hx, b4⟩
            have A4 := A2.on b4
            have X4 := X2.on b4
            have B4 := btr B2 b4
            have L4 := L2.on b4
            clear A2 X2 B2 L2 b4 K a0 a1 a2 a3 a4 x0 x1 x2 x3 x4 x5 x6 x7
            rcases hx with ⟨h, -⟩ | ⟨-, s, rfl⟩
            · exact absurd h (by decide)
            · go_wp2_with fail
              go_ret
              exact Err8.ref (by decide) B4
        · rw [chk_name g1]
          have K := fun w => nextReason_any r.p o w h0 1 (.inl ⟨g1, rfl⟩)
          clear h0 h1 hrp g1
          go_enter Tryz.func52, Tryz.ntmps52
          go_wp2_with fail
          generalize (w.alloc (.cells #[.string o.n, .int .i64 o.a, .int .i64 o.b, .int .i64 o.e, .int .i64 o.u] 25)).alloc (.cells #[.string r.p.n, .int .i64 r.p.a, .int .i64 r.p.b, .int .i64 r.p.e, .int .i64 r.p.u, .int .i64 r.b, .int .i64 r.x, .int .i64 r.y] 29) = W0 at *
          refine (F _).mono ?_
          rintro e u1 ⟨rfl, b1⟩
          have A1 := A0.on b1
          have Q1 := Q0.on b1
          have B1 := btr b0 b1
          have L1 := lab0.on b1
          clear A0 Q0 b0 b1 F lab0
          have d0 := Q1.cell 0 _ rfl
          have d1 := Q1.cell 1 _ rfl
          have d2 := Q1.cell 2 _ rfl
          have d3 := Q1.cell 3 _ rfl
          have d4 := Q1.cell 4 _ rfl
          have d5 := Q1.cell 5 _ rfl
          have d6 := Q1.cell 6 _ rfl
          have d7 := Q1.cell 7 _ rfl
          go_wp2_with fail
          refine (G _).mono ?_
          rintro e u2 ⟨rfl, b2⟩
          have A2 := (A1.on b2).alloc (.cells #[.string r.p.n, .int .i64 r.p.a, .int .i64 r.p.b, .int .i64 r.p.e, .int .i64 r.p.u, .int .i64 r.b, .int .i64 r.x, .int .i64 r.y] 95)
          have X2 : At u2.heap.size r.vals (u2.alloc (.cells #[.string r.p.n, .int .i64 r.p.a, .int .i64 r.p.b, .int .i64 r.p.e, .int .i64 r.p.u, .int .i64 r.b, .int .i64 r.x, .int .i64 r.y] 95)) := At.new u2 r.vals 95
          have B2 := bal (btr B1 b2) (.cells #[.string r.p.n, .int .i64 r.p.a, .int .i64 r.p.b, .int .i64 r.p.e, .int .i64 r.p.u, .int .i64 r.b, .int .i64 r.x, .int .i64 r.y] 95)
          have L2 := (L1.on b2).on (bal (Below.refl _ _) (.cells #[.string r.p.n, .int .i64 r.p.a, .int .i64 r.p.b, .int .i64 r.p.e, .int .i64 r.p.u, .int .i64 r.b, .int .i64 r.x, .int .i64 r.y] 95))
          clear A1 Q1 B1 b2 G L1 d0 d1 d2 d3 d4 d5 d6 d7
          go_wp2_with fail
          generalize u2.alloc (.cells #[.string r.p.n, .int .i64 r.p.a, .int .i64 r.p.b, .int .i64 r.p.e, .int .i64 r.p.u, .int .i64 r.b, .int .i64 r.x, .int .i64 r.y] 95) = W2 at *
          generalize u2.heap.size = xb at *
          refine (isTime_any _ _).mono ?_
          rintro e u3 ⟨rfl, rfl⟩
          have a0 := A2.cell 0 _ rfl
          have a1 := A2.cell 1 _ rfl
          have a2 := A2.cell 2 _ rfl
          have a3 := A2.cell 3 _ rfl
          have a4 := A2.cell 4 _ rfl
          have x0 := X2.cell 0 _ rfl
          have x1 := X2.cell 1 _ rfl
          have x2 := X2.cell 2 _ rfl
          have x3 := X2.cell 3 _ rfl
          have x4 := X2.cell 4 _ rfl
          have x5 := X2.cell 5 _ rfl
          have x6 := X2.cell 6 _ rfl
          have x7 := X2.cell 7 _ rfl
          go_wp2_with fail
          refine (K _).mono ?_
          rintro e u4 ⟨hx, b4⟩
          have A4 := A2.on b4
          have X4 := X2.on b4
          have B4 := btr B2 b4
          have L4 := L2.on b4
          clear A2 X2 B2 L2 b4 K a0 a1 a2 a3 a4 x0 x1 x2 x3 x4 x5 x6 x7
          rcases hx with ⟨h, -⟩ | ⟨-, s, rfl⟩
          · exact absurd h (by decide)
          · go_wp2_with fail
            go_ret
            exact Err8.ref (by decide) B4
    · rw [checkF_roll h0 h1]
      have G := fun w => rolloverOf_no r w hm h1
      generalize r.f = c at *
      clear h0
      go_enter Tryz.func52, Tryz.ntmps52
      go_wp2_with fail
      generalize (w.alloc (.cells #[.string o.n, .int .i64 o.a, .int .i64 o.b, .int .i64 o.e, .int .i64 o.u] 25)).alloc (.cells #[.string r.p.n, .int .i64 r.p.a, .int .i64 r.p.b, .int .i64 r.p.e, .int .i64 r.p.u, .int .i64 r.b, .int .i64 r.x, .int .i64 r.y] 29) = W0 at *
      refine (F _).mono ?_
      rintro e u1 ⟨rfl, b1⟩
      have A1 := A0.on b1
      have Q1 := Q0.on b1
      have B1 := btr b0 b1
      have L1 := lab0.on b1
      clear A0 Q0 b0 b1 F lab0
      have d0 := Q1.cell 0 _ rfl
      have d1 := Q1.cell 1 _ rfl
      have d2 := Q1.cell 2 _ rfl
      have d3 := Q1.cell 3 _ rfl
      have d4 := Q1.cell 4 _ rfl
      have d5 := Q1.cell 5 _ rfl
      have d6 := Q1.cell 6 _ rfl
      have d7 := Q1.cell 7 _ rfl
      go_wp2_with fail
      refine (G _).mono ?_
      rintro e u2 ⟨z, hz, rfl, b2⟩
      have B2 := bal (btr B1 b2) (.cells #[.string { data := #[] }, .int .i64 0, .int .i64 0, .int .i64 0, .int .i64 0, .int .i64 0, .int .i64 0, .int .i64 0] 95)
      have ne := hz.all.neq
      have ng := hz.all.gneq
      clear A1 Q1 B1 b2 G L1 d0 d1 d2 d3 d4 d5 d6 d7
      go_wp2_with fail
      go_ret
      exact ⟨z, fun h => absurd h h1, fun _ => hz, rfl, B2⟩
  · rw [checkF_old h0]
    have F := fun w => pinReason_yes o w hn h0
    generalize o.f = c at *
    go_enter Tryz.func52, Tryz.ntmps52
    go_wp2_with fail
    generalize (w.alloc (.cells #[.string o.n, .int .i64 o.a, .int .i64 o.b, .int .i64 o.e, .int .i64 o.u] 25)).alloc (.cells #[.string r.p.n, .int .i64 r.p.a, .int .i64 r.p.b, .int .i64 r.p.e, .int .i64 r.p.u, .int .i64 r.b, .int .i64 r.x, .int .i64 r.y] 29) = W0 at *
    refine (F _).mono ?_
    rintro e u1 ⟨s, rfl, b1⟩
    have B1 := btr b0 b1
    clear A0 Q0 b0 b1 F lab0
    go_wp2_with fail
    go_ret
    exact Err8.ref h0 B1
theorem implCheckRoll_any (o : PinD) (r : RollD) (t : Int) (w : World) (lab : Labels w) (ert : ErrT w) (hn : o.n.size ≤ maxLen) (hm : r.p.n.size ≤ maxLen) :
    Calls Tryz.prog 11 #[P5 o, R8 r, .int .i64 t] w fun e w' => e = .returned (.int .i64 (checkF o r t)) ∧ Below w.heap.size w w' := by
  have b0 := bal (bal (Below.refl _ w) (.cells #[.string o.n, .int .i64 o.a, .int .i64 o.b, .int .i64 o.e, .int .i64 o.u] 25)) (.cells #[.string r.p.n, .int .i64 r.p.a, .int .i64 r.p.b, .int .i64 r.p.e, .int .i64 r.p.u, .int .i64 r.b, .int .i64 r.x, .int .i64 r.y] 29)
  have lab0 := lab.on b0
  have ert0 := ert.on b0
  have K := fun w lab => checkReason_any o r t w lab hn hm
  generalize checkF o r t = c at *
  go_enter Tryz.func11, Tryz.ntmps11
  go_wp2_with fail
  generalize (w.alloc (.cells #[.string o.n, .int .i64 o.a, .int .i64 o.b, .int .i64 o.e, .int .i64 o.u] 25)).alloc (.cells #[.string r.p.n, .int .i64 r.p.a, .int .i64 r.p.b, .int .i64 r.p.e, .int .i64 r.p.u, .int .i64 r.b, .int .i64 r.x, .int .i64 r.y] 29) = W0 at *
  refine (K _ lab0).mono ?_
  rintro e u1 ⟨z, hz0, hz1, rfl, b1⟩
  have B1 := btr b0 b1
  have E1 := ert0.on b1
  clear b0 b1 lab0 ert0 K
  by_cases hc : c = 0
  · obtain rfl := hz0 hc
    subst hc
    clear hz0 hz1
    go_wp2_with fail
    refine (codeOf_nil _).mono ?_
    rintro e u2 ⟨rfl, b2⟩
    have hb := btr B1 b2
    go_wp2_with fail
    go_ret
    exact ⟨rfl, hb⟩
  · have hz := hz1 hc
    clear hz0 hz1
    go_wp2_with fail
    refine (codeOf_err hz.all _ E1).mono ?_
    rintro e u2 ⟨rfl, b2⟩
    have hb := btr B1 b2
    go_wp2_with fail
    go_ret
    exact ⟨rfl, hb⟩
end Go.Proofs.YtmdknbgpddnplaaGreatDoor
