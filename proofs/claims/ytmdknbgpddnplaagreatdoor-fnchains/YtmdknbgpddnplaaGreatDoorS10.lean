/- Texts of this seat that several laws rest on, laid into one. Conditions: as each theorem states. -/
import Derived.Test.YtmdknbgpddnplaaGreatDoorS1
import Derived.Test.YtmdknbgpddnplaaGreatDoorS2
import Derived.Test.YtmdknbgpddnplaaGreatDoorS3
import Derived.Test.YtmdknbgpddnplaaGreatDoorS5
import Derived.Test.YtmdknbgpddnplaaGreatDoorS7
import Derived.Test.YtmdknbgpddnplaaGreatDoorS9
import Derived.KernelRfl
namespace Go.Proofs.YtmdknbgpddnplaaGreatDoor
open Go.RowKit
set_option maxRecDepth 100000
set_option linter.unusedVariables false

set_option maxHeartbeats 2000000 in
theorem specApplyRoll_any (a : Option Addr) (len cap B : Nat) (ps : List PinD) (r : RollD) (t : Int) (w : World) (hR : PRow w B a len cap ps) (hB : B ≤ w.heap.size) (hn : r.p.n.size ≤ maxLen) :
    Calls Tryz.prog 22 #[.slice a len cap, R8 r, .int .i64 t] w (PinsRes (applyC ps r t) (applyL ps r t) w) := by
  have hL := Lib.hid hR.length
  have hf := hR.fits
  have hm := hR.most
  unfold maxLen at hm
  have hN := Lib.hid hR.names
  have b0 := bal (bal (Below.refl _ w) (.cells #[.string r.p.n, .int .i64 r.p.a, .int .i64 r.p.b, .int .i64 r.p.e, .int .i64 r.p.u, .int .i64 r.b, .int .i64 r.x, .int .i64 r.y] 29)) (.cells #[.int .i64 0, .slice none 0 0] 37)
  have Q0 : At w.heap.size r.vals ((w.alloc (.cells #[.string r.p.n, .int .i64 r.p.a, .int .i64 r.p.b, .int .i64 r.p.e, .int .i64 r.p.u, .int .i64 r.b, .int .i64 r.x, .int .i64 r.y] 29)).alloc (.cells #[.int .i64 0, .slice none 0 0] 37)) := (At.new w r.vals 29).alloc _
  have Z0 : At (w.heap.size + 1) [.int .i64 0, .slice none 0 0] ((w.alloc (.cells #[.string r.p.n, .int .i64 r.p.a, .int .i64 r.p.b, .int .i64 r.p.e, .int .i64 r.p.u, .int .i64 r.b, .int .i64 r.x, .int .i64 r.y] 29)).alloc (.cells #[.int .i64 0, .slice none 0 0] 37)) := At.newN (w := w.alloc (.cells #[.string r.p.n, .int .i64 r.p.a, .int .i64 r.p.b, .int .i64 r.p.e, .int .i64 r.p.u, .int .i64 r.b, .int .i64 r.x, .int .i64 r.y] 29)) [.int .i64 0, .slice none 0 0] 37 (by simp)
  have F := l7Pins_any a len cap B ps _ (hR.below (b0.mono hB)) (Nat.le_trans hB b0.size)
  have G := fun g w A => l8Fault_any g r w A hn
  by_cases h0 : pinsF ps = 0
  case neg =>
    rw [(applyC_list h0).1, (applyC_list h0).2]
    generalize pinsF ps = c at *
    have q0 : (c == 0) = false := by simpa using h0
    clear hR
    go_enter Tryz.func22, Tryz.ntmps22
    go_wp2_with fail
    generalize (w.alloc (.cells #[.string r.p.n, .int .i64 r.p.a, .int .i64 r.p.b, .int .i64 r.p.e, .int .i64 r.p.u, .int .i64 r.b, .int .i64 r.x, .int .i64 r.y] 29)).alloc (.cells #[.int .i64 0, .slice none 0 0] 37) = W0 at *
    refine F.mono ?_
    rintro e u1 ⟨rfl, b1⟩
    have Q1 := Q0.on b1
    have Z1 := Z0.on b1
    have B1 := btr b0 b1
    clear Q0 Z0 b0 b1 F
    have z0 := Z1.cell 0 _ rfl
    have z1 := Z1.cell 1 _ rfl
    have h0 := Z1.free 0 _ rfl
    have h1 := Z1.free 1 _ rfl
    have HB := Lib.hid B1
    clear Z1 B1
    go_wp2_with fail
    refine bodyPost_ret (v := .agg #[.int .i64 c, .slice none 0 0]) (by simp [results, Tryz.results22, go_sem, z0, z1]) rfl ⟨none, 0, 0, rfl, OwnP.nil _ _, ?_⟩
    exact (by (iterate 2 (refine bset ?_ (by dsimp only; omega) _)); exact HB.out)
  rw [h0] at F
  by_cases h1 : r.f = 0
  case neg =>
    rw [(applyC_roll h0 h1).1, (applyC_roll h0 h1).2]
    generalize r.f = c at *
    have q0 : (c == 0) = false := by simpa using h1
    clear hR
    go_enter Tryz.func22, Tryz.ntmps22
    go_wp2_with fail
    generalize (w.alloc (.cells #[.string r.p.n, .int .i64 r.p.a, .int .i64 r.p.b, .int .i64 r.p.e, .int .i64 r.p.u, .int .i64 r.b, .int .i64 r.x, .int .i64 r.y] 29)).alloc (.cells #[.int .i64 0, .slice none 0 0] 37) = W0 at *
    refine F.mono ?_
    rintro e u1 ⟨rfl, b1⟩
    have Q1 := Q0.on b1
    have Z1 := Z0.on b1
    have B1 := btr b0 b1
    clear Q0 Z0 b0 b1 F
    go_wp2_with fail
    refine (G _ _ Q1).mono ?_
    rintro e u2 ⟨rfl, b2⟩
    have Q2 := Q1.on b2
    have Z2 := Z1.on b2
    have B2 := btr B1 b2
    clear Q1 Z1 B1 b2 G
    have z0 := Z2.cell 0 _ rfl
    have z1 := Z2.cell 1 _ rfl
    have h0 := Z2.free 0 _ rfl
    have h1 := Z2.free 1 _ rfl
    have HB := Lib.hid B2
    clear Z2 B2
    go_wp2_with fail
    refine bodyPost_ret (v := .agg #[.int .i64 c, .slice none 0 0]) (by simp [results, Tryz.results22, go_sem, z0, z1]) rfl ⟨none, 0, 0, rfl, OwnP.nil _ _, ?_⟩
    exact (by (iterate 2 (refine bset ?_ (by dsimp only; omega) _)); exact HB.out)
  rw [h1] at G
  have AT := Lib.hid (fun (w1 : World) (h : Below w.heap.size w w1) => l7At_any a len cap B ps r.p.n w1 (hR.below (h.mono hB)) (Nat.le_trans hB h.size))
  rcases atI_spec ps r.p.n.data.toList 0 with ⟨hfn, hat⟩ | ⟨k, hk, hat, hfs⟩
  · have e := applyC_none (t := t) h0 h1 hfn
    rw [e.1, e.2]
    rw [hat] at AT
    clear e hR h0 h1 hfn hat
    go_enter Tryz.func22, Tryz.ntmps22
    go_wp2_with fail
    generalize (w.alloc (.cells #[.string r.p.n, .int .i64 r.p.a, .int .i64 r.p.b, .int .i64 r.p.e, .int .i64 r.p.u, .int .i64 r.b, .int .i64 r.x, .int .i64 r.y] 29)).alloc (.cells #[.int .i64 0, .slice none 0 0] 37) = W0 at *
    refine F.mono ?_
    rintro e u1 ⟨rfl, b1⟩
    have Q1 := Q0.on b1
    have Z1 := Z0.on b1
    have B1 := btr b0 b1
    clear Q0 Z0 b0 b1 F
    go_wp2_with fail
    refine (G _ _ Q1).mono ?_
    rintro e u2 ⟨rfl, b2⟩
    have Q2 := Q1.on b2
    have Z2 := Z1.on b2
    have B2 := btr B1 b2
    clear Q1 Z1 B1 b2 G
    have c0 := Q2.cell 0 _ rfl
    go_wp2_with fail
    refine (AT.out _ B2).mono ?_
    rintro e u3 ⟨rfl, b3⟩
    have Q3 := Q2.on b3
    have Z3 := Z2.on b3
    have B3 := btr B2 b3
    clear Q2 Z2 B2 b3 AT c0
    have z0 := Z3.cell 0 _ rfl
    have z1 := Z3.cell 1 _ rfl
    have h0 := Z3.free 0 _ rfl
    have h1 := Z3.free 1 _ rfl
    have HB := Lib.hid B3
    clear Z3 B3
    go_wp2_with fail
    refine bodyPost_ret (v := .agg #[.int .i64 4, .slice none 0 0]) (by simp [results, Tryz.results22, go_sem, z0, z1]) rfl ⟨none, 0, 0, rfl, OwnP.nil _ _, ?_⟩
    exact (by (iterate 2 (refine bset ?_ (by dsimp only; omega) _)); exact HB.out)
  · rw [hat] at AT
    have hkl : k < len := by rw [← hL.out]; exact hk
    have RW := Lib.hid (fun (w1 : World) (h : Below w.heap.size w w1) => (hR.below (h.mono hB)).at' hkl)
    have hqn := hR.name hkl
    have LP := Lib.hid (fun (w1 : World) (h : Below w.heap.size w w1) => l7Put_any a len cap B ps r.p w1 (hR.below (h.mono hB)) (Nat.le_trans hB h.size) (by have := (pinsF_zero h0).1; have := hL.out; omega))
    have hrp := (rollF_zero h1).1
    by_cases h2 : checkF (ps[k]?.getD pin0) r t = 0
    · have e := applyC_put (t := t) h0 h1 hfs h2
      rw [e.1, e.2, (put0_code h0 hrp).1, (put0_code h0 hrp).2]
      have CK := fun w => specCheckRoll_any (ps[k]?.getD pin0) r t w hqn hn
      rw [h2] at CK
      clear e hR h0 h1 hat hfs h2 hrp
      generalize hq : ps[k]?.getD pin0 = q at *
      go_enter Tryz.func22, Tryz.ntmps22
      go_wp2_with fail
      generalize (w.alloc (.cells #[.string r.p.n, .int .i64 r.p.a, .int .i64 r.p.b, .int .i64 r.p.e, .int .i64 r.p.u, .int .i64 r.b, .int .i64 r.x, .int .i64 r.y] 29)).alloc (.cells #[.int .i64 0, .slice none 0 0] 37) = W0 at *
      refine F.mono ?_
      rintro e u1 ⟨rfl, b1⟩
      have Q1 := Q0.on b1
      have Z1 := Z0.on b1
      have B1 := btr b0 b1
      clear Q0 Z0 b0 b1 F
      go_wp2_with fail
      refine (G _ _ Q1).mono ?_
      rintro e u2 ⟨rfl, b2⟩
      have Q2 := Q1.on b2
      have Z2 := Z1.on b2
      have B2 := btr B1 b2
      clear Q1 Z1 B1 b2 G
      have c0 := Q2.cell 0 _ rfl
      go_wp2_with fail
      refine (AT.out _ B2).mono ?_
      rintro e u3 ⟨rfl, b3⟩
      have Q3 := Q2.on b3
      have Z3 := Z2.on b3
      have B3 := btr B2 b3
      clear Q2 Z2 B2 b3 AT c0
      have hka : ((0 : Int) + (k : Nat)) = k := by omega
      obtain ⟨b, off, hab, hbB, c0, c1, c2, c3, c4⟩ := RW.out _ B3
      have HK1 := Lib.hid hq
      clear hq
      subst hab
      have d0 := Q3.cell 0 _ rfl
      have d1 := Q3.cell 1 _ rfl
      have d2 := Q3.cell 2 _ rfl
      have d3 := Q3.cell 3 _ rfl
      have d4 := Q3.cell 4 _ rfl
      have d5 := Q3.cell 5 _ rfl
      have d6 := Q3.cell 6 _ rfl
      have d7 := Q3.cell 7 _ rfl
      go_wp2_with fail
      refine wp_region_line (Bel u3) [(0, true), (1, true), (2, true), (3, true), (4, true), (5, true), (6, false), (7, true)] (by kernel_rfl) (by kernel_rfl) (fun _ _ d _ _ h => by cases d <;> exact h) (Bel.drew u3) ?_
      have hst := Bel.drew u3
      have inst : Nonempty (Of (Bel u3)) := ⟨⟨_, hst⟩⟩
      have q0 := bel_cell c0
      have q1 := bel_cell c1
      have q2 := bel_cell c2
      have q3 := bel_cell c3
      have q4 := bel_cell c4
      have y0 := bel_cell d0
      have y1 := bel_cell d1
      have y2 := bel_cell d2
      have y3 := bel_cell d3
      have y4 := bel_cell d4
      have y5 := bel_cell d5
      have y6 := bel_cell d6
      have y7 := bel_cell d7
      iterate 6 (refine line_read rfl (by kernel_rfl) (fun K hK => ?_); go_big_quiet_op; refine hK _ ?_; clear hK K)
      refine line_alone rfl (by kernel_rfl) (fun K hK => ?_)
      refine call_wp (args := #[P5 q, R8 r, .int .i64 t]) rfl (by kernel_rfl) (by kernel_rfl) (CK _) (fun wn hbn => ?_)
      have hst2 := hst.on hbn
      refine hK _ _ hst2 ?_
      clear hK K hst hbn
      have hst := hst2
      clear hst2
      simp only [Act.put, List.setIfInBounds_toArray, List.set_cons_zero, List.set_cons_succ]
      iterate 1 (refine line_read rfl (by kernel_rfl) (fun K hK => ?_); go_big_quiet_op; refine hK _ ?_; clear hK K)
      refine line_nil ?_
      have B4 := btr B3 hst.out
      have Q4 := Q3.on hst.out
      have Z4 := Z3.on hst.out
      clear hst inst q0 q1 q2 q3 q4 y0 y1 y2 y3 y4 y5 y6 y7 c0 c1 c2 c3 c4 d0 d1 d2 d3 d4 d5 d6 d7 Q3 Z3 B3 CK
      have d0 := Q4.cell 0 _ rfl
      have d1 := Q4.cell 1 _ rfl
      have d2 := Q4.cell 2 _ rfl
      have d3 := Q4.cell 3 _ rfl
      have d4 := Q4.cell 4 _ rfl
      go_wp2_with fail
      refine (LP.out _ B4).mono ?_
      rintro e u5 ⟨a5, n5, c5, rfl, O5, b5⟩
      generalize put0 ps r.p = pc at *
      generalize put1 ps r.p = zs at *
      have lt5 := Z4.lt (by simp)
      have Z5 := Z4.on b5
      have B5 := btr B4 b5
      have HO := Lib.hid O5
      clear Q4 Z4 B4 b5 LP O5 d0 d1 d2 d3 d4
      have z0 := Z5.cell 0 _ rfl
      have z1 := Z5.cell 1 _ rfl
      have h0 := Z5.free 0 _ rfl
      have h1 := Z5.free 1 _ rfl
      have HB := Lib.hid B5
      clear Z5 B5
      go_wp2_with fail
      refine bodyPost_ret (v := .agg #[.int .i64 pc, .slice a5 n5 c5]) (by simp [results, Tryz.results22, go_sem, z0, z1]) rfl ⟨a5, n5, c5, rfl, ?_, (by (iterate 2 (refine bset ?_ (by dsimp only; omega) _)); exact HB.out)⟩
      have hlt := Own.lt HO.out
      refine Own.setCell (Own.setCell (HO.out.less (by omega)) (fun k hk e => ?_) _) (fun k hk e => ?_) _
      · have := (hlt k hk).1; dsimp only at e; omega
      · have := (hlt k hk).1; dsimp only at e; omega
    · have e := applyC_check (t := t) h0 h1 hfs h2
      rw [e.1, e.2]
      have CK := fun w => specCheckRoll_any (ps[k]?.getD pin0) r t w hqn hn
      generalize checkF (ps[k]?.getD pin0) r t = c at *
      have n0 : (c == 0) = false := by simpa using h2
      clear e hR h0 h1 hat hfs hrp LP
      generalize hq : ps[k]?.getD pin0 = q at *
      go_enter Tryz.func22, Tryz.ntmps22
      go_wp2_with fail
      generalize (w.alloc (.cells #[.string r.p.n, .int .i64 r.p.a, .int .i64 r.p.b, .int .i64 r.p.e, .int .i64 r.p.u, .int .i64 r.b, .int .i64 r.x, .int .i64 r.y] 29)).alloc (.cells #[.int .i64 0, .slice none 0 0] 37) = W0 at *
      refine F.mono ?_
      rintro e u1 ⟨rfl, b1⟩
      have Q1 := Q0.on b1
      have Z1 := Z0.on b1
      have B1 := btr b0 b1
      clear Q0 Z0 b0 b1 F
      go_wp2_with fail
      refine (G _ _ Q1).mono ?_
      rintro e u2 ⟨rfl, b2⟩
      have Q2 := Q1.on b2
      have Z2 := Z1.on b2
      have B2 := btr B1 b2
      clear Q1 Z1 B1 b2 G
      have c0 := Q2.cell 0 _ rfl
      go_wp2_with fail
      refine (AT.out _ B2).mono ?_
      rintro e u3 ⟨rfl, b3⟩
      have Q3 := Q2.on b3
      have Z3 := Z2.on b3
      have B3 := btr B2 b3
      clear Q2 Z2 B2 b3 AT c0
      have hka : ((0 : Int) + (k : Nat)) = k := by omega
      obtain ⟨b, off, hab, hbB, c0, c1, c2, c3, c4⟩ := RW.out _ B3
      have HK1 := Lib.hid hq
      clear hq
      subst hab
      have d0 := Q3.cell 0 _ rfl
      have d1 := Q3.cell 1 _ rfl
      have d2 := Q3.cell 2 _ rfl
      have d3 := Q3.cell 3 _ rfl
      have d4 := Q3.cell 4 _ rfl
      have d5 := Q3.cell 5 _ rfl
      have d6 := Q3.cell 6 _ rfl
      have d7 := Q3.cell 7 _ rfl
      go_wp2_with fail
      refine wp_region_line (Bel u3) [(0, true), (1, true), (2, true), (3, true), (4, true), (5, true), (6, false), (7, true)] (by kernel_rfl) (by kernel_rfl) (fun _ _ d _ _ h => by cases d <;> exact h) (Bel.drew u3) ?_
      have hst := Bel.drew u3
      have inst : Nonempty (Of (Bel u3)) := ⟨⟨_, hst⟩⟩
      have q0 := bel_cell c0
      have q1 := bel_cell c1
      have q2 := bel_cell c2
      have q3 := bel_cell c3
      have q4 := bel_cell c4
      have y0 := bel_cell d0
      have y1 := bel_cell d1
      have y2 := bel_cell d2
      have y3 := bel_cell d3
      have y4 := bel_cell d4
      have y5 := bel_cell d5
      have y6 := bel_cell d6
      have y7 := bel_cell d7
      iterate 6 (refine line_read rfl (by kernel_rfl) (fun K hK => ?_); go_big_quiet_op; refine hK _ ?_; clear hK K)
      refine line_alone rfl (by kernel_rfl) (fun K hK => ?_)
      refine call_wp (args := #[P5 q, R8 r, .int .i64 t]) rfl (by kernel_rfl) (by kernel_rfl) (CK _) (fun wn hbn => ?_)
      have hst2 := hst.on hbn
      refine hK _ _ hst2 ?_
      clear hK K hst hbn
      have hst := hst2
      clear hst2
      simp only [Act.put, List.setIfInBounds_toArray, List.set_cons_zero, List.set_cons_succ]
      iterate 1 (refine line_read rfl (by kernel_rfl) (fun K hK => ?_); go_big_quiet_op; refine hK _ ?_; clear hK K)
      refine line_nil ?_
      have B4 := btr B3 hst.out
      have Q4 := Q3.on hst.out
      have Z4 := Z3.on hst.out
      clear hst inst q0 q1 q2 q3 q4 y0 y1 y2 y3 y4 y5 y6 y7 c0 c1 c2 c3 c4 d0 d1 d2 d3 d4 d5 d6 d7 Q3 Z3 B3 CK
      have z0 := Z4.cell 0 _ rfl
      have z1 := Z4.cell 1 _ rfl
      have h0 := Z4.free 0 _ rfl
      have h1 := Z4.free 1 _ rfl
      have HB := Lib.hid B4
      clear Z4 B4
      go_wp2_with fail
      refine bodyPost_ret (v := .agg #[.int .i64 c, .slice none 0 0]) (by simp [results, Tryz.results22, go_sem, z0, z1]) rfl ⟨none, 0, 0, rfl, OwnP.nil _ _, ?_⟩
      exact (by (iterate 2 (refine bset ?_ (by dsimp only; omega) _)); exact HB.out)

/-- The pin that was looked up, in a block of its own. -/
def Looked (W : World) (o : Option PinD) (v1 v2 : Value) (wx : World) : Prop := ∃ ob, v1 = .pointer (some ⟨ob, 0, none⟩) ∧ v2 = .bool o.isSome ∧ At ob (o.getD pin0).vals wx ∧ Below W.heap.size W wx
set_option maxHeartbeats 4000000 in
theorem implApplyRoll_any (a : Option Addr) (len cap B : Nat) (ps : List PinD) (r : RollD) (t : Int) (w : World) (lab : Labels w) (ert : ErrT w) (hR : PRow w B a len cap ps) (hB : B ≤ w.heap.size) (hn : r.p.n.size ≤ maxLen) :
    Calls Tryz.prog 13 #[.slice a len cap, R8 r, .int .i64 t] w (PinsRes (applyC ps r t) (applyL ps r t) w) := by
  have hL := Lib.hid hR.length
  have hf := hR.fits
  have hm := hR.most
  unfold maxLen at hm
  have hN := Lib.hid hR.names
  have b0 := bal (bal (Below.refl _ w) (.cells #[.string r.p.n, .int .i64 r.p.a, .int .i64 r.p.b, .int .i64 r.p.e, .int .i64 r.p.u, .int .i64 r.b, .int .i64 r.x, .int .i64 r.y] 29)) (.cells #[.int .i64 0, .slice none 0 0] 37)
  have Q0 : At w.heap.size r.vals ((w.alloc (.cells #[.string r.p.n, .int .i64 r.p.a, .int .i64 r.p.b, .int .i64 r.p.e, .int .i64 r.p.u, .int .i64 r.b, .int .i64 r.x, .int .i64 r.y] 29)).alloc (.cells #[.int .i64 0, .slice none 0 0] 37)) := (At.new w r.vals 29).alloc _
  have Z0 : At (w.heap.size + 1) [.int .i64 0, .slice none 0 0] ((w.alloc (.cells #[.string r.p.n, .int .i64 r.p.a, .int .i64 r.p.b, .int .i64 r.p.e, .int .i64 r.p.u, .int .i64 r.b, .int .i64 r.x, .int .i64 r.y] 29)).alloc (.cells #[.int .i64 0, .slice none 0 0] 37)) := At.newN (w := w.alloc (.cells #[.string r.p.n, .int .i64 r.p.a, .int .i64 r.p.b, .int .i64 r.p.e, .int .i64 r.p.u, .int .i64 r.b, .int .i64 r.x, .int .i64 r.y] 29)) [.int .i64 0, .slice none 0 0] 37 (by simp)
  have lab0 := lab.on b0
  have ert0 := ert.on b0
  clear lab ert
  have F := implPinsFault_any a len cap B ps _ (hR.below (b0.mono hB)) (Nat.le_trans hB b0.size)
  by_cases h0 : pinsF ps = 0
  case neg =>
    rw [(applyC_list h0).1, (applyC_list h0).2]
    generalize pinsF ps = c at *
    have q0 : (c == 0) = false := by simpa using h0
    clear hR
    go_enter Tryz.func13, Tryz.ntmps13
    go_wp2_with fail
    generalize (w.alloc (.cells #[.string r.p.n, .int .i64 r.p.a, .int .i64 r.p.b, .int .i64 r.p.e, .int .i64 r.p.u, .int .i64 r.b, .int .i64 r.x, .int .i64 r.y] 29)).alloc (.cells #[.int .i64 0, .slice none 0 0] 37) = W0 at *
    refine F.mono ?_
    rintro e u1 ⟨rfl, b1⟩
    have Q1 := Q0.on b1
    have Z1 := Z0.on b1
    have B1 := btr b0 b1
    have L1 := lab0.on b1
    have E1 := ert0.on b1
    clear Q0 Z0 b0 b1 F lab0 ert0
    have z0 := Z1.cell 0 _ rfl
    have z1 := Z1.cell 1 _ rfl
    have h0 := Z1.free 0 _ rfl
    have h1 := Z1.free 1 _ rfl
    have HB := Lib.hid B1
    clear Z1 B1
    go_wp2_with fail
    refine bodyPost_ret (v := .agg #[.int .i64 c, .slice none 0 0]) (by simp [results, Tryz.results13, go_sem, z0, z1]) rfl ⟨none, 0, 0, rfl, OwnP.nil _ _, ?_⟩
    exact (by (iterate 2 (refine bset ?_ (by dsimp only; omega) _)); exact HB.out)
  rw [h0] at F
  by_cases h1 : r.f = 0
  case neg =>
    rw [(applyC_roll h0 h1).1, (applyC_roll h0 h1).2]
    have G := fun w => rolloverOf_no r w hn h1
    generalize r.f = c at *
    clear hR
    go_enter Tryz.func13, Tryz.ntmps13
    go_wp2_with fail
    generalize (w.alloc (.cells #[.string r.p.n, .int .i64 r.p.a, .int .i64 r.p.b, .int .i64 r.p.e, .int .i64 r.p.u, .int .i64 r.b, .int .i64 r.x, .int .i64 r.y] 29)).alloc (.cells #[.int .i64 0, .slice none 0 0] 37) = W0 at *
    refine F.mono ?_
    rintro e u1 ⟨rfl, b1⟩
    have Q1 := Q0.on b1
    have Z1 := Z0.on b1
    have B1 := btr b0 b1
    have L1 := lab0.on b1
    have E1 := ert0.on b1
    clear Q0 Z0 b0 b1 F lab0 ert0
    have d0 := Q1.cell 0 _ rfl
    have d1 := Q1.cell 1 _ rfl
    have d2 := Q1.cell 2 _ rfl
    have d3 := Q1.cell 3 _ rfl
    have d4 := Q1.cell 4 _ rfl
    have d5 := Q1.cell 5 _ rfl
    have d6 := Q1.cell 6 _ rfl
    have d7 := Q1.cell 7 _ rfl
    go_wp2_with fail
    refine (G _).mono ?_
    rintro e u2 ⟨z, hz, rfl, b2⟩
    have ba := btr b2 (bal (Below.refl _ u2) (.cells #[.string { data := #[] }, .int .i64 0, .int .i64 0, .int .i64 0, .int .i64 0, .int .i64 0, .int .i64 0, .int .i64 0] 95))
    have Z2 := Z1.on ba
    have B2 := btr B1 ba
    have E2 := E1.on ba
    have ne := hz.all.neq
    have ng := hz.all.gneq
    clear Q1 Z1 B1 L1 E1 b2 ba G d0 d1 d2 d3 d4 d5 d6 d7
    go_wp2_with fail
    refine (codeOf_err hz.all _ E2).mono ?_
    rintro e u3 ⟨rfl, b3⟩
    have Z3 := Z2.on b3
    have B3 := btr B2 b3
    clear Z2 B2 E2 b3
    have z0 := Z3.cell 0 _ rfl
    have z1 := Z3.cell 1 _ rfl
    have h0 := Z3.free 0 _ rfl
    have h1 := Z3.free 1 _ rfl
    have HB := Lib.hid B3
    clear Z3 B3
    go_wp2_with fail
    refine bodyPost_ret (v := .agg #[.int .i64 c, .slice none 0 0]) (by simp [results, Tryz.results13, go_sem, z0, z1]) rfl ⟨none, 0, 0, rfl, OwnP.nil _ _, ?_⟩
    exact (by (iterate 2 (refine bset ?_ (by dsimp only; omega) _)); exact HB.out)
  have G := fun w => rolloverOf_yes r w hn h1
  obtain ⟨hl4, hgood, hrise⟩ := pinsF_zero h0
  have LK := Lib.hid (fun (w : World) (b : Nat) (h : PMap w b ps) => h.look (s := r.p.n) hn)
  have BN := Lib.hid (fun (w1 : World) (h : Below w.heap.size w w1) => pinsByName_any a len cap B ps w1 (hR.below (h.mono hB)) (Nat.le_trans hB h.size) (by have := hL.out; omega) hrise.apart)
  have PP := Lib.hid (fun (w1 : World) (h : Below w.heap.size w w1) => implPutPin_any a len cap B ps r.p w1 (hR.below (h.mono hB)) (Nat.le_trans hB h.size) hn)
  have hnames := hR.names
  clear hR hgood hrise hl4
  cases hfo : findP ps r.p.nm with
  | none =>
    have e := applyC_none (t := t) h0 h1 hfo
    rw [e.1, e.2]
    have hf2 : findP ps r.p.n.data.toList = none := hfo
    simp only [hf2, Option.getD_none, Option.isSome_none] at LK
    clear e h0 h1 hfo hf2 PP hnames
    generalize hfo : (none : Option PinD) = fo
    go_enter Tryz.func13, Tryz.ntmps13
    go_wp2_with fail
    generalize (w.alloc (.cells #[.string r.p.n, .int .i64 r.p.a, .int .i64 r.p.b, .int .i64 r.p.e, .int .i64 r.p.u, .int .i64 r.b, .int .i64 r.x, .int .i64 r.y] 29)).alloc (.cells #[.int .i64 0, .slice none 0 0] 37) = W0 at *
    refine F.mono ?_
    rintro e u1 ⟨rfl, b1⟩
    have Q1 := Q0.on b1
    have Z1 := Z0.on b1
    have B1 := btr b0 b1
    have L1 := lab0.on b1
    have E1 := ert0.on b1
    clear Q0 Z0 b0 b1 F lab0 ert0
    have d0 := Q1.cell 0 _ rfl
    have d1 := Q1.cell 1 _ rfl
    have d2 := Q1.cell 2 _ rfl
    have d3 := Q1.cell 3 _ rfl
    have d4 := Q1.cell 4 _ rfl
    have d5 := Q1.cell 5 _ rfl
    have d6 := Q1.cell 6 _ rfl
    have d7 := Q1.cell 7 _ rfl
    go_wp2_with fail
    refine (G _).mono ?_
    rintro e u2 ⟨rfl, b2⟩
    have ba := btr b2 (bal (Below.refl _ u2) (.cells #[.string r.p.n, .int .i64 r.p.a, .int .i64 r.p.b, .int .i64 r.p.e, .int .i64 r.p.u, .int .i64 r.b, .int .i64 r.x, .int .i64 r.y] 95))
    have Q2 := Q1.on ba
    have Z2 := Z1.on ba
    have X2 : At u2.heap.size r.vals (u2.alloc (.cells #[.string r.p.n, .int .i64 r.p.a, .int .i64 r.p.b, .int .i64 r.p.e, .int .i64 r.p.u, .int .i64 r.b, .int .i64 r.x, .int .i64 r.y] 95)) := At.new u2 r.vals 95
    have B2 := btr B1 ba
    have L2 := L1.on ba
    have E2 := E1.on ba
    clear Q1 Z1 B1 L1 E1 b2 ba G d0 d1 d2 d3 d4 d5 d6 d7
    have x0 := X2.cell 0 _ rfl
    go_upto_region 7 with fail
    generalize u2.alloc (.cells #[.string r.p.n, .int .i64 r.p.a, .int .i64 r.p.b, .int .i64 r.p.e, .int .i64 r.p.u, .int .i64 r.b, .int .i64 r.x, .int .i64 r.y] 95) = W2 at *
    generalize u2.heap.size = xb at *
    go_cut [10, 11] from 29 to 38 (fun v1 v2 wx => Looked W2 fo v1 v2 wx)
    case first =>
      refine wp_region_fork (Bel W2) (by kernel_rfl) (Bel.drew W2) ?_
      have hst : (Bel W2) _ := (Bel.drew W2)
      have inst : Nonempty (Of (Bel W2)) := ⟨⟨_, hst⟩⟩
      have y0 := bel_cell x0
      generalize W2.drew = V1 at *
      refine any_seg 8 [(0, true), (2, true), (3, true), (4, true)] (by kernel_rfl) (fun _ _ d _ _ h => by cases d <;> exact h) ?_
      iterate 4 (refine line_read rfl (by kernel_rfl) (fun K hK => ?_); go_big_quiet_op; refine hK _ ?_; clear hK K)
      refine line_nil ?_
      clear y0
      refine any_fork 1 9 (by kernel_rfl) rfl rfl (by kernel_rfl) (by kernel_rfl) (fun K hK => ?_) (fun K hK => ?_)
      · refine call_any (args := #[.slice a len cap]) rfl (by kernel_rfl) (by kernel_rfl) (BN.out _ (btr B2 hst.out)) ?_
        rintro e x1 ⟨rfl, M1, hbn⟩
        have hst2 := hst.on hbn
        refine ⟨_, rfl, hK _ _ hst2 ?_⟩
        clear hK K hst hbn
        have hst := hst2
        clear hst2
        simp only [Act.put, List.setIfInBounds_toArray, List.set_cons_zero, List.set_cons_succ]
        have lk := LK.out _ _ M1
        refine any_fork 5 9 (by kernel_rfl) rfl rfl (by kernel_rfl) (by kernel_rfl) (fun K hK => ?_) (fun K hK => ?_)
        · go_big_op
          refine hK _ _ hst ?_
          clear hK K lk M1
          refine any_rest [(6, true), (7, true), (8, true), (9, false), (10, false), (11, true)] (by kernel_rfl) (fun _ _ d _ _ h => by cases d <;> exact h) ?_
          iterate 3 (refine line_read rfl (by kernel_rfl) (fun K hK => ?_); go_big_quiet_op; refine hK _ ?_; clear hK K)
          refine line_alone rfl (by kernel_rfl) (fun K hK => ?_)
          go_big_op
          have hst2 := hst.on (bal (Below.refl _ x1) (.cells #[.string { data := #[] }, .int .i64 0, .int .i64 0, .int .i64 0, .int .i64 0] 25))
          have A : At x1.heap.size pin0.vals (x1.alloc (.cells #[.string { data := #[] }, .int .i64 0, .int .i64 0, .int .i64 0, .int .i64 0] 25)) := At.new x1 pin0.vals 25
          have leA : W2.heap.size ≤ x1.heap.size := hst.out.size
          refine hK _ _ hst2 ?_
          clear hK K hst
          have hst := hst2
          clear hst2
          generalize x1.alloc (.cells #[.string { data := #[] }, .int .i64 0, .int .i64 0, .int .i64 0, .int .i64 0] 25) = xa at *
          generalize x1.heap.size = ga at *
          have h0 := A.cell 0 _ rfl
          have h1 := A.cell 1 _ rfl
          have h2 := A.cell 2 _ rfl
          have h3 := A.cell 3 _ rfl
          have h4 := A.cell 4 _ rfl
          have f0 := A.free 0 _ rfl
          have f1 := A.free 1 _ rfl
          have f2 := A.free 2 _ rfl
          have f3 := A.free 3 _ rfl
          have f4 := A.free 4 _ rfl
          refine line_alone rfl (by kernel_rfl) (fun K hK => ?_)
          go_big_op
          refine hK _ _ (⟨(by (iterate 5 (refine bset ?_ (by dsimp only; omega) _)); exact hst.out)⟩) ?_
          clear hK K
          have A9 := ((((A.set 0 (.string pin0.n)).set 1 (.int .i64 pin0.a)).set 2 (.int .i64 pin0.b)).set 3 (.int .i64 pin0.e)).set 4 (.int .i64 pin0.u)
          iterate 1 (refine line_read rfl (by kernel_rfl) (fun K hK => ?_); go_big_quiet_op; refine hK _ ?_; clear hK K)
          refine line_nil ?_
          have HB9 := Lib.hid (show Below W2.heap.size W2 (((((xa.setCell ⟨ga, 0, none⟩ (.string pin0.n)).setCell ⟨ga, 1, none⟩ (.int .i64 pin0.a)).setCell ⟨ga, 2, none⟩ (.int .i64 pin0.b)).setCell ⟨ga, 3, none⟩ (.int .i64 pin0.e)).setCell ⟨ga, 4, none⟩ (.int .i64 pin0.u)) from (by (iterate 5 (refine bset ?_ (by dsimp only; omega) _)); exact hst.out))
          have HA9 := Lib.hid A9
          clear hst A A9
          go_wp2_with fail
          go_meet
          case rel =>
            subst hfo
            exact ⟨_, rfl, rfl, HA9.out, HB9.out⟩
        · go_big_op
          have hst2 := hst.on (bal (Below.refl _ x1) (.cells #[.string { data := #[] }, .int .i64 0, .int .i64 0, .int .i64 0, .int .i64 0] 25))
          have A : At x1.heap.size pin0.vals (x1.alloc (.cells #[.string { data := #[] }, .int .i64 0, .int .i64 0, .int .i64 0, .int .i64 0] 25)) := At.new x1 pin0.vals 25
          have leA : W2.heap.size ≤ x1.heap.size := hst.out.size
          refine hK _ _ hst2 ?_
          clear hK K hst
          have hst := hst2
          clear hst2
          have M2 := M1.on (bal (Below.refl _ x1) (.cells #[.string { data := #[] }, .int .i64 0, .int .i64 0, .int .i64 0, .int .i64 0] 25))
          have lk := LK.out _ _ M2
          clear M1 M2
          generalize x1.alloc (.cells #[.string { data := #[] }, .int .i64 0, .int .i64 0, .int .i64 0, .int .i64 0] 25) = xa at *
          generalize x1.heap.size = ga at *
          refine any_rest [(5, false), (6, true), (7, true), (8, true), (10, false), (11, true)] (by kernel_rfl) (fun _ _ d _ _ h => by cases d <;> exact h) ?_
          refine line_alone rfl (by kernel_rfl) (fun K hK => ?_)
          go_big_op
          refine hK _ _ hst ?_
          clear hK K lk
          iterate 3 (refine line_read rfl (by kernel_rfl) (fun K hK => ?_); go_big_quiet_op; refine hK _ ?_; clear hK K)
          have h0 := A.cell 0 _ rfl
          have h1 := A.cell 1 _ rfl
          have h2 := A.cell 2 _ rfl
          have h3 := A.cell 3 _ rfl
          have h4 := A.cell 4 _ rfl
          have f0 := A.free 0 _ rfl
          have f1 := A.free 1 _ rfl
          have f2 := A.free 2 _ rfl
          have f3 := A.free 3 _ rfl
          have f4 := A.free 4 _ rfl
          refine line_alone rfl (by kernel_rfl) (fun K hK => ?_)
          go_big_op
          refine hK _ _ (⟨(by (iterate 5 (refine bset ?_ (by dsimp only; omega) _)); exact hst.out)⟩) ?_
          clear hK K
          have A9 := ((((A.set 0 (.string pin0.n)).set 1 (.int .i64 pin0.a)).set 2 (.int .i64 pin0.b)).set 3 (.int .i64 pin0.e)).set 4 (.int .i64 pin0.u)
          iterate 1 (refine line_read rfl (by kernel_rfl) (fun K hK => ?_); go_big_quiet_op; refine hK _ ?_; clear hK K)
          refine line_nil ?_
          have HB9 := Lib.hid (show Below W2.heap.size W2 (((((xa.setCell ⟨ga, 0, none⟩ (.string pin0.n)).setCell ⟨ga, 1, none⟩ (.int .i64 pin0.a)).setCell ⟨ga, 2, none⟩ (.int .i64 pin0.b)).setCell ⟨ga, 3, none⟩ (.int .i64 pin0.e)).setCell ⟨ga, 4, none⟩ (.int .i64 pin0.u)) from (by (iterate 5 (refine bset ?_ (by dsimp only; omega) _)); exact hst.out))
          have HA9 := Lib.hid A9
          clear hst A A9
          go_wp2_with fail
          go_meet
          case rel =>
            subst hfo
            exact ⟨_, rfl, rfl, HA9.out, HB9.out⟩
      · go_big_op
        have hst2 := hst.on (bal (Below.refl _ V1) (.cells #[.string { data := #[] }, .int .i64 0, .int .i64 0, .int .i64 0, .int .i64 0] 25))
        have A : At V1.heap.size pin0.vals (V1.alloc (.cells #[.string { data := #[] }, .int .i64 0, .int .i64 0, .int .i64 0, .int .i64 0] 25)) := At.new V1 pin0.vals 25
        have leA : W2.heap.size ≤ V1.heap.size := hst.out.size
        refine hK _ _ hst2 ?_
        clear hK K hst
        have hst := hst2
        clear hst2
        generalize V1.alloc (.cells #[.string { data := #[] }, .int .i64 0, .int .i64 0, .int .i64 0, .int .i64 0] 25) = xa at *
        generalize V1.heap.size = ga at *
        refine any_rest [(1, false), (5, false), (6, true), (7, true), (8, true), (10, false), (11, true)] (by kernel_rfl) (fun _ _ d _ _ h => by cases d <;> exact h) ?_
        refine line_alone rfl (by kernel_rfl) (fun K hK => ?_)
        refine call_any (args := #[.slice a len cap]) rfl (by kernel_rfl) (by kernel_rfl) (BN.out _ (btr B2 hst.out)) ?_
        rintro e x1 ⟨rfl, M1, hbn⟩
        have hst2 := hst.on hbn
        have A2 := A.on hbn
        clear A
        have A := A2
        clear A2
        refine ⟨_, rfl, hK _ _ hst2 ?_⟩
        clear hK K hst hbn
        have hst := hst2
        clear hst2
        simp only [Act.put, List.setIfInBounds_toArray, List.set_cons_zero, List.set_cons_succ]
        have lk := LK.out _ _ M1
        refine line_alone rfl (by kernel_rfl) (fun K hK => ?_)
        go_big_op
        refine hK _ _ hst ?_
        clear hK K lk M1
        iterate 3 (refine line_read rfl (by kernel_rfl) (fun K hK => ?_); go_big_quiet_op; refine hK _ ?_; clear hK K)
        have h0 := A.cell 0 _ rfl
        have h1 := A.cell 1 _ rfl
        have h2 := A.cell 2 _ rfl
        have h3 := A.cell 3 _ rfl
        have h4 := A.cell 4 _ rfl
        have f0 := A.free 0 _ rfl
        have f1 := A.free 1 _ rfl
        have f2 := A.free 2 _ rfl
        have f3 := A.free 3 _ rfl
        have f4 := A.free 4 _ rfl
        refine line_alone rfl (by kernel_rfl) (fun K hK => ?_)
        go_big_op
        refine hK _ _ (⟨(by (iterate 5 (refine bset ?_ (by dsimp only; omega) _)); exact hst.out)⟩) ?_
        clear hK K
        have A9 := ((((A.set 0 (.string pin0.n)).set 1 (.int .i64 pin0.a)).set 2 (.int .i64 pin0.b)).set 3 (.int .i64 pin0.e)).set 4 (.int .i64 pin0.u)
        iterate 1 (refine line_read rfl (by kernel_rfl) (fun K hK => ?_); go_big_quiet_op; refine hK _ ?_; clear hK K)
        refine line_nil ?_
        have HB9 := Lib.hid (show Below W2.heap.size W2 (((((x1.setCell ⟨ga, 0, none⟩ (.string pin0.n)).setCell ⟨ga, 1, none⟩ (.int .i64 pin0.a)).setCell ⟨ga, 2, none⟩ (.int .i64 pin0.b)).setCell ⟨ga, 3, none⟩ (.int .i64 pin0.e)).setCell ⟨ga, 4, none⟩ (.int .i64 pin0.u)) from (by (iterate 5 (refine bset ?_ (by dsimp only; omega) _)); exact hst.out))
        have HA9 := Lib.hid A9
        clear hst A A9
        go_wp2_with fail
        go_meet
        case rel =>
          subst hfo
          exact ⟨_, rfl, rfl, HA9.out, HB9.out⟩
    case rest =>
      obtain ⟨ob, rfl, rfl, X3, f3⟩ := hcut
      subst hfo
      have Z3 := Z2.on f3
      have B3 := btr B2 f3
      clear Q2 Z2 X2 B2 L2 E2 f3 x0 X3
      have z0 := Z3.cell 0 _ rfl
      have z1 := Z3.cell 1 _ rfl
      have h0 := Z3.free 0 _ rfl
      have h1 := Z3.free 1 _ rfl
      have HB := Lib.hid B3
      clear Z3 B3
      go_wp2_with fail
      refine bodyPost_ret (v := .agg #[.int .i64 4, .slice none 0 0]) (by simp [results, Tryz.results13, go_sem, z0, z1]) rfl ⟨none, 0, 0, rfl, OwnP.nil _ _, ?_⟩
      exact (by (iterate 2 (refine bset ?_ (by dsimp only; omega) _)); exact HB.out)
  | some q =>
    have hf2 : findP ps r.p.n.data.toList = some q := hfo
    simp only [hf2, Option.getD_some, Option.isSome_some] at LK
    have hqn : q.n.size ≤ maxLen := hnames q (findP_mem hfo).1
    clear hnames hf2
    have CK := fun w lab => checkReason_any q r t w lab hqn hn
    by_cases h2 : checkF q r t = 0
    · have e := applyC_put (t := t) h0 h1 hfo h2
      rw [e.1, e.2]
      rw [h2] at CK
      clear e h0 h1 hfo h2
      generalize hfo : some q = fo
      go_enter Tryz.func13, Tryz.ntmps13
      go_wp2_with fail
      generalize (w.alloc (.cells #[.string r.p.n, .int .i64 r.p.a, .int .i64 r.p.b, .int .i64 r.p.e, .int .i64 r.p.u, .int .i64 r.b, .int .i64 r.x, .int .i64 r.y] 29)).alloc (.cells #[.int .i64 0, .slice none 0 0] 37) = W0 at *
      refine F.mono ?_
      rintro e u1 ⟨rfl, b1⟩
      have Q1 := Q0.on b1
      have Z1 := Z0.on b1
      have B1 := btr b0 b1
      have L1 := lab0.on b1
      have E1 := ert0.on b1
      clear Q0 Z0 b0 b1 F lab0 ert0
      have d0 := Q1.cell 0 _ rfl
      have d1 := Q1.cell 1 _ rfl
      have d2 := Q1.cell 2 _ rfl
      have d3 := Q1.cell 3 _ rfl
      have d4 := Q1.cell 4 _ rfl
      have d5 := Q1.cell 5 _ rfl
      have d6 := Q1.cell 6 _ rfl
      have d7 := Q1.cell 7 _ rfl
      go_wp2_with fail
      refine (G _).mono ?_
      rintro e u2 ⟨rfl, b2⟩
      have ba := btr b2 (bal (Below.refl _ u2) (.cells #[.string r.p.n, .int .i64 r.p.a, .int .i64 r.p.b, .int .i64 r.p.e, .int .i64 r.p.u, .int .i64 r.b, .int .i64 r.x, .int .i64 r.y] 95))
      have Q2 := Q1.on ba
      have Z2 := Z1.on ba
      have X2 : At u2.heap.size r.vals (u2.alloc (.cells #[.string r.p.n, .int .i64 r.p.a, .int .i64 r.p.b, .int .i64 r.p.e, .int .i64 r.p.u, .int .i64 r.b, .int .i64 r.x, .int .i64 r.y] 95)) := At.new u2 r.vals 95
      have B2 := btr B1 ba
      have L2 := L1.on ba
      have E2 := E1.on ba
      clear Q1 Z1 B1 L1 E1 b2 ba G d0 d1 d2 d3 d4 d5 d6 d7
      have x0 := X2.cell 0 _ rfl
      go_upto_region 7 with fail
      generalize u2.alloc (.cells #[.string r.p.n, .int .i64 r.p.a, .int .i64 r.p.b, .int .i64 r.p.e, .int .i64 r.p.u, .int .i64 r.b, .int .i64 r.x, .int .i64 r.y] 95) = W2 at *
      generalize u2.heap.size = xb at *
      go_cut [10, 11] from 29 to 38 (fun v1 v2 wx => Looked W2 fo v1 v2 wx)
      case first =>
        refine wp_region_fork (Bel W2) (by kernel_rfl) (Bel.drew W2) ?_
        have hst : (Bel W2) _ := (Bel.drew W2)
        have inst : Nonempty (Of (Bel W2)) := ⟨⟨_, hst⟩⟩
        have y0 := bel_cell x0
        generalize W2.drew = V1 at *
        refine any_seg 8 [(0, true), (2, true), (3, true), (4, true)] (by kernel_rfl) (fun _ _ d _ _ h => by cases d <;> exact h) ?_
        iterate 4 (refine line_read rfl (by kernel_rfl) (fun K hK => ?_); go_big_quiet_op; refine hK _ ?_; clear hK K)
        refine line_nil ?_
        clear y0
        refine any_fork 1 9 (by kernel_rfl) rfl rfl (by kernel_rfl) (by kernel_rfl) (fun K hK => ?_) (fun K hK => ?_)
        · refine call_any (args := #[.slice a len cap]) rfl (by kernel_rfl) (by kernel_rfl) (BN.out _ (btr B2 hst.out)) ?_
          rintro e x1 ⟨rfl, M1, hbn⟩
          have hst2 := hst.on hbn
          refine ⟨_, rfl, hK _ _ hst2 ?_⟩
          clear hK K hst hbn
          have hst := hst2
          clear hst2
          simp only [Act.put, List.setIfInBounds_toArray, List.set_cons_zero, List.set_cons_succ]
          have lk := LK.out _ _ M1
          refine any_fork 5 9 (by kernel_rfl) rfl rfl (by kernel_rfl) (by kernel_rfl) (fun K hK => ?_) (fun K hK => ?_)
          · go_big_op
            refine hK _ _ hst ?_
            clear hK K lk M1
            refine any_rest [(6, true), (7, true), (8, true), (9, false), (10, false), (11, true)] (by kernel_rfl) (fun _ _ d _ _ h => by cases d <;> exact h) ?_
            iterate 3 (refine line_read rfl (by kernel_rfl) (fun K hK => ?_); go_big_quiet_op; refine hK _ ?_; clear hK K)
            refine line_alone rfl (by kernel_rfl) (fun K hK => ?_)
            go_big_op
            have hst2 := hst.on (bal (Below.refl _ x1) (.cells #[.string { data := #[] }, .int .i64 0, .int .i64 0, .int .i64 0, .int .i64 0] 25))
            have A : At x1.heap.size pin0.vals (x1.alloc (.cells #[.string { data := #[] }, .int .i64 0, .int .i64 0, .int .i64 0, .int .i64 0] 25)) := At.new x1 pin0.vals 25
            have leA : W2.heap.size ≤ x1.heap.size := hst.out.size
            refine hK _ _ hst2 ?_
            clear hK K hst
            have hst := hst2
            clear hst2
            generalize x1.alloc (.cells #[.string { data := #[] }, .int .i64 0, .int .i64 0, .int .i64 0, .int .i64 0] 25) = xa at *
            generalize x1.heap.size = ga at *
            have h0 := A.cell 0 _ rfl
            have h1 := A.cell 1 _ rfl
            have h2 := A.cell 2 _ rfl
            have h3 := A.cell 3 _ rfl
            have h4 := A.cell 4 _ rfl
            have f0 := A.free 0 _ rfl
            have f1 := A.free 1 _ rfl
            have f2 := A.free 2 _ rfl
            have f3 := A.free 3 _ rfl
            have f4 := A.free 4 _ rfl
            refine line_alone rfl (by kernel_rfl) (fun K hK => ?_)
            go_big_op
            refine hK _ _ (⟨(by (iterate 5 (refine bset ?_ (by dsimp only; omega) _)); exact hst.out)⟩) ?_
            clear hK K
            have A9 := ((((A.set 0 (.string q.n)).set 1 (.int .i64 q.a)).set 2 (.int .i64 q.b)).set 3 (.int .i64 q.e)).set 4 (.int .i64 q.u)
            iterate 1 (refine line_read rfl (by kernel_rfl) (fun K hK => ?_); go_big_quiet_op; refine hK _ ?_; clear hK K)
            refine line_nil ?_
            have HB9 := Lib.hid (show Below W2.heap.size W2 (((((xa.setCell ⟨ga, 0, none⟩ (.string q.n)).setCell ⟨ga, 1, none⟩ (.int .i64 q.a)).setCell ⟨ga, 2, none⟩ (.int .i64 q.b)).setCell ⟨ga, 3, none⟩ (.int .i64 q.e)).setCell ⟨ga, 4, none⟩ (.int .i64 q.u)) from (by (iterate 5 (refine bset ?_ (by dsimp only; omega) _)); exact hst.out))
            have HA9 := Lib.hid A9
            clear hst A A9
            go_wp2_with fail
            go_meet
            case rel =>
              subst hfo
              exact ⟨_, rfl, rfl, HA9.out, HB9.out⟩
          · go_big_op
            have hst2 := hst.on (bal (Below.refl _ x1) (.cells #[.string { data := #[] }, .int .i64 0, .int .i64 0, .int .i64 0, .int .i64 0] 25))
            have A : At x1.heap.size pin0.vals (x1.alloc (.cells #[.string { data := #[] }, .int .i64 0, .int .i64 0, .int .i64 0, .int .i64 0] 25)) := At.new x1 pin0.vals 25
            have leA : W2.heap.size ≤ x1.heap.size := hst.out.size
            refine hK _ _ hst2 ?_
            clear hK K hst
            have hst := hst2
            clear hst2
            have M2 := M1.on (bal (Below.refl _ x1) (.cells #[.string { data := #[] }, .int .i64 0, .int .i64 0, .int .i64 0, .int .i64 0] 25))
            have lk := LK.out _ _ M2
            clear M1 M2
            generalize x1.alloc (.cells #[.string { data := #[] }, .int .i64 0, .int .i64 0, .int .i64 0, .int .i64 0] 25) = xa at *
            generalize x1.heap.size = ga at *
            refine any_rest [(5, false), (6, true), (7, true), (8, true), (10, false), (11, true)] (by kernel_rfl) (fun _ _ d _ _ h => by cases d <;> exact h) ?_
            refine line_alone rfl (by kernel_rfl) (fun K hK => ?_)
            go_big_op
            refine hK _ _ hst ?_
            clear hK K lk
            iterate 3 (refine line_read rfl (by kernel_rfl) (fun K hK => ?_); go_big_quiet_op; refine hK _ ?_; clear hK K)
            have h0 := A.cell 0 _ rfl
            have h1 := A.cell 1 _ rfl
            have h2 := A.cell 2 _ rfl
            have h3 := A.cell 3 _ rfl
            have h4 := A.cell 4 _ rfl
            have f0 := A.free 0 _ rfl
            have f1 := A.free 1 _ rfl
            have f2 := A.free 2 _ rfl
            have f3 := A.free 3 _ rfl
            have f4 := A.free 4 _ rfl
            refine line_alone rfl (by kernel_rfl) (fun K hK => ?_)
            go_big_op
            refine hK _ _ (⟨(by (iterate 5 (refine bset ?_ (by dsimp only; omega) _)); exact hst.out)⟩) ?_
            clear hK K
            have A9 := ((((A.set 0 (.string q.n)).set 1 (.int .i64 q.a)).set 2 (.int .i64 q.b)).set 3 (.int .i64 q.e)).set 4 (.int .i64 q.u)
            iterate 1 (refine line_read rfl (by kernel_rfl) (fun K hK => ?_); go_big_quiet_op; refine hK _ ?_; clear hK K)
            refine line_nil ?_
            have HB9 := Lib.hid (show Below W2.heap.size W2 (((((xa.setCell ⟨ga, 0, none⟩ (.string q.n)).setCell ⟨ga, 1, none⟩ (.int .i64 q.a)).setCell ⟨ga, 2, none⟩ (.int .i64 q.b)).setCell ⟨ga, 3, none⟩ (.int .i64 q.e)).setCell ⟨ga, 4, none⟩ (.int .i64 q.u)) from (by (iterate 5 (refine bset ?_ (by dsimp only; omega) _)); exact hst.out))
            have HA9 := Lib.hid A9
            clear hst A A9
            go_wp2_with fail
            go_meet
            case rel =>
              subst hfo
              exact ⟨_, rfl, rfl, HA9.out, HB9.out⟩
        · go_big_op
          have hst2 := hst.on (bal (Below.refl _ V1) (.cells #[.string { data := #[] }, .int .i64 0, .int .i64 0, .int .i64 0, .int .i64 0] 25))
          have A : At V1.heap.size pin0.vals (V1.alloc (.cells #[.string { data := #[] }, .int .i64 0, .int .i64 0, .int .i64 0, .int .i64 0] 25)) := At.new V1 pin0.vals 25
          have leA : W2.heap.size ≤ V1.heap.size := hst.out.size
          refine hK _ _ hst2 ?_
          clear hK K hst
          have hst := hst2
          clear hst2
          generalize V1.alloc (.cells #[.string { data := #[] }, .int .i64 0, .int .i64 0, .int .i64 0, .int .i64 0] 25) = xa at *
          generalize V1.heap.size = ga at *
          refine any_rest [(1, false), (5, false), (6, true), (7, true), (8, true), (10, false), (11, true)] (by kernel_rfl) (fun _ _ d _ _ h => by cases d <;> exact h) ?_
          refine line_alone rfl (by kernel_rfl) (fun K hK => ?_)
          refine call_any (args := #[.slice a len cap]) rfl (by kernel_rfl) (by kernel_rfl) (BN.out _ (btr B2 hst.out)) ?_
          rintro e x1 ⟨rfl, M1, hbn⟩
          have hst2 := hst.on hbn
          have A2 := A.on hbn
          clear A
          have A := A2
          clear A2
          refine ⟨_, rfl, hK _ _ hst2 ?_⟩
          clear hK K hst hbn
          have hst := hst2
          clear hst2
          simp only [Act.put, List.setIfInBounds_toArray, List.set_cons_zero, List.set_cons_succ]
          have lk := LK.out _ _ M1
          refine line_alone rfl (by kernel_rfl) (fun K hK => ?_)
          go_big_op
          refine hK _ _ hst ?_
          clear hK K lk M1
          iterate 3 (refine line_read rfl (by kernel_rfl) (fun K hK => ?_); go_big_quiet_op; refine hK _ ?_; clear hK K)
          have h0 := A.cell 0 _ rfl
          have h1 := A.cell 1 _ rfl
          have h2 := A.cell 2 _ rfl
          have h3 := A.cell 3 _ rfl
          have h4 := A.cell 4 _ rfl
          have f0 := A.free 0 _ rfl
          have f1 := A.free 1 _ rfl
          have f2 := A.free 2 _ rfl
          have f3 := A.free 3 _ rfl
          have f4 := A.free 4 _ rfl
          refine line_alone rfl (by kernel_rfl) (fun K hK => ?_)
          go_big_op
          refine hK _ _ (⟨(by (iterate 5 (refine bset ?_ (by dsimp only; omega) _)); exact hst.out)⟩) ?_
          clear hK K
          have A9 := ((((A.set 0 (.string q.n)).set 1 (.int .i64 q.a)).set 2 (.int .i64 q.b)).set 3 (.int .i64 q.e)).set 4 (.int .i64 q.u)
          iterate 1 (refine line_read rfl (by kernel_rfl) (fun K hK => ?_); go_big_quiet_op; refine hK _ ?_; clear hK K)
          refine line_nil ?_
          have HB9 := Lib.hid (show Below W2.heap.size W2 (((((x1.setCell ⟨ga, 0, none⟩ (.string q.n)).setCell ⟨ga, 1, none⟩ (.int .i64 q.a)).setCell ⟨ga, 2, none⟩ (.int .i64 q.b)).setCell ⟨ga, 3, none⟩ (.int .i64 q.e)).setCell ⟨ga, 4, none⟩ (.int .i64 q.u)) from (by (iterate 5 (refine bset ?_ (by dsimp only; omega) _)); exact hst.out))
          have HA9 := Lib.hid A9
          clear hst A A9
          go_wp2_with fail
          go_meet
          case rel =>
            subst hfo
            exact ⟨_, rfl, rfl, HA9.out, HB9.out⟩
      case rest =>
        obtain ⟨ob, rfl, rfl, X3', f3⟩ := hcut
        subst hfo
        have X3 : At ob q.vals _ := X3'
        have Q3 := Q2.on f3
        have Z3 := Z2.on f3
        have Y3 := X2.on f3
        have B3 := btr B2 f3
        have L3 := L2.on f3
        have E3 := E2.on f3
        clear Q2 Z2 X2 B2 L2 E2 f3 x0 X3'
        have d0 := Q3.cell 0 _ rfl
        have d1 := Q3.cell 1 _ rfl
        have d2 := Q3.cell 2 _ rfl
        have d3 := Q3.cell 3 _ rfl
        have d4 := Q3.cell 4 _ rfl
        have d5 := Q3.cell 5 _ rfl
        have d6 := Q3.cell 6 _ rfl
        have d7 := Q3.cell 7 _ rfl
        have c0 := X3.cell 0 _ rfl
        have c1 := X3.cell 1 _ rfl
        have c2 := X3.cell 2 _ rfl
        have c3 := X3.cell 3 _ rfl
        have c4 := X3.cell 4 _ rfl
        go_wp2_with fail
        refine (CK _ L3).mono ?_
        rintro e u4 ⟨z, hz0, hz1, rfl, b4⟩
        have Z4 := Z3.on b4
        have Y4 := Y3.on b4
        have B4 := btr B3 b4
        have E4 := E3.on b4
        clear Q3 Z3 X3 Y3 B3 L3 E3 b4 CK d0 d1 d2 d3 d4 d5 d6 d7 c0 c1 c2 c3 c4
        obtain rfl := hz0 rfl
        clear hz0 hz1
        have d0 := Y4.cell 0 _ rfl
        have d1 := Y4.cell 1 _ rfl
        have d2 := Y4.cell 2 _ rfl
        have d3 := Y4.cell 3 _ rfl
        have d4 := Y4.cell 4 _ rfl
        go_wp2_with fail
        refine (PP.out _ B4).mono ?_
        rintro e u5 ⟨a5, n5, c5, rfl, O5, b5⟩
        generalize putC ps r.p = pc at *
        generalize putR ps r.p = zs at *
        have lt5 := Z4.lt (by simp)
        have Z5 := Z4.on b5
        have B5 := btr B4 b5
        have HO := Lib.hid O5
        clear Y4 Z4 B4 E4 b5 PP O5 d0 d1 d2 d3 d4
        have z0 := Z5.cell 0 _ rfl
        have z1 := Z5.cell 1 _ rfl
        have h0 := Z5.free 0 _ rfl
        have h1 := Z5.free 1 _ rfl
        have HB := Lib.hid B5
        clear Z5 B5
        go_wp2_with fail
        refine bodyPost_ret (v := .agg #[.int .i64 pc, .slice a5 n5 c5]) (by simp [results, Tryz.results13, go_sem, z0, z1]) rfl ⟨a5, n5, c5, rfl, ?_, (by (iterate 2 (refine bset ?_ (by dsimp only; omega) _)); exact HB.out)⟩
        have hlt := Own.lt HO.out
        refine Own.setCell (Own.setCell (HO.out.less (by omega)) (fun k hk e => ?_) _) (fun k hk e => ?_) _
        · have := (hlt k hk).1; dsimp only at e; omega
        · have := (hlt k hk).1; dsimp only at e; omega
    · have e := applyC_check (t := t) h0 h1 hfo h2
      rw [e.1, e.2]
      generalize checkF q r t = c at *
      clear e h0 h1 hfo PP
      generalize hfo : some q = fo
      go_enter Tryz.func13, Tryz.ntmps13
      go_wp2_with fail
      generalize (w.alloc (.cells #[.string r.p.n, .int .i64 r.p.a, .int .i64 r.p.b, .int .i64 r.p.e, .int .i64 r.p.u, .int .i64 r.b, .int .i64 r.x, .int .i64 r.y] 29)).alloc (.cells #[.int .i64 0, .slice none 0 0] 37) = W0 at *
      refine F.mono ?_
      rintro e u1 ⟨rfl, b1⟩
      have Q1 := Q0.on b1
      have Z1 := Z0.on b1
      have B1 := btr b0 b1
      have L1 := lab0.on b1
      have E1 := ert0.on b1
      clear Q0 Z0 b0 b1 F lab0 ert0
      have d0 := Q1.cell 0 _ rfl
      have d1 := Q1.cell 1 _ rfl
      have d2 := Q1.cell 2 _ rfl
      have d3 := Q1.cell 3 _ rfl
      have d4 := Q1.cell 4 _ rfl
      have d5 := Q1.cell 5 _ rfl
      have d6 := Q1.cell 6 _ rfl
      have d7 := Q1.cell 7 _ rfl
      go_wp2_with fail
      refine (G _).mono ?_
      rintro e u2 ⟨rfl, b2⟩
      have ba := btr b2 (bal (Below.refl _ u2) (.cells #[.string r.p.n, .int .i64 r.p.a, .int .i64 r.p.b, .int .i64 r.p.e, .int .i64 r.p.u, .int .i64 r.b, .int .i64 r.x, .int .i64 r.y] 95))
      have Q2 := Q1.on ba
      have Z2 := Z1.on ba
      have X2 : At u2.heap.size r.vals (u2.alloc (.cells #[.string r.p.n, .int .i64 r.p.a, .int .i64 r.p.b, .int .i64 r.p.e, .int .i64 r.p.u, .int .i64 r.b, .int .i64 r.x, .int .i64 r.y] 95)) := At.new u2 r.vals 95
      have B2 := btr B1 ba
      have L2 := L1.on ba
      have E2 := E1.on ba
      clear Q1 Z1 B1 L1 E1 b2 ba G d0 d1 d2 d3 d4 d5 d6 d7
      have x0 := X2.cell 0 _ rfl
      go_upto_region 7 with fail
      generalize u2.alloc (.cells #[.string r.p.n, .int .i64 r.p.a, .int .i64 r.p.b, .int .i64 r.p.e, .int .i64 r.p.u, .int .i64 r.b, .int .i64 r.x, .int .i64 r.y] 95) = W2 at *
      generalize u2.heap.size = xb at *
      go_cut [10, 11] from 29 to 38 (fun v1 v2 wx => Looked W2 fo v1 v2 wx)
      case first =>
        refine wp_region_fork (Bel W2) (by kernel_rfl) (Bel.drew W2) ?_
        have hst : (Bel W2) _ := (Bel.drew W2)
        have inst : Nonempty (Of (Bel W2)) := ⟨⟨_, hst⟩⟩
        have y0 := bel_cell x0
        generalize W2.drew = V1 at *
        refine any_seg 8 [(0, true), (2, true), (3, true), (4, true)] (by kernel_rfl) (fun _ _ d _ _ h => by cases d <;> exact h) ?_
        iterate 4 (refine line_read rfl (by kernel_rfl) (fun K hK => ?_); go_big_quiet_op; refine hK _ ?_; clear hK K)
        refine line_nil ?_
        clear y0
        refine any_fork 1 9 (by kernel_rfl) rfl rfl (by kernel_rfl) (by kernel_rfl) (fun K hK => ?_) (fun K hK => ?_)
        · refine call_any (args := #[.slice a len cap]) rfl (by kernel_rfl) (by kernel_rfl) (BN.out _ (btr B2 hst.out)) ?_
          rintro e x1 ⟨rfl, M1, hbn⟩
          have hst2 := hst.on hbn
          refine ⟨_, rfl, hK _ _ hst2 ?_⟩
          clear hK K hst hbn
          have hst := hst2
          clear hst2
          simp only [Act.put, List.setIfInBounds_toArray, List.set_cons_zero, List.set_cons_succ]
          have lk := LK.out _ _ M1
          refine any_fork 5 9 (by kernel_rfl) rfl rfl (by kernel_rfl) (by kernel_rfl) (fun K hK => ?_) (fun K hK => ?_)
          · go_big_op
            refine hK _ _ hst ?_
            clear hK K lk M1
            refine any_rest [(6, true), (7, true), (8, true), (9, false), (10, false), (11, true)] (by kernel_rfl) (fun _ _ d _ _ h => by cases d <;> exact h) ?_
            iterate 3 (refine line_read rfl (by kernel_rfl) (fun K hK => ?_); go_big_quiet_op; refine hK _ ?_; clear hK K)
            refine line_alone rfl (by kernel_rfl) (fun K hK => ?_)
            go_big_op
            have hst2 := hst.on (bal (Below.refl _ x1) (.cells #[.string { data := #[] }, .int .i64 0, .int .i64 0, .int .i64 0, .int .i64 0] 25))
            have A : At x1.heap.size pin0.vals (x1.alloc (.cells #[.string { data := #[] }, .int .i64 0, .int .i64 0, .int .i64 0, .int .i64 0] 25)) := At.new x1 pin0.vals 25
            have leA : W2.heap.size ≤ x1.heap.size := hst.out.size
            refine hK _ _ hst2 ?_
            clear hK K hst
            have hst := hst2
            clear hst2
            generalize x1.alloc (.cells #[.string { data := #[] }, .int .i64 0, .int .i64 0, .int .i64 0, .int .i64 0] 25) = xa at *
            generalize x1.heap.size = ga at *
            have h0 := A.cell 0 _ rfl
            have h1 := A.cell 1 _ rfl
            have h2 := A.cell 2 _ rfl
            have h3 := A.cell 3 _ rfl
            have h4 := A.cell 4 _ rfl
            have f0 := A.free 0 _ rfl
            have f1 := A.free 1 _ rfl
            have f2 := A.free 2 _ rfl
            have f3 := A.free 3 _ rfl
            have f4 := A.free 4 _ rfl
            refine line_alone rfl (by kernel_rfl) (fun K hK => ?_)
            go_big_op
            refine hK _ _ (⟨(by (iterate 5 (refine bset ?_ (by dsimp only; omega) _)); exact hst.out)⟩) ?_
            clear hK K
            have A9 := ((((A.set 0 (.string q.n)).set 1 (.int .i64 q.a)).set 2 (.int .i64 q.b)).set 3 (.int .i64 q.e)).set 4 (.int .i64 q.u)
            iterate 1 (refine line_read rfl (by kernel_rfl) (fun K hK => ?_); go_big_quiet_op; refine hK _ ?_; clear hK K)
            refine line_nil ?_
            have HB9 := Lib.hid (show Below W2.heap.size W2 (((((xa.setCell ⟨ga, 0, none⟩ (.string q.n)).setCell ⟨ga, 1, none⟩ (.int .i64 q.a)).setCell ⟨ga, 2, none⟩ (.int .i64 q.b)).setCell ⟨ga, 3, none⟩ (.int .i64 q.e)).setCell ⟨ga, 4, none⟩ (.int .i64 q.u)) from (by (iterate 5 (refine bset ?_ (by dsimp only; omega) _)); exact hst.out))
            have HA9 := Lib.hid A9
            clear hst A A9
            go_wp2_with fail
            go_meet
            case rel =>
              subst hfo
              exact ⟨_, rfl, rfl, HA9.out, HB9.out⟩
          · go_big_op
            have hst2 := hst.on (bal (Below.refl _ x1) (.cells #[.string { data := #[] }, .int .i64 0, .int .i64 0, .int .i64 0, .int .i64 0] 25))
            have A : At x1.heap.size pin0.vals (x1.alloc (.cells #[.string { data := #[] }, .int .i64 0, .int .i64 0, .int .i64 0, .int .i64 0] 25)) := At.new x1 pin0.vals 25
            have leA : W2.heap.size ≤ x1.heap.size := hst.out.size
            refine hK _ _ hst2 ?_
            clear hK K hst
            have hst := hst2
            clear hst2
            have M2 := M1.on (bal (Below.refl _ x1) (.cells #[.string { data := #[] }, .int .i64 0, .int .i64 0, .int .i64 0, .int .i64 0] 25))
            have lk := LK.out _ _ M2
            clear M1 M2
            generalize x1.alloc (.cells #[.string { data := #[] }, .int .i64 0, .int .i64 0, .int .i64 0, .int .i64 0] 25) = xa at *
            generalize x1.heap.size = ga at *
            refine any_rest [(5, false), (6, true), (7, true), (8, true), (10, false), (11, true)] (by kernel_rfl) (fun _ _ d _ _ h => by cases d <;> exact h) ?_
            refine line_alone rfl (by kernel_rfl) (fun K hK => ?_)
            go_big_op
            refine hK _ _ hst ?_
            clear hK K lk
            iterate 3 (refine line_read rfl (by kernel_rfl) (fun K hK => ?_); go_big_quiet_op; refine hK _ ?_; clear hK K)
            have h0 := A.cell 0 _ rfl
            have h1 := A.cell 1 _ rfl
            have h2 := A.cell 2 _ rfl
            have h3 := A.cell 3 _ rfl
            have h4 := A.cell 4 _ rfl
            have f0 := A.free 0 _ rfl
            have f1 := A.free 1 _ rfl
            have f2 := A.free 2 _ rfl
            have f3 := A.free 3 _ rfl
            have f4 := A.free 4 _ rfl
            refine line_alone rfl (by kernel_rfl) (fun K hK => ?_)
            go_big_op
            refine hK _ _ (⟨(by (iterate 5 (refine bset ?_ (by dsimp only; omega) _)); exact hst.out)⟩) ?_
            clear hK K
            have A9 := ((((A.set 0 (.string q.n)).set 1 (.int .i64 q.a)).set 2 (.int .i64 q.b)).set 3 (.int .i64 q.e)).set 4 (.int .i64 q.u)
            iterate 1 (refine line_read rfl (by kernel_rfl) (fun K hK => ?_); go_big_quiet_op; refine hK _ ?_; clear hK K)
            refine line_nil ?_
            have HB9 := Lib.hid (show Below W2.heap.size W2 (((((xa.setCell ⟨ga, 0, none⟩ (.string q.n)).setCell ⟨ga, 1, none⟩ (.int .i64 q.a)).setCell ⟨ga, 2, none⟩ (.int .i64 q.b)).setCell ⟨ga, 3, none⟩ (.int .i64 q.e)).setCell ⟨ga, 4, none⟩ (.int .i64 q.u)) from (by (iterate 5 (refine bset ?_ (by dsimp only; omega) _)); exact hst.out))
            have HA9 := Lib.hid A9
            clear hst A A9
            go_wp2_with fail
            go_meet
            case rel =>
              subst hfo
              exact ⟨_, rfl, rfl, HA9.out, HB9.out⟩
        · go_big_op
          have hst2 := hst.on (bal (Below.refl _ V1) (.cells #[.string { data := #[] }, .int .i64 0, .int .i64 0, .int .i64 0, .int .i64 0] 25))
          have A : At V1.heap.size pin0.vals (V1.alloc (.cells #[.string { data := #[] }, .int .i64 0, .int .i64 0, .int .i64 0, .int .i64 0] 25)) := At.new V1 pin0.vals 25
          have leA : W2.heap.size ≤ V1.heap.size := hst.out.size
          refine hK _ _ hst2 ?_
          clear hK K hst
          have hst := hst2
          clear hst2
          generalize V1.alloc (.cells #[.string { data := #[] }, .int .i64 0, .int .i64 0, .int .i64 0, .int .i64 0] 25) = xa at *
          generalize V1.heap.size = ga at *
          refine any_rest [(1, false), (5, false), (6, true), (7, true), (8, true), (10, false), (11, true)] (by kernel_rfl) (fun _ _ d _ _ h => by cases d <;> exact h) ?_
          refine line_alone rfl (by kernel_rfl) (fun K hK => ?_)
          refine call_any (args := #[.slice a len cap]) rfl (by kernel_rfl) (by kernel_rfl) (BN.out _ (btr B2 hst.out)) ?_
          rintro e x1 ⟨rfl, M1, hbn⟩
          have hst2 := hst.on hbn
          have A2 := A.on hbn
          clear A
          have A := A2
          clear A2
          refine ⟨_, rfl, hK _ _ hst2 ?_⟩
          clear hK K hst hbn
          have hst := hst2
          clear hst2
          simp only [Act.put, List.setIfInBounds_toArray, List.set_cons_zero, List.set_cons_succ]
          have lk := LK.out _ _ M1
          refine line_alone rfl (by kernel_rfl) (fun K hK => ?_)
          go_big_op
          refine hK _ _ hst ?_
          clear hK K lk M1
          iterate 3 (refine line_read rfl (by kernel_rfl) (fun K hK => ?_); go_big_quiet_op; refine hK _ ?_; clear hK K)
          have h0 := A.cell 0 _ rfl
          have h1 := A.cell 1 _ rfl
          have h2 := A.cell 2 _ rfl
          have h3 := A.cell 3 _ rfl
          have h4 := A.cell 4 _ rfl
          have f0 := A.free 0 _ rfl
          have f1 := A.free 1 _ rfl
          have f2 := A.free 2 _ rfl
          have f3 := A.free 3 _ rfl
          have f4 := A.free 4 _ rfl
          refine line_alone rfl (by kernel_rfl) (fun K hK => ?_)
          go_big_op
          refine hK _ _ (⟨(by (iterate 5 (refine bset ?_ (by dsimp only; omega) _)); exact hst.out)⟩) ?_
          clear hK K
          have A9 := ((((A.set 0 (.string q.n)).set 1 (.int .i64 q.a)).set 2 (.int .i64 q.b)).set 3 (.int .i64 q.e)).set 4 (.int .i64 q.u)
          iterate 1 (refine line_read rfl (by kernel_rfl) (fun K hK => ?_); go_big_quiet_op; refine hK _ ?_; clear hK K)
          refine line_nil ?_
          have HB9 := Lib.hid (show Below W2.heap.size W2 (((((x1.setCell ⟨ga, 0, none⟩ (.string q.n)).setCell ⟨ga, 1, none⟩ (.int .i64 q.a)).setCell ⟨ga, 2, none⟩ (.int .i64 q.b)).setCell ⟨ga, 3, none⟩ (.int .i64 q.e)).setCell ⟨ga, 4, none⟩ (.int .i64 q.u)) from (by (iterate 5 (refine bset ?_ (by dsimp only; omega) _)); exact hst.out))
          have HA9 := Lib.hid A9
          clear hst A A9
          go_wp2_with fail
          go_meet
          case rel =>
            subst hfo
            exact ⟨_, rfl, rfl, HA9.out, HB9.out⟩
      case rest =>
        obtain ⟨ob, rfl, rfl, X3', f3⟩ := hcut
        subst hfo
        have X3 : At ob q.vals _ := X3'
        have Q3 := Q2.on f3
        have Z3 := Z2.on f3
        have Y3 := X2.on f3
        have B3 := btr B2 f3
        have L3 := L2.on f3
        have E3 := E2.on f3
        clear Q2 Z2 X2 B2 L2 E2 f3 x0 X3'
        have d0 := Q3.cell 0 _ rfl
        have d1 := Q3.cell 1 _ rfl
        have d2 := Q3.cell 2 _ rfl
        have d3 := Q3.cell 3 _ rfl
        have d4 := Q3.cell 4 _ rfl
        have d5 := Q3.cell 5 _ rfl
        have d6 := Q3.cell 6 _ rfl
        have d7 := Q3.cell 7 _ rfl
        have c0 := X3.cell 0 _ rfl
        have c1 := X3.cell 1 _ rfl
        have c2 := X3.cell 2 _ rfl
        have c3 := X3.cell 3 _ rfl
        have c4 := X3.cell 4 _ rfl
        go_wp2_with fail
        refine (CK _ L3).mono ?_
        rintro e u4 ⟨z, hz0, hz1, rfl, b4⟩
        have Z4 := Z3.on b4
        have Y4 := Y3.on b4
        have B4 := btr B3 b4
        have E4 := E3.on b4
        clear Q3 Z3 X3 Y3 B3 L3 E3 b4 CK d0 d1 d2 d3 d4 d5 d6 d7 c0 c1 c2 c3 c4
        have hz := hz1 h2
        have ne := hz.all.neq
        have ng := hz.all.gneq
        clear hz0 hz1 Y4
        go_wp2_with fail
        refine (codeOf_err hz.all _ E4).mono ?_
        rintro e u5 ⟨rfl, b5⟩
        have Z5 := Z4.on b5
        have B5 := btr B4 b5
        clear Z4 B4 E4 b5
        have z0 := Z5.cell 0 _ rfl
        have z1 := Z5.cell 1 _ rfl
        have h0 := Z5.free 0 _ rfl
        have h1 := Z5.free 1 _ rfl
        have HB := Lib.hid B5
        clear Z5 B5
        go_wp2_with fail
        refine bodyPost_ret (v := .agg #[.int .i64 c, .slice none 0 0]) (by simp [results, Tryz.results13, go_sem, z0, z1]) rfl ⟨none, 0, 0, rfl, OwnP.nil _ _, ?_⟩
        exact (by (iterate 2 (refine bset ?_ (by dsimp only; omega) _)); exact HB.out)
end Go.Proofs.YtmdknbgpddnplaaGreatDoor
namespace Go.Proofs.YtmdknbgpddnplaaGreatDoor

theorem applyL_len (ps : List PinD) (r : RollD) (t : Int) : (applyL ps r t).length ≤ 5 := by
  by_cases h : applyC ps r t = 0
  · obtain ⟨-, -, q, -, -, -, e⟩ := applyC_zero h
    rw [e]
    exact putR_len ps r.p
  · unfold applyL
    rw [if_neg h]
    exact Nat.zero_le _
theorem applyL_names {ps : List PinD} {r : RollD} {t : Int} (h : ∀ q ∈ ps, q.n.size ≤ maxLen) (hp : r.p.n.size ≤ maxLen) : ∀ q ∈ applyL ps r t, q.n.size ≤ maxLen := by
  unfold applyL
  split
  · exact putR_names h hp
  · intro q hq
    cases hq
end Go.Proofs.YtmdknbgpddnplaaGreatDoor
namespace Go.Proofs.YtmdknbgpddnplaaGreatDoor
open Go.RowKit

/-- The regions of a code. -/
def regs : Code → List (Nat × Array Oper)
  | .region i ops _ => [(i, ops)]
  | .seq a b => regs a ++ regs b
  | .cond _ a b => regs a ++ regs b
  | .block _ b => regs b
  | .loop b => regs b
  | .scope b => regs b
  | .rangeFunc _ _ a b => regs a ++ regs b
  | _ => []
def regAt (c : Option Code) (id : Nat) : Array Oper := match (regs (c.getD .skip)).find? (fun x => x.1 == id) with
  | some x => x.2
  | none => #[]
/-- A piece of a line: it may be walked so, and this has come up behind it. -/
structure Piece (ops : Array Oper) (L : Array Bool) (π : List (Nat × Bool)) (L' : Array Bool) : Prop where
  seg : segB .any ops π L = true
  went : marked L π = L'
theorem segB_append (md : Region.Mode) (ops : Array Oper) : ∀ (p q : List (Nat × Bool)) (L : Array Bool), segB md ops (p ++ q) L = (segB md ops p L && segB md ops q (marked L p))
  | [], q, L => by simp [segB, marked]
  | (i, m) :: p, q, L => by
    rw [List.cons_append, segB, segB, segB_append md ops p q, marked, Bool.and_assoc]
theorem marked_append : ∀ (p q : List (Nat × Bool)) (L : Array Bool), marked L (p ++ q) = marked (marked L p) q
  | [], q, L => rfl
  | (i, m) :: p, q, L => by
    rw [List.cons_append, marked, marked, marked_append p q]
theorem Piece.app {ops : Array Oper} {L L1 L2 : Array Bool} {p q : List (Nat × Bool)} (h1 : Piece ops L p L1) (h2 : Piece ops L1 q L2) : Piece ops L (p ++ q) L2 :=
  ⟨by rw [segB_append, h1.seg, h1.went, h2.seg]; rfl, by rw [marked_append, h1.went, h2.went]⟩
theorem wp_region_pieces {P : Program} {Q : Exit → Act → World → Prop} {id : Nat} {a : Act} {w : World} {l : List Oper} (S : World → Prop) (π : List (Nat × Bool)) (ops : Array Oper) (L0 L1 : Array Bool) (hops : l.toArray = ops) (hm : P.follows .mixedOrders = true)
    (hN : Region.noSelect ops = true) (hl : π.length = l.length) (h0 : Array.replicate ops.size false = L0) (hp : Piece ops L0 π L1) (he : (Region.ready .any ops L1).isEmpty = true) (hQ : ∀ c a d v w, Q (.panic c) (a.put d v) w → Q (.panic c) a w)
    (hS : S w.drew) (h : LineP P l.toArray S Q (Q .normal) π a w.drew) : (Code.region id l.toArray true).wp P Q a w := by
  refine wp_region_line S π hm ?_ hQ hS h
  rw [hops, h0, hp.went, hN, hp.seg, he, decide_eq_true hl]
  rfl
end Go.Proofs.YtmdknbgpddnplaaGreatDoor
namespace Go.Proofs.YtmdknbgpddnplaaGreatDoor.fnRolls
open Go.RowKit
set_option maxRecDepth 100000

noncomputable def ops : Array Oper := regAt Tryz.f3.body 9
def L0 : Array Bool := #[false, false, false, false, false, false, false, false, false, false, false, false, false, false, false, false, false, false, false, false, false, false, false, false, false, false, false, false, false, false, false, false, false, false, false, false, false, false, false, false, false, false, false, false, false, false, false, false, false, false, false, false, false, false, false, false, false, false, false, false, false, false, false, false, false, false, false, false, false, false, false, false, false, false, false, false, false, false, false, false]
def L1 : Array Bool := #[true, true, true, true, true, true, true, true, true, true, false, false, false, false, false, false, false, false, false, false, false, false, false, false, false, false, false, false, false, false, false, false, false, false, false, false, false, false, false, false, false, false, false, false, false, false, false, false, false, false, false, false, false, false, false, false, false, false, false, false, false, false, false, false, false, false, false, false, false, false, false, false, false, false, false, false, false, false, false, false]
theorem c0 : Piece ops L0 [(0, true), (1, true), (2, true), (3, true), (4, false), (5, true), (6, true), (7, true), (8, true), (9, true)] L1 := ⟨by kernel_rfl, by kernel_rfl⟩
def L2 : Array Bool := #[true, true, true, true, true, true, true, true, true, true, true, true, true, true, true, true, true, true, true, true, false, false, false, false, false, false, false, false, false, false, false, false, false, false, false, false, false, false, false, false, false, false, false, false, false, false, false, false, false, false, false, false, false, false, false, false, false, false, false, false, false, false, false, false, false, false, false, false, false, false, false, false, false, false, false, false, false, false, false, false]
theorem c1 : Piece ops L1 [(10, true), (11, true), (12, true), (13, true), (14, true), (15, true), (16, true), (17, true), (18, true), (19, true)] L2 := ⟨by kernel_rfl, by kernel_rfl⟩
def L3 : Array Bool := #[true, true, true, true, true, true, true, true, true, true, true, true, true, true, true, true, true, true, true, true, true, true, true, true, true, true, true, true, true, true, false, false, false, false, false, false, false, false, false, false, false, false, false, false, false, false, false, false, false, false, false, false, false, false, false, false, false, false, false, false, false, false, false, false, false, false, false, false, false, false, false, false, false, false, false, false, false, false, false, false]
theorem c2 : Piece ops L2 [(20, true), (21, true), (22, true), (23, true), (24, true), (25, true), (26, true), (27, true), (28, true), (29, true)] L3 := ⟨by kernel_rfl, by kernel_rfl⟩
def L4 : Array Bool := #[true, true, true, true, true, true, true, true, true, true, true, true, true, true, true, true, true, true, true, true, true, true, true, true, true, true, true, true, true, true, true, true, true, true, true, true, true, true, true, true, false, false, false, false, false, false, false, false, false, false, false, false, false, false, false, false, false, false, false, false, false, false, false, false, false, false, false, false, false, false, false, false, false, false, false, false, false, false, false, false]
theorem c3 : Piece ops L3 [(30, true), (31, true), (32, true), (33, true), (34, false), (35, true), (36, true), (37, true), (38, true), (39, true)] L4 := ⟨by kernel_rfl, by kernel_rfl⟩
def L5 : Array Bool := #[true, true, true, true, true, true, true, true, true, true, true, true, true, true, true, true, true, true, true, true, true, true, true, true, true, true, true, true, true, true, true, true, true, true, true, true, true, true, true, true, true, true, true, true, true, true, true, true, true, true, false, false, false, false, false, false, false, false, false, false, false, false, false, false, false, false, false, false, false, false, false, false, false, false, false, false, false, false, false, false]
theorem c4 : Piece ops L4 [(40, true), (41, true), (44, true), (45, true), (42, false), (43, true), (46, false), (47, true), (48, true), (49, true)] L5 := ⟨by kernel_rfl, by kernel_rfl⟩
def L6 : Array Bool := #[true, true, true, true, true, true, true, true, true, true, true, true, true, true, true, true, true, true, true, true, true, true, true, true, true, true, true, true, true, true, true, true, true, true, true, true, true, true, true, true, true, true, true, true, true, true, true, true, true, true, true, true, true, true, true, true, true, true, true, true, false, false, false, false, false, false, false, false, false, false, false, false, false, false, false, false, false, false, false, false]
theorem c5 : Piece ops L5 [(50, true), (51, true), (52, true), (53, true), (54, true), (55, true), (56, false), (57, true), (58, true), (59, true)] L6 := ⟨by kernel_rfl, by kernel_rfl⟩
def L7 : Array Bool := #[true, true, true, true, true, true, true, true, true, true, true, true, true, true, true, true, true, true, true, true, true, true, true, true, true, true, true, true, true, true, true, true, true, true, true, true, true, true, true, true, true, true, true, true, true, true, true, true, true, true, true, true, true, true, true, true, true, true, true, true, true, true, true, true, true, true, true, true, true, true, false, false, false, false, false, false, false, false, false, false]
theorem c6 : Piece ops L6 [(60, true), (61, true), (62, true), (63, true), (64, true), (65, true), (66, true), (67, false), (68, true), (69, true)] L7 := ⟨by kernel_rfl, by kernel_rfl⟩
def L8 : Array Bool := #[true, true, true, true, true, true, true, true, true, true, true, true, true, true, true, true, true, true, true, true, true, true, true, true, true, true, true, true, true, true, true, true, true, true, true, true, true, true, true, true, true, true, true, true, true, true, true, true, true, true, true, true, true, true, true, true, true, true, true, true, true, true, true, true, true, true, true, true, true, true, true, true, true, true, true, true, true, true, true, true]
theorem c7 : Piece ops L7 [(70, true), (71, true), (72, true), (73, true), (74, false), (75, true), (76, true), (77, true), (78, true), (79, true)] L8 := ⟨by kernel_rfl, by kernel_rfl⟩
theorem line : Piece ops L0 [(0, true), (1, true), (2, true), (3, true), (4, false), (5, true), (6, true), (7, true), (8, true), (9, true), (10, true), (11, true), (12, true), (13, true), (14, true), (15, true), (16, true), (17, true), (18, true), (19, true), (20, true), (21, true), (22, true), (23, true), (24, true), (25, true), (26, true), (27, true), (28, true), (29, true), (30, true), (31, true), (32, true), (33, true), (34, false), (35, true), (36, true), (37, true), (38, true), (39, true), (40, true), (41, true), (44, true), (45, true), (42, false), (43, true), (46, false), (47, true), (48, true), (49, true), (50, true), (51, true), (52, true), (53, true), (54, true), (55, true), (56, false), (57, true), (58, true), (59, true), (60, true), (61, true), (62, true), (63, true), (64, true), (65, true), (66, true), (67, false), (68, true), (69, true), (70, true), (71, true), (72, true), (73, true), (74, false), (75, true), (76, true), (77, true), (78, true), (79, true)] L8 := c0.app (c1.app (c2.app (c3.app (c4.app (c5.app (c6.app (c7)))))))
theorem noSel : Region.noSelect ops = true := by kernel_rfl
theorem start : Array.replicate ops.size false = L0 := by kernel_rfl
theorem done : (Region.ready .any ops L8).isEmpty = true := by kernel_rfl
end Go.Proofs.YtmdknbgpddnplaaGreatDoor.fnRolls
namespace Go.Proofs.YtmdknbgpddnplaaGreatDoor
open Go.RowKit
set_option maxRecDepth 100000
set_option linter.unusedVariables false

theorem pub_sum {p : Int} (h : pubB p = true) : M.sumB p = true := by
  simp only [pubB, inB, Bool.and_eq_true, decide_eq_true_eq] at h
  simp only [M.sumB, decide_eq_true_eq]
  omega
abbrev forT (l : List UInt8) (p m : Int) : Value := T5 (M.forC l (pubB p) m) (M.bs (M.forN l (pubB p) m)) (M.forU l (pubB p) m) (M.forM l (pubB p) m) (M.forV l (pubB p) p m)
theorem forT_no {l : List UInt8} {p m : Int} (h : ¬ M.forC l (pubB p) m = 0) : forT l p m = T5 (M.forC l (pubB p) m) { data := #[] } 0 0 0 := by
  simp [forT, M.forN, M.forU, M.forM, M.forV, h, M.bs]
theorem forT_yes {l : List UInt8} {p m : Int} (h : M.forC l (pubB p) m = 0) : forT l p m = T5 0 (M.bs (M.nrm l)) 3 m (M.valM p m) := by
  simp [forT, M.forN, M.forU, M.forM, M.forV, h]

end Go.Proofs.YtmdknbgpddnplaaGreatDoor
namespace Go.Proofs.YtmdknbgpddnplaaGreatDoor
open Go.RowKit

/-- Block g is a source of draws over the slice (a, len, cap), read up to place p. -/
def Src (w : World) (g : Nat) (a : Option Addr) (len cap : Nat) (p : Nat) : Prop := w.heap[g]? = some (.cells #[.slice a len cap, .int .i64 p] 138 (0, 0))
theorem Src.lt {w : World} {g : Nat} {a : Option Addr} {len cap p : Nat} (h : Src w g a len cap p) : g < w.heap.size := by
  rcases Nat.lt_or_ge g w.heap.size with h1 | h1
  · exact h1
  · unfold Src at h; rw [Array.getElem?_eq_none h1] at h; cases h
theorem Src.cell0 {w : World} {g : Nat} {a : Option Addr} {len cap p : Nat} (h : Src w g a len cap p) : w.cell? ⟨g, 0, none⟩ = some (.slice a len cap) := by unfold Src at h; simp [World.cell?, h]
theorem Src.cell1 {w : World} {g : Nat} {a : Option Addr} {len cap p : Nat} (h : Src w g a len cap p) : w.cell? ⟨g, 1, none⟩ = some (.int .i64 p) := by unfold Src at h; simp [World.cell?, h]
theorem Src.free {w : World} {g : Nat} {a : Option Addr} {len cap p : Nat} (h : Src w g a len cap p) (i : Nat) : w.frozen? ⟨g, i, none⟩ = false := by unfold Src at h; simp [World.frozen?, h]
theorem Src.keep {w w' : World} {g : Nat} {a : Option Addr} {len cap p : Nat} (h : Src w g a len cap p) (hk : w'.heap[g]? = w.heap[g]?) : Src w' g a len cap p := hk.trans h
theorem Src.step {w : World} {g : Nat} {a : Option Addr} {len cap p : Nat} (h : Src w g a len cap p) : Src (w.setCell ⟨g, 1, none⟩ (.int .i64 (p + 1))) g a len cap (p + 1) := by
  unfold Src at *; simp [World.setCell, Array.getElem?_modify, h]

theorem Src.drewN {w : World} {g : Nat} {a : Option Addr} {len cap p : Nat} (h : Src w g a len cap p) (n : Nat) : Src (w.drewN n) g a len cap p := h

def Nexted (g : Nat) (n : Int) (a : Option Addr) (len cap p : Nat) (w : World) (r : Ending) (w' : World) : Prop :=
  ∃ v : Int, 0 ≤ v ∧ (v < n ∨ n < 1 ∧ v = 0) ∧ r = .returned (.int .i64 v) ∧ Src w' g a len cap (p + 1) ∧ Only g w w'

theorem l1Next_pos (g : Nat) (n : Int) (a : Option Addr) (len cap p B : Nat) (zs : List Int) (w : World) (hS : Src w g a len cap p) (hR : Row .u8 w B a len cap zs) (hB : B ≤ g) (hp : p ≤ 1000000) (hn : 1 ≤ n) (hl : 0 < len) :
    Calls Tryz.prog 55 #[.pointer (some ⟨g, 0, none⟩), .int .i64 n] w (Nexted g n a len cap p w) := by
  have c0 := hS.cell0
  have c1 := hS.cell1
  have f1 := hS.free 1
  have hlen := hR.fits
  have hmost := hR.most
  unfold maxLen at hmost
  obtain ⟨b, off, rfl, hb, hc⟩ := hR.cells hl
  have hbg : b ≠ g := by omega
  have r1 : p % len < len := Nat.mod_lt _ hl
  have r2 : (p + 1) % len < len := Nat.mod_lt _ hl
  have d1 := hc _ r1
  have d2 := hc _ r2
  obtain ⟨z0, z1⟩ := hR.byte (p % len)
  obtain ⟨y0, y1⟩ := hR.byte ((p + 1) % len)
  clear hc
  have q0 : 0 ≤ (p : Int) / len ∧ (p : Int) / len ≤ 1000000 := ⟨Int.ediv_nonneg (by omega) (by omega), by
    have : (p : Int) / len ≤ p := Int.ediv_le_self _ (by omega)
    omega⟩
  obtain ⟨q1, q2⟩ := q0
  have e0 : ((len : Int) == 0) = false := by rw [beq_eq_false_iff_ne]; omega
  simp only [List.getD_eq_getElem?_getD] at z0 z1 y0 y1 d1 d2
  have m1 : 0 ≤ ((p : Int) + 1) % len := Int.emod_nonneg _ (by omega)
  have m2 : ((p : Int) + 1) % len < len := Int.emod_lt_of_pos _ (by omega)
  have m3 : (((p : Int) + 1) % len).toNat = (p + 1) % len := by
    have : ((p : Int) + 1) % len = ((p + 1) % len : Nat) := by simp
    rw [this]; rfl
  have HS := Lib.hid (And.intro hS.step ((Only.refl g w).setCell 1 (.int .i64 (p + 1))))
  by_cases h2 : 200 < n
  · go_enter Tryz.func55, Tryz.ntmps55
    go_wp2_with fail
    go_quiet (fail)
    go_wp2_with fail
    go_quiet (fail)
    go_wp2_with fail
    go_ret
    exact ⟨_, Int.emod_nonneg _ (by omega), .inl (Int.emod_lt_of_pos _ (by omega)), rfl, HS.out.1.drewN _, HS.out.2.drewN _⟩
  · go_enter Tryz.func55, Tryz.ntmps55
    go_wp2_with fail
    go_quiet (fail)
    go_wp2_with fail
    go_ret
    exact ⟨_, Int.emod_nonneg _ (by omega), .inl (Int.emod_lt_of_pos _ (by omega)), rfl, HS.out.1.drewN _, HS.out.2.drewN _⟩

theorem l1Next_any (g : Nat) (n : Int) (a : Option Addr) (len cap p B : Nat) (zs : List Int) (w : World) (hS : Src w g a len cap p) (hR : Row .u8 w B a len cap zs) (hB : B ≤ g) (hp : p ≤ 1000000) :
    Calls Tryz.prog 55 #[.pointer (some ⟨g, 0, none⟩), .int .i64 n] w (Nexted g n a len cap p w) := by
  have c0 := hS.cell0
  have c1 := hS.cell1
  have f1 := hS.free 1
  have HS := Lib.hid (And.intro hS.step ((Only.refl g w).setCell 1 (.int .i64 (p + 1))))
  by_cases hn : n < 1
  · go_enter Tryz.func55, Tryz.ntmps55
    go_wp2_with fail
    go_ret
    exact ⟨0, by omega, .inr ⟨hn, rfl⟩, rfl, HS.out.1, HS.out.2⟩
  · rcases Nat.eq_zero_or_pos len with h0 | h0
    · have e0 : ((len : Int) == 0) = true := by rw [beq_iff_eq]; omega
      clear h0
      go_enter Tryz.func55, Tryz.ntmps55
      go_wp2_with fail
      go_ret
      exact ⟨_, Int.emod_nonneg _ (by omega), .inl (Int.emod_lt_of_pos _ (by omega)), rfl, HS.out.1, HS.out.2⟩
    · exact l1Next_pos g n a len cap p B zs w hS hR hB hp (by omega) h0

theorem l1Source_any (a : Option Addr) (len cap : Nat) (w : World) :
    Calls Tryz.prog 47 #[.slice a len cap] w fun r w' => r = .returned (.pointer (some ⟨w.heap.size, 0, none⟩)) ∧ w' = w.alloc (.cells #[.slice a len cap, .int .i64 0] 138) := by
  go_enter Tryz.func47, Tryz.ntmps47
  go_wp2_with fail
  go_ret
  simp

/-- One of a list is picked: its place is drawn. -/
def Picked (g : Nat) (vs : List Int) (a : Option Addr) (len cap p : Nat) (w : World) (r : Ending) (w' : World) : Prop :=
  ∃ v : Int, v ∈ vs ∧ r = .returned (.int .i64 v) ∧ Src w' g a len cap (p + 1) ∧ Only g w w'

theorem l1Pick_any (g q n : Nat) (vs : List Int) (a : Option Addr) (len cap p B : Nat) (zs : List Int) (w : World) (hS : Src w g a len cap p) (hR : Row .u8 w B a len cap zs) (hB : B ≤ g) (hp : p ≤ 1000000)
    (hq : q ≠ g) (hv : vs.length = n) (hn : 1 ≤ n) (hm : n ≤ 100) (hc : ∀ j, j < n → w.cell? ⟨q, j, none⟩ = some (.int .i64 (vs.getD j 0))) :
    Calls Tryz.prog 50 #[.pointer (some ⟨g, 0, none⟩), .slice (some ⟨q, 0, none⟩) n n] w (Picked g vs a len cap p w) := by
  have Hc := Lib.hid hc
  clear hc
  go_enter Tryz.func50, Tryz.ntmps50
  go_wp2_with fail
  refine (l1Next_any g _ a len cap p B zs _ hS hR hB hp).mono ?_
  rintro r w' ⟨v, v0, v1, rfl, hS', hO⟩
  obtain ⟨k, rfl⟩ := Int.eq_ofNat_of_zero_le v0
  have hk : k < n := by omega
  have hcell : w'.cell? ⟨q, k, none⟩ = some (.int .i64 (vs.getD k 0)) := (World.cell?_of_block (w := w) (hO.block q hq)).trans (Hc.out k hk)
  have hmem : vs.getD k 0 ∈ vs := by
    have : k < vs.length := by omega
    simp [List.getD, this]
  have HE := Lib.hid (And.intro hmem (And.intro hS' hO))
  clear v0 v1 hmem hS' hO
  go_wp2_with fail
  go_ret
  exact ⟨vs.getD k 0, HE.out.1, by simp [List.getD]; rw [List.getElem?_eq_getElem (by omega)]; rfl, HE.out.2.1, HE.out.2.2⟩

def Drawn3 (w : World) (r : Ending) (w' : World) : Prop := ∃ x y z : Int, r = .returned (.tuple #[.int .i64 x, .int .i64 y, .int .i64 z]) ∧ Below w.heap.size w w'
def Drawn2 (w : World) (r : Ending) (w' : World) : Prop := ∃ x y : Int, r = .returned (.tuple #[.int .i64 x, .int .i64 y]) ∧ Below w.heap.size w w'
def Drawn1 (w : World) (r : Ending) (w' : World) : Prop := ∃ x : Int, r = .returned (.int .i64 x) ∧ Below w.heap.size w w'

theorem Src.new (w : World) (a : Option Addr) (len cap p : Nat) : Src (w.alloc (.cells #[.slice a len cap, .int .i64 p] 138)) w.heap.size a len cap p := by
  unfold Src; exact (MapKept.heap_alloc w _).1
theorem Src.alloc {w : World} {g : Nat} {a : Option Addr} {len cap p : Nat} (h : Src w g a len cap p) (o : Obj) : Src (w.alloc o) g a len cap p := h.keep (Below.heap_alloc w o g h.lt)

/-- What stays so while draws are made: the source is the first block behind w0; what was there ahead has not turned. -/
structure Draw (w0 : World) (a : Option Addr) (len cap : Nat) (zs : List Int) (p : Nat) (w : World) : Prop where
  src : Src w w0.heap.size a len cap p
  row : Row .u8 w w0.heap.size a len cap zs
  bel : Below w0.heap.size w0 w
theorem Draw.alloc {w0 : World} {a : Option Addr} {len cap : Nat} {zs : List Int} {p : Nat} {w : World} (h : Draw w0 a len cap zs p w) (o : Obj) : Draw w0 a len cap zs p (w.alloc o) :=
  ⟨h.src.alloc o, h.row.below ((Below.refl _ w).alloc h.bel.size o), h.bel.alloc h.bel.size o⟩
theorem Draw.only {w0 : World} {a : Option Addr} {len cap : Nat} {zs : List Int} {p p' : Nat} {w w' : World} (h : Draw w0 a len cap zs p w) (hS : Src w' w0.heap.size a len cap p') (hO : Only w0.heap.size w w') : Draw w0 a len cap zs p' w' :=
  ⟨hS, h.row.below (hO.below (Nat.le_refl _)), h.bel.trans (hO.below (Nat.le_refl _))⟩
theorem Draw.new {w0 : World} {a : Option Addr} {len cap : Nat} {zs : List Int} (p : Nat) (hR : Row .u8 w0 w0.heap.size a len cap zs) : Draw w0 a len cap zs p (w0.alloc (.cells #[.slice a len cap, .int .i64 p] 138)) :=
  ⟨Src.new w0 a len cap p, hR.below (bal (Below.refl _ _) _), bal (Below.refl _ _) _⟩
theorem Draw.below {w0 : World} {a : Option Addr} {len cap : Nat} {zs : List Int} {p : Nat} {w w' : World} (h : Draw w0 a len cap zs p w) (hb : Below w.heap.size w w') : Draw w0 a len cap zs p w' :=
  ⟨h.src.keep (hb.block _ h.src.lt), h.row.below (hb.mono h.bel.size), h.bel.trans (hb.mono h.bel.size)⟩

def DNext (w0 : World) (a : Option Addr) (len cap : Nat) (zs : List Int) (p : Nat) (n : Int) (w : World) (r : Ending) (w' : World) : Prop :=
  ∃ v : Int, 0 ≤ v ∧ (v < n ∨ n < 1 ∧ v = 0) ∧ r = .returned (.int .i64 v) ∧ Draw w0 a len cap zs (p + 1) w' ∧ Only w0.heap.size w w'
def DPick (w0 : World) (a : Option Addr) (len cap : Nat) (zs : List Int) (p : Nat) (vs : List Int) (w : World) (r : Ending) (w' : World) : Prop :=
  ∃ v : Int, v ∈ vs ∧ r = .returned (.int .i64 v) ∧ Draw w0 a len cap zs (p + 1) w' ∧ Only w0.heap.size w w'

theorem dnext {w0 : World} {a : Option Addr} {len cap : Nat} {zs : List Int} {p : Nat} (n : Int) {w : World} (D : Draw w0 a len cap zs p w) (hp : p ≤ 1000000) :
    Calls Tryz.prog 55 #[.pointer (some ⟨w0.heap.size, 0, none⟩), .int .i64 n] w (DNext w0 a len cap zs p n w) :=
  (l1Next_any w0.heap.size n a len cap p w0.heap.size zs w D.src D.row (Nat.le_refl _) hp).mono fun _ _ ⟨v, h0, h1, hr, hS, hO⟩ => ⟨v, h0, h1, hr, D.only hS hO, hO⟩

theorem cells_new (w : World) (vs : List Int) (t : TypeId) (j : Nat) (hj : j < vs.length) : (w.alloc (.cells (vs.map (Value.int .i64)).toArray t)).cell? ⟨w.heap.size, j, none⟩ = some (.int .i64 (vs.getD j 0)) := by
  have e : (w.alloc (.cells (vs.map (Value.int .i64)).toArray t)).heap[w.heap.size]? = some (.cells (vs.map (Value.int .i64)).toArray t) := (MapKept.heap_alloc w _).1
  unfold World.cell?
  rw [e]
  simp [hj]

theorem dpick {w0 : World} {a : Option Addr} {len cap : Nat} {zs : List Int} {p : Nat} (vs : List Int) (n : Nat) {w : World} (D : Draw w0 a len cap zs p w) (hp : p ≤ 1000000) (hn : 1 ≤ n) (hm : n ≤ 100) (hv : vs.length = n) (t : TypeId) :
    Calls Tryz.prog 50 #[.pointer (some ⟨w0.heap.size, 0, none⟩), .slice (some ⟨w.heap.size, 0, none⟩) n n] (w.alloc (.cells (vs.map (Value.int .i64)).toArray t)) (DPick w0 a len cap zs p vs (w.alloc (.cells (vs.map (Value.int .i64)).toArray t))) :=
  (l1Pick_any w0.heap.size w.heap.size n vs a len cap p w0.heap.size zs _ (D.alloc _).src (D.alloc _).row (Nat.le_refl _) hp (by have := D.src.lt; omega) hv hn hm (fun j hj => cells_new w vs t j (by omega))).mono fun _ _ ⟨v, h0, hr, hS, hO⟩ => ⟨v, h0, hr, (D.alloc _).only hS hO, hO⟩

theorem dsource {a : Option Addr} {len cap : Nat} {zs : List Int} {w : World} (hR : Row .u8 w w.heap.size a len cap zs) :
    Calls Tryz.prog 47 #[.slice a len cap] w fun r w' => r = .returned (.pointer (some ⟨w.heap.size, 0, none⟩)) ∧ Draw w a len cap zs 0 w' :=
  (l1Source_any a len cap w).mono fun _ _ ⟨hr, hw⟩ => ⟨hr, by rw [hw]; exact Draw.new 0 hR⟩
theorem lwBig_any (a : Option Addr) (len cap : Nat) (w : World) (h : len ≤ 9223372036854775807) :
    Calls Tryz.prog 9 #[.slice a len cap] w fun r w' => r = .returned (.bool (decide (1048576 < len))) ∧ w = w' := by
  by_cases hl : 1048576 < len
  · have e : decide (1048576 < len) = true := by simp [hl]
    rw [e]; clear e
    go_enter Tryz.func9, Tryz.ntmps9
    go_wp2_with fail
    go_ret
    simp; omega
  · have e : decide (1048576 < len) = false := by simp [hl]
    rw [e]; clear e
    go_enter Tryz.func9, Tryz.ntmps9
    go_wp2_with fail
    go_ret
    simp; omega

def Ated (n : Int) (w : World) (r : Ending) (w' : World) : Prop := ∃ v : Int, 0 ≤ v ∧ (v < n ∨ n ≤ 1 ∧ v = 0) ∧ r = .returned (.int .i64 v) ∧ Below w.heap.size w w'

end Go.Proofs.YtmdknbgpddnplaaGreatDoor
namespace Go.Proofs.YtmdknbgpddnplaaGreatDoor
open Go.RowKit
set_option maxRecDepth 100000

/-- A slice of slices of bytes that is read: 'zss' are its elements; all of it lies below block B. -/
structure Grid (w : World) (B : Nat) (a : Option Addr) (len cap : Nat) (zss : List (List Int)) : Prop where
  length : zss.length = len
  fits : len ≤ cap
  most : cap ≤ maxLen
  cells : 0 < len → ∃ b off, a = some ⟨b, off, none⟩ ∧ b < B ∧ ∀ j, j < len → ∃ a' n' c', w.cell? ⟨b, off + j, none⟩ = some (.slice a' n' c') ∧ Row .u8 w B a' n' c' (zss[j]?.getD [])
section
variable {w w' : World} {B B' : Nat} {a : Option Addr} {len cap : Nat} {zss : List (List Int)}
theorem Grid.keep (h : Grid w B a len cap zss) (hk : ∀ i, i < B → w'.heap[i]? = w.heap[i]?) : Grid w' B a len cap zss :=
  ⟨h.length, h.fits, h.most, fun hp => by
    obtain ⟨b, off, e, hb, hc⟩ := h.cells hp
    refine ⟨b, off, e, hb, fun j hj => ?_⟩
    obtain ⟨a', n', c', h1, h2⟩ := hc j hj
    exact ⟨a', n', c', (World.cell?_of_block (w := w) (hk b hb)).trans h1, h2.keep hk⟩⟩
theorem Grid.below (h : Grid w B a len cap zss) (hb : Below B w w') : Grid w' B a len cap zss := h.keep hb.block
theorem Grid.more (h : Grid w B a len cap zss) (hB : B ≤ B') : Grid w B' a len cap zss :=
  ⟨h.length, h.fits, h.most, fun hp => by
    obtain ⟨b, off, e, hb, hc⟩ := h.cells hp
    refine ⟨b, off, e, by omega, fun j hj => ?_⟩
    obtain ⟨a', n', c', h1, h2⟩ := hc j hj
    exact ⟨a', n', c', h1, h2.more hB⟩⟩
theorem Grid.on (h : Grid w w.heap.size a len cap zss) (hb : Below w.heap.size w w') : Grid w' w'.heap.size a len cap zss := (h.below hb).more hb.size
theorem Grid.alloc (h : Grid w B a len cap zss) (hB : B ≤ w.heap.size) (o : Obj) : Grid (w.alloc o) B a len cap zss := h.below ((Below.refl B w).alloc hB o)
theorem Grid.nil (w : World) (B : Nat) : Grid w B none 0 0 [] := ⟨rfl, Nat.le_refl _, Nat.zero_le _, fun h => absurd h (by omega)⟩
end

def HeardRel (W : World) (zss : List (List Int)) (k : Nat) (v : Value) (wr : World) : Prop := OwnK .i64 wr W.heap.size v ((zss.take k).map M.sumL) ∧ Below W.heap.size W wr
theorem HeardRel.step {W wr w1 w2 : World} {zss : List (List Int)} {k : Nat} {v v' : Value} {o : Obj} (h : HeardRel W zss k v wr) (hk : k < zss.length) (hb : Below wr.heap.size wr w1)
    (ho : Own w2 W.heap.size 1 v' (((zss.take k).map M.sumL).length + 1) (((zss.take k).map M.sumL).map (Value.int .i64) ++ [.int .i64 (M.sumL (zss[k]?.getD []))])) (hg : (w1.alloc o).grownBy w2 v.ownBlock) : HeardRel W zss (k + 1) v' w2 := by
  refine ⟨?_, ?_⟩
  · unfold OwnK
    rw [← M.map_take_snoc M.sumL zss [] k hk]
    simpa using ho
  · have h1 : Below W.heap.size W (w1.alloc o) := bal (btr h.2 hb) o
    have h2 : Own (w1.alloc o) W.heap.size 1 v _ _ := (h.1.below hb).alloc o
    exact h2.grown h1 h1.size hg
theorem HeardRel.row {W wr : World} {zss : List (List Int)} {v : Value} (h : HeardRel W zss zss.length v wr) : ∃ a n c, v = .slice a n c ∧ n = zss.length ∧ Row .i64 wr wr.heap.size a n c (zss.map M.sumL) := by
  obtain ⟨ho, _⟩ := h
  rw [List.take_length] at ho
  obtain ⟨a, c, rfl, _⟩ := ho.form
  exact ⟨a, _, c, rfl, by simp, Own.row ho fun b hb => by
    obtain ⟨zs, _, rfl⟩ := List.mem_map.1 hb
    have := M.sumL_bd zs
    exact sum_wf (by simp [M.sumB]; omega)⟩

theorem src_new2 {P : Program} (w : World) (o : Obj) (vs : List Value) (m c : Nat) (t tx e' : TypeId) (hk : P.underlying tx = some (.slice e')) (hm : vs.length = m) (h1 : ∀ u ∈ vs, u.oneCell' = true) :
    Go.Src P 1 tx (.slice (some ⟨w.heap.size + 1, 0, none⟩) m c) m vs ((w.alloc o).alloc (.cells vs.toArray t)) := by
  have := src_new (P := P) (w.alloc o) vs m c t tx e' hk hm h1
  rwa [show (w.alloc o).heap.size = w.heap.size + 1 by simp] at this

end Go.Proofs.YtmdknbgpddnplaaGreatDoor
namespace Go.Proofs.YtmdknbgpddnplaaGreatDoor
open Go.RowKit
set_option maxRecDepth 100000

/-- The slice v holds the rows, each of them a slice of bytes of the call's own, none of them in v's own block. -/
structure Own2 (w : World) (B : Nat) (v : Value) (rows : List (Value × List Int)) : Prop where
  own : Own w B 1 v rows.length (rows.map (·.1))
  each : ∀ x ∈ rows, ∃ a n c, x.1 = .slice a n c ∧ OwnK .u8 w B (.slice a n c) x.2 ∧ ∀ z ∈ x.2, (Lit.int .u8 z).wf = true
  apart : ∀ x ∈ rows, ∀ k, x.1.ownBlock = some k → v.ownBlock ≠ some k
section
variable {w w' : World} {B : Nat} {v : Value} {rows : List (Value × List Int)}
theorem Own2.keep (h : Own2 w B v rows) (hs : w.heap.size ≤ w'.heap.size) (hk : ∀ k, B ≤ k → k < w.heap.size → w'.heap[k]? = w.heap[k]?) : Own2 w' B v rows :=
  ⟨h.own.keep hs fun k e => hk k (h.own.lt k e).1 (h.own.lt k e).2, fun x hx => by
    obtain ⟨a, n, c, e, o, z⟩ := h.each x hx
    exact ⟨a, n, c, e, o.keep hs fun k e => hk k (o.lt k e).1 (o.lt k e).2, z⟩, h.apart⟩
theorem Own2.below (h : Own2 w B v rows) (hb : Below w.heap.size w w') : Own2 w' B v rows := h.keep hb.size fun k _ hk => hb.block k hk
theorem Own2.alloc (h : Own2 w B v rows) (o : Obj) : Own2 (w.alloc o) B v rows := h.below (bal (Below.refl _ _) o)
theorem Own2.kept {g : Nat} (h : Own2 w B v rows) (hg : w.grownBy w' (some g)) (hne : g < B) : Own2 w' B v rows :=
  h.keep hg.size fun k hB hk => hg.block k hk (fun e => by injection e with e; omega)
theorem Own2.only {g : Nat} (h : Own2 w B v rows) (hg : Only g w w') (hne : g < B) : Own2 w' B v rows :=
  h.keep (by rw [hg.size]; exact Nat.le_refl _) fun k hB _ => hg.block k (by omega)
theorem Own2.nil (w : World) (B : Nat) : Own2 w B (.slice none 0 0) [] := ⟨Own.nil _ _ _, (fun _ h => by cases h), (fun _ h => by cases h)⟩
theorem Own2.empty (h : Own w B 1 v 0 []) : Own2 w B v [] := ⟨h, (fun _ h => by cases h), (fun _ h => by cases h)⟩
/-- One more row was appended. -/
theorem Own2.more {w1 w2 : World} {v' : Value} {a : Option Addr} {n c : Nat} {zs : List Int} (h : Own2 w1 B v rows) (ho : OwnK .u8 w1 B (.slice a n c) zs) (hz : ∀ z ∈ zs, (Lit.int .u8 z).wf = true)
    (hne : ∀ k, Value.ownBlock (.slice a n c) = some k → v.ownBlock ≠ some k)
    (hn : Own w2 B 1 v' (rows.length + 1) (rows.map (·.1) ++ [.slice a n c])) (hg : w1.grownBy w2 v.ownBlock) (hat : v'.ownBlock = v.ownBlock ∨ v'.ownBlock = some w1.heap.size) : Own2 w2 B v' (rows ++ [(.slice a n c, zs)]) := by
  have keepRow : ∀ {u : Value} {m : Nat} {xs : List Value}, Own w1 B 1 u m xs → (∀ k, u.ownBlock = some k → v.ownBlock ≠ some k) → Own w2 B 1 u m xs := fun {u m xs} o hne => by
    refine o.keep hg.size fun k hk => hg.block k (o.lt k hk).2 (fun e => hne k hk e.symm)
  have newApart : ∀ {u : Value} {m : Nat} {xs : List Value}, Own w1 B 1 u m xs → (∀ k, u.ownBlock = some k → v.ownBlock ≠ some k) → ∀ k, u.ownBlock = some k → v'.ownBlock ≠ some k := fun {u m xs} o hne k hk => by
    rcases hat with e | e
    · rw [e]; exact hne k hk
    · rw [e]
      intro e2
      injection e2 with e2
      have := (o.lt k hk).2
      omega
  refine ⟨by simpa using hn, fun x hx => ?_, fun x hx k hk => ?_⟩
  · rcases List.mem_append.1 hx with hx | hx
    · obtain ⟨a1, n1, c1, e1, o1, z1⟩ := h.each x hx
      exact ⟨a1, n1, c1, e1, keepRow o1 (by rw [← e1]; exact h.apart x hx), z1⟩
    · simp at hx
      subst hx
      exact ⟨a, n, c, rfl, keepRow ho hne, hz⟩
  · rcases List.mem_append.1 hx with hx | hx
    · obtain ⟨a1, n1, c1, e1, o1, z1⟩ := h.each x hx
      exact newApart o1 (by rw [← e1]; exact h.apart x hx) k (by rw [← e1]; exact hk)
    · simp at hx
      subst hx
      exact newApart ho hne k hk
/-- It can be read. -/
theorem Own2.grid (h : Own2 w B v rows) : ∃ a n c, v = .slice a n c ∧ n = rows.length ∧ Grid w w.heap.size a n c (rows.map (·.2)) := by
  rcases h.own.2 with ⟨rfl, h0⟩ | ⟨g, cap, rfl, hb, hg, h1, h2, hc, _⟩
  · have : rows = [] := List.eq_nil_of_length_eq_zero h0
    subst this
    exact ⟨none, 0, 0, rfl, rfl, Grid.nil _ _⟩
  · refine ⟨some ⟨g, 0, none⟩, rows.length, cap, rfl, rfl, by simp, h1, h2, fun hp => ⟨g, 0, rfl, hg, fun j hj => ?_⟩⟩
    have hx : rows[j] ∈ rows := List.getElem_mem hj
    obtain ⟨a, n, c, e, o, z⟩ := h.each _ hx
    refine ⟨a, n, c, ?_, ?_⟩
    · rw [Nat.zero_add]
      exact hc j _ (by simp [hj, e])
    · have e2 : (rows.map (·.2))[j]?.getD [] = rows[j].2 := by simp [hj]
      rw [e2]
      exact Own.row o z
theorem Own2.rows_wf (h : Own2 w B v rows) : ∀ zs ∈ rows.map (·.2), ∀ z ∈ zs, (Lit.int .u8 z).wf = true := by
  intro zs hzs z hz
  obtain ⟨x, hx, rfl⟩ := List.mem_map.1 hzs
  obtain ⟨_, _, _, _, _, hw⟩ := h.each x hx
  exact hw z hz
/-- n nil rows, newly made. -/
theorem Own2.made (w : World) (n : Nat) (e : TypeId) (hB : B ≤ w.heap.size) (hm : n ≤ maxLen) : Own2 (w.alloc (.cells (madeCells #[.slice none 0 0] n) e)) B (.slice (some ⟨w.heap.size, 0, none⟩) n n) (List.replicate n (.slice none 0 0, [])) := by
  have e1 : (w.alloc (.cells (madeCells #[.slice none 0 0] n) e)).heap[w.heap.size]? = some (.cells (madeCells #[.slice none 0 0] n) e) := (MapKept.heap_alloc w _).1
  have hs : (madeCells #[Value.slice none 0 0] n).size = n := size_madeCells _ _
  refine ⟨⟨by simp, .inr ⟨w.heap.size, n, by simp, hB, by simp, by simp, hm, fun j u hu => ?_, fun j hj => ?_⟩⟩, fun x hx => ?_, fun x hx k hk => ?_⟩
  · unfold World.cell?
    rw [e1]
    have ht := toList_madeCells_one (.slice none 0 0) n
    simp only [Option.isSome_none, Bool.false_eq_true, if_false]
    rw [← Array.getElem?_toList, ht]
    simpa using hu
  · unfold World.cell? World.frozen?
    rw [e1]
    simp [show j < (madeCells #[Value.slice none 0 0] n).size by rw [hs]; omega]
  · obtain ⟨_, rfl⟩ := List.mem_replicate.1 hx
    exact ⟨none, 0, 0, rfl, Own.nil _ _ _, fun _ h => by cases h⟩
  · obtain ⟨_, rfl⟩ := List.mem_replicate.1 hx
    simp [Value.ownBlock] at hk
end
/-- n zero numbers, newly made. -/
theorem OwnK.made (k : IntKind) {B : Nat} (w : World) (n : Nat) (e : TypeId) (hB : B ≤ w.heap.size) (hm : n ≤ maxLen) : OwnK k (w.alloc (.cells (madeCells #[.int k 0] n) e)) B (.slice (some ⟨w.heap.size, 0, none⟩) n n) (List.replicate n 0) := by
  have e1 : (w.alloc (.cells (madeCells #[.int k 0] n) e)).heap[w.heap.size]? = some (.cells (madeCells #[.int k 0] n) e) := (MapKept.heap_alloc w _).1
  have hs : (madeCells #[Value.int k 0] n).size = n := size_madeCells _ _
  refine ⟨by simp, .inr ⟨w.heap.size, n, by simp, hB, by simp, by simp, hm, fun j u hu => ?_, fun j hj => ?_⟩⟩
  · unfold World.cell?
    rw [e1]
    have ht := toList_madeCells_one (.int k 0) n
    simp only [Option.isSome_none, Bool.false_eq_true, if_false]
    rw [← Array.getElem?_toList, ht]
    simpa using hu
  · unfold World.cell? World.frozen?
    rw [e1]
    simp [show j < (madeCells #[Value.int k 0] n).size by rw [hs]; omega]
theorem zeros_wf (k : IntKind) (n : Nat) : ∀ z ∈ List.replicate n (0 : Int), (Lit.int k z).wf = true := by
  intro z hz
  obtain ⟨_, rfl⟩ := List.mem_replicate.1 hz
  cases k <;> decide
end Go.Proofs.YtmdknbgpddnplaaGreatDoor
