/- Texts of this seat that several laws rest on, laid into one. Conditions: as each theorem states. -/
import Derived.Test.YtmdknbgpddnplaaGreatDoorS5
import Derived.Test.YtmdknbgpddnplaaGreatDoorS7
import Derived.Test.YtmdknbgpddnplaaGreatDoorS9
namespace Go.Proofs.YtmdknbgpddnplaaGreatDoor
open Go.RowKit
set_option maxRecDepth 100000
set_option linter.unusedVariables false

set_option maxHeartbeats 2000000 in
theorem specApplyRoll_any (a : Option Addr) (len cap B : Nat) (ps : List PinD) (r : RollD) (t : Int) (w : World) (hR : PRow w B a len cap ps) (hB : B ≤ w.heap.size) (hn : r.p.n.size ≤ maxLen) :
    Calls Tryz.prog 22 #[.slice a len cap, R8 r, .int .i64 t] w (PinsRes (applyC ps r t) (applyL ps r t) w) := by
  have hL := Lib.hid hR.length
  have hf := hR.fits
  have hm := hR.most
  unfold maxLen at hm
  have hN := Lib.hid hR.names
  have b0 := bal (bal (Below.refl _ w) (.cells #[.string r.p.n, .int .i64 r.p.a, .int .i64 r.p.b, .int .i64 r.p.e, .int .i64 r.p.u, .int .i64 r.b, .int .i64 r.x, .int .i64 r.y] 29)) (.cells #[.int .i64 0, .slice none 0 0] 37)
  have Q0 : At w.heap.size r.vals ((w.alloc (.cells #[.string r.p.n, .int .i64 r.p.a, .int .i64 r.p.b, .int .i64 r.p.e, .int .i64 r.p.u, .int .i64 r.b, .int .i64 r.x, .int .i64 r.y] 29)).alloc (.cells #[.int .i64 0, .slice none 0 0] 37)) := (At.new w r.vals 29).alloc _
  have Z0 : At (w.heap.size + 1) [.int .i64 0, .slice none 0 0] ((w.alloc (.cells #[.string r.p.n, .int .i64 r.p.a, .int .i64 r.p.b, .int .i64 r.p.e, .int .i64 r.p.u, .int .i64 r.b, .int .i64 r.x, .int .i64 r.y] 29)).alloc (.cells #[.int .i64 0, .slice none 0 0] 37)) := At.newN (w := w.alloc (.cells #[.string r.p.n, .int .i64 r.p.a, .int .i64 r.p.b, .int .i64 r.p.e, .int .i64 r.p.u, .int .i64 r.b, .int .i64 r.x, .int .i64 r.y] 29)) [.int .i64 0, .slice none 0 0] 37 (by simp)
  have F := l7Pins_any a len cap B ps _ (hR.below (b0.mono hB)) (Nat.le_trans hB b0.size)
  have G := fun g w A => l8Fault_any g r w A hn
  by_cases h0 : pinsF ps = 0
  case neg =>
    rw [(applyC_list h0).1, (applyC_list h0).2]
    generalize pinsF ps = c at *
    have q0 : (c == 0) = false := by simpa using h0
    clear hR
    go_enter Tryz.func22, Tryz.ntmps22
    go_wp2_with fail
    generalize (w.alloc (.cells #[.string r.p.n, .int .i64 r.p.a, .int .i64 r.p.b, .int .i64 r.p.e, .int .i64 r.p.u, .int .i64 r.b, .int .i64 r.x, .int .i64 r.y] 29)).alloc (.cells #[.int .i64 0, .slice none 0 0] 37) = W0 at *
    refine F.mono ?_
    rintro e u1 ⟨rfl, b1⟩
    have Q1 := Q0.on b1
    have Z1 := Z0.on b1
    have B1 := btr b0 b1
    clear Q0 Z0 b0 b1 F
    have z0 := Z1.cell 0 _ rfl
    have z1 := Z1.cell 1 _ rfl
    have h0 := Z1.free 0 _ rfl
    have h1 := Z1.free 1 _ rfl
    have HB := Lib.hid B1
    clear Z1 B1
    go_wp2_with fail
    refine bodyPost_ret (v := .agg #[.int .i64 c, .slice none 0 0]) (by simp [results, Tryz.results22, go_sem, z0, z1]) rfl ⟨none, 0, 0, rfl, OwnP.nil _ _, ?_⟩
    exact (by (iterate 2 (refine bset ?_ (by dsimp only; omega) _)); exact HB.out)
  rw [h0] at F
  by_cases h1 : r.f = 0
  case neg =>
    rw [(applyC_roll h0 h1).1, (applyC_roll h0 h1).2]
    generalize r.f = c at *
    have q0 : (c == 0) = false := by simpa using h1
    clear hR
    go_enter Tryz.func22, Tryz.ntmps22
    go_wp2_with fail
    generalize (w.alloc (.cells #[.string r.p.n, .int .i64 r.p.a, .int .i64 r.p.b, .int .i64 r.p.e, .int .i64 r.p.u, .int .i64 r.b, .int .i64 r.x, .int .i64 r.y] 29)).alloc (.cells #[.int .i64 0, .slice none 0 0] 37) = W0 at *
    refine F.mono ?_
    rintro e u1 ⟨rfl, b1⟩
    have Q1 := Q0.on b1
    have Z1 := Z0.on b1
    have B1 := btr b0 b1
    clear Q0 Z0 b0 b1 F
    go_wp2_with fail
    refine (G _ _ Q1).mono ?_
    rintro e u2 ⟨rfl, b2⟩
    have Q2 := Q1.on b2
    have Z2 := Z1.on b2
    have B2 := btr B1 b2
    clear Q1 Z1 B1 b2 G
    have z0 := Z2.cell 0 _ rfl
    have z1 := Z2.cell 1 _ rfl
    have h0 := Z2.free 0 _ rfl
    have h1 := Z2.free 1 _ rfl
    have HB := Lib.hid B2
    clear Z2 B2
    go_wp2_with fail
    refine bodyPost_ret (v := .agg #[.int .i64 c, .slice none 0 0]) (by simp [results, Tryz.results22, go_sem, z0, z1]) rfl ⟨none, 0, 0, rfl, OwnP.nil _ _, ?_⟩
    exact (by (iterate 2 (refine bset ?_ (by dsimp only; omega) _)); exact HB.out)
  rw [h1] at G
  have AT := Lib.hid (fun (w1 : World) (h : Below w.heap.size w w1) => l7At_any a len cap B ps r.p.n w1 (hR.below (h.mono hB)) (Nat.le_trans hB h.size))
  rcases atI_spec ps r.p.n.data.toList 0 with ⟨hfn, hat⟩ | ⟨k, hk, hat, hfs⟩
  · have e := applyC_none (t := t) h0 h1 hfn
    rw [e.1, e.2]
    rw [hat] at AT
    clear e hR h0 h1 hfn hat
    go_enter Tryz.func22, Tryz.ntmps22
    go_wp2_with fail
    generalize (w.alloc (.cells #[.string r.p.n, .int .i64 r.p.a, .int .i64 r.p.b, .int .i64 r.p.e, .int .i64 r.p.u, .int .i64 r.b, .int .i64 r.x, .int .i64 r.y] 29)).alloc (.cells #[.int .i64 0, .slice none 0 0] 37) = W0 at *
    refine F.mono ?_
    rintro e u1 ⟨rfl, b1⟩
    have Q1 := Q0.on b1
    have Z1 := Z0.on b1
    have B1 := btr b0 b1
    clear Q0 Z0 b0 b1 F
    go_wp2_with fail
    refine (G _ _ Q1).mono ?_
    rintro e u2 ⟨rfl, b2⟩
    have Q2 := Q1.on b2
    have Z2 := Z1.on b2
    have B2 := btr B1 b2
    clear Q1 Z1 B1 b2 G
    have c0 := Q2.cell 0 _ rfl
    go_wp2_with fail
    refine (AT.out _ B2).mono ?_
    rintro e u3 ⟨rfl, b3⟩
    have Q3 := Q2.on b3
    have Z3 := Z2.on b3
    have B3 := btr B2 b3
    clear Q2 Z2 B2 b3 AT c0
    have z0 := Z3.cell 0 _ rfl
    have z1 := Z3.cell 1 _ rfl
    have h0 := Z3.free 0 _ rfl
    have h1 := Z3.free 1 _ rfl
    have HB := Lib.hid B3
    clear Z3 B3
    go_wp2_with fail
    refine bodyPost_ret (v := .agg #[.int .i64 4, .slice none 0 0]) (by simp [results, Tryz.results22, go_sem, z0, z1]) rfl ⟨none, 0, 0, rfl, OwnP.nil _ _, ?_⟩
    exact (by (iterate 2 (refine bset ?_ (by dsimp only; omega) _)); exact HB.out)
  · rw [hat] at AT
    have hkl : k < len := by rw [← hL.out]; exact hk
    have RW := Lib.hid (fun (w1 : World) (h : Below w.heap.size w w1) => (hR.below (h.mono hB)).at' hkl)
    have hqn := hR.name hkl
    have LP := Lib.hid (fun (w1 : World) (h : Below w.heap.size w w1) => l7Put_any a len cap B ps r.p w1 (hR.below (h.mono hB)) (Nat.le_trans hB h.size) (by have := (pinsF_zero h0).1; have := hL.out; omega))
    have hrp := (rollF_zero h1).1
    by_cases h2 : checkF (ps[k]?.getD pin0) r t = 0
    · have e := applyC_put (t := t) h0 h1 hfs h2
      rw [e.1, e.2, (put0_code h0 hrp).1, (put0_code h0 hrp).2]
      have CK := fun w => specCheckRoll_any (ps[k]?.getD pin0) r t w hqn hn
      rw [h2] at CK
      clear e hR h0 h1 hat hfs h2 hrp
      generalize hq : ps[k]?.getD pin0 = q at *
      go_enter Tryz.func22, Tryz.ntmps22
      go_wp2_with fail
      generalize (w.alloc (.cells #[.string r.p.n, .int .i64 r.p.a, .int .i64 r.p.b, .int .i64 r.p.e, .int .i64 r.p.u, .int .i64 r.b, .int .i64 r.x, .int .i64 r.y] 29)).alloc (.cells #[.int .i64 0, .slice none 0 0] 37) = W0 at *
      refine F.mono ?_
      rintro e u1 ⟨rfl, b1⟩
      have Q1 := Q0.on b1
      have Z1 := Z0.on b1
      have B1 := btr b0 b1
      clear Q0 Z0 b0 b1 F
      go_wp2_with fail
      refine (G _ _ Q1).mono ?_
      rintro e u2 ⟨rfl, b2⟩
      have Q2 := Q1.on b2
      have Z2 := Z1.on b2
      have B2 := btr B1 b2
      clear Q1 Z1 B1 b2 G
      have c0 := Q2.cell 0 _ rfl
      go_wp2_with fail
      refine (AT.out _ B2).mono ?_
      rintro e u3 ⟨rfl, b3⟩
      have Q3 := Q2.on b3
      have Z3 := Z2.on b3
      have B3 := btr B2 b3
      clear Q2 Z2 B2 b3 AT c0
      have hka : ((0 : Int) + (k : Nat)) = k := by omega
      obtain ⟨b, off, hab, hbB, c0, c1, c2, c3, c4⟩ := RW.out _ B3
      have HK1 := Lib.hid hq
      clear hq
      subst hab
      have d0 := Q3.cell 0 _ rfl
      have d1 := Q3.cell 1 _ rfl
      have d2 := Q3.cell 2 _ rfl
      have d3 := Q3.cell 3 _ rfl
      have d4 := Q3.cell 4 _ rfl
      have d5 := Q3.cell 5 _ rfl
      have d6 := Q3.cell 6 _ rfl
      have d7 := Q3.cell 7 _ rfl
      go_wp2_with fail
      refine wp_region_line (Bel u3) [(0, true), (1, true), (2, true), (3, true), (4, true), (5, true), (6, false), (7, true)] (by kernel_rfl) (by kernel_rfl) (fun _ _ d _ _ h => by cases d <;> exact h) (Bel.drew u3) ?_
      have hst := Bel.drew u3
      have inst : Nonempty (Of (Bel u3)) := ⟨⟨_, hst⟩⟩
      have q0 := bel_cell c0
      have q1 := bel_cell c1
      have q2 := bel_cell c2
      have q3 := bel_cell c3
      have q4 := bel_cell c4
      have y0 := bel_cell d0
      have y1 := bel_cell d1
      have y2 := bel_cell d2
      have y3 := bel_cell d3
      have y4 := bel_cell d4
      have y5 := bel_cell d5
      have y6 := bel_cell d6
      have y7 := bel_cell d7
      iterate 6 (refine line_read rfl (by kernel_rfl) (fun K hK => ?_); go_big_quiet_op; refine hK _ ?_; clear hK K)
      refine line_alone rfl (by kernel_rfl) (fun K hK => ?_)
      refine call_wp (args := #[P5 q, R8 r, .int .i64 t]) rfl (by kernel_rfl) (by kernel_rfl) (CK _) (fun wn hbn => ?_)
      have hst2 := hst.on hbn
      refine hK _ _ hst2 ?_
      clear hK K hst hbn
      have hst := hst2
      clear hst2
      simp only [Act.put, List.setIfInBounds_toArray, List.set_cons_zero, List.set_cons_succ]
      iterate 1 (refine line_read rfl (by kernel_rfl) (fun K hK => ?_); go_big_quiet_op; refine hK _ ?_; clear hK K)
      refine line_nil ?_
      have B4 := btr B3 hst.out
      have Q4 := Q3.on hst.out
      have Z4 := Z3.on hst.out
      clear hst inst q0 q1 q2 q3 q4 y0 y1 y2 y3 y4 y5 y6 y7 c0 c1 c2 c3 c4 d0 d1 d2 d3 d4 d5 d6 d7 Q3 Z3 B3 CK
      have d0 := Q4.cell 0 _ rfl
      have d1 := Q4.cell 1 _ rfl
      have d2 := Q4.cell 2 _ rfl
      have d3 := Q4.cell 3 _ rfl
      have d4 := Q4.cell 4 _ rfl
      go_wp2_with fail
      refine (LP.out _ B4).mono ?_
      rintro e u5 ⟨a5, n5, c5, rfl, O5, b5⟩
      generalize put0 ps r.p = pc at *
      generalize put1 ps r.p = zs at *
      have lt5 := Z4.lt (by simp)
      have Z5 := Z4.on b5
      have B5 := btr B4 b5
      have HO := Lib.hid O5
      clear Q4 Z4 B4 b5 LP O5 d0 d1 d2 d3 d4
      have z0 := Z5.cell 0 _ rfl
      have z1 := Z5.cell 1 _ rfl
      have h0 := Z5.free 0 _ rfl
      have h1 := Z5.free 1 _ rfl
      have HB := Lib.hid B5
      clear Z5 B5
      go_wp2_with fail
      refine bodyPost_ret (v := .agg #[.int .i64 pc, .slice a5 n5 c5]) (by simp [results, Tryz.results22, go_sem, z0, z1]) rfl ⟨a5, n5, c5, rfl, ?_, (by (iterate 2 (refine bset ?_ (by dsimp only; omega) _)); exact HB.out)⟩
      have hlt := Own.lt HO.out
      refine Own.setCell (Own.setCell (HO.out.less (by omega)) (fun k hk e => ?_) _) (fun k hk e => ?_) _
      · have := (hlt k hk).1; dsimp only at e; omega
      · have := (hlt k hk).1; dsimp only at e; omega
    · have e := applyC_check (t := t) h0 h1 hfs h2
      rw [e.1, e.2]
      have CK := fun w => specCheckRoll_any (ps[k]?.getD pin0) r t w hqn hn
      generalize checkF (ps[k]?.getD pin0) r t = c at *
      have n0 : (c == 0) = false := by simpa using h2
      clear e hR h0 h1 hat hfs hrp LP
      generalize hq : ps[k]?.getD pin0 = q at *
      go_enter Tryz.func22, Tryz.ntmps22
      go_wp2_with fail
      generalize (w.alloc (.cells #[.string r.p.n, .int .i64 r.p.a, .int .i64 r.p.b, .int .i64 r.p.e, .int .i64 r.p.u, .int .i64 r.b, .int .i64 r.x, .int .i64 r.y] 29)).alloc (.cells #[.int .i64 0, .slice none 0 0] 37) = W0 at *
      refine F.mono ?_
      rintro e u1 ⟨rfl, b1⟩
      have Q1 := Q0.on b1
      have Z1 := Z0.on b1
      have B1 := btr b0 b1
      clear Q0 Z0 b0 b1 F
      go_wp2_with fail
      refine (G _ _ Q1).mono ?_
      rintro e u2 ⟨rfl, b2⟩
      have Q2 := Q1.on b2
      have Z2 := Z1.on b2
      have B2 := btr B1 b2
      clear Q1 Z1 B1 b2 G
      have c0 := Q2.cell 0 _ rfl
      go_wp2_with fail
      refine (AT.out _ B2).mono ?_
      rintro e u3 ⟨rfl, b3⟩
      have Q3 := Q2.on b3
      have Z3 := Z2.on b3
      have B3 := btr B2 b3
      clear Q2 Z2 B2 b3 AT c0
      have hka : ((0 : Int) + (k : Nat)) = k := by omega
      obtain ⟨b, off, hab, hbB, c0, c1, c2, c3, c4⟩ := RW.out _ B3
      have HK1 := Lib.hid hq
      clear hq
      subst hab
      have d0 := Q3.cell 0 _ rfl
      have d1 := Q3.cell 1 _ rfl
      have d2 := Q3.cell 2 _ rfl
      have d3 := Q3.cell 3 _ rfl
      have d4 := Q3.cell 4 _ rfl
      have d5 := Q3.cell 5 _ rfl
      have d6 := Q3.cell 6 _ rfl
      have d7 := Q3.cell 7 _ rfl
      go_wp2_with fail
      refine wp_region_line (Bel u3) [(0, true), (1, true), (2, true), (3, true), (4, true), (5, true), (6, false), (7, true)] (by kernel_rfl) (by kernel_rfl) (fun _ _ d _ _ h => by cases d <;> exact h) (Bel.drew u3) ?_
      have hst := Bel.drew u3
      have inst : Nonempty (Of (Bel u3)) := ⟨⟨_, hst⟩⟩
      have q0 := bel_cell c0
      have q1 := bel_cell c1
      have q2 := bel_cell c2
      have q3 := bel_cell c3
      have q4 := bel_cell c4
      have y0 := bel_cell d0
      have y1 := bel_cell d1
      have y2 := bel_cell d2
      have y3 := bel_cell d3
      have y4 := bel_cell d4
      have y5 := bel_cell d5
      have y6 := bel_cell d6
      have y7 := bel_cell d7
      iterate 6 (refine line_read rfl (by kernel_rfl) (fun K hK => ?_); go_big_quiet_op; refine hK _ ?_; clear hK K)
      refine line_alone rfl (by kernel_rfl) (fun K hK => ?_)
      refine call_wp (args := #[P5 q, R8 r, .int .i64 t]) rfl (by kernel_rfl) (by kernel_rfl) (CK _) (fun wn hbn => ?_)
      have hst2 := hst.on hbn
      refine hK _ _ hst2 ?_
      clear hK K hst hbn
      have hst := hst2
      clear hst2
      simp only [Act.put, List.setIfInBounds_toArray, List.set_cons_zero, List.set_cons_succ]
      iterate 1 (refine line_read rfl (by kernel_rfl) (fun K hK => ?_); go_big_quiet_op; refine hK _ ?_; clear hK K)
      refine line_nil ?_
      have B4 := btr B3 hst.out
      have Q4 := Q3.on hst.out
      have Z4 := Z3.on hst.out
      clear hst inst q0 q1 q2 q3 q4 y0 y1 y2 y3 y4 y5 y6 y7 c0 c1 c2 c3 c4 d0 d1 d2 d3 d4 d5 d6 d7 Q3 Z3 B3 CK
      have z0 := Z4.cell 0 _ rfl
      have z1 := Z4.cell 1 _ rfl
      have h0 := Z4.free 0 _ rfl
      have h1 := Z4.free 1 _ rfl
      have HB := Lib.hid B4
      clear Z4 B4
      go_wp2_with fail
      refine bodyPost_ret (v := .agg #[.int .i64 c, .slice none 0 0]) (by simp [results, Tryz.results22, go_sem, z0, z1]) rfl ⟨none, 0, 0, rfl, OwnP.nil _ _, ?_⟩
      exact (by (iterate 2 (refine bset ?_ (by dsimp only; omega) _)); exact HB.out)

/-- The pin that was looked up, in a block of its own. -/
def Looked (W : World) (o : Option PinD) (v1 v2 : Value) (wx : World) : Prop := ∃ ob, v1 = .pointer (some ⟨ob, 0, none⟩) ∧ v2 = .bool o.isSome ∧ At ob (o.getD pin0).vals wx ∧ Below W.heap.size W wx
set_option maxHeartbeats 4000000 in
theorem implApplyRoll_any (a : Option Addr) (len cap B : Nat) (ps : List PinD) (r : RollD) (t : Int) (w : World) (lab : Labels w) (ert : ErrT w) (hR : PRow w B a len cap ps) (hB : B ≤ w.heap.size) (hn : r.p.n.size ≤ maxLen) :
    Calls Tryz.prog 13 #[.slice a len cap, R8 r, .int .i64 t] w (PinsRes (applyC ps r t) (applyL ps r t) w) := by
  have hL := Lib.hid hR.length
  have hf := hR.fits
  have hm := hR.most
  unfold maxLen at hm
  have hN := Lib.hid hR.names
  have b0 := bal (bal (Below.refl _ w) (.cells #[.string r.p.n, .int .i64 r.p.a, .int .i64 r.p.b, .int .i64 r.p.e, .int .i64 r.p.u, .int .i64 r.b, .int .i64 r.x, .int .i64 r.y] 29)) (.cells #[.int .i64 0, .slice none 0 0] 37)
  have Q0 : At w.heap.size r.vals ((w.alloc (.cells #[.string r.p.n, .int .i64 r.p.a, .int .i64 r.p.b, .int .i64 r.p.e, .int .i64 r.p.u, .int .i64 r.b, .int .i64 r.x, .int .i64 r.y] 29)).alloc (.cells #[.int .i64 0, .slice none 0 0] 37)) := (At.new w r.vals 29).alloc _
  have Z0 : At (w.heap.size + 1) [.int .i64 0, .slice none 0 0] ((w.alloc (.cells #[.string r.p.n, .int .i64 r.p.a, .int .i64 r.p.b, .int .i64 r.p.e, .int .i64 r.p.u, .int .i64 r.b, .int .i64 r.x, .int .i64 r.y] 29)).alloc (.cells #[.int .i64 0, .slice none 0 0] 37)) := At.newN (w := w.alloc (.cells #[.string r.p.n, .int .i64 r.p.a, .int .i64 r.p.b, .int .i64 r.p.e, .int .i64 r.p.u, .int .i64 r.b, .int .i64 r.x, .int .i64 r.y] 29)) [.int .i64 0, .slice none 0 0] 37 (by simp)
  have lab0 := lab.on b0
  have ert0 := ert.on b0
  clear lab ert
  have F := implPinsFault_any a len cap B ps _ (hR.below (b0.mono hB)) (Nat.le_trans hB b0.size)
  by_cases h0 : pinsF ps = 0
  case neg =>
    rw [(applyC_list h0).1, (applyC_list h0).2]
    generalize pinsF ps = c at *
    have q0 : (c == 0) = false := by simpa using h0
    clear hR
    go_enter Tryz.func13, Tryz.ntmps13
    go_wp2_with fail
    generalize (w.alloc (.cells #[.string r.p.n, .int .i64 r.p.a, .int .i64 r.p.b, .int .i64 r.p.e, .int .i64 r.p.u, .int .i64 r.b, .int .i64 r.x, .int .i64 r.y] 29)).alloc (.cells #[.int .i64 0, .slice none 0 0] 37) = W0 at *
    refine F.mono ?_
    rintro e u1 ⟨rfl, b1⟩
    have Q1 := Q0.on b1
    have Z1 := Z0.on b1
    have B1 := btr b0 b1
    have L1 := lab0.on b1
    have E1 := ert0.on b1
    clear Q0 Z0 b0 b1 F lab0 ert0
    have z0 := Z1.cell 0 _ rfl
    have z1 := Z1.cell 1 _ rfl
    have h0 := Z1.free 0 _ rfl
    have h1 := Z1.free 1 _ rfl
    have HB := Lib.hid B1
    clear Z1 B1
    go_wp2_with fail
    refine bodyPost_ret (v := .agg #[.int .i64 c, .slice none 0 0]) (by simp [results, Tryz.results13, go_sem, z0, z1]) rfl ⟨none, 0, 0, rfl, OwnP.nil _ _, ?_⟩
    exact (by (iterate 2 (refine bset ?_ (by dsimp only; omega) _)); exact HB.out)
  rw [h0] at F
  by_cases h1 : r.f = 0
  case neg =>
    rw [(applyC_roll h0 h1).1, (applyC_roll h0 h1).2]
    have G := fun w => rolloverOf_no r w hn h1
    generalize r.f = c at *
    clear hR
    go_enter Tryz.func13, Tryz.ntmps13
    go_wp2_with fail
    generalize (w.alloc (.cells #[.string r.p.n, .int .i64 r.p.a, .int .i64 r.p.b, .int .i64 r.p.e, .int .i64 r.p.u, .int .i64 r.b, .int .i64 r.x, .int .i64 r.y] 29)).alloc (.cells #[.int .i64 0, .slice none 0 0] 37) = W0 at *
    refine F.mono ?_
    rintro e u1 ⟨rfl, b1⟩
    have Q1 := Q0.on b1
    have Z1 := Z0.on b1
    have B1 := btr b0 b1
    have L1 := lab0.on b1
    have E1 := ert0.on b1
    clear Q0 Z0 b0 b1 F lab0 ert0
    have d0 := Q1.cell 0 _ rfl
    have d1 := Q1.cell 1 _ rfl
    have d2 := Q1.cell 2 _ rfl
    have d3 := Q1.cell 3 _ rfl
    have d4 := Q1.cell 4 _ rfl
    have d5 := Q1.cell 5 _ rfl
    have d6 := Q1.cell 6 _ rfl
    have d7 := Q1.cell 7 _ rfl
    go_wp2_with fail
    refine (G _).mono ?_
    rintro e u2 ⟨z, hz, rfl, b2⟩
    have ba := btr b2 (bal (Below.refl _ u2) (.cells #[.string { data := #[] }, .int .i64 0, .int .i64 0, .int .i64 0, .int .i64 0, .int .i64 0, .int .i64 0, .int .i64 0] 95))
    have Z2 := Z1.on ba
    have B2 := btr B1 ba
    have E2 := E1.on ba
    have ne := hz.all.neq
    have ng := hz.all.gneq
    clear Q1 Z1 B1 L1 E1 b2 ba G d0 d1 d2 d3 d4 d5 d6 d7
    go_wp2_with fail
    refine (codeOf_err hz.all _ E2).mono ?_
    rintro e u3 ⟨rfl, b3⟩
    have Z3 := Z2.on b3
    have B3 := btr B2 b3
    clear Z2 B2 E2 b3
    have z0 := Z3.cell 0 _ rfl
    have z1 := Z3.cell 1 _ rfl
    have h0 := Z3.free 0 _ rfl
    have h1 := Z3.free 1 _ rfl
    have HB := Lib.hid B3
    clear Z3 B3
    go_wp2_with fail
    refine bodyPost_ret (v := .agg #[.int .i64 c, .slice none 0 0]) (by simp [results, Tryz.results13, go_sem, z0, z1]) rfl ⟨none, 0, 0, rfl, OwnP.nil _ _, ?_⟩
    exact (by (iterate 2 (refine bset ?_ (by dsimp only; omega) _)); exact HB.out)
  have G := fun w => rolloverOf_yes r w hn h1
  obtain ⟨hl4, hgood, hrise⟩ := pinsF_zero h0
  have LK := Lib.hid (fun (w : World) (b : Nat) (h : PMap w b ps) => h.look (s := r.p.n) hn)
  have BN := Lib.hid (fun (w1 : World) (h : Below w.heap.size w w1) => pinsByName_any a len cap B ps w1 (hR.below (h.mono hB)) (Nat.le_trans hB h.size) (by have := hL.out; omega) hrise.apart)
  have PP := Lib.hid (fun (w1 : World) (h : Below w.heap.size w w1) => implPutPin_any a len cap B ps r.p w1 (hR.below (h.mono hB)) (Nat.le_trans hB h.size) hn)
  have hnames := hR.names
  clear hR hgood hrise hl4
  cases hfo : findP ps r.p.nm with
  | none =>
    have e := applyC_none (t := t) h0 h1 hfo
    rw [e.1, e.2]
    have hf2 : findP ps r.p.n.data.toList = none := hfo
    simp only [hf2, Option.getD_none, Option.isSome_none] at LK
    clear e h0 h1 hfo hf2 PP hnames
    generalize hfo : (none : Option PinD) = fo
    go_enter Tryz.func13, Tryz.ntmps13
    go_wp2_with fail
    generalize (w.alloc (.cells #[.string r.p.n, .int .i64 r.p.a, .int .i64 r.p.b, .int .i64 r.p.e, .int .i64 r.p.u, .int .i64 r.b, .int .i64 r.x, .int .i64 r.y] 29)).alloc (.cells #[.int .i64 0, .slice none 0 0] 37) = W0 at *
    refine F.mono ?_
    rintro e u1 ⟨rfl, b1⟩
    have Q1 := Q0.on b1
    have Z1 := Z0.on b1
    have B1 := btr b0 b1
    have L1 := lab0.on b1
    have E1 := ert0.on b1
    clear Q0 Z0 b0 b1 F lab0 ert0
    have d0 := Q1.cell 0 _ rfl
    have d1 := Q1.cell 1 _ rfl
    have d2 := Q1.cell 2 _ rfl
    have d3 := Q1.cell 3 _ rfl
    have d4 := Q1.cell 4 _ rfl
    have d5 := Q1.cell 5 _ rfl
    have d6 := Q1.cell 6 _ rfl
    have d7 := Q1.cell 7 _ rfl
    go_wp2_with fail
    refine (G _).mono ?_
    rintro e u2 ⟨rfl, b2⟩
    have ba := btr b2 (bal (Below.refl _ u2) (.cells #[.string r.p.n, .int .i64 r.p.a, .int .i64 r.p.b, .int .i64 r.p.e, .int .i64 r.p.u, .int .i64 r.b, .int .i64 r.x, .int .i64 r.y] 95))
    have Q2 := Q1.on ba
    have Z2 := Z1.on ba
    have X2 : At u2.heap.size r.vals (u2.alloc (.cells #[.string r.p.n, .int .i64 r.p.a, .int .i64 r.p.b, .int .i64 r.p.e, .int .i64 r.p.u, .int .i64 r.b, .int .i64 r.x, .int .i64 r.y] 95)) := At.new u2 r.vals 95
    have B2 := btr B1 ba
    have L2 := L1.on ba
    have E2 := E1.on ba
    clear Q1 Z1 B1 L1 E1 b2 ba G d0 d1 d2 d3 d4 d5 d6 d7
    have x0 := X2.cell 0 _ rfl
    go_upto_region 7 with fail
    generalize u2.alloc (.cells #[.string r.p.n, .int .i64 r.p.a, .int .i64 r.p.b, .int .i64 r.p.e, .int .i64 r.p.u, .int .i64 r.b, .int .i64 r.x, .int .i64 r.y] 95) = W2 at *
    generalize u2.heap.size = xb at *
    go_cut [10, 11] from 29 to 38 (fun v1 v2 wx => Looked W2 fo v1 v2 wx)
    case first =>
      refine wp_region_fork (Bel W2) (by kernel_rfl) (Bel.drew W2) ?_
      have hst : (Bel W2) _ := (Bel.drew W2)
      have inst : Nonempty (Of (Bel W2)) := ⟨⟨_, hst⟩⟩
      have y0 := bel_cell x0
      generalize W2.drew = V1 at *
      refine any_seg 8 [(0, true), (2, true), (3, true), (4, true)] (by kernel_rfl) (fun _ _ d _ _ h => by cases d <;> exact h) ?_
      iterate 4 (refine line_read rfl (by kernel_rfl) (fun K hK => ?_); go_big_quiet_op; refine hK _ ?_; clear hK K)
      refine line_nil ?_
      clear y0
      refine any_fork 1 9 (by kernel_rfl) rfl rfl (by kernel_rfl) (by kernel_rfl) (fun K hK => ?_) (fun K hK => ?_)
      · refine call_any (args := #[.slice a len cap]) rfl (by kernel_rfl) (by kernel_rfl) (BN.out _ (btr B2 hst.out)) ?_
        rintro e x1 ⟨rfl, M1, hbn⟩
        have hst2 := hst.on hbn
        refine ⟨_, rfl, hK _ _ hst2 ?_⟩
        clear hK K hst hbn
        have hst := hst2
        clear hst2
        simp only [Act.put, List.setIfInBounds_toArray, List.set_cons_zero, List.set_cons_succ]
        have lk := LK.out _ _ M1
        refine any_fork 5 9 (by kernel_rfl) rfl rfl (by kernel_rfl) (by kernel_rfl) (fun K hK => ?_) (fun K hK => ?_)
        · go_big_op
          refine hK _ _ hst ?_
          clear hK K lk M1
          refine any_rest [(6, true), (7, true), (8, true), (9, false), (10, false), (11, true)] (by kernel_rfl) (fun _ _ d _ _ h => by cases d <;> exact h) ?_
          iterate 3 (refine line_read rfl (by kernel_rfl) (fun K hK => ?_); go_big_quiet_op; refine hK _ ?_; clear hK K)
          refine line_alone rfl (by kernel_rfl) (fun K hK => ?_)
          go_big_op
          have hst2 := hst.on (bal (Below.refl _ x1) (.cells #[.string { data := #[] }, .int .i64 0, .int .i64 0, .int .i64 0, .int .i64 0] 25))
          have A : At x1.heap.size pin0.vals (x1.alloc (.cells #[.string { data := #[] }, .int .i64 0, .int .i64 0, .int .i64 0, .int .i64 0] 25)) := At.new x1 pin0.vals 25
          have leA : W2.heap.size ≤ x1.heap.size := hst.out.size
          refine hK _ _ hst2 ?_
          clear hK K hst
          have hst := hst2
          clear hst2
          generalize x1.alloc (.cells #[.string { data := #[] }, .int .i64 0, .int .i64 0, .int .i64 0, .int .i64 0] 25) = xa at *
          generalize x1.heap.size = ga at *
          have h0 := A.cell 0 _ rfl
          have h1 := A.cell 1 _ rfl
          have h2 := A.cell 2 _ rfl
          have h3 := A.cell 3 _ rfl
          have h4 := A.cell 4 _ rfl
          have f0 := A.free 0 _ rfl
          have f1 := A.free 1 _ rfl
          have f2 := A.free 2 _ rfl
          have f3 := A.free 3 _ rfl
          have f4 := A.free 4 _ rfl
          refine line_alone rfl (by kernel_rfl) (fun K hK => ?_)
          go_big_op
          refine hK _ _ (⟨(by (iterate 5 (refine bset ?_ (by dsimp only; omega) _)); exact hst.out)⟩) ?_
          clear hK K
          have A9 := ((((A.set 0 (.string pin0.n)).set 1 (.int .i64 pin0.a)).set 2 (.int .i64 pin0.b)).set 3 (.int .i64 pin0.e)).set 4 (.int .i64 pin0.u)
          iterate 1 (refine line_read rfl (by kernel_rfl) (fun K hK => ?_); go_big_quiet_op; refine hK _ ?_; clear hK K)
          refine line_nil ?_
          have HB9 := Lib.hid (show Below W2.heap.size W2 (((((xa.setCell ⟨ga, 0, none⟩ (.string pin0.n)).setCell ⟨ga, 1, none⟩ (.int .i64 pin0.a)).setCell ⟨ga, 2, none⟩ (.int .i64 pin0.b)).setCell ⟨ga, 3, none⟩ (.int .i64 pin0.e)).setCell ⟨ga, 4, none⟩ (.int .i64 pin0.u)) from (by (iterate 5 (refine bset ?_ (by dsimp only; omega) _)); exact hst.out))
          have HA9 := Lib.hid A9
          clear hst A A9
          go_wp2_with fail
          go_meet
          case rel =>
            subst hfo
            exact ⟨_, rfl, rfl, HA9.out, HB9.out⟩
        · go_big_op
          have hst2 := hst.on (bal (Below.refl _ x1) (.cells #[.string { data := #[] }, .int .i64 0, .int .i64 0, .int .i64 0, .int .i64 0] 25))
          have A : At x1.heap.size pin0.vals (x1.alloc (.cells #[.string { data := #[] }, .int .i64 0, .int .i64 0, .int .i64 0, .int .i64 0] 25)) := At.new x1 pin0.vals 25
          have leA : W2.heap.size ≤ x1.heap.size := hst.out.size
          refine hK _ _ hst2 ?_
          clear hK K hst
          have hst := hst2
          clear hst2
          have M2 := M1.on (bal (Below.refl _ x1) (.cells #[.string { data := #[] }, .int .i64 0, .int .i64 0, .int .i64 0, .int .i64 0] 25))
          have lk := LK.out _ _ M2
          clear M1 M2
          generalize x1.alloc (.cells #[.string { data := #[] }, .int .i64 0, .int .i64 0, .int .i64 0, .int .i64 0] 25) = xa at *
          generalize x1.heap.size = ga at *
          refine any_rest [(5, false), (6, true), (7, true), (8, true), (10, false), (11, true)] (by kernel_rfl) (fun _ _ d _ _ h => by cases d <;> exact h) ?_
          refine line_alone rfl (by kernel_rfl) (fun K hK => ?_)
          go_big_op
          refine hK _ _ hst ?_
          clear hK K lk
          iterate 3 (refine line_read rfl (by kernel_rfl) (fun K hK => ?_); go_big_quiet_op; refine hK _ ?_; clear hK K)
          have h0 := A.cell 0 _ rfl
          have h1 := A.cell 1 _ rfl
          have h2 := A.cell 2 _ rfl
          have h3 := A.cell 3 _ rfl
          have h4 := A.cell 4 _ rfl
          have f0 := A.free 0 _ rfl
          have f1 := A.free 1 _ rfl
          have f2 := A.free 2 _ rfl
          have f3 := A.free 3 _ rfl
          have f4 := A.free 4 _ rfl
          refine line_alone rfl (by kernel_rfl) (fun K hK => ?_)
          go_big_op
          refine hK _ _ (⟨(by (iterate 5 (refine bset ?_ (by dsimp only; omega) _)); exact hst.out)⟩) ?_
          clear hK K
          have A9 := ((((A.set 0 (.string pin0.n)).set 1 (.int .i64 pin0.a)).set 2 (.int .i64 pin0.b)).set 3 (.int .i64 pin0.e)).set 4 (.int .i64 pin0.u)
          iterate 1 (refine line_read rfl (by kernel_rfl) (fun K hK => ?_); go_big_quiet_op; refine hK _ ?_; clear hK K)
          refine line_nil ?_
          have HB9 := Lib.hid (show Below W2.heap.size W2 (((((xa.setCell ⟨ga, 0, none⟩ (.string pin0.n)).setCell ⟨ga, 1, none⟩ (.int .i64 pin0.a)).setCell ⟨ga, 2, none⟩ (.int .i64 pin0.b)).setCell ⟨ga, 3, none⟩ (.int .i64 pin0.e)).setCell ⟨ga, 4, none⟩ (.int .i64 pin0.u)) from (by (iterate 5 (refine bset ?_ (by dsimp only; omega) _)); exact hst.out))
          have HA9 := Lib.hid A9
          clear hst A A9
          go_wp2_with fail
          go_meet
          case rel =>
            subst hfo
            exact ⟨_, rfl, rfl, HA9.out, HB9.out⟩
      · go_big_op
        have hst2 := hst.on (bal (Below.refl _ V1) (.cells #[.string { data := #[] }, .int .i64 0, .int .i64 0, .int .i64 0, .int .i64 0] 25))
        have A : At V1.heap.size pin0.vals (V1.alloc (.cells #[.string { data := #[] }, .int .i64 0, .int .i64 0, .int .i64 0, .int .i64 0] 25)) := At.new V1 pin0.vals 25
        have leA : W2.heap.size ≤ V1.heap.size := hst.out.size
        refine hK _ _ hst2 ?_
        clear hK K hst
        have hst := hst2
        clear hst2
        generalize V1.alloc (.cells #[.string { data := #[] }, .int .i64 0, .int .i64 0, .int .i64 0, .int .i64 0] 25) = xa at *
        generalize V1.heap.size = ga at *
        refine any_rest [(1, false), (5, false), (6, true), (7, true), (8, true), (10, false), (11, true)] (by kernel_rfl) (fun _ _ d _ _ h => by cases d <;> exact h) ?_
        refine line_alone rfl (by kernel_rfl) (fun K hK => ?_)
        refine call_any (args := #[.slice a len cap]) rfl (by kernel_rfl) (by kernel_rfl) (BN.out _ (btr B2 hst.out)) ?_
        rintro e x1 ⟨rfl, M1, hbn⟩
        have hst2 := hst.on hbn
        have A2 := A.on hbn
        clear A
        have A := A2
        clear A2
        refine ⟨_, rfl, hK _ _ hst2 ?_⟩
        clear hK K hst hbn
        have hst := hst2
        clear hst2
        simp only [Act.put, List.setIfInBounds_toArray, List.set_cons_zero, List.set_cons_succ]
        have lk := LK.out _ _ M1
        refine line_alone rfl (by kernel_rfl) (fun K hK => ?_)
        go_big_op
        refine hK _ _ hst ?_
        clear hK K lk M1
        iterate 3 (refine line_read rfl (by kernel_rfl) (fun K hK => ?_); go_big_quiet_op; refine hK _ ?_; clear hK K)
        have h0 := A.cell 0 _ rfl
        have h1 := A.cell 1 _ rfl
        have h2 := A.cell 2 _ rfl
        have h3 := A.cell 3 _ rfl
        have h4 := A.cell 4 _ rfl
        have f0 := A.free 0 _ rfl
        have f1 := A.free 1 _ rfl
        have f2 := A.free 2 _ rfl
        have f3 := A.free 3 _ rfl
        have f4 := A.free 4 _ rfl
        refine line_alone rfl (by kernel_rfl) (fun K hK => ?_)
        go_big_op
        refine hK _ _ (⟨(by (iterate 5 (refine bset ?_ (by dsimp only; omega) _)); exact hst.out)⟩) ?_
        clear hK K
        have A9 := ((((A.set 0 (.string pin0.n)).set 1 (.int .i64 pin0.a)).set 2 (.int .i64 pin0.b)).set 3 (.int .i64 pin0.e)).set 4 (.int .i64 pin0.u)
        iterate 1 (refine line_read rfl (by kernel_rfl) (fun K hK => ?_); go_big_quiet_op; refine hK _ ?_; clear hK K)
        refine line_nil ?_
        have HB9 := Lib.hid (show Below W2.heap.size W2 (((((x1.setCell ⟨ga, 0, none⟩ (.string pin0.n)).setCell ⟨ga, 1, none⟩ (.int .i64 pin0.a)).setCell ⟨ga, 2, none⟩ (.int .i64 pin0.b)).setCell ⟨ga, 3, none⟩ (.int .i64 pin0.e)).setCell ⟨ga, 4, none⟩ (.int .i64 pin0.u)) from (by (iterate 5 (refine bset ?_ (by dsimp only; omega) _)); exact hst.out))
        have HA9 := Lib.hid A9
        clear hst A A9
        go_wp2_with fail
        go_meet
        case rel =>
          subst hfo
          exact ⟨_, rfl, rfl, HA9.out, HB9.out⟩
    case rest =>
      obtain ⟨ob, rfl, rfl, X3, f3⟩ := hcut
      subst hfo
      have Z3 := Z2.on f3
      have B3 := btr B2 f3
      clear Q2 Z2 X2 B2 L2 E2 f3 x0 X3
      have z0 := Z3.cell 0 _ rfl
      have z1 := Z3.cell 1 _ rfl
      have h0 := Z3.free 0 _ rfl
      have h1 := Z3.free 1 _ rfl
      have HB := Lib.hid B3
      clear Z3 B3
      go_wp2_with fail
      refine bodyPost_ret (v := .agg #[.int .i64 4, .slice none 0 0]) (by simp [results, Tryz.results13, go_sem, z0, z1]) rfl ⟨none, 0, 0, rfl, OwnP.nil _ _, ?_⟩
      exact (by (iterate 2 (refine bset ?_ (by dsimp only; omega) _)); exact HB.out)
  | some q =>
    have hf2 : findP ps r.p.n.data.toList = some q := hfo
    simp only [hf2, Option.getD_some, Option.isSome_some] at LK
    have hqn : q.n.size ≤ maxLen := hnames q (findP_mem hfo).1
    clear hnames hf2
    have CK := fun w lab => checkReason_any q r t w lab hqn hn
    by_cases h2 : checkF q r t = 0
    · have e := applyC_put (t := t) h0 h1 hfo h2
      rw [e.1, e.2]
      rw [h2] at CK
      clear e h0 h1 hfo h2
      generalize hfo : some q = fo
      go_enter Tryz.func13, Tryz.ntmps13
      go_wp2_with fail
      generalize (w.alloc (.cells #[.string r.p.n, .int .i64 r.p.a, .int .i64 r.p.b, .int .i64 r.p.e, .int .i64 r.p.u, .int .i64 r.b, .int .i64 r.x, .int .i64 r.y] 29)).alloc (.cells #[.int .i64 0, .slice none 0 0] 37) = W0 at *
      refine F.mono ?_
      rintro e u1 ⟨rfl, b1⟩
      have Q1 := Q0.on b1
      have Z1 := Z0.on b1
      have B1 := btr b0 b1
      have L1 := lab0.on b1
      have E1 := ert0.on b1
      clear Q0 Z0 b0 b1 F lab0 ert0
      have d0 := Q1.cell 0 _ rfl
      have d1 := Q1.cell 1 _ rfl
      have d2 := Q1.cell 2 _ rfl
      have d3 := Q1.cell 3 _ rfl
      have d4 := Q1.cell 4 _ rfl
      have d5 := Q1.cell 5 _ rfl
      have d6 := Q1.cell 6 _ rfl
      have d7 := Q1.cell 7 _ rfl
      go_wp2_with fail
      refine (G _).mono ?_
      rintro e u2 ⟨rfl, b2⟩
      have ba := btr b2 (bal (Below.refl _ u2) (.cells #[.string r.p.n, .int .i64 r.p.a, .int .i64 r.p.b, .int .i64 r.p.e, .int .i64 r.p.u, .int .i64 r.b, .int .i64 r.x, .int .i64 r.y] 95))
      have Q2 := Q1.on ba
      have Z2 := Z1.on ba
      have X2 : At u2.heap.size r.vals (u2.alloc (.cells #[.string r.p.n, .int .i64 r.p.a, .int .i64 r.p.b, .int .i64 r.p.e, .int .i64 r.p.u, .int .i64 r.b, .int .i64 r.x, .int .i64 r.y] 95)) := At.new u2 r.vals 95
      have B2 := btr B1 ba
      have L2 := L1.on ba
      have E2 := E1.on ba
      clear Q1 Z1 B1 L1 E1 b2 ba G d0 d1 d2 d3 d4 d5 d6 d7
      have x0 := X2.cell 0 _ rfl
      go_upto_region 7 with fail
      generalize u2.alloc (.cells #[.string r.p.n, .int .i64 r.p.a, .int .i64 r.p.b, .int .i64 r.p.e, .int .i64 r.p.u, .int .i64 r.b, .int .i64 r.x, .int .i64 r.y] 95) = W2 at *
      generalize u2.heap.size = xb at *
      go_cut [10, 11] from 29 to 38 (fun v1 v2 wx => Looked W2 fo v1 v2 wx)
      case first =>
        refine wp_region_fork (Bel W2) (by kernel_rfl) (Bel.drew W2) ?_
        have hst : (Bel W2) _ := (Bel.drew W2)
        have inst : Nonempty (Of (Bel W2)) := ⟨⟨_, hst⟩⟩
        have y0 := bel_cell x0
        generalize W2.drew = V1 at *
        refine any_seg 8 [(0, true), (2, true), (3, true), (4, true)] (by kernel_rfl) (fun _ _ d _ _ h => by cases d <;> exact h) ?_
        iterate 4 (refine line_read rfl (by kernel_rfl) (fun K hK => ?_); go_big_quiet_op; refine hK _ ?_; clear hK K)
        refine line_nil ?_
        clear y0
        refine any_fork 1 9 (by kernel_rfl) rfl rfl (by kernel_rfl) (by kernel_rfl) (fun K hK => ?_) (fun K hK => ?_)
        · refine call_any (args := #[.slice a len cap]) rfl (by kernel_rfl) (by kernel_rfl) (BN.out _ (btr B2 hst.out)) ?_
          rintro e x1 ⟨rfl, M1, hbn⟩
          have hst2 := hst.on hbn
          refine ⟨_, rfl, hK _ _ hst2 ?_⟩
          clear hK K hst hbn
          have hst := hst2
          clear hst2
          simp only [Act.put, List.setIfInBounds_toArray, List.set_cons_zero, List.set_cons_succ]
          have lk := LK.out _ _ M1
          refine any_fork 5 9 (by kernel_rfl) rfl rfl (by kernel_rfl) (by kernel_rfl) (fun K hK => ?_) (fun K hK => ?_)
          · go_big_op
            refine hK _ _ hst ?_
            clear hK K lk M1
            refine any_rest [(6, true), (7, true), (8, true), (9, false), (10, false), (11, true)] (by kernel_rfl) (fun _ _ d _ _ h => by cases d <;> exact h) ?_
            iterate 3 (refine line_read rfl (by kernel_rfl) (fun K hK => ?_); go_big_quiet_op; refine hK _ ?_; clear hK K)
            refine line_alone rfl (by kernel_rfl) (fun K hK => ?_)
            go_big_op
            have hst2 := hst.on (bal (Below.refl _ x1) (.cells #[.string { data := #[] }, .int .i64 0, .int .i64 0, .int .i64 0, .int .i64 0] 25))
            have A : At x1.heap.size pin0.vals (x1.alloc (.cells #[.string { data := #[] }, .int .i64 0, .int .i64 0, .int .i64 0, .int .i64 0] 25)) := At.new x1 pin0.vals 25
            have leA : W2.heap.size ≤ x1.heap.size := hst.out.size
            refine hK _ _ hst2 ?_
            clear hK K hst
            have hst := hst2
            clear hst2
            generalize x1.alloc (.cells #[.string { data := #[] }, .int .i64 0, .int .i64 0, .int .i64 0, .int .i64 0] 25) = xa at *
            generalize x1.heap.size = ga at *
            have h0 := A.cell 0 _ rfl
            have h1 := A.cell 1 _ rfl
            have h2 := A.cell 2 _ rfl
            have h3 := A.cell 3 _ rfl
            have h4 := A.cell 4 _ rfl
            have f0 := A.free 0 _ rfl
            have f1 := A.free 1 _ rfl
            have f2 := A.free 2 _ rfl
            have f3 := A.free 3 _ rfl
            have f4 := A.free 4 _ rfl
            refine line_alone rfl (by kernel_rfl) (fun K hK => ?_)
            go_big_op
            refine hK _ _ (⟨(by (iterate 5 (refine bset ?_ (by dsimp only; omega) _)); exact hst.out)⟩) ?_
            clear hK K
            have A9 := ((((A.set 0 (.string q.n)).set 1 (.int .i64 q.a)).set 2 (.int .i64 q.b)).set 3 (.int .i64 q.e)).set 4 (.int .i64 q.u)
            iterate 1 (refine line_read rfl (by kernel_rfl) (fun K hK => ?_); go_big_quiet_op; refine hK _ ?_; clear hK K)
            refine line_nil ?_
            have HB9 := Lib.hid (show Below W2.heap.size W2 (((((xa.setCell ⟨ga, 0, none⟩ (.string q.n)).setCell ⟨ga, 1, none⟩ (.int .i64 q.a)).setCell ⟨ga, 2, none⟩ (.int .i64 q.b)).setCell ⟨ga, 3, none⟩ (.int .i64 q.e)).setCell ⟨ga, 4, none⟩ (.int .i64 q.u)) from (by (iterate 5 (refine bset ?_ (by dsimp only; omega) _)); exact hst.out))
            have HA9 := Lib.hid A9
            clear hst A A9
            go_wp2_with fail
            go_meet
            case rel =>
              subst hfo
              exact ⟨_, rfl, rfl, HA9.out, HB9.out⟩
          · go_big_op
            have hst2 := hst.on (bal (Below.refl _ x1) (.cells #[.string { data := #[] }, .int .i64 0, .int .i64 0, .int .i64 0, .int .i64 0] 25))
            have A : At x1.heap.size pin0.vals (x1.alloc (.cells #[.string { data := #[] }, .int .i64 0, .int .i64 0, .int .i64 0, .int .i64 0] 25)) := At.new x1 pin0.vals 25
            have leA : W2.heap.size ≤ x1.heap.size := hst.out.size
            refine hK _ _ hst2 ?_
            clear hK K hst
            have hst := hst2
            clear hst2
            have M2 := M1.on (bal (Below.refl _ x1) (.cells #[.string { data := #[] }, .int .i64 0, .int .i64 0, .int .i64 0, .int .i64 0] 25))
            have lk := LK.out _ _ M2
            clear M1 M2
            generalize x1.alloc (.cells #[.string { data := #[] }, .int .i64 0, .int .i64 0, .int .i64 0, .int .i64 0] 25) = xa at *
            generalize x1.heap.size = ga at *
            refine any_rest [(5, false), (6, true), (7, true), (8, true), (10, false), (11, true)] (by kernel_rfl) (fun _ _ d _ _ h => by cases d <;> exact h) ?_
            refine line_alone rfl (by kernel_rfl) (fun K hK => ?_)
            go_big_op
            refine hK _ _ hst ?_
            clear hK K lk
            iterate 3 (refine line_read rfl (by kernel_rfl) (fun K hK => ?_); go_big_quiet_op; refine hK _ ?_; clear hK K)
            have h0 := A.cell 0 _ rfl
            have h1 := A.cell 1 _ rfl
            have h2 := A.cell 2 _ rfl
            have h3 := A.cell 3 _ rfl
            have h4 := A.cell 4 _ rfl
            have f0 := A.free 0 _ rfl
            have f1 := A.free 1 _ rfl
            have f2 := A.free 2 _ rfl
            have f3 := A.free 3 _ rfl
            have f4 := A.free 4 _ rfl
            refine line_alone rfl (by kernel_rfl) (fun K hK => ?_)
            go_big_op
            refine hK _ _ (⟨(by (iterate 5 (refine bset ?_ (by dsimp only; omega) _)); exact hst.out)⟩) ?_
            clear hK K
            have A9 := ((((A.set 0 (.string q.n)).set 1 (.int .i64 q.a)).set 2 (.int .i64 q.b)).set 3 (.int .i64 q.e)).set 4 (.int .i64 q.u)
            iterate 1 (refine line_read rfl (by kernel_rfl) (fun K hK => ?_); go_big_quiet_op; refine hK _ ?_; clear hK K)
            refine line_nil ?_
            have HB9 := Lib.hid (show Below W2.heap.size W2 (((((xa.setCell ⟨ga, 0, none⟩ (.string q.n)).setCell ⟨ga, 1, none⟩ (.int .i64 q.a)).setCell ⟨ga, 2, none⟩ (.int .i64 q.b)).setCell ⟨ga, 3, none⟩ (.int .i64 q.e)).setCell ⟨ga, 4, none⟩ (.int .i64 q.u)) from (by (iterate 5 (refine bset ?_ (by dsimp only; omega) _)); exact hst.out))
            have HA9 := Lib.hid A9
            clear hst A A9
            go_wp2_with fail
            go_meet
            case rel =>
              subst hfo
              exact ⟨_, rfl, rfl, HA9.out, HB9.out⟩
        · go_big_op
          have hst2 := hst.on (bal (Below.refl _ V1) (.cells #[.string { data := #[] }, .int .i64 0, .int .i64 0, .int .i64 0, .int .i64 0] 25))
          have A : At V1.heap.size pin0.vals (V1.alloc (.cells #[.string { data := #[] }, .int .i64 0, .int .i64 0, .int .i64 0, .int .i64 0] 25)) := At.new V1 pin0.vals 25
          have leA : W2.heap.size ≤ V1.heap.size := hst.out.size
          refine hK _ _ hst2 ?_
          clear hK K hst
          have hst := hst2
          clear hst2
          generalize V1.alloc (.cells #[.string { data := #[] }, .int .i64 0, .int .i64 0, .int .i64 0, .int .i64 0] 25) = xa at *
          generalize V1.heap.size = ga at *
          refine any_rest [(1, false), (5, false), (6, true), (7, true), (8, true), (10, false), (11, true)] (by kernel_rfl) (fun _ _ d _ _ h => by cases d <;> exact h) ?_
          refine line_alone rfl (by kernel_rfl) (fun K hK => ?_)
          refine call_any (args := #[.slice a len cap]) rfl (by kernel_rfl) (by kernel_rfl) (BN.out _ (btr B2 hst.out)) ?_
          rintro e x1 ⟨rfl, M1, hbn⟩
          have hst2 := hst.on hbn
          have A2 := A.on hbn
          clear A
          have A := A2
          clear A2
          refine ⟨_, rfl, hK _ _ hst2 ?_⟩
          clear hK K hst hbn
          have hst := hst2
          clear hst2
          simp only [Act.put, List.setIfInBounds_toArray, List.set_cons_zero, List.set_cons_succ]
          have lk := LK.out _ _ M1
          refine line_alone rfl (by kernel_rfl) (fun K hK => ?_)
          go_big_op
          refine hK _ _ hst ?_
          clear hK K lk M1
          iterate 3 (refine line_read rfl (by kernel_rfl) (fun K hK => ?_); go_big_quiet_op; refine hK _ ?_; clear hK K)
          have h0 := A.cell 0 _ rfl
          have h1 := A.cell 1 _ rfl
          have h2 := A.cell 2 _ rfl
          have h3 := A.cell 3 _ rfl
          have h4 := A.cell 4 _ rfl
          have f0 := A.free 0 _ rfl
          have f1 := A.free 1 _ rfl
          have f2 := A.free 2 _ rfl
          have f3 := A.free 3 _ rfl
          have f4 := A.free 4 _ rfl
          refine line_alone rfl (by kernel_rfl) (fun K hK => ?_)
          go_big_op
          refine hK _ _ (⟨(by (iterate 5 (refine bset ?_ (by dsimp only; omega) _)); exact hst.out)⟩) ?_
          clear hK K
          have A9 := ((((A.set 0 (.string q.n)).set 1 (.int .i64 q.a)).set 2 (.int .i64 q.b)).set 3 (.int .i64 q.e)).set 4 (.int .i64 q.u)
          iterate 1 (refine line_read rfl (by kernel_rfl) (fun K hK => ?_); go_big_quiet_op; refine hK _ ?_; clear hK K)
          refine line_nil ?_
          have HB9 := Lib.hid (show Below W2.heap.size W2 (((((x1.setCell ⟨ga, 0, none⟩ (.string q.n)).setCell ⟨ga, 1, none⟩ (.int .i64 q.a)).setCell ⟨ga, 2, none⟩ (.int .i64 q.b)).setCell ⟨ga, 3, none⟩ (.int .i64 q.e)).setCell ⟨ga, 4, none⟩ (.int .i64 q.u)) from (by (iterate 5 (refine bset ?_ (by dsimp only; omega) _)); exact hst.out))
          have HA9 := Lib.hid A9
          clear hst A A9
          go_wp2_with fail
          go_meet
          case rel =>
            subst hfo
            exact ⟨_, rfl, rfl, HA9.out, HB9.out⟩
      case rest =>
        obtain ⟨ob, rfl, rfl, X3', f3⟩ := hcut
        subst hfo
        have X3 : At ob q.vals _ := X3'
        have Q3 := Q2.on f3
        have Z3 := Z2.on f3
        have Y3 := X2.on f3
        have B3 := btr B2 f3
        have L3 := L2.on f3
        have E3 := E2.on f3
        clear Q2 Z2 X2 B2 L2 E2 f3 x0 X3'
        have d0 := Q3.cell 0 _ rfl
        have d1 := Q3.cell 1 _ rfl
        have d2 := Q3.cell 2 _ rfl
        have d3 := Q3.cell 3 _ rfl
        have d4 := Q3.cell 4 _ rfl
        have d5 := Q3.cell 5 _ rfl
        have d6 := Q3.cell 6 _ rfl
        have d7 := Q3.cell 7 _ rfl
        have c0 := X3.cell 0 _ rfl
        have c1 := X3.cell 1 _ rfl
        have c2 := X3.cell 2 _ rfl
        have c3 := X3.cell 3 _ rfl
        have c4 := X3.cell 4 _ rfl
        go_wp2_with fail
        refine (CK _ L3).mono ?_
        rintro e u4 ⟨z, hz0, hz1, rfl, b4⟩
        have Z4 := Z3.on b4
        have Y4 := Y3.on b4
        have B4 := btr B3 b4
        have E4 := E3.on b4
        clear Q3 Z3 X3 Y3 B3 L3 E3 b4 CK d0 d1 d2 d3 d4 d5 d6 d7 c0 c1 c2 c3 c4
        obtain rfl := hz0 rfl
        clear hz0 hz1
        have d0 := Y4.cell 0 _ rfl
        have d1 := Y4.cell 1 _ rfl
        have d2 := Y4.cell 2 _ rfl
        have d3 := Y4.cell 3 _ rfl
        have d4 := Y4.cell 4 _ rfl
        go_wp2_with fail
        refine (PP.out _ B4).mono ?_
        rintro e u5 ⟨a5, n5, c5, rfl, O5, b5⟩
        generalize putC ps r.p = pc at *
        generalize putR ps r.p = zs at *
        have lt5 := Z4.lt (by simp)
        have Z5 := Z4.on b5
        have B5 := btr B4 b5
        have HO := Lib.hid O5
        clear Y4 Z4 B4 E4 b5 PP O5 d0 d1 d2 d3 d4
        have z0 := Z5.cell 0 _ rfl
        have z1 := Z5.cell 1 _ rfl
        have h0 := Z5.free 0 _ rfl
        have h1 := Z5.free 1 _ rfl
        have HB := Lib.hid B5
        clear Z5 B5
        go_wp2_with fail
        refine bodyPost_ret (v := .agg #[.int .i64 pc, .slice a5 n5 c5]) (by simp [results, Tryz.results13, go_sem, z0, z1]) rfl ⟨a5, n5, c5, rfl, ?_, (by (iterate 2 (refine bset ?_ (by dsimp only; omega) _)); exact HB.out)⟩
        have hlt := Own.lt HO.out
        refine Own.setCell (Own.setCell (HO.out.less (by omega)) (fun k hk e => ?_) _) (fun k hk e => ?_) _
        · have := (hlt k hk).1; dsimp only at e; omega
        · have := (hlt k hk).1; dsimp only at e; omega
    · have e := applyC_check (t := t) h0 h1 hfo h2
      rw [e.1, e.2]
      generalize checkF q r t = c at *
      clear e h0 h1 hfo PP
      generalize hfo : some q = fo
      go_enter Tryz.func13, Tryz.ntmps13
      go_wp2_with fail
      generalize (w.alloc (.cells #[.string r.p.n, .int .i64 r.p.a, .int .i64 r.p.b, .int .i64 r.p.e, .int .i64 r.p.u, .int .i64 r.b, .int .i64 r.x, .int .i64 r.y] 29)).alloc (.cells #[.int .i64 0, .slice none 0 0] 37) = W0 at *
      refine F.mono ?_
      rintro e u1 ⟨rfl, b1⟩
      have Q1 := Q0.on b1
      have Z1 := Z0.on b1
      have B1 := btr b0 b1
      have L1 := lab0.on b1
      have E1 := ert0.on b1
      clear Q0 Z0 b0 b1 F lab0 ert0
      have d0 := Q1.cell 0 _ rfl
      have d1 := Q1.cell 1 _ rfl
      have d2 := Q1.cell 2 _ rfl
      have d3 := Q1.cell 3 _ rfl
      have d4 := Q1.cell 4 _ rfl
      have d5 := Q1.cell 5 _ rfl
      have d6 := Q1.cell 6 _ rfl
      have d7 := Q1.cell 7 _ rfl
      go_wp2_with fail
      refine (G _).mono ?_
      rintro e u2 ⟨rfl, b2⟩
      have ba := btr b2 (bal (Below.refl _ u2) (.cells #[.string r.p.n, .int .i64 r.p.a, .int .i64 r.p.b, .int .i64 r.p.e, .int .i64 r.p.u, .int .i64 r.b, .int .i64 r.x, .int .i64 r.y] 95))
      have Q2 := Q1.on ba
      have Z2 := Z1.on ba
      have X2 : At u2.heap.size r.vals (u2.alloc (.cells #[.string r.p.n, .int .i64 r.p.a, .int .i64 r.p.b, .int .i64 r.p.e, .int .i64 r.p.u, .int .i64 r.b, .int .i64 r.x, .int .i64 r.y] 95)) := At.new u2 r.vals 95
      have B2 := btr B1 ba
      have L2 := L1.on ba
      have E2 := E1.on ba
      clear Q1 Z1 B1 L1 E1 b2 ba G d0 d1 d2 d3 d4 d5 d6 d7
      have x0 := X2.cell 0 _ rfl
      go_upto_region 7 with fail
      generalize u2.alloc (.cells #[.string r.p.n, .int .i64 r.p.a, .int .i64 r.p.b, .int .i64 r.p.e, .int .i64 r.p.u, .int .i64 r.b, .int .i64 r.x, .int .i64 r.y] 95) = W2 at *
      generalize u2.heap.size = xb at *
      go_cut [10, 11] from 29 to 38 (fun v1 v2 wx => Looked W2 fo v1 v2 wx)
      case first =>
        refine wp_region_fork (Bel W2) (by kernel_rfl) (Bel.drew W2) ?_
        have hst : (Bel W2) _ := (Bel.drew W2)
        have inst : Nonempty (Of (Bel W2)) := ⟨⟨_, hst⟩⟩
        have y0 := bel_cell x0
        generalize W2.drew = V1 at *
        refine any_seg 8 [(0, true), (2, true), (3, true), (4, true)] (by kernel_rfl) (fun _ _ d _ _ h => by cases d <;> exact h) ?_
        iterate 4 (refine line_read rfl (by kernel_rfl) (fun K hK => ?_); go_big_quiet_op; refine hK _ ?_; clear hK K)
        refine line_nil ?_
        clear y0
        refine any_fork 1 9 (by kernel_rfl) rfl rfl (by kernel_rfl) (by kernel_rfl) (fun K hK => ?_) (fun K hK => ?_)
        · refine call_any (args := #[.slice a len cap]) rfl (by kernel_rfl) (by kernel_rfl) (BN.out _ (btr B2 hst.out)) ?_
          rintro e x1 ⟨rfl, M1, hbn⟩
          have hst2 := hst.on hbn
          refine ⟨_, rfl, hK _ _ hst2 ?_⟩
          clear hK K hst hbn
          have hst := hst2
          clear hst2
          simp only [Act.put, List.setIfInBounds_toArray, List.set_cons_zero, List.set_cons_succ]
          have lk := LK.out _ _ M1
          refine any_fork 5 9 (by kernel_rfl) rfl rfl (by kernel_rfl) (by kernel_rfl) (fun K hK => ?_) (fun K hK => ?_)
          · go_big_op
            refine hK _ _ hst ?_
            clear hK K lk M1
            refine any_rest [(6, true), (7, true), (8, true), (9, false), (10, false), (11, true)] (by kernel_rfl) (fun _ _ d _ _ h => by cases d <;> exact h) ?_
            iterate 3 (refine line_read rfl (by kernel_rfl) (fun K hK => ?_); go_big_quiet_op; refine hK _ ?_; clear hK K)
            refine line_alone rfl (by kernel_rfl) (fun K hK => ?_)
            go_big_op
            have hst2 := hst.on (bal (Below.refl _ x1) (.cells #[.string { data := #[] }, .int .i64 0, .int .i64 0, .int .i64 0, .int .i64 0] 25))
            have A : At x1.heap.size pin0.vals (x1.alloc (.cells #[.string { data := #[] }, .int .i64 0, .int .i64 0, .int .i64 0, .int .i64 0] 25)) := At.new x1 pin0.vals 25
            have leA : W2.heap.size ≤ x1.heap.size := hst.out.size
            refine hK _ _ hst2 ?_
            clear hK K hst
            have hst := hst2
            clear hst2
            generalize x1.alloc (.cells #[.string { data := #[] }, .int .i64 0, .int .i64 0, .int .i64 0, .int .i64 0] 25) = xa at *
            generalize x1.heap.size = ga at *
            have h0 := A.cell 0 _ rfl
            have h1 := A.cell 1 _ rfl
            have h2 := A.cell 2 _ rfl
            have h3 := A.cell 3 _ rfl
            have h4 := A.cell 4 _ rfl
            have f0 := A.free 0 _ rfl
            have f1 := A.free 1 _ rfl
            have f2 := A.free 2 _ rfl
            have f3 := A.free 3 _ rfl
            have f4 := A.free 4 _ rfl
            refine line_alone rfl (by kernel_rfl) (fun K hK => ?_)
            go_big_op
            refine hK _ _ (⟨(by (iterate 5 (refine bset ?_ (by dsimp only; omega) _)); exact hst.out)⟩) ?_
            clear hK K
            have A9 := ((((A.set 0 (.string q.n)).set 1 (.int .i64 q.a)).set 2 (.int .i64 q.b)).set 3 (.int .i64 q.e)).set 4 (.int .i64 q.u)
            iterate 1 (refine line_read rfl (by kernel_rfl) (fun K hK => ?_); go_big_quiet_op; refine hK _ ?_; clear hK K)
            refine line_nil ?_
            have HB9 := Lib.hid (show Below W2.heap.size W2 (((((xa.setCell ⟨ga, 0, none⟩ (.string q.n)).setCell ⟨ga, 1, none⟩ (.int .i64 q.a)).setCell ⟨ga, 2, none⟩ (.int .i64 q.b)).setCell ⟨ga, 3, none⟩ (.int .i64 q.e)).setCell ⟨ga, 4, none⟩ (.int .i64 q.u)) from (by (iterate 5 (refine bset ?_ (by dsimp only; omega) _)); exact hst.out))
            have HA9 := Lib.hid A9
            clear hst A A9
            go_wp2_with fail
            go_meet
            case rel =>
              subst hfo
              exact ⟨_, rfl, rfl, HA9.out, HB9.out⟩
          · go_big_op
            have hst2 := hst.on (bal (Below.refl _ x1) (.cells #[.string { data := #[] }, .int .i64 0, .int .i64 0, .int .i64 0, .int .i64 0] 25))
            have A : At x1.heap.size pin0.vals (x1.alloc (.cells #[.string { data := #[] }, .int .i64 0, .int .i64 0, .int .i64 0, .int .i64 0] 25)) := At.new x1 pin0.vals 25
            have leA : W2.heap.size ≤ x1.heap.size := hst.out.size
            refine hK _ _ hst2 ?_
            clear hK K hst
            have hst := hst2
            clear hst2
            have M2 := M1.on (bal (Below.refl _ x1) (.cells #[.string { data := #[] }, .int .i64 0, .int .i64 0, .int .i64 0, .int .i64 0] 25))
            have lk := LK.out _ _ M2
            clear M1 M2
            generalize x1.alloc (.cells #[.string { data := #[] }, .int .i64 0, .int .i64 0, .int .i64 0, .int .i64 0] 25) = xa at *
            generalize x1.heap.size = ga at *
            refine any_rest [(5, false), (6, true), (7, true), (8, true), (10, false), (11, true)] (by kernel_rfl) (fun _ _ d _ _ h => by cases d <;> exact h) ?_
            refine line_alone rfl (by kernel_rfl) (fun K hK => ?_)
            go_big_op
            refine hK _ _ hst ?_
            clear hK K lk
            iterate 3 (refine line_read rfl (by kernel_rfl) (fun K hK => ?_); go_big_quiet_op; refine hK _ ?_; clear hK K)
            have h0 := A.cell 0 _ rfl
            have h1 := A.cell 1 _ rfl
            have h2 := A.cell 2 _ rfl
            have h3 := A.cell 3 _ rfl
            have h4 := A.cell 4 _ rfl
            have f0 := A.free 0 _ rfl
            have f1 := A.free 1 _ rfl
            have f2 := A.free 2 _ rfl
            have f3 := A.free 3 _ rfl
            have f4 := A.free 4 _ rfl
            refine line_alone rfl (by kernel_rfl) (fun K hK => ?_)
            go_big_op
            refine hK _ _ (⟨(by (iterate 5 (refine bset ?_ (by dsimp only; omega) _)); exact hst.out)⟩) ?_
            clear hK K
            have A9 := ((((A.set 0 (.string q.n)).set 1 (.int .i64 q.a)).set 2 (.int .i64 q.b)).set 3 (.int .i64 q.e)).set 4 (.int .i64 q.u)
            iterate 1 (refine line_read rfl (by kernel_rfl) (fun K hK => ?_); go_big_quiet_op; refine hK _ ?_; clear hK K)
            refine line_nil ?_
            have HB9 := Lib.hid (show Below W2.heap.size W2 (((((xa.setCell ⟨ga, 0, none⟩ (.string q.n)).setCell ⟨ga, 1, none⟩ (.int .i64 q.a)).setCell ⟨ga, 2, none⟩ (.int .i64 q.b)).setCell ⟨ga, 3, none⟩ (.int .i64 q.e)).setCell ⟨ga, 4, none⟩ (.int .i64 q.u)) from (by (iterate 5 (refine bset ?_ (by dsimp only; omega) _)); exact hst.out))
            have HA9 := Lib.hid A9
            clear hst A A9
            go_wp2_with fail
            go_meet
            case rel =>
              subst hfo
              exact ⟨_, rfl, rfl, HA9.out, HB9.out⟩
        · go_big_op
          have hst2 := hst.on (bal (Below.refl _ V1) (.cells #[.string { data := #[] }, .int .i64 0, .int .i64 0, .int .i64 0, .int .i64 0] 25))
          have A : At V1.heap.size pin0.vals (V1.alloc (.cells #[.string { data := #[] }, .int .i64 0, .int .i64 0, .int .i64 0, .int .i64 0] 25)) := At.new V1 pin0.vals 25
          have leA : W2.heap.size ≤ V1.heap.size := hst.out.size
          refine hK _ _ hst2 ?_
          clear hK K hst
          have hst := hst2
          clear hst2
          generalize V1.alloc (.cells #[.string { data := #[] }, .int .i64 0, .int .i64 0, .int .i64 0, .int .i64 0] 25) = xa at *
          generalize V1.heap.size = ga at *
          refine any_rest [(1, false), (5, false), (6, true), (7, true), (8, true), (10, false), (11, true)] (by kernel_rfl) (fun _ _ d _ _ h => by cases d <;> exact h) ?_
          refine line_alone rfl (by kernel_rfl) (fun K hK => ?_)
          refine call_any (args := #[.slice a len cap]) rfl (by kernel_rfl) (by kernel_rfl) (BN.out _ (btr B2 hst.out)) ?_
          rintro e x1 ⟨rfl, M1, hbn⟩
          have hst2 := hst.on hbn
          have A2 := A.on hbn
          clear A
          have A := A2
          clear A2
          refine ⟨_, rfl, hK _ _ hst2 ?_⟩
          clear hK K hst hbn
          have hst := hst2
          clear hst2
          simp only [Act.put, List.setIfInBounds_toArray, List.set_cons_zero, List.set_cons_succ]
          have lk := LK.out _ _ M1
          refine line_alone rfl (by kernel_rfl) (fun K hK => ?_)
          go_big_op
          refine hK _ _ hst ?_
          clear hK K lk M1
          iterate 3 (refine line_read rfl (by kernel_rfl) (fun K hK => ?_); go_big_quiet_op; refine hK _ ?_; clear hK K)
          have h0 := A.cell 0 _ rfl
          have h1 := A.cell 1 _ rfl
          have h2 := A.cell 2 _ rfl
          have h3 := A.cell 3 _ rfl
          have h4 := A.cell 4 _ rfl
          have f0 := A.free 0 _ rfl
          have f1 := A.free 1 _ rfl
          have f2 := A.free 2 _ rfl
          have f3 := A.free 3 _ rfl
          have f4 := A.free 4 _ rfl
          refine line_alone rfl (by kernel_rfl) (fun K hK => ?_)
          go_big_op
          refine hK _ _ (⟨(by (iterate 5 (refine bset ?_ (by dsimp only; omega) _)); exact hst.out)⟩) ?_
          clear hK K
          have A9 := ((((A.set 0 (.string q.n)).set 1 (.int .i64 q.a)).set 2 (.int .i64 q.b)).set 3 (.int .i64 q.e)).set 4 (.int .i64 q.u)
          iterate 1 (refine line_read rfl (by kernel_rfl) (fun K hK => ?_); go_big_quiet_op; refine hK _ ?_; clear hK K)
          refine line_nil ?_
          have HB9 := Lib.hid (show Below W2.heap.size W2 (((((x1.setCell ⟨ga, 0, none⟩ (.string q.n)).setCell ⟨ga, 1, none⟩ (.int .i64 q.a)).setCell ⟨ga, 2, none⟩ (.int .i64 q.b)).setCell ⟨ga, 3, none⟩ (.int .i64 q.e)).setCell ⟨ga, 4, none⟩ (.int .i64 q.u)) from (by (iterate 5 (refine bset ?_ (by dsimp only; omega) _)); exact hst.out))
          have HA9 := Lib.hid A9
          clear hst A A9
          go_wp2_with fail
          go_meet
          case rel =>
            subst hfo
            exact ⟨_, rfl, rfl, HA9.out, HB9.out⟩
      case rest =>
        obtain ⟨ob, rfl, rfl, X3', f3⟩ := hcut
        subst hfo
        have X3 : At ob q.vals _ := X3'
        have Q3 := Q2.on f3
        have Z3 := Z2.on f3
        have Y3 := X2.on f3
        have B3 := btr B2 f3
        have L3 := L2.on f3
        have E3 := E2.on f3
        clear Q2 Z2 X2 B2 L2 E2 f3 x0 X3'
        have d0 := Q3.cell 0 _ rfl
        have d1 := Q3.cell 1 _ rfl
        have d2 := Q3.cell 2 _ rfl
        have d3 := Q3.cell 3 _ rfl
        have d4 := Q3.cell 4 _ rfl
        have d5 := Q3.cell 5 _ rfl
        have d6 := Q3.cell 6 _ rfl
        have d7 := Q3.cell 7 _ rfl
        have c0 := X3.cell 0 _ rfl
        have c1 := X3.cell 1 _ rfl
        have c2 := X3.cell 2 _ rfl
        have c3 := X3.cell 3 _ rfl
        have c4 := X3.cell 4 _ rfl
        go_wp2_with fail
        refine (CK _ L3).mono ?_
        rintro e u4 ⟨z, hz0, hz1, rfl, b4⟩
        have Z4 := Z3.on b4
        have Y4 := Y3.on b4
        have B4 := btr B3 b4
        have E4 := E3.on b4
        clear Q3 Z3 X3 Y3 B3 L3 E3 b4 CK d0 d1 d2 d3 d4 d5 d6 d7 c0 c1 c2 c3 c4
        have hz := hz1 h2
        have ne := hz.all.neq
        have ng := hz.all.gneq
        clear hz0 hz1 Y4
        go_wp2_with fail
        refine (codeOf_err hz.all _ E4).mono ?_
        rintro e u5 ⟨rfl, b5⟩
        have Z5 := Z4.on b5
        have B5 := btr B4 b5
        clear Z4 B4 E4 b5
        have z0 := Z5.cell 0 _ rfl
        have z1 := Z5.cell 1 _ rfl
        have h0 := Z5.free 0 _ rfl
        have h1 := Z5.free 1 _ rfl
        have HB := Lib.hid B5
        clear Z5 B5
        go_wp2_with fail
        refine bodyPost_ret (v := .agg #[.int .i64 c, .slice none 0 0]) (by simp [results, Tryz.results13, go_sem, z0, z1]) rfl ⟨none, 0, 0, rfl, OwnP.nil _ _, ?_⟩
        exact (by (iterate 2 (refine bset ?_ (by dsimp only; omega) _)); exact HB.out)
end Go.Proofs.YtmdknbgpddnplaaGreatDoor
namespace Go.Proofs.YtmdknbgpddnplaaGreatDoor

theorem applyL_len (ps : List PinD) (r : RollD) (t : Int) : (applyL ps r t).length ≤ 5 := by
  by_cases h : applyC ps r t = 0
  · obtain ⟨-, -, q, -, -, -, e⟩ := applyC_zero h
    rw [e]
    exact putR_len ps r.p
  · unfold applyL
    rw [if_neg h]
    exact Nat.zero_le _
theorem applyL_names {ps : List PinD} {r : RollD} {t : Int} (h : ∀ q ∈ ps, q.n.size ≤ maxLen) (hp : r.p.n.size ≤ maxLen) : ∀ q ∈ applyL ps r t, q.n.size ≤ maxLen := by
  unfold applyL
  split
  · exact putR_names h hp
  · intro q hq
    cases hq
end Go.Proofs.YtmdknbgpddnplaaGreatDoor
