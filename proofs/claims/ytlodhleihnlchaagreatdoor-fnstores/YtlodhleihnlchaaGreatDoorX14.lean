/- Texts of this seat that several laws rest on, laid into one. Conditions: as each theorem states. -/
import Derived.Test.YtlodhleihnlchaaGreatDoorX6
import Derived.Test.YtlodhleihnlchaaGreatDoorX8
import Derived.Test.YtlodhleihnlchaaGreatDoorX9
namespace Go.Proofs.YtlodhleihnlchaaGreatDoor
open Go.RowKit
set_option maxRecDepth 100000
set_option linter.unusedVariables false

def Err8 (c : Int) (w : World) (r : Ending) (w' : World) : Prop := ∃ e, (c = 0 → e = .nilIface) ∧ (c ≠ 0 → ErrC1 c e) ∧ r = .returned e ∧ Below w.heap.size w w'
theorem Err8.mis {c : Int} {s : ByteArray} {w w' : World} (hc : c ≠ 0) (hb : Below w.heap.size w w') : Err8 c w (.returned (misV c s)) w' := ⟨_, fun h => absurd h hc, fun _ => .inl ⟨_, rfl⟩, rfl, hb⟩
theorem Err8.ref {c : Int} {s s1 : ByteArray} {w w' : World} (hc : c ≠ 0) (hb : Below w.heap.size w w') : Err8 c w (.returned (refV s1 (misV c s))) w' := ⟨_, fun h => absurd h hc, fun _ => .inr ⟨_, _, rfl⟩, rfl, hb⟩
theorem Err8.nil {w w' : World} (hb : Below w.heap.size w w') : Err8 0 w (.returned .nilIface) w' := ⟨_, fun _ => rfl, fun h => absurd rfl h, rfl, hb⟩
theorem nextReason_any (p o : PinD) (w : World) (ho : o.f = 0) (c : Int) (h : (p.nm ≠ o.nm ∧ c = 1) ∨ (p.nm = o.nm ∧ p.e ≠ o.e + 1 ∧ c = 11) ∨ (p.nm = o.nm ∧ p.e = o.e + 1 ∧ c = 0)) :
    Calls Tryz.prog 272 #[P5 p, P5 o] w fun r w' => (c = 0 ∧ r = .returned .nilIface ∨ c ≠ 0 ∧ ∃ s, r = .returned (misV c s)) ∧ Below w.heap.size w w' := by
  have b0 := bal (bal (Below.refl _ w) (.cells #[.string p.n, .int .i64 p.a, .int .i64 p.b, .int .i64 p.e, .int .i64 p.u] 59)) (.cells #[.string o.n, .int .i64 o.a, .int .i64 o.b, .int .i64 o.e, .int .i64 o.u] 59)
  obtain ⟨-, -, -, ⟨he0, he1⟩, -⟩ := pin_bounds ho
  have TQ : (p.n.toList == o.n.toList) = decide (p.nm = o.nm) := text_beq p.n o.n
  clear ho
  rcases h with ⟨h, rfl⟩ | ⟨h, h2, rfl⟩ | ⟨h, h2, rfl⟩
  · rw [decide_eq_false h] at TQ
    clear h
    go_enter Tryz.func272, Tryz.ntmps272
    go_wp2_with fail
    go_ret
    exact ⟨.inr ⟨by decide, _, rfl⟩, b0⟩
  · rw [decide_eq_true h] at TQ
    have E2 : (p.e == o.e + 1) = false := by simpa using h2
    have N2 : (p.e != o.e + 1) = true := by simp [h2]
    clear h h2
    go_enter Tryz.func272, Tryz.ntmps272
    go_wp2_with fail
    go_ret
    exact ⟨.inr ⟨by decide, _, rfl⟩, b0⟩
  · rw [decide_eq_true h] at TQ
    have E2 : (p.e == o.e + 1) = true := by simpa using h2
    have N2 : (p.e != o.e + 1) = false := by simp [h2]
    clear h h2
    go_enter Tryz.func272, Tryz.ntmps272
    go_wp2_with fail
    go_ret
    exact ⟨by simp, b0⟩
theorem sayReason_any (r : RollD) (o : PinD) (t : Int) (w : World) (lab : Labels w) (hn : o.n.size ≤ maxLen) (hm : r.p.n.size ≤ maxLen) (ho : o.f = 0) (hr : r.p.f = 0) (ht : timB t = true) (h1 : r.p.nm = o.nm) (h2 : r.p.e = o.e + 1) :
    Calls Tryz.prog 273 #[R8 r, P5 o, .int .i64 t] w (Err8 (chk o r t) w) := by
  have b0 := bal (bal (Below.refl _ w) (.cells #[.string r.p.n, .int .i64 r.p.a, .int .i64 r.p.b, .int .i64 r.p.e, .int .i64 r.p.u, .int .i64 r.b, .int .i64 r.x, .int .i64 r.y] 286)) (.cells #[.string o.n, .int .i64 o.a, .int .i64 o.b, .int .i64 o.e, .int .i64 o.u] 59)
  have A0 : At w.heap.size r.vals ((w.alloc (.cells #[.string r.p.n, .int .i64 r.p.a, .int .i64 r.p.b, .int .i64 r.p.e, .int .i64 r.p.u, .int .i64 r.b, .int .i64 r.x, .int .i64 r.y] 286)).alloc (.cells #[.string o.n, .int .i64 o.a, .int .i64 o.b, .int .i64 o.e, .int .i64 o.u] 59)) := (At.new w r.vals 286).alloc _
  have lab0 := lab.on b0
  have L := fun w => implIsLive_any o t w hn
  have S := fun w lab => rollSum_any r.p w lab hm hr
  have C := fun w lab => implCheckSign_any r.b (rsum r.p) r.x r.y w lab
  have eL : liveB o t = decide (t ≤ o.u) := by simp [liveB, ho, ht]
  rw [eL] at L
  clear ho hr ht eL lab
  by_cases h3 : r.b = o.a
  · have E3 : (r.b == o.a) = true := by simpa using h3
    have N3 : (r.b != o.a) = false := by simp [h3]
    have D3 : decide (r.b = o.a) = true := by simp [h3]
    have W3 := Lib.hid h3
    clear h3
    by_cases hu : t ≤ o.u
    · rw [decide_eq_true hu] at L
      cases hc : M.checkB r.b (rsum r.p) r.x r.y
      · rw [chk_sign h1 h2 (.inl W3.out) hu hc]
        rw [hc] at C
        generalize rsum r.p = x at *
        clear h1 h2 hu hc
        go_enter Tryz.func273, Tryz.ntmps273
        go_wp2_with fail
        generalize (w.alloc (.cells #[.string r.p.n, .int .i64 r.p.a, .int .i64 r.p.b, .int .i64 r.p.e, .int .i64 r.p.u, .int .i64 r.b, .int .i64 r.x, .int .i64 r.y] 286)).alloc (.cells #[.string o.n, .int .i64 o.a, .int .i64 o.b, .int .i64 o.e, .int .i64 o.u] 59) = W0 at *
        refine (L _).mono ?_
        rintro e u1 ⟨rfl, b1⟩
        have A1 := A0.on b1
        have B1 := btr b0 b1
        have L1 := lab0.on b1
        clear A0 b0 b1 L lab0
        have c0 := A1.cell 0 _ rfl
        have c1 := A1.cell 1 _ rfl
        have c2 := A1.cell 2 _ rfl
        have c3 := A1.cell 3 _ rfl
        have c4 := A1.cell 4 _ rfl
        have c5 := A1.cell 5 _ rfl
        have c6 := A1.cell 6 _ rfl
        have c7 := A1.cell 7 _ rfl
        go_wp2_with fail
        refine wp_region_line (Bel u1) [(0, true), (1, true), (2, true), (3, true), (5, true), (6, true), (4, false), (7, false), (8, true)] (by kernel_rfl) (by kernel_rfl) (fun _ _ d _ _ h => by cases d <;> exact h) (Bel.drew u1) ?_
        have hst := Bel.drew u1
        have inst : Nonempty (Of (Bel u1)) := ⟨⟨_, hst⟩⟩
        have q0 := bel_cell c0
        have q1 := bel_cell c1
        have q2 := bel_cell c2
        have q3 := bel_cell c3
        have q4 := bel_cell c4
        have q5 := bel_cell c5
        have q6 := bel_cell c6
        have q7 := bel_cell c7
        generalize u1.drew = V1 at *
        iterate 6 (refine line_read rfl (by kernel_rfl) (fun K hK => ?_); go_big_quiet_op; refine hK _ ?_; clear hK K)
        refine line_alone rfl (by kernel_rfl) (fun K hK => ?_)
        refine call_wp (args := #[P5 r.p]) rfl (by kernel_rfl) (by kernel_rfl) (S _ (L1.on hst.out)) (fun wn hbn => ?_)
        have hst2 := hst.on hbn
        refine hK _ _ hst2 ?_
        clear hK K hst hbn
        have hst := hst2
        clear hst2
        simp only [Act.put, List.setIfInBounds_toArray, List.set_cons_zero, List.set_cons_succ]
        refine line_alone rfl (by kernel_rfl) (fun K hK => ?_)
        refine call_wp (args := #[.int .i64 r.b, .int .i64 x, I2 r.x r.y]) rfl (by kernel_rfl) (by kernel_rfl) (C _ (L1.on hst.out)) (fun wn hbn => ?_)
        have hst2 := hst.on hbn
        refine hK _ _ hst2 ?_
        clear hK K hst hbn
        have hst := hst2
        clear hst2
        simp only [Act.put, List.setIfInBounds_toArray, List.set_cons_zero, List.set_cons_succ]
        iterate 1 (refine line_read rfl (by kernel_rfl) (fun K hK => ?_); go_big_quiet_op; refine hK _ ?_; clear hK K)
        refine line_nil ?_
        have hb := btr B1 hst.out
        clear hst inst q0 q1 q2 q3 q4 q5 q6 q7 c0 c1 c2 c3 c4 c5 c6 c7 A1 B1 L1 S C
        go_wp2_with fail
        go_ret
        exact Err8.mis (by decide) hb
      · rw [chk_yes h1 h2 (.inl W3.out) hu hc]
        rw [hc] at C
        generalize rsum r.p = x at *
        clear h1 h2 hu hc
        go_enter Tryz.func273, Tryz.ntmps273
        go_wp2_with fail
        generalize (w.alloc (.cells #[.string r.p.n, .int .i64 r.p.a, .int .i64 r.p.b, .int .i64 r.p.e, .int .i64 r.p.u, .int .i64 r.b, .int .i64 r.x, .int .i64 r.y] 286)).alloc (.cells #[.string o.n, .int .i64 o.a, .int .i64 o.b, .int .i64 o.e, .int .i64 o.u] 59) = W0 at *
        refine (L _).mono ?_
        rintro e u1 ⟨rfl, b1⟩
        have A1 := A0.on b1
        have B1 := btr b0 b1
        have L1 := lab0.on b1
        clear A0 b0 b1 L lab0
        have c0 := A1.cell 0 _ rfl
        have c1 := A1.cell 1 _ rfl
        have c2 := A1.cell 2 _ rfl
        have c3 := A1.cell 3 _ rfl
        have c4 := A1.cell 4 _ rfl
        have c5 := A1.cell 5 _ rfl
        have c6 := A1.cell 6 _ rfl
        have c7 := A1.cell 7 _ rfl
        go_wp2_with fail
        refine wp_region_line (Bel u1) [(0, true), (1, true), (2, true), (3, true), (5, true), (6, true), (4, false), (7, false), (8, true)] (by kernel_rfl) (by kernel_rfl) (fun _ _ d _ _ h => by cases d <;> exact h) (Bel.drew u1) ?_
        have hst := Bel.drew u1
        have inst : Nonempty (Of (Bel u1)) := ⟨⟨_, hst⟩⟩
        have q0 := bel_cell c0
        have q1 := bel_cell c1
        have q2 := bel_cell c2
        have q3 := bel_cell c3
        have q4 := bel_cell c4
        have q5 := bel_cell c5
        have q6 := bel_cell c6
        have q7 := bel_cell c7
        generalize u1.drew = V1 at *
        iterate 6 (refine line_read rfl (by kernel_rfl) (fun K hK => ?_); go_big_quiet_op; refine hK _ ?_; clear hK K)
        refine line_alone rfl (by kernel_rfl) (fun K hK => ?_)
        refine call_wp (args := #[P5 r.p]) rfl (by kernel_rfl) (by kernel_rfl) (S _ (L1.on hst.out)) (fun wn hbn => ?_)
        have hst2 := hst.on hbn
        refine hK _ _ hst2 ?_
        clear hK K hst hbn
        have hst := hst2
        clear hst2
        simp only [Act.put, List.setIfInBounds_toArray, List.set_cons_zero, List.set_cons_succ]
        refine line_alone rfl (by kernel_rfl) (fun K hK => ?_)
        refine call_wp (args := #[.int .i64 r.b, .int .i64 x, I2 r.x r.y]) rfl (by kernel_rfl) (by kernel_rfl) (C _ (L1.on hst.out)) (fun wn hbn => ?_)
        have hst2 := hst.on hbn
        refine hK _ _ hst2 ?_
        clear hK K hst hbn
        have hst := hst2
        clear hst2
        simp only [Act.put, List.setIfInBounds_toArray, List.set_cons_zero, List.set_cons_succ]
        iterate 1 (refine line_read rfl (by kernel_rfl) (fun K hK => ?_); go_big_quiet_op; refine hK _ ?_; clear hK K)
        refine line_nil ?_
        have hb := btr B1 hst.out
        clear hst inst q0 q1 q2 q3 q4 q5 q6 q7 c0 c1 c2 c3 c4 c5 c6 c7 A1 B1 L1 S C
        go_wp2_with fail
        go_ret
        exact Err8.nil hb
    · rw [chk_old h1 h2 (.inl W3.out) hu]
      rw [decide_eq_false hu] at L
      clear h1 h2 hu S C
      go_enter Tryz.func273, Tryz.ntmps273
      go_wp2_with fail
      generalize (w.alloc (.cells #[.string r.p.n, .int .i64 r.p.a, .int .i64 r.p.b, .int .i64 r.p.e, .int .i64 r.p.u, .int .i64 r.b, .int .i64 r.x, .int .i64 r.y] 286)).alloc (.cells #[.string o.n, .int .i64 o.a, .int .i64 o.b, .int .i64 o.e, .int .i64 o.u] 59) = W0 at *
      refine (L _).mono ?_
      rintro e u1 ⟨rfl, b1⟩
      have A1 := A0.on b1
      have B1 := btr b0 b1
      have L1 := lab0.on b1
      clear A0 b0 b1 L lab0
      go_wp2_with fail
      go_ret
      exact Err8.mis (by decide) B1
  · have E3 : (r.b == o.a) = false := by simpa using h3
    have N3 : (r.b != o.a) = true := by simp [h3]
    have D3 : decide (r.b = o.a) = false := by simp [h3]
    by_cases h4 : r.b = o.b
    · have E4 : (r.b == o.b) = true := by simpa using h4
      have N4 : (r.b != o.b) = false := by simp [h4]
      have W4 := Lib.hid h4
      clear h3 h4
      by_cases hu : t ≤ o.u
      · rw [decide_eq_true hu] at L
        cases hc : M.checkB r.b (rsum r.p) r.x r.y
        · rw [chk_sign h1 h2 (.inr W4.out) hu hc]
          rw [hc] at C
          generalize rsum r.p = x at *
          clear h1 h2 hu hc
          go_enter Tryz.func273, Tryz.ntmps273
          go_wp2_with fail
          generalize (w.alloc (.cells #[.string r.p.n, .int .i64 r.p.a, .int .i64 r.p.b, .int .i64 r.p.e, .int .i64 r.p.u, .int .i64 r.b, .int .i64 r.x, .int .i64 r.y] 286)).alloc (.cells #[.string o.n, .int .i64 o.a, .int .i64 o.b, .int .i64 o.e, .int .i64 o.u] 59) = W0 at *
          refine (L _).mono ?_
          rintro e u1 ⟨rfl, b1⟩
          have A1 := A0.on b1
          have B1 := btr b0 b1
          have L1 := lab0.on b1
          clear A0 b0 b1 L lab0
          have c0 := A1.cell 0 _ rfl
          have c1 := A1.cell 1 _ rfl
          have c2 := A1.cell 2 _ rfl
          have c3 := A1.cell 3 _ rfl
          have c4 := A1.cell 4 _ rfl
          have c5 := A1.cell 5 _ rfl
          have c6 := A1.cell 6 _ rfl
          have c7 := A1.cell 7 _ rfl
          go_wp2_with fail
          refine wp_region_line (Bel u1) [(0, true), (1, true), (2, true), (3, true), (5, true), (6, true), (4, false), (7, false), (8, true)] (by kernel_rfl) (by kernel_rfl) (fun _ _ d _ _ h => by cases d <;> exact h) (Bel.drew u1) ?_
          have hst := Bel.drew u1
          have inst : Nonempty (Of (Bel u1)) := ⟨⟨_, hst⟩⟩
          have q0 := bel_cell c0
          have q1 := bel_cell c1
          have q2 := bel_cell c2
          have q3 := bel_cell c3
          have q4 := bel_cell c4
          have q5 := bel_cell c5
          have q6 := bel_cell c6
          have q7 := bel_cell c7
          generalize u1.drew = V1 at *
          iterate 6 (refine line_read rfl (by kernel_rfl) (fun K hK => ?_); go_big_quiet_op; refine hK _ ?_; clear hK K)
          refine line_alone rfl (by kernel_rfl) (fun K hK => ?_)
          refine call_wp (args := #[P5 r.p]) rfl (by kernel_rfl) (by kernel_rfl) (S _ (L1.on hst.out)) (fun wn hbn => ?_)
          have hst2 := hst.on hbn
          refine hK _ _ hst2 ?_
          clear hK K hst hbn
          have hst := hst2
          clear hst2
          simp only [Act.put, List.setIfInBounds_toArray, List.set_cons_zero, List.set_cons_succ]
          refine line_alone rfl (by kernel_rfl) (fun K hK => ?_)
          refine call_wp (args := #[.int .i64 r.b, .int .i64 x, I2 r.x r.y]) rfl (by kernel_rfl) (by kernel_rfl) (C _ (L1.on hst.out)) (fun wn hbn => ?_)
          have hst2 := hst.on hbn
          refine hK _ _ hst2 ?_
          clear hK K hst hbn
          have hst := hst2
          clear hst2
          simp only [Act.put, List.setIfInBounds_toArray, List.set_cons_zero, List.set_cons_succ]
          iterate 1 (refine line_read rfl (by kernel_rfl) (fun K hK => ?_); go_big_quiet_op; refine hK _ ?_; clear hK K)
          refine line_nil ?_
          have hb := btr B1 hst.out
          clear hst inst q0 q1 q2 q3 q4 q5 q6 q7 c0 c1 c2 c3 c4 c5 c6 c7 A1 B1 L1 S C
          go_wp2_with fail
          go_ret
          exact Err8.mis (by decide) hb
        · rw [chk_yes h1 h2 (.inr W4.out) hu hc]
          rw [hc] at C
          generalize rsum r.p = x at *
          clear h1 h2 hu hc
          go_enter Tryz.func273, Tryz.ntmps273
          go_wp2_with fail
          generalize (w.alloc (.cells #[.string r.p.n, .int .i64 r.p.a, .int .i64 r.p.b, .int .i64 r.p.e, .int .i64 r.p.u, .int .i64 r.b, .int .i64 r.x, .int .i64 r.y] 286)).alloc (.cells #[.string o.n, .int .i64 o.a, .int .i64 o.b, .int .i64 o.e, .int .i64 o.u] 59) = W0 at *
          refine (L _).mono ?_
          rintro e u1 ⟨rfl, b1⟩
          have A1 := A0.on b1
          have B1 := btr b0 b1
          have L1 := lab0.on b1
          clear A0 b0 b1 L lab0
          have c0 := A1.cell 0 _ rfl
          have c1 := A1.cell 1 _ rfl
          have c2 := A1.cell 2 _ rfl
          have c3 := A1.cell 3 _ rfl
          have c4 := A1.cell 4 _ rfl
          have c5 := A1.cell 5 _ rfl
          have c6 := A1.cell 6 _ rfl
          have c7 := A1.cell 7 _ rfl
          go_wp2_with fail
          refine wp_region_line (Bel u1) [(0, true), (1, true), (2, true), (3, true), (5, true), (6, true), (4, false), (7, false), (8, true)] (by kernel_rfl) (by kernel_rfl) (fun _ _ d _ _ h => by cases d <;> exact h) (Bel.drew u1) ?_
          have hst := Bel.drew u1
          have inst : Nonempty (Of (Bel u1)) := ⟨⟨_, hst⟩⟩
          have q0 := bel_cell c0
          have q1 := bel_cell c1
          have q2 := bel_cell c2
          have q3 := bel_cell c3
          have q4 := bel_cell c4
          have q5 := bel_cell c5
          have q6 := bel_cell c6
          have q7 := bel_cell c7
          generalize u1.drew = V1 at *
          iterate 6 (refine line_read rfl (by kernel_rfl) (fun K hK => ?_); go_big_quiet_op; refine hK _ ?_; clear hK K)
          refine line_alone rfl (by kernel_rfl) (fun K hK => ?_)
          refine call_wp (args := #[P5 r.p]) rfl (by kernel_rfl) (by kernel_rfl) (S _ (L1.on hst.out)) (fun wn hbn => ?_)
          have hst2 := hst.on hbn
          refine hK _ _ hst2 ?_
          clear hK K hst hbn
          have hst := hst2
          clear hst2
          simp only [Act.put, List.setIfInBounds_toArray, List.set_cons_zero, List.set_cons_succ]
          refine line_alone rfl (by kernel_rfl) (fun K hK => ?_)
          refine call_wp (args := #[.int .i64 r.b, .int .i64 x, I2 r.x r.y]) rfl (by kernel_rfl) (by kernel_rfl) (C _ (L1.on hst.out)) (fun wn hbn => ?_)
          have hst2 := hst.on hbn
          refine hK _ _ hst2 ?_
          clear hK K hst hbn
          have hst := hst2
          clear hst2
          simp only [Act.put, List.setIfInBounds_toArray, List.set_cons_zero, List.set_cons_succ]
          iterate 1 (refine line_read rfl (by kernel_rfl) (fun K hK => ?_); go_big_quiet_op; refine hK _ ?_; clear hK K)
          refine line_nil ?_
          have hb := btr B1 hst.out
          clear hst inst q0 q1 q2 q3 q4 q5 q6 q7 c0 c1 c2 c3 c4 c5 c6 c7 A1 B1 L1 S C
          go_wp2_with fail
          go_ret
          exact Err8.nil hb
      · rw [chk_old h1 h2 (.inr W4.out) hu]
        rw [decide_eq_false hu] at L
        clear h1 h2 hu S C
        go_enter Tryz.func273, Tryz.ntmps273
        go_wp2_with fail
        generalize (w.alloc (.cells #[.string r.p.n, .int .i64 r.p.a, .int .i64 r.p.b, .int .i64 r.p.e, .int .i64 r.p.u, .int .i64 r.b, .int .i64 r.x, .int .i64 r.y] 286)).alloc (.cells #[.string o.n, .int .i64 o.a, .int .i64 o.b, .int .i64 o.e, .int .i64 o.u] 59) = W0 at *
        refine (L _).mono ?_
        rintro e u1 ⟨rfl, b1⟩
        have A1 := A0.on b1
        have B1 := btr b0 b1
        have L1 := lab0.on b1
        clear A0 b0 b1 L lab0
        go_wp2_with fail
        go_ret
        exact Err8.mis (by decide) B1
    · have E4 : (r.b == o.b) = false := by simpa using h4
      have N4 : (r.b != o.b) = true := by simp [h4]
      rw [chk_by h1 h2 h3 h4]
      clear h1 h2 h3 h4 L S C
      go_enter Tryz.func273, Tryz.ntmps273
      go_wp2_with fail
      go_ret
      exact Err8.mis (by decide) b0
set_option maxHeartbeats 1000000 in
theorem checkReason_any (o : PinD) (r : RollD) (t : Int) (w : World) (lab : Labels w) (hn : o.n.size ≤ maxLen) (hm : r.p.n.size ≤ maxLen) :
    Calls Tryz.prog 216 #[P5 o, R8 r, .int .i64 t] w (Err8 (checkF o r t) w) := by
  have b0 := bal (bal (Below.refl _ w) (.cells #[.string o.n, .int .i64 o.a, .int .i64 o.b, .int .i64 o.e, .int .i64 o.u] 59)) (.cells #[.string r.p.n, .int .i64 r.p.a, .int .i64 r.p.b, .int .i64 r.p.e, .int .i64 r.p.u, .int .i64 r.b, .int .i64 r.x, .int .i64 r.y] 66)
  have A0 : At w.heap.size o.vals ((w.alloc (.cells #[.string o.n, .int .i64 o.a, .int .i64 o.b, .int .i64 o.e, .int .i64 o.u] 59)).alloc (.cells #[.string r.p.n, .int .i64 r.p.a, .int .i64 r.p.b, .int .i64 r.p.e, .int .i64 r.p.u, .int .i64 r.b, .int .i64 r.x, .int .i64 r.y] 66)) := (At.new w o.vals 59).alloc _
  have Q0 : At (w.heap.size + 1) r.vals ((w.alloc (.cells #[.string o.n, .int .i64 o.a, .int .i64 o.b, .int .i64 o.e, .int .i64 o.u] 59)).alloc (.cells #[.string r.p.n, .int .i64 r.p.a, .int .i64 r.p.b, .int .i64 r.p.e, .int .i64 r.p.u, .int .i64 r.b, .int .i64 r.x, .int .i64 r.y] 66)) := At.newN (w := w.alloc (.cells #[.string o.n, .int .i64 o.a, .int .i64 o.b, .int .i64 o.e, .int .i64 o.u] 59)) r.vals 66 (by simp)
  have lab0 := lab.on b0
  clear lab
  by_cases h0 : o.f = 0
  · have F := fun w => pinReason_no o w hn h0
    by_cases h1 : r.f = 0
    · have G := fun w => rolloverOf_yes r w hm h1
      cases ht : timB t
      · rw [checkF_time h0 h1 ht]
        clear h0 h1
        go_enter Tryz.func216, Tryz.ntmps216
        go_wp2_with fail
        generalize (w.alloc (.cells #[.string o.n, .int .i64 o.a, .int .i64 o.b, .int .i64 o.e, .int .i64 o.u] 59)).alloc (.cells #[.string r.p.n, .int .i64 r.p.a, .int .i64 r.p.b, .int .i64 r.p.e, .int .i64 r.p.u, .int .i64 r.b, .int .i64 r.x, .int .i64 r.y] 66) = W0 at *
        refine (F _).mono ?_
        rintro e u1 ⟨rfl, b1⟩
        have A1 := A0.on b1
        have Q1 := Q0.on b1
        have B1 := btr b0 b1
        have L1 := lab0.on b1
        clear A0 Q0 b0 b1 F lab0
        have d0 := Q1.cell 0 _ rfl
        have d1 := Q1.cell 1 _ rfl
        have d2 := Q1.cell 2 _ rfl
        have d3 := Q1.cell 3 _ rfl
        have d4 := Q1.cell 4 _ rfl
        have d5 := Q1.cell 5 _ rfl
        have d6 := Q1.cell 6 _ rfl
        have d7 := Q1.cell 7 _ rfl
        go_wp2_with fail
        refine (G _).mono ?_
        rintro e u2 ⟨rfl, b2⟩
        have A2 := (A1.on b2).alloc (.cells #[.string r.p.n, .int .i64 r.p.a, .int .i64 r.p.b, .int .i64 r.p.e, .int .i64 r.p.u, .int .i64 r.b, .int .i64 r.x, .int .i64 r.y] 286)
        have X2 : At u2.heap.size r.vals (u2.alloc (.cells #[.string r.p.n, .int .i64 r.p.a, .int .i64 r.p.b, .int .i64 r.p.e, .int .i64 r.p.u, .int .i64 r.b, .int .i64 r.x, .int .i64 r.y] 286)) := At.new u2 r.vals 286
        have B2 := bal (btr B1 b2) (.cells #[.string r.p.n, .int .i64 r.p.a, .int .i64 r.p.b, .int .i64 r.p.e, .int .i64 r.p.u, .int .i64 r.b, .int .i64 r.x, .int .i64 r.y] 286)
        have L2 := (L1.on b2).on (bal (Below.refl _ _) (.cells #[.string r.p.n, .int .i64 r.p.a, .int .i64 r.p.b, .int .i64 r.p.e, .int .i64 r.p.u, .int .i64 r.b, .int .i64 r.x, .int .i64 r.y] 286))
        clear A1 Q1 B1 b2 G L1 d0 d1 d2 d3 d4 d5 d6 d7
        go_wp2_with fail
        generalize u2.alloc (.cells #[.string r.p.n, .int .i64 r.p.a, .int .i64 r.p.b, .int .i64 r.p.e, .int .i64 r.p.u, .int .i64 r.b, .int .i64 r.x, .int .i64 r.y] 286) = W2 at *
        refine (isTime_any _ _).mono ?_
        rintro e u3 ⟨rfl, rfl⟩
        go_wp2_with fail
        go_ret
        exact Err8.mis (by decide) B2
      · rw [checkF_chk h0 h1 ht]
        have hrp := (rollF_zero h1).1
        by_cases g1 : r.p.nm = o.nm
        · by_cases g2 : r.p.e = o.e + 1
          · have K := fun w => nextReason_any r.p o w h0 0 (.inr (.inr ⟨g1, g2, rfl⟩))
            have Y := fun w lab => sayReason_any r o t w lab hn hm h0 hrp ht g1 g2
            generalize chk o r t = c at *
            clear h0 h1 hrp g1 g2
            go_enter Tryz.func216, Tryz.ntmps216
            go_wp2_with fail
            generalize (w.alloc (.cells #[.string o.n, .int .i64 o.a, .int .i64 o.b, .int .i64 o.e, .int .i64 o.u] 59)).alloc (.cells #[.string r.p.n, .int .i64 r.p.a, .int .i64 r.p.b, .int .i64 r.p.e, .int .i64 r.p.u, .int .i64 r.b, .int .i64 r.x, .int .i64 r.y] 66) = W0 at *
            refine (F _).mono ?_
            rintro e u1 ⟨rfl, b1⟩
            have A1 := A0.on b1
            have Q1 := Q0.on b1
            have B1 := btr b0 b1
            have L1 := lab0.on b1
            clear A0 Q0 b0 b1 F lab0
            have d0 := Q1.cell 0 _ rfl
            have d1 := Q1.cell 1 _ rfl
            have d2 := Q1.cell 2 _ rfl
            have d3 := Q1.cell 3 _ rfl
            have d4 := Q1.cell 4 _ rfl
            have d5 := Q1.cell 5 _ rfl
            have d6 := Q1.cell 6 _ rfl
            have d7 := Q1.cell 7 _ rfl
            go_wp2_with fail
            refine (G _).mono ?_
            rintro e u2 ⟨rfl, b2⟩
            have A2 := (A1.on b2).alloc (.cells #[.string r.p.n, .int .i64 r.p.a, .int .i64 r.p.b, .int .i64 r.p.e, .int .i64 r.p.u, .int .i64 r.b, .int .i64 r.x, .int .i64 r.y] 286)
            have X2 : At u2.heap.size r.vals (u2.alloc (.cells #[.string r.p.n, .int .i64 r.p.a, .int .i64 r.p.b, .int .i64 r.p.e, .int .i64 r.p.u, .int .i64 r.b, .int .i64 r.x, .int .i64 r.y] 286)) := At.new u2 r.vals 286
            have B2 := bal (btr B1 b2) (.cells #[.string r.p.n, .int .i64 r.p.a, .int .i64 r.p.b, .int .i64 r.p.e, .int .i64 r.p.u, .int .i64 r.b, .int .i64 r.x, .int .i64 r.y] 286)
            have L2 := (L1.on b2).on (bal (Below.refl _ _) (.cells #[.string r.p.n, .int .i64 r.p.a, .int .i64 r.p.b, .int .i64 r.p.e, .int .i64 r.p.u, .int .i64 r.b, .int .i64 r.x, .int .i64 r.y] 286))
            clear A1 Q1 B1 b2 G L1 d0 d1 d2 d3 d4 d5 d6 d7
            go_wp2_with fail
            generalize u2.alloc (.cells #[.string r.p.n, .int .i64 r.p.a, .int .i64 r.p.b, .int .i64 r.p.e, .int .i64 r.p.u, .int .i64 r.b, .int .i64 r.x, .int .i64 r.y] 286) = W2 at *
            generalize u2.heap.size = xb at *
            refine (isTime_any _ _).mono ?_
            rintro e u3 ⟨rfl, rfl⟩
            have a0 := A2.cell 0 _ rfl
            have a1 := A2.cell 1 _ rfl
            have a2 := A2.cell 2 _ rfl
            have a3 := A2.cell 3 _ rfl
            have a4 := A2.cell 4 _ rfl
            have x0 := X2.cell 0 _ rfl
            have x1 := X2.cell 1 _ rfl
            have x2 := X2.cell 2 _ rfl
            have x3 := X2.cell 3 _ rfl
            have x4 := X2.cell 4 _ rfl
            have x5 := X2.cell 5 _ rfl
            have x6 := X2.cell 6 _ rfl
            have x7 := X2.cell 7 _ rfl
            go_wp2_with fail
            refine (K _).mono ?_
            rintro e u4 ⟨hx, b4⟩
            have A4 := A2.on b4
            have X4 := X2.on b4
            have B4 := btr B2 b4
            have L4 := L2.on b4
            clear A2 X2 B2 L2 b4 K a0 a1 a2 a3 a4 x0 x1 x2 x3 x4 x5 x6 x7
            rcases hx with ⟨-, rfl⟩ | ⟨h, -⟩
            · have a0 := A4.cell 0 _ rfl
              have a1 := A4.cell 1 _ rfl
              have a2 := A4.cell 2 _ rfl
              have a3 := A4.cell 3 _ rfl
              have a4 := A4.cell 4 _ rfl
              have x0 := X4.cell 0 _ rfl
              have x1 := X4.cell 1 _ rfl
              have x2 := X4.cell 2 _ rfl
              have x3 := X4.cell 3 _ rfl
              have x4 := X4.cell 4 _ rfl
              have x5 := X4.cell 5 _ rfl
              have x6 := X4.cell 6 _ rfl
              have x7 := X4.cell 7 _ rfl
              go_wp2_with fail
              refine (Y _ L4).mono ?_
              rintro e u5 ⟨z, hz0, hz1, rfl, b5⟩
              have hb := btr B4 b5
              clear A4 X4 B4 L4 b5 Y a0 a1 a2 a3 a4 x0 x1 x2 x3 x4 x5 x6 x7
              go_wp2_with fail
              go_ret
              exact ⟨z, hz0, hz1, rfl, hb⟩
            · exact absurd rfl h
          · rw [chk_ep g1 g2]
            have K := fun w => nextReason_any r.p o w h0 11 (.inr (.inl ⟨g1, g2, rfl⟩))
            clear h0 h1 hrp g1 g2
            go_enter Tryz.func216, Tryz.ntmps216
            go_wp2_with fail
            generalize (w.alloc (.cells #[.string o.n, .int .i64 o.a, .int .i64 o.b, .int .i64 o.e, .int .i64 o.u] 59)).alloc (.cells #[.string r.p.n, .int .i64 r.p.a, .int .i64 r.p.b, .int .i64 r.p.e, .int .i64 r.p.u, .int .i64 r.b, .int .i64 r.x, .int .i64 r.y] 66) = W0 at *
            refine (F _).mono ?_
            rintro e u1 ⟨rfl, b1⟩
            have A1 := A0.on b1
            have Q1 := Q0.on b1
            have B1 := btr b0 b1
            have L1 := lab0.on b1
            clear A0 Q0 b0 b1 F lab0
            have d0 := Q1.cell 0 _ rfl
            have d1 := Q1.cell 1 _ rfl
            have d2 := Q1.cell 2 _ rfl
            have d3 := Q1.cell 3 _ rfl
            have d4 := Q1.cell 4 _ rfl
            have d5 := Q1.cell 5 _ rfl
            have d6 := Q1.cell 6 _ rfl
            have d7 := Q1.cell 7 _ rfl
            go_wp2_with fail
            refine (G _).mono ?_
            rintro e u2 ⟨rfl, b2⟩
            have A2 := (A1.on b2).alloc (.cells #[.string r.p.n, .int .i64 r.p.a, .int .i64 r.p.b, .int .i64 r.p.e, .int .i64 r.p.u, .int .i64 r.b, .int .i64 r.x, .int .i64 r.y] 286)
            have X2 : At u2.heap.size r.vals (u2.alloc (.cells #[.string r.p.n, .int .i64 r.p.a, .int .i64 r.p.b, .int .i64 r.p.e, .int .i64 r.p.u, .int .i64 r.b, .int .i64 r.x, .int .i64 r.y] 286)) := At.new u2 r.vals 286
            have B2 := bal (btr B1 b2) (.cells #[.string r.p.n, .int .i64 r.p.a, .int .i64 r.p.b, .int .i64 r.p.e, .int .i64 r.p.u, .int .i64 r.b, .int .i64 r.x, .int .i64 r.y] 286)
            have L2 := (L1.on b2).on (bal (Below.refl _ _) (.cells #[.string r.p.n, .int .i64 r.p.a, .int .i64 r.p.b, .int .i64 r.p.e, .int .i64 r.p.u, .int .i64 r.b, .int .i64 r.x, .int .i64 r.y] 286))
            clear A1 Q1 B1 b2 G L1 d0 d1 d2 d3 d4 d5 d6 d7
            go_wp2_with fail
            generalize u2.alloc (.cells #[.string r.p.n, .int .i64 r.p.a, .int .i64 r.p.b, .int .i64 r.p.e, .int .i64 r.p.u, .int .i64 r.b, .int .i64 r.x, .int .i64 r.y] 286) = W2 at *
            generalize u2.heap.size = xb at *
            refine (isTime_any _ _).mono ?_
            rintro e u3 ⟨rfl, rfl⟩
            have a0 := A2.cell 0 _ rfl
            have a1 := A2.cell 1 _ rfl
            have a2 := A2.cell 2 _ rfl
            have a3 := A2.cell 3 _ rfl
            have a4 := A2.cell 4 _ rfl
            have x0 := X2.cell 0 _ rfl
            have x1 := X2.cell 1 _ rfl
            have x2 := X2.cell 2 _ rfl
            have x3 := X2.cell 3 _ rfl
            have x4 := X2.cell 4 _ rfl
            have x5 := X2.cell 5 _ rfl
            have x6 := X2.cell 6 _ rfl
            have x7 := X2.cell 7 _ rfl
            go_wp2_with fail
            refine (K _).mono ?_
            rintro e u4 ⟨hx, b4⟩
            have A4 := A2.on b4
            have X4 := X2.on b4
            have B4 := btr B2 b4
            have L4 := L2.on b4
            clear A2 X2 B2 L2 b4 K a0 a1 a2 a3 a4 x0 x1 x2 x3 x4 x5 x6 x7
            rcases hx with ⟨h, -⟩ | ⟨-, s, rfl⟩
            · exact absurd h (by decide)
            · go_wp2_with fail
              go_ret
              exact Err8.ref (by decide) B4
        · rw [chk_name g1]
          have K := fun w => nextReason_any r.p o w h0 1 (.inl ⟨g1, rfl⟩)
          clear h0 h1 hrp g1
          go_enter Tryz.func216, Tryz.ntmps216
          go_wp2_with fail
          generalize (w.alloc (.cells #[.string o.n, .int .i64 o.a, .int .i64 o.b, .int .i64 o.e, .int .i64 o.u] 59)).alloc (.cells #[.string r.p.n, .int .i64 r.p.a, .int .i64 r.p.b, .int .i64 r.p.e, .int .i64 r.p.u, .int .i64 r.b, .int .i64 r.x, .int .i64 r.y] 66) = W0 at *
          refine (F _).mono ?_
          rintro e u1 ⟨rfl, b1⟩
          have A1 := A0.on b1
          have Q1 := Q0.on b1
          have B1 := btr b0 b1
          have L1 := lab0.on b1
          clear A0 Q0 b0 b1 F lab0
          have d0 := Q1.cell 0 _ rfl
          have d1 := Q1.cell 1 _ rfl
          have d2 := Q1.cell 2 _ rfl
          have d3 := Q1.cell 3 _ rfl
          have d4 := Q1.cell 4 _ rfl
          have d5 := Q1.cell 5 _ rfl
          have d6 := Q1.cell 6 _ rfl
          have d7 := Q1.cell 7 _ rfl
          go_wp2_with fail
          refine (G _).mono ?_
          rintro e u2 ⟨rfl, b2⟩
          have A2 := (A1.on b2).alloc (.cells #[.string r.p.n, .int .i64 r.p.a, .int .i64 r.p.b, .int .i64 r.p.e, .int .i64 r.p.u, .int .i64 r.b, .int .i64 r.x, .int .i64 r.y] 286)
          have X2 : At u2.heap.size r.vals (u2.alloc (.cells #[.string r.p.n, .int .i64 r.p.a, .int .i64 r.p.b, .int .i64 r.p.e, .int .i64 r.p.u, .int .i64 r.b, .int .i64 r.x, .int .i64 r.y] 286)) := At.new u2 r.vals 286
          have B2 := bal (btr B1 b2) (.cells #[.string r.p.n, .int .i64 r.p.a, .int .i64 r.p.b, .int .i64 r.p.e, .int .i64 r.p.u, .int .i64 r.b, .int .i64 r.x, .int .i64 r.y] 286)
          have L2 := (L1.on b2).on (bal (Below.refl _ _) (.cells #[.string r.p.n, .int .i64 r.p.a, .int .i64 r.p.b, .int .i64 r.p.e, .int .i64 r.p.u, .int .i64 r.b, .int .i64 r.x, .int .i64 r.y] 286))
          clear A1 Q1 B1 b2 G L1 d0 d1 d2 d3 d4 d5 d6 d7
          go_wp2_with fail
          generalize u2.alloc (.cells #[.string r.p.n, .int .i64 r.p.a, .int .i64 r.p.b, .int .i64 r.p.e, .int .i64 r.p.u, .int .i64 r.b, .int .i64 r.x, .int .i64 r.y] 286) = W2 at *
          generalize u2.heap.size = xb at *
          refine (isTime_any _ _).mono ?_
          rintro e u3 ⟨rfl, rfl⟩
          have a0 := A2.cell 0 _ rfl
          have a1 := A2.cell 1 _ rfl
          have a2 := A2.cell 2 _ rfl
          have a3 := A2.cell 3 _ rfl
          have a4 := A2.cell 4 _ rfl
          have x0 := X2.cell 0 _ rfl
          have x1 := X2.cell 1 _ rfl
          have x2 := X2.cell 2 _ rfl
          have x3 := X2.cell 3 _ rfl
          have x4 := X2.cell 4 _ rfl
          have x5 := X2.cell 5 _ rfl
          have x6 := X2.cell 6 _ rfl
          have x7 := X2.cell 7 _ rfl
          go_wp2_with fail
          refine (K _).mono ?_
          rintro e u4 ⟨hx, b4⟩
          have A4 := A2.on b4
          have X4 := X2.on b4
          have B4 := btr B2 b4
          have L4 := L2.on b4
          clear A2 X2 B2 L2 b4 K a0 a1 a2 a3 a4 x0 x1 x2 x3 x4 x5 x6 x7
          rcases hx with ⟨h, -⟩ | ⟨-, s, rfl⟩
          · exact absurd h (by decide)
          · go_wp2_with fail
            go_ret
            exact Err8.ref (by decide) B4
    · rw [checkF_roll h0 h1]
      have G := fun w => rolloverOf_no r w hm h1
      generalize r.f = c at *
      clear h0
      go_enter Tryz.func216, Tryz.ntmps216
      go_wp2_with fail
      generalize (w.alloc (.cells #[.string o.n, .int .i64 o.a, .int .i64 o.b, .int .i64 o.e, .int .i64 o.u] 59)).alloc (.cells #[.string r.p.n, .int .i64 r.p.a, .int .i64 r.p.b, .int .i64 r.p.e, .int .i64 r.p.u, .int .i64 r.b, .int .i64 r.x, .int .i64 r.y] 66) = W0 at *
      refine (F _).mono ?_
      rintro e u1 ⟨rfl, b1⟩
      have A1 := A0.on b1
      have Q1 := Q0.on b1
      have B1 := btr b0 b1
      have L1 := lab0.on b1
      clear A0 Q0 b0 b1 F lab0
      have d0 := Q1.cell 0 _ rfl
      have d1 := Q1.cell 1 _ rfl
      have d2 := Q1.cell 2 _ rfl
      have d3 := Q1.cell 3 _ rfl
      have d4 := Q1.cell 4 _ rfl
      have d5 := Q1.cell 5 _ rfl
      have d6 := Q1.cell 6 _ rfl
      have d7 := Q1.cell 7 _ rfl
      go_wp2_with fail
      refine (G _).mono ?_
      rintro e u2 ⟨z, hz, rfl, b2⟩
      have B2 := bal (btr B1 b2) (.cells #[.string { data := #[] }, .int .i64 0, .int .i64 0, .int .i64 0, .int .i64 0, .int .i64 0, .int .i64 0, .int .i64 0] 286)
      have ne := hz.all.neq
      have ng := hz.all.gneq
      clear A1 Q1 B1 b2 G L1 d0 d1 d2 d3 d4 d5 d6 d7
      go_wp2_with fail
      go_ret
      exact ⟨z, fun h => absurd h h1, fun _ => hz, rfl, B2⟩
  · rw [checkF_old h0]
    have F := fun w => pinReason_yes o w hn h0
    generalize o.f = c at *
    go_enter Tryz.func216, Tryz.ntmps216
    go_wp2_with fail
    generalize (w.alloc (.cells #[.string o.n, .int .i64 o.a, .int .i64 o.b, .int .i64 o.e, .int .i64 o.u] 59)).alloc (.cells #[.string r.p.n, .int .i64 r.p.a, .int .i64 r.p.b, .int .i64 r.p.e, .int .i64 r.p.u, .int .i64 r.b, .int .i64 r.x, .int .i64 r.y] 66) = W0 at *
    refine (F _).mono ?_
    rintro e u1 ⟨s, rfl, b1⟩
    have B1 := btr b0 b1
    clear A0 Q0 b0 b1 F lab0
    go_wp2_with fail
    go_ret
    exact Err8.ref h0 B1
end Go.Proofs.YtlodhleihnlchaaGreatDoor
namespace Go.Proofs.YtlodhleihnlchaaGreatDoor
open Go.RowKit
set_option maxRecDepth 100000
set_option linter.unusedVariables false

set_option maxHeartbeats 2000000 in
theorem specApplyRoll_any (a : Option Addr) (len cap B : Nat) (ps : List PinD) (r : RollD) (t : Int) (w : World) (hR : PRow w B a len cap ps) (hB : B ≤ w.heap.size) (hn : r.p.n.size ≤ maxLen) :
    Calls Tryz.prog 128 #[.slice a len cap, R8 r, .int .i64 t] w (PinsRes (applyC ps r t) (applyL ps r t) w) := by
  have hL := Lib.hid hR.length
  have hf := hR.fits
  have hm := hR.most
  unfold maxLen at hm
  have hN := Lib.hid hR.names
  have b0 := bal (bal (Below.refl _ w) (.cells #[.string r.p.n, .int .i64 r.p.a, .int .i64 r.p.b, .int .i64 r.p.e, .int .i64 r.p.u, .int .i64 r.b, .int .i64 r.x, .int .i64 r.y] 66)) (.cells #[.int .i64 0, .slice none 0 0] 192)
  have Q0 : At w.heap.size r.vals ((w.alloc (.cells #[.string r.p.n, .int .i64 r.p.a, .int .i64 r.p.b, .int .i64 r.p.e, .int .i64 r.p.u, .int .i64 r.b, .int .i64 r.x, .int .i64 r.y] 66)).alloc (.cells #[.int .i64 0, .slice none 0 0] 192)) := (At.new w r.vals 66).alloc _
  have Z0 : At (w.heap.size + 1) [.int .i64 0, .slice none 0 0] ((w.alloc (.cells #[.string r.p.n, .int .i64 r.p.a, .int .i64 r.p.b, .int .i64 r.p.e, .int .i64 r.p.u, .int .i64 r.b, .int .i64 r.x, .int .i64 r.y] 66)).alloc (.cells #[.int .i64 0, .slice none 0 0] 192)) := At.newN (w := w.alloc (.cells #[.string r.p.n, .int .i64 r.p.a, .int .i64 r.p.b, .int .i64 r.p.e, .int .i64 r.p.u, .int .i64 r.b, .int .i64 r.x, .int .i64 r.y] 66)) [.int .i64 0, .slice none 0 0] 192 (by simp)
  have F := l7Pins_any a len cap B ps _ (hR.below (b0.mono hB)) (Nat.le_trans hB b0.size)
  have G := fun g w A => l8Fault_any g r w A hn
  by_cases h0 : pinsF ps = 0
  case neg =>
    rw [(applyC_list h0).1, (applyC_list h0).2]
    generalize pinsF ps = c at *
    have q0 : (c == 0) = false := by simpa using h0
    clear hR
    go_enter Tryz.func128, Tryz.ntmps128
    go_wp2_with fail
    generalize (w.alloc (.cells #[.string r.p.n, .int .i64 r.p.a, .int .i64 r.p.b, .int .i64 r.p.e, .int .i64 r.p.u, .int .i64 r.b, .int .i64 r.x, .int .i64 r.y] 66)).alloc (.cells #[.int .i64 0, .slice none 0 0] 192) = W0 at *
    refine F.mono ?_
    rintro e u1 ⟨rfl, b1⟩
    have Q1 := Q0.on b1
    have Z1 := Z0.on b1
    have B1 := btr b0 b1
    clear Q0 Z0 b0 b1 F
    have z0 := Z1.cell 0 _ rfl
    have z1 := Z1.cell 1 _ rfl
    have h0 := Z1.free 0 _ rfl
    have h1 := Z1.free 1 _ rfl
    have HB := Lib.hid B1
    clear Z1 B1
    go_wp2_with fail
    refine bodyPost_ret (v := .agg #[.int .i64 c, .slice none 0 0]) (by simp [results, Tryz.results128, go_sem, z0, z1]) rfl ⟨none, 0, 0, rfl, OwnP.nil _ _, ?_⟩
    exact (by (iterate 2 (refine bset ?_ (by dsimp only; omega) _)); exact HB.out)
  rw [h0] at F
  by_cases h1 : r.f = 0
  case neg =>
    rw [(applyC_roll h0 h1).1, (applyC_roll h0 h1).2]
    generalize r.f = c at *
    have q0 : (c == 0) = false := by simpa using h1
    clear hR
    go_enter Tryz.func128, Tryz.ntmps128
    go_wp2_with fail
    generalize (w.alloc (.cells #[.string r.p.n, .int .i64 r.p.a, .int .i64 r.p.b, .int .i64 r.p.e, .int .i64 r.p.u, .int .i64 r.b, .int .i64 r.x, .int .i64 r.y] 66)).alloc (.cells #[.int .i64 0, .slice none 0 0] 192) = W0 at *
    refine F.mono ?_
    rintro e u1 ⟨rfl, b1⟩
    have Q1 := Q0.on b1
    have Z1 := Z0.on b1
    have B1 := btr b0 b1
    clear Q0 Z0 b0 b1 F
    go_wp2_with fail
    refine (G _ _ Q1).mono ?_
    rintro e u2 ⟨rfl, b2⟩
    have Q2 := Q1.on b2
    have Z2 := Z1.on b2
    have B2 := btr B1 b2
    clear Q1 Z1 B1 b2 G
    have z0 := Z2.cell 0 _ rfl
    have z1 := Z2.cell 1 _ rfl
    have h0 := Z2.free 0 _ rfl
    have h1 := Z2.free 1 _ rfl
    have HB := Lib.hid B2
    clear Z2 B2
    go_wp2_with fail
    refine bodyPost_ret (v := .agg #[.int .i64 c, .slice none 0 0]) (by simp [results, Tryz.results128, go_sem, z0, z1]) rfl ⟨none, 0, 0, rfl, OwnP.nil _ _, ?_⟩
    exact (by (iterate 2 (refine bset ?_ (by dsimp only; omega) _)); exact HB.out)
  rw [h1] at G
  have AT := Lib.hid (fun (w1 : World) (h : Below w.heap.size w w1) => l7At_any a len cap B ps r.p.n w1 (hR.below (h.mono hB)) (Nat.le_trans hB h.size))
  rcases atI_spec ps r.p.n.data.toList 0 with ⟨hfn, hat⟩ | ⟨k, hk, hat, hfs⟩
  · have e := applyC_none (t := t) h0 h1 hfn
    rw [e.1, e.2]
    rw [hat] at AT
    clear e hR h0 h1 hfn hat
    go_enter Tryz.func128, Tryz.ntmps128
    go_wp2_with fail
    generalize (w.alloc (.cells #[.string r.p.n, .int .i64 r.p.a, .int .i64 r.p.b, .int .i64 r.p.e, .int .i64 r.p.u, .int .i64 r.b, .int .i64 r.x, .int .i64 r.y] 66)).alloc (.cells #[.int .i64 0, .slice none 0 0] 192) = W0 at *
    refine F.mono ?_
    rintro e u1 ⟨rfl, b1⟩
    have Q1 := Q0.on b1
    have Z1 := Z0.on b1
    have B1 := btr b0 b1
    clear Q0 Z0 b0 b1 F
    go_wp2_with fail
    refine (G _ _ Q1).mono ?_
    rintro e u2 ⟨rfl, b2⟩
    have Q2 := Q1.on b2
    have Z2 := Z1.on b2
    have B2 := btr B1 b2
    clear Q1 Z1 B1 b2 G
    have c0 := Q2.cell 0 _ rfl
    go_wp2_with fail
    refine (AT.out _ B2).mono ?_
    rintro e u3 ⟨rfl, b3⟩
    have Q3 := Q2.on b3
    have Z3 := Z2.on b3
    have B3 := btr B2 b3
    clear Q2 Z2 B2 b3 AT c0
    have z0 := Z3.cell 0 _ rfl
    have z1 := Z3.cell 1 _ rfl
    have h0 := Z3.free 0 _ rfl
    have h1 := Z3.free 1 _ rfl
    have HB := Lib.hid B3
    clear Z3 B3
    go_wp2_with fail
    refine bodyPost_ret (v := .agg #[.int .i64 4, .slice none 0 0]) (by simp [results, Tryz.results128, go_sem, z0, z1]) rfl ⟨none, 0, 0, rfl, OwnP.nil _ _, ?_⟩
    exact (by (iterate 2 (refine bset ?_ (by dsimp only; omega) _)); exact HB.out)
  · rw [hat] at AT
    have hkl : k < len := by rw [← hL.out]; exact hk
    have RW := Lib.hid (fun (w1 : World) (h : Below w.heap.size w w1) => (hR.below (h.mono hB)).at' hkl)
    have hqn := hR.name hkl
    have LP := Lib.hid (fun (w1 : World) (h : Below w.heap.size w w1) => l7Put_any a len cap B ps r.p w1 (hR.below (h.mono hB)) (Nat.le_trans hB h.size) (by have := (pinsF_zero h0).1; have := hL.out; omega))
    have hrp := (rollF_zero h1).1
    by_cases h2 : checkF (ps[k]?.getD pin0) r t = 0
    · have e := applyC_put (t := t) h0 h1 hfs h2
      rw [e.1, e.2, (put0_code h0 hrp).1, (put0_code h0 hrp).2]
      have CK := fun w => specCheckRoll_any (ps[k]?.getD pin0) r t w hqn hn
      rw [h2] at CK
      clear e hR h0 h1 hat hfs h2 hrp
      generalize hq : ps[k]?.getD pin0 = q at *
      go_enter Tryz.func128, Tryz.ntmps128
      go_wp2_with fail
      generalize (w.alloc (.cells #[.string r.p.n, .int .i64 r.p.a, .int .i64 r.p.b, .int .i64 r.p.e, .int .i64 r.p.u, .int .i64 r.b, .int .i64 r.x, .int .i64 r.y] 66)).alloc (.cells #[.int .i64 0, .slice none 0 0] 192) = W0 at *
      refine F.mono ?_
      rintro e u1 ⟨rfl, b1⟩
      have Q1 := Q0.on b1
      have Z1 := Z0.on b1
      have B1 := btr b0 b1
      clear Q0 Z0 b0 b1 F
      go_wp2_with fail
      refine (G _ _ Q1).mono ?_
      rintro e u2 ⟨rfl, b2⟩
      have Q2 := Q1.on b2
      have Z2 := Z1.on b2
      have B2 := btr B1 b2
      clear Q1 Z1 B1 b2 G
      have c0 := Q2.cell 0 _ rfl
      go_wp2_with fail
      refine (AT.out _ B2).mono ?_
      rintro e u3 ⟨rfl, b3⟩
      have Q3 := Q2.on b3
      have Z3 := Z2.on b3
      have B3 := btr B2 b3
      clear Q2 Z2 B2 b3 AT c0
      have hka : ((0 : Int) + (k : Nat)) = k := by omega
      obtain ⟨b, off, hab, hbB, c0, c1, c2, c3, c4⟩ := RW.out _ B3
      have HK1 := Lib.hid hq
      clear hq
      subst hab
      have d0 := Q3.cell 0 _ rfl
      have d1 := Q3.cell 1 _ rfl
      have d2 := Q3.cell 2 _ rfl
      have d3 := Q3.cell 3 _ rfl
      have d4 := Q3.cell 4 _ rfl
      have d5 := Q3.cell 5 _ rfl
      have d6 := Q3.cell 6 _ rfl
      have d7 := Q3.cell 7 _ rfl
      go_wp2_with fail
      refine wp_region_line (Bel u3) [(0, true), (1, true), (2, true), (3, true), (4, true), (5, true), (6, false), (7, true)] (by kernel_rfl) (by kernel_rfl) (fun _ _ d _ _ h => by cases d <;> exact h) (Bel.drew u3) ?_
      have hst := Bel.drew u3
      have inst : Nonempty (Of (Bel u3)) := ⟨⟨_, hst⟩⟩
      have q0 := bel_cell c0
      have q1 := bel_cell c1
      have q2 := bel_cell c2
      have q3 := bel_cell c3
      have q4 := bel_cell c4
      have y0 := bel_cell d0
      have y1 := bel_cell d1
      have y2 := bel_cell d2
      have y3 := bel_cell d3
      have y4 := bel_cell d4
      have y5 := bel_cell d5
      have y6 := bel_cell d6
      have y7 := bel_cell d7
      iterate 6 (refine line_read rfl (by kernel_rfl) (fun K hK => ?_); go_big_quiet_op; refine hK _ ?_; clear hK K)
      refine line_alone rfl (by kernel_rfl) (fun K hK => ?_)
      refine call_wp (args := #[P5 q, R8 r, .int .i64 t]) rfl (by kernel_rfl) (by kernel_rfl) (CK _) (fun wn hbn => ?_)
      have hst2 := hst.on hbn
      refine hK _ _ hst2 ?_
      clear hK K hst hbn
      have hst := hst2
      clear hst2
      simp only [Act.put, List.setIfInBounds_toArray, List.set_cons_zero, List.set_cons_succ]
      iterate 1 (refine line_read rfl (by kernel_rfl) (fun K hK => ?_); go_big_quiet_op; refine hK _ ?_; clear hK K)
      refine line_nil ?_
      have B4 := btr B3 hst.out
      have Q4 := Q3.on hst.out
      have Z4 := Z3.on hst.out
      clear hst inst q0 q1 q2 q3 q4 y0 y1 y2 y3 y4 y5 y6 y7 c0 c1 c2 c3 c4 d0 d1 d2 d3 d4 d5 d6 d7 Q3 Z3 B3 CK
      have d0 := Q4.cell 0 _ rfl
      have d1 := Q4.cell 1 _ rfl
      have d2 := Q4.cell 2 _ rfl
      have d3 := Q4.cell 3 _ rfl
      have d4 := Q4.cell 4 _ rfl
      go_wp2_with fail
      refine (LP.out _ B4).mono ?_
      rintro e u5 ⟨a5, n5, c5, rfl, O5, b5⟩
      generalize put0 ps r.p = pc at *
      generalize put1 ps r.p = zs at *
      have lt5 := Z4.lt (by simp)
      have Z5 := Z4.on b5
      have B5 := btr B4 b5
      have HO := Lib.hid O5
      clear Q4 Z4 B4 b5 LP O5 d0 d1 d2 d3 d4
      have z0 := Z5.cell 0 _ rfl
      have z1 := Z5.cell 1 _ rfl
      have h0 := Z5.free 0 _ rfl
      have h1 := Z5.free 1 _ rfl
      have HB := Lib.hid B5
      clear Z5 B5
      go_wp2_with fail
      refine bodyPost_ret (v := .agg #[.int .i64 pc, .slice a5 n5 c5]) (by simp [results, Tryz.results128, go_sem, z0, z1]) rfl ⟨a5, n5, c5, rfl, ?_, (by (iterate 2 (refine bset ?_ (by dsimp only; omega) _)); exact HB.out)⟩
      have hlt := Own.lt HO.out
      refine Own.setCell (Own.setCell (HO.out.less (by omega)) (fun k hk e => ?_) _) (fun k hk e => ?_) _
      · have := (hlt k hk).1; dsimp only at e; omega
      · have := (hlt k hk).1; dsimp only at e; omega
    · have e := applyC_check (t := t) h0 h1 hfs h2
      rw [e.1, e.2]
      have CK := fun w => specCheckRoll_any (ps[k]?.getD pin0) r t w hqn hn
      generalize checkF (ps[k]?.getD pin0) r t = c at *
      have n0 : (c == 0) = false := by simpa using h2
      clear e hR h0 h1 hat hfs hrp LP
      generalize hq : ps[k]?.getD pin0 = q at *
      go_enter Tryz.func128, Tryz.ntmps128
      go_wp2_with fail
      generalize (w.alloc (.cells #[.string r.p.n, .int .i64 r.p.a, .int .i64 r.p.b, .int .i64 r.p.e, .int .i64 r.p.u, .int .i64 r.b, .int .i64 r.x, .int .i64 r.y] 66)).alloc (.cells #[.int .i64 0, .slice none 0 0] 192) = W0 at *
      refine F.mono ?_
      rintro e u1 ⟨rfl, b1⟩
      have Q1 := Q0.on b1
      have Z1 := Z0.on b1
      have B1 := btr b0 b1
      clear Q0 Z0 b0 b1 F
      go_wp2_with fail
      refine (G _ _ Q1).mono ?_
      rintro e u2 ⟨rfl, b2⟩
      have Q2 := Q1.on b2
      have Z2 := Z1.on b2
      have B2 := btr B1 b2
      clear Q1 Z1 B1 b2 G
      have c0 := Q2.cell 0 _ rfl
      go_wp2_with fail
      refine (AT.out _ B2).mono ?_
      rintro e u3 ⟨rfl, b3⟩
      have Q3 := Q2.on b3
      have Z3 := Z2.on b3
      have B3 := btr B2 b3
      clear Q2 Z2 B2 b3 AT c0
      have hka : ((0 : Int) + (k : Nat)) = k := by omega
      obtain ⟨b, off, hab, hbB, c0, c1, c2, c3, c4⟩ := RW.out _ B3
      have HK1 := Lib.hid hq
      clear hq
      subst hab
      have d0 := Q3.cell 0 _ rfl
      have d1 := Q3.cell 1 _ rfl
      have d2 := Q3.cell 2 _ rfl
      have d3 := Q3.cell 3 _ rfl
      have d4 := Q3.cell 4 _ rfl
      have d5 := Q3.cell 5 _ rfl
      have d6 := Q3.cell 6 _ rfl
      have d7 := Q3.cell 7 _ rfl
      go_wp2_with fail
      refine wp_region_line (Bel u3) [(0, true), (1, true), (2, true), (3, true), (4, true), (5, true), (6, false), (7, true)] (by kernel_rfl) (by kernel_rfl) (fun _ _ d _ _ h => by cases d <;> exact h) (Bel.drew u3) ?_
      have hst := Bel.drew u3
      have inst : Nonempty (Of (Bel u3)) := ⟨⟨_, hst⟩⟩
      have q0 := bel_cell c0
      have q1 := bel_cell c1
      have q2 := bel_cell c2
      have q3 := bel_cell c3
      have q4 := bel_cell c4
      have y0 := bel_cell d0
      have y1 := bel_cell d1
      have y2 := bel_cell d2
      have y3 := bel_cell d3
      have y4 := bel_cell d4
      have y5 := bel_cell d5
      have y6 := bel_cell d6
      have y7 := bel_cell d7
      iterate 6 (refine line_read rfl (by kernel_rfl) (fun K hK => ?_); go_big_quiet_op; refine hK _ ?_; clear hK K)
      refine line_alone rfl (by kernel_rfl) (fun K hK => ?_)
      refine call_wp (args := #[P5 q, R8 r, .int .i64 t]) rfl (by kernel_rfl) (by kernel_rfl) (CK _) (fun wn hbn => ?_)
      have hst2 := hst.on hbn
      refine hK _ _ hst2 ?_
      clear hK K hst hbn
      have hst := hst2
      clear hst2
      simp only [Act.put, List.setIfInBounds_toArray, List.set_cons_zero, List.set_cons_succ]
      iterate 1 (refine line_read rfl (by kernel_rfl) (fun K hK => ?_); go_big_quiet_op; refine hK _ ?_; clear hK K)
      refine line_nil ?_
      have B4 := btr B3 hst.out
      have Q4 := Q3.on hst.out
      have Z4 := Z3.on hst.out
      clear hst inst q0 q1 q2 q3 q4 y0 y1 y2 y3 y4 y5 y6 y7 c0 c1 c2 c3 c4 d0 d1 d2 d3 d4 d5 d6 d7 Q3 Z3 B3 CK
      have z0 := Z4.cell 0 _ rfl
      have z1 := Z4.cell 1 _ rfl
      have h0 := Z4.free 0 _ rfl
      have h1 := Z4.free 1 _ rfl
      have HB := Lib.hid B4
      clear Z4 B4
      go_wp2_with fail
      refine bodyPost_ret (v := .agg #[.int .i64 c, .slice none 0 0]) (by simp [results, Tryz.results128, go_sem, z0, z1]) rfl ⟨none, 0, 0, rfl, OwnP.nil _ _, ?_⟩
      exact (by (iterate 2 (refine bset ?_ (by dsimp only; omega) _)); exact HB.out)

def Looked (W : World) (o : Option PinD) (v1 v2 : Value) (wx : World) : Prop := ∃ ob, v1 = .pointer (some ⟨ob, 0, none⟩) ∧ v2 = .bool o.isSome ∧ At ob (o.getD pin0).vals wx ∧ Below W.heap.size W wx
set_option maxHeartbeats 4000000 in
theorem implApplyRoll_any (a : Option Addr) (len cap B : Nat) (ps : List PinD) (r : RollD) (t : Int) (w : World) (lab : Labels w) (ert : ErrT w) (hR : PRow w B a len cap ps) (hB : B ≤ w.heap.size) (hn : r.p.n.size ≤ maxLen) :
    Calls Tryz.prog 124 #[.slice a len cap, R8 r, .int .i64 t] w (PinsRes (applyC ps r t) (applyL ps r t) w) := by
  have hL := Lib.hid hR.length
  have hf := hR.fits
  have hm := hR.most
  unfold maxLen at hm
  have hN := Lib.hid hR.names
  have b0 := bal (bal (Below.refl _ w) (.cells #[.string r.p.n, .int .i64 r.p.a, .int .i64 r.p.b, .int .i64 r.p.e, .int .i64 r.p.u, .int .i64 r.b, .int .i64 r.x, .int .i64 r.y] 66)) (.cells #[.int .i64 0, .slice none 0 0] 192)
  have Q0 : At w.heap.size r.vals ((w.alloc (.cells #[.string r.p.n, .int .i64 r.p.a, .int .i64 r.p.b, .int .i64 r.p.e, .int .i64 r.p.u, .int .i64 r.b, .int .i64 r.x, .int .i64 r.y] 66)).alloc (.cells #[.int .i64 0, .slice none 0 0] 192)) := (At.new w r.vals 66).alloc _
  have Z0 : At (w.heap.size + 1) [.int .i64 0, .slice none 0 0] ((w.alloc (.cells #[.string r.p.n, .int .i64 r.p.a, .int .i64 r.p.b, .int .i64 r.p.e, .int .i64 r.p.u, .int .i64 r.b, .int .i64 r.x, .int .i64 r.y] 66)).alloc (.cells #[.int .i64 0, .slice none 0 0] 192)) := At.newN (w := w.alloc (.cells #[.string r.p.n, .int .i64 r.p.a, .int .i64 r.p.b, .int .i64 r.p.e, .int .i64 r.p.u, .int .i64 r.b, .int .i64 r.x, .int .i64 r.y] 66)) [.int .i64 0, .slice none 0 0] 192 (by simp)
  have lab0 := lab.on b0
  have ert0 := ert.on b0
  clear lab ert
  have F := implPinsFault_any a len cap B ps _ (hR.below (b0.mono hB)) (Nat.le_trans hB b0.size)
  by_cases h0 : pinsF ps = 0
  case neg =>
    rw [(applyC_list h0).1, (applyC_list h0).2]
    generalize pinsF ps = c at *
    have q0 : (c == 0) = false := by simpa using h0
    clear hR
    go_enter Tryz.func124, Tryz.ntmps124
    go_wp2_with fail
    generalize (w.alloc (.cells #[.string r.p.n, .int .i64 r.p.a, .int .i64 r.p.b, .int .i64 r.p.e, .int .i64 r.p.u, .int .i64 r.b, .int .i64 r.x, .int .i64 r.y] 66)).alloc (.cells #[.int .i64 0, .slice none 0 0] 192) = W0 at *
    refine F.mono ?_
    rintro e u1 ⟨rfl, b1⟩
    have Q1 := Q0.on b1
    have Z1 := Z0.on b1
    have B1 := btr b0 b1
    have L1 := lab0.on b1
    have E1 := ert0.on b1
    clear Q0 Z0 b0 b1 F lab0 ert0
    have z0 := Z1.cell 0 _ rfl
    have z1 := Z1.cell 1 _ rfl
    have h0 := Z1.free 0 _ rfl
    have h1 := Z1.free 1 _ rfl
    have HB := Lib.hid B1
    clear Z1 B1
    go_wp2_with fail
    refine bodyPost_ret (v := .agg #[.int .i64 c, .slice none 0 0]) (by simp [results, Tryz.results124, go_sem, z0, z1]) rfl ⟨none, 0, 0, rfl, OwnP.nil _ _, ?_⟩
    exact (by (iterate 2 (refine bset ?_ (by dsimp only; omega) _)); exact HB.out)
  rw [h0] at F
  by_cases h1 : r.f = 0
  case neg =>
    rw [(applyC_roll h0 h1).1, (applyC_roll h0 h1).2]
    have G := fun w => rolloverOf_no r w hn h1
    generalize r.f = c at *
    clear hR
    go_enter Tryz.func124, Tryz.ntmps124
    go_wp2_with fail
    generalize (w.alloc (.cells #[.string r.p.n, .int .i64 r.p.a, .int .i64 r.p.b, .int .i64 r.p.e, .int .i64 r.p.u, .int .i64 r.b, .int .i64 r.x, .int .i64 r.y] 66)).alloc (.cells #[.int .i64 0, .slice none 0 0] 192) = W0 at *
    refine F.mono ?_
    rintro e u1 ⟨rfl, b1⟩
    have Q1 := Q0.on b1
    have Z1 := Z0.on b1
    have B1 := btr b0 b1
    have L1 := lab0.on b1
    have E1 := ert0.on b1
    clear Q0 Z0 b0 b1 F lab0 ert0
    have d0 := Q1.cell 0 _ rfl
    have d1 := Q1.cell 1 _ rfl
    have d2 := Q1.cell 2 _ rfl
    have d3 := Q1.cell 3 _ rfl
    have d4 := Q1.cell 4 _ rfl
    have d5 := Q1.cell 5 _ rfl
    have d6 := Q1.cell 6 _ rfl
    have d7 := Q1.cell 7 _ rfl
    go_wp2_with fail
    refine (G _).mono ?_
    rintro e u2 ⟨z, hz, rfl, b2⟩
    have ba := btr b2 (bal (Below.refl _ u2) (.cells #[.string { data := #[] }, .int .i64 0, .int .i64 0, .int .i64 0, .int .i64 0, .int .i64 0, .int .i64 0, .int .i64 0] 286))
    have Z2 := Z1.on ba
    have B2 := btr B1 ba
    have E2 := E1.on ba
    have ne := hz.all.neq
    have ng := hz.all.gneq
    clear Q1 Z1 B1 L1 E1 b2 ba G d0 d1 d2 d3 d4 d5 d6 d7
    go_wp2_with fail
    refine (codeOf_err hz.all _ E2).mono ?_
    rintro e u3 ⟨rfl, b3⟩
    have Z3 := Z2.on b3
    have B3 := btr B2 b3
    clear Z2 B2 E2 b3
    have z0 := Z3.cell 0 _ rfl
    have z1 := Z3.cell 1 _ rfl
    have h0 := Z3.free 0 _ rfl
    have h1 := Z3.free 1 _ rfl
    have HB := Lib.hid B3
    clear Z3 B3
    go_wp2_with fail
    refine bodyPost_ret (v := .agg #[.int .i64 c, .slice none 0 0]) (by simp [results, Tryz.results124, go_sem, z0, z1]) rfl ⟨none, 0, 0, rfl, OwnP.nil _ _, ?_⟩
    exact (by (iterate 2 (refine bset ?_ (by dsimp only; omega) _)); exact HB.out)
  have G := fun w => rolloverOf_yes r w hn h1
  obtain ⟨hl4, hgood, hrise⟩ := pinsF_zero h0
  have LK := Lib.hid (fun (w : World) (b : Nat) (h : PMap w b ps) => h.look (s := r.p.n) hn)
  have BN := Lib.hid (fun (w1 : World) (h : Below w.heap.size w w1) => pinsByName_any a len cap B ps w1 (hR.below (h.mono hB)) (Nat.le_trans hB h.size) (by have := hL.out; omega) hrise.apart)
  have PP := Lib.hid (fun (w1 : World) (h : Below w.heap.size w w1) => implPutPin_any a len cap B ps r.p w1 (hR.below (h.mono hB)) (Nat.le_trans hB h.size) hn)
  have hnames := hR.names
  clear hR hgood hrise hl4
  cases hfo : findP ps r.p.nm with
  | none =>
    have e := applyC_none (t := t) h0 h1 hfo
    rw [e.1, e.2]
    have hf2 : findP ps r.p.n.data.toList = none := hfo
    simp only [hf2, Option.getD_none, Option.isSome_none] at LK
    clear e h0 h1 hfo hf2 PP hnames
    generalize hfo : (none : Option PinD) = fo
    go_enter Tryz.func124, Tryz.ntmps124
    go_wp2_with fail
    generalize (w.alloc (.cells #[.string r.p.n, .int .i64 r.p.a, .int .i64 r.p.b, .int .i64 r.p.e, .int .i64 r.p.u, .int .i64 r.b, .int .i64 r.x, .int .i64 r.y] 66)).alloc (.cells #[.int .i64 0, .slice none 0 0] 192) = W0 at *
    refine F.mono ?_
    rintro e u1 ⟨rfl, b1⟩
    have Q1 := Q0.on b1
    have Z1 := Z0.on b1
    have B1 := btr b0 b1
    have L1 := lab0.on b1
    have E1 := ert0.on b1
    clear Q0 Z0 b0 b1 F lab0 ert0
    have d0 := Q1.cell 0 _ rfl
    have d1 := Q1.cell 1 _ rfl
    have d2 := Q1.cell 2 _ rfl
    have d3 := Q1.cell 3 _ rfl
    have d4 := Q1.cell 4 _ rfl
    have d5 := Q1.cell 5 _ rfl
    have d6 := Q1.cell 6 _ rfl
    have d7 := Q1.cell 7 _ rfl
    go_wp2_with fail
    refine (G _).mono ?_
    rintro e u2 ⟨rfl, b2⟩
    have ba := btr b2 (bal (Below.refl _ u2) (.cells #[.string r.p.n, .int .i64 r.p.a, .int .i64 r.p.b, .int .i64 r.p.e, .int .i64 r.p.u, .int .i64 r.b, .int .i64 r.x, .int .i64 r.y] 286))
    have Q2 := Q1.on ba
    have Z2 := Z1.on ba
    have X2 : At u2.heap.size r.vals (u2.alloc (.cells #[.string r.p.n, .int .i64 r.p.a, .int .i64 r.p.b, .int .i64 r.p.e, .int .i64 r.p.u, .int .i64 r.b, .int .i64 r.x, .int .i64 r.y] 286)) := At.new u2 r.vals 286
    have B2 := btr B1 ba
    have L2 := L1.on ba
    have E2 := E1.on ba
    clear Q1 Z1 B1 L1 E1 b2 ba G d0 d1 d2 d3 d4 d5 d6 d7
    have x0 := X2.cell 0 _ rfl
    go_upto_region 7 with fail
    generalize u2.alloc (.cells #[.string r.p.n, .int .i64 r.p.a, .int .i64 r.p.b, .int .i64 r.p.e, .int .i64 r.p.u, .int .i64 r.b, .int .i64 r.x, .int .i64 r.y] 286) = W2 at *
    generalize u2.heap.size = xb at *
    go_cut [10, 11] from 29 to 38 (fun v1 v2 wx => Looked W2 fo v1 v2 wx)
    case first =>
      refine wp_region_fork (Bel W2) (by kernel_rfl) (Bel.drew W2) ?_
      have hst : (Bel W2) _ := (Bel.drew W2)
      have inst : Nonempty (Of (Bel W2)) := ⟨⟨_, hst⟩⟩
      have y0 := bel_cell x0
      generalize W2.drew = V1 at *
      refine any_seg 8 [(0, true), (2, true), (3, true), (4, true)] (by kernel_rfl) (fun _ _ d _ _ h => by cases d <;> exact h) ?_
      iterate 4 (refine line_read rfl (by kernel_rfl) (fun K hK => ?_); go_big_quiet_op; refine hK _ ?_; clear hK K)
      refine line_nil ?_
      clear y0
      refine any_fork 1 9 (by kernel_rfl) rfl rfl (by kernel_rfl) (by kernel_rfl) (fun K hK => ?_) (fun K hK => ?_)
      · refine call_any (args := #[.slice a len cap]) rfl (by kernel_rfl) (by kernel_rfl) (BN.out _ (btr B2 hst.out)) ?_
        rintro e x1 ⟨rfl, M1, hbn⟩
        have hst2 := hst.on hbn
        refine ⟨_, rfl, hK _ _ hst2 ?_⟩
        clear hK K hst hbn
        have hst := hst2
        clear hst2
        simp only [Act.put, List.setIfInBounds_toArray, List.set_cons_zero, List.set_cons_succ]
        have lk := LK.out _ _ M1
        refine any_fork 5 9 (by kernel_rfl) rfl rfl (by kernel_rfl) (by kernel_rfl) (fun K hK => ?_) (fun K hK => ?_)
        · go_big_op
          refine hK _ _ hst ?_
          clear hK K lk M1
          refine any_rest [(6, true), (7, true), (8, true), (9, false), (10, false), (11, true)] (by kernel_rfl) (fun _ _ d _ _ h => by cases d <;> exact h) ?_
          iterate 3 (refine line_read rfl (by kernel_rfl) (fun K hK => ?_); go_big_quiet_op; refine hK _ ?_; clear hK K)
          refine line_alone rfl (by kernel_rfl) (fun K hK => ?_)
          go_big_op
          have hst2 := hst.on (bal (Below.refl _ x1) (.cells #[.string { data := #[] }, .int .i64 0, .int .i64 0, .int .i64 0, .int .i64 0] 59))
          have A : At x1.heap.size pin0.vals (x1.alloc (.cells #[.string { data := #[] }, .int .i64 0, .int .i64 0, .int .i64 0, .int .i64 0] 59)) := At.new x1 pin0.vals 59
          have leA : W2.heap.size ≤ x1.heap.size := hst.out.size
          refine hK _ _ hst2 ?_
          clear hK K hst
          have hst := hst2
          clear hst2
          generalize x1.alloc (.cells #[.string { data := #[] }, .int .i64 0, .int .i64 0, .int .i64 0, .int .i64 0] 59) = xa at *
          generalize x1.heap.size = ga at *
          have h0 := A.cell 0 _ rfl
          have h1 := A.cell 1 _ rfl
          have h2 := A.cell 2 _ rfl
          have h3 := A.cell 3 _ rfl
          have h4 := A.cell 4 _ rfl
          have f0 := A.free 0 _ rfl
          have f1 := A.free 1 _ rfl
          have f2 := A.free 2 _ rfl
          have f3 := A.free 3 _ rfl
          have f4 := A.free 4 _ rfl
          refine line_alone rfl (by kernel_rfl) (fun K hK => ?_)
          go_big_op
          refine hK _ _ (⟨(by (iterate 5 (refine bset ?_ (by dsimp only; omega) _)); exact hst.out)⟩) ?_
          clear hK K
          have A9 := ((((A.set 0 (.string pin0.n)).set 1 (.int .i64 pin0.a)).set 2 (.int .i64 pin0.b)).set 3 (.int .i64 pin0.e)).set 4 (.int .i64 pin0.u)
          iterate 1 (refine line_read rfl (by kernel_rfl) (fun K hK => ?_); go_big_quiet_op; refine hK _ ?_; clear hK K)
          refine line_nil ?_
          have HB9 := Lib.hid (show Below W2.heap.size W2 (((((xa.setCell ⟨ga, 0, none⟩ (.string pin0.n)).setCell ⟨ga, 1, none⟩ (.int .i64 pin0.a)).setCell ⟨ga, 2, none⟩ (.int .i64 pin0.b)).setCell ⟨ga, 3, none⟩ (.int .i64 pin0.e)).setCell ⟨ga, 4, none⟩ (.int .i64 pin0.u)) from (by (iterate 5 (refine bset ?_ (by dsimp only; omega) _)); exact hst.out))
          have HA9 := Lib.hid A9
          clear hst A A9
          go_wp2_with fail
          go_meet
          case rel =>
            subst hfo
            exact ⟨_, rfl, rfl, HA9.out, HB9.out⟩
        · go_big_op
          have hst2 := hst.on (bal (Below.refl _ x1) (.cells #[.string { data := #[] }, .int .i64 0, .int .i64 0, .int .i64 0, .int .i64 0] 59))
          have A : At x1.heap.size pin0.vals (x1.alloc (.cells #[.string { data := #[] }, .int .i64 0, .int .i64 0, .int .i64 0, .int .i64 0] 59)) := At.new x1 pin0.vals 59
          have leA : W2.heap.size ≤ x1.heap.size := hst.out.size
          refine hK _ _ hst2 ?_
          clear hK K hst
          have hst := hst2
          clear hst2
          have M2 := M1.on (bal (Below.refl _ x1) (.cells #[.string { data := #[] }, .int .i64 0, .int .i64 0, .int .i64 0, .int .i64 0] 59))
          have lk := LK.out _ _ M2
          clear M1 M2
          generalize x1.alloc (.cells #[.string { data := #[] }, .int .i64 0, .int .i64 0, .int .i64 0, .int .i64 0] 59) = xa at *
          generalize x1.heap.size = ga at *
          refine any_rest [(5, false), (6, true), (7, true), (8, true), (10, false), (11, true)] (by kernel_rfl) (fun _ _ d _ _ h => by cases d <;> exact h) ?_
          refine line_alone rfl (by kernel_rfl) (fun K hK => ?_)
          go_big_op
          refine hK _ _ hst ?_
          clear hK K lk
          iterate 3 (refine line_read rfl (by kernel_rfl) (fun K hK => ?_); go_big_quiet_op; refine hK _ ?_; clear hK K)
          have h0 := A.cell 0 _ rfl
          have h1 := A.cell 1 _ rfl
          have h2 := A.cell 2 _ rfl
          have h3 := A.cell 3 _ rfl
          have h4 := A.cell 4 _ rfl
          have f0 := A.free 0 _ rfl
          have f1 := A.free 1 _ rfl
          have f2 := A.free 2 _ rfl
          have f3 := A.free 3 _ rfl
          have f4 := A.free 4 _ rfl
          refine line_alone rfl (by kernel_rfl) (fun K hK => ?_)
          go_big_op
          refine hK _ _ (⟨(by (iterate 5 (refine bset ?_ (by dsimp only; omega) _)); exact hst.out)⟩) ?_
          clear hK K
          have A9 := ((((A.set 0 (.string pin0.n)).set 1 (.int .i64 pin0.a)).set 2 (.int .i64 pin0.b)).set 3 (.int .i64 pin0.e)).set 4 (.int .i64 pin0.u)
          iterate 1 (refine line_read rfl (by kernel_rfl) (fun K hK => ?_); go_big_quiet_op; refine hK _ ?_; clear hK K)
          refine line_nil ?_
          have HB9 := Lib.hid (show Below W2.heap.size W2 (((((xa.setCell ⟨ga, 0, none⟩ (.string pin0.n)).setCell ⟨ga, 1, none⟩ (.int .i64 pin0.a)).setCell ⟨ga, 2, none⟩ (.int .i64 pin0.b)).setCell ⟨ga, 3, none⟩ (.int .i64 pin0.e)).setCell ⟨ga, 4, none⟩ (.int .i64 pin0.u)) from (by (iterate 5 (refine bset ?_ (by dsimp only; omega) _)); exact hst.out))
          have HA9 := Lib.hid A9
          clear hst A A9
          go_wp2_with fail
          go_meet
          case rel =>
            subst hfo
            exact ⟨_, rfl, rfl, HA9.out, HB9.out⟩
      · go_big_op
        have hst2 := hst.on (bal (Below.refl _ V1) (.cells #[.string { data := #[] }, .int .i64 0, .int .i64 0, .int .i64 0, .int .i64 0] 59))
        have A : At V1.heap.size pin0.vals (V1.alloc (.cells #[.string { data := #[] }, .int .i64 0, .int .i64 0, .int .i64 0, .int .i64 0] 59)) := At.new V1 pin0.vals 59
        have leA : W2.heap.size ≤ V1.heap.size := hst.out.size
        refine hK _ _ hst2 ?_
        clear hK K hst
        have hst := hst2
        clear hst2
        generalize V1.alloc (.cells #[.string { data := #[] }, .int .i64 0, .int .i64 0, .int .i64 0, .int .i64 0] 59) = xa at *
        generalize V1.heap.size = ga at *
        refine any_rest [(1, false), (5, false), (6, true), (7, true), (8, true), (10, false), (11, true)] (by kernel_rfl) (fun _ _ d _ _ h => by cases d <;> exact h) ?_
        refine line_alone rfl (by kernel_rfl) (fun K hK => ?_)
        refine call_any (args := #[.slice a len cap]) rfl (by kernel_rfl) (by kernel_rfl) (BN.out _ (btr B2 hst.out)) ?_
        rintro e x1 ⟨rfl, M1, hbn⟩
        have hst2 := hst.on hbn
        have A2 := A.on hbn
        clear A
        have A := A2
        clear A2
        refine ⟨_, rfl, hK _ _ hst2 ?_⟩
        clear hK K hst hbn
        have hst := hst2
        clear hst2
        simp only [Act.put, List.setIfInBounds_toArray, List.set_cons_zero, List.set_cons_succ]
        have lk := LK.out _ _ M1
        refine line_alone rfl (by kernel_rfl) (fun K hK => ?_)
        go_big_op
        refine hK _ _ hst ?_
        clear hK K lk M1
        iterate 3 (refine line_read rfl (by kernel_rfl) (fun K hK => ?_); go_big_quiet_op; refine hK _ ?_; clear hK K)
        have h0 := A.cell 0 _ rfl
        have h1 := A.cell 1 _ rfl
        have h2 := A.cell 2 _ rfl
        have h3 := A.cell 3 _ rfl
        have h4 := A.cell 4 _ rfl
        have f0 := A.free 0 _ rfl
        have f1 := A.free 1 _ rfl
        have f2 := A.free 2 _ rfl
        have f3 := A.free 3 _ rfl
        have f4 := A.free 4 _ rfl
        refine line_alone rfl (by kernel_rfl) (fun K hK => ?_)
        go_big_op
        refine hK _ _ (⟨(by (iterate 5 (refine bset ?_ (by dsimp only; omega) _)); exact hst.out)⟩) ?_
        clear hK K
        have A9 := ((((A.set 0 (.string pin0.n)).set 1 (.int .i64 pin0.a)).set 2 (.int .i64 pin0.b)).set 3 (.int .i64 pin0.e)).set 4 (.int .i64 pin0.u)
        iterate 1 (refine line_read rfl (by kernel_rfl) (fun K hK => ?_); go_big_quiet_op; refine hK _ ?_; clear hK K)
        refine line_nil ?_
        have HB9 := Lib.hid (show Below W2.heap.size W2 (((((x1.setCell ⟨ga, 0, none⟩ (.string pin0.n)).setCell ⟨ga, 1, none⟩ (.int .i64 pin0.a)).setCell ⟨ga, 2, none⟩ (.int .i64 pin0.b)).setCell ⟨ga, 3, none⟩ (.int .i64 pin0.e)).setCell ⟨ga, 4, none⟩ (.int .i64 pin0.u)) from (by (iterate 5 (refine bset ?_ (by dsimp only; omega) _)); exact hst.out))
        have HA9 := Lib.hid A9
        clear hst A A9
        go_wp2_with fail
        go_meet
        case rel =>
          subst hfo
          exact ⟨_, rfl, rfl, HA9.out, HB9.out⟩
    case rest =>
      obtain ⟨ob, rfl, rfl, X3, f3⟩ := hcut
      subst hfo
      have Z3 := Z2.on f3
      have B3 := btr B2 f3
      clear Q2 Z2 X2 B2 L2 E2 f3 x0 X3
      have z0 := Z3.cell 0 _ rfl
      have z1 := Z3.cell 1 _ rfl
      have h0 := Z3.free 0 _ rfl
      have h1 := Z3.free 1 _ rfl
      have HB := Lib.hid B3
      clear Z3 B3
      go_wp2_with fail
      refine bodyPost_ret (v := .agg #[.int .i64 4, .slice none 0 0]) (by simp [results, Tryz.results124, go_sem, z0, z1]) rfl ⟨none, 0, 0, rfl, OwnP.nil _ _, ?_⟩
      exact (by (iterate 2 (refine bset ?_ (by dsimp only; omega) _)); exact HB.out)
  | some q =>
    have hf2 : findP ps r.p.n.data.toList = some q := hfo
    simp only [hf2, Option.getD_some, Option.isSome_some] at LK
    have hqn : q.n.size ≤ maxLen := hnames q (findP_mem hfo).1
    clear hnames hf2
    have CK := fun w lab => checkReason_any q r t w lab hqn hn
    by_cases h2 : checkF q r t = 0
    · have e := applyC_put (t := t) h0 h1 hfo h2
      rw [e.1, e.2]
      rw [h2] at CK
      clear e h0 h1 hfo h2
      generalize hfo : some q = fo
      go_enter Tryz.func124, Tryz.ntmps124
      go_wp2_with fail
      generalize (w.alloc (.cells #[.string r.p.n, .int .i64 r.p.a, .int .i64 r.p.b, .int .i64 r.p.e, .int .i64 r.p.u, .int .i64 r.b, .int .i64 r.x, .int .i64 r.y] 66)).alloc (.cells #[.int .i64 0, .slice none 0 0] 192) = W0 at *
      refine F.mono ?_
      rintro e u1 ⟨rfl, b1⟩
      have Q1 := Q0.on b1
      have Z1 := Z0.on b1
      have B1 := btr b0 b1
      have L1 := lab0.on b1
      have E1 := ert0.on b1
      clear Q0 Z0 b0 b1 F lab0 ert0
      have d0 := Q1.cell 0 _ rfl
      have d1 := Q1.cell 1 _ rfl
      have d2 := Q1.cell 2 _ rfl
      have d3 := Q1.cell 3 _ rfl
      have d4 := Q1.cell 4 _ rfl
      have d5 := Q1.cell 5 _ rfl
      have d6 := Q1.cell 6 _ rfl
      have d7 := Q1.cell 7 _ rfl
      go_wp2_with fail
      refine (G _).mono ?_
      rintro e u2 ⟨rfl, b2⟩
      have ba := btr b2 (bal (Below.refl _ u2) (.cells #[.string r.p.n, .int .i64 r.p.a, .int .i64 r.p.b, .int .i64 r.p.e, .int .i64 r.p.u, .int .i64 r.b, .int .i64 r.x, .int .i64 r.y] 286))
      have Q2 := Q1.on ba
      have Z2 := Z1.on ba
      have X2 : At u2.heap.size r.vals (u2.alloc (.cells #[.string r.p.n, .int .i64 r.p.a, .int .i64 r.p.b, .int .i64 r.p.e, .int .i64 r.p.u, .int .i64 r.b, .int .i64 r.x, .int .i64 r.y] 286)) := At.new u2 r.vals 286
      have B2 := btr B1 ba
      have L2 := L1.on ba
      have E2 := E1.on ba
      clear Q1 Z1 B1 L1 E1 b2 ba G d0 d1 d2 d3 d4 d5 d6 d7
      have x0 := X2.cell 0 _ rfl
      go_upto_region 7 with fail
      generalize u2.alloc (.cells #[.string r.p.n, .int .i64 r.p.a, .int .i64 r.p.b, .int .i64 r.p.e, .int .i64 r.p.u, .int .i64 r.b, .int .i64 r.x, .int .i64 r.y] 286) = W2 at *
      generalize u2.heap.size = xb at *
      go_cut [10, 11] from 29 to 38 (fun v1 v2 wx => Looked W2 fo v1 v2 wx)
      case first =>
        refine wp_region_fork (Bel W2) (by kernel_rfl) (Bel.drew W2) ?_
        have hst : (Bel W2) _ := (Bel.drew W2)
        have inst : Nonempty (Of (Bel W2)) := ⟨⟨_, hst⟩⟩
        have y0 := bel_cell x0
        generalize W2.drew = V1 at *
        refine any_seg 8 [(0, true), (2, true), (3, true), (4, true)] (by kernel_rfl) (fun _ _ d _ _ h => by cases d <;> exact h) ?_
        iterate 4 (refine line_read rfl (by kernel_rfl) (fun K hK => ?_); go_big_quiet_op; refine hK _ ?_; clear hK K)
        refine line_nil ?_
        clear y0
        refine any_fork 1 9 (by kernel_rfl) rfl rfl (by kernel_rfl) (by kernel_rfl) (fun K hK => ?_) (fun K hK => ?_)
        · refine call_any (args := #[.slice a len cap]) rfl (by kernel_rfl) (by kernel_rfl) (BN.out _ (btr B2 hst.out)) ?_
          rintro e x1 ⟨rfl, M1, hbn⟩
          have hst2 := hst.on hbn
          refine ⟨_, rfl, hK _ _ hst2 ?_⟩
          clear hK K hst hbn
          have hst := hst2
          clear hst2
          simp only [Act.put, List.setIfInBounds_toArray, List.set_cons_zero, List.set_cons_succ]
          have lk := LK.out _ _ M1
          refine any_fork 5 9 (by kernel_rfl) rfl rfl (by kernel_rfl) (by kernel_rfl) (fun K hK => ?_) (fun K hK => ?_)
          · go_big_op
            refine hK _ _ hst ?_
            clear hK K lk M1
            refine any_rest [(6, true), (7, true), (8, true), (9, false), (10, false), (11, true)] (by kernel_rfl) (fun _ _ d _ _ h => by cases d <;> exact h) ?_
            iterate 3 (refine line_read rfl (by kernel_rfl) (fun K hK => ?_); go_big_quiet_op; refine hK _ ?_; clear hK K)
            refine line_alone rfl (by kernel_rfl) (fun K hK => ?_)
            go_big_op
            have hst2 := hst.on (bal (Below.refl _ x1) (.cells #[.string { data := #[] }, .int .i64 0, .int .i64 0, .int .i64 0, .int .i64 0] 59))
            have A : At x1.heap.size pin0.vals (x1.alloc (.cells #[.string { data := #[] }, .int .i64 0, .int .i64 0, .int .i64 0, .int .i64 0] 59)) := At.new x1 pin0.vals 59
            have leA : W2.heap.size ≤ x1.heap.size := hst.out.size
            refine hK _ _ hst2 ?_
            clear hK K hst
            have hst := hst2
            clear hst2
            generalize x1.alloc (.cells #[.string { data := #[] }, .int .i64 0, .int .i64 0, .int .i64 0, .int .i64 0] 59) = xa at *
            generalize x1.heap.size = ga at *
            have h0 := A.cell 0 _ rfl
            have h1 := A.cell 1 _ rfl
            have h2 := A.cell 2 _ rfl
            have h3 := A.cell 3 _ rfl
            have h4 := A.cell 4 _ rfl
            have f0 := A.free 0 _ rfl
            have f1 := A.free 1 _ rfl
            have f2 := A.free 2 _ rfl
            have f3 := A.free 3 _ rfl
            have f4 := A.free 4 _ rfl
            refine line_alone rfl (by kernel_rfl) (fun K hK => ?_)
            go_big_op
            refine hK _ _ (⟨(by (iterate 5 (refine bset ?_ (by dsimp only; omega) _)); exact hst.out)⟩) ?_
            clear hK K
            have A9 := ((((A.set 0 (.string q.n)).set 1 (.int .i64 q.a)).set 2 (.int .i64 q.b)).set 3 (.int .i64 q.e)).set 4 (.int .i64 q.u)
            iterate 1 (refine line_read rfl (by kernel_rfl) (fun K hK => ?_); go_big_quiet_op; refine hK _ ?_; clear hK K)
            refine line_nil ?_
            have HB9 := Lib.hid (show Below W2.heap.size W2 (((((xa.setCell ⟨ga, 0, none⟩ (.string q.n)).setCell ⟨ga, 1, none⟩ (.int .i64 q.a)).setCell ⟨ga, 2, none⟩ (.int .i64 q.b)).setCell ⟨ga, 3, none⟩ (.int .i64 q.e)).setCell ⟨ga, 4, none⟩ (.int .i64 q.u)) from (by (iterate 5 (refine bset ?_ (by dsimp only; omega) _)); exact hst.out))
            have HA9 := Lib.hid A9
            clear hst A A9
            go_wp2_with fail
            go_meet
            case rel =>
              subst hfo
              exact ⟨_, rfl, rfl, HA9.out, HB9.out⟩
          · go_big_op
            have hst2 := hst.on (bal (Below.refl _ x1) (.cells #[.string { data := #[] }, .int .i64 0, .int .i64 0, .int .i64 0, .int .i64 0] 59))
            have A : At x1.heap.size pin0.vals (x1.alloc (.cells #[.string { data := #[] }, .int .i64 0, .int .i64 0, .int .i64 0, .int .i64 0] 59)) := At.new x1 pin0.vals 59
            have leA : W2.heap.size ≤ x1.heap.size := hst.out.size
            refine hK _ _ hst2 ?_
            clear hK K hst
            have hst := hst2
            clear hst2
            have M2 := M1.on (bal (Below.refl _ x1) (.cells #[.string { data := #[] }, .int .i64 0, .int .i64 0, .int .i64 0, .int .i64 0] 59))
            have lk := LK.out _ _ M2
            clear M1 M2
            generalize x1.alloc (.cells #[.string { data := #[] }, .int .i64 0, .int .i64 0, .int .i64 0, .int .i64 0] 59) = xa at *
            generalize x1.heap.size = ga at *
            refine any_rest [(5, false), (6, true), (7, true), (8, true), (10, false), (11, true)] (by kernel_rfl) (fun _ _ d _ _ h => by cases d <;> exact h) ?_
            refine line_alone rfl (by kernel_rfl) (fun K hK => ?_)
            go_big_op
            refine hK _ _ hst ?_
            clear hK K lk
            iterate 3 (refine line_read rfl (by kernel_rfl) (fun K hK => ?_); go_big_quiet_op; refine hK _ ?_; clear hK K)
            have h0 := A.cell 0 _ rfl
            have h1 := A.cell 1 _ rfl
            have h2 := A.cell 2 _ rfl
            have h3 := A.cell 3 _ rfl
            have h4 := A.cell 4 _ rfl
            have f0 := A.free 0 _ rfl
            have f1 := A.free 1 _ rfl
            have f2 := A.free 2 _ rfl
            have f3 := A.free 3 _ rfl
            have f4 := A.free 4 _ rfl
            refine line_alone rfl (by kernel_rfl) (fun K hK => ?_)
            go_big_op
            refine hK _ _ (⟨(by (iterate 5 (refine bset ?_ (by dsimp only; omega) _)); exact hst.out)⟩) ?_
            clear hK K
            have A9 := ((((A.set 0 (.string q.n)).set 1 (.int .i64 q.a)).set 2 (.int .i64 q.b)).set 3 (.int .i64 q.e)).set 4 (.int .i64 q.u)
            iterate 1 (refine line_read rfl (by kernel_rfl) (fun K hK => ?_); go_big_quiet_op; refine hK _ ?_; clear hK K)
            refine line_nil ?_
            have HB9 := Lib.hid (show Below W2.heap.size W2 (((((xa.setCell ⟨ga, 0, none⟩ (.string q.n)).setCell ⟨ga, 1, none⟩ (.int .i64 q.a)).setCell ⟨ga, 2, none⟩ (.int .i64 q.b)).setCell ⟨ga, 3, none⟩ (.int .i64 q.e)).setCell ⟨ga, 4, none⟩ (.int .i64 q.u)) from (by (iterate 5 (refine bset ?_ (by dsimp only; omega) _)); exact hst.out))
            have HA9 := Lib.hid A9
            clear hst A A9
            go_wp2_with fail
            go_meet
            case rel =>
              subst hfo
              exact ⟨_, rfl, rfl, HA9.out, HB9.out⟩
        · go_big_op
          have hst2 := hst.on (bal (Below.refl _ V1) (.cells #[.string { data := #[] }, .int .i64 0, .int .i64 0, .int .i64 0, .int .i64 0] 59))
          have A : At V1.heap.size pin0.vals (V1.alloc (.cells #[.string { data := #[] }, .int .i64 0, .int .i64 0, .int .i64 0, .int .i64 0] 59)) := At.new V1 pin0.vals 59
          have leA : W2.heap.size ≤ V1.heap.size := hst.out.size
          refine hK _ _ hst2 ?_
          clear hK K hst
          have hst := hst2
          clear hst2
          generalize V1.alloc (.cells #[.string { data := #[] }, .int .i64 0, .int .i64 0, .int .i64 0, .int .i64 0] 59) = xa at *
          generalize V1.heap.size = ga at *
          refine any_rest [(1, false), (5, false), (6, true), (7, true), (8, true), (10, false), (11, true)] (by kernel_rfl) (fun _ _ d _ _ h => by cases d <;> exact h) ?_
          refine line_alone rfl (by kernel_rfl) (fun K hK => ?_)
          refine call_any (args := #[.slice a len cap]) rfl (by kernel_rfl) (by kernel_rfl) (BN.out _ (btr B2 hst.out)) ?_
          rintro e x1 ⟨rfl, M1, hbn⟩
          have hst2 := hst.on hbn
          have A2 := A.on hbn
          clear A
          have A := A2
          clear A2
          refine ⟨_, rfl, hK _ _ hst2 ?_⟩
          clear hK K hst hbn
          have hst := hst2
          clear hst2
          simp only [Act.put, List.setIfInBounds_toArray, List.set_cons_zero, List.set_cons_succ]
          have lk := LK.out _ _ M1
          refine line_alone rfl (by kernel_rfl) (fun K hK => ?_)
          go_big_op
          refine hK _ _ hst ?_
          clear hK K lk M1
          iterate 3 (refine line_read rfl (by kernel_rfl) (fun K hK => ?_); go_big_quiet_op; refine hK _ ?_; clear hK K)
          have h0 := A.cell 0 _ rfl
          have h1 := A.cell 1 _ rfl
          have h2 := A.cell 2 _ rfl
          have h3 := A.cell 3 _ rfl
          have h4 := A.cell 4 _ rfl
          have f0 := A.free 0 _ rfl
          have f1 := A.free 1 _ rfl
          have f2 := A.free 2 _ rfl
          have f3 := A.free 3 _ rfl
          have f4 := A.free 4 _ rfl
          refine line_alone rfl (by kernel_rfl) (fun K hK => ?_)
          go_big_op
          refine hK _ _ (⟨(by (iterate 5 (refine bset ?_ (by dsimp only; omega) _)); exact hst.out)⟩) ?_
          clear hK K
          have A9 := ((((A.set 0 (.string q.n)).set 1 (.int .i64 q.a)).set 2 (.int .i64 q.b)).set 3 (.int .i64 q.e)).set 4 (.int .i64 q.u)
          iterate 1 (refine line_read rfl (by kernel_rfl) (fun K hK => ?_); go_big_quiet_op; refine hK _ ?_; clear hK K)
          refine line_nil ?_
          have HB9 := Lib.hid (show Below W2.heap.size W2 (((((x1.setCell ⟨ga, 0, none⟩ (.string q.n)).setCell ⟨ga, 1, none⟩ (.int .i64 q.a)).setCell ⟨ga, 2, none⟩ (.int .i64 q.b)).setCell ⟨ga, 3, none⟩ (.int .i64 q.e)).setCell ⟨ga, 4, none⟩ (.int .i64 q.u)) from (by (iterate 5 (refine bset ?_ (by dsimp only; omega) _)); exact hst.out))
          have HA9 := Lib.hid A9
          clear hst A A9
          go_wp2_with fail
          go_meet
          case rel =>
            subst hfo
            exact ⟨_, rfl, rfl, HA9.out, HB9.out⟩
      case rest =>
        obtain ⟨ob, rfl, rfl, X3', f3⟩ := hcut
        subst hfo
        have X3 : At ob q.vals _ := X3'
        have Q3 := Q2.on f3
        have Z3 := Z2.on f3
        have Y3 := X2.on f3
        have B3 := btr B2 f3
        have L3 := L2.on f3
        have E3 := E2.on f3
        clear Q2 Z2 X2 B2 L2 E2 f3 x0 X3'
        have d0 := Q3.cell 0 _ rfl
        have d1 := Q3.cell 1 _ rfl
        have d2 := Q3.cell 2 _ rfl
        have d3 := Q3.cell 3 _ rfl
        have d4 := Q3.cell 4 _ rfl
        have d5 := Q3.cell 5 _ rfl
        have d6 := Q3.cell 6 _ rfl
        have d7 := Q3.cell 7 _ rfl
        have c0 := X3.cell 0 _ rfl
        have c1 := X3.cell 1 _ rfl
        have c2 := X3.cell 2 _ rfl
        have c3 := X3.cell 3 _ rfl
        have c4 := X3.cell 4 _ rfl
        go_wp2_with fail
        refine (CK _ L3).mono ?_
        rintro e u4 ⟨z, hz0, hz1, rfl, b4⟩
        have Z4 := Z3.on b4
        have Y4 := Y3.on b4
        have B4 := btr B3 b4
        have E4 := E3.on b4
        clear Q3 Z3 X3 Y3 B3 L3 E3 b4 CK d0 d1 d2 d3 d4 d5 d6 d7 c0 c1 c2 c3 c4
        obtain rfl := hz0 rfl
        clear hz0 hz1
        have d0 := Y4.cell 0 _ rfl
        have d1 := Y4.cell 1 _ rfl
        have d2 := Y4.cell 2 _ rfl
        have d3 := Y4.cell 3 _ rfl
        have d4 := Y4.cell 4 _ rfl
        go_wp2_with fail
        refine (PP.out _ B4).mono ?_
        rintro e u5 ⟨a5, n5, c5, rfl, O5, b5⟩
        generalize putC ps r.p = pc at *
        generalize putR ps r.p = zs at *
        have lt5 := Z4.lt (by simp)
        have Z5 := Z4.on b5
        have B5 := btr B4 b5
        have HO := Lib.hid O5
        clear Y4 Z4 B4 E4 b5 PP O5 d0 d1 d2 d3 d4
        have z0 := Z5.cell 0 _ rfl
        have z1 := Z5.cell 1 _ rfl
        have h0 := Z5.free 0 _ rfl
        have h1 := Z5.free 1 _ rfl
        have HB := Lib.hid B5
        clear Z5 B5
        go_wp2_with fail
        refine bodyPost_ret (v := .agg #[.int .i64 pc, .slice a5 n5 c5]) (by simp [results, Tryz.results124, go_sem, z0, z1]) rfl ⟨a5, n5, c5, rfl, ?_, (by (iterate 2 (refine bset ?_ (by dsimp only; omega) _)); exact HB.out)⟩
        have hlt := Own.lt HO.out
        refine Own.setCell (Own.setCell (HO.out.less (by omega)) (fun k hk e => ?_) _) (fun k hk e => ?_) _
        · have := (hlt k hk).1; dsimp only at e; omega
        · have := (hlt k hk).1; dsimp only at e; omega
    · have e := applyC_check (t := t) h0 h1 hfo h2
      rw [e.1, e.2]
      generalize checkF q r t = c at *
      clear e h0 h1 hfo PP
      generalize hfo : some q = fo
      go_enter Tryz.func124, Tryz.ntmps124
      go_wp2_with fail
      generalize (w.alloc (.cells #[.string r.p.n, .int .i64 r.p.a, .int .i64 r.p.b, .int .i64 r.p.e, .int .i64 r.p.u, .int .i64 r.b, .int .i64 r.x, .int .i64 r.y] 66)).alloc (.cells #[.int .i64 0, .slice none 0 0] 192) = W0 at *
      refine F.mono ?_
      rintro e u1 ⟨rfl, b1⟩
      have Q1 := Q0.on b1
      have Z1 := Z0.on b1
      have B1 := btr b0 b1
      have L1 := lab0.on b1
      have E1 := ert0.on b1
      clear Q0 Z0 b0 b1 F lab0 ert0
      have d0 := Q1.cell 0 _ rfl
      have d1 := Q1.cell 1 _ rfl
      have d2 := Q1.cell 2 _ rfl
      have d3 := Q1.cell 3 _ rfl
      have d4 := Q1.cell 4 _ rfl
      have d5 := Q1.cell 5 _ rfl
      have d6 := Q1.cell 6 _ rfl
      have d7 := Q1.cell 7 _ rfl
      go_wp2_with fail
      refine (G _).mono ?_
      rintro e u2 ⟨rfl, b2⟩
      have ba := btr b2 (bal (Below.refl _ u2) (.cells #[.string r.p.n, .int .i64 r.p.a, .int .i64 r.p.b, .int .i64 r.p.e, .int .i64 r.p.u, .int .i64 r.b, .int .i64 r.x, .int .i64 r.y] 286))
      have Q2 := Q1.on ba
      have Z2 := Z1.on ba
      have X2 : At u2.heap.size r.vals (u2.alloc (.cells #[.string r.p.n, .int .i64 r.p.a, .int .i64 r.p.b, .int .i64 r.p.e, .int .i64 r.p.u, .int .i64 r.b, .int .i64 r.x, .int .i64 r.y] 286)) := At.new u2 r.vals 286
      have B2 := btr B1 ba
      have L2 := L1.on ba
      have E2 := E1.on ba
      clear Q1 Z1 B1 L1 E1 b2 ba G d0 d1 d2 d3 d4 d5 d6 d7
      have x0 := X2.cell 0 _ rfl
      go_upto_region 7 with fail
      generalize u2.alloc (.cells #[.string r.p.n, .int .i64 r.p.a, .int .i64 r.p.b, .int .i64 r.p.e, .int .i64 r.p.u, .int .i64 r.b, .int .i64 r.x, .int .i64 r.y] 286) = W2 at *
      generalize u2.heap.size = xb at *
      go_cut [10, 11] from 29 to 38 (fun v1 v2 wx => Looked W2 fo v1 v2 wx)
      case first =>
        refine wp_region_fork (Bel W2) (by kernel_rfl) (Bel.drew W2) ?_
        have hst : (Bel W2) _ := (Bel.drew W2)
        have inst : Nonempty (Of (Bel W2)) := ⟨⟨_, hst⟩⟩
        have y0 := bel_cell x0
        generalize W2.drew = V1 at *
        refine any_seg 8 [(0, true), (2, true), (3, true), (4, true)] (by kernel_rfl) (fun _ _ d _ _ h => by cases d <;> exact h) ?_
        iterate 4 (refine line_read rfl (by kernel_rfl) (fun K hK => ?_); go_big_quiet_op; refine hK _ ?_; clear hK K)
        refine line_nil ?_
        clear y0
        refine any_fork 1 9 (by kernel_rfl) rfl rfl (by kernel_rfl) (by kernel_rfl) (fun K hK => ?_) (fun K hK => ?_)
        · refine call_any (args := #[.slice a len cap]) rfl (by kernel_rfl) (by kernel_rfl) (BN.out _ (btr B2 hst.out)) ?_
          rintro e x1 ⟨rfl, M1, hbn⟩
          have hst2 := hst.on hbn
          refine ⟨_, rfl, hK _ _ hst2 ?_⟩
          clear hK K hst hbn
          have hst := hst2
          clear hst2
          simp only [Act.put, List.setIfInBounds_toArray, List.set_cons_zero, List.set_cons_succ]
          have lk := LK.out _ _ M1
          refine any_fork 5 9 (by kernel_rfl) rfl rfl (by kernel_rfl) (by kernel_rfl) (fun K hK => ?_) (fun K hK => ?_)
          · go_big_op
            refine hK _ _ hst ?_
            clear hK K lk M1
            refine any_rest [(6, true), (7, true), (8, true), (9, false), (10, false), (11, true)] (by kernel_rfl) (fun _ _ d _ _ h => by cases d <;> exact h) ?_
            iterate 3 (refine line_read rfl (by kernel_rfl) (fun K hK => ?_); go_big_quiet_op; refine hK _ ?_; clear hK K)
            refine line_alone rfl (by kernel_rfl) (fun K hK => ?_)
            go_big_op
            have hst2 := hst.on (bal (Below.refl _ x1) (.cells #[.string { data := #[] }, .int .i64 0, .int .i64 0, .int .i64 0, .int .i64 0] 59))
            have A : At x1.heap.size pin0.vals (x1.alloc (.cells #[.string { data := #[] }, .int .i64 0, .int .i64 0, .int .i64 0, .int .i64 0] 59)) := At.new x1 pin0.vals 59
            have leA : W2.heap.size ≤ x1.heap.size := hst.out.size
            refine hK _ _ hst2 ?_
            clear hK K hst
            have hst := hst2
            clear hst2
            generalize x1.alloc (.cells #[.string { data := #[] }, .int .i64 0, .int .i64 0, .int .i64 0, .int .i64 0] 59) = xa at *
            generalize x1.heap.size = ga at *
            have h0 := A.cell 0 _ rfl
            have h1 := A.cell 1 _ rfl
            have h2 := A.cell 2 _ rfl
            have h3 := A.cell 3 _ rfl
            have h4 := A.cell 4 _ rfl
            have f0 := A.free 0 _ rfl
            have f1 := A.free 1 _ rfl
            have f2 := A.free 2 _ rfl
            have f3 := A.free 3 _ rfl
            have f4 := A.free 4 _ rfl
            refine line_alone rfl (by kernel_rfl) (fun K hK => ?_)
            go_big_op
            refine hK _ _ (⟨(by (iterate 5 (refine bset ?_ (by dsimp only; omega) _)); exact hst.out)⟩) ?_
            clear hK K
            have A9 := ((((A.set 0 (.string q.n)).set 1 (.int .i64 q.a)).set 2 (.int .i64 q.b)).set 3 (.int .i64 q.e)).set 4 (.int .i64 q.u)
            iterate 1 (refine line_read rfl (by kernel_rfl) (fun K hK => ?_); go_big_quiet_op; refine hK _ ?_; clear hK K)
            refine line_nil ?_
            have HB9 := Lib.hid (show Below W2.heap.size W2 (((((xa.setCell ⟨ga, 0, none⟩ (.string q.n)).setCell ⟨ga, 1, none⟩ (.int .i64 q.a)).setCell ⟨ga, 2, none⟩ (.int .i64 q.b)).setCell ⟨ga, 3, none⟩ (.int .i64 q.e)).setCell ⟨ga, 4, none⟩ (.int .i64 q.u)) from (by (iterate 5 (refine bset ?_ (by dsimp only; omega) _)); exact hst.out))
            have HA9 := Lib.hid A9
            clear hst A A9
            go_wp2_with fail
            go_meet
            case rel =>
              subst hfo
              exact ⟨_, rfl, rfl, HA9.out, HB9.out⟩
          · go_big_op
            have hst2 := hst.on (bal (Below.refl _ x1) (.cells #[.string { data := #[] }, .int .i64 0, .int .i64 0, .int .i64 0, .int .i64 0] 59))
            have A : At x1.heap.size pin0.vals (x1.alloc (.cells #[.string { data := #[] }, .int .i64 0, .int .i64 0, .int .i64 0, .int .i64 0] 59)) := At.new x1 pin0.vals 59
            have leA : W2.heap.size ≤ x1.heap.size := hst.out.size
            refine hK _ _ hst2 ?_
            clear hK K hst
            have hst := hst2
            clear hst2
            have M2 := M1.on (bal (Below.refl _ x1) (.cells #[.string { data := #[] }, .int .i64 0, .int .i64 0, .int .i64 0, .int .i64 0] 59))
            have lk := LK.out _ _ M2
            clear M1 M2
            generalize x1.alloc (.cells #[.string { data := #[] }, .int .i64 0, .int .i64 0, .int .i64 0, .int .i64 0] 59) = xa at *
            generalize x1.heap.size = ga at *
            refine any_rest [(5, false), (6, true), (7, true), (8, true), (10, false), (11, true)] (by kernel_rfl) (fun _ _ d _ _ h => by cases d <;> exact h) ?_
            refine line_alone rfl (by kernel_rfl) (fun K hK => ?_)
            go_big_op
            refine hK _ _ hst ?_
            clear hK K lk
            iterate 3 (refine line_read rfl (by kernel_rfl) (fun K hK => ?_); go_big_quiet_op; refine hK _ ?_; clear hK K)
            have h0 := A.cell 0 _ rfl
            have h1 := A.cell 1 _ rfl
            have h2 := A.cell 2 _ rfl
            have h3 := A.cell 3 _ rfl
            have h4 := A.cell 4 _ rfl
            have f0 := A.free 0 _ rfl
            have f1 := A.free 1 _ rfl
            have f2 := A.free 2 _ rfl
            have f3 := A.free 3 _ rfl
            have f4 := A.free 4 _ rfl
            refine line_alone rfl (by kernel_rfl) (fun K hK => ?_)
            go_big_op
            refine hK _ _ (⟨(by (iterate 5 (refine bset ?_ (by dsimp only; omega) _)); exact hst.out)⟩) ?_
            clear hK K
            have A9 := ((((A.set 0 (.string q.n)).set 1 (.int .i64 q.a)).set 2 (.int .i64 q.b)).set 3 (.int .i64 q.e)).set 4 (.int .i64 q.u)
            iterate 1 (refine line_read rfl (by kernel_rfl) (fun K hK => ?_); go_big_quiet_op; refine hK _ ?_; clear hK K)
            refine line_nil ?_
            have HB9 := Lib.hid (show Below W2.heap.size W2 (((((xa.setCell ⟨ga, 0, none⟩ (.string q.n)).setCell ⟨ga, 1, none⟩ (.int .i64 q.a)).setCell ⟨ga, 2, none⟩ (.int .i64 q.b)).setCell ⟨ga, 3, none⟩ (.int .i64 q.e)).setCell ⟨ga, 4, none⟩ (.int .i64 q.u)) from (by (iterate 5 (refine bset ?_ (by dsimp only; omega) _)); exact hst.out))
            have HA9 := Lib.hid A9
            clear hst A A9
            go_wp2_with fail
            go_meet
            case rel =>
              subst hfo
              exact ⟨_, rfl, rfl, HA9.out, HB9.out⟩
        · go_big_op
          have hst2 := hst.on (bal (Below.refl _ V1) (.cells #[.string { data := #[] }, .int .i64 0, .int .i64 0, .int .i64 0, .int .i64 0] 59))
          have A : At V1.heap.size pin0.vals (V1.alloc (.cells #[.string { data := #[] }, .int .i64 0, .int .i64 0, .int .i64 0, .int .i64 0] 59)) := At.new V1 pin0.vals 59
          have leA : W2.heap.size ≤ V1.heap.size := hst.out.size
          refine hK _ _ hst2 ?_
          clear hK K hst
          have hst := hst2
          clear hst2
          generalize V1.alloc (.cells #[.string { data := #[] }, .int .i64 0, .int .i64 0, .int .i64 0, .int .i64 0] 59) = xa at *
          generalize V1.heap.size = ga at *
          refine any_rest [(1, false), (5, false), (6, true), (7, true), (8, true), (10, false), (11, true)] (by kernel_rfl) (fun _ _ d _ _ h => by cases d <;> exact h) ?_
          refine line_alone rfl (by kernel_rfl) (fun K hK => ?_)
          refine call_any (args := #[.slice a len cap]) rfl (by kernel_rfl) (by kernel_rfl) (BN.out _ (btr B2 hst.out)) ?_
          rintro e x1 ⟨rfl, M1, hbn⟩
          have hst2 := hst.on hbn
          have A2 := A.on hbn
          clear A
          have A := A2
          clear A2
          refine ⟨_, rfl, hK _ _ hst2 ?_⟩
          clear hK K hst hbn
          have hst := hst2
          clear hst2
          simp only [Act.put, List.setIfInBounds_toArray, List.set_cons_zero, List.set_cons_succ]
          have lk := LK.out _ _ M1
          refine line_alone rfl (by kernel_rfl) (fun K hK => ?_)
          go_big_op
          refine hK _ _ hst ?_
          clear hK K lk M1
          iterate 3 (refine line_read rfl (by kernel_rfl) (fun K hK => ?_); go_big_quiet_op; refine hK _ ?_; clear hK K)
          have h0 := A.cell 0 _ rfl
          have h1 := A.cell 1 _ rfl
          have h2 := A.cell 2 _ rfl
          have h3 := A.cell 3 _ rfl
          have h4 := A.cell 4 _ rfl
          have f0 := A.free 0 _ rfl
          have f1 := A.free 1 _ rfl
          have f2 := A.free 2 _ rfl
          have f3 := A.free 3 _ rfl
          have f4 := A.free 4 _ rfl
          refine line_alone rfl (by kernel_rfl) (fun K hK => ?_)
          go_big_op
          refine hK _ _ (⟨(by (iterate 5 (refine bset ?_ (by dsimp only; omega) _)); exact hst.out)⟩) ?_
          clear hK K
          have A9 := ((((A.set 0 (.string q.n)).set 1 (.int .i64 q.a)).set 2 (.int .i64 q.b)).set 3 (.int .i64 q.e)).set 4 (.int .i64 q.u)
          iterate 1 (refine line_read rfl (by kernel_rfl) (fun K hK => ?_); go_big_quiet_op; refine hK _ ?_; clear hK K)
          refine line_nil ?_
          have HB9 := Lib.hid (show Below W2.heap.size W2 (((((x1.setCell ⟨ga, 0, none⟩ (.string q.n)).setCell ⟨ga, 1, none⟩ (.int .i64 q.a)).setCell ⟨ga, 2, none⟩ (.int .i64 q.b)).setCell ⟨ga, 3, none⟩ (.int .i64 q.e)).setCell ⟨ga, 4, none⟩ (.int .i64 q.u)) from (by (iterate 5 (refine bset ?_ (by dsimp only; omega) _)); exact hst.out))
          have HA9 := Lib.hid A9
          clear hst A A9
          go_wp2_with fail
          go_meet
          case rel =>
            subst hfo
            exact ⟨_, rfl, rfl, HA9.out, HB9.out⟩
      case rest =>
        obtain ⟨ob, rfl, rfl, X3', f3⟩ := hcut
        subst hfo
        have X3 : At ob q.vals _ := X3'
        have Q3 := Q2.on f3
        have Z3 := Z2.on f3
        have Y3 := X2.on f3
        have B3 := btr B2 f3
        have L3 := L2.on f3
        have E3 := E2.on f3
        clear Q2 Z2 X2 B2 L2 E2 f3 x0 X3'
        have d0 := Q3.cell 0 _ rfl
        have d1 := Q3.cell 1 _ rfl
        have d2 := Q3.cell 2 _ rfl
        have d3 := Q3.cell 3 _ rfl
        have d4 := Q3.cell 4 _ rfl
        have d5 := Q3.cell 5 _ rfl
        have d6 := Q3.cell 6 _ rfl
        have d7 := Q3.cell 7 _ rfl
        have c0 := X3.cell 0 _ rfl
        have c1 := X3.cell 1 _ rfl
        have c2 := X3.cell 2 _ rfl
        have c3 := X3.cell 3 _ rfl
        have c4 := X3.cell 4 _ rfl
        go_wp2_with fail
        refine (CK _ L3).mono ?_
        rintro e u4 ⟨z, hz0, hz1, rfl, b4⟩
        have Z4 := Z3.on b4
        have Y4 := Y3.on b4
        have B4 := btr B3 b4
        have E4 := E3.on b4
        clear Q3 Z3 X3 Y3 B3 L3 E3 b4 CK d0 d1 d2 d3 d4 d5 d6 d7 c0 c1 c2 c3 c4
        have hz := hz1 h2
        have ne := hz.all.neq
        have ng := hz.all.gneq
        clear hz0 hz1 Y4
        go_wp2_with fail
        refine (codeOf_err hz.all _ E4).mono ?_
        rintro e u5 ⟨rfl, b5⟩
        have Z5 := Z4.on b5
        have B5 := btr B4 b5
        clear Z4 B4 E4 b5
        have z0 := Z5.cell 0 _ rfl
        have z1 := Z5.cell 1 _ rfl
        have h0 := Z5.free 0 _ rfl
        have h1 := Z5.free 1 _ rfl
        have HB := Lib.hid B5
        clear Z5 B5
        go_wp2_with fail
        refine bodyPost_ret (v := .agg #[.int .i64 c, .slice none 0 0]) (by simp [results, Tryz.results124, go_sem, z0, z1]) rfl ⟨none, 0, 0, rfl, OwnP.nil _ _, ?_⟩
        exact (by (iterate 2 (refine bset ?_ (by dsimp only; omega) _)); exact HB.out)
end Go.Proofs.YtlodhleihnlchaaGreatDoor
