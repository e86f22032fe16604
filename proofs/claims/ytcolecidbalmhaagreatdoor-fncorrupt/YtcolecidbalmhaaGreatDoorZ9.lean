/- Texts of this seat that several laws rest on, laid into one. Conditions: as each theorem states. -/
import Derived.Test.YtcolecidbalmhaaGreatDoorZ5
import Derived.Test.YtcolecidbalmhaaGreatDoorZ7
import Derived.Test.YtcolecidbalmhaaGreatDoorZ8
namespace Go.Proofs.YtcolecidbalmhaaGreatDoor
open Go.RowKit
set_option maxRecDepth 100000
set_option linter.unusedVariables false

def liveB (p : PinD) (t : Int) : Bool := decide (p.f = 0) && timB t && decide (t ≤ p.u)
theorem l7Live_any (g : Nat) (p : PinD) (t : Int) (w : World) (A : At g p.vals w) : Calls Tryz.prog 226 #[.pointer (some ⟨g, 0, none⟩), .int .i64 t] w fun e w' => e = .returned (.bool (decide (t ≤ p.u))) ∧ Below w.heap.size w w' := by
  have c4 := A.cell 4 _ rfl
  go_enter Tryz.func226, Tryz.ntmps226
  go_wp2_with fail
  go_ret
  exact ⟨rfl, Below.refl _ _⟩
end Go.Proofs.YtcolecidbalmhaaGreatDoor
namespace Go.Proofs.YtcolecidbalmhaaGreatDoor
open Go.RowKit
set_option maxRecDepth 100000
set_option linter.unusedVariables false

theorem At.pin {g : Nat} {r : RollD} {w : World} (A : At g r.vals w) : At g r.p.vals w := by
  have e : r.vals = r.p.vals ++ [.int .i64 r.b, .int .i64 r.x, .int .i64 r.y] := rfl
  have k : ∀ i v, r.p.vals[i]? = some v → r.vals[i]? = some v := fun i v h => by
    rw [e, List.getElem?_append_left (List.getElem?_eq_some_iff.1 h).1]
    exact h
  exact ⟨fun i v h => A.cell i v (k i v h), fun i v h => A.free i v (k i v h)⟩
theorem l8Fault_any (g : Nat) (r : RollD) (w : World) (A : At g r.vals w) (hn : r.p.n.size ≤ maxLen) :
    Calls Tryz.prog 149 #[.pointer (some ⟨g, 0, none⟩)] w fun e w' => e = .returned (.int .i64 r.f) ∧ Below w.heap.size w w' := by
  have F := fun w (A : At g r.p.vals w) => l7Fault_any g r.p w A hn
  by_cases h0 : r.p.f = 0
  · rw [h0] at F
    cases h1 : pubB r.b
    · rw [rollF_by h0 h1]
      go_enter Tryz.func149, Tryz.ntmps149
      go_wp2_with fail
      refine (F _ A.pin).mono ?_
      rintro e u1 ⟨rfl, b1⟩
      have c5 := (A.on b1).cell 5 _ rfl
      have c6 := (A.on b1).cell 6 _ rfl
      have c7 := (A.on b1).cell 7 _ rfl
      clear F
      go_wp2_with fail
      refine (l1Public_any _ _).mono ?_
      rintro r w' ⟨rfl, rfl⟩
      go_wp2_with fail
      go_ret
      exact ⟨rfl, b1⟩
    · rw [rollF_sig h0 h1]
      have S := fun w c6 c7 => l3Fault_at g 6 r.x r.y w c6 c7
      generalize M.sigF r.x r.y = c at *
      go_enter Tryz.func149, Tryz.ntmps149
      go_wp2_with fail
      refine (F _ A.pin).mono ?_
      rintro e u1 ⟨rfl, b1⟩
      have c5 := (A.on b1).cell 5 _ rfl
      have c6 := (A.on b1).cell 6 _ rfl
      have c7 := (A.on b1).cell 7 _ rfl
      clear F
      go_wp2_with fail
      refine (l1Public_any _ _).mono ?_
      rintro r w' ⟨rfl, rfl⟩
      go_wp2_with fail
      refine (S _ c6 c7).mono ?_
      rintro r w' ⟨rfl, rfl⟩
      go_wp2_with fail
      go_ret
      exact ⟨rfl, b1⟩
  · rw [rollF_pin h0]
    generalize r.p.f = c at *
    have q0 : (c == 0) = false := by simpa using h0
    go_enter Tryz.func149, Tryz.ntmps149
    go_wp2_with fail
    refine (F _ A.pin).mono ?_
    rintro e u1 ⟨rfl, b1⟩
    have c5 := (A.on b1).cell 5 _ rfl
    have c6 := (A.on b1).cell 6 _ rfl
    have c7 := (A.on b1).cell 7 _ rfl
    clear F
    go_wp2_with fail
    go_ret
    exact ⟨rfl, b1⟩
theorem l8Sum_any (g : Nat) (p : PinD) (w : World) (A : At g p.vals w) (h : p.f = 0) :
    Calls Tryz.prog 200 #[.pointer (some ⟨g, 0, none⟩)] w fun e w' => e = .returned (.int .i64 (rsum p)) ∧ Below w.heap.size w w' := by
  have hw := fun z hz => byte_wf (packP_byte h z hz)
  have P := fun w A => l7Pack_any g p w A h
  unfold rsum
  have hs := M.sumL_bd (packP p)
  have hB : M.sumB (M.sumL (packP p)) = true := by simp only [M.sumB, decide_eq_true_eq]; omega
  clear h
  generalize packP p = zs at *
  have S := fun a n c B w R => l2Sum_any a n c B zs w R
  generalize M.sumL zs = x at *
  have R1 := fun w => row_one0 (w := w) x 2 hB
  have HA := Lib.hid (show [x].all M.sumB = true by simp [hB])
  have T := fun w => l2Tag_any M.rollS _ _ _ _ _ _ (by decide) (R1 w) (by simp) HA.out (by omega)
  clear hs hB R1
  generalize M.tagL M.rollS [x] = y at *
  go_enter Tryz.func200, Tryz.ntmps200
  go_wp2_with fail
  refine (P _ A).mono ?_
  rintro r u1 ⟨a, n, c, rfl, O1, b1⟩
  have R1 := Own.row O1 hw
  clear O1 P
  go_wp2_with fail
  refine (S _ _ _ _ _ R1).mono ?_
  rintro r u2 ⟨rfl, rfl⟩
  clear R1 S
  go_wp2_with fail
  refine (T _).mono ?_
  rintro r u2 ⟨rfl, b2⟩
  have hb := btr b1 (btr (bal (Below.refl _ _) _) b2)
  clear b1 b2 T
  go_wp2_with fail
  go_ret
  exact ⟨rfl, hb⟩
set_option maxHeartbeats 2000000 in
theorem l8Check_any (g k : Nat) (o : PinD) (r : RollD) (t : Int) (w : World) (A : At g o.vals w) (Q : At k r.vals w) (ho : o.f = 0) (hr : r.f = 0) :
    Calls Tryz.prog 207 #[.pointer (some ⟨g, 0, none⟩), .pointer (some ⟨k, 0, none⟩), .int .i64 t] w fun e w' => e = .returned (.int .i64 (chk o r t)) ∧ Below w.heap.size w w' := by
  obtain ⟨-, -, -, ⟨he0, he1⟩, -⟩ := pin_bounds ho
  have TQ : (r.p.n.toList == o.n.toList) = decide (r.p.nm = o.nm) := text_beq r.p.n o.n
  have a0 := A.cell 0 _ rfl
  have c0 := Q.cell 0 _ rfl
  obtain ⟨hp, -, -⟩ := rollF_zero hr
  have L := fun g w A => l7Live_any g o t w A
  have S := fun w (Q : At k r.vals w) => l8Sum_any k r.p w Q.pin hp
  have C := fun w (Q : At k r.vals w) => l3Check_at r.b (rsum r.p) k 6 r.x r.y w (Q.cell 6 _ rfl) (Q.cell 7 _ rfl)
  clear ho hr hp
  by_cases h1 : r.p.nm = o.nm
  · rw [decide_eq_true h1] at TQ
    by_cases h2 : r.p.e = o.e + 1
    · have E2 : (r.p.e == o.e + 1) = true := by simpa using h2
      have N2 : (r.p.e != o.e + 1) = false := by simp [h2]
      by_cases h3 : r.b = o.a
      · have E3 : (r.b == o.a) = true := by simpa using h3
        have N3 : (r.b != o.a) = false := by simp [h3]
        have D3 : decide (r.b = o.a) = true := by simp [h3]
        have W3 := Lib.hid h3
        clear h3
        by_cases hu : t ≤ o.u
        · cases hc : M.checkB r.b (rsum r.p) r.x r.y
          · rw [chk_sign h1 h2 (.inl W3.out) hu hc]
            rw [hc] at C
            rw [decide_eq_true hu] at L
            generalize rsum r.p = x at *
            clear h1 h2 hu hc
            go_enter Tryz.func207, Tryz.ntmps207
            go_wp2_with fail
            refine wp_region_line (Bel w) [(0, true), (1, true), (2, true), (3, true), (4, true), (5, true), (6, true), (7, true), (8, true), (9, true), (10, true)] (by kernel_rfl) (by kernel_rfl) (fun _ _ d _ _ h => by cases d <;> exact h) (Bel.drew w) ?_
            have hst := Bel.drew w
            have inst : Nonempty (Of (Bel w)) := ⟨⟨_, hst⟩⟩
            have q0 := bel_cell a0
            have y0 := bel_cell c0
            iterate 11 (refine line_read rfl (by kernel_rfl) (fun K hK => ?_); go_big_quiet_op; refine hK _ ?_; clear hK K)
            refine line_nil ?_
            have b1 := hst.out
            have A1 := A.on b1
            have Q1 := Q.on b1
            clear hst inst q0 y0 a0 c0 A Q
            generalize w.drew = V1 at *
            have a3 := A1.cell 3 _ rfl
            have c3 := Q1.cell 3 _ rfl
            go_wp2_with fail
            refine wp_region_line (Bel V1) [(0, true), (1, true), (2, true), (3, true), (4, true), (5, true), (6, true), (7, true), (8, true), (9, true), (10, true), (11, true)] (by kernel_rfl) (by kernel_rfl) (fun _ _ d _ _ h => by cases d <;> exact h) (Bel.drew V1) ?_
            have hst := Bel.drew V1
            have inst : Nonempty (Of (Bel V1)) := ⟨⟨_, hst⟩⟩
            have q3 := bel_cell a3
            have y3 := bel_cell c3
            iterate 12 (refine line_read rfl (by kernel_rfl) (fun K hK => ?_); go_big_quiet_op; refine hK _ ?_; clear hK K)
            refine line_nil ?_
            have b3 := btr b1 hst.out
            have A3 := A1.on hst.out
            have Q3 := Q1.on hst.out
            clear hst inst q3 y3 a3 c3 A1 Q1 b1
            generalize V1.drew = V3 at *
            have a1 := A3.cell 1 _ rfl
            have a2 := A3.cell 2 _ rfl
            have c5 := Q3.cell 5 _ rfl
            go_wp2_with fail
            refine wp_region_line (Bel V3) [(0, true), (1, true), (2, true), (3, true), (4, true), (5, true), (6, true), (7, true), (8, true), (9, true), (10, true), (11, true), (12, true), (13, true), (14, true), (15, true), (16, true), (17, true), (18, true), (19, true), (20, true)] (by kernel_rfl) (by kernel_rfl) (fun _ _ d _ _ h => by cases d <;> exact h) (Bel.drew V3) ?_
            have hst := Bel.drew V3
            have inst : Nonempty (Of (Bel V3)) := ⟨⟨_, hst⟩⟩
            have q1 := bel_cell a1
            have q2 := bel_cell a2
            have y5 := bel_cell c5
            iterate 10 (refine line_read rfl (by kernel_rfl) (fun K hK => ?_); go_big_quiet_op; refine hK _ ?_; clear hK K)
            iterate 9 (refine line_skip rfl (by kernel_rfl) ?_; simp only [Act.put, List.setIfInBounds_toArray, List.set_cons_zero, List.set_cons_succ])
            iterate 2 (refine line_read rfl (by kernel_rfl) (fun K hK => ?_); go_big_quiet_op; refine hK _ ?_; clear hK K)
            refine line_nil ?_
            have b5 := btr b3 hst.out
            have A5 := A3.on hst.out
            have Q5 := Q3.on hst.out
            clear hst inst q1 q2 y5 a1 a2 c5 A3 Q3 b3
            generalize V3.drew = V5 at *
            go_wp2_with fail
            refine (L _ _ A5).mono ?_
            rintro e V7 ⟨rfl, b7⟩
            have B7 := btr b5 b7
            have Q7 := Q5.on b7
            clear b5 b7 A5 Q5 L
            have c5 := Q7.cell 5 _ rfl
            go_wp2_with fail
            refine wp_region_line (Bel V7) [(0, true), (1, true), (2, true), (3, true), (4, true), (5, true), (6, true), (8, true), (9, true), (10, true), (7, false), (11, false), (12, true), (13, true)] (by kernel_rfl) (by kernel_rfl) (fun _ _ d _ _ h => by cases d <;> exact h) (Bel.drew V7) ?_
            have hst := Bel.drew V7
            have inst : Nonempty (Of (Bel V7)) := ⟨⟨_, hst⟩⟩
            have y5 := bel_cell c5
            have QP := Q7.on hst.out
            generalize V7.drew = X at *
            iterate 10 (refine line_read rfl (by kernel_rfl) (fun K hK => ?_); go_big_quiet_op; refine hK _ ?_; clear hK K)
            refine line_alone rfl (by kernel_rfl) (fun K hK => ?_)
            refine call_wp (args := #[.pointer (some ⟨k, 0, none⟩)]) rfl (by kernel_rfl) (by kernel_rfl) (S _ (Q7.on hst.out)) (fun wn hbn => ?_)
            have hst2 := hst.on hbn
            refine hK _ _ hst2 ?_
            clear hK K hst hbn
            have hst := hst2
            clear hst2
            simp only [Act.put, List.setIfInBounds_toArray, List.set_cons_zero, List.set_cons_succ]
            refine line_alone rfl (by kernel_rfl) (fun K hK => ?_)
            refine call_wp (args := #[.int .i64 r.b, .int .i64 x, .pointer (some ⟨k, 6, none⟩)]) rfl (by kernel_rfl) (by kernel_rfl) (C _ (Q7.on hst.out)) (fun wn hbn => ?_)
            have hst2 := hst.on hbn
            refine hK _ _ hst2 ?_
            clear hK K hst hbn
            have hst := hst2
            clear hst2
            simp only [Act.put, List.setIfInBounds_toArray, List.set_cons_zero, List.set_cons_succ]
            iterate 2 (refine line_read rfl (by kernel_rfl) (fun K hK => ?_); go_big_quiet_op; refine hK _ ?_; clear hK K)
            refine line_nil ?_
            have hb := btr B7 hst.out
            clear hst inst y5 c5 Q7 B7 S C QP
            go_wp2_with fail
            go_ret
            exact ⟨rfl, hb⟩
          · rw [chk_yes h1 h2 (.inl W3.out) hu hc]
            rw [hc] at C
            rw [decide_eq_true hu] at L
            generalize rsum r.p = x at *
            clear h1 h2 hu hc
            go_enter Tryz.func207, Tryz.ntmps207
            go_wp2_with fail
            refine wp_region_line (Bel w) [(0, true), (1, true), (2, true), (3, true), (4, true), (5, true), (6, true), (7, true), (8, true), (9, true), (10, true)] (by kernel_rfl) (by kernel_rfl) (fun _ _ d _ _ h => by cases d <;> exact h) (Bel.drew w) ?_
            have hst := Bel.drew w
            have inst : Nonempty (Of (Bel w)) := ⟨⟨_, hst⟩⟩
            have q0 := bel_cell a0
            have y0 := bel_cell c0
            iterate 11 (refine line_read rfl (by kernel_rfl) (fun K hK => ?_); go_big_quiet_op; refine hK _ ?_; clear hK K)
            refine line_nil ?_
            have b1 := hst.out
            have A1 := A.on b1
            have Q1 := Q.on b1
            clear hst inst q0 y0 a0 c0 A Q
            generalize w.drew = V1 at *
            have a3 := A1.cell 3 _ rfl
            have c3 := Q1.cell 3 _ rfl
            go_wp2_with fail
            refine wp_region_line (Bel V1) [(0, true), (1, true), (2, true), (3, true), (4, true), (5, true), (6, true), (7, true), (8, true), (9, true), (10, true), (11, true)] (by kernel_rfl) (by kernel_rfl) (fun _ _ d _ _ h => by cases d <;> exact h) (Bel.drew V1) ?_
            have hst := Bel.drew V1
            have inst : Nonempty (Of (Bel V1)) := ⟨⟨_, hst⟩⟩
            have q3 := bel_cell a3
            have y3 := bel_cell c3
            iterate 12 (refine line_read rfl (by kernel_rfl) (fun K hK => ?_); go_big_quiet_op; refine hK _ ?_; clear hK K)
            refine line_nil ?_
            have b3 := btr b1 hst.out
            have A3 := A1.on hst.out
            have Q3 := Q1.on hst.out
            clear hst inst q3 y3 a3 c3 A1 Q1 b1
            generalize V1.drew = V3 at *
            have a1 := A3.cell 1 _ rfl
            have a2 := A3.cell 2 _ rfl
            have c5 := Q3.cell 5 _ rfl
            go_wp2_with fail
            refine wp_region_line (Bel V3) [(0, true), (1, true), (2, true), (3, true), (4, true), (5, true), (6, true), (7, true), (8, true), (9, true), (10, true), (11, true), (12, true), (13, true), (14, true), (15, true), (16, true), (17, true), (18, true), (19, true), (20, true)] (by kernel_rfl) (by kernel_rfl) (fun _ _ d _ _ h => by cases d <;> exact h) (Bel.drew V3) ?_
            have hst := Bel.drew V3
            have inst : Nonempty (Of (Bel V3)) := ⟨⟨_, hst⟩⟩
            have q1 := bel_cell a1
            have q2 := bel_cell a2
            have y5 := bel_cell c5
            iterate 10 (refine line_read rfl (by kernel_rfl) (fun K hK => ?_); go_big_quiet_op; refine hK _ ?_; clear hK K)
            iterate 9 (refine line_skip rfl (by kernel_rfl) ?_; simp only [Act.put, List.setIfInBounds_toArray, List.set_cons_zero, List.set_cons_succ])
            iterate 2 (refine line_read rfl (by kernel_rfl) (fun K hK => ?_); go_big_quiet_op; refine hK _ ?_; clear hK K)
            refine line_nil ?_
            have b5 := btr b3 hst.out
            have A5 := A3.on hst.out
            have Q5 := Q3.on hst.out
            clear hst inst q1 q2 y5 a1 a2 c5 A3 Q3 b3
            generalize V3.drew = V5 at *
            go_wp2_with fail
            refine (L _ _ A5).mono ?_
            rintro e V7 ⟨rfl, b7⟩
            have B7 := btr b5 b7
            have Q7 := Q5.on b7
            clear b5 b7 A5 Q5 L
            have c5 := Q7.cell 5 _ rfl
            go_wp2_with fail
            refine wp_region_line (Bel V7) [(0, true), (1, true), (2, true), (3, true), (4, true), (5, true), (6, true), (8, true), (9, true), (10, true), (7, false), (11, false), (12, true), (13, true)] (by kernel_rfl) (by kernel_rfl) (fun _ _ d _ _ h => by cases d <;> exact h) (Bel.drew V7) ?_
            have hst := Bel.drew V7
            have inst : Nonempty (Of (Bel V7)) := ⟨⟨_, hst⟩⟩
            have y5 := bel_cell c5
            have QP := Q7.on hst.out
            generalize V7.drew = X at *
            iterate 10 (refine line_read rfl (by kernel_rfl) (fun K hK => ?_); go_big_quiet_op; refine hK _ ?_; clear hK K)
            refine line_alone rfl (by kernel_rfl) (fun K hK => ?_)
            refine call_wp (args := #[.pointer (some ⟨k, 0, none⟩)]) rfl (by kernel_rfl) (by kernel_rfl) (S _ (Q7.on hst.out)) (fun wn hbn => ?_)
            have hst2 := hst.on hbn
            refine hK _ _ hst2 ?_
            clear hK K hst hbn
            have hst := hst2
            clear hst2
            simp only [Act.put, List.setIfInBounds_toArray, List.set_cons_zero, List.set_cons_succ]
            refine line_alone rfl (by kernel_rfl) (fun K hK => ?_)
            refine call_wp (args := #[.int .i64 r.b, .int .i64 x, .pointer (some ⟨k, 6, none⟩)]) rfl (by kernel_rfl) (by kernel_rfl) (C _ (Q7.on hst.out)) (fun wn hbn => ?_)
            have hst2 := hst.on hbn
            refine hK _ _ hst2 ?_
            clear hK K hst hbn
            have hst := hst2
            clear hst2
            simp only [Act.put, List.setIfInBounds_toArray, List.set_cons_zero, List.set_cons_succ]
            iterate 2 (refine line_read rfl (by kernel_rfl) (fun K hK => ?_); go_big_quiet_op; refine hK _ ?_; clear hK K)
            refine line_nil ?_
            have hb := btr B7 hst.out
            clear hst inst y5 c5 Q7 B7 S C QP
            go_wp2_with fail
            go_ret
            exact ⟨rfl, hb⟩
        · rw [chk_old h1 h2 (.inl W3.out) hu]
          rw [decide_eq_false hu] at L
          clear h1 h2 hu
          go_enter Tryz.func207, Tryz.ntmps207
          go_wp2_with fail
          refine wp_region_line (Bel w) [(0, true), (1, true), (2, true), (3, true), (4, true), (5, true), (6, true), (7, true), (8, true), (9, true), (10, true)] (by kernel_rfl) (by kernel_rfl) (fun _ _ d _ _ h => by cases d <;> exact h) (Bel.drew w) ?_
          have hst := Bel.drew w
          have inst : Nonempty (Of (Bel w)) := ⟨⟨_, hst⟩⟩
          have q0 := bel_cell a0
          have y0 := bel_cell c0
          iterate 11 (refine line_read rfl (by kernel_rfl) (fun K hK => ?_); go_big_quiet_op; refine hK _ ?_; clear hK K)
          refine line_nil ?_
          have b1 := hst.out
          have A1 := A.on b1
          have Q1 := Q.on b1
          clear hst inst q0 y0 a0 c0 A Q
          generalize w.drew = V1 at *
          have a3 := A1.cell 3 _ rfl
          have c3 := Q1.cell 3 _ rfl
          go_wp2_with fail
          refine wp_region_line (Bel V1) [(0, true), (1, true), (2, true), (3, true), (4, true), (5, true), (6, true), (7, true), (8, true), (9, true), (10, true), (11, true)] (by kernel_rfl) (by kernel_rfl) (fun _ _ d _ _ h => by cases d <;> exact h) (Bel.drew V1) ?_
          have hst := Bel.drew V1
          have inst : Nonempty (Of (Bel V1)) := ⟨⟨_, hst⟩⟩
          have q3 := bel_cell a3
          have y3 := bel_cell c3
          iterate 12 (refine line_read rfl (by kernel_rfl) (fun K hK => ?_); go_big_quiet_op; refine hK _ ?_; clear hK K)
          refine line_nil ?_
          have b3 := btr b1 hst.out
          have A3 := A1.on hst.out
          have Q3 := Q1.on hst.out
          clear hst inst q3 y3 a3 c3 A1 Q1 b1
          generalize V1.drew = V3 at *
          have a1 := A3.cell 1 _ rfl
          have a2 := A3.cell 2 _ rfl
          have c5 := Q3.cell 5 _ rfl
          go_wp2_with fail
          refine wp_region_line (Bel V3) [(0, true), (1, true), (2, true), (3, true), (4, true), (5, true), (6, true), (7, true), (8, true), (9, true), (10, true), (11, true), (12, true), (13, true), (14, true), (15, true), (16, true), (17, true), (18, true), (19, true), (20, true)] (by kernel_rfl) (by kernel_rfl) (fun _ _ d _ _ h => by cases d <;> exact h) (Bel.drew V3) ?_
          have hst := Bel.drew V3
          have inst : Nonempty (Of (Bel V3)) := ⟨⟨_, hst⟩⟩
          have q1 := bel_cell a1
          have q2 := bel_cell a2
          have y5 := bel_cell c5
          iterate 10 (refine line_read rfl (by kernel_rfl) (fun K hK => ?_); go_big_quiet_op; refine hK _ ?_; clear hK K)
          iterate 9 (refine line_skip rfl (by kernel_rfl) ?_; simp only [Act.put, List.setIfInBounds_toArray, List.set_cons_zero, List.set_cons_succ])
          iterate 2 (refine line_read rfl (by kernel_rfl) (fun K hK => ?_); go_big_quiet_op; refine hK _ ?_; clear hK K)
          refine line_nil ?_
          have b5 := btr b3 hst.out
          have A5 := A3.on hst.out
          have Q5 := Q3.on hst.out
          clear hst inst q1 q2 y5 a1 a2 c5 A3 Q3 b3
          generalize V3.drew = V5 at *
          go_wp2_with fail
          refine (L _ _ A5).mono ?_
          rintro e V7 ⟨rfl, b7⟩
          have B7 := btr b5 b7
          have Q7 := Q5.on b7
          clear b5 b7 A5 Q5 L
          go_wp2_with fail
          go_ret
          exact ⟨rfl, B7⟩
      · have E3 : (r.b == o.a) = false := by simpa using h3
        have N3 : (r.b != o.a) = true := by simp [h3]
        have D3 : decide (r.b = o.a) = false := by simp [h3]
        by_cases h4 : r.b = o.b
        · have E4 : (r.b == o.b) = true := by simpa using h4
          have N4 : (r.b != o.b) = false := by simp [h4]
          have W4 := Lib.hid h4
          clear h3 h4
          by_cases hu : t ≤ o.u
          · cases hc : M.checkB r.b (rsum r.p) r.x r.y
            · rw [chk_sign h1 h2 (.inr W4.out) hu hc]
              rw [hc] at C
              rw [decide_eq_true hu] at L
              generalize rsum r.p = x at *
              clear h1 h2 hu hc
              go_enter Tryz.func207, Tryz.ntmps207
              go_wp2_with fail
              refine wp_region_line (Bel w) [(0, true), (1, true), (2, true), (3, true), (4, true), (5, true), (6, true), (7, true), (8, true), (9, true), (10, true)] (by kernel_rfl) (by kernel_rfl) (fun _ _ d _ _ h => by cases d <;> exact h) (Bel.drew w) ?_
              have hst := Bel.drew w
              have inst : Nonempty (Of (Bel w)) := ⟨⟨_, hst⟩⟩
              have q0 := bel_cell a0
              have y0 := bel_cell c0
              iterate 11 (refine line_read rfl (by kernel_rfl) (fun K hK => ?_); go_big_quiet_op; refine hK _ ?_; clear hK K)
              refine line_nil ?_
              have b1 := hst.out
              have A1 := A.on b1
              have Q1 := Q.on b1
              clear hst inst q0 y0 a0 c0 A Q
              generalize w.drew = V1 at *
              have a3 := A1.cell 3 _ rfl
              have c3 := Q1.cell 3 _ rfl
              go_wp2_with fail
              refine wp_region_line (Bel V1) [(0, true), (1, true), (2, true), (3, true), (4, true), (5, true), (6, true), (7, true), (8, true), (9, true), (10, true), (11, true)] (by kernel_rfl) (by kernel_rfl) (fun _ _ d _ _ h => by cases d <;> exact h) (Bel.drew V1) ?_
              have hst := Bel.drew V1
              have inst : Nonempty (Of (Bel V1)) := ⟨⟨_, hst⟩⟩
              have q3 := bel_cell a3
              have y3 := bel_cell c3
              iterate 12 (refine line_read rfl (by kernel_rfl) (fun K hK => ?_); go_big_quiet_op; refine hK _ ?_; clear hK K)
              refine line_nil ?_
              have b3 := btr b1 hst.out
              have A3 := A1.on hst.out
              have Q3 := Q1.on hst.out
              clear hst inst q3 y3 a3 c3 A1 Q1 b1
              generalize V1.drew = V3 at *
              have a1 := A3.cell 1 _ rfl
              have a2 := A3.cell 2 _ rfl
              have c5 := Q3.cell 5 _ rfl
              go_wp2_with fail
              refine wp_region_line (Bel V3) [(0, true), (1, true), (2, true), (3, true), (4, true), (5, true), (6, true), (7, true), (8, true), (9, true), (10, true), (11, true), (12, true), (13, true), (14, true), (15, true), (16, true), (17, true), (18, true), (19, true), (20, true)] (by kernel_rfl) (by kernel_rfl) (fun _ _ d _ _ h => by cases d <;> exact h) (Bel.drew V3) ?_
              have hst := Bel.drew V3
              have inst : Nonempty (Of (Bel V3)) := ⟨⟨_, hst⟩⟩
              have q1 := bel_cell a1
              have q2 := bel_cell a2
              have y5 := bel_cell c5
              iterate 10 (refine line_read rfl (by kernel_rfl) (fun K hK => ?_); go_big_quiet_op; refine hK _ ?_; clear hK K)
              iterate 9 (refine line_read rfl (by kernel_rfl) (fun K hK => ?_); go_big_quiet_op; refine hK _ ?_; clear hK K)
              iterate 2 (refine line_read rfl (by kernel_rfl) (fun K hK => ?_); go_big_quiet_op; refine hK _ ?_; clear hK K)
              refine line_nil ?_
              have b5 := btr b3 hst.out
              have A5 := A3.on hst.out
              have Q5 := Q3.on hst.out
              clear hst inst q1 q2 y5 a1 a2 c5 A3 Q3 b3
              generalize V3.drew = V5 at *
              go_wp2_with fail
              refine (L _ _ A5).mono ?_
              rintro e V7 ⟨rfl, b7⟩
              have B7 := btr b5 b7
              have Q7 := Q5.on b7
              clear b5 b7 A5 Q5 L
              have c5 := Q7.cell 5 _ rfl
              go_wp2_with fail
              refine wp_region_line (Bel V7) [(0, true), (1, true), (2, true), (3, true), (4, true), (5, true), (6, true), (8, true), (9, true), (10, true), (7, false), (11, false), (12, true), (13, true)] (by kernel_rfl) (by kernel_rfl) (fun _ _ d _ _ h => by cases d <;> exact h) (Bel.drew V7) ?_
              have hst := Bel.drew V7
              have inst : Nonempty (Of (Bel V7)) := ⟨⟨_, hst⟩⟩
              have y5 := bel_cell c5
              have QP := Q7.on hst.out
              generalize V7.drew = X at *
              iterate 10 (refine line_read rfl (by kernel_rfl) (fun K hK => ?_); go_big_quiet_op; refine hK _ ?_; clear hK K)
              refine line_alone rfl (by kernel_rfl) (fun K hK => ?_)
              refine call_wp (args := #[.pointer (some ⟨k, 0, none⟩)]) rfl (by kernel_rfl) (by kernel_rfl) (S _ (Q7.on hst.out)) (fun wn hbn => ?_)
              have hst2 := hst.on hbn
              refine hK _ _ hst2 ?_
              clear hK K hst hbn
              have hst := hst2
              clear hst2
              simp only [Act.put, List.setIfInBounds_toArray, List.set_cons_zero, List.set_cons_succ]
              refine line_alone rfl (by kernel_rfl) (fun K hK => ?_)
              refine call_wp (args := #[.int .i64 r.b, .int .i64 x, .pointer (some ⟨k, 6, none⟩)]) rfl (by kernel_rfl) (by kernel_rfl) (C _ (Q7.on hst.out)) (fun wn hbn => ?_)
              have hst2 := hst.on hbn
              refine hK _ _ hst2 ?_
              clear hK K hst hbn
              have hst := hst2
              clear hst2
              simp only [Act.put, List.setIfInBounds_toArray, List.set_cons_zero, List.set_cons_succ]
              iterate 2 (refine line_read rfl (by kernel_rfl) (fun K hK => ?_); go_big_quiet_op; refine hK _ ?_; clear hK K)
              refine line_nil ?_
              have hb := btr B7 hst.out
              clear hst inst y5 c5 Q7 B7 S C QP
              go_wp2_with fail
              go_ret
              exact ⟨rfl, hb⟩
            · rw [chk_yes h1 h2 (.inr W4.out) hu hc]
              rw [hc] at C
              rw [decide_eq_true hu] at L
              generalize rsum r.p = x at *
              clear h1 h2 hu hc
              go_enter Tryz.func207, Tryz.ntmps207
              go_wp2_with fail
              refine wp_region_line (Bel w) [(0, true), (1, true), (2, true), (3, true), (4, true), (5, true), (6, true), (7, true), (8, true), (9, true), (10, true)] (by kernel_rfl) (by kernel_rfl) (fun _ _ d _ _ h => by cases d <;> exact h) (Bel.drew w) ?_
              have hst := Bel.drew w
              have inst : Nonempty (Of (Bel w)) := ⟨⟨_, hst⟩⟩
              have q0 := bel_cell a0
              have y0 := bel_cell c0
              iterate 11 (refine line_read rfl (by kernel_rfl) (fun K hK => ?_); go_big_quiet_op; refine hK _ ?_; clear hK K)
              refine line_nil ?_
              have b1 := hst.out
              have A1 := A.on b1
              have Q1 := Q.on b1
              clear hst inst q0 y0 a0 c0 A Q
              generalize w.drew = V1 at *
              have a3 := A1.cell 3 _ rfl
              have c3 := Q1.cell 3 _ rfl
              go_wp2_with fail
              refine wp_region_line (Bel V1) [(0, true), (1, true), (2, true), (3, true), (4, true), (5, true), (6, true), (7, true), (8, true), (9, true), (10, true), (11, true)] (by kernel_rfl) (by kernel_rfl) (fun _ _ d _ _ h => by cases d <;> exact h) (Bel.drew V1) ?_
              have hst := Bel.drew V1
              have inst : Nonempty (Of (Bel V1)) := ⟨⟨_, hst⟩⟩
              have q3 := bel_cell a3
              have y3 := bel_cell c3
              iterate 12 (refine line_read rfl (by kernel_rfl) (fun K hK => ?_); go_big_quiet_op; refine hK _ ?_; clear hK K)
              refine line_nil ?_
              have b3 := btr b1 hst.out
              have A3 := A1.on hst.out
              have Q3 := Q1.on hst.out
              clear hst inst q3 y3 a3 c3 A1 Q1 b1
              generalize V1.drew = V3 at *
              have a1 := A3.cell 1 _ rfl
              have a2 := A3.cell 2 _ rfl
              have c5 := Q3.cell 5 _ rfl
              go_wp2_with fail
              refine wp_region_line (Bel V3) [(0, true), (1, true), (2, true), (3, true), (4, true), (5, true), (6, true), (7, true), (8, true), (9, true), (10, true), (11, true), (12, true), (13, true), (14, true), (15, true), (16, true), (17, true), (18, true), (19, true), (20, true)] (by kernel_rfl) (by kernel_rfl) (fun _ _ d _ _ h => by cases d <;> exact h) (Bel.drew V3) ?_
              have hst := Bel.drew V3
              have inst : Nonempty (Of (Bel V3)) := ⟨⟨_, hst⟩⟩
              have q1 := bel_cell a1
              have q2 := bel_cell a2
              have y5 := bel_cell c5
              iterate 10 (refine line_read rfl (by kernel_rfl) (fun K hK => ?_); go_big_quiet_op; refine hK _ ?_; clear hK K)
              iterate 9 (refine line_read rfl (by kernel_rfl) (fun K hK => ?_); go_big_quiet_op; refine hK _ ?_; clear hK K)
              iterate 2 (refine line_read rfl (by kernel_rfl) (fun K hK => ?_); go_big_quiet_op; refine hK _ ?_; clear hK K)
              refine line_nil ?_
              have b5 := btr b3 hst.out
              have A5 := A3.on hst.out
              have Q5 := Q3.on hst.out
              clear hst inst q1 q2 y5 a1 a2 c5 A3 Q3 b3
              generalize V3.drew = V5 at *
              go_wp2_with fail
              refine (L _ _ A5).mono ?_
              rintro e V7 ⟨rfl, b7⟩
              have B7 := btr b5 b7
              have Q7 := Q5.on b7
              clear b5 b7 A5 Q5 L
              have c5 := Q7.cell 5 _ rfl
              go_wp2_with fail
              refine wp_region_line (Bel V7) [(0, true), (1, true), (2, true), (3, true), (4, true), (5, true), (6, true), (8, true), (9, true), (10, true), (7, false), (11, false), (12, true), (13, true)] (by kernel_rfl) (by kernel_rfl) (fun _ _ d _ _ h => by cases d <;> exact h) (Bel.drew V7) ?_
              have hst := Bel.drew V7
              have inst : Nonempty (Of (Bel V7)) := ⟨⟨_, hst⟩⟩
              have y5 := bel_cell c5
              have QP := Q7.on hst.out
              generalize V7.drew = X at *
              iterate 10 (refine line_read rfl (by kernel_rfl) (fun K hK => ?_); go_big_quiet_op; refine hK _ ?_; clear hK K)
              refine line_alone rfl (by kernel_rfl) (fun K hK => ?_)
              refine call_wp (args := #[.pointer (some ⟨k, 0, none⟩)]) rfl (by kernel_rfl) (by kernel_rfl) (S _ (Q7.on hst.out)) (fun wn hbn => ?_)
              have hst2 := hst.on hbn
              refine hK _ _ hst2 ?_
              clear hK K hst hbn
              have hst := hst2
              clear hst2
              simp only [Act.put, List.setIfInBounds_toArray, List.set_cons_zero, List.set_cons_succ]
              refine line_alone rfl (by kernel_rfl) (fun K hK => ?_)
              refine call_wp (args := #[.int .i64 r.b, .int .i64 x, .pointer (some ⟨k, 6, none⟩)]) rfl (by kernel_rfl) (by kernel_rfl) (C _ (Q7.on hst.out)) (fun wn hbn => ?_)
              have hst2 := hst.on hbn
              refine hK _ _ hst2 ?_
              clear hK K hst hbn
              have hst := hst2
              clear hst2
              simp only [Act.put, List.setIfInBounds_toArray, List.set_cons_zero, List.set_cons_succ]
              iterate 2 (refine line_read rfl (by kernel_rfl) (fun K hK => ?_); go_big_quiet_op; refine hK _ ?_; clear hK K)
              refine line_nil ?_
              have hb := btr B7 hst.out
              clear hst inst y5 c5 Q7 B7 S C QP
              go_wp2_with fail
              go_ret
              exact ⟨rfl, hb⟩
          · rw [chk_old h1 h2 (.inr W4.out) hu]
            rw [decide_eq_false hu] at L
            clear h1 h2 hu
            go_enter Tryz.func207, Tryz.ntmps207
            go_wp2_with fail
            refine wp_region_line (Bel w) [(0, true), (1, true), (2, true), (3, true), (4, true), (5, true), (6, true), (7, true), (8, true), (9, true), (10, true)] (by kernel_rfl) (by kernel_rfl) (fun _ _ d _ _ h => by cases d <;> exact h) (Bel.drew w) ?_
            have hst := Bel.drew w
            have inst : Nonempty (Of (Bel w)) := ⟨⟨_, hst⟩⟩
            have q0 := bel_cell a0
            have y0 := bel_cell c0
            iterate 11 (refine line_read rfl (by kernel_rfl) (fun K hK => ?_); go_big_quiet_op; refine hK _ ?_; clear hK K)
            refine line_nil ?_
            have b1 := hst.out
            have A1 := A.on b1
            have Q1 := Q.on b1
            clear hst inst q0 y0 a0 c0 A Q
            generalize w.drew = V1 at *
            have a3 := A1.cell 3 _ rfl
            have c3 := Q1.cell 3 _ rfl
            go_wp2_with fail
            refine wp_region_line (Bel V1) [(0, true), (1, true), (2, true), (3, true), (4, true), (5, true), (6, true), (7, true), (8, true), (9, true), (10, true), (11, true)] (by kernel_rfl) (by kernel_rfl) (fun _ _ d _ _ h => by cases d <;> exact h) (Bel.drew V1) ?_
            have hst := Bel.drew V1
            have inst : Nonempty (Of (Bel V1)) := ⟨⟨_, hst⟩⟩
            have q3 := bel_cell a3
            have y3 := bel_cell c3
            iterate 12 (refine line_read rfl (by kernel_rfl) (fun K hK => ?_); go_big_quiet_op; refine hK _ ?_; clear hK K)
            refine line_nil ?_
            have b3 := btr b1 hst.out
            have A3 := A1.on hst.out
            have Q3 := Q1.on hst.out
            clear hst inst q3 y3 a3 c3 A1 Q1 b1
            generalize V1.drew = V3 at *
            have a1 := A3.cell 1 _ rfl
            have a2 := A3.cell 2 _ rfl
            have c5 := Q3.cell 5 _ rfl
            go_wp2_with fail
            refine wp_region_line (Bel V3) [(0, true), (1, true), (2, true), (3, true), (4, true), (5, true), (6, true), (7, true), (8, true), (9, true), (10, true), (11, true), (12, true), (13, true), (14, true), (15, true), (16, true), (17, true), (18, true), (19, true), (20, true)] (by kernel_rfl) (by kernel_rfl) (fun _ _ d _ _ h => by cases d <;> exact h) (Bel.drew V3) ?_
            have hst := Bel.drew V3
            have inst : Nonempty (Of (Bel V3)) := ⟨⟨_, hst⟩⟩
            have q1 := bel_cell a1
            have q2 := bel_cell a2
            have y5 := bel_cell c5
            iterate 10 (refine line_read rfl (by kernel_rfl) (fun K hK => ?_); go_big_quiet_op; refine hK _ ?_; clear hK K)
            iterate 9 (refine line_read rfl (by kernel_rfl) (fun K hK => ?_); go_big_quiet_op; refine hK _ ?_; clear hK K)
            iterate 2 (refine line_read rfl (by kernel_rfl) (fun K hK => ?_); go_big_quiet_op; refine hK _ ?_; clear hK K)
            refine line_nil ?_
            have b5 := btr b3 hst.out
            have A5 := A3.on hst.out
            have Q5 := Q3.on hst.out
            clear hst inst q1 q2 y5 a1 a2 c5 A3 Q3 b3
            generalize V3.drew = V5 at *
            go_wp2_with fail
            refine (L _ _ A5).mono ?_
            rintro e V7 ⟨rfl, b7⟩
            have B7 := btr b5 b7
            have Q7 := Q5.on b7
            clear b5 b7 A5 Q5 L
            go_wp2_with fail
            go_ret
            exact ⟨rfl, B7⟩
        · have E4 : (r.b == o.b) = false := by simpa using h4
          have N4 : (r.b != o.b) = true := by simp [h4]
          rw [chk_by h1 h2 h3 h4]
          clear h1 h2 h3 h4 L S C
          go_enter Tryz.func207, Tryz.ntmps207
          go_wp2_with fail
          refine wp_region_line (Bel w) [(0, true), (1, true), (2, true), (3, true), (4, true), (5, true), (6, true), (7, true), (8, true), (9, true), (10, true)] (by kernel_rfl) (by kernel_rfl) (fun _ _ d _ _ h => by cases d <;> exact h) (Bel.drew w) ?_
          have hst := Bel.drew w
          have inst : Nonempty (Of (Bel w)) := ⟨⟨_, hst⟩⟩
          have q0 := bel_cell a0
          have y0 := bel_cell c0
          iterate 11 (refine line_read rfl (by kernel_rfl) (fun K hK => ?_); go_big_quiet_op; refine hK _ ?_; clear hK K)
          refine line_nil ?_
          have b1 := hst.out
          have A1 := A.on b1
          have Q1 := Q.on b1
          clear hst inst q0 y0 a0 c0 A Q
          generalize w.drew = V1 at *
          have a3 := A1.cell 3 _ rfl
          have c3 := Q1.cell 3 _ rfl
          go_wp2_with fail
          refine wp_region_line (Bel V1) [(0, true), (1, true), (2, true), (3, true), (4, true), (5, true), (6, true), (7, true), (8, true), (9, true), (10, true), (11, true)] (by kernel_rfl) (by kernel_rfl) (fun _ _ d _ _ h => by cases d <;> exact h) (Bel.drew V1) ?_
          have hst := Bel.drew V1
          have inst : Nonempty (Of (Bel V1)) := ⟨⟨_, hst⟩⟩
          have q3 := bel_cell a3
          have y3 := bel_cell c3
          iterate 12 (refine line_read rfl (by kernel_rfl) (fun K hK => ?_); go_big_quiet_op; refine hK _ ?_; clear hK K)
          refine line_nil ?_
          have b3 := btr b1 hst.out
          have A3 := A1.on hst.out
          have Q3 := Q1.on hst.out
          clear hst inst q3 y3 a3 c3 A1 Q1 b1
          generalize V1.drew = V3 at *
          have a1 := A3.cell 1 _ rfl
          have a2 := A3.cell 2 _ rfl
          have c5 := Q3.cell 5 _ rfl
          go_wp2_with fail
          refine wp_region_line (Bel V3) [(0, true), (1, true), (2, true), (3, true), (4, true), (5, true), (6, true), (7, true), (8, true), (9, true), (10, true), (11, true), (12, true), (13, true), (14, true), (15, true), (16, true), (17, true), (18, true), (19, true), (20, true)] (by kernel_rfl) (by kernel_rfl) (fun _ _ d _ _ h => by cases d <;> exact h) (Bel.drew V3) ?_
          have hst := Bel.drew V3
          have inst : Nonempty (Of (Bel V3)) := ⟨⟨_, hst⟩⟩
          have q1 := bel_cell a1
          have q2 := bel_cell a2
          have y5 := bel_cell c5
          iterate 10 (refine line_read rfl (by kernel_rfl) (fun K hK => ?_); go_big_quiet_op; refine hK _ ?_; clear hK K)
          iterate 9 (refine line_read rfl (by kernel_rfl) (fun K hK => ?_); go_big_quiet_op; refine hK _ ?_; clear hK K)
          iterate 2 (refine line_read rfl (by kernel_rfl) (fun K hK => ?_); go_big_quiet_op; refine hK _ ?_; clear hK K)
          refine line_nil ?_
          have b5 := btr b3 hst.out
          have A5 := A3.on hst.out
          have Q5 := Q3.on hst.out
          clear hst inst q1 q2 y5 a1 a2 c5 A3 Q3 b3
          generalize V3.drew = V5 at *
          go_wp2_with fail
          go_ret
          exact ⟨rfl, b5⟩
    · have E2 : (r.p.e == o.e + 1) = false := by simpa using h2
      have N2 : (r.p.e != o.e + 1) = true := by simp [h2]
      rw [chk_ep h1 h2]
      clear h1 h2 L S C
      go_enter Tryz.func207, Tryz.ntmps207
      go_wp2_with fail
      refine wp_region_line (Bel w) [(0, true), (1, true), (2, true), (3, true), (4, true), (5, true), (6, true), (7, true), (8, true), (9, true), (10, true)] (by kernel_rfl) (by kernel_rfl) (fun _ _ d _ _ h => by cases d <;> exact h) (Bel.drew w) ?_
      have hst := Bel.drew w
      have inst : Nonempty (Of (Bel w)) := ⟨⟨_, hst⟩⟩
      have q0 := bel_cell a0
      have y0 := bel_cell c0
      iterate 11 (refine line_read rfl (by kernel_rfl) (fun K hK => ?_); go_big_quiet_op; refine hK _ ?_; clear hK K)
      refine line_nil ?_
      have b1 := hst.out
      have A1 := A.on b1
      have Q1 := Q.on b1
      clear hst inst q0 y0 a0 c0 A Q
      generalize w.drew = V1 at *
      have a3 := A1.cell 3 _ rfl
      have c3 := Q1.cell 3 _ rfl
      go_wp2_with fail
      refine wp_region_line (Bel V1) [(0, true), (1, true), (2, true), (3, true), (4, true), (5, true), (6, true), (7, true), (8, true), (9, true), (10, true), (11, true)] (by kernel_rfl) (by kernel_rfl) (fun _ _ d _ _ h => by cases d <;> exact h) (Bel.drew V1) ?_
      have hst := Bel.drew V1
      have inst : Nonempty (Of (Bel V1)) := ⟨⟨_, hst⟩⟩
      have q3 := bel_cell a3
      have y3 := bel_cell c3
      iterate 12 (refine line_read rfl (by kernel_rfl) (fun K hK => ?_); go_big_quiet_op; refine hK _ ?_; clear hK K)
      refine line_nil ?_
      have b3 := btr b1 hst.out
      have A3 := A1.on hst.out
      have Q3 := Q1.on hst.out
      clear hst inst q3 y3 a3 c3 A1 Q1 b1
      generalize V1.drew = V3 at *
      go_wp2_with fail
      go_ret
      exact ⟨rfl, b3⟩
  · rw [decide_eq_false h1] at TQ
    rw [chk_name h1]
    clear h1 L S C
    go_enter Tryz.func207, Tryz.ntmps207
    go_wp2_with fail
    refine wp_region_line (Bel w) [(0, true), (1, true), (2, true), (3, true), (4, true), (5, true), (6, true), (7, true), (8, true), (9, true), (10, true)] (by kernel_rfl) (by kernel_rfl) (fun _ _ d _ _ h => by cases d <;> exact h) (Bel.drew w) ?_
    have hst := Bel.drew w
    have inst : Nonempty (Of (Bel w)) := ⟨⟨_, hst⟩⟩
    have q0 := bel_cell a0
    have y0 := bel_cell c0
    iterate 11 (refine line_read rfl (by kernel_rfl) (fun K hK => ?_); go_big_quiet_op; refine hK _ ?_; clear hK K)
    refine line_nil ?_
    have b1 := hst.out
    have A1 := A.on b1
    have Q1 := Q.on b1
    clear hst inst q0 y0 a0 c0 A Q
    generalize w.drew = V1 at *
    go_wp2_with fail
    go_ret
    exact ⟨rfl, b1⟩
theorem specCheckRoll_any (o : PinD) (r : RollD) (t : Int) (w : World) (hn : o.n.size ≤ maxLen) (hm : r.p.n.size ≤ maxLen) :
    Calls Tryz.prog 151 #[P5 o, R8 r, .int .i64 t] w fun e w' => e = .returned (.int .i64 (checkF o r t)) ∧ Below w.heap.size w w' := by
  have b0 := bal (bal (Below.refl _ w) (.cells #[.string o.n, .int .i64 o.a, .int .i64 o.b, .int .i64 o.e, .int .i64 o.u] 31)) (.cells #[.string r.p.n, .int .i64 r.p.a, .int .i64 r.p.b, .int .i64 r.p.e, .int .i64 r.p.u, .int .i64 r.b, .int .i64 r.x, .int .i64 r.y] 40)
  have A0 : At w.heap.size o.vals ((w.alloc (.cells #[.string o.n, .int .i64 o.a, .int .i64 o.b, .int .i64 o.e, .int .i64 o.u] 31)).alloc (.cells #[.string r.p.n, .int .i64 r.p.a, .int .i64 r.p.b, .int .i64 r.p.e, .int .i64 r.p.u, .int .i64 r.b, .int .i64 r.x, .int .i64 r.y] 40)) := (At.new w o.vals 31).alloc _
  have Q0 : At (w.heap.size + 1) r.vals ((w.alloc (.cells #[.string o.n, .int .i64 o.a, .int .i64 o.b, .int .i64 o.e, .int .i64 o.u] 31)).alloc (.cells #[.string r.p.n, .int .i64 r.p.a, .int .i64 r.p.b, .int .i64 r.p.e, .int .i64 r.p.u, .int .i64 r.b, .int .i64 r.x, .int .i64 r.y] 40)) := At.newN (w := (w.alloc (.cells #[.string o.n, .int .i64 o.a, .int .i64 o.b, .int .i64 o.e, .int .i64 o.u] 31))) r.vals 40 (by simp)
  have F := fun g w A => l7Fault_any g o w A hn
  have G := fun g w A => l8Fault_any g r w A hm
  by_cases h0 : o.f = 0
  · by_cases h1 : r.f = 0
    · cases ht : timB t
      · rw [checkF_time h0 h1 ht]
        rw [h0] at F
        rw [h1] at G
        go_enter Tryz.func151, Tryz.ntmps151
        go_wp2_with fail
        generalize (w.alloc (.cells #[.string o.n, .int .i64 o.a, .int .i64 o.b, .int .i64 o.e, .int .i64 o.u] 31)).alloc (.cells #[.string r.p.n, .int .i64 r.p.a, .int .i64 r.p.b, .int .i64 r.p.e, .int .i64 r.p.u, .int .i64 r.b, .int .i64 r.x, .int .i64 r.y] 40) = W0 at *
        refine (F _ _ A0).mono ?_
        rintro e u1 ⟨rfl, b1⟩
        have A1 := A0.on b1
        have Q1 := Q0.on b1
        have B1 := btr b0 b1
        clear A0 Q0 b0 b1 F
        go_wp2_with fail
        refine (G _ _ Q1).mono ?_
        rintro e u2 ⟨rfl, b2⟩
        have A2 := A1.on b2
        have Q2 := Q1.on b2
        have B2 := btr B1 b2
        clear A1 Q1 B1 b2 G
        go_wp2_with fail
        refine (l7Time_any _ _).mono ?_
        rintro r w' ⟨rfl, rfl⟩
        go_wp2_with fail
        go_ret
        exact ⟨rfl, B2⟩
      · rw [checkF_chk h0 h1 ht]
        have K := fun g k w A Q => l8Check_any g k o r t w A Q h0 h1
        rw [h0] at F
        rw [h1] at G
        generalize chk o r t = c at *
        go_enter Tryz.func151, Tryz.ntmps151
        go_wp2_with fail
        generalize (w.alloc (.cells #[.string o.n, .int .i64 o.a, .int .i64 o.b, .int .i64 o.e, .int .i64 o.u] 31)).alloc (.cells #[.string r.p.n, .int .i64 r.p.a, .int .i64 r.p.b, .int .i64 r.p.e, .int .i64 r.p.u, .int .i64 r.b, .int .i64 r.x, .int .i64 r.y] 40) = W0 at *
        refine (F _ _ A0).mono ?_
        rintro e u1 ⟨rfl, b1⟩
        have A1 := A0.on b1
        have Q1 := Q0.on b1
        have B1 := btr b0 b1
        clear A0 Q0 b0 b1 F
        go_wp2_with fail
        refine (G _ _ Q1).mono ?_
        rintro e u2 ⟨rfl, b2⟩
        have A2 := A1.on b2
        have Q2 := Q1.on b2
        have B2 := btr B1 b2
        clear A1 Q1 B1 b2 G
        go_wp2_with fail
        refine (l7Time_any _ _).mono ?_
        rintro r w' ⟨rfl, rfl⟩
        go_wp2_with fail
        refine (K _ _ _ A2 Q2).mono ?_
        rintro e u3 ⟨rfl, b3⟩
        have hb := btr B2 b3
        go_wp2_with fail
        go_ret
        exact ⟨rfl, hb⟩
    · rw [checkF_roll h0 h1]
      rw [h0] at F
      generalize r.f = c at *
      have q0 : (c == 0) = false := by simpa using h1
      go_enter Tryz.func151, Tryz.ntmps151
      go_wp2_with fail
      generalize (w.alloc (.cells #[.string o.n, .int .i64 o.a, .int .i64 o.b, .int .i64 o.e, .int .i64 o.u] 31)).alloc (.cells #[.string r.p.n, .int .i64 r.p.a, .int .i64 r.p.b, .int .i64 r.p.e, .int .i64 r.p.u, .int .i64 r.b, .int .i64 r.x, .int .i64 r.y] 40) = W0 at *
      refine (F _ _ A0).mono ?_
      rintro e u1 ⟨rfl, b1⟩
      have A1 := A0.on b1
      have Q1 := Q0.on b1
      have B1 := btr b0 b1
      clear A0 Q0 b0 b1 F
      go_wp2_with fail
      refine (G _ _ Q1).mono ?_
      rintro e u2 ⟨rfl, b2⟩
      have A2 := A1.on b2
      have Q2 := Q1.on b2
      have B2 := btr B1 b2
      clear A1 Q1 B1 b2 G
      go_wp2_with fail
      go_ret
      exact ⟨rfl, B2⟩
  · rw [checkF_old h0]
    generalize o.f = c at *
    have q0 : (c == 0) = false := by simpa using h0
    go_enter Tryz.func151, Tryz.ntmps151
    go_wp2_with fail
    generalize (w.alloc (.cells #[.string o.n, .int .i64 o.a, .int .i64 o.b, .int .i64 o.e, .int .i64 o.u] 31)).alloc (.cells #[.string r.p.n, .int .i64 r.p.a, .int .i64 r.p.b, .int .i64 r.p.e, .int .i64 r.p.u, .int .i64 r.b, .int .i64 r.x, .int .i64 r.y] 40) = W0 at *
    refine (F _ _ A0).mono ?_
    rintro e u1 ⟨rfl, b1⟩
    have A1 := A0.on b1
    have Q1 := Q0.on b1
    have B1 := btr b0 b1
    clear A0 Q0 b0 b1 F
    go_wp2_with fail
    go_ret
    exact ⟨rfl, B1⟩
end Go.Proofs.YtcolecidbalmhaaGreatDoor
namespace Go.Proofs.YtcolecidbalmhaaGreatDoor
open Go.RowKit
set_option maxRecDepth 100000
set_option linter.unusedVariables false

end Go.Proofs.YtcolecidbalmhaaGreatDoor
namespace Go.Proofs.YtcolecidbalmhaaGreatDoor
open Go.RowKit
set_option maxRecDepth 100000
set_option linter.unusedVariables false

/-- An error of what does not fit was answered. -/
def Mis8 (c : Int) (w : World) (r : Ending) (w' : World) : Prop := ∃ s, r = .returned (misV c s) ∧ Below w.heap.size w w'
/-- A rollover that has a fault: an error that has its code. -/
def Roll8No (c : Int) (w : World) (r : Ending) (w' : World) : Prop := ∃ e, ErrC1 c e ∧ r = .returned (.tuple #[R8 roll0, e]) ∧ Below w.heap.size w w'
def zero8 : List Value := [.string { data := #[] }, .int .i64 0, .int .i64 0, .int .i64 0, .int .i64 0, .int .i64 0, .int .i64 0, .int .i64 0]
end Go.Proofs.YtcolecidbalmhaaGreatDoor
namespace Go.Proofs.YtcolecidbalmhaaGreatDoor
open Go.RowKit
set_option maxRecDepth 100000
set_option linter.unusedVariables false

def zer8 : List Value := [.string { data := #[] }, .int .i64 0, .int .i64 0, .int .i64 0, .int .i64 0, .int .i64 0, .int .i64 0, .int .i64 0]
def zer9 : List Value := [.int .i64 0, .string { data := #[] }, .int .i64 0, .int .i64 0, .int .i64 0, .int .i64 0, .int .i64 0, .int .i64 0, .int .i64 0]
theorem kp1 (a b : Int) (w : World) : Sem.run Tryz.prog (Instr.field 242 (.agg #[.int .i64 a, .int .i64 b]) 1) w = .ok (.int .i64 b) w := by kernel_rfl
/-- Blocks that are read, and nothing of W has turned. -/
structure HoldL (W : World) (bs : List (Nat × List Value)) (cur : World) : Prop where
  bel : Below W.heap.size W cur
  at' : ∀ x ∈ bs, At x.1 x.2 cur
theorem HoldL.on {W cur cur' : World} {bs : List (Nat × List Value)} (h : HoldL W bs cur) (hb : Below cur.heap.size cur cur') : HoldL W bs cur' := ⟨btr h.bel hb, fun x hx => (h.at' x hx).on hb⟩
theorem HoldL.cell {W : World} {bs : List (Nat × List Value)} {g : Nat} {cs : List Value} (hx : (g, cs) ∈ bs) (i : Nat) (v : Value) (h : cs[i]? = some v) : ∀ z : Of (HoldL W bs), z.val.cell? ⟨g, i, none⟩ = some v := fun z => (z.prop.at' _ hx).cell i v h
theorem l8Sign_any (s : Int) (p : PinD) (w : World) (hs : inB s 1 1438 = true) (h : p.f = 0) :
    Calls Tryz.prog 142 #[.int .i64 s, P5 p] w fun e w' => e = .returned (R8 (signD s p)) ∧ Below w.heap.size w w' := by
  have b0 := bal (bal (Below.refl _ w) (.cells #[.string p.n, .int .i64 p.a, .int .i64 p.b, .int .i64 p.e, .int .i64 p.u] 31)) (.cells #[.string { data := #[] }, .int .i64 0, .int .i64 0, .int .i64 0, .int .i64 0, .int .i64 0, .int .i64 0, .int .i64 0] 40)
  have A0 : At w.heap.size p.vals ((w.alloc (.cells #[.string p.n, .int .i64 p.a, .int .i64 p.b, .int .i64 p.e, .int .i64 p.u] 31)).alloc (.cells #[.string { data := #[] }, .int .i64 0, .int .i64 0, .int .i64 0, .int .i64 0, .int .i64 0, .int .i64 0, .int .i64 0] 40)) := (At.new w p.vals 31).alloc _
  have Z0 : At (w.heap.size + 1) zer8 ((w.alloc (.cells #[.string p.n, .int .i64 p.a, .int .i64 p.b, .int .i64 p.e, .int .i64 p.u] 31)).alloc (.cells #[.string { data := #[] }, .int .i64 0, .int .i64 0, .int .i64 0, .int .i64 0, .int .i64 0, .int .i64 0, .int .i64 0] 40)) := At.newN (w := w.alloc (.cells #[.string p.n, .int .i64 p.a, .int .i64 p.b, .int .i64 p.e, .int .i64 p.u] 31)) zer8 40 (by simp)
  have hs' := hs
  simp only [inB, decide_eq_true_eq] at hs'
  obtain ⟨s0, s1⟩ := hs'
  have KY := fun w => l1Key_any s w (by omega) (by omega)
  have S := fun g w A => l8Sum_any g p w A h
  have T := fun w => l3Sign_any s (rsum p) w hs (rsum_sum p)
  have e : signD s p = ⟨p, M.pw 4 s.toNat 2879, M.sigPt s (rsum p), M.sigPr s (rsum p)⟩ := rfl
  rw [e]
  clear e h hs
  generalize M.sigPt s (rsum p) = x at *
  generalize M.sigPr s (rsum p) = y at *
  generalize rsum p = z at *
  generalize M.pw 4 s.toNat 2879 = u at *
  have g1 := kp1
  go_enter Tryz.func142, Tryz.ntmps142
  go_wp2_with fail
  generalize (w.alloc (.cells #[.string p.n, .int .i64 p.a, .int .i64 p.b, .int .i64 p.e, .int .i64 p.u] 31)).alloc (.cells #[.string { data := #[] }, .int .i64 0, .int .i64 0, .int .i64 0, .int .i64 0, .int .i64 0, .int .i64 0, .int .i64 0] 40) = W0 at *
  have H0 : HoldL w [(w.heap.size, p.vals)] W0.drew := ⟨btr b0 (bdrew _), fun x hx => by simp only [List.mem_cons, List.not_mem_nil, or_false] at hx; subst hx; exact A0.on (bdrew _)⟩
  have Z := Z0.on (bdrew W0)
  have ltz := Z.lt (by simp [zer8])
  refine wp_region_line (HoldL w [(w.heap.size, p.vals)]) [(0, true), (1, true), (4, true), (2, false), (3, true), (5, false), (6, false), (7, true), (8, false)] (by kernel_rfl) (by kernel_rfl) (fun _ _ d _ _ h => by cases d <;> exact h) H0 ?_
  have hst := H0
  have inst : Nonempty (Of (HoldL w [(w.heap.size, p.vals)])) := ⟨⟨_, hst⟩⟩
  have q0 := HoldL.cell (W := w) (bs := [(w.heap.size, p.vals)]) (List.mem_cons_self ..) 0 _ rfl
  have q1 := HoldL.cell (W := w) (bs := [(w.heap.size, p.vals)]) (List.mem_cons_self ..) 1 _ rfl
  have q2 := HoldL.cell (W := w) (bs := [(w.heap.size, p.vals)]) (List.mem_cons_self ..) 2 _ rfl
  have q3 := HoldL.cell (W := w) (bs := [(w.heap.size, p.vals)]) (List.mem_cons_self ..) 3 _ rfl
  have q4 := HoldL.cell (W := w) (bs := [(w.heap.size, p.vals)]) (List.mem_cons_self ..) 4 _ rfl
  clear H0 A0 Z0 b0
  generalize W0.drew = V1 at *
  iterate 3 (refine line_read rfl (by kernel_rfl) (fun K hK => ?_); go_big_quiet_op; refine hK _ ?_; clear hK K)
  refine line_alone rfl (by kernel_rfl) (fun K hK => ?_)
  refine call_any (args := #[.int .i64 s]) rfl (by kernel_rfl) (by kernel_rfl) (KY _) ?_
  rintro e wn ⟨rfl, hbn⟩
  have hstN := hst.on hbn
  have ZN := Z.on hbn
  refine ⟨_, rfl, hK _ _ hstN ?_⟩
  clear hK K hst hbn Z
  have hst := hstN
  have Z := ZN
  clear hstN ZN
  simp only [Act.put, List.setIfInBounds_toArray, List.set_cons_zero, List.set_cons_succ]
  iterate 1 (refine line_read rfl (by kernel_rfl) (fun K hK => ?_); go_big_quiet_op; refine hK _ ?_; clear hK K)
  refine line_alone rfl (by kernel_rfl) (fun K hK => ?_)
  refine call_any (args := #[.pointer (some ⟨w.heap.size, 0, none⟩)]) rfl (by kernel_rfl) (by kernel_rfl) (S _ _ (hst.at' _ (List.mem_cons_self ..))) ?_
  rintro e wn ⟨rfl, hbn⟩
  have hstN := hst.on hbn
  have ZN := Z.on hbn
  refine ⟨_, rfl, hK _ _ hstN ?_⟩
  clear hK K hst hbn Z
  have hst := hstN
  have Z := ZN
  clear hstN ZN
  simp only [Act.put, List.setIfInBounds_toArray, List.set_cons_zero, List.set_cons_succ]
  refine line_alone rfl (by kernel_rfl) (fun K hK => ?_)
  refine call_any (args := #[.int .i64 s, .int .i64 z]) rfl (by kernel_rfl) (by kernel_rfl) (T _) ?_
  rintro e wn ⟨rfl, hbn⟩
  have hstN := hst.on hbn
  have ZN := Z.on hbn
  refine ⟨_, rfl, hK _ _ hstN ?_⟩
  clear hK K hst hbn Z
  have hst := hstN
  have Z := ZN
  clear hstN ZN
  simp only [Act.put, List.setIfInBounds_toArray, List.set_cons_zero, List.set_cons_succ]
  iterate 1 (refine line_read rfl (by kernel_rfl) (fun K hK => ?_); go_big_quiet_op; refine hK _ ?_; clear hK K)
  have z0 := Z.cell 0 _ rfl
  have z1 := Z.cell 1 _ rfl
  have z2 := Z.cell 2 _ rfl
  have z3 := Z.cell 3 _ rfl
  have z4 := Z.cell 4 _ rfl
  have z5 := Z.cell 5 _ rfl
  have z6 := Z.cell 6 _ rfl
  have z7 := Z.cell 7 _ rfl
  have h0 := Z.free 0 _ rfl
  have h1 := Z.free 1 _ rfl
  have h2 := Z.free 2 _ rfl
  have h3 := Z.free 3 _ rfl
  have h4 := Z.free 4 _ rfl
  have h5 := Z.free 5 _ rfl
  have h6 := Z.free 6 _ rfl
  have h7 := Z.free 7 _ rfl
  have P8 : At w.heap.size p.vals ((((((((wn.setCell ⟨w.heap.size + 1, 0, none⟩ (.string p.n)).setCell ⟨w.heap.size + 1, 1, none⟩ (.int .i64 p.a)).setCell ⟨w.heap.size + 1, 2, none⟩ (.int .i64 p.b)).setCell ⟨w.heap.size + 1, 3, none⟩ (.int .i64 p.e)).setCell ⟨w.heap.size + 1, 4, none⟩ (.int .i64 p.u)).setCell ⟨w.heap.size + 1, 5, none⟩ (.int .i64 u)).setCell ⟨w.heap.size + 1, 6, none⟩ (.int .i64 x)).setCell ⟨w.heap.size + 1, 7, none⟩ (.int .i64 y)) := by
    have hp := hst.at' _ (List.mem_cons_self ..)
    iterate 8 (refine At.setB ?_ (by simp) _)
    exact hp
  have B8 : Below w.heap.size w ((((((((wn.setCell ⟨w.heap.size + 1, 0, none⟩ (.string p.n)).setCell ⟨w.heap.size + 1, 1, none⟩ (.int .i64 p.a)).setCell ⟨w.heap.size + 1, 2, none⟩ (.int .i64 p.b)).setCell ⟨w.heap.size + 1, 3, none⟩ (.int .i64 p.e)).setCell ⟨w.heap.size + 1, 4, none⟩ (.int .i64 p.u)).setCell ⟨w.heap.size + 1, 5, none⟩ (.int .i64 u)).setCell ⟨w.heap.size + 1, 6, none⟩ (.int .i64 x)).setCell ⟨w.heap.size + 1, 7, none⟩ (.int .i64 y)) := by
    have hp := hst.bel
    iterate 8 (refine bset ?_ (by simp) _)
    exact hp
  have S8 : HoldL w [(w.heap.size, p.vals)] ((((((((wn.setCell ⟨w.heap.size + 1, 0, none⟩ (.string p.n)).setCell ⟨w.heap.size + 1, 1, none⟩ (.int .i64 p.a)).setCell ⟨w.heap.size + 1, 2, none⟩ (.int .i64 p.b)).setCell ⟨w.heap.size + 1, 3, none⟩ (.int .i64 p.e)).setCell ⟨w.heap.size + 1, 4, none⟩ (.int .i64 p.u)).setCell ⟨w.heap.size + 1, 5, none⟩ (.int .i64 u)).setCell ⟨w.heap.size + 1, 6, none⟩ (.int .i64 x)).setCell ⟨w.heap.size + 1, 7, none⟩ (.int .i64 y)) := ⟨B8, fun q hq => by rw [List.mem_singleton.1 hq]; exact P8⟩
  have HB8 := Lib.hid B8
  clear P8 B8
  refine line_alone rfl (by kernel_rfl) (fun K hK => ?_)
  go_big_op
  refine hK _ _ (S8) ?_
  clear hK K
  refine line_nil ?_
  clear hst inst q0 q1 q2 q3 q4 Z KY S T ltz S8
  go_wp2_with fail
  exact bodyPost_ret (v := R8 ⟨p, u, x, y⟩) (by simp [results, Tryz.results142, go_sem, z0, z1, z2, z3, z4, z5, z6, z7]) rfl ⟨rfl, HB8.out⟩
end Go.Proofs.YtcolecidbalmhaaGreatDoor
namespace Go.Proofs.YtcolecidbalmhaaGreatDoor
open Go.RowKit
set_option maxRecDepth 100000
set_option linter.unusedVariables false

set_option maxHeartbeats 1000000 in
theorem dl8Next {w0 : World} {a : Option Addr} {len cap : Nat} {zs : List Int} {p0 : Nat} {w : World} (D : Draw w0 a len cap zs p0 w) (hp0 : p0 ≤ 900) (q : PinD) (hq : q.n.size ≤ 21) :
    Calls Tryz.prog 141 #[.pointer (some ⟨w0.heap.size, 0, none⟩), P5 q] w (DPin (p0 + 2) (fun q => q.n.size ≤ 21) w0 a len cap zs w) := by
  have hlt := D.lt
  have B1 : BentP w0 a len cap zs p0 w (w.heap.size + 1) pinZero w.heap.size [.string q.n, .int .i64 q.a, .int .i64 q.b, .int .i64 (wrap64 (q.e + 1)), .int .i64 q.u] ((w.alloc (.cells #[.string q.n, .int .i64 q.a, .int .i64 q.b, .int .i64 (wrap64 (q.e + 1)), .int .i64 q.u] 31)).alloc (.cells #[.string { data := #[] }, .int .i64 0, .int .i64 0, .int .i64 0, .int .i64 0] 31)) :=
    ⟨⟨(D.alloc _).alloc _, gal (gal (World.grownBy.refl w (some w0.heap.size)) _) _, At.newN (w := w.alloc (.cells #[.string q.n, .int .i64 q.a, .int .i64 q.b, .int .i64 (wrap64 (q.e + 1)), .int .i64 q.u] 31)) pinZero 31 (by simp)⟩, (At.new w [.string q.n, .int .i64 q.a, .int .i64 q.b, .int .i64 (wrap64 (q.e + 1)), .int .i64 q.u] 31).alloc _⟩
  have HQ := Lib.hid hq
  clear D hq
  go_enter Tryz.func141, Tryz.ntmps141
  go_wp2_with fail
  generalize (w.alloc (.cells #[.string q.n, .int .i64 q.a, .int .i64 q.b, .int .i64 (wrap64 (q.e + 1)), .int .i64 q.u] 31)).alloc (.cells #[.string { data := #[] }, .int .i64 0, .int .i64 0, .int .i64 0, .int .i64 0] 31) = W1 at *
  generalize wrap64 (q.e + 1) = ep at *
  refine (dl7Public B1.drw.draw (by omega)).mono ?_
  rintro r w2 ⟨ac, hac, rfl, D2, g2⟩
  have B2 := B1.kept g2 D2 (by omega) (by omega)
  clear B1 D2 g2 hac
  have B3 := (B2.put 1 (.int .i64 ac) (by omega) (by omega) (by omega)).put 2 (.int .i64 0) (by omega) (by omega) (by omega)
  have x0 := B2.one.cell 0 _ rfl
  have x1 := B2.one.cell 1 _ rfl
  have x2 := B2.one.cell 2 _ rfl
  have x3 := B2.one.cell 3 _ rfl
  have x4 := B2.one.cell 4 _ rfl
  have f0 := B2.one.free 0 _ rfl
  have f1 := B2.one.free 1 _ rfl
  have f2 := B2.one.free 2 _ rfl
  have f3 := B2.one.free 3 _ rfl
  have f4 := B2.one.free 4 _ rfl
  go_wp2_with fail
  clear B2 x0 x1 x2 x3 x4 f0 f1 f2 f3 f4
  have hsz : ((w2.setCell ⟨w.heap.size, 1, none⟩ (.int .i64 ac)).setCell ⟨w.heap.size, 2, none⟩ (.int .i64 0)).heap.size = w2.heap.size := by simp
  generalize (w2.setCell ⟨w.heap.size, 1, none⟩ (.int .i64 ac)).setCell ⟨w.heap.size, 2, none⟩ (.int .i64 0) = W3 at *
  rw [← hsz]
  clear hsz
  refine (dpick [50, 9999] 2 B3.drw.draw (by omega) (by omega) (by omega) rfl 2).mono ?_
  rintro r w4 ⟨u, hu, rfl, D4, O4⟩
  have B4 := (B3.alloc (.cells #[.int .i64 50, .int .i64 9999] 2)).only O4 D4 (by omega) (by omega)
  have B5 := B4.put 4 (.int .i64 u) (by omega) (by omega) (by omega)
  clear B3 D4 O4 hu
  have q0 := B4.drw.res.cell 0 _ rfl
  have q1 := B4.drw.res.cell 1 _ rfl
  have q2 := B4.drw.res.cell 2 _ rfl
  have q3 := B4.drw.res.cell 3 _ rfl
  have q4 := B4.drw.res.cell 4 _ rfl
  have z0 := B4.drw.res.free 0 _ rfl
  have z1 := B4.drw.res.free 1 _ rfl
  have z2 := B4.drw.res.free 2 _ rfl
  have z3 := B4.drw.res.free 3 _ rfl
  have z4 := B4.drw.res.free 4 _ rfl
  have x0 := B4.one.cell 0 _ rfl
  have x1 := B4.one.cell 1 _ rfl
  have x2 := B4.one.cell 2 _ rfl
  have x3 := B4.one.cell 3 _ rfl
  have x4 := B4.one.cell 4 _ rfl
  have f0 := B4.one.free 0 _ rfl
  have f1 := B4.one.free 1 _ rfl
  have f2 := B4.one.free 2 _ rfl
  have f3 := B4.one.free 3 _ rfl
  have f4 := B4.one.free 4 _ rfl
  have HB := Lib.hid B5
  clear B4 B5
  go_wp2_with fail
  refine bodyPost_ret (v := P5 ⟨q.n, ac, 0, ep, u⟩) (by simp [results, Tryz.results141, go_sem, q0, q1, q2, q3, q4]) rfl ?_
  refine ⟨⟨q.n, ac, 0, ep, u⟩, p0 + 1 + 1, HQ.out, by omega, rfl, ?hd, ?hg⟩
  case hd =>
    iterate 5 (refine Draw.put ?_ (by dsimp only; omega) _)
    exact HB.out.drw.draw
  case hg =>
    iterate 5 (refine gset ?_ (by dsimp only; omega) _)
    exact HB.out.drw.grew
set_option maxHeartbeats 1000000 in
theorem dl8Secret {w0 : World} {a : Option Addr} {len cap : Nat} {zs : List Int} {p0 : Nat} {w : World} (D : Draw w0 a len cap zs p0 w) (hp0 : p0 ≤ 1000) (u : Int) :
    Calls Tryz.prog 143 #[.pointer (some ⟨w0.heap.size, 0, none⟩), .int .i64 u] w fun r w' => ∃ (v : Int) (p : Nat), 1 ≤ v ∧ v ≤ 4 ∧ p ≤ p0 + 1 ∧ r = .returned (.int .i64 v) ∧ Draw w0 a len cap zs p w' ∧ w.grownBy w' (some w0.heap.size) := by
  have g1 := key1
  have T0 : Draw w0 a len cap zs p0 w ∧ w.grownBy w (some w0.heap.size) := ⟨D, World.grownBy.refl w (some w0.heap.size)⟩
  clear D
  go_enter Tryz.func143, Tryz.ntmps143
  go_wp2_with fail
  go_loopw [5] (fun i wr => ∃ k : Nat, 1 ≤ k ∧ k ≤ 5 ∧ i = .int .i64 k ∧ Draw w0 a len cap zs p0 wr ∧ w.grownBy wr (some w0.heap.size)) (fun i _ => 5 - (intOf i).toNat)
  case atStart => exact ⟨1, Nat.le_refl _, by omega, rfl, T0⟩
  case round =>
    obtain ⟨k, hk1, hk, rfl, hD, hg⟩ := hrel
    clear T0
    by_cases hlt : k < 5
    · have K := fun w => l1Key_any (k : Int) w (by omega) (by omega)
      generalize M.pw 4 (k : Int).toNat 2879 = y at *
      have HD := Lib.hid hD
      have HG := Lib.hid hg
      clear hD hg
      cases hyu : (y == u)
      · go_wp2_with fail
        refine (K _).mono ?_
        rintro e u1 ⟨rfl, b1⟩
        have D1 := Lib.hid (HD.out.below b1)
        have G1 := Lib.hid (gbe HG.out b1)
        clear b1 HD HG K
        go_wp2_with fail
        go_roundw
        case rel => exact ⟨k + 1, by omega, by omega, by go_num, D1.out, G1.out⟩
        case measure => simp [intOf]; omega
      · go_wp2_with fail
        refine (K _).mono ?_
        rintro e u1 ⟨rfl, b1⟩
        have D1 := Lib.hid (HD.out.below b1)
        have G1 := Lib.hid (gbe HG.out b1)
        clear b1 HD HG K
        go_wp2_with fail
        go_ret
        exact ⟨k, p0, by omega, by omega, by omega, rfl, D1.out, G1.out⟩
    · obtain rfl : k = 5 := by omega
      go_wp2_with fail
      refine (dnext 4 hD (by omega)).mono ?_
      rintro r w1 ⟨x, x0, x1, rfl, D1, O1⟩
      have hx : x < 4 := by omega
      have H := Lib.hid (And.intro D1 (gtr hg O1.grown))
      clear hD hg D1 O1 x1
      go_wp2_with fail
      go_ret
      exact ⟨1 + x, p0 + 1, by omega, by omega, by omega, rfl, H.out.1, H.out.2⟩

end Go.Proofs.YtcolecidbalmhaaGreatDoor
namespace Go.Proofs.YtcolecidbalmhaaGreatDoor
open Go.RowKit
set_option maxRecDepth 100000
set_option linter.unusedVariables false

/-- A rollover was drawn. -/
def DRoll (K : Nat) (w0 : World) (a : Option Addr) (len cap : Nat) (zs : List Int) (w : World) (e : Ending) (w' : World) : Prop :=
  ∃ (q : RollD) (p : Nat), q.p.n.size ≤ 21 ∧ p ≤ K ∧ e = .returned (R8 q) ∧ Draw w0 a len cap zs p w' ∧ w.grownBy w' (some w0.heap.size)
/-- Two blocks that are read. -/
structure Rd8 (g : Nat) (cs : List Value) (k : Nat) (ds : List Value) (x : World) : Prop where
  a : At g cs x
  b : At k ds x
/-- A rollover in a block of its own, while something is drawn. -/
def Got8 (w0 : World) (a : Option Addr) (len cap : Nat) (zs : List Int) (K : Nat) (w : World) (v : Value) (wx : World) : Prop :=
  ∃ (gb : Nat) (r : RollD) (p : Nat), v = .pointer (some ⟨gb, 0, none⟩) ∧ r.p.n.size ≤ 21 ∧ p ≤ K ∧ w.heap.size + 1 < gb ∧ BentP w0 a len cap zs p w (w.heap.size + 1) zer8 gb r.vals wx
/-- The pin that comes next, in its block, and what lies beside it. -/
def Nx8 (w0 : World) (a : Option Addr) (len cap : Nat) (zs : List Int) (K : Nat) (w : World) (nb : Nat) (q : PinD) (wx : World) : Prop :=
  ∃ (nx : PinD) (p : Nat), nx.f = 0 ∧ nx.n.size ≤ 21 ∧ p ≤ K ∧ DrwP w0 a len cap zs p w (w.heap.size + 1) zer8 wx ∧ At w.heap.size q.vals wx ∧ At nb nx.vals wx
set_option maxHeartbeats 8000000 in
theorem dl8Draw {w0 : World} {a : Option Addr} {len cap : Nat} {zs : List Int} {p0 : Nat} {w : World} (D : Draw w0 a len cap zs p0 w) (hp0 : p0 ≤ 400) (q : PinD) (hq : q.n.size ≤ 21) :
    Calls Tryz.prog 75 #[.pointer (some ⟨w0.heap.size, 0, none⟩), P5 q] w (DRoll (p0 + 12) w0 a len cap zs w) := by
  have hlt := D.lt
  have R0 : DrwP w0 a len cap zs p0 w (w.heap.size + 1) zer8 ((w.alloc (.cells #[.string q.n, .int .i64 q.a, .int .i64 q.b, .int .i64 q.e, .int .i64 q.u] 31)).alloc (.cells #[.string { data := #[] }, .int .i64 0, .int .i64 0, .int .i64 0, .int .i64 0, .int .i64 0, .int .i64 0, .int .i64 0] 40)) :=
    ⟨(D.alloc _).alloc _, gal (gal (World.grownBy.refl w (some w0.heap.size)) _) _, At.newN (w := w.alloc (.cells #[.string q.n, .int .i64 q.a, .int .i64 q.b, .int .i64 q.e, .int .i64 q.u] 31)) zer8 40 (by simp)⟩
  have A0 : At w.heap.size q.vals ((w.alloc (.cells #[.string q.n, .int .i64 q.a, .int .i64 q.b, .int .i64 q.e, .int .i64 q.u] 31)).alloc (.cells #[.string { data := #[] }, .int .i64 0, .int .i64 0, .int .i64 0, .int .i64 0, .int .i64 0, .int .i64 0, .int .i64 0] 40)) := (At.new w q.vals 31).alloc _
  clear D
  go_enter Tryz.func75, Tryz.ntmps75
  go_wp2_with fail
  generalize (w.alloc (.cells #[.string q.n, .int .i64 q.a, .int .i64 q.b, .int .i64 q.e, .int .i64 q.u] 31)).alloc (.cells #[.string { data := #[] }, .int .i64 0, .int .i64 0, .int .i64 0, .int .i64 0, .int .i64 0, .int .i64 0, .int .i64 0] 40) = W0 at *
  refine (dl8Next R0.draw (by omega) q hq).mono ?_
  rintro e u1 ⟨nx, p1, hn1, hp1, rfl, D1, g1⟩
  have R1 := (R0.kept g1 D1 (by omega)).alloc (.cells #[.string nx.n, .int .i64 nx.a, .int .i64 nx.b, .int .i64 nx.e, .int .i64 nx.u] 31)
  have A1 := (A0.kept g1 (fun e => by injection e with e; omega)).alloc (.cells #[.string nx.n, .int .i64 nx.a, .int .i64 nx.b, .int .i64 nx.e, .int .i64 nx.u] 31)
  have X1 : At u1.heap.size nx.vals (u1.alloc (.cells #[.string nx.n, .int .i64 nx.a, .int .i64 nx.b, .int .i64 nx.e, .int .i64 nx.u] 31)) := At.new u1 nx.vals 31
  have lt1 := (R0.kept g1 D1 (by omega)).res.lt (by simp [zer8])
  have F := fun g w A => l7Fault_any g nx w A (by simp only [maxLen]; omega)
  clear R0 A0 D1 g1 hq
  go_wp2_with fail
  generalize u1.alloc (.cells #[.string nx.n, .int .i64 nx.a, .int .i64 nx.b, .int .i64 nx.e, .int .i64 nx.u] 31) = W1 at *
  generalize u1.heap.size = nb at *
  refine (F _ _ X1).mono ?_
  rintro e W2 ⟨rfl, b2⟩
  have R2 := R1.on b2
  have A2 := A1.on b2
  have X2 := X1.on b2
  have hN1 := Lib.hid hn1
  generalize hfz : nx.f = fz at *
  have HFZ := Lib.hid hfz
  clear R1 A1 X1 b2 F hn1 hfz
  go_upto_if 11 with fail
  go_cut [] from 10 to 13 (fun wx => Nx8 w0 a len cap zs (p0 + 8) w nb q wx)
  case first =>
    by_cases hf : fz = 0
    · have n0 : (fz == 0) = true := by simpa using hf
      have n1 : (fz != 0) = false := by simp [hf]
      have HF := Lib.hid hf
      clear hf
      go_wp2_with fail
      go_meet
      case rel => exact ⟨nx, _, HFZ.out.trans HF.out, hN1.out, by omega, R2, A2, X2⟩
    · have n0 : (fz == 0) = false := by simpa using hf
      have n1 : (fz != 0) = true := by simp [hf]
      go_wp2_with fail
      refine (dl7Draw R2.draw (by omega)).mono ?_
      rintro e W3 ⟨ny, p3, hf3, hp3, rfl, D3, g3⟩
      have B3 : BentP _ _ _ _ _ _ _ _ _ _ _ _ := ⟨R2.kept g3 D3 (by omega), X2.kept g3 (fun e => by injection e with e; omega)⟩
      have A3 := A2.kept g3 (fun e => by injection e with e; omega)
      have A4 : At w.heap.size q.vals (((((W3.setCell ⟨nb, 0, none⟩ (.string ny.n)).setCell ⟨nb, 1, none⟩ (.int .i64 ny.a)).setCell ⟨nb, 2, none⟩ (.int .i64 ny.b)).setCell ⟨nb, 3, none⟩ (.int .i64 ny.e)).setCell ⟨nb, 4, none⟩ (.int .i64 ny.u)) := by
        iterate 5 (refine At.setB ?_ (by dsimp only; omega) _)
        exact A3
      have B4 := ((((B3.put 0 (.string ny.n) (by omega) (by omega) (by omega)).put 1 (.int .i64 ny.a) (by omega) (by omega) (by omega)).put 2 (.int .i64 ny.b) (by omega) (by omega) (by omega)).put 3 (.int .i64 ny.e) (by omega) (by omega) (by omega)).put 4 (.int .i64 ny.u) (by omega) (by omega) (by omega)
      have HH := Lib.hid (show Nx8 w0 a len cap zs (p0 + 8) w nb q (((((W3.setCell ⟨nb, 0, none⟩ (.string ny.n)).setCell ⟨nb, 1, none⟩ (.int .i64 ny.a)).setCell ⟨nb, 2, none⟩ (.int .i64 ny.b)).setCell ⟨nb, 3, none⟩ (.int .i64 ny.e)).setCell ⟨nb, 4, none⟩ (.int .i64 ny.u)) from ⟨ny, p3, hf3, by have := pin_size hf3; omega, by omega, B4.drw, A4, B4.one⟩)
      have x0 := B3.one.cell 0 _ rfl
      have x1 := B3.one.cell 1 _ rfl
      have x2 := B3.one.cell 2 _ rfl
      have x3 := B3.one.cell 3 _ rfl
      have x4 := B3.one.cell 4 _ rfl
      have f0 := B3.one.free 0 _ rfl
      have f1 := B3.one.free 1 _ rfl
      have f2 := B3.one.free 2 _ rfl
      have f3 := B3.one.free 3 _ rfl
      have f4 := B3.one.free 4 _ rfl
      clear R2 A2 X2 D3 g3 A3 A4 B3 B4 hf hf3
      go_wp2_with fail
      go_meet
      case rel => exact HH.out
  case rest =>
    obtain ⟨nx, p5, hnf, hns, hp5, R5, A5, X5⟩ := hcut
    clear R2 A2 X2 hN1 HFZ
    generalize wc = W5 at *
    go_upto_region 4 with fail
    go_cut [6] from 14 to 20 (fun v wx => Got8 w0 a len cap zs (p0 + 9) w v wx)
    case first =>
      refine wp_region_fork (Rd8 w.heap.size q.vals nb nx.vals) (by kernel_rfl) (⟨A5.on (bdrew _), X5.on (bdrew _)⟩) ?_
      have hst : (Rd8 w.heap.size q.vals nb nx.vals) _ := (⟨A5.on (bdrew _), X5.on (bdrew _)⟩)
      have inst : Nonempty (Of (Rd8 w.heap.size q.vals nb nx.vals)) := ⟨⟨_, hst⟩⟩
      have R := R5.on (bdrew _)
      have y1 : ∀ z : Of (Rd8 w.heap.size q.vals nb nx.vals), z.val.cell? ⟨w.heap.size, 1, none⟩ = some (.int .i64 q.a) := fun z => z.prop.a.cell 1 _ rfl
      have n0 : ∀ z : Of (Rd8 w.heap.size q.vals nb nx.vals), z.val.cell? ⟨nb, 0, none⟩ = some (.string nx.n) := fun z => z.prop.b.cell 0 _ rfl
      have n1 : ∀ z : Of (Rd8 w.heap.size q.vals nb nx.vals), z.val.cell? ⟨nb, 1, none⟩ = some (.int .i64 nx.a) := fun z => z.prop.b.cell 1 _ rfl
      have n2 : ∀ z : Of (Rd8 w.heap.size q.vals nb nx.vals), z.val.cell? ⟨nb, 2, none⟩ = some (.int .i64 nx.b) := fun z => z.prop.b.cell 2 _ rfl
      have n3 : ∀ z : Of (Rd8 w.heap.size q.vals nb nx.vals), z.val.cell? ⟨nb, 3, none⟩ = some (.int .i64 nx.e) := fun z => z.prop.b.cell 3 _ rfl
      have n4 : ∀ z : Of (Rd8 w.heap.size q.vals nb nx.vals), z.val.cell? ⟨nb, 4, none⟩ = some (.int .i64 nx.u) := fun z => z.prop.b.cell 4 _ rfl
      clear A5 X5 R5
      generalize W5.drew = V1 at *
      refine any_seg 4 [(0, true), (1, true), (2, true), (4, true)] (by kernel_rfl) (fun _ _ d _ _ h => by cases d <;> exact h) ?_
      iterate 4 (refine line_read rfl (by kernel_rfl) (fun K hK => ?_); go_big_quiet_op; refine hK _ ?_; clear hK K)
      refine line_nil ?_
      clear y1 n0 n1 n2 n3 n4
      refine any_fork 3 6 (by kernel_rfl) rfl rfl (by kernel_rfl) (by kernel_rfl) (fun K hK => ?_) (fun K hK => ?_)
      · refine call_any (args := #[.pointer (some ⟨w0.heap.size, 0, none⟩), .int .i64 q.a]) rfl (by kernel_rfl) (by kernel_rfl) (dl8Secret R.draw (by omega) q.a) ?_
        rintro e x1 ⟨s, ps, s0, s1, hps, rfl, D1, g1⟩
        have RN := R.kept g1 D1 (by omega)
        clear R
        have R := RN
        clear RN D1
        have hstN : Rd8 w.heap.size q.vals nb nx.vals x1 := ⟨hst.a.kept g1 (fun e => by injection e with e; omega), hst.b.kept g1 (fun e => by injection e with e; omega)⟩
        clear g1
        have hst2 := hstN
        refine ⟨_, rfl, hK _ _ hst2 ?_⟩
        clear hK K hst hstN
        have hst := hst2
        clear hst2
        simp only [Act.put, List.setIfInBounds_toArray, List.set_cons_zero, List.set_cons_succ]
        refine any_fork 5 6 (by kernel_rfl) rfl rfl (by kernel_rfl) (by kernel_rfl) (fun K hK => ?_) (fun K hK => ?_)
        · have hsb : inB s 1 1438 = true := by simp [inB]; omega
          refine call_any (args := #[.int .i64 s, P5 nx]) rfl (by kernel_rfl) (by kernel_rfl) (l8Sign_any s nx _ hsb hnf) ?_
          rintro e x2 ⟨rfl, b2⟩
          have RN := R.on b2
          clear R
          have R := RN
          clear RN
          have hstN : Rd8 w.heap.size q.vals nb nx.vals x2 := ⟨hst.a.on b2, hst.b.on b2⟩
          clear b2
          have hst2 := hstN
          refine ⟨_, rfl, hK _ _ hst2 ?_⟩
          clear hK K hst hstN
          have hst := hst2
          clear hst2
          simp only [Act.put, List.setIfInBounds_toArray, List.set_cons_zero, List.set_cons_succ]
          refine any_rest [(6, false), (7, false)] (by kernel_rfl) (fun _ _ d _ _ h => by cases d <;> exact h) ?_
          refine line_alone rfl (by kernel_rfl) (fun K hK => ?_)
          go_big_op
          have hst2 : Rd8 w.heap.size q.vals nb nx.vals (x2.alloc (.cells #[.string { data := #[] }, .int .i64 0, .int .i64 0, .int .i64 0, .int .i64 0, .int .i64 0, .int .i64 0, .int .i64 0] 40)) := ⟨hst.a.alloc _, hst.b.alloc _⟩
          have X : At x2.heap.size zer8 (x2.alloc (.cells #[.string { data := #[] }, .int .i64 0, .int .i64 0, .int .i64 0, .int .i64 0, .int .i64 0, .int .i64 0, .int .i64 0] 40)) := At.new x2 zer8 40
          have RN := R.alloc (.cells #[.string { data := #[] }, .int .i64 0, .int .i64 0, .int .i64 0, .int .i64 0, .int .i64 0, .int .i64 0, .int .i64 0] 40)
          have ltA := R.res.lt (by simp [zer8])
          have ltN := hst.b.lt (by simp [PinD.vals])
          clear R
          have R := RN
          clear RN
          refine hK _ _ hst2 ?_
          clear hK K hst
          have hst := hst2
          clear hst2
          generalize x2.alloc (.cells #[.string { data := #[] }, .int .i64 0, .int .i64 0, .int .i64 0, .int .i64 0, .int .i64 0, .int .i64 0, .int .i64 0] 40) = xa at *
          generalize x2.heap.size = ga at *
          have hrn : (signD s nx).p.n.size ≤ 21 := hns
          generalize signD s nx = r at *
          have h0 := X.cell 0 _ rfl
          have h1 := X.cell 1 _ rfl
          have h2 := X.cell 2 _ rfl
          have h3 := X.cell 3 _ rfl
          have h4 := X.cell 4 _ rfl
          have h5 := X.cell 5 _ rfl
          have h6 := X.cell 6 _ rfl
          have h7 := X.cell 7 _ rfl
          have f0 := X.free 0 _ rfl
          have f1 := X.free 1 _ rfl
          have f2 := X.free 2 _ rfl
          have f3 := X.free 3 _ rfl
          have f4 := X.free 4 _ rfl
          have f5 := X.free 5 _ rfl
          have f6 := X.free 6 _ rfl
          have f7 := X.free 7 _ rfl
          have SA : At w.heap.size q.vals ((((((((xa.setCell ⟨ga, 0, none⟩ (.string r.p.n)).setCell ⟨ga, 1, none⟩ (.int .i64 r.p.a)).setCell ⟨ga, 2, none⟩ (.int .i64 r.p.b)).setCell ⟨ga, 3, none⟩ (.int .i64 r.p.e)).setCell ⟨ga, 4, none⟩ (.int .i64 r.p.u)).setCell ⟨ga, 5, none⟩ (.int .i64 r.b)).setCell ⟨ga, 6, none⟩ (.int .i64 r.x)).setCell ⟨ga, 7, none⟩ (.int .i64 r.y)) := by
            iterate 8 (refine At.setB ?_ (by dsimp only; omega) _)
            exact hst.a
          have SB : At nb nx.vals ((((((((xa.setCell ⟨ga, 0, none⟩ (.string r.p.n)).setCell ⟨ga, 1, none⟩ (.int .i64 r.p.a)).setCell ⟨ga, 2, none⟩ (.int .i64 r.p.b)).setCell ⟨ga, 3, none⟩ (.int .i64 r.p.e)).setCell ⟨ga, 4, none⟩ (.int .i64 r.p.u)).setCell ⟨ga, 5, none⟩ (.int .i64 r.b)).setCell ⟨ga, 6, none⟩ (.int .i64 r.x)).setCell ⟨ga, 7, none⟩ (.int .i64 r.y)) := by
            iterate 8 (refine At.setB ?_ (by dsimp only; omega) _)
            exact hst.b
          have S8 : Rd8 w.heap.size q.vals nb nx.vals ((((((((xa.setCell ⟨ga, 0, none⟩ (.string r.p.n)).setCell ⟨ga, 1, none⟩ (.int .i64 r.p.a)).setCell ⟨ga, 2, none⟩ (.int .i64 r.p.b)).setCell ⟨ga, 3, none⟩ (.int .i64 r.p.e)).setCell ⟨ga, 4, none⟩ (.int .i64 r.p.u)).setCell ⟨ga, 5, none⟩ (.int .i64 r.b)).setCell ⟨ga, 6, none⟩ (.int .i64 r.x)).setCell ⟨ga, 7, none⟩ (.int .i64 r.y)) := ⟨SA, SB⟩
          have B8 : BentP _ _ _ _ _ _ _ _ _ _ _ _ := ⟨R, X⟩
          have B9 := (((((((B8.put 0 (.string r.p.n) (by omega) (by omega) (by omega)).put 1 (.int .i64 r.p.a) (by omega) (by omega) (by omega)).put 2 (.int .i64 r.p.b) (by omega) (by omega) (by omega)).put 3 (.int .i64 r.p.e) (by omega) (by omega) (by omega)).put 4 (.int .i64 r.p.u) (by omega) (by omega) (by omega)).put 5 (.int .i64 r.b) (by omega) (by omega) (by omega)).put 6 (.int .i64 r.x) (by omega) (by omega) (by omega)).put 7 (.int .i64 r.y) (by omega) (by omega) (by omega)
          have H9 := Lib.hid B9
          clear B8 B9 X R SA SB
          refine line_alone rfl (by kernel_rfl) (fun K hK => ?_)
          go_big_op
          refine hK _ _ (S8) ?_
          clear hK K
          refine line_nil ?_
          clear hst S8 h0 h1 h2 h3 h4 h5 h6 h7 f0 f1 f2 f3 f4 f5 f6 f7
          go_wp2_with fail
          go_meet
          case rel => exact ⟨_, r, _, rfl, hrn, by omega, by omega, H9.out⟩
        · go_big_op
          have hst2 : Rd8 w.heap.size q.vals nb nx.vals (x1.alloc (.cells #[.string { data := #[] }, .int .i64 0, .int .i64 0, .int .i64 0, .int .i64 0, .int .i64 0, .int .i64 0, .int .i64 0] 40)) := ⟨hst.a.alloc _, hst.b.alloc _⟩
          have X : At x1.heap.size zer8 (x1.alloc (.cells #[.string { data := #[] }, .int .i64 0, .int .i64 0, .int .i64 0, .int .i64 0, .int .i64 0, .int .i64 0, .int .i64 0] 40)) := At.new x1 zer8 40
          have RN := R.alloc (.cells #[.string { data := #[] }, .int .i64 0, .int .i64 0, .int .i64 0, .int .i64 0, .int .i64 0, .int .i64 0, .int .i64 0] 40)
          have ltA := R.res.lt (by simp [zer8])
          have ltN := hst.b.lt (by simp [PinD.vals])
          clear R
          have R := RN
          clear RN
          refine hK _ _ hst2 ?_
          clear hK K hst
          have hst := hst2
          clear hst2
          generalize x1.alloc (.cells #[.string { data := #[] }, .int .i64 0, .int .i64 0, .int .i64 0, .int .i64 0, .int .i64 0, .int .i64 0, .int .i64 0] 40) = xa at *
          generalize x1.heap.size = ga at *
          refine any_rest [(5, false), (7, false)] (by kernel_rfl) (fun _ _ d _ _ h => by cases d <;> exact h) ?_
          refine line_alone rfl (by kernel_rfl) (fun K hK => ?_)
          have hsb : inB s 1 1438 = true := by simp [inB]; omega
          refine call_any (args := #[.int .i64 s, P5 nx]) rfl (by kernel_rfl) (by kernel_rfl) (l8Sign_any s nx _ hsb hnf) ?_
          rintro e x2 ⟨rfl, b2⟩
          have RN := R.on b2
          clear R
          have R := RN
          clear RN
          have hstN : Rd8 w.heap.size q.vals nb nx.vals x2 := ⟨hst.a.on b2, hst.b.on b2⟩
          have XN := X.on b2
          clear X b2
          have X := XN
          clear XN
          have hst2 := hstN
          refine ⟨_, rfl, hK _ _ hst2 ?_⟩
          clear hK K hst hstN
          have hst := hst2
          clear hst2
          simp only [Act.put, List.setIfInBounds_toArray, List.set_cons_zero, List.set_cons_succ]
          have hrn : (signD s nx).p.n.size ≤ 21 := hns
          generalize signD s nx = r at *
          have h0 := X.cell 0 _ rfl
          have h1 := X.cell 1 _ rfl
          have h2 := X.cell 2 _ rfl
          have h3 := X.cell 3 _ rfl
          have h4 := X.cell 4 _ rfl
          have h5 := X.cell 5 _ rfl
          have h6 := X.cell 6 _ rfl
          have h7 := X.cell 7 _ rfl
          have f0 := X.free 0 _ rfl
          have f1 := X.free 1 _ rfl
          have f2 := X.free 2 _ rfl
          have f3 := X.free 3 _ rfl
          have f4 := X.free 4 _ rfl
          have f5 := X.free 5 _ rfl
          have f6 := X.free 6 _ rfl
          have f7 := X.free 7 _ rfl
          have SA : At w.heap.size q.vals ((((((((x2.setCell ⟨ga, 0, none⟩ (.string r.p.n)).setCell ⟨ga, 1, none⟩ (.int .i64 r.p.a)).setCell ⟨ga, 2, none⟩ (.int .i64 r.p.b)).setCell ⟨ga, 3, none⟩ (.int .i64 r.p.e)).setCell ⟨ga, 4, none⟩ (.int .i64 r.p.u)).setCell ⟨ga, 5, none⟩ (.int .i64 r.b)).setCell ⟨ga, 6, none⟩ (.int .i64 r.x)).setCell ⟨ga, 7, none⟩ (.int .i64 r.y)) := by
            iterate 8 (refine At.setB ?_ (by dsimp only; omega) _)
            exact hst.a
          have SB : At nb nx.vals ((((((((x2.setCell ⟨ga, 0, none⟩ (.string r.p.n)).setCell ⟨ga, 1, none⟩ (.int .i64 r.p.a)).setCell ⟨ga, 2, none⟩ (.int .i64 r.p.b)).setCell ⟨ga, 3, none⟩ (.int .i64 r.p.e)).setCell ⟨ga, 4, none⟩ (.int .i64 r.p.u)).setCell ⟨ga, 5, none⟩ (.int .i64 r.b)).setCell ⟨ga, 6, none⟩ (.int .i64 r.x)).setCell ⟨ga, 7, none⟩ (.int .i64 r.y)) := by
            iterate 8 (refine At.setB ?_ (by dsimp only; omega) _)
            exact hst.b
          have S8 : Rd8 w.heap.size q.vals nb nx.vals ((((((((x2.setCell ⟨ga, 0, none⟩ (.string r.p.n)).setCell ⟨ga, 1, none⟩ (.int .i64 r.p.a)).setCell ⟨ga, 2, none⟩ (.int .i64 r.p.b)).setCell ⟨ga, 3, none⟩ (.int .i64 r.p.e)).setCell ⟨ga, 4, none⟩ (.int .i64 r.p.u)).setCell ⟨ga, 5, none⟩ (.int .i64 r.b)).setCell ⟨ga, 6, none⟩ (.int .i64 r.x)).setCell ⟨ga, 7, none⟩ (.int .i64 r.y)) := ⟨SA, SB⟩
          have B8 : BentP _ _ _ _ _ _ _ _ _ _ _ _ := ⟨R, X⟩
          have B9 := (((((((B8.put 0 (.string r.p.n) (by omega) (by omega) (by omega)).put 1 (.int .i64 r.p.a) (by omega) (by omega) (by omega)).put 2 (.int .i64 r.p.b) (by omega) (by omega) (by omega)).put 3 (.int .i64 r.p.e) (by omega) (by omega) (by omega)).put 4 (.int .i64 r.p.u) (by omega) (by omega) (by omega)).put 5 (.int .i64 r.b) (by omega) (by omega) (by omega)).put 6 (.int .i64 r.x) (by omega) (by omega) (by omega)).put 7 (.int .i64 r.y) (by omega) (by omega) (by omega)
          have H9 := Lib.hid B9
          clear B8 B9 X R SA SB
          refine line_alone rfl (by kernel_rfl) (fun K hK => ?_)
          go_big_op
          refine hK _ _ (S8) ?_
          clear hK K
          refine line_nil ?_
          clear hst S8 h0 h1 h2 h3 h4 h5 h6 h7 f0 f1 f2 f3 f4 f5 f6 f7
          go_wp2_with fail
          go_meet
          case rel => exact ⟨_, r, _, rfl, hrn, by omega, by omega, H9.out⟩
      · go_big_op
        have hst2 : Rd8 w.heap.size q.vals nb nx.vals (V1.alloc (.cells #[.string { data := #[] }, .int .i64 0, .int .i64 0, .int .i64 0, .int .i64 0, .int .i64 0, .int .i64 0, .int .i64 0] 40)) := ⟨hst.a.alloc _, hst.b.alloc _⟩
        have X : At V1.heap.size zer8 (V1.alloc (.cells #[.string { data := #[] }, .int .i64 0, .int .i64 0, .int .i64 0, .int .i64 0, .int .i64 0, .int .i64 0, .int .i64 0] 40)) := At.new V1 zer8 40
        have RN := R.alloc (.cells #[.string { data := #[] }, .int .i64 0, .int .i64 0, .int .i64 0, .int .i64 0, .int .i64 0, .int .i64 0, .int .i64 0] 40)
        have ltA := R.res.lt (by simp [zer8])
        have ltN := hst.b.lt (by simp [PinD.vals])
        clear R
        have R := RN
        clear RN
        refine hK _ _ hst2 ?_
        clear hK K hst
        have hst := hst2
        clear hst2
        generalize V1.alloc (.cells #[.string { data := #[] }, .int .i64 0, .int .i64 0, .int .i64 0, .int .i64 0, .int .i64 0, .int .i64 0, .int .i64 0] 40) = xa at *
        generalize V1.heap.size = ga at *
        refine any_rest [(3, false), (5, false), (7, false)] (by kernel_rfl) (fun _ _ d _ _ h => by cases d <;> exact h) ?_
        refine line_alone rfl (by kernel_rfl) (fun K hK => ?_)
        refine call_any (args := #[.pointer (some ⟨w0.heap.size, 0, none⟩), .int .i64 q.a]) rfl (by kernel_rfl) (by kernel_rfl) (dl8Secret R.draw (by omega) q.a) ?_
        rintro e x1 ⟨s, ps, s0, s1, hps, rfl, D1, g1⟩
        have RN := R.kept g1 D1 (by omega)
        clear R
        have R := RN
        clear RN D1
        have hstN : Rd8 w.heap.size q.vals nb nx.vals x1 := ⟨hst.a.kept g1 (fun e => by injection e with e; omega), hst.b.kept g1 (fun e => by injection e with e; omega)⟩
        have XN := X.kept g1 (fun e => by injection e with e; omega)
        clear X g1
        have X := XN
        clear XN
        have hst2 := hstN
        refine ⟨_, rfl, hK _ _ hst2 ?_⟩
        clear hK K hst hstN
        have hst := hst2
        clear hst2
        simp only [Act.put, List.setIfInBounds_toArray, List.set_cons_zero, List.set_cons_succ]
        refine line_alone rfl (by kernel_rfl) (fun K hK => ?_)
        have hsb : inB s 1 1438 = true := by simp [inB]; omega
        refine call_any (args := #[.int .i64 s, P5 nx]) rfl (by kernel_rfl) (by kernel_rfl) (l8Sign_any s nx _ hsb hnf) ?_
        rintro e x2 ⟨rfl, b2⟩
        have RN := R.on b2
        clear R
        have R := RN
        clear RN
        have hstN : Rd8 w.heap.size q.vals nb nx.vals x2 := ⟨hst.a.on b2, hst.b.on b2⟩
        have XN := X.on b2
        clear X b2
        have X := XN
        clear XN
        have hst2 := hstN
        refine ⟨_, rfl, hK _ _ hst2 ?_⟩
        clear hK K hst hstN
        have hst := hst2
        clear hst2
        simp only [Act.put, List.setIfInBounds_toArray, List.set_cons_zero, List.set_cons_succ]
        have hrn : (signD s nx).p.n.size ≤ 21 := hns
        generalize signD s nx = r at *
        have h0 := X.cell 0 _ rfl
        have h1 := X.cell 1 _ rfl
        have h2 := X.cell 2 _ rfl
        have h3 := X.cell 3 _ rfl
        have h4 := X.cell 4 _ rfl
        have h5 := X.cell 5 _ rfl
        have h6 := X.cell 6 _ rfl
        have h7 := X.cell 7 _ rfl
        have f0 := X.free 0 _ rfl
        have f1 := X.free 1 _ rfl
        have f2 := X.free 2 _ rfl
        have f3 := X.free 3 _ rfl
        have f4 := X.free 4 _ rfl
        have f5 := X.free 5 _ rfl
        have f6 := X.free 6 _ rfl
        have f7 := X.free 7 _ rfl
        have SA : At w.heap.size q.vals ((((((((x2.setCell ⟨ga, 0, none⟩ (.string r.p.n)).setCell ⟨ga, 1, none⟩ (.int .i64 r.p.a)).setCell ⟨ga, 2, none⟩ (.int .i64 r.p.b)).setCell ⟨ga, 3, none⟩ (.int .i64 r.p.e)).setCell ⟨ga, 4, none⟩ (.int .i64 r.p.u)).setCell ⟨ga, 5, none⟩ (.int .i64 r.b)).setCell ⟨ga, 6, none⟩ (.int .i64 r.x)).setCell ⟨ga, 7, none⟩ (.int .i64 r.y)) := by
          iterate 8 (refine At.setB ?_ (by dsimp only; omega) _)
          exact hst.a
        have SB : At nb nx.vals ((((((((x2.setCell ⟨ga, 0, none⟩ (.string r.p.n)).setCell ⟨ga, 1, none⟩ (.int .i64 r.p.a)).setCell ⟨ga, 2, none⟩ (.int .i64 r.p.b)).setCell ⟨ga, 3, none⟩ (.int .i64 r.p.e)).setCell ⟨ga, 4, none⟩ (.int .i64 r.p.u)).setCell ⟨ga, 5, none⟩ (.int .i64 r.b)).setCell ⟨ga, 6, none⟩ (.int .i64 r.x)).setCell ⟨ga, 7, none⟩ (.int .i64 r.y)) := by
          iterate 8 (refine At.setB ?_ (by dsimp only; omega) _)
          exact hst.b
        have S8 : Rd8 w.heap.size q.vals nb nx.vals ((((((((x2.setCell ⟨ga, 0, none⟩ (.string r.p.n)).setCell ⟨ga, 1, none⟩ (.int .i64 r.p.a)).setCell ⟨ga, 2, none⟩ (.int .i64 r.p.b)).setCell ⟨ga, 3, none⟩ (.int .i64 r.p.e)).setCell ⟨ga, 4, none⟩ (.int .i64 r.p.u)).setCell ⟨ga, 5, none⟩ (.int .i64 r.b)).setCell ⟨ga, 6, none⟩ (.int .i64 r.x)).setCell ⟨ga, 7, none⟩ (.int .i64 r.y)) := ⟨SA, SB⟩
        have B8 : BentP _ _ _ _ _ _ _ _ _ _ _ _ := ⟨R, X⟩
        have B9 := (((((((B8.put 0 (.string r.p.n) (by omega) (by omega) (by omega)).put 1 (.int .i64 r.p.a) (by omega) (by omega) (by omega)).put 2 (.int .i64 r.p.b) (by omega) (by omega) (by omega)).put 3 (.int .i64 r.p.e) (by omega) (by omega) (by omega)).put 4 (.int .i64 r.p.u) (by omega) (by omega) (by omega)).put 5 (.int .i64 r.b) (by omega) (by omega) (by omega)).put 6 (.int .i64 r.x) (by omega) (by omega) (by omega)).put 7 (.int .i64 r.y) (by omega) (by omega) (by omega)
        have H9 := Lib.hid B9
        clear B8 B9 X R SA SB
        refine line_alone rfl (by kernel_rfl) (fun K hK => ?_)
        go_big_op
        refine hK _ _ (S8) ?_
        clear hK K
        refine line_nil ?_
        clear hst S8 h0 h1 h2 h3 h4 h5 h6 h7 f0 f1 f2 f3 f4 f5 f6 f7
        go_wp2_with fail
        go_meet
        case rel => exact ⟨_, r, _, rfl, hrn, by omega, by omega, H9.out⟩
    case rest =>
      obtain ⟨gb, r, pr, rfl, hrs, hpr, hgb, B6⟩ := hcut
      clear A5 X5 R5
      go_wp2_with fail
      refine (dnext 10 B6.drw.draw (by omega)).mono ?_
      rintro e w7 ⟨sw, t0, t1, rfl, D7, O7⟩
      have B7 := B6.only O7 D7 (by omega) (by omega)
      clear B6 D7 O7 t1
      by_cases e0 : sw = 0
      · subst e0
        go_wp2_with fail
        refine (dl7Public B7.drw.draw (by omega)).mono ?_
        rintro e w8 ⟨y, hy, rfl, D8, g8⟩
        have B8 := B7.kept g8 D8 (by omega) (by omega)
        have B9 := B8.put 5 (.int .i64 y) (by omega) (by omega) (by omega)
        clear B7 D8 g8 hy
        have q0 := B8.drw.res.cell 0 _ rfl
        have q1 := B8.drw.res.cell 1 _ rfl
        have q2 := B8.drw.res.cell 2 _ rfl
        have q3 := B8.drw.res.cell 3 _ rfl
        have q4 := B8.drw.res.cell 4 _ rfl
        have q5 := B8.drw.res.cell 5 _ rfl
        have q6 := B8.drw.res.cell 6 _ rfl
        have q7 := B8.drw.res.cell 7 _ rfl
        have z0 := B8.drw.res.free 0 _ rfl
        have z1 := B8.drw.res.free 1 _ rfl
        have z2 := B8.drw.res.free 2 _ rfl
        have z3 := B8.drw.res.free 3 _ rfl
        have z4 := B8.drw.res.free 4 _ rfl
        have z5 := B8.drw.res.free 5 _ rfl
        have z6 := B8.drw.res.free 6 _ rfl
        have z7 := B8.drw.res.free 7 _ rfl
        have x0 := B8.one.cell 0 _ rfl
        have x1 := B8.one.cell 1 _ rfl
        have x2 := B8.one.cell 2 _ rfl
        have x3 := B8.one.cell 3 _ rfl
        have x4 := B8.one.cell 4 _ rfl
        have x5 := B8.one.cell 5 _ rfl
        have x6 := B8.one.cell 6 _ rfl
        have x7 := B8.one.cell 7 _ rfl
        have f0 := B8.one.free 0 _ rfl
        have f1 := B8.one.free 1 _ rfl
        have f2 := B8.one.free 2 _ rfl
        have f3 := B8.one.free 3 _ rfl
        have f4 := B8.one.free 4 _ rfl
        have f5 := B8.one.free 5 _ rfl
        have f6 := B8.one.free 6 _ rfl
        have f7 := B8.one.free 7 _ rfl
        have HB := Lib.hid B9
        clear B8 B9
        go_wp2_with fail
        refine bodyPost_ret (v := R8 ⟨r.p, y, r.x, r.y⟩) (by simp [results, Tryz.results75, go_sem, q0, q1, q2, q3, q4, q5, q6, q7]) rfl ?_
        refine ⟨⟨r.p, y, r.x, r.y⟩, pr + 1 + 1, hrs, by omega, rfl, ?hd, ?hg⟩
        case hd =>
          iterate 8 (refine Draw.put ?_ (by dsimp only; omega) _)
          exact HB.out.drw.draw
        case hg =>
          iterate 8 (refine gset ?_ (by dsimp only; omega) _)
          exact HB.out.drw.grew
      by_cases e1 : sw = 1
      · subst e1
        go_wp2_with fail
        refine (dpick [1, 2, 3, 201] 4 B7.drw.draw (by omega) (by omega) (by omega) rfl 2).mono ?_
        rintro e w8 ⟨y, hy, rfl, D8, O8⟩
        have B8 := (B7.alloc (.cells #[.int .i64 1, .int .i64 2, .int .i64 3, .int .i64 201] 2)).only O8 D8 (by omega) (by omega)
        have B9 := B8.put 3 (.int .i64 y) (by omega) (by omega) (by omega)
        clear B7 D8 O8 hy
        have q0 := B8.drw.res.cell 0 _ rfl
        have q1 := B8.drw.res.cell 1 _ rfl
        have q2 := B8.drw.res.cell 2 _ rfl
        have q3 := B8.drw.res.cell 3 _ rfl
        have q4 := B8.drw.res.cell 4 _ rfl
        have q5 := B8.drw.res.cell 5 _ rfl
        have q6 := B8.drw.res.cell 6 _ rfl
        have q7 := B8.drw.res.cell 7 _ rfl
        have z0 := B8.drw.res.free 0 _ rfl
        have z1 := B8.drw.res.free 1 _ rfl
        have z2 := B8.drw.res.free 2 _ rfl
        have z3 := B8.drw.res.free 3 _ rfl
        have z4 := B8.drw.res.free 4 _ rfl
        have z5 := B8.drw.res.free 5 _ rfl
        have z6 := B8.drw.res.free 6 _ rfl
        have z7 := B8.drw.res.free 7 _ rfl
        have x0 := B8.one.cell 0 _ rfl
        have x1 := B8.one.cell 1 _ rfl
        have x2 := B8.one.cell 2 _ rfl
        have x3 := B8.one.cell 3 _ rfl
        have x4 := B8.one.cell 4 _ rfl
        have x5 := B8.one.cell 5 _ rfl
        have x6 := B8.one.cell 6 _ rfl
        have x7 := B8.one.cell 7 _ rfl
        have f0 := B8.one.free 0 _ rfl
        have f1 := B8.one.free 1 _ rfl
        have f2 := B8.one.free 2 _ rfl
        have f3 := B8.one.free 3 _ rfl
        have f4 := B8.one.free 4 _ rfl
        have f5 := B8.one.free 5 _ rfl
        have f6 := B8.one.free 6 _ rfl
        have f7 := B8.one.free 7 _ rfl
        have HB := Lib.hid B9
        clear B8 B9
        go_wp2_with fail
        refine bodyPost_ret (v := R8 ⟨⟨r.p.n, r.p.a, r.p.b, y, r.p.u⟩, r.b, r.x, r.y⟩) (by simp [results, Tryz.results75, go_sem, q0, q1, q2, q3, q4, q5, q6, q7]) rfl ?_
        refine ⟨⟨⟨r.p.n, r.p.a, r.p.b, y, r.p.u⟩, r.b, r.x, r.y⟩, pr + 1 + 1, hrs, by omega, rfl, ?hd, ?hg⟩
        case hd =>
          iterate 8 (refine Draw.put ?_ (by dsimp only; omega) _)
          exact HB.out.drw.draw
        case hg =>
          iterate 8 (refine gset ?_ (by dsimp only; omega) _)
          exact HB.out.drw.grew
      by_cases e2 : sw = 2
      · subst e2
        go_wp2_with fail
        refine (dpick [0, 1439] 2 B7.drw.draw (by omega) (by omega) (by omega) rfl 2).mono ?_
        rintro e w8 ⟨y, hy, rfl, D8, O8⟩
        have B8 := (B7.alloc (.cells #[.int .i64 0, .int .i64 1439] 2)).only O8 D8 (by omega) (by omega)
        have B9 := B8.put 7 (.int .i64 y) (by omega) (by omega) (by omega)
        clear B7 D8 O8 hy
        have q0 := B8.drw.res.cell 0 _ rfl
        have q1 := B8.drw.res.cell 1 _ rfl
        have q2 := B8.drw.res.cell 2 _ rfl
        have q3 := B8.drw.res.cell 3 _ rfl
        have q4 := B8.drw.res.cell 4 _ rfl
        have q5 := B8.drw.res.cell 5 _ rfl
        have q6 := B8.drw.res.cell 6 _ rfl
        have q7 := B8.drw.res.cell 7 _ rfl
        have z0 := B8.drw.res.free 0 _ rfl
        have z1 := B8.drw.res.free 1 _ rfl
        have z2 := B8.drw.res.free 2 _ rfl
        have z3 := B8.drw.res.free 3 _ rfl
        have z4 := B8.drw.res.free 4 _ rfl
        have z5 := B8.drw.res.free 5 _ rfl
        have z6 := B8.drw.res.free 6 _ rfl
        have z7 := B8.drw.res.free 7 _ rfl
        have x0 := B8.one.cell 0 _ rfl
        have x1 := B8.one.cell 1 _ rfl
        have x2 := B8.one.cell 2 _ rfl
        have x3 := B8.one.cell 3 _ rfl
        have x4 := B8.one.cell 4 _ rfl
        have x5 := B8.one.cell 5 _ rfl
        have x6 := B8.one.cell 6 _ rfl
        have x7 := B8.one.cell 7 _ rfl
        have f0 := B8.one.free 0 _ rfl
        have f1 := B8.one.free 1 _ rfl
        have f2 := B8.one.free 2 _ rfl
        have f3 := B8.one.free 3 _ rfl
        have f4 := B8.one.free 4 _ rfl
        have f5 := B8.one.free 5 _ rfl
        have f6 := B8.one.free 6 _ rfl
        have f7 := B8.one.free 7 _ rfl
        have HB := Lib.hid B9
        clear B8 B9
        go_wp2_with fail
        refine bodyPost_ret (v := R8 ⟨r.p, r.b, r.x, y⟩) (by simp [results, Tryz.results75, go_sem, q0, q1, q2, q3, q4, q5, q6, q7]) rfl ?_
        refine ⟨⟨r.p, r.b, r.x, y⟩, pr + 1 + 1, hrs, by omega, rfl, ?hd, ?hg⟩
        case hd =>
          iterate 8 (refine Draw.put ?_ (by dsimp only; omega) _)
          exact HB.out.drw.draw
        case hg =>
          iterate 8 (refine gset ?_ (by dsimp only; omega) _)
          exact HB.out.drw.grew
      by_cases e3 : sw = 3
      · subst e3
        have B9 := B7.put 4 (.int .i64 60) (by omega) (by omega) (by omega)
        have q0 := B7.drw.res.cell 0 _ rfl
        have q1 := B7.drw.res.cell 1 _ rfl
        have q2 := B7.drw.res.cell 2 _ rfl
        have q3 := B7.drw.res.cell 3 _ rfl
        have q4 := B7.drw.res.cell 4 _ rfl
        have q5 := B7.drw.res.cell 5 _ rfl
        have q6 := B7.drw.res.cell 6 _ rfl
        have q7 := B7.drw.res.cell 7 _ rfl
        have z0 := B7.drw.res.free 0 _ rfl
        have z1 := B7.drw.res.free 1 _ rfl
        have z2 := B7.drw.res.free 2 _ rfl
        have z3 := B7.drw.res.free 3 _ rfl
        have z4 := B7.drw.res.free 4 _ rfl
        have z5 := B7.drw.res.free 5 _ rfl
        have z6 := B7.drw.res.free 6 _ rfl
        have z7 := B7.drw.res.free 7 _ rfl
        have x0 := B7.one.cell 0 _ rfl
        have x1 := B7.one.cell 1 _ rfl
        have x2 := B7.one.cell 2 _ rfl
        have x3 := B7.one.cell 3 _ rfl
        have x4 := B7.one.cell 4 _ rfl
        have x5 := B7.one.cell 5 _ rfl
        have x6 := B7.one.cell 6 _ rfl
        have x7 := B7.one.cell 7 _ rfl
        have f0 := B7.one.free 0 _ rfl
        have f1 := B7.one.free 1 _ rfl
        have f2 := B7.one.free 2 _ rfl
        have f3 := B7.one.free 3 _ rfl
        have f4 := B7.one.free 4 _ rfl
        have f5 := B7.one.free 5 _ rfl
        have f6 := B7.one.free 6 _ rfl
        have f7 := B7.one.free 7 _ rfl
        have HB := Lib.hid B9
        clear B7 B9
        go_wp2_with fail
        refine bodyPost_ret (v := R8 ⟨⟨r.p.n, r.p.a, r.p.b, r.p.e, 60⟩, r.b, r.x, r.y⟩) (by simp [results, Tryz.results75, go_sem, q0, q1, q2, q3, q4, q5, q6, q7]) rfl ?_
        refine ⟨⟨⟨r.p.n, r.p.a, r.p.b, r.p.e, 60⟩, r.b, r.x, r.y⟩, pr + 1, hrs, by omega, rfl, ?hd, ?hg⟩
        case hd =>
          iterate 8 (refine Draw.put ?_ (by dsimp only; omega) _)
          exact HB.out.drw.draw
        case hg =>
          iterate 8 (refine gset ?_ (by dsimp only; omega) _)
          exact HB.out.drw.grew
      · have n0 : (sw == 0) = false := by rw [beq_eq_false_iff_ne]; exact e0
        have n1 : (sw == 1) = false := by rw [beq_eq_false_iff_ne]; exact e1
        have n2 : (sw == 2) = false := by rw [beq_eq_false_iff_ne]; exact e2
        have n3 : (sw == 3) = false := by rw [beq_eq_false_iff_ne]; exact e3
        have B9 := B7
        have q0 := B7.drw.res.cell 0 _ rfl
        have q1 := B7.drw.res.cell 1 _ rfl
        have q2 := B7.drw.res.cell 2 _ rfl
        have q3 := B7.drw.res.cell 3 _ rfl
        have q4 := B7.drw.res.cell 4 _ rfl
        have q5 := B7.drw.res.cell 5 _ rfl
        have q6 := B7.drw.res.cell 6 _ rfl
        have q7 := B7.drw.res.cell 7 _ rfl
        have z0 := B7.drw.res.free 0 _ rfl
        have z1 := B7.drw.res.free 1 _ rfl
        have z2 := B7.drw.res.free 2 _ rfl
        have z3 := B7.drw.res.free 3 _ rfl
        have z4 := B7.drw.res.free 4 _ rfl
        have z5 := B7.drw.res.free 5 _ rfl
        have z6 := B7.drw.res.free 6 _ rfl
        have z7 := B7.drw.res.free 7 _ rfl
        have x0 := B7.one.cell 0 _ rfl
        have x1 := B7.one.cell 1 _ rfl
        have x2 := B7.one.cell 2 _ rfl
        have x3 := B7.one.cell 3 _ rfl
        have x4 := B7.one.cell 4 _ rfl
        have x5 := B7.one.cell 5 _ rfl
        have x6 := B7.one.cell 6 _ rfl
        have x7 := B7.one.cell 7 _ rfl
        have f0 := B7.one.free 0 _ rfl
        have f1 := B7.one.free 1 _ rfl
        have f2 := B7.one.free 2 _ rfl
        have f3 := B7.one.free 3 _ rfl
        have f4 := B7.one.free 4 _ rfl
        have f5 := B7.one.free 5 _ rfl
        have f6 := B7.one.free 6 _ rfl
        have f7 := B7.one.free 7 _ rfl
        have HB := Lib.hid B9
        clear B7 B9
        go_wp2_with fail
        refine bodyPost_ret (v := R8 r) (by simp [results, Tryz.results75, go_sem, q0, q1, q2, q3, q4, q5, q6, q7]) rfl ?_
        refine ⟨r, pr + 1, hrs, by omega, rfl, ?hd, ?hg⟩
        case hd =>
          iterate 8 (refine Draw.put ?_ (by dsimp only; omega) _)
          exact HB.out.drw.draw
        case hg =>
          iterate 8 (refine gset ?_ (by dsimp only; omega) _)
          exact HB.out.drw.grew
end Go.Proofs.YtcolecidbalmhaaGreatDoor
namespace Go.Proofs.YtcolecidbalmhaaGreatDoor
open Go.RowKit
set_option linter.unusedVariables false

/-- A disk: records, how many are safe. -/
structure DiskD where
  rs : List (List Int)
  s : Int
/-- A store: pins, a disk. -/
structure StoreD where
  ps : List PinD
  d : DiskD
def disk0 : DiskD := ⟨[], 0⟩
def store0 : StoreD := ⟨[], disk0⟩
def longR (zs : List Int) : Bool := decide (40 < zs.length)
/-- What is wrong with a disk. -/
def diskF (d : DiskD) : Int := if 12 < d.rs.length then 2 else if d.rs.any longR then 2 else if 0 ≤ d.s ∧ d.s ≤ d.rs.length then 0 else 3
theorem diskF_many {d : DiskD} (h : 12 < d.rs.length) : diskF d = 2 := by unfold diskF; rw [if_pos h]
theorem diskF_long {d : DiskD} (h : ¬ 12 < d.rs.length) (h1 : d.rs.any longR = true) : diskF d = 2 := by unfold diskF; rw [if_neg h, if_pos h1]
theorem diskF_safe {d : DiskD} (h : ¬ 12 < d.rs.length) (h1 : d.rs.any longR = false) (h2 : ¬ (0 ≤ d.s ∧ d.s ≤ d.rs.length)) : diskF d = 3 := by unfold diskF; rw [if_neg h, if_neg (by rw [h1]; simp), if_neg h2]
theorem diskF_yes {d : DiskD} (h : ¬ 12 < d.rs.length) (h1 : d.rs.any longR = false) (h2 : 0 ≤ d.s ∧ d.s ≤ d.rs.length) : diskF d = 0 := by unfold diskF; rw [if_neg h, if_neg (by rw [h1]; simp), if_pos h2]
theorem diskF_zero {d : DiskD} (h : diskF d = 0) : d.rs.length ≤ 12 ∧ d.rs.any longR = false ∧ 0 ≤ d.s ∧ d.s ≤ d.rs.length := by
  by_cases h1 : 12 < d.rs.length
  · rw [diskF_many h1] at h; cases h
  · cases h2 : d.rs.any longR
    · by_cases h3 : 0 ≤ d.s ∧ d.s ≤ d.rs.length
      · exact ⟨by omega, rfl, h3.1, h3.2⟩
      · rw [diskF_safe h1 h2 h3] at h; cases h
    · rw [diskF_long h1 h2] at h; cases h
theorem long_of {rs : List (List Int)} (h : rs.any longR = false) : ∀ r ∈ rs, r.length ≤ 40 := by
  intro r hr
  have := List.any_eq_false.1 h r hr
  simp only [longR, decide_eq_true_eq] at this
  omega
end Go.Proofs.YtcolecidbalmhaaGreatDoor
