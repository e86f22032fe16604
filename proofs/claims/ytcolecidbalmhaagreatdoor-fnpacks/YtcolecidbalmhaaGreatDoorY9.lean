/- Texts of this seat that several laws rest on, laid into one. Conditions: as each theorem states. -/
import Derived.Test.YtcolecidbalmhaaGreatDoorY5
import Derived.Test.YtcolecidbalmhaaGreatDoorY7
import Derived.Test.YtcolecidbalmhaaGreatDoorY8
namespace Go.Proofs.YtcolecidbalmhaaGreatDoor
open Go.RowKit
set_option maxRecDepth 100000
set_option linter.unusedVariables false

def liveB (p : PinD) (t : Int) : Bool := decide (p.f = 0) && timB t && decide (t ≤ p.u)
theorem l7Live_any (g : Nat) (p : PinD) (t : Int) (w : World) (A : At g p.vals w) : Calls Tryz.prog 226 #[.pointer (some ⟨g, 0, none⟩), .int .i64 t] w fun e w' => e = .returned (.bool (decide (t ≤ p.u))) ∧ Below w.heap.size w w' := by
  have c4 := A.cell 4 _ rfl
  go_enter Tryz.func226, Tryz.ntmps226
  go_wp2_with fail
  go_ret
  exact ⟨rfl, Below.refl _ _⟩
end Go.Proofs.YtcolecidbalmhaaGreatDoor
namespace Go.Proofs.YtcolecidbalmhaaGreatDoor
open Go.RowKit
set_option maxRecDepth 100000
set_option linter.unusedVariables false

theorem At.pin {g : Nat} {r : RollD} {w : World} (A : At g r.vals w) : At g r.p.vals w := by
  have e : r.vals = r.p.vals ++ [.int .i64 r.b, .int .i64 r.x, .int .i64 r.y] := rfl
  have k : ∀ i v, r.p.vals[i]? = some v → r.vals[i]? = some v := fun i v h => by
    rw [e, List.getElem?_append_left (List.getElem?_eq_some_iff.1 h).1]
    exact h
  exact ⟨fun i v h => A.cell i v (k i v h), fun i v h => A.free i v (k i v h)⟩
theorem l8Fault_any (g : Nat) (r : RollD) (w : World) (A : At g r.vals w) (hn : r.p.n.size ≤ maxLen) :
    Calls Tryz.prog 149 #[.pointer (some ⟨g, 0, none⟩)] w fun e w' => e = .returned (.int .i64 r.f) ∧ Below w.heap.size w w' := by
  have F := fun w (A : At g r.p.vals w) => l7Fault_any g r.p w A hn
  by_cases h0 : r.p.f = 0
  · rw [h0] at F
    cases h1 : pubB r.b
    · rw [rollF_by h0 h1]
      go_enter Tryz.func149, Tryz.ntmps149
      go_wp2_with fail
      refine (F _ A.pin).mono ?_
      rintro e u1 ⟨rfl, b1⟩
      have c5 := (A.on b1).cell 5 _ rfl
      have c6 := (A.on b1).cell 6 _ rfl
      have c7 := (A.on b1).cell 7 _ rfl
      clear F
      go_wp2_with fail
      refine (l1Public_any _ _).mono ?_
      rintro r w' ⟨rfl, rfl⟩
      go_wp2_with fail
      go_ret
      exact ⟨rfl, b1⟩
    · rw [rollF_sig h0 h1]
      have S := fun w c6 c7 => l3Fault_at g 6 r.x r.y w c6 c7
      generalize M.sigF r.x r.y = c at *
      go_enter Tryz.func149, Tryz.ntmps149
      go_wp2_with fail
      refine (F _ A.pin).mono ?_
      rintro e u1 ⟨rfl, b1⟩
      have c5 := (A.on b1).cell 5 _ rfl
      have c6 := (A.on b1).cell 6 _ rfl
      have c7 := (A.on b1).cell 7 _ rfl
      clear F
      go_wp2_with fail
      refine (l1Public_any _ _).mono ?_
      rintro r w' ⟨rfl, rfl⟩
      go_wp2_with fail
      refine (S _ c6 c7).mono ?_
      rintro r w' ⟨rfl, rfl⟩
      go_wp2_with fail
      go_ret
      exact ⟨rfl, b1⟩
  · rw [rollF_pin h0]
    generalize r.p.f = c at *
    have q0 : (c == 0) = false := by simpa using h0
    go_enter Tryz.func149, Tryz.ntmps149
    go_wp2_with fail
    refine (F _ A.pin).mono ?_
    rintro e u1 ⟨rfl, b1⟩
    have c5 := (A.on b1).cell 5 _ rfl
    have c6 := (A.on b1).cell 6 _ rfl
    have c7 := (A.on b1).cell 7 _ rfl
    clear F
    go_wp2_with fail
    go_ret
    exact ⟨rfl, b1⟩
theorem l8Sum_any (g : Nat) (p : PinD) (w : World) (A : At g p.vals w) (h : p.f = 0) :
    Calls Tryz.prog 200 #[.pointer (some ⟨g, 0, none⟩)] w fun e w' => e = .returned (.int .i64 (rsum p)) ∧ Below w.heap.size w w' := by
  have hw := fun z hz => byte_wf (packP_byte h z hz)
  have P := fun w A => l7Pack_any g p w A h
  unfold rsum
  have hs := M.sumL_bd (packP p)
  have hB : M.sumB (M.sumL (packP p)) = true := by simp only [M.sumB, decide_eq_true_eq]; omega
  clear h
  generalize packP p = zs at *
  have S := fun a n c B w R => l2Sum_any a n c B zs w R
  generalize M.sumL zs = x at *
  have R1 := fun w => row_one0 (w := w) x 2 hB
  have HA := Lib.hid (show [x].all M.sumB = true by simp [hB])
  have T := fun w => l2Tag_any M.rollS _ _ _ _ _ _ (by decide) (R1 w) (by simp) HA.out (by omega)
  clear hs hB R1
  generalize M.tagL M.rollS [x] = y at *
  go_enter Tryz.func200, Tryz.ntmps200
  go_wp2_with fail
  refine (P _ A).mono ?_
  rintro r u1 ⟨a, n, c, rfl, O1, b1⟩
  have R1 := Own.row O1 hw
  clear O1 P
  go_wp2_with fail
  refine (S _ _ _ _ _ R1).mono ?_
  rintro r u2 ⟨rfl, rfl⟩
  clear R1 S
  go_wp2_with fail
  refine (T _).mono ?_
  rintro r u2 ⟨rfl, b2⟩
  have hb := btr b1 (btr (bal (Below.refl _ _) _) b2)
  clear b1 b2 T
  go_wp2_with fail
  go_ret
  exact ⟨rfl, hb⟩
set_option maxHeartbeats 2000000 in
theorem l8Check_any (g k : Nat) (o : PinD) (r : RollD) (t : Int) (w : World) (A : At g o.vals w) (Q : At k r.vals w) (ho : o.f = 0) (hr : r.f = 0) :
    Calls Tryz.prog 207 #[.pointer (some ⟨g, 0, none⟩), .pointer (some ⟨k, 0, none⟩), .int .i64 t] w fun e w' => e = .returned (.int .i64 (chk o r t)) ∧ Below w.heap.size w w' := by
  obtain ⟨-, -, -, ⟨he0, he1⟩, -⟩ := pin_bounds ho
  have TQ : (r.p.n.toList == o.n.toList) = decide (r.p.nm = o.nm) := text_beq r.p.n o.n
  have a0 := A.cell 0 _ rfl
  have c0 := Q.cell 0 _ rfl
  obtain ⟨hp, -, -⟩ := rollF_zero hr
  have L := fun g w A => l7Live_any g o t w A
  have S := fun w (Q : At k r.vals w) => l8Sum_any k r.p w Q.pin hp
  have C := fun w (Q : At k r.vals w) => l3Check_at r.b (rsum r.p) k 6 r.x r.y w (Q.cell 6 _ rfl) (Q.cell 7 _ rfl)
  clear ho hr hp
  by_cases h1 : r.p.nm = o.nm
  · rw [decide_eq_true h1] at TQ
    by_cases h2 : r.p.e = o.e + 1
    · have E2 : (r.p.e == o.e + 1) = true := by simpa using h2
      have N2 : (r.p.e != o.e + 1) = false := by simp [h2]
      by_cases h3 : r.b = o.a
      · have E3 : (r.b == o.a) = true := by simpa using h3
        have N3 : (r.b != o.a) = false := by simp [h3]
        have D3 : decide (r.b = o.a) = true := by simp [h3]
        have W3 := Lib.hid h3
        clear h3
        by_cases hu : t ≤ o.u
        · cases hc : M.checkB r.b (rsum r.p) r.x r.y
          · rw [chk_sign h1 h2 (.inl W3.out) hu hc]
            rw [hc] at C
            rw [decide_eq_true hu] at L
            generalize rsum r.p = x at *
            clear h1 h2 hu hc
            go_enter Tryz.func207, Tryz.ntmps207
            go_wp2_with fail
            refine wp_region_line (Bel w) [(0, true), (1, true), (2, true), (3, true), (4, true), (5, true), (6, true), (7, true), (8, true), (9, true), (10, true)] (by kernel_rfl) (by kernel_rfl) (fun _ _ d _ _ h => by cases d <;> exact h) (Bel.drew w) ?_
            have hst := Bel.drew w
            have inst : Nonempty (Of (Bel w)) := ⟨⟨_, hst⟩⟩
            have q0 := bel_cell a0
            have y0 := bel_cell c0
            iterate 11 (refine line_read rfl (by kernel_rfl) (fun K hK => ?_); go_big_quiet_op; refine hK _ ?_; clear hK K)
            refine line_nil ?_
            have b1 := hst.out
            have A1 := A.on b1
            have Q1 := Q.on b1
            clear hst inst q0 y0 a0 c0 A Q
            generalize w.drew = V1 at *
            have a3 := A1.cell 3 _ rfl
            have c3 := Q1.cell 3 _ rfl
            go_wp2_with fail
            refine wp_region_line (Bel V1) [(0, true), (1, true), (2, true), (3, true), (4, true), (5, true), (6, true), (7, true), (8, true), (9, true), (10, true), (11, true)] (by kernel_rfl) (by kernel_rfl) (fun _ _ d _ _ h => by cases d <;> exact h) (Bel.drew V1) ?_
            have hst := Bel.drew V1
            have inst : Nonempty (Of (Bel V1)) := ⟨⟨_, hst⟩⟩
            have q3 := bel_cell a3
            have y3 := bel_cell c3
            iterate 12 (refine line_read rfl (by kernel_rfl) (fun K hK => ?_); go_big_quiet_op; refine hK _ ?_; clear hK K)
            refine line_nil ?_
            have b3 := btr b1 hst.out
            have A3 := A1.on hst.out
            have Q3 := Q1.on hst.out
            clear hst inst q3 y3 a3 c3 A1 Q1 b1
            generalize V1.drew = V3 at *
            have a1 := A3.cell 1 _ rfl
            have a2 := A3.cell 2 _ rfl
            have c5 := Q3.cell 5 _ rfl
            go_wp2_with fail
            refine wp_region_line (Bel V3) [(0, true), (1, true), (2, true), (3, true), (4, true), (5, true), (6, true), (7, true), (8, true), (9, true), (10, true), (11, true), (12, true), (13, true), (14, true), (15, true), (16, true), (17, true), (18, true), (19, true), (20, true)] (by kernel_rfl) (by kernel_rfl) (fun _ _ d _ _ h => by cases d <;> exact h) (Bel.drew V3) ?_
            have hst := Bel.drew V3
            have inst : Nonempty (Of (Bel V3)) := ⟨⟨_, hst⟩⟩
            have q1 := bel_cell a1
            have q2 := bel_cell a2
            have y5 := bel_cell c5
            iterate 10 (refine line_read rfl (by kernel_rfl) (fun K hK => ?_); go_big_quiet_op; refine hK _ ?_; clear hK K)
            iterate 9 (refine line_skip rfl (by kernel_rfl) ?_; simp only [Act.put, List.setIfInBounds_toArray, List.set_cons_zero, List.set_cons_succ])
            iterate 2 (refine line_read rfl (by kernel_rfl) (fun K hK => ?_); go_big_quiet_op; refine hK _ ?_; clear hK K)
            refine line_nil ?_
            have b5 := btr b3 hst.out
            have A5 := A3.on hst.out
            have Q5 := Q3.on hst.out
            clear hst inst q1 q2 y5 a1 a2 c5 A3 Q3 b3
            generalize V3.drew = V5 at *
            go_wp2_with fail
            refine (L _ _ A5).mono ?_
            rintro e V7 ⟨rfl, b7⟩
            have B7 := btr b5 b7
            have Q7 := Q5.on b7
            clear b5 b7 A5 Q5 L
            have c5 := Q7.cell 5 _ rfl
            go_wp2_with fail
            refine wp_region_line (Bel V7) [(0, true), (1, true), (2, true), (3, true), (4, true), (5, true), (6, true), (8, true), (9, true), (10, true), (7, false), (11, false), (12, true), (13, true)] (by kernel_rfl) (by kernel_rfl) (fun _ _ d _ _ h => by cases d <;> exact h) (Bel.drew V7) ?_
            have hst := Bel.drew V7
            have inst : Nonempty (Of (Bel V7)) := ⟨⟨_, hst⟩⟩
            have y5 := bel_cell c5
            have QP := Q7.on hst.out
            generalize V7.drew = X at *
            iterate 10 (refine line_read rfl (by kernel_rfl) (fun K hK => ?_); go_big_quiet_op; refine hK _ ?_; clear hK K)
            refine line_alone rfl (by kernel_rfl) (fun K hK => ?_)
            refine call_wp (args := #[.pointer (some ⟨k, 0, none⟩)]) rfl (by kernel_rfl) (by kernel_rfl) (S _ (Q7.on hst.out)) (fun wn hbn => ?_)
            have hst2 := hst.on hbn
            refine hK _ _ hst2 ?_
            clear hK K hst hbn
            have hst := hst2
            clear hst2
            simp only [Act.put, List.setIfInBounds_toArray, List.set_cons_zero, List.set_cons_succ]
            refine line_alone rfl (by kernel_rfl) (fun K hK => ?_)
            refine call_wp (args := #[.int .i64 r.b, .int .i64 x, .pointer (some ⟨k, 6, none⟩)]) rfl (by kernel_rfl) (by kernel_rfl) (C _ (Q7.on hst.out)) (fun wn hbn => ?_)
            have hst2 := hst.on hbn
            refine hK _ _ hst2 ?_
            clear hK K hst hbn
            have hst := hst2
            clear hst2
            simp only [Act.put, List.setIfInBounds_toArray, List.set_cons_zero, List.set_cons_succ]
            iterate 2 (refine line_read rfl (by kernel_rfl) (fun K hK => ?_); go_big_quiet_op; refine hK _ ?_; clear hK K)
            refine line_nil ?_
            have hb := btr B7 hst.out
            clear hst inst y5 c5 Q7 B7 S C QP
            go_wp2_with fail
            go_ret
            exact ⟨rfl, hb⟩
          · rw [chk_yes h1 h2 (.inl W3.out) hu hc]
            rw [hc] at C
            rw [decide_eq_true hu] at L
            generalize rsum r.p = x at *
            clear h1 h2 hu hc
            go_enter Tryz.func207, Tryz.ntmps207
            go_wp2_with fail
            refine wp_region_line (Bel w) [(0, true), (1, true), (2, true), (3, true), (4, true), (5, true), (6, true), (7, true), (8, true), (9, true), (10, true)] (by kernel_rfl) (by kernel_rfl) (fun _ _ d _ _ h => by cases d <;> exact h) (Bel.drew w) ?_
            have hst := Bel.drew w
            have inst : Nonempty (Of (Bel w)) := ⟨⟨_, hst⟩⟩
            have q0 := bel_cell a0
            have y0 := bel_cell c0
            iterate 11 (refine line_read rfl (by kernel_rfl) (fun K hK => ?_); go_big_quiet_op; refine hK _ ?_; clear hK K)
            refine line_nil ?_
            have b1 := hst.out
            have A1 := A.on b1
            have Q1 := Q.on b1
            clear hst inst q0 y0 a0 c0 A Q
            generalize w.drew = V1 at *
            have a3 := A1.cell 3 _ rfl
            have c3 := Q1.cell 3 _ rfl
            go_wp2_with fail
            refine wp_region_line (Bel V1) [(0, true), (1, true), (2, true), (3, true), (4, true), (5, true), (6, true), (7, true), (8, true), (9, true), (10, true), (11, true)] (by kernel_rfl) (by kernel_rfl) (fun _ _ d _ _ h => by cases d <;> exact h) (Bel.drew V1) ?_
            have hst := Bel.drew V1
            have inst : Nonempty (Of (Bel V1)) := ⟨⟨_, hst⟩⟩
            have q3 := bel_cell a3
            have y3 := bel_cell c3
            iterate 12 (refine line_read rfl (by kernel_rfl) (fun K hK => ?_); go_big_quiet_op; refine hK _ ?_; clear hK K)
            refine line_nil ?_
            have b3 := btr b1 hst.out
            have A3 := A1.on hst.out
            have Q3 := Q1.on hst.out
            clear hst inst q3 y3 a3 c3 A1 Q1 b1
            generalize V1.drew = V3 at *
            have a1 := A3.cell 1 _ rfl
            have a2 := A3.cell 2 _ rfl
            have c5 := Q3.cell 5 _ rfl
            go_wp2_with fail
            refine wp_region_line (Bel V3) [(0, true), (1, true), (2, true), (3, true), (4, true), (5, true), (6, true), (7, true), (8, true), (9, true), (10, true), (11, true), (12, true), (13, true), (14, true), (15, true), (16, true), (17, true), (18, true), (19, true), (20, true)] (by kernel_rfl) (by kernel_rfl) (fun _ _ d _ _ h => by cases d <;> exact h) (Bel.drew V3) ?_
            have hst := Bel.drew V3
            have inst : Nonempty (Of (Bel V3)) := ⟨⟨_, hst⟩⟩
            have q1 := bel_cell a1
            have q2 := bel_cell a2
            have y5 := bel_cell c5
            iterate 10 (refine line_read rfl (by kernel_rfl) (fun K hK => ?_); go_big_quiet_op; refine hK _ ?_; clear hK K)
            iterate 9 (refine line_skip rfl (by kernel_rfl) ?_; simp only [Act.put, List.setIfInBounds_toArray, List.set_cons_zero, List.set_cons_succ])
            iterate 2 (refine line_read rfl (by kernel_rfl) (fun K hK => ?_); go_big_quiet_op; refine hK _ ?_; clear hK K)
            refine line_nil ?_
            have b5 := btr b3 hst.out
            have A5 := A3.on hst.out
            have Q5 := Q3.on hst.out
            clear hst inst q1 q2 y5 a1 a2 c5 A3 Q3 b3
            generalize V3.drew = V5 at *
            go_wp2_with fail
            refine (L _ _ A5).mono ?_
            rintro e V7 ⟨rfl, b7⟩
            have B7 := btr b5 b7
            have Q7 := Q5.on b7
            clear b5 b7 A5 Q5 L
            have c5 := Q7.cell 5 _ rfl
            go_wp2_with fail
            refine wp_region_line (Bel V7) [(0, true), (1, true), (2, true), (3, true), (4, true), (5, true), (6, true), (8, true), (9, true), (10, true), (7, false), (11, false), (12, true), (13, true)] (by kernel_rfl) (by kernel_rfl) (fun _ _ d _ _ h => by cases d <;> exact h) (Bel.drew V7) ?_
            have hst := Bel.drew V7
            have inst : Nonempty (Of (Bel V7)) := ⟨⟨_, hst⟩⟩
            have y5 := bel_cell c5
            have QP := Q7.on hst.out
            generalize V7.drew = X at *
            iterate 10 (refine line_read rfl (by kernel_rfl) (fun K hK => ?_); go_big_quiet_op; refine hK _ ?_; clear hK K)
            refine line_alone rfl (by kernel_rfl) (fun K hK => ?_)
            refine call_wp (args := #[.pointer (some ⟨k, 0, none⟩)]) rfl (by kernel_rfl) (by kernel_rfl) (S _ (Q7.on hst.out)) (fun wn hbn => ?_)
            have hst2 := hst.on hbn
            refine hK _ _ hst2 ?_
            clear hK K hst hbn
            have hst := hst2
            clear hst2
            simp only [Act.put, List.setIfInBounds_toArray, List.set_cons_zero, List.set_cons_succ]
            refine line_alone rfl (by kernel_rfl) (fun K hK => ?_)
            refine call_wp (args := #[.int .i64 r.b, .int .i64 x, .pointer (some ⟨k, 6, none⟩)]) rfl (by kernel_rfl) (by kernel_rfl) (C _ (Q7.on hst.out)) (fun wn hbn => ?_)
            have hst2 := hst.on hbn
            refine hK _ _ hst2 ?_
            clear hK K hst hbn
            have hst := hst2
            clear hst2
            simp only [Act.put, List.setIfInBounds_toArray, List.set_cons_zero, List.set_cons_succ]
            iterate 2 (refine line_read rfl (by kernel_rfl) (fun K hK => ?_); go_big_quiet_op; refine hK _ ?_; clear hK K)
            refine line_nil ?_
            have hb := btr B7 hst.out
            clear hst inst y5 c5 Q7 B7 S C QP
            go_wp2_with fail
            go_ret
            exact ⟨rfl, hb⟩
        · rw [chk_old h1 h2 (.inl W3.out) hu]
          rw [decide_eq_false hu] at L
          clear h1 h2 hu
          go_enter Tryz.func207, Tryz.ntmps207
          go_wp2_with fail
          refine wp_region_line (Bel w) [(0, true), (1, true), (2, true), (3, true), (4, true), (5, true), (6, true), (7, true), (8, true), (9, true), (10, true)] (by kernel_rfl) (by kernel_rfl) (fun _ _ d _ _ h => by cases d <;> exact h) (Bel.drew w) ?_
          have hst := Bel.drew w
          have inst : Nonempty (Of (Bel w)) := ⟨⟨_, hst⟩⟩
          have q0 := bel_cell a0
          have y0 := bel_cell c0
          iterate 11 (refine line_read rfl (by kernel_rfl) (fun K hK => ?_); go_big_quiet_op; refine hK _ ?_; clear hK K)
          refine line_nil ?_
          have b1 := hst.out
          have A1 := A.on b1
          have Q1 := Q.on b1
          clear hst inst q0 y0 a0 c0 A Q
          generalize w.drew = V1 at *
          have a3 := A1.cell 3 _ rfl
          have c3 := Q1.cell 3 _ rfl
          go_wp2_with fail
          refine wp_region_line (Bel V1) [(0, true), (1, true), (2, true), (3, true), (4, true), (5, true), (6, true), (7, true), (8, true), (9, true), (10, true), (11, true)] (by kernel_rfl) (by kernel_rfl) (fun _ _ d _ _ h => by cases d <;> exact h) (Bel.drew V1) ?_
          have hst := Bel.drew V1
          have inst : Nonempty (Of (Bel V1)) := ⟨⟨_, hst⟩⟩
          have q3 := bel_cell a3
          have y3 := bel_cell c3
          iterate 12 (refine line_read rfl (by kernel_rfl) (fun K hK => ?_); go_big_quiet_op; refine hK _ ?_; clear hK K)
          refine line_nil ?_
          have b3 := btr b1 hst.out
          have A3 := A1.on hst.out
          have Q3 := Q1.on hst.out
          clear hst inst q3 y3 a3 c3 A1 Q1 b1
          generalize V1.drew = V3 at *
          have a1 := A3.cell 1 _ rfl
          have a2 := A3.cell 2 _ rfl
          have c5 := Q3.cell 5 _ rfl
          go_wp2_with fail
          refine wp_region_line (Bel V3) [(0, true), (1, true), (2, true), (3, true), (4, true), (5, true), (6, true), (7, true), (8, true), (9, true), (10, true), (11, true), (12, true), (13, true), (14, true), (15, true), (16, true), (17, true), (18, true), (19, true), (20, true)] (by kernel_rfl) (by kernel_rfl) (fun _ _ d _ _ h => by cases d <;> exact h) (Bel.drew V3) ?_
          have hst := Bel.drew V3
          have inst : Nonempty (Of (Bel V3)) := ⟨⟨_, hst⟩⟩
          have q1 := bel_cell a1
          have q2 := bel_cell a2
          have y5 := bel_cell c5
          iterate 10 (refine line_read rfl (by kernel_rfl) (fun K hK => ?_); go_big_quiet_op; refine hK _ ?_; clear hK K)
          iterate 9 (refine line_skip rfl (by kernel_rfl) ?_; simp only [Act.put, List.setIfInBounds_toArray, List.set_cons_zero, List.set_cons_succ])
          iterate 2 (refine line_read rfl (by kernel_rfl) (fun K hK => ?_); go_big_quiet_op; refine hK _ ?_; clear hK K)
          refine line_nil ?_
          have b5 := btr b3 hst.out
          have A5 := A3.on hst.out
          have Q5 := Q3.on hst.out
          clear hst inst q1 q2 y5 a1 a2 c5 A3 Q3 b3
          generalize V3.drew = V5 at *
          go_wp2_with fail
          refine (L _ _ A5).mono ?_
          rintro e V7 ⟨rfl, b7⟩
          have B7 := btr b5 b7
          have Q7 := Q5.on b7
          clear b5 b7 A5 Q5 L
          go_wp2_with fail
          go_ret
          exact ⟨rfl, B7⟩
      · have E3 : (r.b == o.a) = false := by simpa using h3
        have N3 : (r.b != o.a) = true := by simp [h3]
        have D3 : decide (r.b = o.a) = false := by simp [h3]
        by_cases h4 : r.b = o.b
        · have E4 : (r.b == o.b) = true := by simpa using h4
          have N4 : (r.b != o.b) = false := by simp [h4]
          have W4 := Lib.hid h4
          clear h3 h4
          by_cases hu : t ≤ o.u
          · cases hc : M.checkB r.b (rsum r.p) r.x r.y
            · rw [chk_sign h1 h2 (.inr W4.out) hu hc]
              rw [hc] at C
              rw [decide_eq_true hu] at L
              generalize rsum r.p = x at *
              clear h1 h2 hu hc
              go_enter Tryz.func207, Tryz.ntmps207
              go_wp2_with fail
              refine wp_region_line (Bel w) [(0, true), (1, true), (2, true), (3, true), (4, true), (5, true), (6, true), (7, true), (8, true), (9, true), (10, true)] (by kernel_rfl) (by kernel_rfl) (fun _ _ d _ _ h => by cases d <;> exact h) (Bel.drew w) ?_
              have hst := Bel.drew w
              have inst : Nonempty (Of (Bel w)) := ⟨⟨_, hst⟩⟩
              have q0 := bel_cell a0
              have y0 := bel_cell c0
              iterate 11 (refine line_read rfl (by kernel_rfl) (fun K hK => ?_); go_big_quiet_op; refine hK _ ?_; clear hK K)
              refine line_nil ?_
              have b1 := hst.out
              have A1 := A.on b1
              have Q1 := Q.on b1
              clear hst inst q0 y0 a0 c0 A Q
              generalize w.drew = V1 at *
              have a3 := A1.cell 3 _ rfl
              have c3 := Q1.cell 3 _ rfl
              go_wp2_with fail
              refine wp_region_line (Bel V1) [(0, true), (1, true), (2, true), (3, true), (4, true), (5, true), (6, true), (7, true), (8, true), (9, true), (10, true), (11, true)] (by kernel_rfl) (by kernel_rfl) (fun _ _ d _ _ h => by cases d <;> exact h) (Bel.drew V1) ?_
              have hst := Bel.drew V1
              have inst : Nonempty (Of (Bel V1)) := ⟨⟨_, hst⟩⟩
              have q3 := bel_cell a3
              have y3 := bel_cell c3
              iterate 12 (refine line_read rfl (by kernel_rfl) (fun K hK => ?_); go_big_quiet_op; refine hK _ ?_; clear hK K)
              refine line_nil ?_
              have b3 := btr b1 hst.out
              have A3 := A1.on hst.out
              have Q3 := Q1.on hst.out
              clear hst inst q3 y3 a3 c3 A1 Q1 b1
              generalize V1.drew = V3 at *
              have a1 := A3.cell 1 _ rfl
              have a2 := A3.cell 2 _ rfl
              have c5 := Q3.cell 5 _ rfl
              go_wp2_with fail
              refine wp_region_line (Bel V3) [(0, true), (1, true), (2, true), (3, true), (4, true), (5, true), (6, true), (7, true), (8, true), (9, true), (10, true), (11, true), (12, true), (13, true), (14, true), (15, true), (16, true), (17, true), (18, true), (19, true), (20, true)] (by kernel_rfl) (by kernel_rfl) (fun _ _ d _ _ h => by cases d <;> exact h) (Bel.drew V3) ?_
              have hst := Bel.drew V3
              have inst : Nonempty (Of (Bel V3)) := ⟨⟨_, hst⟩⟩
              have q1 := bel_cell a1
              have q2 := bel_cell a2
              have y5 := bel_cell c5
              iterate 10 (refine line_read rfl (by kernel_rfl) (fun K hK => ?_); go_big_quiet_op; refine hK _ ?_; clear hK K)
              iterate 9 (refine line_read rfl (by kernel_rfl) (fun K hK => ?_); go_big_quiet_op; refine hK _ ?_; clear hK K)
              iterate 2 (refine line_read rfl (by kernel_rfl) (fun K hK => ?_); go_big_quiet_op; refine hK _ ?_; clear hK K)
              refine line_nil ?_
              have b5 := btr b3 hst.out
              have A5 := A3.on hst.out
              have Q5 := Q3.on hst.out
              clear hst inst q1 q2 y5 a1 a2 c5 A3 Q3 b3
              generalize V3.drew = V5 at *
              go_wp2_with fail
              refine (L _ _ A5).mono ?_
              rintro e V7 ⟨rfl, b7⟩
              have B7 := btr b5 b7
              have Q7 := Q5.on b7
              clear b5 b7 A5 Q5 L
              have c5 := Q7.cell 5 _ rfl
              go_wp2_with fail
              refine wp_region_line (Bel V7) [(0, true), (1, true), (2, true), (3, true), (4, true), (5, true), (6, true), (8, true), (9, true), (10, true), (7, false), (11, false), (12, true), (13, true)] (by kernel_rfl) (by kernel_rfl) (fun _ _ d _ _ h => by cases d <;> exact h) (Bel.drew V7) ?_
              have hst := Bel.drew V7
              have inst : Nonempty (Of (Bel V7)) := ⟨⟨_, hst⟩⟩
              have y5 := bel_cell c5
              have QP := Q7.on hst.out
              generalize V7.drew = X at *
              iterate 10 (refine line_read rfl (by kernel_rfl) (fun K hK => ?_); go_big_quiet_op; refine hK _ ?_; clear hK K)
              refine line_alone rfl (by kernel_rfl) (fun K hK => ?_)
              refine call_wp (args := #[.pointer (some ⟨k, 0, none⟩)]) rfl (by kernel_rfl) (by kernel_rfl) (S _ (Q7.on hst.out)) (fun wn hbn => ?_)
              have hst2 := hst.on hbn
              refine hK _ _ hst2 ?_
              clear hK K hst hbn
              have hst := hst2
              clear hst2
              simp only [Act.put, List.setIfInBounds_toArray, List.set_cons_zero, List.set_cons_succ]
              refine line_alone rfl (by kernel_rfl) (fun K hK => ?_)
              refine call_wp (args := #[.int .i64 r.b, .int .i64 x, .pointer (some ⟨k, 6, none⟩)]) rfl (by kernel_rfl) (by kernel_rfl) (C _ (Q7.on hst.out)) (fun wn hbn => ?_)
              have hst2 := hst.on hbn
              refine hK _ _ hst2 ?_
              clear hK K hst hbn
              have hst := hst2
              clear hst2
              simp only [Act.put, List.setIfInBounds_toArray, List.set_cons_zero, List.set_cons_succ]
              iterate 2 (refine line_read rfl (by kernel_rfl) (fun K hK => ?_); go_big_quiet_op; refine hK _ ?_; clear hK K)
              refine line_nil ?_
              have hb := btr B7 hst.out
              clear hst inst y5 c5 Q7 B7 S C QP
              go_wp2_with fail
              go_ret
              exact ⟨rfl, hb⟩
            · rw [chk_yes h1 h2 (.inr W4.out) hu hc]
              rw [hc] at C
              rw [decide_eq_true hu] at L
              generalize rsum r.p = x at *
              clear h1 h2 hu hc
              go_enter Tryz.func207, Tryz.ntmps207
              go_wp2_with fail
              refine wp_region_line (Bel w) [(0, true), (1, true), (2, true), (3, true), (4, true), (5, true), (6, true), (7, true), (8, true), (9, true), (10, true)] (by kernel_rfl) (by kernel_rfl) (fun _ _ d _ _ h => by cases d <;> exact h) (Bel.drew w) ?_
              have hst := Bel.drew w
              have inst : Nonempty (Of (Bel w)) := ⟨⟨_, hst⟩⟩
              have q0 := bel_cell a0
              have y0 := bel_cell c0
              iterate 11 (refine line_read rfl (by kernel_rfl) (fun K hK => ?_); go_big_quiet_op; refine hK _ ?_; clear hK K)
              refine line_nil ?_
              have b1 := hst.out
              have A1 := A.on b1
              have Q1 := Q.on b1
              clear hst inst q0 y0 a0 c0 A Q
              generalize w.drew = V1 at *
              have a3 := A1.cell 3 _ rfl
              have c3 := Q1.cell 3 _ rfl
              go_wp2_with fail
              refine wp_region_line (Bel V1) [(0, true), (1, true), (2, true), (3, true), (4, true), (5, true), (6, true), (7, true), (8, true), (9, true), (10, true), (11, true)] (by kernel_rfl) (by kernel_rfl) (fun _ _ d _ _ h => by cases d <;> exact h) (Bel.drew V1) ?_
              have hst := Bel.drew V1
              have inst : Nonempty (Of (Bel V1)) := ⟨⟨_, hst⟩⟩
              have q3 := bel_cell a3
              have y3 := bel_cell c3
              iterate 12 (refine line_read rfl (by kernel_rfl) (fun K hK => ?_); go_big_quiet_op; refine hK _ ?_; clear hK K)
              refine line_nil ?_
              have b3 := btr b1 hst.out
              have A3 := A1.on hst.out
              have Q3 := Q1.on hst.out
              clear hst inst q3 y3 a3 c3 A1 Q1 b1
              generalize V1.drew = V3 at *
              have a1 := A3.cell 1 _ rfl
              have a2 := A3.cell 2 _ rfl
              have c5 := Q3.cell 5 _ rfl
              go_wp2_with fail
              refine wp_region_line (Bel V3) [(0, true), (1, true), (2, true), (3, true), (4, true), (5, true), (6, true), (7, true), (8, true), (9, true), (10, true), (11, true), (12, true), (13, true), (14, true), (15, true), (16, true), (17, true), (18, true), (19, true), (20, true)] (by kernel_rfl) (by kernel_rfl) (fun _ _ d _ _ h => by cases d <;> exact h) (Bel.drew V3) ?_
              have hst := Bel.drew V3
              have inst : Nonempty (Of (Bel V3)) := ⟨⟨_, hst⟩⟩
              have q1 := bel_cell a1
              have q2 := bel_cell a2
              have y5 := bel_cell c5
              iterate 10 (refine line_read rfl (by kernel_rfl) (fun K hK => ?_); go_big_quiet_op; refine hK _ ?_; clear hK K)
              iterate 9 (refine line_read rfl (by kernel_rfl) (fun K hK => ?_); go_big_quiet_op; refine hK _ ?_; clear hK K)
              iterate 2 (refine line_read rfl (by kernel_rfl) (fun K hK => ?_); go_big_quiet_op; refine hK _ ?_; clear hK K)
              refine line_nil ?_
              have b5 := btr b3 hst.out
              have A5 := A3.on hst.out
              have Q5 := Q3.on hst.out
              clear hst inst q1 q2 y5 a1 a2 c5 A3 Q3 b3
              generalize V3.drew = V5 at *
              go_wp2_with fail
              refine (L _ _ A5).mono ?_
              rintro e V7 ⟨rfl, b7⟩
              have B7 := btr b5 b7
              have Q7 := Q5.on b7
              clear b5 b7 A5 Q5 L
              have c5 := Q7.cell 5 _ rfl
              go_wp2_with fail
              refine wp_region_line (Bel V7) [(0, true), (1, true), (2, true), (3, true), (4, true), (5, true), (6, true), (8, true), (9, true), (10, true), (7, false), (11, false), (12, true), (13, true)] (by kernel_rfl) (by kernel_rfl) (fun _ _ d _ _ h => by cases d <;> exact h) (Bel.drew V7) ?_
              have hst := Bel.drew V7
              have inst : Nonempty (Of (Bel V7)) := ⟨⟨_, hst⟩⟩
              have y5 := bel_cell c5
              have QP := Q7.on hst.out
              generalize V7.drew = X at *
              iterate 10 (refine line_read rfl (by kernel_rfl) (fun K hK => ?_); go_big_quiet_op; refine hK _ ?_; clear hK K)
              refine line_alone rfl (by kernel_rfl) (fun K hK => ?_)
              refine call_wp (args := #[.pointer (some ⟨k, 0, none⟩)]) rfl (by kernel_rfl) (by kernel_rfl) (S _ (Q7.on hst.out)) (fun wn hbn => ?_)
              have hst2 := hst.on hbn
              refine hK _ _ hst2 ?_
              clear hK K hst hbn
              have hst := hst2
              clear hst2
              simp only [Act.put, List.setIfInBounds_toArray, List.set_cons_zero, List.set_cons_succ]
              refine line_alone rfl (by kernel_rfl) (fun K hK => ?_)
              refine call_wp (args := #[.int .i64 r.b, .int .i64 x, .pointer (some ⟨k, 6, none⟩)]) rfl (by kernel_rfl) (by kernel_rfl) (C _ (Q7.on hst.out)) (fun wn hbn => ?_)
              have hst2 := hst.on hbn
              refine hK _ _ hst2 ?_
              clear hK K hst hbn
              have hst := hst2
              clear hst2
              simp only [Act.put, List.setIfInBounds_toArray, List.set_cons_zero, List.set_cons_succ]
              iterate 2 (refine line_read rfl (by kernel_rfl) (fun K hK => ?_); go_big_quiet_op; refine hK _ ?_; clear hK K)
              refine line_nil ?_
              have hb := btr B7 hst.out
              clear hst inst y5 c5 Q7 B7 S C QP
              go_wp2_with fail
              go_ret
              exact ⟨rfl, hb⟩
          · rw [chk_old h1 h2 (.inr W4.out) hu]
            rw [decide_eq_false hu] at L
            clear h1 h2 hu
            go_enter Tryz.func207, Tryz.ntmps207
            go_wp2_with fail
            refine wp_region_line (Bel w) [(0, true), (1, true), (2, true), (3, true), (4, true), (5, true), (6, true), (7, true), (8, true), (9, true), (10, true)] (by kernel_rfl) (by kernel_rfl) (fun _ _ d _ _ h => by cases d <;> exact h) (Bel.drew w) ?_
            have hst := Bel.drew w
            have inst : Nonempty (Of (Bel w)) := ⟨⟨_, hst⟩⟩
            have q0 := bel_cell a0
            have y0 := bel_cell c0
            iterate 11 (refine line_read rfl (by kernel_rfl) (fun K hK => ?_); go_big_quiet_op; refine hK _ ?_; clear hK K)
            refine line_nil ?_
            have b1 := hst.out
            have A1 := A.on b1
            have Q1 := Q.on b1
            clear hst inst q0 y0 a0 c0 A Q
            generalize w.drew = V1 at *
            have a3 := A1.cell 3 _ rfl
            have c3 := Q1.cell 3 _ rfl
            go_wp2_with fail
            refine wp_region_line (Bel V1) [(0, true), (1, true), (2, true), (3, true), (4, true), (5, true), (6, true), (7, true), (8, true), (9, true), (10, true), (11, true)] (by kernel_rfl) (by kernel_rfl) (fun _ _ d _ _ h => by cases d <;> exact h) (Bel.drew V1) ?_
            have hst := Bel.drew V1
            have inst : Nonempty (Of (Bel V1)) := ⟨⟨_, hst⟩⟩
            have q3 := bel_cell a3
            have y3 := bel_cell c3
            iterate 12 (refine line_read rfl (by kernel_rfl) (fun K hK => ?_); go_big_quiet_op; refine hK _ ?_; clear hK K)
            refine line_nil ?_
            have b3 := btr b1 hst.out
            have A3 := A1.on hst.out
            have Q3 := Q1.on hst.out
            clear hst inst q3 y3 a3 c3 A1 Q1 b1
            generalize V1.drew = V3 at *
            have a1 := A3.cell 1 _ rfl
            have a2 := A3.cell 2 _ rfl
            have c5 := Q3.cell 5 _ rfl
            go_wp2_with fail
            refine wp_region_line (Bel V3) [(0, true), (1, true), (2, true), (3, true), (4, true), (5, true), (6, true), (7, true), (8, true), (9, true), (10, true), (11, true), (12, true), (13, true), (14, true), (15, true), (16, true), (17, true), (18, true), (19, true), (20, true)] (by kernel_rfl) (by kernel_rfl) (fun _ _ d _ _ h => by cases d <;> exact h) (Bel.drew V3) ?_
            have hst := Bel.drew V3
            have inst : Nonempty (Of (Bel V3)) := ⟨⟨_, hst⟩⟩
            have q1 := bel_cell a1
            have q2 := bel_cell a2
            have y5 := bel_cell c5
            iterate 10 (refine line_read rfl (by kernel_rfl) (fun K hK => ?_); go_big_quiet_op; refine hK _ ?_; clear hK K)
            iterate 9 (refine line_read rfl (by kernel_rfl) (fun K hK => ?_); go_big_quiet_op; refine hK _ ?_; clear hK K)
            iterate 2 (refine line_read rfl (by kernel_rfl) (fun K hK => ?_); go_big_quiet_op; refine hK _ ?_; clear hK K)
            refine line_nil ?_
            have b5 := btr b3 hst.out
            have A5 := A3.on hst.out
            have Q5 := Q3.on hst.out
            clear hst inst q1 q2 y5 a1 a2 c5 A3 Q3 b3
            generalize V3.drew = V5 at *
            go_wp2_with fail
            refine (L _ _ A5).mono ?_
            rintro e V7 ⟨rfl, b7⟩
            have B7 := btr b5 b7
            have Q7 := Q5.on b7
            clear b5 b7 A5 Q5 L
            go_wp2_with fail
            go_ret
            exact ⟨rfl, B7⟩
        · have E4 : (r.b == o.b) = false := by simpa using h4
          have N4 : (r.b != o.b) = true := by simp [h4]
          rw [chk_by h1 h2 h3 h4]
          clear h1 h2 h3 h4 L S C
          go_enter Tryz.func207, Tryz.ntmps207
          go_wp2_with fail
          refine wp_region_line (Bel w) [(0, true), (1, true), (2, true), (3, true), (4, true), (5, true), (6, true), (7, true), (8, true), (9, true), (10, true)] (by kernel_rfl) (by kernel_rfl) (fun _ _ d _ _ h => by cases d <;> exact h) (Bel.drew w) ?_
          have hst := Bel.drew w
          have inst : Nonempty (Of (Bel w)) := ⟨⟨_, hst⟩⟩
          have q0 := bel_cell a0
          have y0 := bel_cell c0
          iterate 11 (refine line_read rfl (by kernel_rfl) (fun K hK => ?_); go_big_quiet_op; refine hK _ ?_; clear hK K)
          refine line_nil ?_
          have b1 := hst.out
          have A1 := A.on b1
          have Q1 := Q.on b1
          clear hst inst q0 y0 a0 c0 A Q
          generalize w.drew = V1 at *
          have a3 := A1.cell 3 _ rfl
          have c3 := Q1.cell 3 _ rfl
          go_wp2_with fail
          refine wp_region_line (Bel V1) [(0, true), (1, true), (2, true), (3, true), (4, true), (5, true), (6, true), (7, true), (8, true), (9, true), (10, true), (11, true)] (by kernel_rfl) (by kernel_rfl) (fun _ _ d _ _ h => by cases d <;> exact h) (Bel.drew V1) ?_
          have hst := Bel.drew V1
          have inst : Nonempty (Of (Bel V1)) := ⟨⟨_, hst⟩⟩
          have q3 := bel_cell a3
          have y3 := bel_cell c3
          iterate 12 (refine line_read rfl (by kernel_rfl) (fun K hK => ?_); go_big_quiet_op; refine hK _ ?_; clear hK K)
          refine line_nil ?_
          have b3 := btr b1 hst.out
          have A3 := A1.on hst.out
          have Q3 := Q1.on hst.out
          clear hst inst q3 y3 a3 c3 A1 Q1 b1
          generalize V1.drew = V3 at *
          have a1 := A3.cell 1 _ rfl
          have a2 := A3.cell 2 _ rfl
          have c5 := Q3.cell 5 _ rfl
          go_wp2_with fail
          refine wp_region_line (Bel V3) [(0, true), (1, true), (2, true), (3, true), (4, true), (5, true), (6, true), (7, true), (8, true), (9, true), (10, true), (11, true), (12, true), (13, true), (14, true), (15, true), (16, true), (17, true), (18, true), (19, true), (20, true)] (by kernel_rfl) (by kernel_rfl) (fun _ _ d _ _ h => by cases d <;> exact h) (Bel.drew V3) ?_
          have hst := Bel.drew V3
          have inst : Nonempty (Of (Bel V3)) := ⟨⟨_, hst⟩⟩
          have q1 := bel_cell a1
          have q2 := bel_cell a2
          have y5 := bel_cell c5
          iterate 10 (refine line_read rfl (by kernel_rfl) (fun K hK => ?_); go_big_quiet_op; refine hK _ ?_; clear hK K)
          iterate 9 (refine line_read rfl (by kernel_rfl) (fun K hK => ?_); go_big_quiet_op; refine hK _ ?_; clear hK K)
          iterate 2 (refine line_read rfl (by kernel_rfl) (fun K hK => ?_); go_big_quiet_op; refine hK _ ?_; clear hK K)
          refine line_nil ?_
          have b5 := btr b3 hst.out
          have A5 := A3.on hst.out
          have Q5 := Q3.on hst.out
          clear hst inst q1 q2 y5 a1 a2 c5 A3 Q3 b3
          generalize V3.drew = V5 at *
          go_wp2_with fail
          go_ret
          exact ⟨rfl, b5⟩
    · have E2 : (r.p.e == o.e + 1) = false := by simpa using h2
      have N2 : (r.p.e != o.e + 1) = true := by simp [h2]
      rw [chk_ep h1 h2]
      clear h1 h2 L S C
      go_enter Tryz.func207, Tryz.ntmps207
      go_wp2_with fail
      refine wp_region_line (Bel w) [(0, true), (1, true), (2, true), (3, true), (4, true), (5, true), (6, true), (7, true), (8, true), (9, true), (10, true)] (by kernel_rfl) (by kernel_rfl) (fun _ _ d _ _ h => by cases d <;> exact h) (Bel.drew w) ?_
      have hst := Bel.drew w
      have inst : Nonempty (Of (Bel w)) := ⟨⟨_, hst⟩⟩
      have q0 := bel_cell a0
      have y0 := bel_cell c0
      iterate 11 (refine line_read rfl (by kernel_rfl) (fun K hK => ?_); go_big_quiet_op; refine hK _ ?_; clear hK K)
      refine line_nil ?_
      have b1 := hst.out
      have A1 := A.on b1
      have Q1 := Q.on b1
      clear hst inst q0 y0 a0 c0 A Q
      generalize w.drew = V1 at *
      have a3 := A1.cell 3 _ rfl
      have c3 := Q1.cell 3 _ rfl
      go_wp2_with fail
      refine wp_region_line (Bel V1) [(0, true), (1, true), (2, true), (3, true), (4, true), (5, true), (6, true), (7, true), (8, true), (9, true), (10, true), (11, true)] (by kernel_rfl) (by kernel_rfl) (fun _ _ d _ _ h => by cases d <;> exact h) (Bel.drew V1) ?_
      have hst := Bel.drew V1
      have inst : Nonempty (Of (Bel V1)) := ⟨⟨_, hst⟩⟩
      have q3 := bel_cell a3
      have y3 := bel_cell c3
      iterate 12 (refine line_read rfl (by kernel_rfl) (fun K hK => ?_); go_big_quiet_op; refine hK _ ?_; clear hK K)
      refine line_nil ?_
      have b3 := btr b1 hst.out
      have A3 := A1.on hst.out
      have Q3 := Q1.on hst.out
      clear hst inst q3 y3 a3 c3 A1 Q1 b1
      generalize V1.drew = V3 at *
      go_wp2_with fail
      go_ret
      exact ⟨rfl, b3⟩
  · rw [decide_eq_false h1] at TQ
    rw [chk_name h1]
    clear h1 L S C
    go_enter Tryz.func207, Tryz.ntmps207
    go_wp2_with fail
    refine wp_region_line (Bel w) [(0, true), (1, true), (2, true), (3, true), (4, true), (5, true), (6, true), (7, true), (8, true), (9, true), (10, true)] (by kernel_rfl) (by kernel_rfl) (fun _ _ d _ _ h => by cases d <;> exact h) (Bel.drew w) ?_
    have hst := Bel.drew w
    have inst : Nonempty (Of (Bel w)) := ⟨⟨_, hst⟩⟩
    have q0 := bel_cell a0
    have y0 := bel_cell c0
    iterate 11 (refine line_read rfl (by kernel_rfl) (fun K hK => ?_); go_big_quiet_op; refine hK _ ?_; clear hK K)
    refine line_nil ?_
    have b1 := hst.out
    have A1 := A.on b1
    have Q1 := Q.on b1
    clear hst inst q0 y0 a0 c0 A Q
    generalize w.drew = V1 at *
    go_wp2_with fail
    go_ret
    exact ⟨rfl, b1⟩
theorem specCheckRoll_any (o : PinD) (r : RollD) (t : Int) (w : World) (hn : o.n.size ≤ maxLen) (hm : r.p.n.size ≤ maxLen) :
    Calls Tryz.prog 151 #[P5 o, R8 r, .int .i64 t] w fun e w' => e = .returned (.int .i64 (checkF o r t)) ∧ Below w.heap.size w w' := by
  have b0 := bal (bal (Below.refl _ w) (.cells #[.string o.n, .int .i64 o.a, .int .i64 o.b, .int .i64 o.e, .int .i64 o.u] 31)) (.cells #[.string r.p.n, .int .i64 r.p.a, .int .i64 r.p.b, .int .i64 r.p.e, .int .i64 r.p.u, .int .i64 r.b, .int .i64 r.x, .int .i64 r.y] 40)
  have A0 : At w.heap.size o.vals ((w.alloc (.cells #[.string o.n, .int .i64 o.a, .int .i64 o.b, .int .i64 o.e, .int .i64 o.u] 31)).alloc (.cells #[.string r.p.n, .int .i64 r.p.a, .int .i64 r.p.b, .int .i64 r.p.e, .int .i64 r.p.u, .int .i64 r.b, .int .i64 r.x, .int .i64 r.y] 40)) := (At.new w o.vals 31).alloc _
  have Q0 : At (w.heap.size + 1) r.vals ((w.alloc (.cells #[.string o.n, .int .i64 o.a, .int .i64 o.b, .int .i64 o.e, .int .i64 o.u] 31)).alloc (.cells #[.string r.p.n, .int .i64 r.p.a, .int .i64 r.p.b, .int .i64 r.p.e, .int .i64 r.p.u, .int .i64 r.b, .int .i64 r.x, .int .i64 r.y] 40)) := At.newN (w := (w.alloc (.cells #[.string o.n, .int .i64 o.a, .int .i64 o.b, .int .i64 o.e, .int .i64 o.u] 31))) r.vals 40 (by simp)
  have F := fun g w A => l7Fault_any g o w A hn
  have G := fun g w A => l8Fault_any g r w A hm
  by_cases h0 : o.f = 0
  · by_cases h1 : r.f = 0
    · cases ht : timB t
      · rw [checkF_time h0 h1 ht]
        rw [h0] at F
        rw [h1] at G
        go_enter Tryz.func151, Tryz.ntmps151
        go_wp2_with fail
        generalize (w.alloc (.cells #[.string o.n, .int .i64 o.a, .int .i64 o.b, .int .i64 o.e, .int .i64 o.u] 31)).alloc (.cells #[.string r.p.n, .int .i64 r.p.a, .int .i64 r.p.b, .int .i64 r.p.e, .int .i64 r.p.u, .int .i64 r.b, .int .i64 r.x, .int .i64 r.y] 40) = W0 at *
        refine (F _ _ A0).mono ?_
        rintro e u1 ⟨rfl, b1⟩
        have A1 := A0.on b1
        have Q1 := Q0.on b1
        have B1 := btr b0 b1
        clear A0 Q0 b0 b1 F
        go_wp2_with fail
        refine (G _ _ Q1).mono ?_
        rintro e u2 ⟨rfl, b2⟩
        have A2 := A1.on b2
        have Q2 := Q1.on b2
        have B2 := btr B1 b2
        clear A1 Q1 B1 b2 G
        go_wp2_with fail
        refine (l7Time_any _ _).mono ?_
        rintro r w' ⟨rfl, rfl⟩
        go_wp2_with fail
        go_ret
        exact ⟨rfl, B2⟩
      · rw [checkF_chk h0 h1 ht]
        have K := fun g k w A Q => l8Check_any g k o r t w A Q h0 h1
        rw [h0] at F
        rw [h1] at G
        generalize chk o r t = c at *
        go_enter Tryz.func151, Tryz.ntmps151
        go_wp2_with fail
        generalize (w.alloc (.cells #[.string o.n, .int .i64 o.a, .int .i64 o.b, .int .i64 o.e, .int .i64 o.u] 31)).alloc (.cells #[.string r.p.n, .int .i64 r.p.a, .int .i64 r.p.b, .int .i64 r.p.e, .int .i64 r.p.u, .int .i64 r.b, .int .i64 r.x, .int .i64 r.y] 40) = W0 at *
        refine (F _ _ A0).mono ?_
        rintro e u1 ⟨rfl, b1⟩
        have A1 := A0.on b1
        have Q1 := Q0.on b1
        have B1 := btr b0 b1
        clear A0 Q0 b0 b1 F
        go_wp2_with fail
        refine (G _ _ Q1).mono ?_
        rintro e u2 ⟨rfl, b2⟩
        have A2 := A1.on b2
        have Q2 := Q1.on b2
        have B2 := btr B1 b2
        clear A1 Q1 B1 b2 G
        go_wp2_with fail
        refine (l7Time_any _ _).mono ?_
        rintro r w' ⟨rfl, rfl⟩
        go_wp2_with fail
        refine (K _ _ _ A2 Q2).mono ?_
        rintro e u3 ⟨rfl, b3⟩
        have hb := btr B2 b3
        go_wp2_with fail
        go_ret
        exact ⟨rfl, hb⟩
    · rw [checkF_roll h0 h1]
      rw [h0] at F
      generalize r.f = c at *
      have q0 : (c == 0) = false := by simpa using h1
      go_enter Tryz.func151, Tryz.ntmps151
      go_wp2_with fail
      generalize (w.alloc (.cells #[.string o.n, .int .i64 o.a, .int .i64 o.b, .int .i64 o.e, .int .i64 o.u] 31)).alloc (.cells #[.string r.p.n, .int .i64 r.p.a, .int .i64 r.p.b, .int .i64 r.p.e, .int .i64 r.p.u, .int .i64 r.b, .int .i64 r.x, .int .i64 r.y] 40) = W0 at *
      refine (F _ _ A0).mono ?_
      rintro e u1 ⟨rfl, b1⟩
      have A1 := A0.on b1
      have Q1 := Q0.on b1
      have B1 := btr b0 b1
      clear A0 Q0 b0 b1 F
      go_wp2_with fail
      refine (G _ _ Q1).mono ?_
      rintro e u2 ⟨rfl, b2⟩
      have A2 := A1.on b2
      have Q2 := Q1.on b2
      have B2 := btr B1 b2
      clear A1 Q1 B1 b2 G
      go_wp2_with fail
      go_ret
      exact ⟨rfl, B2⟩
  · rw [checkF_old h0]
    generalize o.f = c at *
    have q0 : (c == 0) = false := by simpa using h0
    go_enter Tryz.func151, Tryz.ntmps151
    go_wp2_with fail
    generalize (w.alloc (.cells #[.string o.n, .int .i64 o.a, .int .i64 o.b, .int .i64 o.e, .int .i64 o.u] 31)).alloc (.cells #[.string r.p.n, .int .i64 r.p.a, .int .i64 r.p.b, .int .i64 r.p.e, .int .i64 r.p.u, .int .i64 r.b, .int .i64 r.x, .int .i64 r.y] 40) = W0 at *
    refine (F _ _ A0).mono ?_
    rintro e u1 ⟨rfl, b1⟩
    have A1 := A0.on b1
    have Q1 := Q0.on b1
    have B1 := btr b0 b1
    clear A0 Q0 b0 b1 F
    go_wp2_with fail
    go_ret
    exact ⟨rfl, B1⟩
end Go.Proofs.YtcolecidbalmhaaGreatDoor
namespace Go.Proofs.YtcolecidbalmhaaGreatDoor
open Go.RowKit
set_option maxRecDepth 100000
set_option linter.unusedVariables false

/-- A slice that holds two bytes does not lie in a block of one. -/
theorem two_else {w : World} {B : Nat} {v : Value} {a : Int} {x : Value} {t : TypeId} {g k : Nat} (h : OwnK .u8 w B v ([] ++ M.two a)) (he : w.heap[g]? = some (.cells #[x] t)) (hk : v.ownBlock = some k) (ek : k = g) : False := by
  subst ek
  rcases h.2 with ⟨rfl, h0⟩ | ⟨g', c, rfl, _, _, _, _, hcell, _⟩
  · simp [Value.ownBlock] at hk
  · simp [Value.ownBlock] at hk
    subst hk
    have := hcell 1 (.int .u8 (a % 256)) (by simp [M.two])
    unfold World.cell? at this
    rw [he] at this
    simp at this
theorem implPackPin_any (p : PinD) (w : World) (hn : p.n.size ≤ maxLen) :
    Calls Tryz.prog 135 #[P5 p] w (BytesRes p.f (packPL p) w) := by
  have b0 := bal (bal (Below.refl _ w) (.cells #[.string p.n, .int .i64 p.a, .int .i64 p.b, .int .i64 p.e, .int .i64 p.u] 31)) (.cells #[.int .i64 0, .slice none 0 0] 185)
  have A1 : At w.heap.size p.vals ((w.alloc (.cells #[.string p.n, .int .i64 p.a, .int .i64 p.b, .int .i64 p.e, .int .i64 p.u] 31)).alloc (.cells #[.int .i64 0, .slice none 0 0] 185)) := (At.new w p.vals 31).alloc _
  have A2 := At.new (w.alloc (.cells #[.string p.n, .int .i64 p.a, .int .i64 p.b, .int .i64 p.e, .int .i64 p.u] 31)) [.int .i64 0, .slice none 0 0] 185
  simp only [World.size_alloc] at A2
  have F := fun w => implPinFault_any p w hn
  by_cases h : p.f = 0
  · have e : packPL p = packP p := by simp [packPL, h]
    rw [e]
    obtain ⟨hn20, ha, hb, ⟨he0, he1⟩, hu⟩ := pin_bounds h
    have he2 : 0 ≤ p.e := by omega
    obtain ⟨i0, hi0, hz0, hz1, hz2⟩ := info_parts u8_info
    have hmk : ∀ W : World, (Instr.makeSlice 22 (.int .i64 0) (.int .i64 (7 + (p.n.size : Int)))).run Tryz.prog W = .ok (.slice (some ⟨W.heap.size, 0, none⟩) 0 (7 + p.n.size)) (W.alloc (.cells (madeCells #[.int .u8 0] (7 + p.n.size)) 5)) := by
      intro W
      have := run_make (P := Tryz.prog) W 22 5 i0 (.int .u8 0) Tryz.underlying22 hi0 hz0 .i64 .i64 0 (7 + p.n.size) (by omega) (by omega) (by rw [hz2]; omega) (by omega)
      simpa [hz1, Value.cells, show (7 + (p.n.size : Int)).toNat = 7 + p.n.size by omega] using this
    simp only [h] at F ⊢
    clear e h
    go_enter Tryz.func135, Tryz.ntmps135
    go_wp2_with fail
    generalize (w.alloc (.cells #[.string p.n, .int .i64 p.a, .int .i64 p.b, .int .i64 p.e, .int .i64 p.u] 31)).alloc (.cells #[.int .i64 0, .slice none 0 0] 185) = W0 at *
    refine (F _).mono ?_
    rintro r V ⟨rfl, h1⟩
    have bV := btr b0 h1
    have AV := A1.on h1
    have AR := A2.on h1
    have ltV := AR.lt (by simp)
    have d0 := AV.cell 0 _ rfl
    have d1 := AV.cell 1 _ rfl
    have d2 := AV.cell 2 _ rfl
    have d3 := AV.cell 3 _ rfl
    have d4 := AV.cell 4 _ rfl
    clear b0 h1 A1 A2 F
    have O1 : OwnK .u8 (V.alloc (.cells (madeCells #[.int .u8 0] (7 + p.n.size)) 5)).drew V.heap.size (.slice (some ⟨V.heap.size, 0, none⟩) 0 (7 + p.n.size)) [] := by
      have := Own.made (size := 1) (B := V.heap.size) V (madeCells #[.int .u8 0] (7 + p.n.size)) 5 (7 + p.n.size) (Nat.le_refl _) (by simp only [maxLen]; omega) (by rw [size_madeCells]; omega)
      simpa [OwnK] using this.drew
    have S0 : Bel V (V.alloc (.cells (madeCells #[.int .u8 0] (7 + p.n.size)) 5)).drew := ⟨(bal (Below.refl _ V) _).drew⟩
    go_wp2_with fail
    refine wp_region_fork (Bel V) (by kernel_rfl) (S0) ?_
    have hst : (Bel V) _ := (S0)
    have inst : Nonempty (Of (Bel V)) := ⟨⟨_, hst⟩⟩
    have u1 := bel_cell d1
    have u2 := bel_cell d2
    have u3 := bel_cell d3
    generalize (V.alloc (.cells (madeCells #[.int .u8 0] (7 + p.n.size)) 5)).drew = V1 at *
    clear S0
    refine any_seg 5 [(0, true), (1, true), (2, true), (4, true), (5, true), (7, true), (8, true), (9, true)] (by kernel_rfl) (fun _ _ d _ _ h => by cases d <;> exact h) ?_
    iterate 8 (refine line_read rfl (by kernel_rfl) (fun K hK => ?_); go_big_quiet_op; refine hK _ ?_; clear hK K)
    refine line_nil ?_
    clear u1 u2 u3 inst
    have hzV1 := hst.out.size
    refine any_fork 3 10 (by kernel_rfl) rfl rfl (by kernel_rfl) (by kernel_rfl) (fun K hK => ?_) (fun K hK => ?_)
    · refine call_any (args := #[.slice (some ⟨V.heap.size, 0, none⟩) 0 (7 + p.n.size), .int .i64 p.a]) rfl (by kernel_rfl) (by kernel_rfl) (appendTwo_any _ p.a V.heap.size [] _ O1 hzV1 ha (by simp)) ?_
      rintro e w3 ⟨v3, rfl, O3, g3⟩
      have b3 : Below V.heap.size V w3 := Own.grown O1 hst.out hzV1 g3
      refine ⟨_, rfl, hK _ _ ⟨b3⟩ ?_⟩
      clear hK K
      simp only [Act.put, List.setIfInBounds_toArray, List.set_cons_zero, List.set_cons_succ]
      have hz3 := b3.size
      clear O1 hst g3 hzV1
      refine any_fork 6 10 (by kernel_rfl) rfl rfl (by kernel_rfl) (by kernel_rfl) (fun K hK => ?_) (fun K hK => ?_)
      · refine call_any (args := #[v3, .int .i64 p.b]) rfl (by kernel_rfl) (by kernel_rfl) (appendTwo_any _ p.b V.heap.size ([] ++ M.two p.a) _ O3 hz3 hb (by simp [M.two])) ?_
        rintro e w6 ⟨v6, rfl, O6, g6⟩
        have b6 : Below V.heap.size V w6 := Own.grown O3 b3 hz3 g6
        refine ⟨_, rfl, hK _ _ ⟨b6⟩ ?_⟩
        clear hK K
        simp only [Act.put, List.setIfInBounds_toArray, List.set_cons_zero, List.set_cons_succ]
        have hz6 := b6.size
        clear O3 b3 hz3 g6
        refine any_rest [(10, false), (11, false), (12, true)] (by kernel_rfl) (fun _ _ d _ _ h => by cases d <;> exact h) ?_
        refine line_alone rfl (by kernel_rfl) (fun K hK => ?_)
        go_big_op
        refine hK _ _ (⟨bal b6 _⟩) ?_
        clear hK K
        have O10 : OwnK .u8 (w6.alloc (.cells #[.int .u8 p.e] 5)) V.heap.size v6 (M.two p.a ++ M.two p.b) := Own.alloc O6 _
        have b10 := bal b6 (.cells #[.int .u8 p.e] 5)
        have hz10 := b10.size
        have hsr := src_new (P := Tryz.prog) w6 [.int .u8 p.e] 1 1 5 22 5 Tryz.underlying22 rfl (ints_oneCell .u8 [p.e])
        refine line_alone rfl (by kernel_rfl) (fun K hK => ?_)
        refine wp_append_src _ (.tmp 22) (.tmp 26) 22 22 rfl V.heap.size 5 i0 (.int .u8 0) 1 1 Tryz.underlying22 hi0 hz0 hz1 hz2 rfl _ 4 ((M.two p.a ++ M.two p.b).map (Value.int .u8)) rfl O10 _ 1 [.int .u8 p.e] rfl hsr (by simp only [maxLen]; omega) (by omega) hz10 (fun v11 w11 hown hgrow hat => ?_)
        have b11 : Below V.heap.size V w11 := Own.grown O10 b10 hz10 hgrow
        have O11 : OwnK .u8 w11 V.heap.size v11 (M.two p.a ++ M.two p.b ++ [p.e]) := by unfold OwnK; simpa [M.two] using hown
        refine hK _ _ ⟨b11⟩ ?_
        clear hK K hown hgrow hat
        simp only [Act.put, List.setIfInBounds_toArray, List.set_cons_zero, List.set_cons_succ]
        clear O10 b10 hz10 hsr O6 b6 hz6
        have inst : Nonempty (Of (Bel V)) := ⟨⟨_, ⟨b11⟩⟩⟩
        iterate 1 (refine line_read rfl (by kernel_rfl) (fun K hK => ?_); go_big_quiet_op; refine hK _ ?_; clear hK K)
        refine line_nil ?_
        have S6 : Hold w w.heap.size p.vals w11.drew := ⟨(btr bV b11).drew, (AV.on b11).on (bdrew _)⟩
        have b11d : Below V.heap.size V w11.drew := b11.drew
        have O11d : OwnK .u8 w11.drew V.heap.size v11 (M.two p.a ++ M.two p.b ++ [p.e]) := O11
        have hz11 : V.heap.size ≤ w11.drew.heap.size := b11.size
        clear inst b11 O11
        go_wp2_with fail
        refine wp_region_line (Hold w w.heap.size p.vals) [(0, true), (1, true), (2, true), (4, true), (5, true), (3, false), (6, false), (7, true), (8, false)] (by kernel_rfl) (by kernel_rfl) (fun _ _ d _ _ h => by cases d <;> exact h) S6 ?_
        have hst := S6
        have inst : Nonempty (Of (Hold w w.heap.size p.vals)) := ⟨⟨_, hst⟩⟩
        have k0 := hold_cell (W := w) (g := w.heap.size) (cs := p.vals) 0 _ rfl
        have k4 := hold_cell (W := w) (g := w.heap.size) (cs := p.vals) 4 _ rfl
        generalize w11.drew = V6 at *
        iterate 5 (refine line_read rfl (by kernel_rfl) (fun K hK => ?_); go_big_quiet_op; refine hK _ ?_; clear hK K)
        clear k0 k4 S6 hst
        refine line_alone rfl (by kernel_rfl) (fun K hK => ?_)
        refine call_any (args := #[v11, .int .i64 p.u]) rfl (by kernel_rfl) (by kernel_rfl) (appendTwo_any _ p.u V.heap.size _ V6 O11d hz11 hu (by simp [M.two])) ?_
        rintro e w12 ⟨v12, rfl, O12, g12⟩
        have b12 : Below V.heap.size V w12 := Own.grown O11d b11d hz11 g12
        refine ⟨_, rfl, hK _ _ ⟨btr bV b12, AV.on b12⟩ ?_⟩
        clear hK K O11d g12 b11d hz11
        simp only [Act.put, List.setIfInBounds_toArray, List.set_cons_zero, List.set_cons_succ]
        have hz12 := b12.size
        have O12' : OwnK .u8 w12 V.heap.size v12 (headP p.a p.b p.e p.u) := O12
        have hsrc := Src.ofString (P := Tryz.prog) w12 (tx := 9) Tryz.underlying9 p.n
        refine line_alone rfl (by kernel_rfl) (fun K hK => ?_)
        refine wp_append_src _ (.tmp 31) (.tmp 33) 22 9 rfl V.heap.size 5 i0 (.int .u8 0) 1 1 Tryz.underlying22 hi0 hz0 hz1 hz2 rfl _ _ _ rfl O12' _ p.n.size _ rfl hsrc (by rw [headP_length]; simp only [maxLen]; omega) (by rw [headP_length]; omega) hz12 (fun v13 w13 hown hgrow hat => ?_)
        have b13 : Below V.heap.size V w13 := O12'.grown b12 hz12 hgrow
        obtain ⟨a13, c13, hv13, -⟩ := Own.form hown
        have O13 : OwnK .u8 w13 V.heap.size v13 (packP p) := by
          unfold OwnK packP
          rw [List.length_append, M.textL_length, List.map_append]
          have e : (M.textL p.n).map (Value.int .u8) = byteCells p.n := by simp [M.textL, byteCells, List.map_map, Function.comp_def]
          rw [e]
          exact hown
        subst hv13
        refine hK _ _ ⟨btr bV b13, AV.on b13⟩ ?_
        clear hK K hown hgrow hat O12 O12' hsrc
        simp only [Act.put, List.setIfInBounds_toArray, List.set_cons_zero, List.set_cons_succ]
        refine line_readv (v := .agg #[.int .i64 0, .slice a13 ((headP p.a p.b p.e p.u).length + p.n.size) c13]) rfl (by kernel_rfl) (fun _ => by kernel_rfl) ?_
        simp only [Act.put, List.setIfInBounds_toArray, List.set_cons_zero, List.set_cons_succ]
        have AR13 := AR.on b13
        have q0 := AR13.cell 0 _ rfl
        have q1 := AR13.cell 1 _ rfl
        have z0 := AR13.free 0 _ rfl
        have z1 := AR13.free 1 _ rfl
        refine line_alone rfl (by kernel_rfl) (fun K hK => ?_)
        go_big_op
        refine hK _ _ ((by (iterate 2 (refine Hold.setB ?_ (by dsimp only; omega) (by dsimp only; omega) _)); exact ⟨btr bV b13, AV.on b13⟩)) ?_
        clear hK K
        refine line_nil ?_
        have HT := Lib.hid (And.intro O13 (btr bV b13))
        clear O13 b13 AR13 inst AV AR
        go_wp2_with fail
        refine bodyPost_ret (v := .agg #[.int .i64 0, .slice a13 ((headP p.a p.b p.e p.u).length + p.n.size) c13]) (by simp [results, Tryz.results135, go_sem, q0, q1]) rfl ?_
        exact ⟨_, _, _, rfl, (by (iterate 2 (refine Own.setCell ?_ (fun g hg => by have := (HT.out.1.lt g hg).1; dsimp only; omega) _)); exact HT.out.1.less (by omega)), (by (iterate 2 (refine bset ?_ (by dsimp only; omega) _)); exact HT.out.2)⟩
      · go_big_op
        have bX := bal b3 (.cells #[.int .u8 p.e] 5)
        have O3X : OwnK .u8 (w3.alloc (.cells #[.int .u8 p.e] 5)) V.heap.size v3 ([] ++ M.two p.a) := Own.alloc O3 _
        have eX : (w3.alloc (.cells #[.int .u8 p.e] 5)).heap[w3.heap.size]? = some (.cells #[.int .u8 p.e] 5) := (MapKept.heap_alloc w3 _).1
        have hlX : w3.heap.size < (w3.alloc (.cells #[.int .u8 p.e] 5)).heap.size := by simp
        have hnX : ∀ k, v3.ownBlock = some k → k ≠ w3.heap.size := fun k hk => by have := (Own.lt O3 k hk).2; omega
        refine hK _ _ ⟨bX⟩ ?_
        clear hK K O3 b3
        generalize w3.alloc (.cells #[.int .u8 p.e] 5) = X at *
        refine any_rest [(6, false), (11, false), (12, true)] (by kernel_rfl) (fun _ _ d _ _ h => by cases d <;> exact h) ?_
        have hzX := bX.size
        refine line_alone rfl (by kernel_rfl) (fun K hK => ?_)
        refine call_any (args := #[v3, .int .i64 p.b]) rfl (by kernel_rfl) (by kernel_rfl) (appendTwo_any _ p.b V.heap.size ([] ++ M.two p.a) _ O3X hzX hb (by simp [M.two])) ?_
        rintro e w6 ⟨v6, rfl, O6, g6⟩
        have b6 : Below V.heap.size V w6 := Own.grown O3X bX hzX g6
        refine ⟨_, rfl, hK _ _ ⟨b6⟩ ?_⟩
        clear hK K
        simp only [Act.put, List.setIfInBounds_toArray, List.set_cons_zero, List.set_cons_succ]
        have e6 := (g6.block w3.heap.size hlX (fun e => hnX _ e.symm rfl)).trans eX
        have hz6 := b6.size
        have O10 : OwnK .u8 w6 V.heap.size v6 (M.two p.a ++ M.two p.b) := O6
        have hsr := src_at (P := Tryz.prog) w3.heap.size [.int .u8 p.e] 1 1 5 22 5 Tryz.underlying22 rfl (ints_oneCell .u8 [p.e]) e6
        clear O3X bX eX hlX hnX hzX g6 e6
        refine line_alone rfl (by kernel_rfl) (fun K hK => ?_)
        refine wp_append_src _ (.tmp 22) (.tmp 26) 22 22 rfl V.heap.size 5 i0 (.int .u8 0) 1 1 Tryz.underlying22 hi0 hz0 hz1 hz2 rfl _ 4 ((M.two p.a ++ M.two p.b).map (Value.int .u8)) rfl O10 _ 1 [.int .u8 p.e] rfl hsr (by simp only [maxLen]; omega) (by omega) hz6 (fun v11 w11 hown hgrow hat => ?_)
        have b11 : Below V.heap.size V w11 := Own.grown O10 b6 hz6 hgrow
        have O11 : OwnK .u8 w11 V.heap.size v11 (M.two p.a ++ M.two p.b ++ [p.e]) := by unfold OwnK; simpa [M.two] using hown
        refine hK _ _ ⟨b11⟩ ?_
        clear hK K hown hgrow hat
        simp only [Act.put, List.setIfInBounds_toArray, List.set_cons_zero, List.set_cons_succ]
        clear O10 O6 b6 hz6 hsr
        have inst : Nonempty (Of (Bel V)) := ⟨⟨_, ⟨b11⟩⟩⟩
        iterate 1 (refine line_read rfl (by kernel_rfl) (fun K hK => ?_); go_big_quiet_op; refine hK _ ?_; clear hK K)
        refine line_nil ?_
        have S6 : Hold w w.heap.size p.vals w11.drew := ⟨(btr bV b11).drew, (AV.on b11).on (bdrew _)⟩
        have b11d : Below V.heap.size V w11.drew := b11.drew
        have O11d : OwnK .u8 w11.drew V.heap.size v11 (M.two p.a ++ M.two p.b ++ [p.e]) := O11
        have hz11 : V.heap.size ≤ w11.drew.heap.size := b11.size
        clear inst b11 O11
        go_wp2_with fail
        refine wp_region_line (Hold w w.heap.size p.vals) [(0, true), (1, true), (2, true), (4, true), (5, true), (3, false), (6, false), (7, true), (8, false)] (by kernel_rfl) (by kernel_rfl) (fun _ _ d _ _ h => by cases d <;> exact h) S6 ?_
        have hst := S6
        have inst : Nonempty (Of (Hold w w.heap.size p.vals)) := ⟨⟨_, hst⟩⟩
        have k0 := hold_cell (W := w) (g := w.heap.size) (cs := p.vals) 0 _ rfl
        have k4 := hold_cell (W := w) (g := w.heap.size) (cs := p.vals) 4 _ rfl
        generalize w11.drew = V6 at *
        iterate 5 (refine line_read rfl (by kernel_rfl) (fun K hK => ?_); go_big_quiet_op; refine hK _ ?_; clear hK K)
        clear k0 k4 S6 hst
        refine line_alone rfl (by kernel_rfl) (fun K hK => ?_)
        refine call_any (args := #[v11, .int .i64 p.u]) rfl (by kernel_rfl) (by kernel_rfl) (appendTwo_any _ p.u V.heap.size _ V6 O11d hz11 hu (by simp [M.two])) ?_
        rintro e w12 ⟨v12, rfl, O12, g12⟩
        have b12 : Below V.heap.size V w12 := Own.grown O11d b11d hz11 g12
        refine ⟨_, rfl, hK _ _ ⟨btr bV b12, AV.on b12⟩ ?_⟩
        clear hK K O11d g12 b11d hz11
        simp only [Act.put, List.setIfInBounds_toArray, List.set_cons_zero, List.set_cons_succ]
        have hz12 := b12.size
        have O12' : OwnK .u8 w12 V.heap.size v12 (headP p.a p.b p.e p.u) := O12
        have hsrc := Src.ofString (P := Tryz.prog) w12 (tx := 9) Tryz.underlying9 p.n
        refine line_alone rfl (by kernel_rfl) (fun K hK => ?_)
        refine wp_append_src _ (.tmp 31) (.tmp 33) 22 9 rfl V.heap.size 5 i0 (.int .u8 0) 1 1 Tryz.underlying22 hi0 hz0 hz1 hz2 rfl _ _ _ rfl O12' _ p.n.size _ rfl hsrc (by rw [headP_length]; simp only [maxLen]; omega) (by rw [headP_length]; omega) hz12 (fun v13 w13 hown hgrow hat => ?_)
        have b13 : Below V.heap.size V w13 := O12'.grown b12 hz12 hgrow
        obtain ⟨a13, c13, hv13, -⟩ := Own.form hown
        have O13 : OwnK .u8 w13 V.heap.size v13 (packP p) := by
          unfold OwnK packP
          rw [List.length_append, M.textL_length, List.map_append]
          have e : (M.textL p.n).map (Value.int .u8) = byteCells p.n := by simp [M.textL, byteCells, List.map_map, Function.comp_def]
          rw [e]
          exact hown
        subst hv13
        refine hK _ _ ⟨btr bV b13, AV.on b13⟩ ?_
        clear hK K hown hgrow hat O12 O12' hsrc
        simp only [Act.put, List.setIfInBounds_toArray, List.set_cons_zero, List.set_cons_succ]
        refine line_readv (v := .agg #[.int .i64 0, .slice a13 ((headP p.a p.b p.e p.u).length + p.n.size) c13]) rfl (by kernel_rfl) (fun _ => by kernel_rfl) ?_
        simp only [Act.put, List.setIfInBounds_toArray, List.set_cons_zero, List.set_cons_succ]
        have AR13 := AR.on b13
        have q0 := AR13.cell 0 _ rfl
        have q1 := AR13.cell 1 _ rfl
        have z0 := AR13.free 0 _ rfl
        have z1 := AR13.free 1 _ rfl
        refine line_alone rfl (by kernel_rfl) (fun K hK => ?_)
        go_big_op
        refine hK _ _ ((by (iterate 2 (refine Hold.setB ?_ (by dsimp only; omega) (by dsimp only; omega) _)); exact ⟨btr bV b13, AV.on b13⟩)) ?_
        clear hK K
        refine line_nil ?_
        have HT := Lib.hid (And.intro O13 (btr bV b13))
        clear O13 b13 AR13 inst AV AR
        go_wp2_with fail
        refine bodyPost_ret (v := .agg #[.int .i64 0, .slice a13 ((headP p.a p.b p.e p.u).length + p.n.size) c13]) (by simp [results, Tryz.results135, go_sem, q0, q1]) rfl ?_
        exact ⟨_, _, _, rfl, (by (iterate 2 (refine Own.setCell ?_ (fun g hg => by have := (HT.out.1.lt g hg).1; dsimp only; omega) _)); exact HT.out.1.less (by omega)), (by (iterate 2 (refine bset ?_ (by dsimp only; omega) _)); exact HT.out.2)⟩
    · go_big_op
      have bX := bal hst.out (.cells #[.int .u8 p.e] 5)
      have O1X : OwnK .u8 (V1.alloc (.cells #[.int .u8 p.e] 5)) V.heap.size (.slice (some ⟨V.heap.size, 0, none⟩) 0 (7 + p.n.size)) [] := Own.alloc O1 _
      have eX : (V1.alloc (.cells #[.int .u8 p.e] 5)).heap[V1.heap.size]? = some (.cells #[.int .u8 p.e] 5) := (MapKept.heap_alloc V1 _).1
      have hlX : V1.heap.size < (V1.alloc (.cells #[.int .u8 p.e] 5)).heap.size := by simp
      have hltV := (Own.lt O1 V.heap.size rfl).2
      refine hK _ _ ⟨bX⟩ ?_
      clear hK K O1 hst
      generalize V1.alloc (.cells #[.int .u8 p.e] 5) = X at *
      refine any_rest [(3, false), (6, false), (11, false), (12, true)] (by kernel_rfl) (fun _ _ d _ _ h => by cases d <;> exact h) ?_
      have hzX := bX.size
      refine line_alone rfl (by kernel_rfl) (fun K hK => ?_)
      refine call_any (args := #[.slice (some ⟨V.heap.size, 0, none⟩) 0 (7 + p.n.size), .int .i64 p.a]) rfl (by kernel_rfl) (by kernel_rfl) (appendTwo_any _ p.a V.heap.size [] _ O1X hzX ha (by simp)) ?_
      rintro e w3 ⟨v3, rfl, O3, g3⟩
      have b3 : Below V.heap.size V w3 := Own.grown O1X bX hzX g3
      refine ⟨_, rfl, hK _ _ ⟨b3⟩ ?_⟩
      clear hK K
      simp only [Act.put, List.setIfInBounds_toArray, List.set_cons_zero, List.set_cons_succ]
      have hz3 := b3.size
      have e3 := (g3.block V1.heap.size hlX (fun e => by simp [Value.ownBlock] at e; omega)).trans eX
      have hl3 : V1.heap.size < w3.heap.size := Nat.lt_of_lt_of_le hlX g3.size
      have hn3 : ∀ k, v3.ownBlock = some k → k ≠ V1.heap.size := fun k hk ek => two_else O3 e3 hk ek
      refine line_alone rfl (by kernel_rfl) (fun K hK => ?_)
      refine call_any (args := #[v3, .int .i64 p.b]) rfl (by kernel_rfl) (by kernel_rfl) (appendTwo_any _ p.b V.heap.size ([] ++ M.two p.a) _ O3 hz3 hb (by simp [M.two])) ?_
      rintro e w6 ⟨v6, rfl, O6, g6⟩
      have b6 : Below V.heap.size V w6 := Own.grown O3 b3 hz3 g6
      refine ⟨_, rfl, hK _ _ ⟨b6⟩ ?_⟩
      clear hK K
      simp only [Act.put, List.setIfInBounds_toArray, List.set_cons_zero, List.set_cons_succ]
      have e6 := (g6.block V1.heap.size hl3 (fun e => hn3 _ e.symm rfl)).trans e3
      have hz6 := b6.size
      have O10 : OwnK .u8 w6 V.heap.size v6 (M.two p.a ++ M.two p.b) := O6
      have hsr := src_at (P := Tryz.prog) V1.heap.size [.int .u8 p.e] 1 1 5 22 5 Tryz.underlying22 rfl (ints_oneCell .u8 [p.e]) e6
      clear O1X bX eX hlX hzX g3 g6 e3 e6 hl3 hn3 O3 b3 hz3
      refine line_alone rfl (by kernel_rfl) (fun K hK => ?_)
      refine wp_append_src _ (.tmp 22) (.tmp 26) 22 22 rfl V.heap.size 5 i0 (.int .u8 0) 1 1 Tryz.underlying22 hi0 hz0 hz1 hz2 rfl _ 4 ((M.two p.a ++ M.two p.b).map (Value.int .u8)) rfl O10 _ 1 [.int .u8 p.e] rfl hsr (by simp only [maxLen]; omega) (by omega) hz6 (fun v11 w11 hown hgrow hat => ?_)
      have b11 : Below V.heap.size V w11 := Own.grown O10 b6 hz6 hgrow
      have O11 : OwnK .u8 w11 V.heap.size v11 (M.two p.a ++ M.two p.b ++ [p.e]) := by unfold OwnK; simpa [M.two] using hown
      refine hK _ _ ⟨b11⟩ ?_
      clear hK K hown hgrow hat
      simp only [Act.put, List.setIfInBounds_toArray, List.set_cons_zero, List.set_cons_succ]
      clear O10 O6 b6 hz6 hsr
      have inst : Nonempty (Of (Bel V)) := ⟨⟨_, ⟨b11⟩⟩⟩
      iterate 1 (refine line_read rfl (by kernel_rfl) (fun K hK => ?_); go_big_quiet_op; refine hK _ ?_; clear hK K)
      refine line_nil ?_
      have S6 : Hold w w.heap.size p.vals w11.drew := ⟨(btr bV b11).drew, (AV.on b11).on (bdrew _)⟩
      have b11d : Below V.heap.size V w11.drew := b11.drew
      have O11d : OwnK .u8 w11.drew V.heap.size v11 (M.two p.a ++ M.two p.b ++ [p.e]) := O11
      have hz11 : V.heap.size ≤ w11.drew.heap.size := b11.size
      clear inst b11 O11
      go_wp2_with fail
      refine wp_region_line (Hold w w.heap.size p.vals) [(0, true), (1, true), (2, true), (4, true), (5, true), (3, false), (6, false), (7, true), (8, false)] (by kernel_rfl) (by kernel_rfl) (fun _ _ d _ _ h => by cases d <;> exact h) S6 ?_
      have hst := S6
      have inst : Nonempty (Of (Hold w w.heap.size p.vals)) := ⟨⟨_, hst⟩⟩
      have k0 := hold_cell (W := w) (g := w.heap.size) (cs := p.vals) 0 _ rfl
      have k4 := hold_cell (W := w) (g := w.heap.size) (cs := p.vals) 4 _ rfl
      generalize w11.drew = V6 at *
      iterate 5 (refine line_read rfl (by kernel_rfl) (fun K hK => ?_); go_big_quiet_op; refine hK _ ?_; clear hK K)
      clear k0 k4 S6 hst
      refine line_alone rfl (by kernel_rfl) (fun K hK => ?_)
      refine call_any (args := #[v11, .int .i64 p.u]) rfl (by kernel_rfl) (by kernel_rfl) (appendTwo_any _ p.u V.heap.size _ V6 O11d hz11 hu (by simp [M.two])) ?_
      rintro e w12 ⟨v12, rfl, O12, g12⟩
      have b12 : Below V.heap.size V w12 := Own.grown O11d b11d hz11 g12
      refine ⟨_, rfl, hK _ _ ⟨btr bV b12, AV.on b12⟩ ?_⟩
      clear hK K O11d g12 b11d hz11
      simp only [Act.put, List.setIfInBounds_toArray, List.set_cons_zero, List.set_cons_succ]
      have hz12 := b12.size
      have O12' : OwnK .u8 w12 V.heap.size v12 (headP p.a p.b p.e p.u) := O12
      have hsrc := Src.ofString (P := Tryz.prog) w12 (tx := 9) Tryz.underlying9 p.n
      refine line_alone rfl (by kernel_rfl) (fun K hK => ?_)
      refine wp_append_src _ (.tmp 31) (.tmp 33) 22 9 rfl V.heap.size 5 i0 (.int .u8 0) 1 1 Tryz.underlying22 hi0 hz0 hz1 hz2 rfl _ _ _ rfl O12' _ p.n.size _ rfl hsrc (by rw [headP_length]; simp only [maxLen]; omega) (by rw [headP_length]; omega) hz12 (fun v13 w13 hown hgrow hat => ?_)
      have b13 : Below V.heap.size V w13 := O12'.grown b12 hz12 hgrow
      obtain ⟨a13, c13, hv13, -⟩ := Own.form hown
      have O13 : OwnK .u8 w13 V.heap.size v13 (packP p) := by
        unfold OwnK packP
        rw [List.length_append, M.textL_length, List.map_append]
        have e : (M.textL p.n).map (Value.int .u8) = byteCells p.n := by simp [M.textL, byteCells, List.map_map, Function.comp_def]
        rw [e]
        exact hown
      subst hv13
      refine hK _ _ ⟨btr bV b13, AV.on b13⟩ ?_
      clear hK K hown hgrow hat O12 O12' hsrc
      simp only [Act.put, List.setIfInBounds_toArray, List.set_cons_zero, List.set_cons_succ]
      refine line_readv (v := .agg #[.int .i64 0, .slice a13 ((headP p.a p.b p.e p.u).length + p.n.size) c13]) rfl (by kernel_rfl) (fun _ => by kernel_rfl) ?_
      simp only [Act.put, List.setIfInBounds_toArray, List.set_cons_zero, List.set_cons_succ]
      have AR13 := AR.on b13
      have q0 := AR13.cell 0 _ rfl
      have q1 := AR13.cell 1 _ rfl
      have z0 := AR13.free 0 _ rfl
      have z1 := AR13.free 1 _ rfl
      refine line_alone rfl (by kernel_rfl) (fun K hK => ?_)
      go_big_op
      refine hK _ _ ((by (iterate 2 (refine Hold.setB ?_ (by dsimp only; omega) (by dsimp only; omega) _)); exact ⟨btr bV b13, AV.on b13⟩)) ?_
      clear hK K
      refine line_nil ?_
      have HT := Lib.hid (And.intro O13 (btr bV b13))
      clear O13 b13 AR13 inst AV AR
      go_wp2_with fail
      refine bodyPost_ret (v := .agg #[.int .i64 0, .slice a13 ((headP p.a p.b p.e p.u).length + p.n.size) c13]) (by simp [results, Tryz.results135, go_sem, q0, q1]) rfl ?_
      exact ⟨_, _, _, rfl, (by (iterate 2 (refine Own.setCell ?_ (fun g hg => by have := (HT.out.1.lt g hg).1; dsimp only; omega) _)); exact HT.out.1.less (by omega)), (by (iterate 2 (refine bset ?_ (by dsimp only; omega) _)); exact HT.out.2)⟩
  · have e : packPL p = [] := by simp [packPL, h]
    rw [e]
    generalize p.f = cd at *
    clear e
    go_enter Tryz.func135, Tryz.ntmps135
    go_wp2_with fail
    generalize (w.alloc (.cells #[.string p.n, .int .i64 p.a, .int .i64 p.b, .int .i64 p.e, .int .i64 p.u] 31)).alloc (.cells #[.int .i64 0, .slice none 0 0] 185) = W0 at *
    refine (F _).mono ?_
    rintro r w1 ⟨rfl, b1⟩
    have q0 := (A2.on b1).cell 0 _ rfl
    have q1 := (A2.on b1).cell 1 _ rfl
    have z0 := (A2.on b1).free 0 _ rfl
    have z1 := (A2.on b1).free 1 _ rfl
    have hb := btr b0 b1
    clear A1 A2 b0 b1 F
    go_wp2_with fail
    refine bodyPost_ret (v := .agg #[.int .i64 cd, .slice none 0 0]) (by simp [results, Tryz.results135, go_sem, q0, q1]) rfl ?_
    exact ⟨_, _, _, rfl, Own.nil _ _ _, (by (iterate 2 (refine bset ?_ (by dsimp only; omega) _)); exact hb)⟩
end Go.Proofs.YtcolecidbalmhaaGreatDoor
namespace Go.Proofs.YtcolecidbalmhaaGreatDoor
open Go.RowKit
set_option maxRecDepth 100000
set_option linter.unusedVariables false

/-- An error of what does not fit was answered. -/
def Mis8 (c : Int) (w : World) (r : Ending) (w' : World) : Prop := ∃ s, r = .returned (misV c s) ∧ Below w.heap.size w w'
/-- A rollover that has a fault: an error that has its code. -/
def Roll8No (c : Int) (w : World) (r : Ending) (w' : World) : Prop := ∃ e, ErrC1 c e ∧ r = .returned (.tuple #[R8 roll0, e]) ∧ Below w.heap.size w w'
def zero8 : List Value := [.string { data := #[] }, .int .i64 0, .int .i64 0, .int .i64 0, .int .i64 0, .int .i64 0, .int .i64 0, .int .i64 0]
end Go.Proofs.YtcolecidbalmhaaGreatDoor
namespace Go.Proofs.YtcolecidbalmhaaGreatDoor
open Go.RowKit
set_option maxRecDepth 100000
set_option linter.unusedVariables false

def zer8 : List Value := [.string { data := #[] }, .int .i64 0, .int .i64 0, .int .i64 0, .int .i64 0, .int .i64 0, .int .i64 0, .int .i64 0]
def zer9 : List Value := [.int .i64 0, .string { data := #[] }, .int .i64 0, .int .i64 0, .int .i64 0, .int .i64 0, .int .i64 0, .int .i64 0, .int .i64 0]
theorem kp1 (a b : Int) (w : World) : Sem.run Tryz.prog (Instr.field 242 (.agg #[.int .i64 a, .int .i64 b]) 1) w = .ok (.int .i64 b) w := by kernel_rfl
/-- Blocks that are read, and nothing of W has turned. -/
structure HoldL (W : World) (bs : List (Nat × List Value)) (cur : World) : Prop where
  bel : Below W.heap.size W cur
  at' : ∀ x ∈ bs, At x.1 x.2 cur
theorem HoldL.on {W cur cur' : World} {bs : List (Nat × List Value)} (h : HoldL W bs cur) (hb : Below cur.heap.size cur cur') : HoldL W bs cur' := ⟨btr h.bel hb, fun x hx => (h.at' x hx).on hb⟩
theorem HoldL.cell {W : World} {bs : List (Nat × List Value)} {g : Nat} {cs : List Value} (hx : (g, cs) ∈ bs) (i : Nat) (v : Value) (h : cs[i]? = some v) : ∀ z : Of (HoldL W bs), z.val.cell? ⟨g, i, none⟩ = some v := fun z => (z.prop.at' _ hx).cell i v h
theorem l8Sign_any (s : Int) (p : PinD) (w : World) (hs : inB s 1 1438 = true) (h : p.f = 0) :
    Calls Tryz.prog 142 #[.int .i64 s, P5 p] w fun e w' => e = .returned (R8 (signD s p)) ∧ Below w.heap.size w w' := by
  have b0 := bal (bal (Below.refl _ w) (.cells #[.string p.n, .int .i64 p.a, .int .i64 p.b, .int .i64 p.e, .int .i64 p.u] 31)) (.cells #[.string { data := #[] }, .int .i64 0, .int .i64 0, .int .i64 0, .int .i64 0, .int .i64 0, .int .i64 0, .int .i64 0] 40)
  have A0 : At w.heap.size p.vals ((w.alloc (.cells #[.string p.n, .int .i64 p.a, .int .i64 p.b, .int .i64 p.e, .int .i64 p.u] 31)).alloc (.cells #[.string { data := #[] }, .int .i64 0, .int .i64 0, .int .i64 0, .int .i64 0, .int .i64 0, .int .i64 0, .int .i64 0] 40)) := (At.new w p.vals 31).alloc _
  have Z0 : At (w.heap.size + 1) zer8 ((w.alloc (.cells #[.string p.n, .int .i64 p.a, .int .i64 p.b, .int .i64 p.e, .int .i64 p.u] 31)).alloc (.cells #[.string { data := #[] }, .int .i64 0, .int .i64 0, .int .i64 0, .int .i64 0, .int .i64 0, .int .i64 0, .int .i64 0] 40)) := At.newN (w := w.alloc (.cells #[.string p.n, .int .i64 p.a, .int .i64 p.b, .int .i64 p.e, .int .i64 p.u] 31)) zer8 40 (by simp)
  have hs' := hs
  simp only [inB, decide_eq_true_eq] at hs'
  obtain ⟨s0, s1⟩ := hs'
  have KY := fun w => l1Key_any s w (by omega) (by omega)
  have S := fun g w A => l8Sum_any g p w A h
  have T := fun w => l3Sign_any s (rsum p) w hs (rsum_sum p)
  have e : signD s p = ⟨p, M.pw 4 s.toNat 2879, M.sigPt s (rsum p), M.sigPr s (rsum p)⟩ := rfl
  rw [e]
  clear e h hs
  generalize M.sigPt s (rsum p) = x at *
  generalize M.sigPr s (rsum p) = y at *
  generalize rsum p = z at *
  generalize M.pw 4 s.toNat 2879 = u at *
  have g1 := kp1
  go_enter Tryz.func142, Tryz.ntmps142
  go_wp2_with fail
  generalize (w.alloc (.cells #[.string p.n, .int .i64 p.a, .int .i64 p.b, .int .i64 p.e, .int .i64 p.u] 31)).alloc (.cells #[.string { data := #[] }, .int .i64 0, .int .i64 0, .int .i64 0, .int .i64 0, .int .i64 0, .int .i64 0, .int .i64 0] 40) = W0 at *
  have H0 : HoldL w [(w.heap.size, p.vals)] W0.drew := ⟨btr b0 (bdrew _), fun x hx => by simp only [List.mem_cons, List.not_mem_nil, or_false] at hx; subst hx; exact A0.on (bdrew _)⟩
  have Z := Z0.on (bdrew W0)
  have ltz := Z.lt (by simp [zer8])
  refine wp_region_line (HoldL w [(w.heap.size, p.vals)]) [(0, true), (1, true), (4, true), (2, false), (3, true), (5, false), (6, false), (7, true), (8, false)] (by kernel_rfl) (by kernel_rfl) (fun _ _ d _ _ h => by cases d <;> exact h) H0 ?_
  have hst := H0
  have inst : Nonempty (Of (HoldL w [(w.heap.size, p.vals)])) := ⟨⟨_, hst⟩⟩
  have q0 := HoldL.cell (W := w) (bs := [(w.heap.size, p.vals)]) (List.mem_cons_self ..) 0 _ rfl
  have q1 := HoldL.cell (W := w) (bs := [(w.heap.size, p.vals)]) (List.mem_cons_self ..) 1 _ rfl
  have q2 := HoldL.cell (W := w) (bs := [(w.heap.size, p.vals)]) (List.mem_cons_self ..) 2 _ rfl
  have q3 := HoldL.cell (W := w) (bs := [(w.heap.size, p.vals)]) (List.mem_cons_self ..) 3 _ rfl
  have q4 := HoldL.cell (W := w) (bs := [(w.heap.size, p.vals)]) (List.mem_cons_self ..) 4 _ rfl
  clear H0 A0 Z0 b0
  generalize W0.drew = V1 at *
  iterate 3 (refine line_read rfl (by kernel_rfl) (fun K hK => ?_); go_big_quiet_op; refine hK _ ?_; clear hK K)
  refine line_alone rfl (by kernel_rfl) (fun K hK => ?_)
  refine call_any (args := #[.int .i64 s]) rfl (by kernel_rfl) (by kernel_rfl) (KY _) ?_
  rintro e wn ⟨rfl, hbn⟩
  have hstN := hst.on hbn
  have ZN := Z.on hbn
  refine ⟨_, rfl, hK _ _ hstN ?_⟩
  clear hK K hst hbn Z
  have hst := hstN
  have Z := ZN
  clear hstN ZN
  simp only [Act.put, List.setIfInBounds_toArray, List.set_cons_zero, List.set_cons_succ]
  iterate 1 (refine line_read rfl (by kernel_rfl) (fun K hK => ?_); go_big_quiet_op; refine hK _ ?_; clear hK K)
  refine line_alone rfl (by kernel_rfl) (fun K hK => ?_)
  refine call_any (args := #[.pointer (some ⟨w.heap.size, 0, none⟩)]) rfl (by kernel_rfl) (by kernel_rfl) (S _ _ (hst.at' _ (List.mem_cons_self ..))) ?_
  rintro e wn ⟨rfl, hbn⟩
  have hstN := hst.on hbn
  have ZN := Z.on hbn
  refine ⟨_, rfl, hK _ _ hstN ?_⟩
  clear hK K hst hbn Z
  have hst := hstN
  have Z := ZN
  clear hstN ZN
  simp only [Act.put, List.setIfInBounds_toArray, List.set_cons_zero, List.set_cons_succ]
  refine line_alone rfl (by kernel_rfl) (fun K hK => ?_)
  refine call_any (args := #[.int .i64 s, .int .i64 z]) rfl (by kernel_rfl) (by kernel_rfl) (T _) ?_
  rintro e wn ⟨rfl, hbn⟩
  have hstN := hst.on hbn
  have ZN := Z.on hbn
  refine ⟨_, rfl, hK _ _ hstN ?_⟩
  clear hK K hst hbn Z
  have hst := hstN
  have Z := ZN
  clear hstN ZN
  simp only [Act.put, List.setIfInBounds_toArray, List.set_cons_zero, List.set_cons_succ]
  iterate 1 (refine line_read rfl (by kernel_rfl) (fun K hK => ?_); go_big_quiet_op; refine hK _ ?_; clear hK K)
  have z0 := Z.cell 0 _ rfl
  have z1 := Z.cell 1 _ rfl
  have z2 := Z.cell 2 _ rfl
  have z3 := Z.cell 3 _ rfl
  have z4 := Z.cell 4 _ rfl
  have z5 := Z.cell 5 _ rfl
  have z6 := Z.cell 6 _ rfl
  have z7 := Z.cell 7 _ rfl
  have h0 := Z.free 0 _ rfl
  have h1 := Z.free 1 _ rfl
  have h2 := Z.free 2 _ rfl
  have h3 := Z.free 3 _ rfl
  have h4 := Z.free 4 _ rfl
  have h5 := Z.free 5 _ rfl
  have h6 := Z.free 6 _ rfl
  have h7 := Z.free 7 _ rfl
  have P8 : At w.heap.size p.vals ((((((((wn.setCell ⟨w.heap.size + 1, 0, none⟩ (.string p.n)).setCell ⟨w.heap.size + 1, 1, none⟩ (.int .i64 p.a)).setCell ⟨w.heap.size + 1, 2, none⟩ (.int .i64 p.b)).setCell ⟨w.heap.size + 1, 3, none⟩ (.int .i64 p.e)).setCell ⟨w.heap.size + 1, 4, none⟩ (.int .i64 p.u)).setCell ⟨w.heap.size + 1, 5, none⟩ (.int .i64 u)).setCell ⟨w.heap.size + 1, 6, none⟩ (.int .i64 x)).setCell ⟨w.heap.size + 1, 7, none⟩ (.int .i64 y)) := by
    have hp := hst.at' _ (List.mem_cons_self ..)
    iterate 8 (refine At.setB ?_ (by simp) _)
    exact hp
  have B8 : Below w.heap.size w ((((((((wn.setCell ⟨w.heap.size + 1, 0, none⟩ (.string p.n)).setCell ⟨w.heap.size + 1, 1, none⟩ (.int .i64 p.a)).setCell ⟨w.heap.size + 1, 2, none⟩ (.int .i64 p.b)).setCell ⟨w.heap.size + 1, 3, none⟩ (.int .i64 p.e)).setCell ⟨w.heap.size + 1, 4, none⟩ (.int .i64 p.u)).setCell ⟨w.heap.size + 1, 5, none⟩ (.int .i64 u)).setCell ⟨w.heap.size + 1, 6, none⟩ (.int .i64 x)).setCell ⟨w.heap.size + 1, 7, none⟩ (.int .i64 y)) := by
    have hp := hst.bel
    iterate 8 (refine bset ?_ (by simp) _)
    exact hp
  have S8 : HoldL w [(w.heap.size, p.vals)] ((((((((wn.setCell ⟨w.heap.size + 1, 0, none⟩ (.string p.n)).setCell ⟨w.heap.size + 1, 1, none⟩ (.int .i64 p.a)).setCell ⟨w.heap.size + 1, 2, none⟩ (.int .i64 p.b)).setCell ⟨w.heap.size + 1, 3, none⟩ (.int .i64 p.e)).setCell ⟨w.heap.size + 1, 4, none⟩ (.int .i64 p.u)).setCell ⟨w.heap.size + 1, 5, none⟩ (.int .i64 u)).setCell ⟨w.heap.size + 1, 6, none⟩ (.int .i64 x)).setCell ⟨w.heap.size + 1, 7, none⟩ (.int .i64 y)) := ⟨B8, fun q hq => by rw [List.mem_singleton.1 hq]; exact P8⟩
  have HB8 := Lib.hid B8
  clear P8 B8
  refine line_alone rfl (by kernel_rfl) (fun K hK => ?_)
  go_big_op
  refine hK _ _ (S8) ?_
  clear hK K
  refine line_nil ?_
  clear hst inst q0 q1 q2 q3 q4 Z KY S T ltz S8
  go_wp2_with fail
  exact bodyPost_ret (v := R8 ⟨p, u, x, y⟩) (by simp [results, Tryz.results142, go_sem, z0, z1, z2, z3, z4, z5, z6, z7]) rfl ⟨rfl, HB8.out⟩
end Go.Proofs.YtcolecidbalmhaaGreatDoor
namespace Go.Proofs.YtcolecidbalmhaaGreatDoor
open Go.RowKit
set_option maxRecDepth 100000
set_option linter.unusedVariables false

set_option maxHeartbeats 1000000 in
theorem dl8Next {w0 : World} {a : Option Addr} {len cap : Nat} {zs : List Int} {p0 : Nat} {w : World} (D : Draw w0 a len cap zs p0 w) (hp0 : p0 ≤ 900) (q : PinD) (hq : q.n.size ≤ 21) :
    Calls Tryz.prog 141 #[.pointer (some ⟨w0.heap.size, 0, none⟩), P5 q] w (DPin (p0 + 2) (fun q => q.n.size ≤ 21) w0 a len cap zs w) := by
  have hlt := D.lt
  have B1 : BentP w0 a len cap zs p0 w (w.heap.size + 1) pinZero w.heap.size [.string q.n, .int .i64 q.a, .int .i64 q.b, .int .i64 (wrap64 (q.e + 1)), .int .i64 q.u] ((w.alloc (.cells #[.string q.n, .int .i64 q.a, .int .i64 q.b, .int .i64 (wrap64 (q.e + 1)), .int .i64 q.u] 31)).alloc (.cells #[.string { data := #[] }, .int .i64 0, .int .i64 0, .int .i64 0, .int .i64 0] 31)) :=
    ⟨⟨(D.alloc _).alloc _, gal (gal (World.grownBy.refl w (some w0.heap.size)) _) _, At.newN (w := w.alloc (.cells #[.string q.n, .int .i64 q.a, .int .i64 q.b, .int .i64 (wrap64 (q.e + 1)), .int .i64 q.u] 31)) pinZero 31 (by simp)⟩, (At.new w [.string q.n, .int .i64 q.a, .int .i64 q.b, .int .i64 (wrap64 (q.e + 1)), .int .i64 q.u] 31).alloc _⟩
  have HQ := Lib.hid hq
  clear D hq
  go_enter Tryz.func141, Tryz.ntmps141
  go_wp2_with fail
  generalize (w.alloc (.cells #[.string q.n, .int .i64 q.a, .int .i64 q.b, .int .i64 (wrap64 (q.e + 1)), .int .i64 q.u] 31)).alloc (.cells #[.string { data := #[] }, .int .i64 0, .int .i64 0, .int .i64 0, .int .i64 0] 31) = W1 at *
  generalize wrap64 (q.e + 1) = ep at *
  refine (dl7Public B1.drw.draw (by omega)).mono ?_
  rintro r w2 ⟨ac, hac, rfl, D2, g2⟩
  have B2 := B1.kept g2 D2 (by omega) (by omega)
  clear B1 D2 g2 hac
  have B3 := (B2.put 1 (.int .i64 ac) (by omega) (by omega) (by omega)).put 2 (.int .i64 0) (by omega) (by omega) (by omega)
  have x0 := B2.one.cell 0 _ rfl
  have x1 := B2.one.cell 1 _ rfl
  have x2 := B2.one.cell 2 _ rfl
  have x3 := B2.one.cell 3 _ rfl
  have x4 := B2.one.cell 4 _ rfl
  have f0 := B2.one.free 0 _ rfl
  have f1 := B2.one.free 1 _ rfl
  have f2 := B2.one.free 2 _ rfl
  have f3 := B2.one.free 3 _ rfl
  have f4 := B2.one.free 4 _ rfl
  go_wp2_with fail
  clear B2 x0 x1 x2 x3 x4 f0 f1 f2 f3 f4
  have hsz : ((w2.setCell ⟨w.heap.size, 1, none⟩ (.int .i64 ac)).setCell ⟨w.heap.size, 2, none⟩ (.int .i64 0)).heap.size = w2.heap.size := by simp
  generalize (w2.setCell ⟨w.heap.size, 1, none⟩ (.int .i64 ac)).setCell ⟨w.heap.size, 2, none⟩ (.int .i64 0) = W3 at *
  rw [← hsz]
  clear hsz
  refine (dpick [50, 9999] 2 B3.drw.draw (by omega) (by omega) (by omega) rfl 2).mono ?_
  rintro r w4 ⟨u, hu, rfl, D4, O4⟩
  have B4 := (B3.alloc (.cells #[.int .i64 50, .int .i64 9999] 2)).only O4 D4 (by omega) (by omega)
  have B5 := B4.put 4 (.int .i64 u) (by omega) (by omega) (by omega)
  clear B3 D4 O4 hu
  have q0 := B4.drw.res.cell 0 _ rfl
  have q1 := B4.drw.res.cell 1 _ rfl
  have q2 := B4.drw.res.cell 2 _ rfl
  have q3 := B4.drw.res.cell 3 _ rfl
  have q4 := B4.drw.res.cell 4 _ rfl
  have z0 := B4.drw.res.free 0 _ rfl
  have z1 := B4.drw.res.free 1 _ rfl
  have z2 := B4.drw.res.free 2 _ rfl
  have z3 := B4.drw.res.free 3 _ rfl
  have z4 := B4.drw.res.free 4 _ rfl
  have x0 := B4.one.cell 0 _ rfl
  have x1 := B4.one.cell 1 _ rfl
  have x2 := B4.one.cell 2 _ rfl
  have x3 := B4.one.cell 3 _ rfl
  have x4 := B4.one.cell 4 _ rfl
  have f0 := B4.one.free 0 _ rfl
  have f1 := B4.one.free 1 _ rfl
  have f2 := B4.one.free 2 _ rfl
  have f3 := B4.one.free 3 _ rfl
  have f4 := B4.one.free 4 _ rfl
  have HB := Lib.hid B5
  clear B4 B5
  go_wp2_with fail
  refine bodyPost_ret (v := P5 ⟨q.n, ac, 0, ep, u⟩) (by simp [results, Tryz.results141, go_sem, q0, q1, q2, q3, q4]) rfl ?_
  refine ⟨⟨q.n, ac, 0, ep, u⟩, p0 + 1 + 1, HQ.out, by omega, rfl, ?hd, ?hg⟩
  case hd =>
    iterate 5 (refine Draw.put ?_ (by dsimp only; omega) _)
    exact HB.out.drw.draw
  case hg =>
    iterate 5 (refine gset ?_ (by dsimp only; omega) _)
    exact HB.out.drw.grew
set_option maxHeartbeats 1000000 in
theorem dl8Secret {w0 : World} {a : Option Addr} {len cap : Nat} {zs : List Int} {p0 : Nat} {w : World} (D : Draw w0 a len cap zs p0 w) (hp0 : p0 ≤ 1000) (u : Int) :
    Calls Tryz.prog 143 #[.pointer (some ⟨w0.heap.size, 0, none⟩), .int .i64 u] w fun r w' => ∃ (v : Int) (p : Nat), 1 ≤ v ∧ v ≤ 4 ∧ p ≤ p0 + 1 ∧ r = .returned (.int .i64 v) ∧ Draw w0 a len cap zs p w' ∧ w.grownBy w' (some w0.heap.size) := by
  have g1 := key1
  have T0 : Draw w0 a len cap zs p0 w ∧ w.grownBy w (some w0.heap.size) := ⟨D, World.grownBy.refl w (some w0.heap.size)⟩
  clear D
  go_enter Tryz.func143, Tryz.ntmps143
  go_wp2_with fail
  go_loopw [5] (fun i wr => ∃ k : Nat, 1 ≤ k ∧ k ≤ 5 ∧ i = .int .i64 k ∧ Draw w0 a len cap zs p0 wr ∧ w.grownBy wr (some w0.heap.size)) (fun i _ => 5 - (intOf i).toNat)
  case atStart => exact ⟨1, Nat.le_refl _, by omega, rfl, T0⟩
  case round =>
    obtain ⟨k, hk1, hk, rfl, hD, hg⟩ := hrel
    clear T0
    by_cases hlt : k < 5
    · have K := fun w => l1Key_any (k : Int) w (by omega) (by omega)
      generalize M.pw 4 (k : Int).toNat 2879 = y at *
      have HD := Lib.hid hD
      have HG := Lib.hid hg
      clear hD hg
      cases hyu : (y == u)
      · go_wp2_with fail
        refine (K _).mono ?_
        rintro e u1 ⟨rfl, b1⟩
        have D1 := Lib.hid (HD.out.below b1)
        have G1 := Lib.hid (gbe HG.out b1)
        clear b1 HD HG K
        go_wp2_with fail
        go_roundw
        case rel => exact ⟨k + 1, by omega, by omega, by go_num, D1.out, G1.out⟩
        case measure => simp [intOf]; omega
      · go_wp2_with fail
        refine (K _).mono ?_
        rintro e u1 ⟨rfl, b1⟩
        have D1 := Lib.hid (HD.out.below b1)
        have G1 := Lib.hid (gbe HG.out b1)
        clear b1 HD HG K
        go_wp2_with fail
        go_ret
        exact ⟨k, p0, by omega, by omega, by omega, rfl, D1.out, G1.out⟩
    · obtain rfl : k = 5 := by omega
      go_wp2_with fail
      refine (dnext 4 hD (by omega)).mono ?_
      rintro r w1 ⟨x, x0, x1, rfl, D1, O1⟩
      have hx : x < 4 := by omega
      have H := Lib.hid (And.intro D1 (gtr hg O1.grown))
      clear hD hg D1 O1 x1
      go_wp2_with fail
      go_ret
      exact ⟨1 + x, p0 + 1, by omega, by omega, by omega, rfl, H.out.1, H.out.2⟩

end Go.Proofs.YtcolecidbalmhaaGreatDoor
