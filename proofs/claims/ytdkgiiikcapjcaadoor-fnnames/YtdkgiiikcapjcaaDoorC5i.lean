/- Contracts of what a supplied key matches, by the program and by its model. Conditions: as each theorem states. -/
import Derived.Test.YtdkgiiikcapjcaaDoorC5h
import Derived.Test.YtdkgiiikcapjcaaDoorMath5c
namespace Go.Proofs.YtdkgiiikcapjcaaDoor
open Go.RowKit
set_option maxRecDepth 100000
set_option linter.unusedVariables false

theorem implMatchesTlsa_any (n : ByteArray) (u m v : Int) (s : ByteArray) (p : Int) (w : World) (lab : Labels w) (hs : s.size ≤ maxLen) :
    Calls Tryd.prog 25 #[T4 n u m v, .string s, .int .i64 p] w fun e w' => e = .returned (.bool (M.matchB n.data.toList u m v s.data.toList (pubB p) p)) ∧ Below w.heap.size w w' := by
  have b0 := bal (Below.refl _ w) (.cells #[.string n, .int .i64 u, .int .i64 m, .int .i64 v] 30)
  have A0 := At.new w (TL4 n u m v) 30
  have L0 := lab.on b0
  have F := fun w lab => implTlsaFor_any s p m w lab hs
  rw [M.matchB_for pub_sum]
  by_cases h0 : M.forC s.data.toList (pubB p) m = 0
  · simp only [forT_yes h0] at F
    rw [decide_eq_true h0, Bool.true_and]
    have Q := text_beq (M.bs (M.nrm s.data.toList)) n
    rw [M.bs_list] at Q
    rw [← Q]
    generalize M.bs (M.nrm s.data.toList) = R at *
    generalize M.valM p m = x at *
    clear h0 Q
    go_enter Tryd.func25, Tryd.ntmps25
    go_wp2_with fail
    generalize w.alloc (.cells #[.string n, .int .i64 u, .int .i64 m, .int .i64 v] 30) = W0 at *
    refine (F _ L0).mono ?_
    rintro r u1 ⟨rfl, b1⟩
    have A2 := (A0.on b1).alloc (.cells #[.int .i64 0, .string R, .int .i64 3, .int .i64 m, .int .i64 x] 32)
    have A3 := At.new u1 (TL5 0 R 3 m x) 32
    have p0 := A2.cell 0 _ rfl
    have p1 := A2.cell 1 _ rfl
    have p2 := A2.cell 2 _ rfl
    have p3 := A2.cell 3 _ rfl
    have q0 := A3.cell 0 _ rfl
    have q1 := A3.cell 1 _ rfl
    have q2 := A3.cell 2 _ rfl
    have q3 := A3.cell 3 _ rfl
    have q4 := A3.cell 4 _ rfl
    have B3 := bal (btr b0 b1) (.cells #[.int .i64 0, .string R, .int .i64 3, .int .i64 m, .int .i64 x] 32)
    clear A0 A2 A3 F L0 b0 b1
    have HB := Lib.hid B3
    clear B3
    go_wp2_with fail
    all_goals
      go_ret
      refine ⟨ret_bool ?_, ?_⟩
      · simp_all
      · have B4 := HB.out
        simp_all
  · simp only [forT_no h0] at F
    rw [decide_eq_false h0, Bool.false_and]
    generalize M.forC s.data.toList (pubB p) m = c at *
    go_enter Tryd.func25, Tryd.ntmps25
    go_wp2_with fail
    generalize w.alloc (.cells #[.string n, .int .i64 u, .int .i64 m, .int .i64 v] 30) = W0 at *
    refine (F _ L0).mono ?_
    rintro r u1 ⟨rfl, b1⟩
    have B3 := bal (btr b0 b1) (.cells #[.int .i64 c, .string { data := #[] }, .int .i64 0, .int .i64 0, .int .i64 0] 32)
    have q : (c == 0) = false := by simpa using h0
    clear A0 F L0 b0 b1
    go_wp2_with fail
    go_ret
    exact ⟨rfl, B3⟩

theorem specMatchesTlsa_any (n : ByteArray) (u m v : Int) (s : ByteArray) (p : Int) (w : World) (hn : n.size ≤ maxLen) (hs : s.size ≤ maxLen) :
    Calls Tryd.prog 26 #[T4 n u m v, .string s, .int .i64 p] w fun e w' => e = .returned (.bool (M.matchB n.data.toList u m v s.data.toList (pubB p) p)) ∧ Below w.heap.size w w' := by
  have hL : s.data.toList.length = s.size := by simp
  have b0 := bal (Below.refl _ w) (.cells #[.string n, .int .i64 u, .int .i64 m, .int .i64 v] 30)
  have A0 := At.new w (TL4 n u m v) 30
  have F := fun (g : Nat) (w : World) (A : At g (TL4 n u m v) w) => l5Tlsa_any g n u m v w A hn
  have G := fun w => l5Fault_any s w hs
  have Pu := fun w => l1Public_any p w
  have Q := text_beq n (M.bs (M.nrm s.data.toList))
  rw [M.bs_list] at Q
  have N := fun (w : World) (h20 : s.size ≤ 20) => l5Normal_any s w h20
  rcases M.tlsaF_cases n.data.toList u m v with h1 | h1 | h1 | h1 | h1
  · have hu : u = 0 ∨ u = 1 ∨ u = 2 ∨ u = 3 := M.tlsaF_use h1
    have hv : M.sumB v = true := M.tlsaF_sum h1
    simp only [h1] at F
    rcases M.nameF_cases s.data.toList with h2 | h2 | h2
    · have E : M.matchB n.data.toList u m v s.data.toList (pubB p) p = false := by simp [M.matchB, h2]
      simp only [h2] at G
      rw [E]
      clear h1 h2 E Q N hu
      go_enter Tryd.func26, Tryd.ntmps26
      go_wp2_with fail
      generalize w.alloc (.cells #[.string n, .int .i64 u, .int .i64 m, .int .i64 v] 30) = W0 at *
      refine wp_region_line (Bel W0) [(0, false), (1, true), (2, true), (3, true), (4, false), (5, true), (6, true), (7, true), (8, true), (9, false), (10, true), (11, true), (12, true), (13, true), (14, true), (15, true), (16, true), (17, true), (18, true), (19, true), (20, false), (21, true), (22, true), (23, true), (24, true), (25, true), (26, true), (27, true), (28, true), (29, false), (30, true), (31, true), (32, true)] (by kernel_rfl) (by kernel_rfl) (fun _ _ d _ _ h => by cases d <;> exact h) (Bel.drew W0) ?_
      have hst := Bel.drew W0
      have inst : Nonempty (Of (Bel W0)) := ⟨⟨_, hst⟩⟩
      have q0 := bel_cell (A0.cell 0 _ rfl)
      have q1 := bel_cell (A0.cell 1 _ rfl)
      have q2 := bel_cell (A0.cell 2 _ rfl)
      have q3 := bel_cell (A0.cell 3 _ rfl)
      refine line_alone rfl (by kernel_rfl) (fun K hK => ?_)
      refine call_wp (args := #[.pointer (some ⟨w.heap.size, 0, none⟩)]) rfl (by kernel_rfl) (by kernel_rfl) (F _ _ (A0.on hst.out)) (fun wn hbn => ?_)
      have hst2 := hst.on hbn
      refine hK _ _ hst2 ?_
      clear hK K hst hbn
      have hst := hst2
      clear hst2
      simp only [Act.put, List.setIfInBounds_toArray, List.set_cons_zero, List.set_cons_succ]
      iterate 3 (refine line_read rfl (by kernel_rfl) (fun K hK => ?_); go_big_quiet_op; refine hK _ ?_; clear hK K)
      refine line_alone rfl (by kernel_rfl) (fun K hK => ?_)
      refine call_wp (args := #[.string s]) rfl (by kernel_rfl) (by kernel_rfl) (G _) (fun wn hbn => ?_)
      have hst2 := hst.on hbn
      refine hK _ _ hst2 ?_
      clear hK K hst hbn
      have hst := hst2
      clear hst2
      simp only [Act.put, List.setIfInBounds_toArray, List.set_cons_zero, List.set_cons_succ]
      iterate 3 (refine line_read rfl (by kernel_rfl) (fun K hK => ?_); go_big_quiet_op; refine hK _ ?_; clear hK K)
      iterate 2 (refine line_skip rfl (by kernel_rfl) ?_; simp only [Act.put, List.setIfInBounds_toArray, List.set_cons_zero, List.set_cons_succ])
      iterate 2 (refine line_read rfl (by kernel_rfl) (fun K hK => ?_); go_big_quiet_op; refine hK _ ?_; clear hK K)
      iterate 3 (refine line_skip rfl (by kernel_rfl) ?_; simp only [Act.put, List.setIfInBounds_toArray, List.set_cons_zero, List.set_cons_succ])
      iterate 2 (refine line_read rfl (by kernel_rfl) (fun K hK => ?_); go_big_quiet_op; refine hK _ ?_; clear hK K)
      iterate 5 (refine line_skip rfl (by kernel_rfl) ?_; simp only [Act.put, List.setIfInBounds_toArray, List.set_cons_zero, List.set_cons_succ])
      iterate 2 (refine line_read rfl (by kernel_rfl) (fun K hK => ?_); go_big_quiet_op; refine hK _ ?_; clear hK K)
      iterate 7 (refine line_skip rfl (by kernel_rfl) ?_; simp only [Act.put, List.setIfInBounds_toArray, List.set_cons_zero, List.set_cons_succ])
      iterate 2 (refine line_read rfl (by kernel_rfl) (fun K hK => ?_); go_big_quiet_op; refine hK _ ?_; clear hK K)
      refine line_nil ?_
      have bb := btr b0 hst.out
      clear hst inst q0 q1 q2 q3 A0 b0 F G Pu
      go_wp2_with fail
      go_ret
      exact ⟨rfl, bb⟩
    · have E : M.matchB n.data.toList u m v s.data.toList (pubB p) p = false := by simp [M.matchB, h2]
      simp only [h2] at G
      rw [E]
      clear h1 h2 E Q N hu
      go_enter Tryd.func26, Tryd.ntmps26
      go_wp2_with fail
      generalize w.alloc (.cells #[.string n, .int .i64 u, .int .i64 m, .int .i64 v] 30) = W0 at *
      refine wp_region_line (Bel W0) [(0, false), (1, true), (2, true), (3, true), (4, false), (5, true), (6, true), (7, true), (8, true), (9, false), (10, true), (11, true), (12, true), (13, true), (14, true), (15, true), (16, true), (17, true), (18, true), (19, true), (20, false), (21, true), (22, true), (23, true), (24, true), (25, true), (26, true), (27, true), (28, true), (29, false), (30, true), (31, true), (32, true)] (by kernel_rfl) (by kernel_rfl) (fun _ _ d _ _ h => by cases d <;> exact h) (Bel.drew W0) ?_
      have hst := Bel.drew W0
      have inst : Nonempty (Of (Bel W0)) := ⟨⟨_, hst⟩⟩
      have q0 := bel_cell (A0.cell 0 _ rfl)
      have q1 := bel_cell (A0.cell 1 _ rfl)
      have q2 := bel_cell (A0.cell 2 _ rfl)
      have q3 := bel_cell (A0.cell 3 _ rfl)
      refine line_alone rfl (by kernel_rfl) (fun K hK => ?_)
      refine call_wp (args := #[.pointer (some ⟨w.heap.size, 0, none⟩)]) rfl (by kernel_rfl) (by kernel_rfl) (F _ _ (A0.on hst.out)) (fun wn hbn => ?_)
      have hst2 := hst.on hbn
      refine hK _ _ hst2 ?_
      clear hK K hst hbn
      have hst := hst2
      clear hst2
      simp only [Act.put, List.setIfInBounds_toArray, List.set_cons_zero, List.set_cons_succ]
      iterate 3 (refine line_read rfl (by kernel_rfl) (fun K hK => ?_); go_big_quiet_op; refine hK _ ?_; clear hK K)
      refine line_alone rfl (by kernel_rfl) (fun K hK => ?_)
      refine call_wp (args := #[.string s]) rfl (by kernel_rfl) (by kernel_rfl) (G _) (fun wn hbn => ?_)
      have hst2 := hst.on hbn
      refine hK _ _ hst2 ?_
      clear hK K hst hbn
      have hst := hst2
      clear hst2
      simp only [Act.put, List.setIfInBounds_toArray, List.set_cons_zero, List.set_cons_succ]
      iterate 3 (refine line_read rfl (by kernel_rfl) (fun K hK => ?_); go_big_quiet_op; refine hK _ ?_; clear hK K)
      iterate 2 (refine line_skip rfl (by kernel_rfl) ?_; simp only [Act.put, List.setIfInBounds_toArray, List.set_cons_zero, List.set_cons_succ])
      iterate 2 (refine line_read rfl (by kernel_rfl) (fun K hK => ?_); go_big_quiet_op; refine hK _ ?_; clear hK K)
      iterate 3 (refine line_skip rfl (by kernel_rfl) ?_; simp only [Act.put, List.setIfInBounds_toArray, List.set_cons_zero, List.set_cons_succ])
      iterate 2 (refine line_read rfl (by kernel_rfl) (fun K hK => ?_); go_big_quiet_op; refine hK _ ?_; clear hK K)
      iterate 5 (refine line_skip rfl (by kernel_rfl) ?_; simp only [Act.put, List.setIfInBounds_toArray, List.set_cons_zero, List.set_cons_succ])
      iterate 2 (refine line_read rfl (by kernel_rfl) (fun K hK => ?_); go_big_quiet_op; refine hK _ ?_; clear hK K)
      iterate 7 (refine line_skip rfl (by kernel_rfl) ?_; simp only [Act.put, List.setIfInBounds_toArray, List.set_cons_zero, List.set_cons_succ])
      iterate 2 (refine line_read rfl (by kernel_rfl) (fun K hK => ?_); go_big_quiet_op; refine hK _ ?_; clear hK K)
      refine line_nil ?_
      have bb := btr b0 hst.out
      clear hst inst q0 q1 q2 q3 A0 b0 F G Pu
      go_wp2_with fail
      go_ret
      exact ⟨rfl, bb⟩
    · obtain ⟨h20, -⟩ := M.nameF_zero h2
      rw [hL] at h20
      simp only [h2] at G
      cases h3 : pubB p
      · have E : M.matchB n.data.toList u m v s.data.toList false p = false := by simp [M.matchB]
        rw [h3] at Pu
        rw [E]
        clear h1 h2 E Q N hu
        go_enter Tryd.func26, Tryd.ntmps26
        go_wp2_with fail
        generalize w.alloc (.cells #[.string n, .int .i64 u, .int .i64 m, .int .i64 v] 30) = W0 at *
        refine wp_region_line (Bel W0) [(0, false), (1, true), (2, true), (3, true), (4, false), (5, true), (6, true), (7, true), (8, true), (9, false), (10, true), (11, true), (12, true), (13, true), (14, true), (15, true), (16, true), (17, true), (18, true), (19, true), (20, false), (21, true), (22, true), (23, true), (24, true), (25, true), (26, true), (27, true), (28, true), (29, false), (30, true), (31, true), (32, true)] (by kernel_rfl) (by kernel_rfl) (fun _ _ d _ _ h => by cases d <;> exact h) (Bel.drew W0) ?_
        have hst := Bel.drew W0
        have inst : Nonempty (Of (Bel W0)) := ⟨⟨_, hst⟩⟩
        have q0 := bel_cell (A0.cell 0 _ rfl)
        have q1 := bel_cell (A0.cell 1 _ rfl)
        have q2 := bel_cell (A0.cell 2 _ rfl)
        have q3 := bel_cell (A0.cell 3 _ rfl)
        refine line_alone rfl (by kernel_rfl) (fun K hK => ?_)
        refine call_wp (args := #[.pointer (some ⟨w.heap.size, 0, none⟩)]) rfl (by kernel_rfl) (by kernel_rfl) (F _ _ (A0.on hst.out)) (fun wn hbn => ?_)
        have hst2 := hst.on hbn
        refine hK _ _ hst2 ?_
        clear hK K hst hbn
        have hst := hst2
        clear hst2
        simp only [Act.put, List.setIfInBounds_toArray, List.set_cons_zero, List.set_cons_succ]
        iterate 3 (refine line_read rfl (by kernel_rfl) (fun K hK => ?_); go_big_quiet_op; refine hK _ ?_; clear hK K)
        refine line_alone rfl (by kernel_rfl) (fun K hK => ?_)
        refine call_wp (args := #[.string s]) rfl (by kernel_rfl) (by kernel_rfl) (G _) (fun wn hbn => ?_)
        have hst2 := hst.on hbn
        refine hK _ _ hst2 ?_
        clear hK K hst hbn
        have hst := hst2
        clear hst2
        simp only [Act.put, List.setIfInBounds_toArray, List.set_cons_zero, List.set_cons_succ]
        iterate 4 (refine line_read rfl (by kernel_rfl) (fun K hK => ?_); go_big_quiet_op; refine hK _ ?_; clear hK K)
        refine line_alone rfl (by kernel_rfl) (fun K hK => ?_)
        refine call_wp (args := #[.int .i64 p]) rfl (by kernel_rfl) (by kernel_rfl) (Pu _) (fun wn hbn => ?_)
        subst hbn
        refine hK _ _ hst ?_
        clear hK K
        simp only [Act.put, List.setIfInBounds_toArray, List.set_cons_zero, List.set_cons_succ]
        iterate 2 (refine line_read rfl (by kernel_rfl) (fun K hK => ?_); go_big_quiet_op; refine hK _ ?_; clear hK K)
        iterate 3 (refine line_skip rfl (by kernel_rfl) ?_; simp only [Act.put, List.setIfInBounds_toArray, List.set_cons_zero, List.set_cons_succ])
        iterate 2 (refine line_read rfl (by kernel_rfl) (fun K hK => ?_); go_big_quiet_op; refine hK _ ?_; clear hK K)
        iterate 5 (refine line_skip rfl (by kernel_rfl) ?_; simp only [Act.put, List.setIfInBounds_toArray, List.set_cons_zero, List.set_cons_succ])
        iterate 2 (refine line_read rfl (by kernel_rfl) (fun K hK => ?_); go_big_quiet_op; refine hK _ ?_; clear hK K)
        iterate 7 (refine line_skip rfl (by kernel_rfl) ?_; simp only [Act.put, List.setIfInBounds_toArray, List.set_cons_zero, List.set_cons_succ])
        iterate 2 (refine line_read rfl (by kernel_rfl) (fun K hK => ?_); go_big_quiet_op; refine hK _ ?_; clear hK K)
        refine line_nil ?_
        have bb := btr b0 hst.out
        clear hst inst q0 q1 q2 q3 A0 b0 F G Pu
        go_wp2_with fail
        go_ret
        exact ⟨rfl, bb⟩
      · have V := fun w => l5Value_any p m w (pub_sum h3)
        rw [h3] at Pu
        rcases hu with rfl | rfl | rfl | rfl
        · have E : M.matchB n.data.toList 0 m v s.data.toList true p = false := by simp [M.matchB]
          rw [E]
          clear h1 h2 E Q N
          go_enter Tryd.func26, Tryd.ntmps26
          go_wp2_with fail
          generalize w.alloc (.cells #[.string n, .int .i64 0, .int .i64 m, .int .i64 v] 30) = W0 at *
          refine wp_region_line (Bel W0) [(0, false), (1, true), (2, true), (3, true), (4, false), (5, true), (6, true), (7, true), (8, true), (9, false), (10, true), (11, true), (12, true), (13, true), (14, true), (15, true), (16, true), (17, true), (18, true), (19, true), (20, false), (21, true), (22, true), (23, true), (24, true), (25, true), (26, true), (27, true), (28, true), (29, false), (30, true), (31, true), (32, true)] (by kernel_rfl) (by kernel_rfl) (fun _ _ d _ _ h => by cases d <;> exact h) (Bel.drew W0) ?_
          have hst := Bel.drew W0
          have inst : Nonempty (Of (Bel W0)) := ⟨⟨_, hst⟩⟩
          have q0 := bel_cell (A0.cell 0 _ rfl)
          have q1 := bel_cell (A0.cell 1 _ rfl)
          have q2 := bel_cell (A0.cell 2 _ rfl)
          have q3 := bel_cell (A0.cell 3 _ rfl)
          refine line_alone rfl (by kernel_rfl) (fun K hK => ?_)
          refine call_wp (args := #[.pointer (some ⟨w.heap.size, 0, none⟩)]) rfl (by kernel_rfl) (by kernel_rfl) (F _ _ (A0.on hst.out)) (fun wn hbn => ?_)
          have hst2 := hst.on hbn
          refine hK _ _ hst2 ?_
          clear hK K hst hbn
          have hst := hst2
          clear hst2
          simp only [Act.put, List.setIfInBounds_toArray, List.set_cons_zero, List.set_cons_succ]
          iterate 3 (refine line_read rfl (by kernel_rfl) (fun K hK => ?_); go_big_quiet_op; refine hK _ ?_; clear hK K)
          refine line_alone rfl (by kernel_rfl) (fun K hK => ?_)
          refine call_wp (args := #[.string s]) rfl (by kernel_rfl) (by kernel_rfl) (G _) (fun wn hbn => ?_)
          have hst2 := hst.on hbn
          refine hK _ _ hst2 ?_
          clear hK K hst hbn
          have hst := hst2
          clear hst2
          simp only [Act.put, List.setIfInBounds_toArray, List.set_cons_zero, List.set_cons_succ]
          iterate 4 (refine line_read rfl (by kernel_rfl) (fun K hK => ?_); go_big_quiet_op; refine hK _ ?_; clear hK K)
          refine line_alone rfl (by kernel_rfl) (fun K hK => ?_)
          refine call_wp (args := #[.int .i64 p]) rfl (by kernel_rfl) (by kernel_rfl) (Pu _) (fun wn hbn => ?_)
          subst hbn
          refine hK _ _ hst ?_
          clear hK K
          simp only [Act.put, List.setIfInBounds_toArray, List.set_cons_zero, List.set_cons_succ]
          iterate 5 (refine line_read rfl (by kernel_rfl) (fun K hK => ?_); go_big_quiet_op; refine hK _ ?_; clear hK K)
          iterate 2 (refine line_read rfl (by kernel_rfl) (fun K hK => ?_); go_big_quiet_op; refine hK _ ?_; clear hK K)
          iterate 5 (refine line_skip rfl (by kernel_rfl) ?_; simp only [Act.put, List.setIfInBounds_toArray, List.set_cons_zero, List.set_cons_succ])
          iterate 2 (refine line_read rfl (by kernel_rfl) (fun K hK => ?_); go_big_quiet_op; refine hK _ ?_; clear hK K)
          iterate 7 (refine line_skip rfl (by kernel_rfl) ?_; simp only [Act.put, List.setIfInBounds_toArray, List.set_cons_zero, List.set_cons_succ])
          iterate 2 (refine line_read rfl (by kernel_rfl) (fun K hK => ?_); go_big_quiet_op; refine hK _ ?_; clear hK K)
          refine line_nil ?_
          have bb := btr b0 hst.out
          clear hst inst q0 q1 q2 q3 A0 b0 F G Pu
          go_wp2_with fail
          go_ret
          exact ⟨rfl, bb⟩
        · have E : M.matchB n.data.toList 1 m v s.data.toList true p = false := by simp [M.matchB]
          rw [E]
          clear h1 h2 E Q N
          go_enter Tryd.func26, Tryd.ntmps26
          go_wp2_with fail
          generalize w.alloc (.cells #[.string n, .int .i64 1, .int .i64 m, .int .i64 v] 30) = W0 at *
          refine wp_region_line (Bel W0) [(0, false), (1, true), (2, true), (3, true), (4, false), (5, true), (6, true), (7, true), (8, true), (9, false), (10, true), (11, true), (12, true), (13, true), (14, true), (15, true), (16, true), (17, true), (18, true), (19, true), (20, false), (21, true), (22, true), (23, true), (24, true), (25, true), (26, true), (27, true), (28, true), (29, false), (30, true), (31, true), (32, true)] (by kernel_rfl) (by kernel_rfl) (fun _ _ d _ _ h => by cases d <;> exact h) (Bel.drew W0) ?_
          have hst := Bel.drew W0
          have inst : Nonempty (Of (Bel W0)) := ⟨⟨_, hst⟩⟩
          have q0 := bel_cell (A0.cell 0 _ rfl)
          have q1 := bel_cell (A0.cell 1 _ rfl)
          have q2 := bel_cell (A0.cell 2 _ rfl)
          have q3 := bel_cell (A0.cell 3 _ rfl)
          refine line_alone rfl (by kernel_rfl) (fun K hK => ?_)
          refine call_wp (args := #[.pointer (some ⟨w.heap.size, 0, none⟩)]) rfl (by kernel_rfl) (by kernel_rfl) (F _ _ (A0.on hst.out)) (fun wn hbn => ?_)
          have hst2 := hst.on hbn
          refine hK _ _ hst2 ?_
          clear hK K hst hbn
          have hst := hst2
          clear hst2
          simp only [Act.put, List.setIfInBounds_toArray, List.set_cons_zero, List.set_cons_succ]
          iterate 3 (refine line_read rfl (by kernel_rfl) (fun K hK => ?_); go_big_quiet_op; refine hK _ ?_; clear hK K)
          refine line_alone rfl (by kernel_rfl) (fun K hK => ?_)
          refine call_wp (args := #[.string s]) rfl (by kernel_rfl) (by kernel_rfl) (G _) (fun wn hbn => ?_)
          have hst2 := hst.on hbn
          refine hK _ _ hst2 ?_
          clear hK K hst hbn
          have hst := hst2
          clear hst2
          simp only [Act.put, List.setIfInBounds_toArray, List.set_cons_zero, List.set_cons_succ]
          iterate 4 (refine line_read rfl (by kernel_rfl) (fun K hK => ?_); go_big_quiet_op; refine hK _ ?_; clear hK K)
          refine line_alone rfl (by kernel_rfl) (fun K hK => ?_)
          refine call_wp (args := #[.int .i64 p]) rfl (by kernel_rfl) (by kernel_rfl) (Pu _) (fun wn hbn => ?_)
          subst hbn
          refine hK _ _ hst ?_
          clear hK K
          simp only [Act.put, List.setIfInBounds_toArray, List.set_cons_zero, List.set_cons_succ]
          iterate 5 (refine line_read rfl (by kernel_rfl) (fun K hK => ?_); go_big_quiet_op; refine hK _ ?_; clear hK K)
          iterate 2 (refine line_read rfl (by kernel_rfl) (fun K hK => ?_); go_big_quiet_op; refine hK _ ?_; clear hK K)
          iterate 5 (refine line_skip rfl (by kernel_rfl) ?_; simp only [Act.put, List.setIfInBounds_toArray, List.set_cons_zero, List.set_cons_succ])
          iterate 2 (refine line_read rfl (by kernel_rfl) (fun K hK => ?_); go_big_quiet_op; refine hK _ ?_; clear hK K)
          iterate 7 (refine line_skip rfl (by kernel_rfl) ?_; simp only [Act.put, List.setIfInBounds_toArray, List.set_cons_zero, List.set_cons_succ])
          iterate 2 (refine line_read rfl (by kernel_rfl) (fun K hK => ?_); go_big_quiet_op; refine hK _ ?_; clear hK K)
          refine line_nil ?_
          have bb := btr b0 hst.out
          clear hst inst q0 q1 q2 q3 A0 b0 F G Pu
          go_wp2_with fail
          go_ret
          exact ⟨rfl, bb⟩
        · have E : M.matchB n.data.toList 2 m v s.data.toList true p = false := by simp [M.matchB]
          rw [E]
          clear h1 h2 E Q N
          go_enter Tryd.func26, Tryd.ntmps26
          go_wp2_with fail
          generalize w.alloc (.cells #[.string n, .int .i64 2, .int .i64 m, .int .i64 v] 30) = W0 at *
          refine wp_region_line (Bel W0) [(0, false), (1, true), (2, true), (3, true), (4, false), (5, true), (6, true), (7, true), (8, true), (9, false), (10, true), (11, true), (12, true), (13, true), (14, true), (15, true), (16, true), (17, true), (18, true), (19, true), (20, false), (21, true), (22, true), (23, true), (24, true), (25, true), (26, true), (27, true), (28, true), (29, false), (30, true), (31, true), (32, true)] (by kernel_rfl) (by kernel_rfl) (fun _ _ d _ _ h => by cases d <;> exact h) (Bel.drew W0) ?_
          have hst := Bel.drew W0
          have inst : Nonempty (Of (Bel W0)) := ⟨⟨_, hst⟩⟩
          have q0 := bel_cell (A0.cell 0 _ rfl)
          have q1 := bel_cell (A0.cell 1 _ rfl)
          have q2 := bel_cell (A0.cell 2 _ rfl)
          have q3 := bel_cell (A0.cell 3 _ rfl)
          refine line_alone rfl (by kernel_rfl) (fun K hK => ?_)
          refine call_wp (args := #[.pointer (some ⟨w.heap.size, 0, none⟩)]) rfl (by kernel_rfl) (by kernel_rfl) (F _ _ (A0.on hst.out)) (fun wn hbn => ?_)
          have hst2 := hst.on hbn
          refine hK _ _ hst2 ?_
          clear hK K hst hbn
          have hst := hst2
          clear hst2
          simp only [Act.put, List.setIfInBounds_toArray, List.set_cons_zero, List.set_cons_succ]
          iterate 3 (refine line_read rfl (by kernel_rfl) (fun K hK => ?_); go_big_quiet_op; refine hK _ ?_; clear hK K)
          refine line_alone rfl (by kernel_rfl) (fun K hK => ?_)
          refine call_wp (args := #[.string s]) rfl (by kernel_rfl) (by kernel_rfl) (G _) (fun wn hbn => ?_)
          have hst2 := hst.on hbn
          refine hK _ _ hst2 ?_
          clear hK K hst hbn
          have hst := hst2
          clear hst2
          simp only [Act.put, List.setIfInBounds_toArray, List.set_cons_zero, List.set_cons_succ]
          iterate 4 (refine line_read rfl (by kernel_rfl) (fun K hK => ?_); go_big_quiet_op; refine hK _ ?_; clear hK K)
          refine line_alone rfl (by kernel_rfl) (fun K hK => ?_)
          refine call_wp (args := #[.int .i64 p]) rfl (by kernel_rfl) (by kernel_rfl) (Pu _) (fun wn hbn => ?_)
          subst hbn
          refine hK _ _ hst ?_
          clear hK K
          simp only [Act.put, List.setIfInBounds_toArray, List.set_cons_zero, List.set_cons_succ]
          iterate 5 (refine line_read rfl (by kernel_rfl) (fun K hK => ?_); go_big_quiet_op; refine hK _ ?_; clear hK K)
          iterate 2 (refine line_read rfl (by kernel_rfl) (fun K hK => ?_); go_big_quiet_op; refine hK _ ?_; clear hK K)
          iterate 5 (refine line_skip rfl (by kernel_rfl) ?_; simp only [Act.put, List.setIfInBounds_toArray, List.set_cons_zero, List.set_cons_succ])
          iterate 2 (refine line_read rfl (by kernel_rfl) (fun K hK => ?_); go_big_quiet_op; refine hK _ ?_; clear hK K)
          iterate 7 (refine line_skip rfl (by kernel_rfl) ?_; simp only [Act.put, List.setIfInBounds_toArray, List.set_cons_zero, List.set_cons_succ])
          iterate 2 (refine line_read rfl (by kernel_rfl) (fun K hK => ?_); go_big_quiet_op; refine hK _ ?_; clear hK K)
          refine line_nil ?_
          have bb := btr b0 hst.out
          clear hst inst q0 q1 q2 q3 A0 b0 F G Pu
          go_wp2_with fail
          go_ret
          exact ⟨rfl, bb⟩
        · have hN := fun w => N w h20
          clear N
          by_cases h4 : n.data.toList = M.nrm s.data.toList
          · rw [decide_eq_true h4] at Q
            have E : M.matchB n.data.toList 3 m v s.data.toList true p = (v == M.valM p m) := by
              unfold M.matchB
              rw [decide_eq_true h1, decide_eq_true h2, decide_eq_true h4, Bool.eq_iff_iff]
              simp
            rw [E]
            generalize M.bs (M.nrm s.data.toList) = R at *
            generalize M.valM p m = x at *
            clear h1 h2 E h4
            go_enter Tryd.func26, Tryd.ntmps26
            go_wp2_with fail
            generalize w.alloc (.cells #[.string n, .int .i64 3, .int .i64 m, .int .i64 v] 30) = W0 at *
            refine wp_region_line (Bel W0) [(0, false), (1, true), (2, true), (3, true), (4, false), (5, true), (6, true), (7, true), (8, true), (9, false), (10, true), (11, true), (12, true), (13, true), (14, true), (15, true), (16, true), (17, true), (18, true), (19, true), (20, false), (21, true), (22, true), (23, true), (24, true), (25, true), (26, true), (27, true), (28, true), (29, false), (30, true), (31, true), (32, true)] (by kernel_rfl) (by kernel_rfl) (fun _ _ d _ _ h => by cases d <;> exact h) (Bel.drew W0) ?_
            have hst := Bel.drew W0
            have inst : Nonempty (Of (Bel W0)) := ⟨⟨_, hst⟩⟩
            have q0 := bel_cell (A0.cell 0 _ rfl)
            have q1 := bel_cell (A0.cell 1 _ rfl)
            have q2 := bel_cell (A0.cell 2 _ rfl)
            have q3 := bel_cell (A0.cell 3 _ rfl)
            refine line_alone rfl (by kernel_rfl) (fun K hK => ?_)
            refine call_wp (args := #[.pointer (some ⟨w.heap.size, 0, none⟩)]) rfl (by kernel_rfl) (by kernel_rfl) (F _ _ (A0.on hst.out)) (fun wn hbn => ?_)
            have hst2 := hst.on hbn
            refine hK _ _ hst2 ?_
            clear hK K hst hbn
            have hst := hst2
            clear hst2
            simp only [Act.put, List.setIfInBounds_toArray, List.set_cons_zero, List.set_cons_succ]
            iterate 3 (refine line_read rfl (by kernel_rfl) (fun K hK => ?_); go_big_quiet_op; refine hK _ ?_; clear hK K)
            refine line_alone rfl (by kernel_rfl) (fun K hK => ?_)
            refine call_wp (args := #[.string s]) rfl (by kernel_rfl) (by kernel_rfl) (G _) (fun wn hbn => ?_)
            have hst2 := hst.on hbn
            refine hK _ _ hst2 ?_
            clear hK K hst hbn
            have hst := hst2
            clear hst2
            simp only [Act.put, List.setIfInBounds_toArray, List.set_cons_zero, List.set_cons_succ]
            iterate 4 (refine line_read rfl (by kernel_rfl) (fun K hK => ?_); go_big_quiet_op; refine hK _ ?_; clear hK K)
            refine line_alone rfl (by kernel_rfl) (fun K hK => ?_)
            refine call_wp (args := #[.int .i64 p]) rfl (by kernel_rfl) (by kernel_rfl) (Pu _) (fun wn hbn => ?_)
            subst hbn
            refine hK _ _ hst ?_
            clear hK K
            simp only [Act.put, List.setIfInBounds_toArray, List.set_cons_zero, List.set_cons_succ]
            iterate 5 (refine line_read rfl (by kernel_rfl) (fun K hK => ?_); go_big_quiet_op; refine hK _ ?_; clear hK K)
            iterate 5 (refine line_read rfl (by kernel_rfl) (fun K hK => ?_); go_big_quiet_op; refine hK _ ?_; clear hK K)
            refine line_alone rfl (by kernel_rfl) (fun K hK => ?_)
            refine call_wp (args := #[.string s]) rfl (by kernel_rfl) (by kernel_rfl) (hN _) (fun wn hbn => ?_)
            have hst2 := hst.on hbn
            refine hK _ _ hst2 ?_
            clear hK K hst hbn
            have hst := hst2
            clear hst2
            simp only [Act.put, List.setIfInBounds_toArray, List.set_cons_zero, List.set_cons_succ]
            iterate 1 (refine line_read rfl (by kernel_rfl) (fun K hK => ?_); go_big_quiet_op; refine hK _ ?_; clear hK K)
            iterate 2 (refine line_read rfl (by kernel_rfl) (fun K hK => ?_); go_big_quiet_op; refine hK _ ?_; clear hK K)
            iterate 5 (refine line_read rfl (by kernel_rfl) (fun K hK => ?_); go_big_quiet_op; refine hK _ ?_; clear hK K)
            refine line_alone rfl (by kernel_rfl) (fun K hK => ?_)
            refine call_wp (args := #[.int .i64 p, .int .i64 m]) rfl (by kernel_rfl) (by kernel_rfl) (V _) (fun wn hbn => ?_)
            have hst2 := hst.on hbn
            refine hK _ _ hst2 ?_
            clear hK K hst hbn
            have hst := hst2
            clear hst2
            simp only [Act.put, List.setIfInBounds_toArray, List.set_cons_zero, List.set_cons_succ]
            iterate 3 (refine line_read rfl (by kernel_rfl) (fun K hK => ?_); go_big_quiet_op; refine hK _ ?_; clear hK K)
            refine line_nil ?_
            have bb := btr b0 hst.out
            clear hst inst q0 q1 q2 q3 A0 b0 F G Pu
            go_wp2_with fail
            go_ret
            exact ⟨rfl, bb⟩
          · rw [decide_eq_false h4] at Q
            have E : M.matchB n.data.toList 3 m v s.data.toList true p = false := by simp [M.matchB, h4]
            rw [E]
            generalize M.bs (M.nrm s.data.toList) = R at *
            clear h1 h2 E h4
            go_enter Tryd.func26, Tryd.ntmps26
            go_wp2_with fail
            generalize w.alloc (.cells #[.string n, .int .i64 3, .int .i64 m, .int .i64 v] 30) = W0 at *
            refine wp_region_line (Bel W0) [(0, false), (1, true), (2, true), (3, true), (4, false), (5, true), (6, true), (7, true), (8, true), (9, false), (10, true), (11, true), (12, true), (13, true), (14, true), (15, true), (16, true), (17, true), (18, true), (19, true), (20, false), (21, true), (22, true), (23, true), (24, true), (25, true), (26, true), (27, true), (28, true), (29, false), (30, true), (31, true), (32, true)] (by kernel_rfl) (by kernel_rfl) (fun _ _ d _ _ h => by cases d <;> exact h) (Bel.drew W0) ?_
            have hst := Bel.drew W0
            have inst : Nonempty (Of (Bel W0)) := ⟨⟨_, hst⟩⟩
            have q0 := bel_cell (A0.cell 0 _ rfl)
            have q1 := bel_cell (A0.cell 1 _ rfl)
            have q2 := bel_cell (A0.cell 2 _ rfl)
            have q3 := bel_cell (A0.cell 3 _ rfl)
            refine line_alone rfl (by kernel_rfl) (fun K hK => ?_)
            refine call_wp (args := #[.pointer (some ⟨w.heap.size, 0, none⟩)]) rfl (by kernel_rfl) (by kernel_rfl) (F _ _ (A0.on hst.out)) (fun wn hbn => ?_)
            have hst2 := hst.on hbn
            refine hK _ _ hst2 ?_
            clear hK K hst hbn
            have hst := hst2
            clear hst2
            simp only [Act.put, List.setIfInBounds_toArray, List.set_cons_zero, List.set_cons_succ]
            iterate 3 (refine line_read rfl (by kernel_rfl) (fun K hK => ?_); go_big_quiet_op; refine hK _ ?_; clear hK K)
            refine line_alone rfl (by kernel_rfl) (fun K hK => ?_)
            refine call_wp (args := #[.string s]) rfl (by kernel_rfl) (by kernel_rfl) (G _) (fun wn hbn => ?_)
            have hst2 := hst.on hbn
            refine hK _ _ hst2 ?_
            clear hK K hst hbn
            have hst := hst2
            clear hst2
            simp only [Act.put, List.setIfInBounds_toArray, List.set_cons_zero, List.set_cons_succ]
            iterate 4 (refine line_read rfl (by kernel_rfl) (fun K hK => ?_); go_big_quiet_op; refine hK _ ?_; clear hK K)
            refine line_alone rfl (by kernel_rfl) (fun K hK => ?_)
            refine call_wp (args := #[.int .i64 p]) rfl (by kernel_rfl) (by kernel_rfl) (Pu _) (fun wn hbn => ?_)
            subst hbn
            refine hK _ _ hst ?_
            clear hK K
            simp only [Act.put, List.setIfInBounds_toArray, List.set_cons_zero, List.set_cons_succ]
            iterate 5 (refine line_read rfl (by kernel_rfl) (fun K hK => ?_); go_big_quiet_op; refine hK _ ?_; clear hK K)
            iterate 5 (refine line_read rfl (by kernel_rfl) (fun K hK => ?_); go_big_quiet_op; refine hK _ ?_; clear hK K)
            refine line_alone rfl (by kernel_rfl) (fun K hK => ?_)
            refine call_wp (args := #[.string s]) rfl (by kernel_rfl) (by kernel_rfl) (hN _) (fun wn hbn => ?_)
            have hst2 := hst.on hbn
            refine hK _ _ hst2 ?_
            clear hK K hst hbn
            have hst := hst2
            clear hst2
            simp only [Act.put, List.setIfInBounds_toArray, List.set_cons_zero, List.set_cons_succ]
            iterate 1 (refine line_read rfl (by kernel_rfl) (fun K hK => ?_); go_big_quiet_op; refine hK _ ?_; clear hK K)
            iterate 2 (refine line_read rfl (by kernel_rfl) (fun K hK => ?_); go_big_quiet_op; refine hK _ ?_; clear hK K)
            iterate 7 (refine line_skip rfl (by kernel_rfl) ?_; simp only [Act.put, List.setIfInBounds_toArray, List.set_cons_zero, List.set_cons_succ])
            iterate 2 (refine line_read rfl (by kernel_rfl) (fun K hK => ?_); go_big_quiet_op; refine hK _ ?_; clear hK K)
            refine line_nil ?_
            have bb := btr b0 hst.out
            clear hst inst q0 q1 q2 q3 A0 b0 F G Pu
            go_wp2_with fail
            go_ret
            exact ⟨rfl, bb⟩
  · have E : M.matchB n.data.toList u m v s.data.toList (pubB p) p = false := by simp [M.matchB, h1]
    simp only [h1] at F
    rw [E]
    clear h1 E
    clear Q N
    go_enter Tryd.func26, Tryd.ntmps26
    go_wp2_with fail
    generalize w.alloc (.cells #[.string n, .int .i64 u, .int .i64 m, .int .i64 v] 30) = W0 at *
    refine wp_region_line (Bel W0) [(0, false), (1, true), (2, true), (3, true), (4, false), (5, true), (6, true), (7, true), (8, true), (9, false), (10, true), (11, true), (12, true), (13, true), (14, true), (15, true), (16, true), (17, true), (18, true), (19, true), (20, false), (21, true), (22, true), (23, true), (24, true), (25, true), (26, true), (27, true), (28, true), (29, false), (30, true), (31, true), (32, true)] (by kernel_rfl) (by kernel_rfl) (fun _ _ d _ _ h => by cases d <;> exact h) (Bel.drew W0) ?_
    have hst := Bel.drew W0
    have inst : Nonempty (Of (Bel W0)) := ⟨⟨_, hst⟩⟩
    have q0 := bel_cell (A0.cell 0 _ rfl)
    have q1 := bel_cell (A0.cell 1 _ rfl)
    have q2 := bel_cell (A0.cell 2 _ rfl)
    have q3 := bel_cell (A0.cell 3 _ rfl)
    refine line_alone rfl (by kernel_rfl) (fun K hK => ?_)
    refine call_wp (args := #[.pointer (some ⟨w.heap.size, 0, none⟩)]) rfl (by kernel_rfl) (by kernel_rfl) (F _ _ (A0.on hst.out)) (fun wn hbn => ?_)
    have hst2 := hst.on hbn
    refine hK _ _ hst2 ?_
    clear hK K hst hbn
    have hst := hst2
    clear hst2
    simp only [Act.put, List.setIfInBounds_toArray, List.set_cons_zero, List.set_cons_succ]
    iterate 2 (refine line_read rfl (by kernel_rfl) (fun K hK => ?_); go_big_quiet_op; refine hK _ ?_; clear hK K)
    iterate 3 (refine line_skip rfl (by kernel_rfl) ?_; simp only [Act.put, List.setIfInBounds_toArray, List.set_cons_zero, List.set_cons_succ])
    iterate 2 (refine line_read rfl (by kernel_rfl) (fun K hK => ?_); go_big_quiet_op; refine hK _ ?_; clear hK K)
    iterate 2 (refine line_skip rfl (by kernel_rfl) ?_; simp only [Act.put, List.setIfInBounds_toArray, List.set_cons_zero, List.set_cons_succ])
    iterate 2 (refine line_read rfl (by kernel_rfl) (fun K hK => ?_); go_big_quiet_op; refine hK _ ?_; clear hK K)
    iterate 3 (refine line_skip rfl (by kernel_rfl) ?_; simp only [Act.put, List.setIfInBounds_toArray, List.set_cons_zero, List.set_cons_succ])
    iterate 2 (refine line_read rfl (by kernel_rfl) (fun K hK => ?_); go_big_quiet_op; refine hK _ ?_; clear hK K)
    iterate 5 (refine line_skip rfl (by kernel_rfl) ?_; simp only [Act.put, List.setIfInBounds_toArray, List.set_cons_zero, List.set_cons_succ])
    iterate 2 (refine line_read rfl (by kernel_rfl) (fun K hK => ?_); go_big_quiet_op; refine hK _ ?_; clear hK K)
    iterate 7 (refine line_skip rfl (by kernel_rfl) ?_; simp only [Act.put, List.setIfInBounds_toArray, List.set_cons_zero, List.set_cons_succ])
    iterate 2 (refine line_read rfl (by kernel_rfl) (fun K hK => ?_); go_big_quiet_op; refine hK _ ?_; clear hK K)
    refine line_nil ?_
    have bb := btr b0 hst.out
    clear hst inst q0 q1 q2 q3 A0 b0 F G Pu
    go_wp2_with fail
    go_ret
    exact ⟨rfl, bb⟩
  · have E : M.matchB n.data.toList u m v s.data.toList (pubB p) p = false := by simp [M.matchB, h1]
    simp only [h1] at F
    rw [E]
    clear h1 E
    clear Q N
    go_enter Tryd.func26, Tryd.ntmps26
    go_wp2_with fail
    generalize w.alloc (.cells #[.string n, .int .i64 u, .int .i64 m, .int .i64 v] 30) = W0 at *
    refine wp_region_line (Bel W0) [(0, false), (1, true), (2, true), (3, true), (4, false), (5, true), (6, true), (7, true), (8, true), (9, false), (10, true), (11, true), (12, true), (13, true), (14, true), (15, true), (16, true), (17, true), (18, true), (19, true), (20, false), (21, true), (22, true), (23, true), (24, true), (25, true), (26, true), (27, true), (28, true), (29, false), (30, true), (31, true), (32, true)] (by kernel_rfl) (by kernel_rfl) (fun _ _ d _ _ h => by cases d <;> exact h) (Bel.drew W0) ?_
    have hst := Bel.drew W0
    have inst : Nonempty (Of (Bel W0)) := ⟨⟨_, hst⟩⟩
    have q0 := bel_cell (A0.cell 0 _ rfl)
    have q1 := bel_cell (A0.cell 1 _ rfl)
    have q2 := bel_cell (A0.cell 2 _ rfl)
    have q3 := bel_cell (A0.cell 3 _ rfl)
    refine line_alone rfl (by kernel_rfl) (fun K hK => ?_)
    refine call_wp (args := #[.pointer (some ⟨w.heap.size, 0, none⟩)]) rfl (by kernel_rfl) (by kernel_rfl) (F _ _ (A0.on hst.out)) (fun wn hbn => ?_)
    have hst2 := hst.on hbn
    refine hK _ _ hst2 ?_
    clear hK K hst hbn
    have hst := hst2
    clear hst2
    simp only [Act.put, List.setIfInBounds_toArray, List.set_cons_zero, List.set_cons_succ]
    iterate 2 (refine line_read rfl (by kernel_rfl) (fun K hK => ?_); go_big_quiet_op; refine hK _ ?_; clear hK K)
    iterate 3 (refine line_skip rfl (by kernel_rfl) ?_; simp only [Act.put, List.setIfInBounds_toArray, List.set_cons_zero, List.set_cons_succ])
    iterate 2 (refine line_read rfl (by kernel_rfl) (fun K hK => ?_); go_big_quiet_op; refine hK _ ?_; clear hK K)
    iterate 2 (refine line_skip rfl (by kernel_rfl) ?_; simp only [Act.put, List.setIfInBounds_toArray, List.set_cons_zero, List.set_cons_succ])
    iterate 2 (refine line_read rfl (by kernel_rfl) (fun K hK => ?_); go_big_quiet_op; refine hK _ ?_; clear hK K)
    iterate 3 (refine line_skip rfl (by kernel_rfl) ?_; simp only [Act.put, List.setIfInBounds_toArray, List.set_cons_zero, List.set_cons_succ])
    iterate 2 (refine line_read rfl (by kernel_rfl) (fun K hK => ?_); go_big_quiet_op; refine hK _ ?_; clear hK K)
    iterate 5 (refine line_skip rfl (by kernel_rfl) ?_; simp only [Act.put, List.setIfInBounds_toArray, List.set_cons_zero, List.set_cons_succ])
    iterate 2 (refine line_read rfl (by kernel_rfl) (fun K hK => ?_); go_big_quiet_op; refine hK _ ?_; clear hK K)
    iterate 7 (refine line_skip rfl (by kernel_rfl) ?_; simp only [Act.put, List.setIfInBounds_toArray, List.set_cons_zero, List.set_cons_succ])
    iterate 2 (refine line_read rfl (by kernel_rfl) (fun K hK => ?_); go_big_quiet_op; refine hK _ ?_; clear hK K)
    refine line_nil ?_
    have bb := btr b0 hst.out
    clear hst inst q0 q1 q2 q3 A0 b0 F G Pu
    go_wp2_with fail
    go_ret
    exact ⟨rfl, bb⟩
  · have E : M.matchB n.data.toList u m v s.data.toList (pubB p) p = false := by simp [M.matchB, h1]
    simp only [h1] at F
    rw [E]
    clear h1 E
    clear Q N
    go_enter Tryd.func26, Tryd.ntmps26
    go_wp2_with fail
    generalize w.alloc (.cells #[.string n, .int .i64 u, .int .i64 m, .int .i64 v] 30) = W0 at *
    refine wp_region_line (Bel W0) [(0, false), (1, true), (2, true), (3, true), (4, false), (5, true), (6, true), (7, true), (8, true), (9, false), (10, true), (11, true), (12, true), (13, true), (14, true), (15, true), (16, true), (17, true), (18, true), (19, true), (20, false), (21, true), (22, true), (23, true), (24, true), (25, true), (26, true), (27, true), (28, true), (29, false), (30, true), (31, true), (32, true)] (by kernel_rfl) (by kernel_rfl) (fun _ _ d _ _ h => by cases d <;> exact h) (Bel.drew W0) ?_
    have hst := Bel.drew W0
    have inst : Nonempty (Of (Bel W0)) := ⟨⟨_, hst⟩⟩
    have q0 := bel_cell (A0.cell 0 _ rfl)
    have q1 := bel_cell (A0.cell 1 _ rfl)
    have q2 := bel_cell (A0.cell 2 _ rfl)
    have q3 := bel_cell (A0.cell 3 _ rfl)
    refine line_alone rfl (by kernel_rfl) (fun K hK => ?_)
    refine call_wp (args := #[.pointer (some ⟨w.heap.size, 0, none⟩)]) rfl (by kernel_rfl) (by kernel_rfl) (F _ _ (A0.on hst.out)) (fun wn hbn => ?_)
    have hst2 := hst.on hbn
    refine hK _ _ hst2 ?_
    clear hK K hst hbn
    have hst := hst2
    clear hst2
    simp only [Act.put, List.setIfInBounds_toArray, List.set_cons_zero, List.set_cons_succ]
    iterate 2 (refine line_read rfl (by kernel_rfl) (fun K hK => ?_); go_big_quiet_op; refine hK _ ?_; clear hK K)
    iterate 3 (refine line_skip rfl (by kernel_rfl) ?_; simp only [Act.put, List.setIfInBounds_toArray, List.set_cons_zero, List.set_cons_succ])
    iterate 2 (refine line_read rfl (by kernel_rfl) (fun K hK => ?_); go_big_quiet_op; refine hK _ ?_; clear hK K)
    iterate 2 (refine line_skip rfl (by kernel_rfl) ?_; simp only [Act.put, List.setIfInBounds_toArray, List.set_cons_zero, List.set_cons_succ])
    iterate 2 (refine line_read rfl (by kernel_rfl) (fun K hK => ?_); go_big_quiet_op; refine hK _ ?_; clear hK K)
    iterate 3 (refine line_skip rfl (by kernel_rfl) ?_; simp only [Act.put, List.setIfInBounds_toArray, List.set_cons_zero, List.set_cons_succ])
    iterate 2 (refine line_read rfl (by kernel_rfl) (fun K hK => ?_); go_big_quiet_op; refine hK _ ?_; clear hK K)
    iterate 5 (refine line_skip rfl (by kernel_rfl) ?_; simp only [Act.put, List.setIfInBounds_toArray, List.set_cons_zero, List.set_cons_succ])
    iterate 2 (refine line_read rfl (by kernel_rfl) (fun K hK => ?_); go_big_quiet_op; refine hK _ ?_; clear hK K)
    iterate 7 (refine line_skip rfl (by kernel_rfl) ?_; simp only [Act.put, List.setIfInBounds_toArray, List.set_cons_zero, List.set_cons_succ])
    iterate 2 (refine line_read rfl (by kernel_rfl) (fun K hK => ?_); go_big_quiet_op; refine hK _ ?_; clear hK K)
    refine line_nil ?_
    have bb := btr b0 hst.out
    clear hst inst q0 q1 q2 q3 A0 b0 F G Pu
    go_wp2_with fail
    go_ret
    exact ⟨rfl, bb⟩
  · have E : M.matchB n.data.toList u m v s.data.toList (pubB p) p = false := by simp [M.matchB, h1]
    simp only [h1] at F
    rw [E]
    clear h1 E
    clear Q N
    go_enter Tryd.func26, Tryd.ntmps26
    go_wp2_with fail
    generalize w.alloc (.cells #[.string n, .int .i64 u, .int .i64 m, .int .i64 v] 30) = W0 at *
    refine wp_region_line (Bel W0) [(0, false), (1, true), (2, true), (3, true), (4, false), (5, true), (6, true), (7, true), (8, true), (9, false), (10, true), (11, true), (12, true), (13, true), (14, true), (15, true), (16, true), (17, true), (18, true), (19, true), (20, false), (21, true), (22, true), (23, true), (24, true), (25, true), (26, true), (27, true), (28, true), (29, false), (30, true), (31, true), (32, true)] (by kernel_rfl) (by kernel_rfl) (fun _ _ d _ _ h => by cases d <;> exact h) (Bel.drew W0) ?_
    have hst := Bel.drew W0
    have inst : Nonempty (Of (Bel W0)) := ⟨⟨_, hst⟩⟩
    have q0 := bel_cell (A0.cell 0 _ rfl)
    have q1 := bel_cell (A0.cell 1 _ rfl)
    have q2 := bel_cell (A0.cell 2 _ rfl)
    have q3 := bel_cell (A0.cell 3 _ rfl)
    refine line_alone rfl (by kernel_rfl) (fun K hK => ?_)
    refine call_wp (args := #[.pointer (some ⟨w.heap.size, 0, none⟩)]) rfl (by kernel_rfl) (by kernel_rfl) (F _ _ (A0.on hst.out)) (fun wn hbn => ?_)
    have hst2 := hst.on hbn
    refine hK _ _ hst2 ?_
    clear hK K hst hbn
    have hst := hst2
    clear hst2
    simp only [Act.put, List.setIfInBounds_toArray, List.set_cons_zero, List.set_cons_succ]
    iterate 2 (refine line_read rfl (by kernel_rfl) (fun K hK => ?_); go_big_quiet_op; refine hK _ ?_; clear hK K)
    iterate 3 (refine line_skip rfl (by kernel_rfl) ?_; simp only [Act.put, List.setIfInBounds_toArray, List.set_cons_zero, List.set_cons_succ])
    iterate 2 (refine line_read rfl (by kernel_rfl) (fun K hK => ?_); go_big_quiet_op; refine hK _ ?_; clear hK K)
    iterate 2 (refine line_skip rfl (by kernel_rfl) ?_; simp only [Act.put, List.setIfInBounds_toArray, List.set_cons_zero, List.set_cons_succ])
    iterate 2 (refine line_read rfl (by kernel_rfl) (fun K hK => ?_); go_big_quiet_op; refine hK _ ?_; clear hK K)
    iterate 3 (refine line_skip rfl (by kernel_rfl) ?_; simp only [Act.put, List.setIfInBounds_toArray, List.set_cons_zero, List.set_cons_succ])
    iterate 2 (refine line_read rfl (by kernel_rfl) (fun K hK => ?_); go_big_quiet_op; refine hK _ ?_; clear hK K)
    iterate 5 (refine line_skip rfl (by kernel_rfl) ?_; simp only [Act.put, List.setIfInBounds_toArray, List.set_cons_zero, List.set_cons_succ])
    iterate 2 (refine line_read rfl (by kernel_rfl) (fun K hK => ?_); go_big_quiet_op; refine hK _ ?_; clear hK K)
    iterate 7 (refine line_skip rfl (by kernel_rfl) ?_; simp only [Act.put, List.setIfInBounds_toArray, List.set_cons_zero, List.set_cons_succ])
    iterate 2 (refine line_read rfl (by kernel_rfl) (fun K hK => ?_); go_big_quiet_op; refine hK _ ?_; clear hK K)
    refine line_nil ?_
    have bb := btr b0 hst.out
    clear hst inst q0 q1 q2 q3 A0 b0 F G Pu
    go_wp2_with fail
    go_ret
    exact ⟨rfl, bb⟩
end Go.Proofs.YtdkgiiikcapjcaaDoor
