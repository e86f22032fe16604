/- Texts of this seat that several laws rest on, laid into one. Conditions: as each theorem states. -/
import Derived.Test.YtmdknbgpddnplaaGreatDoorS0
import Derived.Test.YtmdknbgpddnplaaGreatDoorS1
import Derived.Test.YtmdknbgpddnplaaGreatDoorS2
import Derived.Test.YtmdknbgpddnplaaGreatDoorS3
import Derived.Deep.CutRange
import Derived.LaidEql
import Derived.Stop.Asserts
import Derived.RowKitTokens
import Derived.Laws.IdiomCopy
namespace Go.Proofs.YtmdknbgpddnplaaGreatDoor
open Go.RowKit
set_option maxRecDepth 100000
set_option linter.unusedVariables false

theorem isTime_any (v : Int) (w : World) : Calls Tryz.prog 66 #[.int .i64 v] w fun e w' => e = .returned (.bool (timB v)) ∧ w = w' := by
  by_cases h0 : 0 ≤ v
  · by_cases h1 : v ≤ 9999
    · have e : timB v = true := by simp [timB]; omega
      rw [e]
      go_enter Tryz.func66, Tryz.ntmps66
      go_wp2_with fail
      go_ret
      simp
    · have e : timB v = false := by simp [timB]; omega
      rw [e]
      go_enter Tryz.func66, Tryz.ntmps66
      go_wp2_with fail
      go_ret
      simp
  · have e : timB v = false := by simp [timB]; omega
    rw [e]
    go_enter Tryz.func66, Tryz.ntmps66
    go_wp2_with fail
    go_ret
    simp
theorem isEpoch_any (v : Int) (w : World) : Calls Tryz.prog 116 #[.int .i64 v] w fun e w' => e = .returned (.bool (epB v)) ∧ w = w' := by
  by_cases h0 : 1 ≤ v
  · by_cases h1 : v ≤ 200
    · have e : epB v = true := by simp [epB]; omega
      rw [e]
      go_enter Tryz.func116, Tryz.ntmps116
      go_wp2_with fail
      go_ret
      simp
    · have e : epB v = false := by simp [epB]; omega
      rw [e]
      go_enter Tryz.func116, Tryz.ntmps116
      go_wp2_with fail
      go_ret
      simp
  · have e : epB v = false := by simp [epB]; omega
    rw [e]
    go_enter Tryz.func116, Tryz.ntmps116
    go_wp2_with fail
    go_ret
    simp
theorem isBackup_any (v : Int) (w : World) : Calls Tryz.prog 115 #[.int .i64 v] w fun e w' => e = .returned (.bool (bakB v)) ∧ Below w.heap.size w w' := by
  by_cases h0 : v = 0
  · have e : bakB v = true := by simp [bakB, h0]
    rw [e]
    subst h0
    go_enter Tryz.func115, Tryz.ntmps115
    go_wp2_with fail
    go_ret
    exact ⟨rfl, Below.refl _ _⟩
  · have e : bakB v = pubB v := by simp [bakB, h0]
    rw [e]
    have q0 : (v == 0) = false := by simpa using h0
    generalize hp : pubB v = c
    go_enter Tryz.func115, Tryz.ntmps115
    go_wp2_with fail
    refine (implIsPublic_any _ _).mono ?_
    rintro r u1 ⟨rfl, b1⟩
    rw [hp]
    go_wp2_with fail
    go_ret
    exact ⟨rfl, b1⟩

theorem implPinFault_any (p : PinD) (w : World) (hn : p.n.size ≤ maxLen) :
    Calls Tryz.prog 65 #[P5 p] w fun e w' => e = .returned (.int .i64 p.f) ∧ Below w.heap.size w w' := by
  obtain ⟨n, a, b, c, u⟩ := p
  show Calls Tryz.prog 65 #[.agg #[.string n, .int .i64 a, .int .i64 b, .int .i64 c, .int .i64 u]] w fun e w' => e = .returned (.int .i64 (pinF n.data.toList a b c u)) ∧ Below w.heap.size w w'
  have b0 := bal (Below.refl _ w) (.cells #[.string n, .int .i64 a, .int .i64 b, .int .i64 c, .int .i64 u] 25)
  have A0 := At.new w [.string n, .int .i64 a, .int .i64 b, .int .i64 c, .int .i64 u] 25
  have F := fun w => implNormalFault_any n w hn
  by_cases h0 : M.normF n.data.toList = 0
  · rw [h0] at F
    cases hp : pubB a
    · rw [pinF_no h0 (by simp [pinB, hp])]
      go_enter Tryz.func65, Tryz.ntmps65
      go_wp2_with fail
      generalize w.alloc (.cells #[.string n, .int .i64 a, .int .i64 b, .int .i64 c, .int .i64 u] 25) = W0 at *
      refine (F _).mono ?_
      rintro r u1 ⟨rfl, b1⟩
      have A1 := A0.on b1
      have p0 := A1.cell 0 _ rfl
      have p1 := A1.cell 1 _ rfl
      have p2 := A1.cell 2 _ rfl
      have p3 := A1.cell 3 _ rfl
      have p4 := A1.cell 4 _ rfl
      have B1 := btr b0 b1
      clear A0 b0 b1 F
      go_wp2_with fail
      refine (implIsPublic_any _ _).mono ?_
      rintro r u2 ⟨rfl, b2⟩
      have A2 := A1.on b2
      have q0 := A2.cell 0 _ rfl
      have q1 := A2.cell 1 _ rfl
      have q2 := A2.cell 2 _ rfl
      have q3 := A2.cell 3 _ rfl
      have q4 := A2.cell 4 _ rfl
      have B2 := btr B1 b2
      clear A1 B1 b2 p0 p1 p2 p3 p4
      go_wp2_with fail
      go_ret
      exact ⟨rfl, B2⟩
    cases hk : bakB b
    · rw [pinF_no h0 (by simp [pinB, hk])]
      go_enter Tryz.func65, Tryz.ntmps65
      go_wp2_with fail
      generalize w.alloc (.cells #[.string n, .int .i64 a, .int .i64 b, .int .i64 c, .int .i64 u] 25) = W0 at *
      refine (F _).mono ?_
      rintro r u1 ⟨rfl, b1⟩
      have A1 := A0.on b1
      have p0 := A1.cell 0 _ rfl
      have p1 := A1.cell 1 _ rfl
      have p2 := A1.cell 2 _ rfl
      have p3 := A1.cell 3 _ rfl
      have p4 := A1.cell 4 _ rfl
      have B1 := btr b0 b1
      clear A0 b0 b1 F
      go_wp2_with fail
      refine (implIsPublic_any _ _).mono ?_
      rintro r u2 ⟨rfl, b2⟩
      have A2 := A1.on b2
      have q0 := A2.cell 0 _ rfl
      have q1 := A2.cell 1 _ rfl
      have q2 := A2.cell 2 _ rfl
      have q3 := A2.cell 3 _ rfl
      have q4 := A2.cell 4 _ rfl
      have B2 := btr B1 b2
      clear A1 B1 b2 p0 p1 p2 p3 p4
      go_wp2_with fail
      refine (isBackup_any _ _).mono ?_
      rintro r u3 ⟨rfl, b3⟩
      have A3 := A2.on b3
      have x0 := A3.cell 0 _ rfl
      have x1 := A3.cell 1 _ rfl
      have x2 := A3.cell 2 _ rfl
      have x3 := A3.cell 3 _ rfl
      have x4 := A3.cell 4 _ rfl
      have B3 := btr B2 b3
      clear A2 B2 b3 q0 q1 q2 q3 q4
      go_wp2_with fail
      go_ret
      exact ⟨rfl, B3⟩
    cases he : epB c
    · rw [pinF_no h0 (by simp [pinB, he])]
      go_enter Tryz.func65, Tryz.ntmps65
      go_wp2_with fail
      generalize w.alloc (.cells #[.string n, .int .i64 a, .int .i64 b, .int .i64 c, .int .i64 u] 25) = W0 at *
      refine (F _).mono ?_
      rintro r u1 ⟨rfl, b1⟩
      have A1 := A0.on b1
      have p0 := A1.cell 0 _ rfl
      have p1 := A1.cell 1 _ rfl
      have p2 := A1.cell 2 _ rfl
      have p3 := A1.cell 3 _ rfl
      have p4 := A1.cell 4 _ rfl
      have B1 := btr b0 b1
      clear A0 b0 b1 F
      go_wp2_with fail
      refine (implIsPublic_any _ _).mono ?_
      rintro r u2 ⟨rfl, b2⟩
      have A2 := A1.on b2
      have q0 := A2.cell 0 _ rfl
      have q1 := A2.cell 1 _ rfl
      have q2 := A2.cell 2 _ rfl
      have q3 := A2.cell 3 _ rfl
      have q4 := A2.cell 4 _ rfl
      have B2 := btr B1 b2
      clear A1 B1 b2 p0 p1 p2 p3 p4
      go_wp2_with fail
      refine (isBackup_any _ _).mono ?_
      rintro r u3 ⟨rfl, b3⟩
      have A3 := A2.on b3
      have x0 := A3.cell 0 _ rfl
      have x1 := A3.cell 1 _ rfl
      have x2 := A3.cell 2 _ rfl
      have x3 := A3.cell 3 _ rfl
      have x4 := A3.cell 4 _ rfl
      have B3 := btr B2 b3
      clear A2 B2 b3 q0 q1 q2 q3 q4
      go_wp2_with fail
      refine (isEpoch_any _ _).mono ?_
      rintro r w' ⟨rfl, rfl⟩
      go_wp2_with fail
      go_ret
      exact ⟨rfl, B3⟩
    cases ht : timB u
    · rw [pinF_no h0 (by simp [pinB, ht])]
      go_enter Tryz.func65, Tryz.ntmps65
      go_wp2_with fail
      generalize w.alloc (.cells #[.string n, .int .i64 a, .int .i64 b, .int .i64 c, .int .i64 u] 25) = W0 at *
      refine (F _).mono ?_
      rintro r u1 ⟨rfl, b1⟩
      have A1 := A0.on b1
      have p0 := A1.cell 0 _ rfl
      have p1 := A1.cell 1 _ rfl
      have p2 := A1.cell 2 _ rfl
      have p3 := A1.cell 3 _ rfl
      have p4 := A1.cell 4 _ rfl
      have B1 := btr b0 b1
      clear A0 b0 b1 F
      go_wp2_with fail
      refine (implIsPublic_any _ _).mono ?_
      rintro r u2 ⟨rfl, b2⟩
      have A2 := A1.on b2
      have q0 := A2.cell 0 _ rfl
      have q1 := A2.cell 1 _ rfl
      have q2 := A2.cell 2 _ rfl
      have q3 := A2.cell 3 _ rfl
      have q4 := A2.cell 4 _ rfl
      have B2 := btr B1 b2
      clear A1 B1 b2 p0 p1 p2 p3 p4
      go_wp2_with fail
      refine (isBackup_any _ _).mono ?_
      rintro r u3 ⟨rfl, b3⟩
      have A3 := A2.on b3
      have x0 := A3.cell 0 _ rfl
      have x1 := A3.cell 1 _ rfl
      have x2 := A3.cell 2 _ rfl
      have x3 := A3.cell 3 _ rfl
      have x4 := A3.cell 4 _ rfl
      have B3 := btr B2 b3
      clear A2 B2 b3 q0 q1 q2 q3 q4
      go_wp2_with fail
      refine (isEpoch_any _ _).mono ?_
      rintro r w' ⟨rfl, rfl⟩
      go_wp2_with fail
      refine (isTime_any _ _).mono ?_
      rintro r w' ⟨rfl, rfl⟩
      go_wp2_with fail
      go_ret
      exact ⟨rfl, B3⟩
    by_cases hba : b = a
    · rw [pinF_taken h0 (by simp [pinB, hp, hk, he, ht]) hba]
      have qba : (b == a) = true := by simpa using hba
      clear hba
      go_enter Tryz.func65, Tryz.ntmps65
      go_wp2_with fail
      generalize w.alloc (.cells #[.string n, .int .i64 a, .int .i64 b, .int .i64 c, .int .i64 u] 25) = W0 at *
      refine (F _).mono ?_
      rintro r u1 ⟨rfl, b1⟩
      have A1 := A0.on b1
      have p0 := A1.cell 0 _ rfl
      have p1 := A1.cell 1 _ rfl
      have p2 := A1.cell 2 _ rfl
      have p3 := A1.cell 3 _ rfl
      have p4 := A1.cell 4 _ rfl
      have B1 := btr b0 b1
      clear A0 b0 b1 F
      go_wp2_with fail
      refine (implIsPublic_any _ _).mono ?_
      rintro r u2 ⟨rfl, b2⟩
      have A2 := A1.on b2
      have q0 := A2.cell 0 _ rfl
      have q1 := A2.cell 1 _ rfl
      have q2 := A2.cell 2 _ rfl
      have q3 := A2.cell 3 _ rfl
      have q4 := A2.cell 4 _ rfl
      have B2 := btr B1 b2
      clear A1 B1 b2 p0 p1 p2 p3 p4
      go_wp2_with fail
      refine (isBackup_any _ _).mono ?_
      rintro r u3 ⟨rfl, b3⟩
      have A3 := A2.on b3
      have x0 := A3.cell 0 _ rfl
      have x1 := A3.cell 1 _ rfl
      have x2 := A3.cell 2 _ rfl
      have x3 := A3.cell 3 _ rfl
      have x4 := A3.cell 4 _ rfl
      have B3 := btr B2 b3
      clear A2 B2 b3 q0 q1 q2 q3 q4
      go_wp2_with fail
      refine (isEpoch_any _ _).mono ?_
      rintro r w' ⟨rfl, rfl⟩
      go_wp2_with fail
      refine (isTime_any _ _).mono ?_
      rintro r w' ⟨rfl, rfl⟩
      go_wp2_with fail
      go_ret
      exact ⟨rfl, B3⟩
    · rw [pinF_yes h0 (by simp [pinB, hp, hk, he, ht]) hba]
      have qba : (b == a) = false := by simpa using hba
      go_enter Tryz.func65, Tryz.ntmps65
      go_wp2_with fail
      generalize w.alloc (.cells #[.string n, .int .i64 a, .int .i64 b, .int .i64 c, .int .i64 u] 25) = W0 at *
      refine (F _).mono ?_
      rintro r u1 ⟨rfl, b1⟩
      have A1 := A0.on b1
      have p0 := A1.cell 0 _ rfl
      have p1 := A1.cell 1 _ rfl
      have p2 := A1.cell 2 _ rfl
      have p3 := A1.cell 3 _ rfl
      have p4 := A1.cell 4 _ rfl
      have B1 := btr b0 b1
      clear A0 b0 b1 F
      go_wp2_with fail
      refine (implIsPublic_any _ _).mono ?_
      rintro r u2 ⟨rfl, b2⟩
      have A2 := A1.on b2
      have q0 := A2.cell 0 _ rfl
      have q1 := A2.cell 1 _ rfl
      have q2 := A2.cell 2 _ rfl
      have q3 := A2.cell 3 _ rfl
      have q4 := A2.cell 4 _ rfl
      have B2 := btr B1 b2
      clear A1 B1 b2 p0 p1 p2 p3 p4
      go_wp2_with fail
      refine (isBackup_any _ _).mono ?_
      rintro r u3 ⟨rfl, b3⟩
      have A3 := A2.on b3
      have x0 := A3.cell 0 _ rfl
      have x1 := A3.cell 1 _ rfl
      have x2 := A3.cell 2 _ rfl
      have x3 := A3.cell 3 _ rfl
      have x4 := A3.cell 4 _ rfl
      have B3 := btr B2 b3
      clear A2 B2 b3 q0 q1 q2 q3 q4
      go_wp2_with fail
      refine (isEpoch_any _ _).mono ?_
      rintro r w' ⟨rfl, rfl⟩
      go_wp2_with fail
      refine (isTime_any _ _).mono ?_
      rintro r w' ⟨rfl, rfl⟩
      go_wp2_with fail
      go_ret
      exact ⟨rfl, B3⟩
  · rw [pinF_norm h0]
    generalize M.normF n.data.toList = c0 at *
    go_enter Tryz.func65, Tryz.ntmps65
    go_wp2_with fail
    generalize w.alloc (.cells #[.string n, .int .i64 a, .int .i64 b, .int .i64 c, .int .i64 u] 25) = W0 at *
    refine (F _).mono ?_
    rintro r u1 ⟨rfl, b1⟩
    have A1 := A0.on b1
    have p0 := A1.cell 0 _ rfl
    have p1 := A1.cell 1 _ rfl
    have p2 := A1.cell 2 _ rfl
    have p3 := A1.cell 3 _ rfl
    have p4 := A1.cell 4 _ rfl
    have B1 := btr b0 b1
    clear A0 b0 b1 F
    go_wp2_with fail
    go_ret
    exact ⟨rfl, B1⟩

theorem l7Time_any (v : Int) (w : World) : Calls Tryz.prog 63 #[.int .i64 v] w fun e w' => e = .returned (.bool (timB v)) ∧ w = w' := by
  have T : ∀ w, Calls Tryz.prog 110 #[.int .i64 v, .int .i64 0, .int .i64 9999] w fun e w' => e = .returned (.bool (timB v)) ∧ w = w' := fun w => l1In_any v 0 9999 w
  generalize timB v = c at *
  go_enter Tryz.func63, Tryz.ntmps63
  go_wp2_with fail
  refine (T _).mono ?_
  rintro r w' ⟨rfl, rfl⟩
  go_wp2_with fail
  go_ret
  simp
theorem l1In_ep (v : Int) (w : World) : Calls Tryz.prog 110 #[.int .i64 v, .int .i64 1, .int .i64 200] w fun e w' => e = .returned (.bool (epB v)) ∧ w = w' := l1In_any v 1 200 w

set_option maxHeartbeats 4000000 in
theorem l7Fault_at (g o : Nat) (p : PinD) (w : World) (hn : p.n.size ≤ maxLen)
    (d0 : w.cell? ⟨g, o, none⟩ = some (.string p.n)) (d1 : w.cell? ⟨g, o + 1, none⟩ = some (.int .i64 p.a)) (d2 : w.cell? ⟨g, o + 2, none⟩ = some (.int .i64 p.b)) (d3 : w.cell? ⟨g, o + 3, none⟩ = some (.int .i64 p.e)) (d4 : w.cell? ⟨g, o + 4, none⟩ = some (.int .i64 p.u)) :
    Calls Tryz.prog 61 #[.pointer (some ⟨g, o, none⟩)] w fun e w' => e = .returned (.int .i64 p.f) ∧ Below w.heap.size w w' := by
  obtain ⟨n, a, b, c, u⟩ := p
  show Calls Tryz.prog 61 #[.pointer (some ⟨g, o, none⟩)] w fun e w' => e = .returned (.int .i64 (pinF n.data.toList a b c u)) ∧ Below w.heap.size w w'
  dsimp only at hn d0 d1 d2 d3 d4
  have hL : n.data.toList.length = n.size := by simp
  have F := fun w => l5Fault_any n w hn
  by_cases h0 : M.nameF n.data.toList = 0
  · obtain ⟨h20, hm⟩ := M.nameF_zero h0
    rw [hL] at h20
    have N := fun w : World => l5Normal_any n w h20
    have Q := text_beq (M.bs (M.nrm n.data.toList)) n
    rw [M.bs_list] at Q
    rw [h0] at F
    by_cases hq : M.nrm n.data.toList = n.data.toList
    · have h1 := M.normF_yes h0 hq
      rw [decide_eq_true hq] at Q
      generalize M.bs (M.nrm n.data.toList) = R at *
      clear h0 hm hq hL
      cases hp : pubB a
      · rw [pinF_no h1 (by simp [pinB, hp])]
        go_enter Tryz.func61, Tryz.ntmps61
        go_wp2_with fail
        refine (F _).mono ?_
        rintro r u1 ⟨rfl, b1⟩
        have p0 := cell_keep b1 d0
        go_wp2_with fail
        refine wp_region_line (Bel u1) [(0, true), (1, true), (2, true), (3, true), (5, true), (6, true), (7, true), (8, true), (4, false), (9, true)] (by kernel_rfl) (by kernel_rfl) (fun _ _ d _ _ h => by cases d <;> exact h) (Bel.drew u1) ?_
        have hst := Bel.drew u1
        have inst : Nonempty (Of (Bel u1)) := ⟨⟨_, hst⟩⟩
        have q0 := bel_cell p0
        iterate 8 (refine line_read rfl (by kernel_rfl) (fun K hK => ?_); go_big_quiet_op; refine hK _ ?_; clear hK K)
        refine line_alone rfl (by kernel_rfl) (fun K hK => ?_)
        refine call_wp (args := #[.string n]) rfl (by kernel_rfl) (by kernel_rfl) (N _) (fun wn hbn => ?_)
        have hst2 := hst.on hbn
        refine hK _ _ hst2 ?_
        clear hK K hst hbn
        have hst := hst2
        clear hst2
        simp only [Act.put, List.setIfInBounds_toArray, List.set_cons_zero, List.set_cons_succ]
        iterate 1 (refine line_read rfl (by kernel_rfl) (fun K hK => ?_); go_big_quiet_op; refine hK _ ?_; clear hK K)
        refine line_nil ?_
        have bb := btr b1 hst.out
        have y1 := cell_keep bb d1
        have y2 := cell_keep bb d2
        have y3 := cell_keep bb d3
        have y4 := cell_keep bb d4
        clear hst inst q0 p0 b1 F N d0 d1 d2 d3 d4
        go_wp2_with fail
        refine (l1Public_any _ _).mono ?_
        rintro r w' ⟨rfl, rfl⟩
        go_wp2_with fail
        go_ret
        exact ⟨rfl, bb⟩
      by_cases hb0 : b = 0
      · have hk : bakB b = true := by simp [bakB, hb0]
        subst hb0
        cases he : epB c
        · rw [pinF_no h1 (by simp [pinB, he])]
          go_enter Tryz.func61, Tryz.ntmps61
          go_wp2_with fail
          refine (F _).mono ?_
          rintro r u1 ⟨rfl, b1⟩
          have p0 := cell_keep b1 d0
          go_wp2_with fail
          refine wp_region_line (Bel u1) [(0, true), (1, true), (2, true), (3, true), (5, true), (6, true), (7, true), (8, true), (4, false), (9, true)] (by kernel_rfl) (by kernel_rfl) (fun _ _ d _ _ h => by cases d <;> exact h) (Bel.drew u1) ?_
          have hst := Bel.drew u1
          have inst : Nonempty (Of (Bel u1)) := ⟨⟨_, hst⟩⟩
          have q0 := bel_cell p0
          iterate 8 (refine line_read rfl (by kernel_rfl) (fun K hK => ?_); go_big_quiet_op; refine hK _ ?_; clear hK K)
          refine line_alone rfl (by kernel_rfl) (fun K hK => ?_)
          refine call_wp (args := #[.string n]) rfl (by kernel_rfl) (by kernel_rfl) (N _) (fun wn hbn => ?_)
          have hst2 := hst.on hbn
          refine hK _ _ hst2 ?_
          clear hK K hst hbn
          have hst := hst2
          clear hst2
          simp only [Act.put, List.setIfInBounds_toArray, List.set_cons_zero, List.set_cons_succ]
          iterate 1 (refine line_read rfl (by kernel_rfl) (fun K hK => ?_); go_big_quiet_op; refine hK _ ?_; clear hK K)
          refine line_nil ?_
          have bb := btr b1 hst.out
          have y1 := cell_keep bb d1
          have y2 := cell_keep bb d2
          have y3 := cell_keep bb d3
          have y4 := cell_keep bb d4
          clear hst inst q0 p0 b1 F N d0 d1 d2 d3 d4
          go_wp2_with fail
          refine (l1Public_any _ _).mono ?_
          rintro r w' ⟨rfl, rfl⟩
          go_wp2_with fail
          refine (l1In_ep _ _).mono ?_
          rintro r w' ⟨rfl, rfl⟩
          go_wp2_with fail
          go_ret
          exact ⟨rfl, bb⟩
        cases ht : timB u
        · rw [pinF_no h1 (by simp [pinB, ht])]
          go_enter Tryz.func61, Tryz.ntmps61
          go_wp2_with fail
          refine (F _).mono ?_
          rintro r u1 ⟨rfl, b1⟩
          have p0 := cell_keep b1 d0
          go_wp2_with fail
          refine wp_region_line (Bel u1) [(0, true), (1, true), (2, true), (3, true), (5, true), (6, true), (7, true), (8, true), (4, false), (9, true)] (by kernel_rfl) (by kernel_rfl) (fun _ _ d _ _ h => by cases d <;> exact h) (Bel.drew u1) ?_
          have hst := Bel.drew u1
          have inst : Nonempty (Of (Bel u1)) := ⟨⟨_, hst⟩⟩
          have q0 := bel_cell p0
          iterate 8 (refine line_read rfl (by kernel_rfl) (fun K hK => ?_); go_big_quiet_op; refine hK _ ?_; clear hK K)
          refine line_alone rfl (by kernel_rfl) (fun K hK => ?_)
          refine call_wp (args := #[.string n]) rfl (by kernel_rfl) (by kernel_rfl) (N _) (fun wn hbn => ?_)
          have hst2 := hst.on hbn
          refine hK _ _ hst2 ?_
          clear hK K hst hbn
          have hst := hst2
          clear hst2
          simp only [Act.put, List.setIfInBounds_toArray, List.set_cons_zero, List.set_cons_succ]
          iterate 1 (refine line_read rfl (by kernel_rfl) (fun K hK => ?_); go_big_quiet_op; refine hK _ ?_; clear hK K)
          refine line_nil ?_
          have bb := btr b1 hst.out
          have y1 := cell_keep bb d1
          have y2 := cell_keep bb d2
          have y3 := cell_keep bb d3
          have y4 := cell_keep bb d4
          clear hst inst q0 p0 b1 F N d0 d1 d2 d3 d4
          go_wp2_with fail
          refine (l1Public_any _ _).mono ?_
          rintro r w' ⟨rfl, rfl⟩
          go_wp2_with fail
          refine (l1In_ep _ _).mono ?_
          rintro r w' ⟨rfl, rfl⟩
          go_wp2_with fail
          refine (l7Time_any _ _).mono ?_
          rintro r w' ⟨rfl, rfl⟩
          go_wp2_with fail
          go_ret
          exact ⟨rfl, bb⟩
        by_cases hba : (0 : Int) = a
        · rw [pinF_taken h1 (by simp [pinB, hp, hk, he, ht]) hba]
          subst hba
          go_enter Tryz.func61, Tryz.ntmps61
          go_wp2_with fail
          refine (F _).mono ?_
          rintro r u1 ⟨rfl, b1⟩
          have p0 := cell_keep b1 d0
          go_wp2_with fail
          refine wp_region_line (Bel u1) [(0, true), (1, true), (2, true), (3, true), (5, true), (6, true), (7, true), (8, true), (4, false), (9, true)] (by kernel_rfl) (by kernel_rfl) (fun _ _ d _ _ h => by cases d <;> exact h) (Bel.drew u1) ?_
          have hst := Bel.drew u1
          have inst : Nonempty (Of (Bel u1)) := ⟨⟨_, hst⟩⟩
          have q0 := bel_cell p0
          iterate 8 (refine line_read rfl (by kernel_rfl) (fun K hK => ?_); go_big_quiet_op; refine hK _ ?_; clear hK K)
          refine line_alone rfl (by kernel_rfl) (fun K hK => ?_)
          refine call_wp (args := #[.string n]) rfl (by kernel_rfl) (by kernel_rfl) (N _) (fun wn hbn => ?_)
          have hst2 := hst.on hbn
          refine hK _ _ hst2 ?_
          clear hK K hst hbn
          have hst := hst2
          clear hst2
          simp only [Act.put, List.setIfInBounds_toArray, List.set_cons_zero, List.set_cons_succ]
          iterate 1 (refine line_read rfl (by kernel_rfl) (fun K hK => ?_); go_big_quiet_op; refine hK _ ?_; clear hK K)
          refine line_nil ?_
          have bb := btr b1 hst.out
          have y1 := cell_keep bb d1
          have y2 := cell_keep bb d2
          have y3 := cell_keep bb d3
          have y4 := cell_keep bb d4
          clear hst inst q0 p0 b1 F N d0 d1 d2 d3 d4
          go_wp2_with fail
          refine (l1Public_any _ _).mono ?_
          rintro r w' ⟨rfl, rfl⟩
          go_wp2_with fail
          refine (l1In_ep _ _).mono ?_
          rintro r w' ⟨rfl, rfl⟩
          go_wp2_with fail
          refine (l7Time_any _ _).mono ?_
          rintro r w' ⟨rfl, rfl⟩
          go_wp2_with fail
          go_quiet (fail)
          go_wp2_with fail
          go_ret
          exact ⟨rfl, bdrewN bb _⟩
        · rw [pinF_yes h1 (by simp [pinB, hp, hk, he, ht]) hba]
          have qba : ((0 : Int) == a) = false := by simpa using hba
          go_enter Tryz.func61, Tryz.ntmps61
          go_wp2_with fail
          refine (F _).mono ?_
          rintro r u1 ⟨rfl, b1⟩
          have p0 := cell_keep b1 d0
          go_wp2_with fail
          refine wp_region_line (Bel u1) [(0, true), (1, true), (2, true), (3, true), (5, true), (6, true), (7, true), (8, true), (4, false), (9, true)] (by kernel_rfl) (by kernel_rfl) (fun _ _ d _ _ h => by cases d <;> exact h) (Bel.drew u1) ?_
          have hst := Bel.drew u1
          have inst : Nonempty (Of (Bel u1)) := ⟨⟨_, hst⟩⟩
          have q0 := bel_cell p0
          iterate 8 (refine line_read rfl (by kernel_rfl) (fun K hK => ?_); go_big_quiet_op; refine hK _ ?_; clear hK K)
          refine line_alone rfl (by kernel_rfl) (fun K hK => ?_)
          refine call_wp (args := #[.string n]) rfl (by kernel_rfl) (by kernel_rfl) (N _) (fun wn hbn => ?_)
          have hst2 := hst.on hbn
          refine hK _ _ hst2 ?_
          clear hK K hst hbn
          have hst := hst2
          clear hst2
          simp only [Act.put, List.setIfInBounds_toArray, List.set_cons_zero, List.set_cons_succ]
          iterate 1 (refine line_read rfl (by kernel_rfl) (fun K hK => ?_); go_big_quiet_op; refine hK _ ?_; clear hK K)
          refine line_nil ?_
          have bb := btr b1 hst.out
          have y1 := cell_keep bb d1
          have y2 := cell_keep bb d2
          have y3 := cell_keep bb d3
          have y4 := cell_keep bb d4
          clear hst inst q0 p0 b1 F N d0 d1 d2 d3 d4
          go_wp2_with fail
          refine (l1Public_any _ _).mono ?_
          rintro r w' ⟨rfl, rfl⟩
          go_wp2_with fail
          refine (l1In_ep _ _).mono ?_
          rintro r w' ⟨rfl, rfl⟩
          go_wp2_with fail
          refine (l7Time_any _ _).mono ?_
          rintro r w' ⟨rfl, rfl⟩
          go_wp2_with fail
          go_quiet (fail)
          go_wp2_with fail
          go_ret
          exact ⟨rfl, bdrewN bb _⟩
      · have hk : bakB b = pubB b := by simp [bakB, hb0]
        have qb0 : (b == 0) = false := by simpa using hb0
        cases hkp : pubB b
        · rw [pinF_no h1 (by simp [pinB, hk, hkp])]
          clear hk
          go_enter Tryz.func61, Tryz.ntmps61
          go_wp2_with fail
          refine (F _).mono ?_
          rintro r u1 ⟨rfl, b1⟩
          have p0 := cell_keep b1 d0
          go_wp2_with fail
          refine wp_region_line (Bel u1) [(0, true), (1, true), (2, true), (3, true), (5, true), (6, true), (7, true), (8, true), (4, false), (9, true)] (by kernel_rfl) (by kernel_rfl) (fun _ _ d _ _ h => by cases d <;> exact h) (Bel.drew u1) ?_
          have hst := Bel.drew u1
          have inst : Nonempty (Of (Bel u1)) := ⟨⟨_, hst⟩⟩
          have q0 := bel_cell p0
          iterate 8 (refine line_read rfl (by kernel_rfl) (fun K hK => ?_); go_big_quiet_op; refine hK _ ?_; clear hK K)
          refine line_alone rfl (by kernel_rfl) (fun K hK => ?_)
          refine call_wp (args := #[.string n]) rfl (by kernel_rfl) (by kernel_rfl) (N _) (fun wn hbn => ?_)
          have hst2 := hst.on hbn
          refine hK _ _ hst2 ?_
          clear hK K hst hbn
          have hst := hst2
          clear hst2
          simp only [Act.put, List.setIfInBounds_toArray, List.set_cons_zero, List.set_cons_succ]
          iterate 1 (refine line_read rfl (by kernel_rfl) (fun K hK => ?_); go_big_quiet_op; refine hK _ ?_; clear hK K)
          refine line_nil ?_
          have bb := btr b1 hst.out
          have y1 := cell_keep bb d1
          have y2 := cell_keep bb d2
          have y3 := cell_keep bb d3
          have y4 := cell_keep bb d4
          clear hst inst q0 p0 b1 F N d0 d1 d2 d3 d4
          go_wp2_with fail
          refine (l1Public_any _ _).mono ?_
          rintro r w' ⟨rfl, rfl⟩
          go_wp2_with fail
          refine (l1Public_any _ _).mono ?_
          rintro r w' ⟨rfl, rfl⟩
          go_wp2_with fail
          go_ret
          exact ⟨rfl, bb⟩
        rw [hkp] at hk
        cases he : epB c
        · rw [pinF_no h1 (by simp [pinB, he])]
          go_enter Tryz.func61, Tryz.ntmps61
          go_wp2_with fail
          refine (F _).mono ?_
          rintro r u1 ⟨rfl, b1⟩
          have p0 := cell_keep b1 d0
          go_wp2_with fail
          refine wp_region_line (Bel u1) [(0, true), (1, true), (2, true), (3, true), (5, true), (6, true), (7, true), (8, true), (4, false), (9, true)] (by kernel_rfl) (by kernel_rfl) (fun _ _ d _ _ h => by cases d <;> exact h) (Bel.drew u1) ?_
          have hst := Bel.drew u1
          have inst : Nonempty (Of (Bel u1)) := ⟨⟨_, hst⟩⟩
          have q0 := bel_cell p0
          iterate 8 (refine line_read rfl (by kernel_rfl) (fun K hK => ?_); go_big_quiet_op; refine hK _ ?_; clear hK K)
          refine line_alone rfl (by kernel_rfl) (fun K hK => ?_)
          refine call_wp (args := #[.string n]) rfl (by kernel_rfl) (by kernel_rfl) (N _) (fun wn hbn => ?_)
          have hst2 := hst.on hbn
          refine hK _ _ hst2 ?_
          clear hK K hst hbn
          have hst := hst2
          clear hst2
          simp only [Act.put, List.setIfInBounds_toArray, List.set_cons_zero, List.set_cons_succ]
          iterate 1 (refine line_read rfl (by kernel_rfl) (fun K hK => ?_); go_big_quiet_op; refine hK _ ?_; clear hK K)
          refine line_nil ?_
          have bb := btr b1 hst.out
          have y1 := cell_keep bb d1
          have y2 := cell_keep bb d2
          have y3 := cell_keep bb d3
          have y4 := cell_keep bb d4
          clear hst inst q0 p0 b1 F N d0 d1 d2 d3 d4
          go_wp2_with fail
          refine (l1Public_any _ _).mono ?_
          rintro r w' ⟨rfl, rfl⟩
          go_wp2_with fail
          refine (l1Public_any _ _).mono ?_
          rintro r w' ⟨rfl, rfl⟩
          go_wp2_with fail
          refine (l1In_ep _ _).mono ?_
          rintro r w' ⟨rfl, rfl⟩
          go_wp2_with fail
          go_ret
          exact ⟨rfl, bb⟩
        cases ht : timB u
        · rw [pinF_no h1 (by simp [pinB, ht])]
          go_enter Tryz.func61, Tryz.ntmps61
          go_wp2_with fail
          refine (F _).mono ?_
          rintro r u1 ⟨rfl, b1⟩
          have p0 := cell_keep b1 d0
          go_wp2_with fail
          refine wp_region_line (Bel u1) [(0, true), (1, true), (2, true), (3, true), (5, true), (6, true), (7, true), (8, true), (4, false), (9, true)] (by kernel_rfl) (by kernel_rfl) (fun _ _ d _ _ h => by cases d <;> exact h) (Bel.drew u1) ?_
          have hst := Bel.drew u1
          have inst : Nonempty (Of (Bel u1)) := ⟨⟨_, hst⟩⟩
          have q0 := bel_cell p0
          iterate 8 (refine line_read rfl (by kernel_rfl) (fun K hK => ?_); go_big_quiet_op; refine hK _ ?_; clear hK K)
          refine line_alone rfl (by kernel_rfl) (fun K hK => ?_)
          refine call_wp (args := #[.string n]) rfl (by kernel_rfl) (by kernel_rfl) (N _) (fun wn hbn => ?_)
          have hst2 := hst.on hbn
          refine hK _ _ hst2 ?_
          clear hK K hst hbn
          have hst := hst2
          clear hst2
          simp only [Act.put, List.setIfInBounds_toArray, List.set_cons_zero, List.set_cons_succ]
          iterate 1 (refine line_read rfl (by kernel_rfl) (fun K hK => ?_); go_big_quiet_op; refine hK _ ?_; clear hK K)
          refine line_nil ?_
          have bb := btr b1 hst.out
          have y1 := cell_keep bb d1
          have y2 := cell_keep bb d2
          have y3 := cell_keep bb d3
          have y4 := cell_keep bb d4
          clear hst inst q0 p0 b1 F N d0 d1 d2 d3 d4
          go_wp2_with fail
          refine (l1Public_any _ _).mono ?_
          rintro r w' ⟨rfl, rfl⟩
          go_wp2_with fail
          refine (l1Public_any _ _).mono ?_
          rintro r w' ⟨rfl, rfl⟩
          go_wp2_with fail
          refine (l1In_ep _ _).mono ?_
          rintro r w' ⟨rfl, rfl⟩
          go_wp2_with fail
          refine (l7Time_any _ _).mono ?_
          rintro r w' ⟨rfl, rfl⟩
          go_wp2_with fail
          go_ret
          exact ⟨rfl, bb⟩
        by_cases hba : b = a
        · rw [pinF_taken h1 (by simp [pinB, hp, hk, he, ht]) hba]
          have qba : (b == a) = true := by simpa using hba
          clear hba
          go_enter Tryz.func61, Tryz.ntmps61
          go_wp2_with fail
          refine (F _).mono ?_
          rintro r u1 ⟨rfl, b1⟩
          have p0 := cell_keep b1 d0
          go_wp2_with fail
          refine wp_region_line (Bel u1) [(0, true), (1, true), (2, true), (3, true), (5, true), (6, true), (7, true), (8, true), (4, false), (9, true)] (by kernel_rfl) (by kernel_rfl) (fun _ _ d _ _ h => by cases d <;> exact h) (Bel.drew u1) ?_
          have hst := Bel.drew u1
          have inst : Nonempty (Of (Bel u1)) := ⟨⟨_, hst⟩⟩
          have q0 := bel_cell p0
          iterate 8 (refine line_read rfl (by kernel_rfl) (fun K hK => ?_); go_big_quiet_op; refine hK _ ?_; clear hK K)
          refine line_alone rfl (by kernel_rfl) (fun K hK => ?_)
          refine call_wp (args := #[.string n]) rfl (by kernel_rfl) (by kernel_rfl) (N _) (fun wn hbn => ?_)
          have hst2 := hst.on hbn
          refine hK _ _ hst2 ?_
          clear hK K hst hbn
          have hst := hst2
          clear hst2
          simp only [Act.put, List.setIfInBounds_toArray, List.set_cons_zero, List.set_cons_succ]
          iterate 1 (refine line_read rfl (by kernel_rfl) (fun K hK => ?_); go_big_quiet_op; refine hK _ ?_; clear hK K)
          refine line_nil ?_
          have bb := btr b1 hst.out
          have y1 := cell_keep bb d1
          have y2 := cell_keep bb d2
          have y3 := cell_keep bb d3
          have y4 := cell_keep bb d4
          clear hst inst q0 p0 b1 F N d0 d1 d2 d3 d4
          go_wp2_with fail
          refine (l1Public_any _ _).mono ?_
          rintro r w' ⟨rfl, rfl⟩
          go_wp2_with fail
          refine (l1Public_any _ _).mono ?_
          rintro r w' ⟨rfl, rfl⟩
          go_wp2_with fail
          refine (l1In_ep _ _).mono ?_
          rintro r w' ⟨rfl, rfl⟩
          go_wp2_with fail
          refine (l7Time_any _ _).mono ?_
          rintro r w' ⟨rfl, rfl⟩
          go_wp2_with fail
          go_quiet (fail)
          go_wp2_with fail
          go_ret
          exact ⟨rfl, bdrewN bb _⟩
        · rw [pinF_yes h1 (by simp [pinB, hp, hk, he, ht]) hba]
          have qba : (b == a) = false := by simpa using hba
          go_enter Tryz.func61, Tryz.ntmps61
          go_wp2_with fail
          refine (F _).mono ?_
          rintro r u1 ⟨rfl, b1⟩
          have p0 := cell_keep b1 d0
          go_wp2_with fail
          refine wp_region_line (Bel u1) [(0, true), (1, true), (2, true), (3, true), (5, true), (6, true), (7, true), (8, true), (4, false), (9, true)] (by kernel_rfl) (by kernel_rfl) (fun _ _ d _ _ h => by cases d <;> exact h) (Bel.drew u1) ?_
          have hst := Bel.drew u1
          have inst : Nonempty (Of (Bel u1)) := ⟨⟨_, hst⟩⟩
          have q0 := bel_cell p0
          iterate 8 (refine line_read rfl (by kernel_rfl) (fun K hK => ?_); go_big_quiet_op; refine hK _ ?_; clear hK K)
          refine line_alone rfl (by kernel_rfl) (fun K hK => ?_)
          refine call_wp (args := #[.string n]) rfl (by kernel_rfl) (by kernel_rfl) (N _) (fun wn hbn => ?_)
          have hst2 := hst.on hbn
          refine hK _ _ hst2 ?_
          clear hK K hst hbn
          have hst := hst2
          clear hst2
          simp only [Act.put, List.setIfInBounds_toArray, List.set_cons_zero, List.set_cons_succ]
          iterate 1 (refine line_read rfl (by kernel_rfl) (fun K hK => ?_); go_big_quiet_op; refine hK _ ?_; clear hK K)
          refine line_nil ?_
          have bb := btr b1 hst.out
          have y1 := cell_keep bb d1
          have y2 := cell_keep bb d2
          have y3 := cell_keep bb d3
          have y4 := cell_keep bb d4
          clear hst inst q0 p0 b1 F N d0 d1 d2 d3 d4
          go_wp2_with fail
          refine (l1Public_any _ _).mono ?_
          rintro r w' ⟨rfl, rfl⟩
          go_wp2_with fail
          refine (l1Public_any _ _).mono ?_
          rintro r w' ⟨rfl, rfl⟩
          go_wp2_with fail
          refine (l1In_ep _ _).mono ?_
          rintro r w' ⟨rfl, rfl⟩
          go_wp2_with fail
          refine (l7Time_any _ _).mono ?_
          rintro r w' ⟨rfl, rfl⟩
          go_wp2_with fail
          go_quiet (fail)
          go_wp2_with fail
          go_ret
          exact ⟨rfl, bdrewN bb _⟩
    · have h1 := M.normF_form h0 hq
      rw [decide_eq_false hq] at Q
      rw [pinF_norm (by rw [h1]; omega), h1]
      generalize M.bs (M.nrm n.data.toList) = R at *
      clear h0 hm hq hL h1
      go_enter Tryz.func61, Tryz.ntmps61
      go_wp2_with fail
      refine (F _).mono ?_
      rintro r u1 ⟨rfl, b1⟩
      have p0 := cell_keep b1 d0
      go_wp2_with fail
      refine wp_region_line (Bel u1) [(0, true), (1, true), (2, true), (3, true), (5, true), (6, true), (7, true), (8, true), (4, false), (9, true)] (by kernel_rfl) (by kernel_rfl) (fun _ _ d _ _ h => by cases d <;> exact h) (Bel.drew u1) ?_
      have hst := Bel.drew u1
      have inst : Nonempty (Of (Bel u1)) := ⟨⟨_, hst⟩⟩
      have q0 := bel_cell p0
      iterate 8 (refine line_read rfl (by kernel_rfl) (fun K hK => ?_); go_big_quiet_op; refine hK _ ?_; clear hK K)
      refine line_alone rfl (by kernel_rfl) (fun K hK => ?_)
      refine call_wp (args := #[.string n]) rfl (by kernel_rfl) (by kernel_rfl) (N _) (fun wn hbn => ?_)
      have hst2 := hst.on hbn
      refine hK _ _ hst2 ?_
      clear hK K hst hbn
      have hst := hst2
      clear hst2
      simp only [Act.put, List.setIfInBounds_toArray, List.set_cons_zero, List.set_cons_succ]
      iterate 1 (refine line_read rfl (by kernel_rfl) (fun K hK => ?_); go_big_quiet_op; refine hK _ ?_; clear hK K)
      refine line_nil ?_
      have bb := btr b1 hst.out
      have y1 := cell_keep bb d1
      have y2 := cell_keep bb d2
      have y3 := cell_keep bb d3
      have y4 := cell_keep bb d4
      clear hst inst q0 p0 b1 F N d0 d1 d2 d3 d4
      go_wp2_with fail
      go_ret
      exact ⟨rfl, bb⟩
  · have h1 := M.normF_no h0
    rw [pinF_norm (by rw [h1]; exact h0), h1]
    clear h1
    generalize M.nameF n.data.toList = c at *
    go_enter Tryz.func61, Tryz.ntmps61
    go_wp2_with fail
    refine (F _).mono ?_
    rintro r u1 ⟨rfl, b1⟩
    go_wp2_with fail
    go_ret
    exact ⟨rfl, b1⟩
theorem l7Fault_any (g : Nat) (p : PinD) (w : World) (A : At g p.vals w) (hn : p.n.size ≤ maxLen) :
    Calls Tryz.prog 61 #[.pointer (some ⟨g, 0, none⟩)] w fun e w' => e = .returned (.int .i64 p.f) ∧ Below w.heap.size w w' :=
  l7Fault_at g 0 p w hn (A.cell 0 _ rfl) (A.cell 1 _ rfl) (A.cell 2 _ rfl) (A.cell 3 _ rfl) (A.cell 4 _ rfl)
end Go.Proofs.YtmdknbgpddnplaaGreatDoor
namespace Go.Proofs.YtmdknbgpddnplaaGreatDoor
open Go.RowKit
set_option maxRecDepth 100000
set_option linter.unusedVariables false

/-- The bytes ahead of a supplied key's name. -/
def headT (u m v : Int) : List Int := [u, m] ++ M.two v
theorem headT_length (u m v : Int) : (headT u m v).length = 4 := rfl
def HeadT (V : World) (zs : List Int) (v : Value) (wx : World) : Prop := OwnK .u8 wx V.heap.size v zs ∧ Below V.heap.size V wx
/-- The bytes of a supplied key. -/
def packT (n : ByteArray) (u m v : Int) : List Int := headT u m v ++ M.textL n
def packTL (n : ByteArray) (u m v : Int) : List Int := if M.tlsaF n.data.toList u m v = 0 then packT n u m v else []
theorem tlsa_bounds {n : ByteArray} {u m v : Int} (h : M.tlsaF n.data.toList u m v = 0) : n.size ≤ 20 ∧ 0 ≤ u ∧ u ≤ 3 ∧ 0 ≤ m ∧ m ≤ 1 ∧ M.sumB v = true := by
  obtain ⟨h1, h2, h3⟩ := M.tlsaF_parts h
  have h4 := (M.nameF_zero (M.normF_zero (M.tlsaF_zero h).1).1).1
  have hL : n.data.toList.length = n.size := by simp
  simp only [M.useB, M.matB, decide_eq_true_eq] at h1 h2
  exact ⟨by omega, h1.1, h1.2, h2.1, h2.2, h3⟩
theorem text_src (w : World) (s : ByteArray) (hs : s.size ≤ maxLen) :
    Go.Src Tryz.prog 1 22 (.slice (some ⟨w.heap.size, 0, none⟩) s.size (grownCap w s.size 0 5)) s.size ((M.textL s).map (Value.int .u8)) (w.alloc (textObj w s 5)).drew := by
  have R := Own.row (own_text w s 5 hs) (fun z hz => byte_wf (M.textL_byte s z hz))
  have R2 : Row .u8 (w.alloc (textObj w s 5)).drew (w.alloc (textObj w s 5)).heap.size (some ⟨w.heap.size, 0, none⟩) s.size (grownCap w s.size 0 5) (M.textL s) := R.keep (fun _ _ => rfl)
  exact R2.src Tryz.underlying22

end Go.Proofs.YtmdknbgpddnplaaGreatDoor
namespace Go.Proofs.YtmdknbgpddnplaaGreatDoor
open Go.RowKit
set_option maxRecDepth 100000
set_option linter.unusedVariables false

/-- The bytes ahead of a pin's name; the bytes of a pin. -/
def headP (a b e u : Int) : List Int := M.two a ++ M.two b ++ [e] ++ M.two u
theorem headP_length (a b e u : Int) : (headP a b e u).length = 7 := rfl
def packP (p : PinD) : List Int := headP p.a p.b p.e p.u ++ M.textL p.n
def packPL (p : PinD) : List Int := if p.f = 0 then packP p else []
theorem packP_length (p : PinD) : (packP p).length = 7 + p.n.size := by
  unfold packP
  rw [List.length_append, headP_length, M.textL_length]
theorem pin_bounds {p : PinD} (h : p.f = 0) : p.n.size ≤ 20 ∧ M.sumB p.a = true ∧ M.sumB p.b = true ∧ (1 ≤ p.e ∧ p.e ≤ 200) ∧ M.sumB p.u = true := by
  obtain ⟨-, h1, h2, h3, h4, -⟩ := pinF_zero h
  refine ⟨pin_size h, pub_sum6 h1, ?_, by simpa [epB] using h3, ?_⟩
  · simp only [bakB, Bool.or_eq_true, decide_eq_true_eq] at h2
    rcases h2 with h2 | h2
    · rw [h2]; rfl
    · exact pub_sum6 h2
  · simp only [timB, decide_eq_true_eq] at h4
    simp only [M.sumB, decide_eq_true_eq]
    omega
theorem packP_byte {p : PinD} (h : p.f = 0) : ∀ z ∈ packP p, M.byteB z := by
  intro z hz
  obtain ⟨-, h1, h2, h3, h4⟩ := pin_bounds h
  simp only [packP, headP, List.mem_append] at hz
  rcases hz with (((hz | hz) | hz) | hz) | hz
  · exact two_byte h1 z hz
  · exact two_byte h2 z hz
  · simp only [List.mem_cons, List.not_mem_nil, or_false] at hz
    unfold M.byteB
    omega
  · exact two_byte h4 z hz
  · exact M.textL_byte p.n z hz
theorem packPL_len (p : PinD) : (packPL p).length ≤ 27 := by
  unfold packPL
  split
  · rename_i h
    have hb := (pin_bounds h).1
    rw [packP_length]
    omega
  · simp
theorem packPL_byte (p : PinD) : ∀ z ∈ packPL p, M.byteB z := by
  intro z hz
  unfold packPL at hz
  split at hz
  · rename_i h
    exact packP_byte h z hz
  · cases hz

theorem l7Pack_any (g : Nat) (p : PinD) (w : World) (hA : At g p.vals w) (h : p.f = 0) :
    Calls Tryz.prog 127 #[.pointer (some ⟨g, 0, none⟩)] w (Made (packP p) w) := by
  obtain ⟨hn, ha, hb, ⟨he0, he1⟩, hu⟩ := pin_bounds h
  have he2 : 0 ≤ p.e := by omega
  have hnm : p.n.size ≤ maxLen := size_max hn
  obtain ⟨i0, hi0, hz0, hz1, hz2⟩ := info_parts u8_info
  have hcv := fun (W : World) => run_bytes_of_string (P := Tryz.prog) W 9 22 5 p.n Tryz.underlying9 Tryz.underlying22 Tryz.underlying5
  have ltg := hA.lt (by simp [PinD.vals])
  clear h
  have d0 := hA.cell 0 _ rfl
  have d1 := hA.cell 1 _ rfl
  have d2 := hA.cell 2 _ rfl
  have d3 := hA.cell 3 _ rfl
  have d4 := hA.cell 4 _ rfl
  go_enter Tryz.func127, Tryz.ntmps127
  go_wp2_with fail
  refine wp_region_line (Bel w) [(0, true), (1, true), (2, true), (3, true), (5, true), (6, true), (7, true), (8, true), (4, false), (9, false), (10, false), (11, true)] (by kernel_rfl) (by kernel_rfl) (fun _ _ d _ _ h => by cases d <;> exact h) (Bel.drew w) ?_
  have hst := Bel.drew w
  have inst : Nonempty (Of (Bel w)) := ⟨⟨_, hst⟩⟩
  have u1 := bel_cell d1
  have u2 := bel_cell d2
  have eV := Lib.hid (show w.drew.heap.size = w.heap.size from rfl)
  generalize w.drew = V1 at *
  iterate 8 (refine line_read rfl (by kernel_rfl) (fun K hK => ?_); go_big_quiet_op; refine hK _ ?_; clear hK K)
  refine line_alone rfl (by kernel_rfl) (fun K hK => ?_)
  refine call_any (args := #[.int .i64 p.a]) rfl (by kernel_rfl) (by kernel_rfl) (l1Two_any p.a _ ha) ?_
  rintro e w3 ⟨rfl, rfl⟩
  have st3 := hst.on (bal (Below.refl _ V1) (.cells #[.int .u8 (p.a / 256), .int .u8 (p.a % 256)] 5))
  have O3 : OwnK .u8 (V1.alloc (.cells #[.int .u8 (p.a / 256), .int .u8 (p.a % 256)] 5)) w.heap.size (.slice (some ⟨V1.heap.size, 0, none⟩) 2 2) (M.two p.a) := own_lit (k := .u8) V1 (M.two p.a) 2 5 (B := w.heap.size) (by have := eV.out; omega) rfl (by simp only [maxLen]; omega)
  refine ⟨_, rfl, hK _ _ st3 ?_⟩
  clear hK K hst
  simp only [Act.put, List.setIfInBounds_toArray, List.set_cons_zero, List.set_cons_succ]
  generalize V1.alloc (.cells #[.int .u8 (p.a / 256), .int .u8 (p.a % 256)] 5) = V2 at *
  refine line_alone rfl (by kernel_rfl) (fun K hK => ?_)
  refine call_any (args := #[.int .i64 p.b]) rfl (by kernel_rfl) (by kernel_rfl) (l1Two_any p.b _ hb) ?_
  rintro e w4 ⟨rfl, rfl⟩
  have st4 := st3.on (bal (Below.refl _ V2) (.cells #[.int .u8 (p.b / 256), .int .u8 (p.b % 256)] 5))
  refine ⟨_, rfl, hK _ _ st4 ?_⟩
  clear hK K
  simp only [Act.put, List.setIfInBounds_toArray, List.set_cons_zero, List.set_cons_succ]
  refine line_alone rfl (by kernel_rfl) (fun K hK => ?_)
  refine wp_append_src _ (.tmp 8) (.tmp 13) 22 22 rfl w.heap.size 5 i0 (.int .u8 0) 1 1 Tryz.underlying22 hi0 hz0 hz1 hz2 rfl _ 2 ((M.two p.a).map (Value.int .u8)) rfl (Own.alloc O3 _) _ 2 [.int .u8 (p.b / 256), .int .u8 (p.b % 256)] rfl (src_new V2 _ 2 2 _ _ _ Tryz.underlying22 rfl (ints_oneCell .u8 [p.b / 256, p.b % 256])) (by simp only [maxLen]; omega) (by omega) (by have := st3.out.size; simp; omega) (fun v5 w5 hown hgrow hat => ?_)
  have b5 : Below w.heap.size w w5 := (Own.alloc O3 (.cells #[.int .u8 (p.b / 256), .int .u8 (p.b % 256)] 5)).grown st4.out (by have := st3.out.size; simp; omega) hgrow
  have O5 : OwnK .u8 w5 w.heap.size v5 (M.two p.a ++ M.two p.b) := by unfold OwnK; simpa [M.two] using hown
  refine hK _ _ ⟨b5⟩ ?_
  clear hK K st3 st4 O3 hown hgrow hat inst u1 u2 eV
  simp only [Act.put, List.setIfInBounds_toArray, List.set_cons_zero, List.set_cons_succ]
  have inst : Nonempty (Of (Bel w)) := ⟨⟨_, ⟨b5⟩⟩⟩
  iterate 1 (refine line_read rfl (by kernel_rfl) (fun K hK => ?_); go_big_quiet_op; refine hK _ ?_; clear hK K)
  refine line_nil ?_
  have S0 : Bel w w5.drew := ⟨b5.drew⟩
  have O5d : OwnK .u8 w5.drew w.heap.size v5 (M.two p.a ++ M.two p.b) := O5
  have hz5 : w.heap.size ≤ w5.drew.heap.size := b5.size
  clear inst b5 O5
  go_wp2_with fail
  refine wp_region_line (Bel w) [(0, true), (1, true), (2, true), (3, true), (4, true), (5, true), (8, true), (9, true), (10, true), (11, true), (6, false), (7, false), (12, false), (13, false), (14, true)] (by kernel_rfl) (by kernel_rfl) (fun _ _ d _ _ h => by cases d <;> exact h) S0 ?_
  have hst := S0
  have inst : Nonempty (Of (Bel w)) := ⟨⟨_, hst⟩⟩
  have u3 := bel_cell d3
  have u4 := bel_cell d4
  generalize w5.drew = V5 at *
  clear S0
  iterate 10 (refine line_read rfl (by kernel_rfl) (fun K hK => ?_); go_big_quiet_op; refine hK _ ?_; clear hK K)
  refine line_alone rfl (by kernel_rfl) (fun K hK => ?_)
  go_big_op
  refine hK _ _ (hst.on (bal (Below.refl _ V5) _)) ?_
  clear hK K
  have O6 := O5d.alloc (.cells #[.int .u8 p.e] 5)
  have st6 := hst.on (bal (Below.refl _ V5) (.cells #[.int .u8 p.e] 5))
  refine line_alone rfl (by kernel_rfl) (fun K hK => ?_)
  refine wp_append_src _ (.tmp 15) (.tmp 21) 22 22 rfl w.heap.size 5 i0 (.int .u8 0) 1 1 Tryz.underlying22 hi0 hz0 hz1 hz2 rfl _ 4 ((M.two p.a ++ M.two p.b).map (Value.int .u8)) rfl O6 _ 1 [.int .u8 p.e] rfl (src_new V5 _ 1 1 _ _ _ Tryz.underlying22 rfl (ints_oneCell .u8 [p.e])) (by simp only [maxLen]; omega) (by omega) (by simp; omega) (fun v7 w7 hown hgrow hat => ?_)
  have b7 : Below w.heap.size w w7 := Own.grown O6 st6.out st6.out.size hgrow
  have O7 : OwnK .u8 w7 w.heap.size v7 (M.two p.a ++ M.two p.b ++ [p.e]) := by unfold OwnK; simpa [M.two] using hown
  refine hK _ _ ⟨b7⟩ ?_
  clear hK K st6 O6 O5d hown hgrow hat hst
  simp only [Act.put, List.setIfInBounds_toArray, List.set_cons_zero, List.set_cons_succ]
  refine line_alone rfl (by kernel_rfl) (fun K hK => ?_)
  refine call_any (args := #[.int .i64 p.u]) rfl (by kernel_rfl) (by kernel_rfl) (l1Two_any p.u _ hu) ?_
  rintro e w8 ⟨rfl, rfl⟩
  have st8 : Bel w (w7.alloc (.cells #[.int .u8 (p.u / 256), .int .u8 (p.u % 256)] 5)) := ⟨bal b7 _⟩
  refine ⟨_, rfl, hK _ _ st8 ?_⟩
  clear hK K
  simp only [Act.put, List.setIfInBounds_toArray, List.set_cons_zero, List.set_cons_succ]
  refine line_alone rfl (by kernel_rfl) (fun K hK => ?_)
  refine wp_append_src _ (.tmp 22) (.tmp 27) 22 22 rfl w.heap.size 5 i0 (.int .u8 0) 1 1 Tryz.underlying22 hi0 hz0 hz1 hz2 rfl _ 5 ((M.two p.a ++ M.two p.b ++ [p.e]).map (Value.int .u8)) rfl (Own.alloc O7 _) _ 2 [.int .u8 (p.u / 256), .int .u8 (p.u % 256)] rfl (src_new w7 _ 2 2 _ _ _ Tryz.underlying22 rfl (ints_oneCell .u8 [p.u / 256, p.u % 256])) (by simp only [maxLen]; omega) (by omega) (by have := b7.size; simp; omega) (fun v9 w9 hown hgrow hat => ?_)
  have b9 : Below w.heap.size w w9 := (Own.alloc O7 (.cells #[.int .u8 (p.u / 256), .int .u8 (p.u % 256)] 5)).grown st8.out (by have := b7.size; simp; omega) hgrow
  have O9 : OwnK .u8 w9 w.heap.size v9 (headP p.a p.b p.e p.u) := by unfold OwnK headP; simpa [M.two] using hown
  refine hK _ _ ⟨b9⟩ ?_
  clear hK K st8 O7 b7 hown hgrow hat u3 u4 inst
  simp only [Act.put, List.setIfInBounds_toArray, List.set_cons_zero, List.set_cons_succ]
  have inst : Nonempty (Of (Bel w)) := ⟨⟨_, ⟨b9⟩⟩⟩
  iterate 1 (refine line_read rfl (by kernel_rfl) (fun K hK => ?_); go_big_quiet_op; refine hK _ ?_; clear hK K)
  refine line_nil ?_
  have hz4 := b9.size
  have x0 := (hA.on b9).cell 0 _ rfl
  have hsrc := text_src w9 p.n hnm
  have O10 := (O9.alloc (textObj w9 p.n 5)).drew
  have b10 := (bal b9 (textObj w9 p.n 5)).drew
  clear hA d0 d1 d2 d3 d4 inst
  go_wp2_with (at_builtin; refine wpList_append_src _ rfl (.tmp 29) (.tmp 34) 22 22 rfl w.heap.size 5 i0 (.int .u8 0) 1 1 Tryz.underlying22 hi0 hz0 hz1 hz2 rfl _ _ _ rfl O10 _ p.n.size _ rfl hsrc (by rw [headP_length]; simp only [maxLen]; omega) (by rw [headP_length]; omega) (by simp; omega) ?_; intro v5 w5 hown hgrow hat)
  have O11 : OwnK .u8 w5 w.heap.size v5 (packP p) := by
    unfold OwnK packP
    rw [List.length_append, M.textL_length]
    simpa using hown
  have b11 : Below w.heap.size w w5 := O10.grown b10 (by simp; omega) hgrow
  obtain ⟨a6, c6, hv6, -⟩ := O11.form
  have HT := Lib.hid (And.intro O11 b11)
  clear hown hgrow hat O10 O11 b10 b11 hsrc O9 b9 hcv
  subst hv6
  go_wp2_with fail
  go_ret
  exact ⟨_, _, _, rfl, HT.out.1, HT.out.2⟩
end Go.Proofs.YtmdknbgpddnplaaGreatDoor
namespace Go.Proofs.YtmdknbgpddnplaaGreatDoor
set_option linter.unusedVariables false

/-- A rollover: a pin, who says it, a signature. -/
structure RollD where
  p : PinD
  b : Int
  x : Int
  y : Int
def roll0 : RollD := ⟨pin0, 0, 0, 0⟩
instance : Inhabited RollD := ⟨roll0⟩
abbrev R8 (r : RollD) : Value := .agg #[.string r.p.n, .int .i64 r.p.a, .int .i64 r.p.b, .int .i64 r.p.e, .int .i64 r.p.u, .int .i64 r.b, .int .i64 r.x, .int .i64 r.y]
def RollD.vals (r : RollD) : List Value := [.string r.p.n, .int .i64 r.p.a, .int .i64 r.p.b, .int .i64 r.p.e, .int .i64 r.p.u, .int .i64 r.b, .int .i64 r.x, .int .i64 r.y]
theorem RollD.vals_length (r : RollD) : r.vals.length = 8 := rfl
/-- A code and a rollover. -/
abbrev R9 (c : Int) (r : RollD) : Value := .agg #[.int .i64 c, .string r.p.n, .int .i64 r.p.a, .int .i64 r.p.b, .int .i64 r.p.e, .int .i64 r.p.u, .int .i64 r.b, .int .i64 r.x, .int .i64 r.y]
def RL9 (c : Int) (r : RollD) : List Value := [.int .i64 c, .string r.p.n, .int .i64 r.p.a, .int .i64 r.p.b, .int .i64 r.p.e, .int .i64 r.p.u, .int .i64 r.b, .int .i64 r.x, .int .i64 r.y]
/-- The cells of rollovers. -/
def flatR (rs : List RollD) : List Value := rs.flatMap RollD.vals
theorem flatR_nil : flatR [] = [] := rfl
theorem flatR_cons (p : RollD) (ps : List RollD) : flatR (p :: ps) = p.vals ++ flatR ps := by simp [flatR]
theorem flatR_append (ps qs : List RollD) : flatR (ps ++ qs) = flatR ps ++ flatR qs := by simp [flatR]
theorem flatR_length : ∀ ps : List RollD, (flatR ps).length = ps.length * 8
  | [] => rfl
  | p :: r => by rw [flatR_cons, List.length_append, flatR_length r, RollD.vals_length, List.length_cons]; omega
theorem flatR_get : ∀ (ps : List RollD) (j i : Nat) (v : Value), j < ps.length → (ps[j]?.getD roll0).vals[i]? = some v → (flatR ps)[j * 8 + i]? = some v
  | [], j, i, v, hj, _ => by simp at hj
  | p :: r, 0, i, v, _, h => by
    have hi : i < 8 := by have := (List.getElem?_eq_some_iff.1 h).1; simpa [RollD.vals_length] using this
    rw [flatR_cons, Nat.zero_mul, Nat.zero_add, List.getElem?_append_left (by rw [RollD.vals_length]; exact hi)]
    simpa using h
  | p :: r, j + 1, i, v, hj, h => by
    have := flatR_get r j i v (by simpa using hj) (by simpa using h)
    rw [flatR_cons, List.getElem?_append_right (by rw [RollD.vals_length]; omega), RollD.vals_length, show (j + 1) * 8 + i - 8 = j * 8 + i by omega]
    exact this

/-- What is wrong with a rollover. -/
def RollD.f (r : RollD) : Int := if r.p.f = 0 then (if pubB r.b then M.sigF r.x r.y else 3) else r.p.f
theorem rollF_pin {r : RollD} (h : r.p.f ≠ 0) : r.f = r.p.f := by unfold RollD.f; rw [if_neg h]
theorem rollF_by {r : RollD} (h : r.p.f = 0) (h1 : pubB r.b = false) : r.f = 3 := by unfold RollD.f; rw [if_pos h, h1]; rfl
theorem rollF_sig {r : RollD} (h : r.p.f = 0) (h1 : pubB r.b = true) : r.f = M.sigF r.x r.y := by unfold RollD.f; rw [if_pos h, if_pos h1]
theorem sigF_no {x y : Int} (h : M.sigB x y = false) : M.sigF x y = 3 := by simp [M.sigF, h]
theorem sigF_yes {x y : Int} (h : M.sigB x y = true) : M.sigF x y = 0 := by simp [M.sigF, h]
theorem rollF_zero {r : RollD} (h : r.f = 0) : r.p.f = 0 ∧ pubB r.b = true ∧ M.sigB r.x r.y = true := by
  by_cases h0 : r.p.f = 0
  · cases h1 : pubB r.b
    · rw [rollF_by h0 h1] at h; omega
    · rw [rollF_sig h0 h1] at h
      cases h2 : M.sigB r.x r.y
      · rw [sigF_no h2] at h; omega
      · exact ⟨h0, rfl, rfl⟩
  · rw [rollF_pin h0] at h; exact absurd h h0
theorem rollF_make {r : RollD} (h0 : r.p.f = 0) (h1 : pubB r.b = true) (h2 : M.sigB r.x r.y = true) : r.f = 0 := by rw [rollF_sig h0 h1, sigF_yes h2]
/-- What who names a pin as the next one signs. -/
def rsum (p : PinD) : Int := M.tagL M.rollS [M.sumL (packP p)]
theorem rsum_bd (p : PinD) : 0 ≤ rsum p ∧ rsum p < 65521 := M.tagL_bd _ _
theorem rsum_sum (p : PinD) : M.sumB (rsum p) = true := by
  have := rsum_bd p
  simp only [M.sumB, decide_eq_true_eq]; omega
def rsumV (p : PinD) : Int := if p.f = 0 then rsum p else 0
/-- Why a rollover may not follow a pin. -/
def chk (o : PinD) (r : RollD) (t : Int) : Int :=
  if r.p.nm = o.nm then (if r.p.e = o.e + 1 then (if r.b = o.a ∨ r.b = o.b then (if t ≤ o.u then (if M.checkB r.b (rsum r.p) r.x r.y then 0 else 9) else 11) else 10) else 11) else 1
theorem chk_name {o : PinD} {r : RollD} {t : Int} (h : r.p.nm ≠ o.nm) : chk o r t = 1 := by unfold chk; rw [if_neg h]
theorem chk_ep {o : PinD} {r : RollD} {t : Int} (h : r.p.nm = o.nm) (h1 : r.p.e ≠ o.e + 1) : chk o r t = 11 := by unfold chk; rw [if_pos h, if_neg h1]
theorem chk_by {o : PinD} {r : RollD} {t : Int} (h : r.p.nm = o.nm) (h1 : r.p.e = o.e + 1) (h2 : r.b ≠ o.a) (h3 : r.b ≠ o.b) : chk o r t = 10 := by
  unfold chk; rw [if_pos h, if_pos h1, if_neg (by rintro (h | h); exact h2 h; exact h3 h)]
theorem chk_old {o : PinD} {r : RollD} {t : Int} (h : r.p.nm = o.nm) (h1 : r.p.e = o.e + 1) (h2 : r.b = o.a ∨ r.b = o.b) (h3 : ¬ t ≤ o.u) : chk o r t = 11 := by unfold chk; rw [if_pos h, if_pos h1, if_pos h2, if_neg h3]
theorem chk_sign {o : PinD} {r : RollD} {t : Int} (h : r.p.nm = o.nm) (h1 : r.p.e = o.e + 1) (h2 : r.b = o.a ∨ r.b = o.b) (h3 : t ≤ o.u) (h4 : M.checkB r.b (rsum r.p) r.x r.y = false) : chk o r t = 9 := by unfold chk; rw [if_pos h, if_pos h1, if_pos h2, if_pos h3, h4]; rfl
theorem chk_yes {o : PinD} {r : RollD} {t : Int} (h : r.p.nm = o.nm) (h1 : r.p.e = o.e + 1) (h2 : r.b = o.a ∨ r.b = o.b) (h3 : t ≤ o.u) (h4 : M.checkB r.b (rsum r.p) r.x r.y = true) : chk o r t = 0 := by unfold chk; rw [if_pos h, if_pos h1, if_pos h2, if_pos h3, if_pos h4]
theorem chk_zero {o : PinD} {r : RollD} {t : Int} (h : chk o r t = 0) : r.p.nm = o.nm ∧ r.p.e = o.e + 1 ∧ (r.b = o.a ∨ r.b = o.b) ∧ t ≤ o.u ∧ M.checkB r.b (rsum r.p) r.x r.y = true := by
  unfold chk at h
  repeat' split at h
  all_goals first | omega | exact ⟨‹_›, ‹_›, ‹_›, ‹_›, ‹_›⟩
def checkF (o : PinD) (r : RollD) (t : Int) : Int := if o.f = 0 then (if r.f = 0 then (if timB t then chk o r t else 3) else r.f) else o.f
theorem checkF_old {o : PinD} {r : RollD} {t : Int} (h : o.f ≠ 0) : checkF o r t = o.f := by unfold checkF; rw [if_neg h]
theorem checkF_roll {o : PinD} {r : RollD} {t : Int} (h : o.f = 0) (h1 : r.f ≠ 0) : checkF o r t = r.f := by unfold checkF; rw [if_pos h, if_neg h1]
theorem checkF_time {o : PinD} {r : RollD} {t : Int} (h : o.f = 0) (h1 : r.f = 0) (h2 : timB t = false) : checkF o r t = 3 := by unfold checkF; rw [if_pos h, if_pos h1, h2]; rfl
theorem checkF_chk {o : PinD} {r : RollD} {t : Int} (h : o.f = 0) (h1 : r.f = 0) (h2 : timB t = true) : checkF o r t = chk o r t := by unfold checkF; rw [if_pos h, if_pos h1, if_pos h2]
theorem checkF_zero {o : PinD} {r : RollD} {t : Int} (h : checkF o r t = 0) : o.f = 0 ∧ r.f = 0 ∧ timB t = true ∧ chk o r t = 0 := by
  by_cases h0 : o.f = 0
  · by_cases h1 : r.f = 0
    · cases h2 : timB t
      · rw [checkF_time h0 h1 h2] at h; omega
      · rw [checkF_chk h0 h1 h2] at h; exact ⟨h0, h1, rfl, h⟩
    · rw [checkF_roll h0 h1] at h; exact absurd h h1
  · rw [checkF_old h0] at h; exact absurd h h0
/-- A rollover does not follow its own pin. -/
theorem checkF_once (r : RollD) (t : Int) : checkF r.p r t ≠ 0 := fun h => by
  have := (chk_zero (checkF_zero h).2.2.2).2.1
  omega
/-- Chains of rollovers. -/
def chainG : PinD → List RollD → Int → Int
  | _, [], _ => 0
  | o, r :: rs, t => if checkF o r t = 0 then chainG r.p rs t else checkF o r t
def chainF (o : PinD) (rs : List RollD) (t : Int) : Int := if o.f = 0 then (if 8 < rs.length then 2 else chainG o rs t) else o.f
theorem chainF_first {o : PinD} {rs : List RollD} {t : Int} (h : o.f ≠ 0) : chainF o rs t = o.f := by unfold chainF; rw [if_neg h]
theorem chainF_many {o : PinD} {rs : List RollD} {t : Int} (h : o.f = 0) (h1 : 8 < rs.length) : chainF o rs t = 2 := by unfold chainF; rw [if_pos h, if_pos h1]
theorem chainF_go {o : PinD} {rs : List RollD} {t : Int} (h : o.f = 0) (h1 : ¬ 8 < rs.length) : chainF o rs t = chainG o rs t := by unfold chainF; rw [if_pos h, if_neg h1]
theorem chainF_zero {o : PinD} {rs : List RollD} {t : Int} (h : chainF o rs t = 0) : o.f = 0 ∧ rs.length ≤ 8 ∧ chainG o rs t = 0 := by
  by_cases h0 : o.f = 0
  · by_cases h1 : 8 < rs.length
    · rw [chainF_many h0 h1] at h; omega
    · rw [chainF_go h0 h1] at h; exact ⟨h0, by omega, h⟩
  · rw [chainF_first h0] at h; exact absurd h h0
/-- The pin ahead of rollover k. -/
def prevP (o : PinD) (rs : List RollD) : Nat → PinD
  | 0 => o
  | k + 1 => (rs[k]?.getD roll0).p
theorem chainG_step {o : PinD} {rs : List RollD} {k : Nat} {t : Int} (hk : k < rs.length) : chainG (prevP o rs k) (rs.drop k) t = if checkF (prevP o rs k) (rs[k]?.getD roll0) t = 0 then chainG (prevP o rs (k + 1)) (rs.drop (k + 1)) t else checkF (prevP o rs k) (rs[k]?.getD roll0) t := by
  have e : rs.drop k = (rs[k]?.getD roll0) :: rs.drop (k + 1) := by
    rw [List.drop_eq_getElem_cons hk, List.getElem?_eq_getElem hk]
    rfl
  rw [e]
  rfl
theorem chainG_bad {o : PinD} {rs : List RollD} {k : Nat} {t c : Int} (hk : k < rs.length) (h : chainG (prevP o rs k) (rs.drop k) t = c) (h0 : checkF (prevP o rs k) (rs[k]?.getD roll0) t ≠ 0) : checkF (prevP o rs k) (rs[k]?.getD roll0) t = c := by rw [chainG_step hk, if_neg h0] at h; exact h
theorem chainG_next {o : PinD} {rs : List RollD} {k : Nat} {t c : Int} (hk : k < rs.length) (h : chainG (prevP o rs k) (rs.drop k) t = c) (h0 : checkF (prevP o rs k) (rs[k]?.getD roll0) t = 0) : chainG (prevP o rs (k + 1)) (rs.drop (k + 1)) t = c := by rw [chainG_step hk, if_pos h0] at h; exact h
theorem chainG_take : ∀ (rs : List RollD) (o : PinD) (t : Int) (i : Nat), chainG o rs t = 0 → chainG o (rs.take i) t = 0
  | [], o, t, i, h => by simp [chainG]
  | r :: rs, o, t, 0, h => by simp [chainG]
  | r :: rs, o, t, i + 1, h => by
    by_cases h0 : checkF o r t = 0
    · have h' : chainG r.p rs t = 0 := by unfold chainG at h; rw [if_pos h0] at h; exact h
      rw [List.take_succ_cons]
      unfold chainG
      rw [if_pos h0]
      exact chainG_take rs r.p t i h'
    · unfold chainG at h; rw [if_neg h0] at h; exact absurd h h0
theorem chainF_take {o : PinD} {rs : List RollD} {t : Int} (h : chainF o rs t = 0) (i : Nat) : chainF o (rs.take i) t = 0 := by
  obtain ⟨h0, h1, h2⟩ := chainF_zero h
  rw [chainF_go h0 (by rw [List.length_take]; omega)]
  exact chainG_take rs o t i h2
theorem chainG_epoch : ∀ (rs : List RollD) (o : PinD) (t : Int), chainG o rs t = 0 → ∀ i, i < rs.length → (rs[i]?.getD roll0).p.e = o.e + i + 1
  | [], o, t, _, i, hi => by simp at hi
  | r :: rs, o, t, h, i, hi => by
    by_cases h0 : checkF o r t = 0
    · have h' : chainG r.p rs t = 0 := by unfold chainG at h; rw [if_pos h0] at h; exact h
      have he := (chk_zero (checkF_zero h0).2.2.2).2.1
      cases i with
      | zero => simp; omega
      | succ i =>
        have := chainG_epoch rs r.p t h' i (by simpa using hi)
        simp only [List.getElem?_cons_succ]
        rw [this, he]
        push_cast
        omega
    · unfold chainG at h; rw [if_neg h0] at h; exact absurd h h0
/-- A rollover among pins. -/
def applyC (ps : List PinD) (r : RollD) (t : Int) : Int :=
  if pinsF ps = 0 then (if r.f = 0 then (match findP ps r.p.nm with
    | none => 4
    | some q => if checkF q r t = 0 then putC ps r.p else checkF q r t) else r.f) else pinsF ps
def applyL (ps : List PinD) (r : RollD) (t : Int) : List PinD := if applyC ps r t = 0 then putR ps r.p else []
theorem applyC_list {ps : List PinD} {r : RollD} {t : Int} (h : pinsF ps ≠ 0) : applyC ps r t = pinsF ps ∧ applyL ps r t = [] := by
  have e : applyC ps r t = pinsF ps := by unfold applyC; rw [if_neg h]
  exact ⟨e, by unfold applyL; rw [e, if_neg h]⟩
theorem applyC_roll {ps : List PinD} {r : RollD} {t : Int} (h : pinsF ps = 0) (h1 : r.f ≠ 0) : applyC ps r t = r.f ∧ applyL ps r t = [] := by
  have e : applyC ps r t = r.f := by unfold applyC; rw [if_pos h, if_neg h1]
  exact ⟨e, by unfold applyL; rw [e, if_neg h1]⟩
theorem applyC_none {ps : List PinD} {r : RollD} {t : Int} (h : pinsF ps = 0) (h1 : r.f = 0) (h2 : findP ps r.p.nm = none) : applyC ps r t = 4 ∧ applyL ps r t = [] := by
  have e : applyC ps r t = 4 := by unfold applyC; rw [if_pos h, if_pos h1, h2]
  exact ⟨e, by unfold applyL; rw [e]; rfl⟩
theorem applyC_check {ps : List PinD} {r : RollD} {t : Int} {q : PinD} (h : pinsF ps = 0) (h1 : r.f = 0) (h2 : findP ps r.p.nm = some q) (h3 : checkF q r t ≠ 0) : applyC ps r t = checkF q r t ∧ applyL ps r t = [] := by
  have e : applyC ps r t = checkF q r t := by
    unfold applyC; rw [if_pos h, if_pos h1, h2]
    simp only
    rw [if_neg h3]
  exact ⟨e, by unfold applyL; rw [e, if_neg h3]⟩
theorem applyC_put {ps : List PinD} {r : RollD} {t : Int} {q : PinD} (h : pinsF ps = 0) (h1 : r.f = 0) (h2 : findP ps r.p.nm = some q) (h3 : checkF q r t = 0) : applyC ps r t = putC ps r.p ∧ applyL ps r t = putR ps r.p := by
  have e : applyC ps r t = putC ps r.p := by
    unfold applyC; rw [if_pos h, if_pos h1, h2]
    simp only
    rw [if_pos h3]
  refine ⟨e, ?_⟩
  unfold applyL
  rw [e]
  by_cases h4 : putC ps r.p = 0
  · rw [if_pos h4]
  · rw [if_neg h4]; unfold putR; rw [if_neg h4]
theorem applyC_zero {ps : List PinD} {r : RollD} {t : Int} (h : applyC ps r t = 0) : pinsF ps = 0 ∧ r.f = 0 ∧ ∃ q, findP ps r.p.nm = some q ∧ checkF q r t = 0 ∧ putC ps r.p = 0 ∧ applyL ps r t = putR ps r.p := by
  by_cases h0 : pinsF ps = 0
  · by_cases h1 : r.f = 0
    · cases h2 : findP ps r.p.nm with
      | none => rw [(applyC_none h0 h1 h2).1] at h; omega
      | some q =>
        by_cases h3 : checkF q r t = 0
        · obtain ⟨e1, e2⟩ := applyC_put h0 h1 h2 h3
          exact ⟨h0, h1, q, rfl, h3, e1 ▸ h, e2⟩
        · rw [(applyC_check h0 h1 h2 h3).1] at h; exact absurd h h3
    · rw [(applyC_roll h0 h1).1] at h; exact absurd h h1
  · rw [(applyC_list h0).1] at h; exact absurd h h0
/-- A rollover that is signed. -/
def signD (s : Int) (p : PinD) : RollD := ⟨p, M.pubN s, M.sigPt s (rsum p), M.sigPr s (rsum p)⟩
def signC (s : Int) (p : PinD) : Int := if inB s 1 1438 then p.f else 3
def signL (s : Int) (p : PinD) : RollD := if signC s p = 0 then signD s p else roll0
theorem signC_no {s : Int} {p : PinD} (h : inB s 1 1438 = false) : signC s p = 3 ∧ signL s p = roll0 := by
  have e : signC s p = 3 := by unfold signC; rw [h]; rfl
  exact ⟨e, by unfold signL; rw [e]; rfl⟩
theorem signC_pin {s : Int} {p : PinD} (h : inB s 1 1438 = true) (h1 : p.f ≠ 0) : signC s p = p.f ∧ signL s p = roll0 := by
  have e : signC s p = p.f := by unfold signC; rw [if_pos h]
  exact ⟨e, by unfold signL; rw [e, if_neg h1]⟩
theorem signC_yes {s : Int} {p : PinD} (h : inB s 1 1438 = true) (h1 : p.f = 0) : signC s p = 0 ∧ signL s p = signD s p := by
  have e : signC s p = 0 := by unfold signC; rw [if_pos h, h1]
  exact ⟨e, by unfold signL; rw [e]; rfl⟩
theorem signC_zero {s : Int} {p : PinD} (h : signC s p = 0) : inB s 1 1438 = true ∧ p.f = 0 := by
  cases h0 : inB s 1 1438
  · rw [(signC_no h0).1] at h; omega
  · by_cases h1 : p.f = 0
    · exact ⟨rfl, h1⟩
    · rw [(signC_pin h0 h1).1] at h; exact absurd h h1
theorem sign_right {s : Int} {p : PinD} (h : signC s p = 0) : (signL s p).f = 0 := by
  obtain ⟨h0, h1⟩ := signC_zero h
  rw [(signC_yes h0 h1).2]
  simp only [inB, decide_eq_true_eq] at h0
  exact rollF_make h1 (M.pub_pow h0.1 h0.2) (M.sigB_signed _ _)
end Go.Proofs.YtmdknbgpddnplaaGreatDoor
namespace Go.Proofs.YtmdknbgpddnplaaGreatDoor
open Go.RowKit
set_option maxRecDepth 100000
set_option linter.unusedVariables false

theorem At.newN {w : World} (cs : List Value) (t : TypeId) {n : Nat} (h : w.heap.size = n) : At n cs (w.alloc (.cells cs.toArray t)) := h ▸ At.new w cs t
/-- A slice of rollovers that is read: 'ps' are its elements; it lies below block B. -/
structure RRow (w : World) (B : Nat) (a : Option Addr) (len cap : Nat) (ps : List RollD) : Prop where
  length : ps.length = len
  fits : len ≤ cap
  most : cap ≤ maxLen
  names : ∀ p ∈ ps, p.p.n.size ≤ maxLen
  cells : 0 < len → ∃ b off, a = some ⟨b, off, none⟩ ∧ b < B ∧ ∀ j, j < len → ∀ i v, (ps[j]?.getD roll0).vals[i]? = some v → w.cell? ⟨b, off + j * 8 + i, none⟩ = some v
section
variable {w w' : World} {B B' : Nat} {a : Option Addr} {len cap : Nat} {ps : List RollD}
theorem RRow.keep (h : RRow w B a len cap ps) (hk : ∀ i, i < B → w'.heap[i]? = w.heap[i]?) : RRow w' B a len cap ps :=
  ⟨h.length, h.fits, h.most, h.names, fun hp => by
    obtain ⟨b, off, e, hb, hc⟩ := h.cells hp
    exact ⟨b, off, e, hb, fun j hj i v hv => (World.cell?_of_block (w := w) (hk b hb)).trans (hc j hj i v hv)⟩⟩
theorem RRow.below (h : RRow w B a len cap ps) (hb : Below B w w') : RRow w' B a len cap ps := h.keep hb.block
theorem RRow.more (h : RRow w B a len cap ps) (hB : B ≤ B') : RRow w B' a len cap ps :=
  ⟨h.length, h.fits, h.most, h.names, fun hp => by
    obtain ⟨b, off, e, hb, hc⟩ := h.cells hp
    exact ⟨b, off, e, by omega, hc⟩⟩
theorem RRow.on (h : RRow w w.heap.size a len cap ps) (hb : Below w.heap.size w w') : RRow w' w'.heap.size a len cap ps := (h.below hb).more hb.size
theorem RRow.on' (h : RRow w B a len cap ps) (hB : B ≤ w.heap.size) (hb : Below w.heap.size w w') : RRow w' B a len cap ps := h.below (hb.mono hB)
theorem RRow.alloc (h : RRow w B a len cap ps) (hB : B ≤ w.heap.size) (o : Obj) : RRow (w.alloc o) B a len cap ps := h.below ((Below.refl B w).alloc hB o)
theorem RRow.nil (w : World) (B : Nat) : RRow w B none 0 0 [] := ⟨rfl, Nat.le_refl _, Nat.zero_le _, by simp, fun h => absurd h (by omega)⟩
/-- Element k's eight cells. -/
theorem RRow.at' (h : RRow w B a len cap ps) {k : Nat} (hk : k < len) : ∃ b off, a = some ⟨b, off, none⟩ ∧ b < B ∧
    w.cell? ⟨b, off + k * 8, none⟩ = some (.string (ps[k]?.getD roll0).p.n) ∧ w.cell? ⟨b, off + k * 8 + 1, none⟩ = some (.int .i64 (ps[k]?.getD roll0).p.a) ∧ w.cell? ⟨b, off + k * 8 + 2, none⟩ = some (.int .i64 (ps[k]?.getD roll0).p.b) ∧
    w.cell? ⟨b, off + k * 8 + 3, none⟩ = some (.int .i64 (ps[k]?.getD roll0).p.e) ∧ w.cell? ⟨b, off + k * 8 + 4, none⟩ = some (.int .i64 (ps[k]?.getD roll0).p.u) ∧
    w.cell? ⟨b, off + k * 8 + 5, none⟩ = some (.int .i64 (ps[k]?.getD roll0).b) ∧ w.cell? ⟨b, off + k * 8 + 6, none⟩ = some (.int .i64 (ps[k]?.getD roll0).x) ∧ w.cell? ⟨b, off + k * 8 + 7, none⟩ = some (.int .i64 (ps[k]?.getD roll0).y) := by
  obtain ⟨b, off, e, hb, hc⟩ := h.cells (by omega)
  exact ⟨b, off, e, hb, hc k hk 0 _ rfl, hc k hk 1 _ rfl, hc k hk 2 _ rfl, hc k hk 3 _ rfl, hc k hk 4 _ rfl, hc k hk 5 _ rfl, hc k hk 6 _ rfl, hc k hk 7 _ rfl⟩
theorem RRow.mem (h : RRow w B a len cap ps) {k : Nat} (hk : k < len) : (ps[k]?.getD roll0) ∈ ps := by
  have := h.length
  rw [List.getElem?_eq_getElem (by omega)]
  exact List.getElem_mem _
theorem RRow.name (h : RRow w B a len cap ps) {k : Nat} (hk : k < len) : (ps[k]?.getD roll0).p.n.size ≤ maxLen := h.names _ (h.mem hk)
/-- A beginning of it. -/
theorem RRow.take (h : RRow w B a len cap ps) {k : Nat} (hk : k ≤ len) : RRow w B a k cap (ps.take k) := by
  have hl := h.length
  refine ⟨by rw [List.length_take]; omega, Nat.le_trans hk h.fits, h.most, fun p hp => h.names p (List.mem_of_mem_take hp), fun hp => ?_⟩
  obtain ⟨b, off, e, hb, hc⟩ := h.cells (by omega)
  refine ⟨b, off, e, hb, fun j hj i v hv => hc j (by omega) i v ?_⟩
  rw [List.getElem?_take_of_lt hj] at hv
  exact hv
end

/-- A slice of rollovers of the call's own. -/
def OwnR (w : World) (B : Nat) (v : Value) (ps : List RollD) : Prop := Own w B 8 v ps.length (flatR ps)
section
variable {w w' : World} {B : Nat} {v : Value} {ps : List RollD}
theorem OwnR.row {a : Option Addr} {len cap : Nat} (h : OwnR w B (.slice a len cap) ps) (hs : ∀ p ∈ ps, p.p.n.size ≤ maxLen) : RRow w w.heap.size a len cap ps := by
  rcases h.2 with ⟨e, h0⟩ | ⟨g, c, e, hb, hg, h1, h2, hc, _⟩
  · injection e with e1 e2 e3
    subst e1; subst e2; subst e3
    obtain rfl : ps = [] := List.eq_nil_of_length_eq_zero h0
    exact RRow.nil _ _
  · injection e with e1 e2 e3
    subst e1; subst e2; subst e3
    exact ⟨rfl, h1, h2, hs, fun hp => ⟨g, 0, rfl, hg, fun j hj i v hv => by
      rw [Nat.zero_add]
      exact hc _ v (flatR_get ps j i v hj hv)⟩⟩
theorem OwnR.nil (w : World) (B : Nat) : OwnR w B (.slice none 0 0) [] := Own.nil w B 8
theorem OwnR.alloc (h : OwnR w B v ps) (o : Obj) : OwnR (w.alloc o) B v ps := Own.alloc h o
theorem OwnR.below (h : OwnR w B v ps) (hb : Below w.heap.size w w') : OwnR w' B v ps := Own.below h hb
theorem OwnR.form (h : OwnR w B v ps) : ∃ a cap, v = .slice a ps.length cap ∧ ps.length ≤ cap ∧ cap ≤ maxLen ∧ (a = none → ps.length = 0 ∧ cap = 0) := Own.form h
theorem OwnR.less {B' : Nat} (h : OwnR w B v ps) (hB : B' ≤ B) : OwnR w B' v ps := Own.less h hB
end
theorem roll_oneCell (p : RollD) : ∀ v ∈ p.vals, v.oneCell' = true := by
  intro v hv
  simp only [RollD.vals, List.mem_cons, List.not_mem_nil, or_false] at hv
  rcases hv with rfl | rfl | rfl | rfl | rfl | rfl | rfl | rfl <;> rfl

/-- Cells that have been laid so far into a new block, in their order. -/
structure FillC (w : World) (n : Nat) (cs : List Value) (m : Nat) (wr : World) : Prop where
  told : ∀ j, j < m → ∀ v, cs[j]? = some v → wr.cell? ⟨w.heap.size, j, none⟩ = some v
  room : ∀ j, j < n → (∃ u, wr.cell? ⟨w.heap.size, j, none⟩ = some u) ∧ wr.frozen? ⟨w.heap.size, j, none⟩ = false
  lt : w.heap.size < wr.heap.size
  bel : Below w.heap.size w wr
theorem FillC.new (w : World) (n : Nat) (ps : List Value) (cs : Array Value) (t : TypeId) (hs : cs.size = n) : FillC w n ps 0 (w.alloc (.cells cs t)) := by
  have e1 : (w.alloc (.cells cs t)).heap[w.heap.size]? = some (.cells cs t) := (MapKept.heap_alloc w _).1
  refine ⟨fun j hj => absurd hj (by omega), fun j hj => ?_, by simp, bal (Below.refl _ _) _⟩
  unfold World.cell? World.frozen?
  rw [e1]
  exact ⟨⟨cs[j], by simp [show j < cs.size by omega]⟩, by simp⟩
theorem FillC.on {w wr wr' : World} {n : Nat} {ps : List Value} {k : Nat} (h : FillC w n ps k wr) (hb : Below wr.heap.size wr wr') : FillC w n ps k wr' := by
  have e := hb.block w.heap.size h.lt
  refine ⟨fun j hj v hv => cell_keep hb (h.told j hj v hv), fun j hj => ?_, Nat.lt_of_lt_of_le h.lt hb.size, btr h.bel hb⟩
  rw [World.cell?_of_block (w := wr) (a := ⟨w.heap.size, j, none⟩) e, World.frozen?_of_block (w := wr) (a := ⟨w.heap.size, j, none⟩) e]
  exact h.room j hj
theorem FillC.one {w wr : World} {n : Nat} {cs : List Value} {m : Nat} {v : Value} (h : FillC w n cs m wr) (hm : m < n) (hv : cs[m]? = some v) : FillC w n cs (m + 1) (wr.setCell ⟨w.heap.size, m, none⟩ v) := by
  refine ⟨fun i hi u hu => ?_, fun i hi => ?_, by simpa [World.setCell] using h.lt, bset h.bel (Nat.le_refl _) v⟩
  · by_cases e : i = m
    · subst e
      rw [hv] at hu
      injection hu with hu
      subst hu
      obtain ⟨u0, hu0⟩ := (h.room i hm).1
      exact World.cell?_setCell_same _ _ _ (by rw [hu0])
    · rw [World.cell?_setCell_other _ _ _ _ (fun e => by injection e with _ e2; omega)]
      exact h.told i (by omega) u hu
  · obtain ⟨⟨u, hu⟩, hf⟩ := h.room i hi
    exact ⟨cell?_setCell_some (w := wr) (p := ⟨w.heap.size, m, none⟩) (x := v) (q := ⟨w.heap.size, i, none⟩) (v := u) hu, by rw [World.frozen?_setCell]; exact hf⟩
theorem FillC.roll {w wr : World} {n : Nat} {ps : List RollD} {k : Nat} (h : FillC w (n * 8) (flatR ps) (k * 8) wr) (hk : k < n) (hl : ps.length = n) {p : RollD} (hp : ps[k]?.getD roll0 = p) :
    FillC w (n * 8) (flatR ps) ((k + 1) * 8) ((((((((wr.setCell ⟨w.heap.size, k * 8, none⟩ (.string p.p.n)).setCell ⟨w.heap.size, k * 8 + 1, none⟩ (.int .i64 p.p.a)).setCell ⟨w.heap.size, k * 8 + 2, none⟩ (.int .i64 p.p.b)).setCell ⟨w.heap.size, k * 8 + 3, none⟩ (.int .i64 p.p.e)).setCell ⟨w.heap.size, k * 8 + 4, none⟩ (.int .i64 p.p.u)).setCell ⟨w.heap.size, k * 8 + 5, none⟩ (.int .i64 p.b)).setCell ⟨w.heap.size, k * 8 + 6, none⟩ (.int .i64 p.x)).setCell ⟨w.heap.size, k * 8 + 7, none⟩ (.int .i64 p.y)) := by
  subst hp
  have g := fun i v hv => flatR_get ps k i v (by omega) hv
  have e : (k + 1) * 8 = k * 8 + 7 + 1 := by omega
  rw [e]
  exact (((((((h.one (by omega) (g 0 _ rfl)).one (by omega) (g 1 _ rfl)).one (by omega) (g 2 _ rfl)).one (by omega) (g 3 _ rfl)).one (by omega) (g 4 _ rfl)).one (by omega) (g 5 _ rfl)).one (by omega) (g 6 _ rfl)).one (by omega) (g 7 _ rfl)
theorem FillC.own {w wr : World} {n : Nat} {ps : List RollD} (h : FillC w (n * 8) (flatR ps) (n * 8) wr) (hl : ps.length = n) (hm : n ≤ maxLen) : OwnR wr w.heap.size (.slice (some ⟨w.heap.size, 0, none⟩) n n) ps := by
  subst hl
  refine ⟨flatR_length ps, .inr ⟨w.heap.size, _, rfl, Nat.le_refl _, h.lt, Nat.le_refl _, hm, fun j u hu => ?_, fun j hj => ?_⟩⟩
  · have hj := (List.getElem?_eq_some_iff.1 hu).1
    rw [flatR_length] at hj
    exact h.told j hj u hu
  · obtain ⟨⟨u, hu⟩, hf⟩ := h.room j hj
    exact ⟨by rw [hu]; rfl, hf⟩
end Go.Proofs.YtmdknbgpddnplaaGreatDoor
namespace Go.Proofs.YtmdknbgpddnplaaGreatDoor
open Go.RowKit
set_option maxRecDepth 100000
set_option linter.unusedVariables false

theorem eqPin_any (p : PinD) (w : World) : Calls Tryz.prog 90 #[P5 p, P5 p] w fun e w' => e = .returned (.bool true) ∧ Below w.heap.size w w' := by
  have b0 := bal (bal (Below.refl _ w) (.cells #[.string p.n, .int .i64 p.a, .int .i64 p.b, .int .i64 p.e, .int .i64 p.u] 25)) (.cells #[.string p.n, .int .i64 p.a, .int .i64 p.b, .int .i64 p.e, .int .i64 p.u] 25)
  go_enter Tryz.func90, Tryz.ntmps90
  go_wp2_with fail
  go_ret
  exact ⟨rfl, b0⟩
theorem toPin_any (p : PinD) (w : World) : Calls Tryz.prog 33 #[P5 p] w fun e w' => e = .returned (P5 p) ∧ Below w.heap.size w w' := by
  have b0 := bal (bal (bal (Below.refl _ w) (.cells #[.string p.n, .int .i64 p.a, .int .i64 p.b, .int .i64 p.e, .int .i64 p.u] 60)) (.cells #[.string p.n, .int .i64 p.a, .int .i64 p.b, .int .i64 p.e, .int .i64 p.u] 25)) (.cells #[.string p.n, .int .i64 p.a, .int .i64 p.b, .int .i64 p.e, .int .i64 p.u] 25)
  go_enter Tryz.func33, Tryz.ntmps33
  go_wp2_with fail
  exact bodyPost_ret (v := P5 p) (by simp [results, Tryz.results33, go_sem]) rfl ⟨rfl, b0⟩
theorem szPin_any (p : PinD) (l : Int) (w : World) (hn : p.n.size ≤ maxLen) (l0 : 0 ≤ l) (l1 : l ≤ 1048576) :
    Calls Tryz.prog 32 #[P5 p, .int .i64 l] w fun e w' => e = .returned (.int .i64 (if l < p.n.size then -1 else l - p.n.size)) ∧ Below w.heap.size w w' := by
  have hb := bal (Below.refl _ w) (.cells #[.string p.n, .int .i64 p.a, .int .i64 p.b, .int .i64 p.e, .int .i64 p.u] 60)
  unfold maxLen at hn
  by_cases h : l < p.n.size
  · have h' : l - p.n.size < 0 := by omega
    rw [if_pos h]
    go_enter Tryz.func32, Tryz.ntmps32
    go_wp2_with fail
    go_ret
    exact ⟨rfl, hb⟩
  · have h' : ¬ l - p.n.size < 0 := by omega
    rw [if_neg h]
    go_enter Tryz.func32, Tryz.ntmps32
    go_wp2_with fail
    go_ret
    exact ⟨rfl, hb⟩

/-- How much of a bound pins leave. -/
def szL : List PinD → Int → Int
  | [], l => l
  | p :: r, l => if l < p.n.size then -1 else szL r (l - p.n.size)
def szP (ps : List PinD) (l : Int) : Int := if l < ps.length then -1 else szL ps (l - ps.length)
theorem szL_le : ∀ (ps : List PinD) (l : Int), 0 ≤ l → szL ps l ≤ l ∧ -1 ≤ szL ps l
  | [], l, h => ⟨Int.le_refl _, by unfold szL; omega⟩
  | p :: r, l, h => by
    unfold szL
    split
    · omega
    · have := szL_le r (l - p.n.size) (by omega)
      omega
theorem szL_mem : ∀ (ps : List PinD) (l : Int), 0 ≤ szL ps l → ∀ p ∈ ps, (p.n.size : Int) ≤ l
  | [], l, _, _, hp => by cases hp
  | q :: r, l, h, p, hp => by
    unfold szL at h
    split at h
    · omega
    · rcases List.mem_cons.1 hp with rfl | hp
      · omega
      · have := szL_mem r _ h p hp
        omega
theorem szP_ok {ps : List PinD} {l : Int} (h : 0 ≤ szP ps l) : (ps.length : Int) ≤ l ∧ (∀ p ∈ ps, (p.n.size : Int) ≤ l) ∧ szP ps l ≤ l := by
  unfold szP at h ⊢
  split at h
  · omega
  · rw [if_neg ‹_›]
    refine ⟨by omega, fun p hp => ?_, ?_⟩
    · have := szL_mem _ _ h p hp
      omega
    · have := (szL_le ps (l - ps.length) (by omega)).1
      omega
theorem szL_step {ps : List PinD} {k : Nat} (hk : k < ps.length) (l : Int) : szL (ps.drop k) l = if l < (ps[k]?.getD pin0).n.size then -1 else szL (ps.drop (k + 1)) (l - (ps[k]?.getD pin0).n.size) := by
  have e : ps.drop k = (ps[k]?.getD pin0) :: ps.drop (k + 1) := by
    rw [List.drop_eq_getElem_cons hk, List.getElem?_eq_getElem hk]
    rfl
  rw [e]
  rfl
def SzRel (w : World) (ps : List PinD) (t : Int) (k : Nat) (l : Int) (wr : World) : Prop := 0 ≤ l ∧ l ≤ 1048576 ∧ szL (ps.drop k) l = t ∧ Below w.heap.size w wr
theorem szPinS_any (a : Option Addr) (len cap B : Nat) (ps : List PinD) (l : Int) (w : World) (hR : PRow w B a len cap ps) (hB : B ≤ w.heap.size) (l0 : 0 ≤ l) (l1 : l ≤ 1048576) :
    Calls Tryz.prog 37 #[.slice a len cap, .int .i64 l] w fun e w' => e = .returned (.int .i64 (szP ps l)) ∧ Below w.heap.size w w' := by
  have hL := Lib.hid hR.length
  have hm := hR.most
  have hf := hR.fits
  unfold maxLen at hm
  by_cases h : l < len
  · have E : szP ps l = -1 := by unfold szP; rw [hL.out, if_pos h]
    rw [E]
    have h' : l - len < 0 := by omega
    go_enter Tryz.func37, Tryz.ntmps37
    go_wp2_with fail
    go_ret
    exact ⟨rfl, Below.refl _ _⟩
  have E : szP ps l = szL ps (l - len) := by unfold szP; rw [hL.out, if_neg h]
  rw [E]
  have h' : ¬ l - len < 0 := by omega
  have T0 : SzRel w ps (szL ps (l - len)) 0 (l - len) w := ⟨by omega, by omega, rfl, Below.refl _ _⟩
  generalize szL ps (l - len) = t at *
  clear E
  go_enter Tryz.func37, Tryz.ntmps37
  go_wp2_with fail
  go_loopw [1, 5] (fun x i wr => ∃ (k : Nat) (y : Int), k ≤ len ∧ i = .int .i64 k ∧ x = .int .i64 y ∧ SzRel w ps t k y wr) (fun _ i _ => len - (intOf i).toNat)
  case atStart => exact ⟨0, _, Nat.zero_le _, rfl, rfl, T0⟩
  case round =>
    obtain ⟨k, y, hk, rfl, rfl, y0, y1, hy, hb⟩ := hrel
    clear T0
    by_cases hlt : k < len
    · obtain ⟨b, off, ha, hbB, c0, c1, c2, c3, c4⟩ := (hR.below (hb.mono hB)).at' hlt
      have hst := szL_step (by rw [hL.out]; exact hlt) y
      rw [hy] at hst
      have S := szPin_any (ps[k]?.getD pin0) y wr (hR.name hlt) y0 y1
      subst ha
      generalize ps[k]?.getD pin0 = p at *
      by_cases hs : y < p.n.size
      · rw [if_pos hs] at hst S
        clear hy
        subst hst
        go_wp2_with fail
        refine S.mono ?_
        rintro r w2 ⟨rfl, b2⟩
        have bb := btr hb b2
        go_wp2_with fail
        go_ret
        exact ⟨rfl, bb⟩
      · rw [if_neg hs] at hst S
        have hn : ¬ y - p.n.size < 0 := by omega
        have hy0 : 0 ≤ y - (p.n.size : Int) := by omega
        have HY := Lib.hid hst
        have hm2 : (p.n.size : Int) ≤ y := by omega
        clear hst
        go_wp2_with fail
        refine S.mono ?_
        rintro r w2 ⟨rfl, b2⟩
        have bb := btr hb b2
        clear b2 S c0 c1 c2 c3 c4
        go_wp2_with fail
        go_roundw
        case rel => exact ⟨k + 1, _, by omega, by go_num, rfl, hy0, by omega, HY.out.symm, bb⟩
        case measure => simp [intOf]; omega
    · obtain rfl : k = len := by omega
      have e : ps.drop k = [] := List.drop_of_length_le (by rw [hL.out]; omega)
      rw [e] at hy
      have hy' : y = t := hy
      subst hy'
      go_wp2_with fail
      go_ret
      exact ⟨rfl, hb⟩

/-- The pins that have been laid so far into a new block. -/
structure FillP (w : World) (n : Nat) (ps : List PinD) (k : Nat) (wr : World) : Prop where
  told : ∀ j, j < k → ∀ i v, (ps[j]?.getD pin0).vals[i]? = some v → wr.cell? ⟨w.heap.size, j * 5 + i, none⟩ = some v
  room : ∀ j, j < n * 5 → (∃ u, wr.cell? ⟨w.heap.size, j, none⟩ = some u) ∧ wr.frozen? ⟨w.heap.size, j, none⟩ = false
  lt : w.heap.size < wr.heap.size
  bel : Below w.heap.size w wr
theorem FillP.new (w : World) (n : Nat) (ps : List PinD) (cs : Array Value) (t : TypeId) (hs : cs.size = n * 5) : FillP w n ps 0 (w.alloc (.cells cs t)) := by
  have e1 : (w.alloc (.cells cs t)).heap[w.heap.size]? = some (.cells cs t) := (MapKept.heap_alloc w _).1
  refine ⟨fun j hj => absurd hj (by omega), fun j hj => ?_, by simp, bal (Below.refl _ _) _⟩
  unfold World.cell? World.frozen?
  rw [e1]
  exact ⟨⟨cs[j], by simp [show j < cs.size by omega]⟩, by simp⟩
theorem FillP.on {w wr wr' : World} {n : Nat} {ps : List PinD} {k : Nat} (h : FillP w n ps k wr) (hb : Below wr.heap.size wr wr') : FillP w n ps k wr' := by
  have e := hb.block w.heap.size h.lt
  refine ⟨fun j hj i v hv => cell_keep hb (h.told j hj i v hv), fun j hj => ?_, Nat.lt_of_lt_of_le h.lt hb.size, btr h.bel hb⟩
  rw [World.cell?_of_block (w := wr) (a := ⟨w.heap.size, j, none⟩) e, World.frozen?_of_block (w := wr) (a := ⟨w.heap.size, j, none⟩) e]
  exact h.room j hj
theorem FillP.one {w wr : World} {n : Nat} {ps : List PinD} {k : Nat} (h : FillP w n ps k wr) {j : Nat} (hj : k * 5 ≤ j) (v : Value) : FillP w n ps k (wr.setCell ⟨w.heap.size, j, none⟩ v) := by
  refine ⟨fun i hi c u hu => ?_, fun i hi => ?_, by simpa [World.setCell] using h.lt, bset h.bel (Nat.le_refl _) v⟩
  · have hc : c < 5 := by have := (List.getElem?_eq_some_iff.1 hu).1; simpa [PinD.vals_length] using this
    rw [World.cell?_setCell_other _ _ _ _ (fun e => by injection e with _ e2; omega)]
    exact h.told i hi c u hu
  · obtain ⟨⟨u, hu⟩, hf⟩ := h.room i hi
    exact ⟨cell?_setCell_some (w := wr) (p := ⟨w.heap.size, j, none⟩) (x := v) (q := ⟨w.heap.size, i, none⟩) (v := u) hu, by rw [World.frozen?_setCell]; exact hf⟩
theorem set5_cell {w : World} {g k : Nat} {p : PinD} (hs : ∀ i, i < 5 → ∃ u, w.cell? ⟨g, k * 5 + i, none⟩ = some u) (i : Nat) (v : Value) (hv : p.vals[i]? = some v) :
    (((((w.setCell ⟨g, k * 5, none⟩ (.string p.n)).setCell ⟨g, k * 5 + 1, none⟩ (.int .i64 p.a)).setCell ⟨g, k * 5 + 2, none⟩ (.int .i64 p.b)).setCell ⟨g, k * 5 + 3, none⟩ (.int .i64 p.e)).setCell ⟨g, k * 5 + 4, none⟩ (.int .i64 p.u)).cell? ⟨g, k * 5 + i, none⟩ = some v := by
  have hi : i < 5 := by have := (List.getElem?_eq_some_iff.1 hv).1; simpa [PinD.vals_length] using this
  have ne : ∀ {a b : Nat}, a ≠ b → (⟨g, k * 5 + a, none⟩ : Addr) ≠ ⟨g, k * 5 + b, none⟩ := fun h e => by injection e with _ e2; omega
  have ne0 : ∀ {b : Nat}, b ≠ 0 → (⟨g, k * 5 + b, none⟩ : Addr) ≠ ⟨g, k * 5, none⟩ := fun h e => by injection e with _ e2; omega
  have st : ∀ (w : World) (q : Addr) (x : Value), (∀ i, i < 5 → ∃ u, w.cell? ⟨g, k * 5 + i, none⟩ = some u) → ∀ i, i < 5 → ∃ u, (w.setCell q x).cell? ⟨g, k * 5 + i, none⟩ = some u := fun w q x h i hi => by
    obtain ⟨u, hu⟩ := h i hi
    exact cell?_setCell_some (w := w) (p := q) (x := x) (q := ⟨g, k * 5 + i, none⟩) (v := u) hu
  have s1 := st _ ⟨g, k * 5, none⟩ (.string p.n) hs
  have s2 := st _ ⟨g, k * 5 + 1, none⟩ (.int .i64 p.a) s1
  have s3 := st _ ⟨g, k * 5 + 2, none⟩ (.int .i64 p.b) s2
  have s4 := st _ ⟨g, k * 5 + 3, none⟩ (.int .i64 p.e) s3
  match i, hi with
  | 0, _ =>
    obtain ⟨u, hu⟩ := hs 0 (by omega)
    rw [World.cell?_setCell_other _ _ _ _ (by intro e; injection e with _ e2; omega), World.cell?_setCell_other _ _ _ _ (by intro e; injection e with _ e2; omega), World.cell?_setCell_other _ _ _ _ (by intro e; injection e with _ e2; omega), World.cell?_setCell_other _ _ _ _ (by intro e; injection e with _ e2; omega)]
    rw [show k * 5 + 0 = k * 5 from rfl] at hu ⊢
    rw [World.cell?_setCell_same _ _ _ (by rw [hu])]
    exact hv
  | 1, _ =>
    obtain ⟨u, hu⟩ := s1 1 (by omega)
    rw [World.cell?_setCell_other _ _ _ _ (by intro e; injection e with _ e2; omega), World.cell?_setCell_other _ _ _ _ (by intro e; injection e with _ e2; omega), World.cell?_setCell_other _ _ _ _ (by intro e; injection e with _ e2; omega), World.cell?_setCell_same _ _ _ (by rw [hu])]
    exact hv
  | 2, _ =>
    obtain ⟨u, hu⟩ := s2 2 (by omega)
    rw [World.cell?_setCell_other _ _ _ _ (by intro e; injection e with _ e2; omega), World.cell?_setCell_other _ _ _ _ (by intro e; injection e with _ e2; omega), World.cell?_setCell_same _ _ _ (by rw [hu])]
    exact hv
  | 3, _ =>
    obtain ⟨u, hu⟩ := s3 3 (by omega)
    rw [World.cell?_setCell_other _ _ _ _ (by intro e; injection e with _ e2; omega), World.cell?_setCell_same _ _ _ (by rw [hu])]
    exact hv
  | 4, _ =>
    obtain ⟨u, hu⟩ := s4 4 (by omega)
    rw [World.cell?_setCell_same _ _ _ (by rw [hu])]
    exact hv
theorem FillP.step {w wr : World} {n : Nat} {ps : List PinD} {k : Nat} (h : FillP w n ps k wr) (hk : k < n) {p : PinD} (hp : ps[k]?.getD pin0 = p) :
    FillP w n ps (k + 1) (((((wr.setCell ⟨w.heap.size, k * 5, none⟩ (.string p.n)).setCell ⟨w.heap.size, k * 5 + 1, none⟩ (.int .i64 p.a)).setCell ⟨w.heap.size, k * 5 + 2, none⟩ (.int .i64 p.b)).setCell ⟨w.heap.size, k * 5 + 3, none⟩ (.int .i64 p.e)).setCell ⟨w.heap.size, k * 5 + 4, none⟩ (.int .i64 p.u)) := by
  have hall := ((((h.one (j := k * 5) (by omega) (.string p.n)).one (j := k * 5 + 1) (by omega) (.int .i64 p.a)).one (j := k * 5 + 2) (by omega) (.int .i64 p.b)).one (j := k * 5 + 3) (by omega) (.int .i64 p.e)).one (j := k * 5 + 4) (by omega) (.int .i64 p.u)
  refine ⟨fun j hj i v hv => ?_, hall.room, hall.lt, hall.bel⟩
  by_cases e : j = k
  · subst e
    rw [hp] at hv
    exact set5_cell (fun i hi => (h.room (j * 5 + i) (by omega)).1) i v hv
  · exact hall.told j (by omega) i v hv
theorem FillP.own {w wr : World} {n : Nat} {ps : List PinD} (h : FillP w n ps n wr) (hl : ps.length = n) (hm : n ≤ maxLen) : OwnP wr w.heap.size (.slice (some ⟨w.heap.size, 0, none⟩) n n) ps := by
  subst hl
  refine ⟨flat_length ps, .inr ⟨w.heap.size, _, rfl, Nat.le_refl _, h.lt, Nat.le_refl _, hm, fun j u hu => ?_, fun j hj => ?_⟩⟩
  · have hj := (List.getElem?_eq_some_iff.1 hu).1
    rw [flat_length] at hj
    have hjk : j / 5 < ps.length := by omega
    have hjj : j / 5 * 5 + j % 5 = j := by omega
    have h5 : j % 5 < 5 := Nat.mod_lt _ (by omega)
    have hv : (ps[j / 5]?.getD pin0).vals[j % 5]? = some ((ps[j / 5]?.getD pin0).vals[j % 5]'(by rw [PinD.vals_length]; exact h5)) := List.getElem?_eq_getElem _
    have q1 := flat_get ps (j / 5) (j % 5) _ hjk hv
    have q2 := h.told (j / 5) hjk (j % 5) _ hv
    rw [hjj] at q1 q2
    rw [hu] at q1
    injection q1 with q1
    rw [q1]
    exact q2
  · obtain ⟨⟨u, hu⟩, hf⟩ := h.room j hj
    exact ⟨by rw [hu]; rfl, hf⟩

/-- A slice of pins was copied. -/
def CopiedP (n : Nat) (ps : List PinD) (w : World) (r : Ending) (w' : World) : Prop :=
  r = .returned (.slice (some ⟨w.heap.size, 0, none⟩) n n) ∧ OwnP w' w.heap.size (.slice (some ⟨w.heap.size, 0, none⟩) n n) ps ∧ Below w.heap.size w w'
theorem pin_info : (Tryz.prog.info? 25).map (fun i => (i.zero, i.size, i.bytes)) = some (some (P5 pin0), 5, 48) := by kernel_rfl
theorem toPinS_any (a : Option Addr) (len cap B : Nat) (ps : List PinD) (w : World) (hR : PRow w B a len cap ps) (hB : B ≤ w.heap.size) (hl : len ≤ 1048576) :
    Calls Tryz.prog 38 #[.slice a len cap] w (CopiedP len ps w) := by
  obtain ⟨i0, hi0, hz0, hz1, hz2⟩ := info_parts pin_info
  have hmk : ∀ W : World, (Instr.makeSlice 33 (.int .i64 (len : Int)) (.int .i64 (len : Int))).run Tryz.prog W = .ok (.slice (some ⟨W.heap.size, 0, none⟩) len len) (W.alloc (.cells (madeCells (P5 pin0).cells (len * 5)) 25)) := by
    intro W
    have := run_make (P := Tryz.prog) W 33 25 i0 (P5 pin0) Tryz.underlying33 hi0 hz0 .i64 .i64 len len (by omega) (by omega) (by rw [hz2]; omega) (by omega)
    simpa [hz1] using this
  have hL := Lib.hid hR.length
  clear hi0 hz0 hz1 hz2
  have T0 := FillP.new w len ps (madeCells (P5 pin0).cells (len * 5)) 25 (size_madeCells _ _)
  generalize madeCells (P5 pin0).cells (len * 5) = cs at *
  go_enter Tryz.func38, Tryz.ntmps38
  go_wp2_with fail
  generalize w.alloc (.cells cs 25) = w1 at *
  go_loopw [4] (fun i wr => ∃ k : Nat, k ≤ len ∧ i = .int .i64 k ∧ FillP w len ps k wr) (fun i _ => len - (intOf i).toNat)
  case atStart => exact ⟨0, Nat.zero_le _, rfl, T0⟩
  case round =>
    obtain ⟨k, hk, rfl, hT⟩ := hrel
    by_cases hlt : k < len
    · obtain ⟨b, off, ha, hbB, c0, c1, c2, c3, c4⟩ := (hR.below (hT.bel.mono hB)).at' hlt
      generalize hp : ps[k]?.getD pin0 = p at *
      subst ha
      clear hR T0
      go_wp2_with fail
      refine (toPin_any p _).mono ?_
      rintro r w2 ⟨rfl, b2⟩
      have hT2 := hT.on b2
      obtain ⟨⟨v0, r0⟩, f0⟩ := hT2.room (k * 5) (by omega)
      obtain ⟨⟨v1, r1⟩, f1⟩ := hT2.room (k * 5 + 1) (by omega)
      obtain ⟨⟨v2, r2⟩, f2⟩ := hT2.room (k * 5 + 2) (by omega)
      obtain ⟨⟨v3, r3⟩, f3⟩ := hT2.room (k * 5 + 3) (by omega)
      obtain ⟨⟨v4, r4⟩, f4⟩ := hT2.room (k * 5 + 4) (by omega)
      have T2 := Lib.hid (hT2.step hlt hp)
      clear hT hT2 hp b2 c0 c1 c2 c3 c4
      go_wp2_with fail
      go_roundw
      case rel => exact ⟨k + 1, by omega, by go_num, T2.out⟩
      case measure => simp [intOf]; omega
    · obtain rfl : k = len := by omega
      have T2 := hT.own hL.out (by simp only [maxLen]; omega)
      have hb := Lib.hid hT.bel
      clear hT
      go_wp2_with fail
      go_ret
      exact ⟨rfl, T2, hb.out⟩

theorem eqPinS_any (a b : Option Addr) (len c1 c2 B : Nat) (ps : List PinD) (w : World) (hR : PRow w B a len c1 ps) (hQ : PRow w B b len c2 ps) (hB : B ≤ w.heap.size) :
    Calls Tryz.prog 40 #[.slice a len c1, .slice b len c2] w fun e w' => e = .returned (.bool true) ∧ Below w.heap.size w w' := by
  have hlen := hR.fits
  have hmost := hR.most
  unfold maxLen at hmost
  go_enter Tryz.func40, Tryz.ntmps40
  go_wp2_with fail
  go_loopw [5] (fun i wr => ∃ k : Nat, k ≤ len ∧ i = .int .i64 k ∧ Below w.heap.size w wr) (fun i _ => len - (intOf i).toNat)
  case atStart => exact ⟨0, Nat.zero_le _, rfl, Below.refl _ _⟩
  case round =>
    obtain ⟨k, hk, rfl, hb⟩ := hrel
    by_cases hlt : k < len
    · obtain ⟨b1, o1, ha1, hb1, c0, c1, c2, c3, c4⟩ := (hR.below (hb.mono hB)).at' hlt
      obtain ⟨b2, o2, ha2, hb2, d0, d1, d2, d3, d4⟩ := (hQ.below (hb.mono hB)).at' hlt
      have HB := Lib.hid hb
      clear hb hR hQ
      subst ha1
      subst ha2
      generalize ps[k]?.getD pin0 = p at *
      go_wp2_with fail
      refine wp_region_line (Bel wr) [(0, true), (1, true), (2, true), (3, true), (4, true), (5, true), (6, true), (7, true), (8, false), (9, true)] (by kernel_rfl) (by kernel_rfl) (fun _ _ d _ _ h => by cases d <;> exact h) (Bel.drew wr) ?_
      have hst := Bel.drew wr
      have inst : Nonempty (Of (Bel wr)) := ⟨⟨_, hst⟩⟩
      have q0 := bel_cell c0
      have q1 := bel_cell c1
      have q2 := bel_cell c2
      have q3 := bel_cell c3
      have q4 := bel_cell c4
      have y0 := bel_cell d0
      have y1 := bel_cell d1
      have y2 := bel_cell d2
      have y3 := bel_cell d3
      have y4 := bel_cell d4
      iterate 8 (refine line_read rfl (by kernel_rfl) (fun K hK => ?_); go_big_quiet_op; refine hK _ ?_; clear hK K)
      refine line_alone rfl (by kernel_rfl) (fun K hK => ?_)
      refine call_wp (args := #[P5 p, P5 p]) rfl (by kernel_rfl) (by kernel_rfl) (eqPin_any p _) (fun wn hbn => ?_)
      have hst2 := hst.on hbn
      refine hK _ _ hst2 ?_
      clear hK K hst hbn
      have hst := hst2
      clear hst2
      simp only [Act.put, List.setIfInBounds_toArray, List.set_cons_zero, List.set_cons_succ]
      iterate 1 (refine line_read rfl (by kernel_rfl) (fun K hK => ?_); go_big_quiet_op; refine hK _ ?_; clear hK K)
      refine line_nil ?_
      have bb := btr HB.out hst.out
      clear hst inst q0 q1 q2 q3 q4 y0 y1 y2 y3 y4 c0 c1 c2 c3 c4 d0 d1 d2 d3 d4 HB
      go_wp2_with fail
      go_roundw
      case rel => exact ⟨k + 1, by omega, by go_num, bb⟩
      case measure => simp [intOf]; omega
    · go_wp2_with fail
      go_ret
      exact ⟨rfl, hb⟩
end Go.Proofs.YtmdknbgpddnplaaGreatDoor
namespace Go.Proofs.YtmdknbgpddnplaaGreatDoor
open Go.RowKit Go.Extern.Stop Go.Stop Go.Extern

/-- The variable errors.errorType holds the handle of the type 'error'. -/
structure ErrT (w : World) : Prop where
  cell : w.cell? ⟨1, 0, none⟩ = some (.iface 211 (.agg #[.pointer (some ⟨6, 90, none⟩)]))
theorem ErrT.on {w w' : World} (h : ErrT w) (hb : Below w.heap.size w w') : ErrT w' := ⟨cell_keep hb h.cell⟩
theorem ErrT.grew {w w' : World} {row : Option Nat} (h : ErrT w) (hg : w.grownBy w' row) (hr : ∀ k, row = some k → 1 < k) : ErrT w' :=
  ⟨hg.cell h.cell (fun e => by have := hr _ e.symm; exact absurd this (Nat.lt_irrefl _))⟩
theorem ErrT.lt {w : World} (h : ErrT w) : 1 < w.heap.size := cell_lt h.cell

/-- An error of what does not fit. -/
abbrev misV (c : Int) (s : ByteArray) : Value := .iface 144 (.agg #[.int .i64 c, .string s])
abbrev hdl (t : Nat) : Value := .pointer (some ⟨6, t, none⟩)
abbrev rval (t : Nat) (a : Addr) (f : Int) : Value := .agg #[hdl t, .pointer (some a), .int .u64 f]

theorem as_nil (t : Value) (w : World) :
    Calls Tryz.prog 97 #[.nilIface, t] w fun e w' => e = .returned (.bool false) ∧ w = w' := by
  go_enter Tryz.func97, Tryz.ntmps97
  go_wp2
  go_ret
  exact ⟨rfl, rfl⟩

theorem rl_valueOfP (t : Addr) (w : World) : (ReflectliteValue.unpack (.iface 146 (.pointer (some t)))).run Tryz.prog w
    = .ok (rval 146 ⟨w.heap.size, 0, none⟩ 150) (w.alloc (.cells #[.pointer (some t)] 146)) := by kernel_rfl
theorem rl_typeP (a : Addr) (w : World) : (ReflectliteValue.methodAny (ReflectliteValue.valueError "reflectlite.Value.Type" 0) (fun t _ _ _ => ReflectliteType.toType t) #[rval 146 a 150]).run Tryz.prog w
    = .ok (.iface 211 (.agg #[hdl 146])) w := by kernel_rfl
theorem rl_mKind (h : Value) (w : World) : (Go.method 402 211 (.agg #[h]) "Kind").run Tryz.prog w = .ok (213, h) w := by kernel_rfl
theorem rl_mElem (h : Value) (w : World) : (Go.method 402 211 (.agg #[h]) "Elem").run Tryz.prog w = .ok (226, .agg #[h]) w := by kernel_rfl
theorem rl_mImpl (h : Value) (w : World) : (Go.method 402 211 (.agg #[h]) "Implements").run Tryz.prog w = .ok (227, .agg #[h]) w := by kernel_rfl
theorem rl_mAsgn (h : Value) (w : World) : (Go.method 402 211 (.agg #[h]) "AssignableTo").run Tryz.prog w = .ok (224, .agg #[h]) w := by kernel_rfl
theorem rl_kindP (w : World) : ((ReflectliteType.abiMethod fun t => (fun a : Nat => Value.int IntKind.u8 (a : Int)) <$> Rtype.kind t) #[hdl 146]).run Tryz.prog w = .ok (.int .u8 22) w := by kernel_rfl
theorem rl_kindM (w : World) : ((ReflectliteType.abiMethod fun t => (fun a : Nat => Value.int IntKind.u8 (a : Int)) <$> Rtype.kind t) #[hdl 144]).run Tryz.prog w = .ok (.int .u8 25) w := by kernel_rfl
theorem rl_elemP (w : World) : (ReflectliteType.method ReflectliteType.elem #[.agg #[hdl 146]]).run Tryz.prog w = .ok (.iface 211 (.agg #[hdl 144])) w := by kernel_rfl
theorem rl_implM (w : World) : (ReflectliteType.relation "Implements" ReflectliteType.implements_ #[.agg #[hdl 144], .iface 211 (.agg #[hdl 90])]).run Tryz.prog w = .ok (.bool true) w := by kernel_rfl
theorem rl_typeOfM (v : Value) (w : World) : (ReflectliteType.typeOf #[.iface 144 v]).run Tryz.prog w = .ok (.iface 211 (.agg #[hdl 144])) w := by kernel_rfl
theorem rl_asgnM (w : World) : (ReflectliteType.relation "AssignableTo" ReflectliteType.assignableTo #[.agg #[hdl 144], .iface 211 (.agg #[hdl 144])]).run Tryz.prog w = .ok (.bool true) w := by kernel_rfl
theorem rl_valueOfM (c : Int) (s : ByteArray) (w : World) : (ReflectliteValue.unpack (misV c s)).run Tryz.prog w
    = .ok (rval 144 ⟨w.heap.size, 0, none⟩ 153) (w.alloc (.cells #[.int .i64 c, .string s] 144)) := by kernel_rfl

theorem rl_partsP (a : Addr) (w : World) : (ReflectliteValue.parts (rval 146 a 150)).run Tryz.prog w = .ok (some (146, a, 150)) w := by kernel_rfl
theorem rl_method {P : Program} {w : World} {z : Sem Value} {f : TypeId → Addr → Nat → Nat → Sem Value} {v : Value} {t : TypeId} {a : Addr} {k : Nat} (h : (ReflectliteValue.parts v).run P w = .ok (some (t, a, k)) w) :
    (ReflectliteValue.method z f #[v]).run P w = (f t a k (k % 32)).run P w := by
  rw [show ReflectliteValue.method z f #[v] = ReflectliteValue.parts v >>= _ from rfl]
  simp only [Sem.run_bind, h, Result.andThen]
theorem rl_isNilP (a p : Addr) (W : World) (ha : W.cell? a = some (.pointer (some p))) :
    (ReflectliteValue.method (ReflectliteValue.valueError "reflectlite.Value.IsNil" 0) ReflectliteValue.isNil #[rval 146 a 150]).run Tryz.prog W = .ok (.bool false) W := by
  rw [rl_method (rl_partsP _ _)]
  simp [ReflectliteValue.isNil, loadVar, isAgg, underlying, Tryz.underlying146, ha, Result.andThen]
theorem rl_elemOfP (w : World) : (Rtype.elem? 146).run Tryz.prog w = .ok (some 144) w := by kernel_rfl
theorem rl_mkM (p : Addr) (w : World) : (ReflectliteValue.mk 144 p ReflectliteValue.flagAddr).run Tryz.prog w = .ok (rval 144 p 409) w := by kernel_rfl
theorem rl_elemV (a p : Addr) (W : World) (ha : W.cell? a = some (.pointer (some p))) :
    (ReflectliteValue.method (ReflectliteValue.valueError "reflectlite.Value.Elem" 0) ReflectliteValue.elem #[rval 146 a 150]).run Tryz.prog W = .ok (rval 144 p 409) W := by
  rw [rl_method (rl_partsP _ _)]
  simp [ReflectliteValue.elem, loadVar, isAgg, underlying, Tryz.underlying146, ha, Result.andThen, rl_elemOfP, rl_mkM]
theorem rl_partsMa (a : Addr) (w : World) : (ReflectliteValue.parts (rval 144 a 409)).run Tryz.prog w = .ok (some (144, a, 409)) w := by kernel_rfl
theorem rl_partsM (a : Addr) (w : World) : (ReflectliteValue.parts (rval 144 a 153)).run Tryz.prog w = .ok (some (144, a, 153)) w := by kernel_rfl
theorem rl_directM (w : World) : (Rtype.directlyAssignable 144 144).run Tryz.prog w = .ok true w := by kernel_rfl
/-- (Value).Set: the struct at 'ta' gets what the Value's own variable holds. -/
theorem rl_setM (tb b : Nat) (c : Int) (s : ByteArray) (o0 o1 : Value) (W : World) (b0 : W.cell? ⟨b, 0, none⟩ = some (.int .i64 c)) (b1 : W.cell? ⟨b, 1, none⟩ = some (.string s))
    (t0 : W.cell? ⟨tb, 0, none⟩ = some o0) (t1 : W.cell? ⟨tb, 1, none⟩ = some o1) (f0 : W.frozen? ⟨tb, 0, none⟩ = false) (f1 : W.frozen? ⟨tb, 1, none⟩ = false) :
    (ReflectliteValue.set #[rval 144 ⟨tb, 0, none⟩ 409, rval 144 ⟨b, 0, none⟩ 153]).run Tryz.prog W = .ok (.tuple #[]) ((W.setCell ⟨tb, 0, none⟩ (.int .i64 c)).setCell ⟨tb, 1, none⟩ (.string s)) := by
  have hl : (loadCells ⟨b, 0, none⟩ 2).run Tryz.prog W = .ok #[.int .i64 c, .string s] W := by
    have := run_loadCells_list (P := Tryz.prog) (w := W) ⟨b, 0, none⟩ [.int .i64 c, .string s] (fun j v hj => by
      rcases j with _ | _ | j
      · simp at hj; subst hj; exact b0
      · simp at hj; subst hj; exact b1
      · first | (simp at hj; done) | (simp at hj; omega))
    exact this
  generalize hv : rval 144 ⟨tb, 0, none⟩ 409 = v
  generalize hx : rval 144 ⟨b, 0, none⟩ 153 = x
  rw [show ReflectliteValue.set #[v, x] = (ReflectliteValue.parts v >>= fun p => ReflectliteValue.parts x >>= fun q => _) from rfl]
  subst hv; subst hx
  simp only [Sem.run_bind, rl_partsMa, rl_partsM, Result.andThen]
  simp [ReflectliteValue.flagAddr, loadVar, isAgg, underlying, Tryz.underlying144, hl, Result.andThen, rl_directM, storeVar, Value.cells]
  have hst := run_storeCells_cells (P := Tryz.prog) tb 0 [.int .i64 c, .string s] 0 W
    (fun j hj => by
      rcases j with _ | _ | j
      · simp [t0]
      · simp [t1]
      · first | (simp at hj; done) | (simp at hj; omega))
    (fun j hj => by
      rcases j with _ | _ | j
      · exact f0
      · exact f1
      · first | (simp at hj; done) | (simp at hj; omega))
    (fun v hv => by
      simp at hv
      rcases hv with rfl | rfl <;> rfl)
  rw [hst]
  rfl
end Go.Proofs.YtmdknbgpddnplaaGreatDoor
namespace Go.Proofs.YtmdknbgpddnplaaGreatDoor
open Go.RowKit Go.Extern.Stop Go.Stop Go.Extern

set_option maxHeartbeats 4000000 in
set_option maxRecDepth 100000 in
theorem as_hit (c : Int) (s : ByteArray) (tb : Nat) (o0 o1 : Value) (w : World) (hg : ErrT w) (t0 : w.cell? ⟨tb, 0, none⟩ = some o0) (t1 : w.cell? ⟨tb, 1, none⟩ = some o1) (f0 : w.frozen? ⟨tb, 0, none⟩ = false) (f1 : w.frozen? ⟨tb, 1, none⟩ = false) :
    Calls Tryz.prog 97 #[misV c s, .iface 146 (.pointer (some ⟨tb, 0, none⟩))] w fun ev w' => ev = .returned (.bool true) ∧ w'.cell? ⟨tb, 0, none⟩ = some (.int .i64 c) ∧ Below tb w w' := by
  have hV := @run_callFunc_extern Tryz.prog 129 _ (fun args => ReflectliteValue.unpack (args.getD 0 (.tuple #[]))) Tryz.func129 (by kernel_rfl) (by kernel_rfl) (by kernel_rfl) (by kernel_rfl)
  have hT := @run_callFunc_extern Tryz.prog 130 _ (ReflectliteValue.methodAny (ReflectliteValue.valueError "reflectlite.Value.Type" 0) (fun t _ _ _ => ReflectliteType.toType t)) Tryz.func130 (by kernel_rfl) (by kernel_rfl) (by kernel_rfl) (by kernel_rfl)
  have hN := @run_callFunc_extern Tryz.prog 131 _ (ReflectliteValue.method (ReflectliteValue.valueError "reflectlite.Value.IsNil" 0) ReflectliteValue.isNil) Tryz.func131 (by kernel_rfl) (by kernel_rfl) (by kernel_rfl) (by kernel_rfl)
  have hK := @run_callFunc_extern Tryz.prog 213 _ (ReflectliteType.abiMethod fun t => do pure (.int .u8 (← Rtype.kind t))) Tryz.func213 (by kernel_rfl) (by kernel_rfl) (by kernel_rfl) (by kernel_rfl)
  have hE := @run_callFunc_extern Tryz.prog 226 _ (ReflectliteType.method ReflectliteType.elem) Tryz.func226 (by kernel_rfl) (by kernel_rfl) (by kernel_rfl) (by kernel_rfl)
  have hI := @run_callFunc_extern Tryz.prog 227 _ (ReflectliteType.relation "Implements" ReflectliteType.implements_) Tryz.func227 (by kernel_rfl) (by kernel_rfl) (by kernel_rfl) (by kernel_rfl)
  have hO := @run_callFunc_extern Tryz.prog 154 _ ReflectliteType.typeOf Tryz.func154 (by kernel_rfl) (by kernel_rfl) (by kernel_rfl) (by kernel_rfl)
  have hA := @run_callFunc_extern Tryz.prog 224 _ (ReflectliteType.relation "AssignableTo" ReflectliteType.assignableTo) Tryz.func224 (by kernel_rfl) (by kernel_rfl) (by kernel_rfl) (by kernel_rfl)
  have hL := @run_callFunc_extern Tryz.prog 155 _ (ReflectliteValue.method (ReflectliteValue.valueError "reflectlite.Value.Elem" 0) ReflectliteValue.elem) Tryz.func155 (by kernel_rfl) (by kernel_rfl) (by kernel_rfl) (by kernel_rfl)
  have hS := @run_callFunc_extern Tryz.prog 156 _ ReflectliteValue.set Tryz.func156 (by kernel_rfl) (by kernel_rfl) (by kernel_rfl) (by kernel_rfl)
  have tO := rl_typeOfM
  have mA := rl_mAsgn
  have a1 := rl_asgnM
  have v1 := rl_valueOfM
  have v2 := rl_valueOfP
  have ty := rl_typeP
  have mK := rl_mKind
  have mE := rl_mElem
  have mI := rl_mImpl
  have k1 := rl_kindP
  have k2 := rl_kindM
  have e1 := rl_elemP
  have i1 := rl_implM
  have n1 := rl_isNilP ⟨w.heap.size, 0, none⟩ ⟨tb, 0, none⟩ ((w.alloc (.cells #[.pointer (some ⟨tb, 0, none⟩)] 146)).alloc (.cells #[hdl 146, .pointer (some ⟨w.heap.size, 0, none⟩), .int .u64 150] 180)) (by simp)
  have hlt := hg.lt
  have hg2 : ((w.alloc (.cells #[.pointer (some ⟨tb, 0, none⟩)] 146)).alloc (.cells #[hdl 146, .pointer (some ⟨w.heap.size, 0, none⟩), .int .u64 150] 180)).cell? ⟨1, 0, none⟩ = some (.iface 211 (.agg #[.pointer (some ⟨6, 90, none⟩)])) :=
    ((hg.on (bal (Below.refl _ _) _)).on (bal (Below.refl _ _) _)).cell
  have htl : tb < w.heap.size := cell_lt t0
  have el := rl_elemV ⟨w.heap.size, 0, none⟩ ⟨tb, 0, none⟩ (((w.alloc (.cells #[.pointer (some ⟨tb, 0, none⟩)] 146)).alloc (.cells #[hdl 146, .pointer (some ⟨w.heap.size, 0, none⟩), .int .u64 150] 180)).alloc (.cells #[hdl 146, .pointer (some ⟨w.heap.size, 0, none⟩), .int .u64 150] 180)) (by rw [World.cell?_alloc_lt _ _ ⟨w.heap.size, 0, none⟩ (by simp; omega)]; simp)
  have hb4 : Below w.heap.size w ((((w.alloc (.cells #[.pointer (some ⟨tb, 0, none⟩)] 146)).alloc (.cells #[hdl 146, .pointer (some ⟨w.heap.size, 0, none⟩), .int .u64 150] 180)).alloc (.cells #[hdl 146, .pointer (some ⟨w.heap.size, 0, none⟩), .int .u64 150] 180)).alloc (.cells #[.int .i64 c, .string s] 144)) := bal (bal (bal (bal (Below.refl _ _) _) _) _) _
  have q0 := cell_keep hb4 t0
  have q1 := cell_keep hb4 t1
  have p0 := (hb4.frozen (p := ⟨tb, 0, none⟩) htl).trans f0
  have p1 := (hb4.frozen (p := ⟨tb, 1, none⟩) htl).trans f1
  have st := rl_setM tb (w.heap.size + 1 + 1 + 1) c s o0 o1 ((((w.alloc (.cells #[.pointer (some ⟨tb, 0, none⟩)] 146)).alloc (.cells #[hdl 146, .pointer (some ⟨w.heap.size, 0, none⟩), .int .u64 150] 180)).alloc (.cells #[hdl 146, .pointer (some ⟨w.heap.size, 0, none⟩), .int .u64 150] 180)).alloc (.cells #[.int .i64 c, .string s] 144))
    (by rw [World.cell?_alloc_at _ _ _ _ (by simp)]; rfl) (by rw [World.cell?_alloc_at _ _ _ _ (by simp)]; rfl) q0 q1 p0 p1
  have F := Lib.hid (And.intro q0 (And.intro q1 (hb4.mono (Nat.le_of_lt htl))))
  clear hb4 q0 q1 p0 p1 t0 t1 f0 f1 hg
  go_enter Tryz.func97, Tryz.ntmps97
  go_wp2
  refine wp_loop_rounds 1 ?_
  rw [rounds_succ]
  go_wp2
  go_ret
  refine ⟨rfl, ?_, ?_⟩
  · rw [World.cell?_setCell_other _ _ _ _ (fun e => by injection e with _ e2; omega), World.cell?_setCell_same _ _ _ (by rw [F.out.1])]
  · exact (F.out.2.2.setCell (Nat.le_refl _) _).setCell (Nat.le_refl _) _

theorem codeOf_nil (w : World) :
    Calls Tryz.prog 51 #[.nilIface] w fun r w' => r = .returned (.int .i64 0) ∧ Below w.heap.size w w' := by
  go_enter Tryz.func51, Tryz.ntmps51
  go_wp2_with fail
  refine (as_nil _ _).mono ?_
  rintro r w' ⟨rfl, rfl⟩
  go_wp2_with fail
  go_ret
  exact ⟨rfl, bal (Below.refl _ _) _⟩

theorem codeOf_mis (c : Int) (s : ByteArray) (w : World) (hg : ErrT w) :
    Calls Tryz.prog 51 #[misV c s] w fun r w' => r = .returned (.int .i64 c) ∧ Below w.heap.size w w' := by
  have hg1 := fun o => hg.on (bal (Below.refl _ w) o)
  clear hg
  go_enter Tryz.func51, Tryz.ntmps51
  go_wp2_with fail
  refine (as_hit c s w.heap.size (.int .i64 0) (.string { data := #[] }) _ (hg1 _) (by go_simp) (by go_simp) (by go_simp) (by go_simp)).mono ?_
  rintro r w1 ⟨rfl, q0, hb⟩
  have hb2 := Below.trans (bal (Below.refl _ w) _) hb
  clear hb hg1
  go_wp2_with fail
  go_ret
  exact ⟨rfl, hb2⟩
end Go.Proofs.YtmdknbgpddnplaaGreatDoor
