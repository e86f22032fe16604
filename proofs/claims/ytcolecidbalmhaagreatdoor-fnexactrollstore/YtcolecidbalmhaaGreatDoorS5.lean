/- Texts of this seat that several laws rest on, laid into one. Conditions: as each theorem states. -/
import Derived.Test.YtcolecidbalmhaaGreatDoorS1
import Derived.Test.YtcolecidbalmhaaGreatDoorS2
import Derived.Test.YtcolecidbalmhaaGreatDoorS3
import Derived.Test.YtcolecidbalmhaaGreatDoorS4
import Derived.Maps.OwnSet
import Derived.Maps.RangeWalk
import Derived.Maps.OwnIn
import Derived.Sort.MapsRangeIn
import Derived.Sort.KeysCollected
import Derived.RangeFuncMany
import Derived.RangeFuncWrites
import Derived.RangeFuncNested
import Derived.TacticsInMore
import Derived.OwnWalkIn
import Derived.RegionIn
import Derived.LoopNIn
import Derived.LoopIn
import Derived.Shelf.Abstract
import Derived.Test.YtcolecidbalmhaaGreatDoorProg
import Derived.Shelf.Small.Strs
import Derived.Shelf.Small.Bits
import Derived.Shelf.SlSortCmp.SmallK
namespace Go.Proofs.YtcolecidbalmhaaGreatDoor
open Go.RowKit
set_option maxRecDepth 100000
set_option linter.unusedVariables false

theorem implNormalFault_any (s : ByteArray) (w : World) (hs : s.size ≤ maxLen) :
    Calls Tryz.prog 169 #[.string s] w fun e w' => e = .returned (.int .i64 (M.normF s.data.toList)) ∧ Below w.heap.size w w' := by
  have hL : s.data.toList.length = s.size := by simp
  have F := fun w => implNameFault_any s w hs
  by_cases h0 : M.nameF s.data.toList = 0
  · obtain ⟨h20, hm⟩ := M.nameF_zero h0
    rw [hL] at h20
    have N := fun w : World => normalText_any s w h20 hm
    have Q := text_beq (M.bs (M.nrm s.data.toList)) s
    rw [M.bs_list] at Q
    by_cases hn : M.nrm s.data.toList = s.data.toList
    · rw [M.normF_yes h0 hn]
      rw [decide_eq_true hn] at Q
      simp only [h0] at F
      generalize M.bs (M.nrm s.data.toList) = R at *
      clear h0 hm hn hL
      go_enter Tryz.func169, Tryz.ntmps169
      go_wp2_with fail
      refine (F _).mono ?_
      rintro r w' ⟨rfl, rfl⟩
      go_wp2_with fail
      refine (N _).mono ?_
      rintro r u1 ⟨rfl, b1⟩
      go_wp2_with fail
      go_ret
      exact ⟨rfl, b1⟩
    · rw [M.normF_form h0 hn]
      rw [decide_eq_false hn] at Q
      simp only [h0] at F
      generalize M.bs (M.nrm s.data.toList) = R at *
      clear h0 hm hn hL
      go_enter Tryz.func169, Tryz.ntmps169
      go_wp2_with fail
      refine (F _).mono ?_
      rintro r w' ⟨rfl, rfl⟩
      go_wp2_with fail
      refine (N _).mono ?_
      rintro r u1 ⟨rfl, b1⟩
      go_wp2_with fail
      go_ret
      exact ⟨rfl, b1⟩
  · rw [M.normF_no h0]
    generalize M.nameF s.data.toList = c at *
    go_enter Tryz.func169, Tryz.ntmps169
    go_wp2_with fail
    refine (F _).mono ?_
    rintro r w' ⟨rfl, rfl⟩
    go_wp2_with fail
    go_ret
    exact ⟨rfl, Below.refl _ _⟩
abbrev T4 (n : ByteArray) (u m v : Int) : Value := .agg #[.string n, .int .i64 u, .int .i64 m, .int .i64 v]
abbrev T5 (c : Int) (n : ByteArray) (u m v : Int) : Value := .agg #[.int .i64 c, .string n, .int .i64 u, .int .i64 m, .int .i64 v]
abbrev TL4 (n : ByteArray) (u m v : Int) : List Value := [.string n, .int .i64 u, .int .i64 m, .int .i64 v]
abbrev TL5 (c : Int) (n : ByteArray) (u m v : Int) : List Value := [.int .i64 c, .string n, .int .i64 u, .int .i64 m, .int .i64 v]

end Go.Proofs.YtcolecidbalmhaaGreatDoor
namespace Go.Proofs.YtcolecidbalmhaaGreatDoor
open Go.RowKit
set_option maxRecDepth 100000
set_option linter.unusedVariables false

theorem isTime_any (v : Int) (w : World) : Calls Tryz.prog 114 #[.int .i64 v] w fun e w' => e = .returned (.bool (timB v)) ∧ w = w' := by
  by_cases h0 : 0 ≤ v
  · by_cases h1 : v ≤ 9999
    · have e : timB v = true := by simp [timB]; omega
      rw [e]
      go_enter Tryz.func114, Tryz.ntmps114
      go_wp2_with fail
      go_ret
      simp
    · have e : timB v = false := by simp [timB]; omega
      rw [e]
      go_enter Tryz.func114, Tryz.ntmps114
      go_wp2_with fail
      go_ret
      simp
  · have e : timB v = false := by simp [timB]; omega
    rw [e]
    go_enter Tryz.func114, Tryz.ntmps114
    go_wp2_with fail
    go_ret
    simp
theorem isEpoch_any (v : Int) (w : World) : Calls Tryz.prog 181 #[.int .i64 v] w fun e w' => e = .returned (.bool (epB v)) ∧ w = w' := by
  by_cases h0 : 1 ≤ v
  · by_cases h1 : v ≤ 200
    · have e : epB v = true := by simp [epB]; omega
      rw [e]
      go_enter Tryz.func181, Tryz.ntmps181
      go_wp2_with fail
      go_ret
      simp
    · have e : epB v = false := by simp [epB]; omega
      rw [e]
      go_enter Tryz.func181, Tryz.ntmps181
      go_wp2_with fail
      go_ret
      simp
  · have e : epB v = false := by simp [epB]; omega
    rw [e]
    go_enter Tryz.func181, Tryz.ntmps181
    go_wp2_with fail
    go_ret
    simp
theorem isBackup_any (v : Int) (w : World) : Calls Tryz.prog 180 #[.int .i64 v] w fun e w' => e = .returned (.bool (bakB v)) ∧ Below w.heap.size w w' := by
  by_cases h0 : v = 0
  · have e : bakB v = true := by simp [bakB, h0]
    rw [e]
    subst h0
    go_enter Tryz.func180, Tryz.ntmps180
    go_wp2_with fail
    go_ret
    exact ⟨rfl, Below.refl _ _⟩
  · have e : bakB v = pubB v := by simp [bakB, h0]
    rw [e]
    have q0 : (v == 0) = false := by simpa using h0
    generalize hp : pubB v = c
    go_enter Tryz.func180, Tryz.ntmps180
    go_wp2_with fail
    refine (implIsPublic_any _ _).mono ?_
    rintro r u1 ⟨rfl, b1⟩
    rw [hp]
    go_wp2_with fail
    go_ret
    exact ⟨rfl, b1⟩

theorem implPinFault_any (p : PinD) (w : World) (hn : p.n.size ≤ maxLen) :
    Calls Tryz.prog 116 #[P5 p] w fun e w' => e = .returned (.int .i64 p.f) ∧ Below w.heap.size w w' := by
  obtain ⟨n, a, b, c, u⟩ := p
  show Calls Tryz.prog 116 #[.agg #[.string n, .int .i64 a, .int .i64 b, .int .i64 c, .int .i64 u]] w fun e w' => e = .returned (.int .i64 (pinF n.data.toList a b c u)) ∧ Below w.heap.size w w'
  have b0 := bal (Below.refl _ w) (.cells #[.string n, .int .i64 a, .int .i64 b, .int .i64 c, .int .i64 u] 31)
  have A0 := At.new w [.string n, .int .i64 a, .int .i64 b, .int .i64 c, .int .i64 u] 31
  have F := fun w => implNormalFault_any n w hn
  by_cases h0 : M.normF n.data.toList = 0
  · rw [h0] at F
    cases hp : pubB a
    · rw [pinF_no h0 (by simp [pinB, hp])]
      go_enter Tryz.func116, Tryz.ntmps116
      go_wp2_with fail
      generalize w.alloc (.cells #[.string n, .int .i64 a, .int .i64 b, .int .i64 c, .int .i64 u] 31) = W0 at *
      refine (F _).mono ?_
      rintro r u1 ⟨rfl, b1⟩
      have A1 := A0.on b1
      have p0 := A1.cell 0 _ rfl
      have p1 := A1.cell 1 _ rfl
      have p2 := A1.cell 2 _ rfl
      have p3 := A1.cell 3 _ rfl
      have p4 := A1.cell 4 _ rfl
      have B1 := btr b0 b1
      clear A0 b0 b1 F
      go_wp2_with fail
      refine (implIsPublic_any _ _).mono ?_
      rintro r u2 ⟨rfl, b2⟩
      have A2 := A1.on b2
      have q0 := A2.cell 0 _ rfl
      have q1 := A2.cell 1 _ rfl
      have q2 := A2.cell 2 _ rfl
      have q3 := A2.cell 3 _ rfl
      have q4 := A2.cell 4 _ rfl
      have B2 := btr B1 b2
      clear A1 B1 b2 p0 p1 p2 p3 p4
      go_wp2_with fail
      go_ret
      exact ⟨rfl, B2⟩
    cases hk : bakB b
    · rw [pinF_no h0 (by simp [pinB, hk])]
      go_enter Tryz.func116, Tryz.ntmps116
      go_wp2_with fail
      generalize w.alloc (.cells #[.string n, .int .i64 a, .int .i64 b, .int .i64 c, .int .i64 u] 31) = W0 at *
      refine (F _).mono ?_
      rintro r u1 ⟨rfl, b1⟩
      have A1 := A0.on b1
      have p0 := A1.cell 0 _ rfl
      have p1 := A1.cell 1 _ rfl
      have p2 := A1.cell 2 _ rfl
      have p3 := A1.cell 3 _ rfl
      have p4 := A1.cell 4 _ rfl
      have B1 := btr b0 b1
      clear A0 b0 b1 F
      go_wp2_with fail
      refine (implIsPublic_any _ _).mono ?_
      rintro r u2 ⟨rfl, b2⟩
      have A2 := A1.on b2
      have q0 := A2.cell 0 _ rfl
      have q1 := A2.cell 1 _ rfl
      have q2 := A2.cell 2 _ rfl
      have q3 := A2.cell 3 _ rfl
      have q4 := A2.cell 4 _ rfl
      have B2 := btr B1 b2
      clear A1 B1 b2 p0 p1 p2 p3 p4
      go_wp2_with fail
      refine (isBackup_any _ _).mono ?_
      rintro r u3 ⟨rfl, b3⟩
      have A3 := A2.on b3
      have x0 := A3.cell 0 _ rfl
      have x1 := A3.cell 1 _ rfl
      have x2 := A3.cell 2 _ rfl
      have x3 := A3.cell 3 _ rfl
      have x4 := A3.cell 4 _ rfl
      have B3 := btr B2 b3
      clear A2 B2 b3 q0 q1 q2 q3 q4
      go_wp2_with fail
      go_ret
      exact ⟨rfl, B3⟩
    cases he : epB c
    · rw [pinF_no h0 (by simp [pinB, he])]
      go_enter Tryz.func116, Tryz.ntmps116
      go_wp2_with fail
      generalize w.alloc (.cells #[.string n, .int .i64 a, .int .i64 b, .int .i64 c, .int .i64 u] 31) = W0 at *
      refine (F _).mono ?_
      rintro r u1 ⟨rfl, b1⟩
      have A1 := A0.on b1
      have p0 := A1.cell 0 _ rfl
      have p1 := A1.cell 1 _ rfl
      have p2 := A1.cell 2 _ rfl
      have p3 := A1.cell 3 _ rfl
      have p4 := A1.cell 4 _ rfl
      have B1 := btr b0 b1
      clear A0 b0 b1 F
      go_wp2_with fail
      refine (implIsPublic_any _ _).mono ?_
      rintro r u2 ⟨rfl, b2⟩
      have A2 := A1.on b2
      have q0 := A2.cell 0 _ rfl
      have q1 := A2.cell 1 _ rfl
      have q2 := A2.cell 2 _ rfl
      have q3 := A2.cell 3 _ rfl
      have q4 := A2.cell 4 _ rfl
      have B2 := btr B1 b2
      clear A1 B1 b2 p0 p1 p2 p3 p4
      go_wp2_with fail
      refine (isBackup_any _ _).mono ?_
      rintro r u3 ⟨rfl, b3⟩
      have A3 := A2.on b3
      have x0 := A3.cell 0 _ rfl
      have x1 := A3.cell 1 _ rfl
      have x2 := A3.cell 2 _ rfl
      have x3 := A3.cell 3 _ rfl
      have x4 := A3.cell 4 _ rfl
      have B3 := btr B2 b3
      clear A2 B2 b3 q0 q1 q2 q3 q4
      go_wp2_with fail
      refine (isEpoch_any _ _).mono ?_
      rintro r w' ⟨rfl, rfl⟩
      go_wp2_with fail
      go_ret
      exact ⟨rfl, B3⟩
    cases ht : timB u
    · rw [pinF_no h0 (by simp [pinB, ht])]
      go_enter Tryz.func116, Tryz.ntmps116
      go_wp2_with fail
      generalize w.alloc (.cells #[.string n, .int .i64 a, .int .i64 b, .int .i64 c, .int .i64 u] 31) = W0 at *
      refine (F _).mono ?_
      rintro r u1 ⟨rfl, b1⟩
      have A1 := A0.on b1
      have p0 := A1.cell 0 _ rfl
      have p1 := A1.cell 1 _ rfl
      have p2 := A1.cell 2 _ rfl
      have p3 := A1.cell 3 _ rfl
      have p4 := A1.cell 4 _ rfl
      have B1 := btr b0 b1
      clear A0 b0 b1 F
      go_wp2_with fail
      refine (implIsPublic_any _ _).mono ?_
      rintro r u2 ⟨rfl, b2⟩
      have A2 := A1.on b2
      have q0 := A2.cell 0 _ rfl
      have q1 := A2.cell 1 _ rfl
      have q2 := A2.cell 2 _ rfl
      have q3 := A2.cell 3 _ rfl
      have q4 := A2.cell 4 _ rfl
      have B2 := btr B1 b2
      clear A1 B1 b2 p0 p1 p2 p3 p4
      go_wp2_with fail
      refine (isBackup_any _ _).mono ?_
      rintro r u3 ⟨rfl, b3⟩
      have A3 := A2.on b3
      have x0 := A3.cell 0 _ rfl
      have x1 := A3.cell 1 _ rfl
      have x2 := A3.cell 2 _ rfl
      have x3 := A3.cell 3 _ rfl
      have x4 := A3.cell 4 _ rfl
      have B3 := btr B2 b3
      clear A2 B2 b3 q0 q1 q2 q3 q4
      go_wp2_with fail
      refine (isEpoch_any _ _).mono ?_
      rintro r w' ⟨rfl, rfl⟩
      go_wp2_with fail
      refine (isTime_any _ _).mono ?_
      rintro r w' ⟨rfl, rfl⟩
      go_wp2_with fail
      go_ret
      exact ⟨rfl, B3⟩
    by_cases hba : b = a
    · rw [pinF_taken h0 (by simp [pinB, hp, hk, he, ht]) hba]
      have qba : (b == a) = true := by simpa using hba
      clear hba
      go_enter Tryz.func116, Tryz.ntmps116
      go_wp2_with fail
      generalize w.alloc (.cells #[.string n, .int .i64 a, .int .i64 b, .int .i64 c, .int .i64 u] 31) = W0 at *
      refine (F _).mono ?_
      rintro r u1 ⟨rfl, b1⟩
      have A1 := A0.on b1
      have p0 := A1.cell 0 _ rfl
      have p1 := A1.cell 1 _ rfl
      have p2 := A1.cell 2 _ rfl
      have p3 := A1.cell 3 _ rfl
      have p4 := A1.cell 4 _ rfl
      have B1 := btr b0 b1
      clear A0 b0 b1 F
      go_wp2_with fail
      refine (implIsPublic_any _ _).mono ?_
      rintro r u2 ⟨rfl, b2⟩
      have A2 := A1.on b2
      have q0 := A2.cell 0 _ rfl
      have q1 := A2.cell 1 _ rfl
      have q2 := A2.cell 2 _ rfl
      have q3 := A2.cell 3 _ rfl
      have q4 := A2.cell 4 _ rfl
      have B2 := btr B1 b2
      clear A1 B1 b2 p0 p1 p2 p3 p4
      go_wp2_with fail
      refine (isBackup_any _ _).mono ?_
      rintro r u3 ⟨rfl, b3⟩
      have A3 := A2.on b3
      have x0 := A3.cell 0 _ rfl
      have x1 := A3.cell 1 _ rfl
      have x2 := A3.cell 2 _ rfl
      have x3 := A3.cell 3 _ rfl
      have x4 := A3.cell 4 _ rfl
      have B3 := btr B2 b3
      clear A2 B2 b3 q0 q1 q2 q3 q4
      go_wp2_with fail
      refine (isEpoch_any _ _).mono ?_
      rintro r w' ⟨rfl, rfl⟩
      go_wp2_with fail
      refine (isTime_any _ _).mono ?_
      rintro r w' ⟨rfl, rfl⟩
      go_wp2_with fail
      go_ret
      exact ⟨rfl, B3⟩
    · rw [pinF_yes h0 (by simp [pinB, hp, hk, he, ht]) hba]
      have qba : (b == a) = false := by simpa using hba
      go_enter Tryz.func116, Tryz.ntmps116
      go_wp2_with fail
      generalize w.alloc (.cells #[.string n, .int .i64 a, .int .i64 b, .int .i64 c, .int .i64 u] 31) = W0 at *
      refine (F _).mono ?_
      rintro r u1 ⟨rfl, b1⟩
      have A1 := A0.on b1
      have p0 := A1.cell 0 _ rfl
      have p1 := A1.cell 1 _ rfl
      have p2 := A1.cell 2 _ rfl
      have p3 := A1.cell 3 _ rfl
      have p4 := A1.cell 4 _ rfl
      have B1 := btr b0 b1
      clear A0 b0 b1 F
      go_wp2_with fail
      refine (implIsPublic_any _ _).mono ?_
      rintro r u2 ⟨rfl, b2⟩
      have A2 := A1.on b2
      have q0 := A2.cell 0 _ rfl
      have q1 := A2.cell 1 _ rfl
      have q2 := A2.cell 2 _ rfl
      have q3 := A2.cell 3 _ rfl
      have q4 := A2.cell 4 _ rfl
      have B2 := btr B1 b2
      clear A1 B1 b2 p0 p1 p2 p3 p4
      go_wp2_with fail
      refine (isBackup_any _ _).mono ?_
      rintro r u3 ⟨rfl, b3⟩
      have A3 := A2.on b3
      have x0 := A3.cell 0 _ rfl
      have x1 := A3.cell 1 _ rfl
      have x2 := A3.cell 2 _ rfl
      have x3 := A3.cell 3 _ rfl
      have x4 := A3.cell 4 _ rfl
      have B3 := btr B2 b3
      clear A2 B2 b3 q0 q1 q2 q3 q4
      go_wp2_with fail
      refine (isEpoch_any _ _).mono ?_
      rintro r w' ⟨rfl, rfl⟩
      go_wp2_with fail
      refine (isTime_any _ _).mono ?_
      rintro r w' ⟨rfl, rfl⟩
      go_wp2_with fail
      go_ret
      exact ⟨rfl, B3⟩
  · rw [pinF_norm h0]
    generalize M.normF n.data.toList = c0 at *
    go_enter Tryz.func116, Tryz.ntmps116
    go_wp2_with fail
    generalize w.alloc (.cells #[.string n, .int .i64 a, .int .i64 b, .int .i64 c, .int .i64 u] 31) = W0 at *
    refine (F _).mono ?_
    rintro r u1 ⟨rfl, b1⟩
    have A1 := A0.on b1
    have p0 := A1.cell 0 _ rfl
    have p1 := A1.cell 1 _ rfl
    have p2 := A1.cell 2 _ rfl
    have p3 := A1.cell 3 _ rfl
    have p4 := A1.cell 4 _ rfl
    have B1 := btr b0 b1
    clear A0 b0 b1 F
    go_wp2_with fail
    go_ret
    exact ⟨rfl, B1⟩

theorem l7Time_any (v : Int) (w : World) : Calls Tryz.prog 157 #[.int .i64 v] w fun e w' => e = .returned (.bool (timB v)) ∧ w = w' := by
  have T : ∀ w, Calls Tryz.prog 108 #[.int .i64 v, .int .i64 0, .int .i64 9999] w fun e w' => e = .returned (.bool (timB v)) ∧ w = w' := fun w => l1In_any v 0 9999 w
  generalize timB v = c at *
  go_enter Tryz.func157, Tryz.ntmps157
  go_wp2_with fail
  refine (T _).mono ?_
  rintro r w' ⟨rfl, rfl⟩
  go_wp2_with fail
  go_ret
  simp
theorem l1In_ep (v : Int) (w : World) : Calls Tryz.prog 108 #[.int .i64 v, .int .i64 1, .int .i64 200] w fun e w' => e = .returned (.bool (epB v)) ∧ w = w' := l1In_any v 1 200 w

set_option maxHeartbeats 4000000 in
theorem l7Fault_at (g o : Nat) (p : PinD) (w : World) (hn : p.n.size ≤ maxLen)
    (d0 : w.cell? ⟨g, o, none⟩ = some (.string p.n)) (d1 : w.cell? ⟨g, o + 1, none⟩ = some (.int .i64 p.a)) (d2 : w.cell? ⟨g, o + 2, none⟩ = some (.int .i64 p.b)) (d3 : w.cell? ⟨g, o + 3, none⟩ = some (.int .i64 p.e)) (d4 : w.cell? ⟨g, o + 4, none⟩ = some (.int .i64 p.u)) :
    Calls Tryz.prog 88 #[.pointer (some ⟨g, o, none⟩)] w fun e w' => e = .returned (.int .i64 p.f) ∧ Below w.heap.size w w' := by
  obtain ⟨n, a, b, c, u⟩ := p
  show Calls Tryz.prog 88 #[.pointer (some ⟨g, o, none⟩)] w fun e w' => e = .returned (.int .i64 (pinF n.data.toList a b c u)) ∧ Below w.heap.size w w'
  dsimp only at hn d0 d1 d2 d3 d4
  have hL : n.data.toList.length = n.size := by simp
  have F := fun w => l5Fault_any n w hn
  by_cases h0 : M.nameF n.data.toList = 0
  · obtain ⟨h20, hm⟩ := M.nameF_zero h0
    rw [hL] at h20
    have N := fun w : World => l5Normal_any n w h20
    have Q := text_beq (M.bs (M.nrm n.data.toList)) n
    rw [M.bs_list] at Q
    rw [h0] at F
    by_cases hq : M.nrm n.data.toList = n.data.toList
    · have h1 := M.normF_yes h0 hq
      rw [decide_eq_true hq] at Q
      generalize M.bs (M.nrm n.data.toList) = R at *
      clear h0 hm hq hL
      cases hp : pubB a
      · rw [pinF_no h1 (by simp [pinB, hp])]
        go_enter Tryz.func88, Tryz.ntmps88
        go_wp2_with fail
        refine (F _).mono ?_
        rintro r u1 ⟨rfl, b1⟩
        have p0 := cell_keep b1 d0
        go_wp2_with fail
        refine wp_region_line (Bel u1) [(0, true), (1, true), (2, true), (3, true), (5, true), (6, true), (7, true), (8, true), (4, false), (9, true)] (by kernel_rfl) (by kernel_rfl) (fun _ _ d _ _ h => by cases d <;> exact h) (Bel.drew u1) ?_
        have hst := Bel.drew u1
        have inst : Nonempty (Of (Bel u1)) := ⟨⟨_, hst⟩⟩
        have q0 := bel_cell p0
        iterate 8 (refine line_read rfl (by kernel_rfl) (fun K hK => ?_); go_big_quiet_op; refine hK _ ?_; clear hK K)
        refine line_alone rfl (by kernel_rfl) (fun K hK => ?_)
        refine call_wp (args := #[.string n]) rfl (by kernel_rfl) (by kernel_rfl) (N _) (fun wn hbn => ?_)
        have hst2 := hst.on hbn
        refine hK _ _ hst2 ?_
        clear hK K hst hbn
        have hst := hst2
        clear hst2
        simp only [Act.put, List.setIfInBounds_toArray, List.set_cons_zero, List.set_cons_succ]
        iterate 1 (refine line_read rfl (by kernel_rfl) (fun K hK => ?_); go_big_quiet_op; refine hK _ ?_; clear hK K)
        refine line_nil ?_
        have bb := btr b1 hst.out
        have y1 := cell_keep bb d1
        have y2 := cell_keep bb d2
        have y3 := cell_keep bb d3
        have y4 := cell_keep bb d4
        clear hst inst q0 p0 b1 F N d0 d1 d2 d3 d4
        go_wp2_with fail
        refine (l1Public_any _ _).mono ?_
        rintro r w' ⟨rfl, rfl⟩
        go_wp2_with fail
        go_ret
        exact ⟨rfl, bb⟩
      by_cases hb0 : b = 0
      · have hk : bakB b = true := by simp [bakB, hb0]
        subst hb0
        cases he : epB c
        · rw [pinF_no h1 (by simp [pinB, he])]
          go_enter Tryz.func88, Tryz.ntmps88
          go_wp2_with fail
          refine (F _).mono ?_
          rintro r u1 ⟨rfl, b1⟩
          have p0 := cell_keep b1 d0
          go_wp2_with fail
          refine wp_region_line (Bel u1) [(0, true), (1, true), (2, true), (3, true), (5, true), (6, true), (7, true), (8, true), (4, false), (9, true)] (by kernel_rfl) (by kernel_rfl) (fun _ _ d _ _ h => by cases d <;> exact h) (Bel.drew u1) ?_
          have hst := Bel.drew u1
          have inst : Nonempty (Of (Bel u1)) := ⟨⟨_, hst⟩⟩
          have q0 := bel_cell p0
          iterate 8 (refine line_read rfl (by kernel_rfl) (fun K hK => ?_); go_big_quiet_op; refine hK _ ?_; clear hK K)
          refine line_alone rfl (by kernel_rfl) (fun K hK => ?_)
          refine call_wp (args := #[.string n]) rfl (by kernel_rfl) (by kernel_rfl) (N _) (fun wn hbn => ?_)
          have hst2 := hst.on hbn
          refine hK _ _ hst2 ?_
          clear hK K hst hbn
          have hst := hst2
          clear hst2
          simp only [Act.put, List.setIfInBounds_toArray, List.set_cons_zero, List.set_cons_succ]
          iterate 1 (refine line_read rfl (by kernel_rfl) (fun K hK => ?_); go_big_quiet_op; refine hK _ ?_; clear hK K)
          refine line_nil ?_
          have bb := btr b1 hst.out
          have y1 := cell_keep bb d1
          have y2 := cell_keep bb d2
          have y3 := cell_keep bb d3
          have y4 := cell_keep bb d4
          clear hst inst q0 p0 b1 F N d0 d1 d2 d3 d4
          go_wp2_with fail
          refine (l1Public_any _ _).mono ?_
          rintro r w' ⟨rfl, rfl⟩
          go_wp2_with fail
          refine (l1In_ep _ _).mono ?_
          rintro r w' ⟨rfl, rfl⟩
          go_wp2_with fail
          go_ret
          exact ⟨rfl, bb⟩
        cases ht : timB u
        · rw [pinF_no h1 (by simp [pinB, ht])]
          go_enter Tryz.func88, Tryz.ntmps88
          go_wp2_with fail
          refine (F _).mono ?_
          rintro r u1 ⟨rfl, b1⟩
          have p0 := cell_keep b1 d0
          go_wp2_with fail
          refine wp_region_line (Bel u1) [(0, true), (1, true), (2, true), (3, true), (5, true), (6, true), (7, true), (8, true), (4, false), (9, true)] (by kernel_rfl) (by kernel_rfl) (fun _ _ d _ _ h => by cases d <;> exact h) (Bel.drew u1) ?_
          have hst := Bel.drew u1
          have inst : Nonempty (Of (Bel u1)) := ⟨⟨_, hst⟩⟩
          have q0 := bel_cell p0
          iterate 8 (refine line_read rfl (by kernel_rfl) (fun K hK => ?_); go_big_quiet_op; refine hK _ ?_; clear hK K)
          refine line_alone rfl (by kernel_rfl) (fun K hK => ?_)
          refine call_wp (args := #[.string n]) rfl (by kernel_rfl) (by kernel_rfl) (N _) (fun wn hbn => ?_)
          have hst2 := hst.on hbn
          refine hK _ _ hst2 ?_
          clear hK K hst hbn
          have hst := hst2
          clear hst2
          simp only [Act.put, List.setIfInBounds_toArray, List.set_cons_zero, List.set_cons_succ]
          iterate 1 (refine line_read rfl (by kernel_rfl) (fun K hK => ?_); go_big_quiet_op; refine hK _ ?_; clear hK K)
          refine line_nil ?_
          have bb := btr b1 hst.out
          have y1 := cell_keep bb d1
          have y2 := cell_keep bb d2
          have y3 := cell_keep bb d3
          have y4 := cell_keep bb d4
          clear hst inst q0 p0 b1 F N d0 d1 d2 d3 d4
          go_wp2_with fail
          refine (l1Public_any _ _).mono ?_
          rintro r w' ⟨rfl, rfl⟩
          go_wp2_with fail
          refine (l1In_ep _ _).mono ?_
          rintro r w' ⟨rfl, rfl⟩
          go_wp2_with fail
          refine (l7Time_any _ _).mono ?_
          rintro r w' ⟨rfl, rfl⟩
          go_wp2_with fail
          go_ret
          exact ⟨rfl, bb⟩
        by_cases hba : (0 : Int) = a
        · rw [pinF_taken h1 (by simp [pinB, hp, hk, he, ht]) hba]
          subst hba
          go_enter Tryz.func88, Tryz.ntmps88
          go_wp2_with fail
          refine (F _).mono ?_
          rintro r u1 ⟨rfl, b1⟩
          have p0 := cell_keep b1 d0
          go_wp2_with fail
          refine wp_region_line (Bel u1) [(0, true), (1, true), (2, true), (3, true), (5, true), (6, true), (7, true), (8, true), (4, false), (9, true)] (by kernel_rfl) (by kernel_rfl) (fun _ _ d _ _ h => by cases d <;> exact h) (Bel.drew u1) ?_
          have hst := Bel.drew u1
          have inst : Nonempty (Of (Bel u1)) := ⟨⟨_, hst⟩⟩
          have q0 := bel_cell p0
          iterate 8 (refine line_read rfl (by kernel_rfl) (fun K hK => ?_); go_big_quiet_op; refine hK _ ?_; clear hK K)
          refine line_alone rfl (by kernel_rfl) (fun K hK => ?_)
          refine call_wp (args := #[.string n]) rfl (by kernel_rfl) (by kernel_rfl) (N _) (fun wn hbn => ?_)
          have hst2 := hst.on hbn
          refine hK _ _ hst2 ?_
          clear hK K hst hbn
          have hst := hst2
          clear hst2
          simp only [Act.put, List.setIfInBounds_toArray, List.set_cons_zero, List.set_cons_succ]
          iterate 1 (refine line_read rfl (by kernel_rfl) (fun K hK => ?_); go_big_quiet_op; refine hK _ ?_; clear hK K)
          refine line_nil ?_
          have bb := btr b1 hst.out
          have y1 := cell_keep bb d1
          have y2 := cell_keep bb d2
          have y3 := cell_keep bb d3
          have y4 := cell_keep bb d4
          clear hst inst q0 p0 b1 F N d0 d1 d2 d3 d4
          go_wp2_with fail
          refine (l1Public_any _ _).mono ?_
          rintro r w' ⟨rfl, rfl⟩
          go_wp2_with fail
          refine (l1In_ep _ _).mono ?_
          rintro r w' ⟨rfl, rfl⟩
          go_wp2_with fail
          refine (l7Time_any _ _).mono ?_
          rintro r w' ⟨rfl, rfl⟩
          go_wp2_with fail
          go_quiet (fail)
          go_wp2_with fail
          go_ret
          exact ⟨rfl, bdrewN bb _⟩
        · rw [pinF_yes h1 (by simp [pinB, hp, hk, he, ht]) hba]
          have qba : ((0 : Int) == a) = false := by simpa using hba
          go_enter Tryz.func88, Tryz.ntmps88
          go_wp2_with fail
          refine (F _).mono ?_
          rintro r u1 ⟨rfl, b1⟩
          have p0 := cell_keep b1 d0
          go_wp2_with fail
          refine wp_region_line (Bel u1) [(0, true), (1, true), (2, true), (3, true), (5, true), (6, true), (7, true), (8, true), (4, false), (9, true)] (by kernel_rfl) (by kernel_rfl) (fun _ _ d _ _ h => by cases d <;> exact h) (Bel.drew u1) ?_
          have hst := Bel.drew u1
          have inst : Nonempty (Of (Bel u1)) := ⟨⟨_, hst⟩⟩
          have q0 := bel_cell p0
          iterate 8 (refine line_read rfl (by kernel_rfl) (fun K hK => ?_); go_big_quiet_op; refine hK _ ?_; clear hK K)
          refine line_alone rfl (by kernel_rfl) (fun K hK => ?_)
          refine call_wp (args := #[.string n]) rfl (by kernel_rfl) (by kernel_rfl) (N _) (fun wn hbn => ?_)
          have hst2 := hst.on hbn
          refine hK _ _ hst2 ?_
          clear hK K hst hbn
          have hst := hst2
          clear hst2
          simp only [Act.put, List.setIfInBounds_toArray, List.set_cons_zero, List.set_cons_succ]
          iterate 1 (refine line_read rfl (by kernel_rfl) (fun K hK => ?_); go_big_quiet_op; refine hK _ ?_; clear hK K)
          refine line_nil ?_
          have bb := btr b1 hst.out
          have y1 := cell_keep bb d1
          have y2 := cell_keep bb d2
          have y3 := cell_keep bb d3
          have y4 := cell_keep bb d4
          clear hst inst q0 p0 b1 F N d0 d1 d2 d3 d4
          go_wp2_with fail
          refine (l1Public_any _ _).mono ?_
          rintro r w' ⟨rfl, rfl⟩
          go_wp2_with fail
          refine (l1In_ep _ _).mono ?_
          rintro r w' ⟨rfl, rfl⟩
          go_wp2_with fail
          refine (l7Time_any _ _).mono ?_
          rintro r w' ⟨rfl, rfl⟩
          go_wp2_with fail
          go_quiet (fail)
          go_wp2_with fail
          go_ret
          exact ⟨rfl, bdrewN bb _⟩
      · have hk : bakB b = pubB b := by simp [bakB, hb0]
        have qb0 : (b == 0) = false := by simpa using hb0
        cases hkp : pubB b
        · rw [pinF_no h1 (by simp [pinB, hk, hkp])]
          clear hk
          go_enter Tryz.func88, Tryz.ntmps88
          go_wp2_with fail
          refine (F _).mono ?_
          rintro r u1 ⟨rfl, b1⟩
          have p0 := cell_keep b1 d0
          go_wp2_with fail
          refine wp_region_line (Bel u1) [(0, true), (1, true), (2, true), (3, true), (5, true), (6, true), (7, true), (8, true), (4, false), (9, true)] (by kernel_rfl) (by kernel_rfl) (fun _ _ d _ _ h => by cases d <;> exact h) (Bel.drew u1) ?_
          have hst := Bel.drew u1
          have inst : Nonempty (Of (Bel u1)) := ⟨⟨_, hst⟩⟩
          have q0 := bel_cell p0
          iterate 8 (refine line_read rfl (by kernel_rfl) (fun K hK => ?_); go_big_quiet_op; refine hK _ ?_; clear hK K)
          refine line_alone rfl (by kernel_rfl) (fun K hK => ?_)
          refine call_wp (args := #[.string n]) rfl (by kernel_rfl) (by kernel_rfl) (N _) (fun wn hbn => ?_)
          have hst2 := hst.on hbn
          refine hK _ _ hst2 ?_
          clear hK K hst hbn
          have hst := hst2
          clear hst2
          simp only [Act.put, List.setIfInBounds_toArray, List.set_cons_zero, List.set_cons_succ]
          iterate 1 (refine line_read rfl (by kernel_rfl) (fun K hK => ?_); go_big_quiet_op; refine hK _ ?_; clear hK K)
          refine line_nil ?_
          have bb := btr b1 hst.out
          have y1 := cell_keep bb d1
          have y2 := cell_keep bb d2
          have y3 := cell_keep bb d3
          have y4 := cell_keep bb d4
          clear hst inst q0 p0 b1 F N d0 d1 d2 d3 d4
          go_wp2_with fail
          refine (l1Public_any _ _).mono ?_
          rintro r w' ⟨rfl, rfl⟩
          go_wp2_with fail
          refine (l1Public_any _ _).mono ?_
          rintro r w' ⟨rfl, rfl⟩
          go_wp2_with fail
          go_ret
          exact ⟨rfl, bb⟩
        rw [hkp] at hk
        cases he : epB c
        · rw [pinF_no h1 (by simp [pinB, he])]
          go_enter Tryz.func88, Tryz.ntmps88
          go_wp2_with fail
          refine (F _).mono ?_
          rintro r u1 ⟨rfl, b1⟩
          have p0 := cell_keep b1 d0
          go_wp2_with fail
          refine wp_region_line (Bel u1) [(0, true), (1, true), (2, true), (3, true), (5, true), (6, true), (7, true), (8, true), (4, false), (9, true)] (by kernel_rfl) (by kernel_rfl) (fun _ _ d _ _ h => by cases d <;> exact h) (Bel.drew u1) ?_
          have hst := Bel.drew u1
          have inst : Nonempty (Of (Bel u1)) := ⟨⟨_, hst⟩⟩
          have q0 := bel_cell p0
          iterate 8 (refine line_read rfl (by kernel_rfl) (fun K hK => ?_); go_big_quiet_op; refine hK _ ?_; clear hK K)
          refine line_alone rfl (by kernel_rfl) (fun K hK => ?_)
          refine call_wp (args := #[.string n]) rfl (by kernel_rfl) (by kernel_rfl) (N _) (fun wn hbn => ?_)
          have hst2 := hst.on hbn
          refine hK _ _ hst2 ?_
          clear hK K hst hbn
          have hst := hst2
          clear hst2
          simp only [Act.put, List.setIfInBounds_toArray, List.set_cons_zero, List.set_cons_succ]
          iterate 1 (refine line_read rfl (by kernel_rfl) (fun K hK => ?_); go_big_quiet_op; refine hK _ ?_; clear hK K)
          refine line_nil ?_
          have bb := btr b1 hst.out
          have y1 := cell_keep bb d1
          have y2 := cell_keep bb d2
          have y3 := cell_keep bb d3
          have y4 := cell_keep bb d4
          clear hst inst q0 p0 b1 F N d0 d1 d2 d3 d4
          go_wp2_with fail
          refine (l1Public_any _ _).mono ?_
          rintro r w' ⟨rfl, rfl⟩
          go_wp2_with fail
          refine (l1Public_any _ _).mono ?_
          rintro r w' ⟨rfl, rfl⟩
          go_wp2_with fail
          refine (l1In_ep _ _).mono ?_
          rintro r w' ⟨rfl, rfl⟩
          go_wp2_with fail
          go_ret
          exact ⟨rfl, bb⟩
        cases ht : timB u
        · rw [pinF_no h1 (by simp [pinB, ht])]
          go_enter Tryz.func88, Tryz.ntmps88
          go_wp2_with fail
          refine (F _).mono ?_
          rintro r u1 ⟨rfl, b1⟩
          have p0 := cell_keep b1 d0
          go_wp2_with fail
          refine wp_region_line (Bel u1) [(0, true), (1, true), (2, true), (3, true), (5, true), (6, true), (7, true), (8, true), (4, false), (9, true)] (by kernel_rfl) (by kernel_rfl) (fun _ _ d _ _ h => by cases d <;> exact h) (Bel.drew u1) ?_
          have hst := Bel.drew u1
          have inst : Nonempty (Of (Bel u1)) := ⟨⟨_, hst⟩⟩
          have q0 := bel_cell p0
          iterate 8 (refine line_read rfl (by kernel_rfl) (fun K hK => ?_); go_big_quiet_op; refine hK _ ?_; clear hK K)
          refine line_alone rfl (by kernel_rfl) (fun K hK => ?_)
          refine call_wp (args := #[.string n]) rfl (by kernel_rfl) (by kernel_rfl) (N _) (fun wn hbn => ?_)
          have hst2 := hst.on hbn
          refine hK _ _ hst2 ?_
          clear hK K hst hbn
          have hst := hst2
          clear hst2
          simp only [Act.put, List.setIfInBounds_toArray, List.set_cons_zero, List.set_cons_succ]
          iterate 1 (refine line_read rfl (by kernel_rfl) (fun K hK => ?_); go_big_quiet_op; refine hK _ ?_; clear hK K)
          refine line_nil ?_
          have bb := btr b1 hst.out
          have y1 := cell_keep bb d1
          have y2 := cell_keep bb d2
          have y3 := cell_keep bb d3
          have y4 := cell_keep bb d4
          clear hst inst q0 p0 b1 F N d0 d1 d2 d3 d4
          go_wp2_with fail
          refine (l1Public_any _ _).mono ?_
          rintro r w' ⟨rfl, rfl⟩
          go_wp2_with fail
          refine (l1Public_any _ _).mono ?_
          rintro r w' ⟨rfl, rfl⟩
          go_wp2_with fail
          refine (l1In_ep _ _).mono ?_
          rintro r w' ⟨rfl, rfl⟩
          go_wp2_with fail
          refine (l7Time_any _ _).mono ?_
          rintro r w' ⟨rfl, rfl⟩
          go_wp2_with fail
          go_ret
          exact ⟨rfl, bb⟩
        by_cases hba : b = a
        · rw [pinF_taken h1 (by simp [pinB, hp, hk, he, ht]) hba]
          have qba : (b == a) = true := by simpa using hba
          clear hba
          go_enter Tryz.func88, Tryz.ntmps88
          go_wp2_with fail
          refine (F _).mono ?_
          rintro r u1 ⟨rfl, b1⟩
          have p0 := cell_keep b1 d0
          go_wp2_with fail
          refine wp_region_line (Bel u1) [(0, true), (1, true), (2, true), (3, true), (5, true), (6, true), (7, true), (8, true), (4, false), (9, true)] (by kernel_rfl) (by kernel_rfl) (fun _ _ d _ _ h => by cases d <;> exact h) (Bel.drew u1) ?_
          have hst := Bel.drew u1
          have inst : Nonempty (Of (Bel u1)) := ⟨⟨_, hst⟩⟩
          have q0 := bel_cell p0
          iterate 8 (refine line_read rfl (by kernel_rfl) (fun K hK => ?_); go_big_quiet_op; refine hK _ ?_; clear hK K)
          refine line_alone rfl (by kernel_rfl) (fun K hK => ?_)
          refine call_wp (args := #[.string n]) rfl (by kernel_rfl) (by kernel_rfl) (N _) (fun wn hbn => ?_)
          have hst2 := hst.on hbn
          refine hK _ _ hst2 ?_
          clear hK K hst hbn
          have hst := hst2
          clear hst2
          simp only [Act.put, List.setIfInBounds_toArray, List.set_cons_zero, List.set_cons_succ]
          iterate 1 (refine line_read rfl (by kernel_rfl) (fun K hK => ?_); go_big_quiet_op; refine hK _ ?_; clear hK K)
          refine line_nil ?_
          have bb := btr b1 hst.out
          have y1 := cell_keep bb d1
          have y2 := cell_keep bb d2
          have y3 := cell_keep bb d3
          have y4 := cell_keep bb d4
          clear hst inst q0 p0 b1 F N d0 d1 d2 d3 d4
          go_wp2_with fail
          refine (l1Public_any _ _).mono ?_
          rintro r w' ⟨rfl, rfl⟩
          go_wp2_with fail
          refine (l1Public_any _ _).mono ?_
          rintro r w' ⟨rfl, rfl⟩
          go_wp2_with fail
          refine (l1In_ep _ _).mono ?_
          rintro r w' ⟨rfl, rfl⟩
          go_wp2_with fail
          refine (l7Time_any _ _).mono ?_
          rintro r w' ⟨rfl, rfl⟩
          go_wp2_with fail
          go_quiet (fail)
          go_wp2_with fail
          go_ret
          exact ⟨rfl, bdrewN bb _⟩
        · rw [pinF_yes h1 (by simp [pinB, hp, hk, he, ht]) hba]
          have qba : (b == a) = false := by simpa using hba
          go_enter Tryz.func88, Tryz.ntmps88
          go_wp2_with fail
          refine (F _).mono ?_
          rintro r u1 ⟨rfl, b1⟩
          have p0 := cell_keep b1 d0
          go_wp2_with fail
          refine wp_region_line (Bel u1) [(0, true), (1, true), (2, true), (3, true), (5, true), (6, true), (7, true), (8, true), (4, false), (9, true)] (by kernel_rfl) (by kernel_rfl) (fun _ _ d _ _ h => by cases d <;> exact h) (Bel.drew u1) ?_
          have hst := Bel.drew u1
          have inst : Nonempty (Of (Bel u1)) := ⟨⟨_, hst⟩⟩
          have q0 := bel_cell p0
          iterate 8 (refine line_read rfl (by kernel_rfl) (fun K hK => ?_); go_big_quiet_op; refine hK _ ?_; clear hK K)
          refine line_alone rfl (by kernel_rfl) (fun K hK => ?_)
          refine call_wp (args := #[.string n]) rfl (by kernel_rfl) (by kernel_rfl) (N _) (fun wn hbn => ?_)
          have hst2 := hst.on hbn
          refine hK _ _ hst2 ?_
          clear hK K hst hbn
          have hst := hst2
          clear hst2
          simp only [Act.put, List.setIfInBounds_toArray, List.set_cons_zero, List.set_cons_succ]
          iterate 1 (refine line_read rfl (by kernel_rfl) (fun K hK => ?_); go_big_quiet_op; refine hK _ ?_; clear hK K)
          refine line_nil ?_
          have bb := btr b1 hst.out
          have y1 := cell_keep bb d1
          have y2 := cell_keep bb d2
          have y3 := cell_keep bb d3
          have y4 := cell_keep bb d4
          clear hst inst q0 p0 b1 F N d0 d1 d2 d3 d4
          go_wp2_with fail
          refine (l1Public_any _ _).mono ?_
          rintro r w' ⟨rfl, rfl⟩
          go_wp2_with fail
          refine (l1Public_any _ _).mono ?_
          rintro r w' ⟨rfl, rfl⟩
          go_wp2_with fail
          refine (l1In_ep _ _).mono ?_
          rintro r w' ⟨rfl, rfl⟩
          go_wp2_with fail
          refine (l7Time_any _ _).mono ?_
          rintro r w' ⟨rfl, rfl⟩
          go_wp2_with fail
          go_quiet (fail)
          go_wp2_with fail
          go_ret
          exact ⟨rfl, bdrewN bb _⟩
    · have h1 := M.normF_form h0 hq
      rw [decide_eq_false hq] at Q
      rw [pinF_norm (by rw [h1]; omega), h1]
      generalize M.bs (M.nrm n.data.toList) = R at *
      clear h0 hm hq hL h1
      go_enter Tryz.func88, Tryz.ntmps88
      go_wp2_with fail
      refine (F _).mono ?_
      rintro r u1 ⟨rfl, b1⟩
      have p0 := cell_keep b1 d0
      go_wp2_with fail
      refine wp_region_line (Bel u1) [(0, true), (1, true), (2, true), (3, true), (5, true), (6, true), (7, true), (8, true), (4, false), (9, true)] (by kernel_rfl) (by kernel_rfl) (fun _ _ d _ _ h => by cases d <;> exact h) (Bel.drew u1) ?_
      have hst := Bel.drew u1
      have inst : Nonempty (Of (Bel u1)) := ⟨⟨_, hst⟩⟩
      have q0 := bel_cell p0
      iterate 8 (refine line_read rfl (by kernel_rfl) (fun K hK => ?_); go_big_quiet_op; refine hK _ ?_; clear hK K)
      refine line_alone rfl (by kernel_rfl) (fun K hK => ?_)
      refine call_wp (args := #[.string n]) rfl (by kernel_rfl) (by kernel_rfl) (N _) (fun wn hbn => ?_)
      have hst2 := hst.on hbn
      refine hK _ _ hst2 ?_
      clear hK K hst hbn
      have hst := hst2
      clear hst2
      simp only [Act.put, List.setIfInBounds_toArray, List.set_cons_zero, List.set_cons_succ]
      iterate 1 (refine line_read rfl (by kernel_rfl) (fun K hK => ?_); go_big_quiet_op; refine hK _ ?_; clear hK K)
      refine line_nil ?_
      have bb := btr b1 hst.out
      have y1 := cell_keep bb d1
      have y2 := cell_keep bb d2
      have y3 := cell_keep bb d3
      have y4 := cell_keep bb d4
      clear hst inst q0 p0 b1 F N d0 d1 d2 d3 d4
      go_wp2_with fail
      go_ret
      exact ⟨rfl, bb⟩
  · have h1 := M.normF_no h0
    rw [pinF_norm (by rw [h1]; exact h0), h1]
    clear h1
    generalize M.nameF n.data.toList = c at *
    go_enter Tryz.func88, Tryz.ntmps88
    go_wp2_with fail
    refine (F _).mono ?_
    rintro r u1 ⟨rfl, b1⟩
    go_wp2_with fail
    go_ret
    exact ⟨rfl, b1⟩
theorem l7Fault_any (g : Nat) (p : PinD) (w : World) (A : At g p.vals w) (hn : p.n.size ≤ maxLen) :
    Calls Tryz.prog 88 #[.pointer (some ⟨g, 0, none⟩)] w fun e w' => e = .returned (.int .i64 p.f) ∧ Below w.heap.size w w' :=
  l7Fault_at g 0 p w hn (A.cell 0 _ rfl) (A.cell 1 _ rfl) (A.cell 2 _ rfl) (A.cell 3 _ rfl) (A.cell 4 _ rfl)
end Go.Proofs.YtcolecidbalmhaaGreatDoor
namespace Go.Proofs.YtcolecidbalmhaaGreatDoor
open Go.RowKit
set_option maxRecDepth 100000
set_option linter.unusedVariables false

def FaultRel (w : World) (ps : List PinD) (t : Int) (k : Nat) (wr : World) : Prop := pinsG (prevN ps k) (ps.drop k) = t ∧ Below w.heap.size w wr
theorem pinsG_bad {ps : List PinD} {k : Nat} {t : Int} (hk : k < ps.length) (h : pinsG (prevN ps k) (ps.drop k) = t) (h0 : (ps[k]?.getD pin0).f ≠ 0) : t = (ps[k]?.getD pin0).f := by
  rw [← h, pinsG_step hk, if_neg h0]
theorem pinsG_form {ps : List PinD} {k : Nat} {t : Int} (hk : k < ps.length) (h : pinsG (prevN ps k) (ps.drop k) = t) (h0 : (ps[k]?.getD pin0).f = 0) (h1 : okN (prevN ps k) (ps[k]?.getD pin0).nm = false) : t = 1 := by
  rw [← h, pinsG_step hk, if_pos h0, h1]
  rfl
theorem pinsG_next {ps : List PinD} {k : Nat} {t : Int} (hk : k < ps.length) (h : pinsG (prevN ps k) (ps.drop k) = t) (h0 : (ps[k]?.getD pin0).f = 0) (h1 : okN (prevN ps k) (ps[k]?.getD pin0).nm = true) : pinsG (prevN ps (k + 1)) (ps.drop (k + 1)) = t := by
  rw [← h, pinsG_step hk, if_pos h0, h1, if_pos rfl]

theorem implPinsFault_any (a : Option Addr) (len cap B : Nat) (ps : List PinD) (w : World) (hR : PRow w B a len cap ps) (hB : B ≤ w.heap.size) :
    Calls Tryz.prog 83 #[.slice a len cap] w fun e w' => e = .returned (.int .i64 (pinsF ps)) ∧ Below w.heap.size w w' := by
  have hf := hR.fits
  have hm := hR.most
  unfold maxLen at hm
  have hL := Lib.hid hR.length
  by_cases h4 : 4 < len
  · have e : pinsF ps = 2 := by unfold pinsF; rw [hL.out, if_pos h4]
    rw [e]
    have h4' : (4 : Int) < len := by omega
    go_enter Tryz.func83, Tryz.ntmps83
    go_wp2_with fail
    go_ret
    exact ⟨rfl, Below.refl _ _⟩
  have e : pinsF ps = pinsG none ps := by unfold pinsF; rw [hL.out, if_neg h4]
  rw [e]
  have T0 : FaultRel w ps (pinsG none ps) 0 w := ⟨rfl, Below.refl _ _⟩
  have h4' : ¬ (4 : Int) < len := by omega
  generalize pinsG none ps = t at *
  clear e
  go_enter Tryz.func83, Tryz.ntmps83
  go_wp2_with fail
  go_loopw [11] (fun i wr => ∃ k : Nat, k ≤ len ∧ i = .int .i64 k ∧ FaultRel w ps t k wr) (fun i _ => len - (intOf i).toNat)
  case atStart => exact ⟨0, Nat.zero_le _, rfl, T0⟩
  case round =>
    obtain ⟨k, hk, rfl, ht, hb⟩ := hrel
    clear T0
    by_cases hlt : k < len
    · rcases Nat.eq_zero_or_pos k with hk0 | hk0
      · have hkz : ¬ (0 : Int) < k := by omega
        have hkn : ¬ 0 < k := by omega
        have hkd : decide (0 < k) = false := decide_eq_false hkn
        obtain ⟨b, off, ha, hbB, c0, c1, c2, c3, c4⟩ := (hR.below (hb.mono hB)).at' hlt
        subst ha
        have hkp : k < ps.length := by rw [hL.out]; exact hlt
        have F := fun w => implPinFault_any (ps[k]?.getD pin0) w (hR.name hlt)
        have A0 : At wr.heap.size (ps[k]?.getD pin0).vals (wr.alloc (.cells #[.string (ps[k]?.getD pin0).n, .int .i64 (ps[k]?.getD pin0).a, .int .i64 (ps[k]?.getD pin0).b, .int .i64 (ps[k]?.getD pin0).e, .int .i64 (ps[k]?.getD pin0).u] 31)) := At.new wr (ps[k]?.getD pin0).vals 31
        have b0 := bal hb (.cells #[.string (ps[k]?.getD pin0).n, .int .i64 (ps[k]?.getD pin0).a, .int .i64 (ps[k]?.getD pin0).b, .int .i64 (ps[k]?.getD pin0).e, .int .i64 (ps[k]?.getD pin0).u] 31)
        by_cases h0 : (ps[k]?.getD pin0).f = 0
        · rw [h0] at F
          have hn := pinsG_next hkp ht h0 (by rw [hk0]; rfl)
          have HN := Lib.hid hn
          have HK := Lib.hid hk0
          clear hn ht h0 hk0
          generalize ps[k]?.getD pin0 = p at *
          go_wp2_with fail
          generalize wr.alloc (.cells #[.string p.n, .int .i64 p.a, .int .i64 p.b, .int .i64 p.e, .int .i64 p.u] 31) = W0 at *
          refine (F _).mono ?_
          rintro r u1 ⟨rfl, b1⟩
          have x0 := (A0.on b1).cell 0 _ rfl
          have B1 := btr b0 b1
          clear b1 A0 b0 F c0 c1 c2 c3 c4
          go_wp2_with fail
          refine wp_region_line (Bel u1) [(0, true), (1, true), (2, true), (3, true), (4, true), (5, true), (6, true), (7, true), (8, true), (9, true), (10, true), (11, true), (12, true)] (by kernel_rfl) (by kernel_rfl) (fun _ _ d _ _ h => by cases d <;> exact h) (Bel.drew u1) ?_
          have hst := Bel.drew u1
          have inst : Nonempty (Of (Bel u1)) := ⟨⟨_, hst⟩⟩
          iterate 3 (refine line_read rfl (by kernel_rfl) (fun K hK => ?_); go_big_quiet_op; refine hK _ ?_; clear hK K)
          iterate 9 (refine line_skip rfl (by kernel_rfl) ?_; simp only [Act.put, List.setIfInBounds_toArray, List.set_cons_zero, List.set_cons_succ])
          iterate 1 (refine line_read rfl (by kernel_rfl) (fun K hK => ?_); go_big_quiet_op; refine hK _ ?_; clear hK K)
          refine line_nil ?_
          have B2 := btr B1 hst.out
          go_wp2_with fail
          go_roundw
          case rel => exact ⟨k + 1, by omega, by go_num, HN.out, B2⟩
          case measure => simp [intOf]; omega
        · have ht' := pinsG_bad hkp ht h0
          have HK := Lib.hid hk0
          clear ht hk0
          generalize ps[k]?.getD pin0 = p at *
          subst ht'
          go_wp2_with fail
          generalize wr.alloc (.cells #[.string p.n, .int .i64 p.a, .int .i64 p.b, .int .i64 p.e, .int .i64 p.u] 31) = W0 at *
          refine (F _).mono ?_
          rintro r u1 ⟨rfl, b1⟩
          have x0 := (A0.on b1).cell 0 _ rfl
          have B1 := btr b0 b1
          clear b1 A0 b0 F c0 c1 c2 c3 c4
          go_wp2_with fail
          go_ret
          exact ⟨rfl, B1⟩
      · obtain ⟨j, rfl⟩ : ∃ j, k = j + 1 := ⟨k - 1, by omega⟩
        obtain ⟨b, off, ha, hbB, c0, c1, c2, c3, c4⟩ := (hR.below (hb.mono hB)).at' hlt
        subst ha
        have hkp : j + 1 < ps.length := by rw [hL.out]; exact hlt
        have F := fun w => implPinFault_any (ps[j + 1]?.getD pin0) w (hR.name hlt)
        have A0 : At wr.heap.size (ps[j + 1]?.getD pin0).vals (wr.alloc (.cells #[.string (ps[j + 1]?.getD pin0).n, .int .i64 (ps[j + 1]?.getD pin0).a, .int .i64 (ps[j + 1]?.getD pin0).b, .int .i64 (ps[j + 1]?.getD pin0).e, .int .i64 (ps[j + 1]?.getD pin0).u] 31)) := At.new wr (ps[j + 1]?.getD pin0).vals 31
        have b0 := bal hb (.cells #[.string (ps[j + 1]?.getD pin0).n, .int .i64 (ps[j + 1]?.getD pin0).a, .int .i64 (ps[j + 1]?.getD pin0).b, .int .i64 (ps[j + 1]?.getD pin0).e, .int .i64 (ps[j + 1]?.getD pin0).u] 31)
        by_cases h0 : (ps[j + 1]?.getD pin0).f = 0
        · rw [h0] at F
          have hjl : j < len := by omega
          have QR := Lib.hid (fun u1 (B1 : Below w.heap.size w u1) => (hR.below (B1.mono hB)).at' hjl)
          cases h1 : nlt (ps[j]?.getD pin0).nm (ps[j + 1]?.getD pin0).nm
          · have hn := pinsG_form hkp ht h0 h1
            have Q : Op.bytesLess (ps[j]?.getD pin0).n.toList (ps[j + 1]?.getD pin0).n.toList = false := by rw [ByteArray.toList_eq, ByteArray.toList_eq]; exact h1
            subst hn
            clear ht h0 h1
            generalize ps[j + 1]?.getD pin0 = p at *
            go_wp2_with fail
            generalize wr.alloc (.cells #[.string p.n, .int .i64 p.a, .int .i64 p.b, .int .i64 p.e, .int .i64 p.u] 31) = W0 at *
            refine (F _).mono ?_
            rintro r u1 ⟨rfl, b1⟩
            have x0 := (A0.on b1).cell 0 _ rfl
            have B1 := btr b0 b1
            clear b1 A0 b0 F c0 c1 c2 c3 c4
            obtain ⟨b', off', ha', hbB', z0, -⟩ := QR.out u1 B1
            injection ha' with ha'
            injection ha' with e1 e2
            subst e1
            subst e2
            generalize ps[j]?.getD pin0 = q at *
            go_wp2_with fail
            refine wp_region_line (Bel u1) [(0, true), (1, true), (2, true), (3, true), (4, true), (5, true), (6, true), (7, true), (8, true), (9, true), (10, true), (11, true), (12, true)] (by kernel_rfl) (by kernel_rfl) (fun _ _ d _ _ h => by cases d <;> exact h) (Bel.drew u1) ?_
            have hst := Bel.drew u1
            have inst : Nonempty (Of (Bel u1)) := ⟨⟨_, hst⟩⟩
            have q0 := bel_cell z0
            have q1 := bel_cell x0
            iterate 13 (refine line_read rfl (by kernel_rfl) (fun K hK => ?_); go_big_quiet_op; refine hK _ ?_; clear hK K)
            refine line_nil ?_
            have B2 := btr B1 hst.out
            go_wp2_with fail
            go_ret
            exact ⟨rfl, B2⟩
          · have hn := pinsG_next hkp ht h0 h1
            have Q : Op.bytesLess (ps[j]?.getD pin0).n.toList (ps[j + 1]?.getD pin0).n.toList = true := by rw [ByteArray.toList_eq, ByteArray.toList_eq]; exact h1
            have HN := Lib.hid hn
            clear ht h0 h1 hn
            generalize ps[j + 1]?.getD pin0 = p at *
            go_wp2_with fail
            generalize wr.alloc (.cells #[.string p.n, .int .i64 p.a, .int .i64 p.b, .int .i64 p.e, .int .i64 p.u] 31) = W0 at *
            refine (F _).mono ?_
            rintro r u1 ⟨rfl, b1⟩
            have x0 := (A0.on b1).cell 0 _ rfl
            have B1 := btr b0 b1
            clear b1 A0 b0 F c0 c1 c2 c3 c4
            obtain ⟨b', off', ha', hbB', z0, -⟩ := QR.out u1 B1
            injection ha' with ha'
            injection ha' with e1 e2
            subst e1
            subst e2
            generalize ps[j]?.getD pin0 = q at *
            go_wp2_with fail
            refine wp_region_line (Bel u1) [(0, true), (1, true), (2, true), (3, true), (4, true), (5, true), (6, true), (7, true), (8, true), (9, true), (10, true), (11, true), (12, true)] (by kernel_rfl) (by kernel_rfl) (fun _ _ d _ _ h => by cases d <;> exact h) (Bel.drew u1) ?_
            have hst := Bel.drew u1
            have inst : Nonempty (Of (Bel u1)) := ⟨⟨_, hst⟩⟩
            have q0 := bel_cell z0
            have q1 := bel_cell x0
            iterate 13 (refine line_read rfl (by kernel_rfl) (fun K hK => ?_); go_big_quiet_op; refine hK _ ?_; clear hK K)
            refine line_nil ?_
            have B2 := btr B1 hst.out
            go_wp2_with fail
            go_roundw
            case rel => exact ⟨j + 1 + 1, by omega, by go_num, HN.out, B2⟩
            case measure => simp [intOf]; omega
        · have ht' := pinsG_bad hkp ht h0
          clear ht
          generalize ps[j + 1]?.getD pin0 = p at *
          subst ht'
          go_wp2_with fail
          generalize wr.alloc (.cells #[.string p.n, .int .i64 p.a, .int .i64 p.b, .int .i64 p.e, .int .i64 p.u] 31) = W0 at *
          refine (F _).mono ?_
          rintro r u1 ⟨rfl, b1⟩
          have x0 := (A0.on b1).cell 0 _ rfl
          have B1 := btr b0 b1
          clear b1 A0 b0 F c0 c1 c2 c3 c4
          go_wp2_with fail
          go_ret
          exact ⟨rfl, B1⟩
    · obtain rfl : k = len := by omega
      have e : ps.drop k = [] := List.drop_of_length_le (by rw [hL.out]; omega)
      rw [e] at ht
      have ht' : t = 0 := by rw [← ht]; cases prevN ps k <;> rfl
      subst ht'
      go_wp2_with fail
      go_ret
      exact ⟨rfl, hb⟩
theorem l7Pins_any (a : Option Addr) (len cap B : Nat) (ps : List PinD) (w : World) (hR : PRow w B a len cap ps) (hB : B ≤ w.heap.size) :
    Calls Tryz.prog 148 #[.slice a len cap] w fun e w' => e = .returned (.int .i64 (pinsF ps)) ∧ Below w.heap.size w w' := by
  have hf := hR.fits
  have hm := hR.most
  unfold maxLen at hm
  have hL := Lib.hid hR.length
  by_cases h4 : 4 < len
  · have e : pinsF ps = 2 := by unfold pinsF; rw [hL.out, if_pos h4]
    rw [e]
    have h4' : (4 : Int) < len := by omega
    go_enter Tryz.func148, Tryz.ntmps148
    go_wp2_with fail
    go_ret
    exact ⟨rfl, Below.refl _ _⟩
  have e : pinsF ps = pinsG none ps := by unfold pinsF; rw [hL.out, if_neg h4]
  rw [e]
  have T0 : FaultRel w ps (pinsG none ps) 0 w := ⟨rfl, Below.refl _ _⟩
  have h4' : ¬ (4 : Int) < len := by omega
  generalize pinsG none ps = t at *
  clear e
  go_enter Tryz.func148, Tryz.ntmps148
  go_wp2_with fail
  go_loopw [3] (fun i wr => ∃ k : Nat, k ≤ len ∧ i = .int .i64 k ∧ FaultRel w ps t k wr) (fun i _ => len - (intOf i).toNat)
  case atStart => exact ⟨0, Nat.zero_le _, rfl, T0⟩
  case round =>
    obtain ⟨k, hk, rfl, ht, hb⟩ := hrel
    clear T0
    by_cases hlt : k < len
    · rcases Nat.eq_zero_or_pos k with hk0 | hk0
      · have hkz : ¬ (0 : Int) < k := by omega
        have hkn : ¬ 0 < k := by omega
        have hkd : decide (0 < k) = false := decide_eq_false hkn
        obtain ⟨b, off, ha, hbB, c0, c1, c2, c3, c4⟩ := (hR.below (hb.mono hB)).at' hlt
        subst ha
        have hkp : k < ps.length := by rw [hL.out]; exact hlt
        have F := l7Fault_at b (off + (k) * 5) (ps[k]?.getD pin0) wr (hR.name hlt) c0 c1 c2 c3 c4
        by_cases h0 : (ps[k]?.getD pin0).f = 0
        · rw [h0] at F
          have hn := pinsG_next hkp ht h0 (by rw [hk0]; rfl)
          have HN := Lib.hid hn
          have HK := Lib.hid hk0
          clear hn ht h0 hk0
          generalize ps[k]?.getD pin0 = p at *
          go_wp2_with fail
          refine F.mono ?_
          rintro r u1 ⟨rfl, b1⟩
          have B1 := btr hb b1
          have x0 := cell_keep b1 c0
          clear b1 F c0 c1 c2 c3 c4
          go_wp2_with fail
          refine wp_region_line (Bel u1) [(0, true), (1, true), (2, true), (3, true), (4, true), (5, true), (6, true), (7, true), (8, true), (9, true), (10, true), (11, true), (12, true), (13, true), (14, true), (15, true)] (by kernel_rfl) (by kernel_rfl) (fun _ _ d _ _ h => by cases d <;> exact h) (Bel.drew u1) ?_
          have hst := Bel.drew u1
          have inst : Nonempty (Of (Bel u1)) := ⟨⟨_, hst⟩⟩
          iterate 3 (refine line_read rfl (by kernel_rfl) (fun K hK => ?_); go_big_quiet_op; refine hK _ ?_; clear hK K)
          iterate 12 (refine line_skip rfl (by kernel_rfl) ?_; simp only [Act.put, List.setIfInBounds_toArray, List.set_cons_zero, List.set_cons_succ])
          iterate 1 (refine line_read rfl (by kernel_rfl) (fun K hK => ?_); go_big_quiet_op; refine hK _ ?_; clear hK K)
          refine line_nil ?_
          have B2 := btr B1 hst.out
          go_wp2_with fail
          go_roundw
          case rel => exact ⟨k + 1, by omega, by go_num, HN.out, B2⟩
          case measure => simp [intOf]; omega
        · have ht' := pinsG_bad hkp ht h0
          have HK := Lib.hid hk0
          clear ht hk0
          generalize ps[k]?.getD pin0 = p at *
          subst ht'
          go_wp2_with fail
          refine F.mono ?_
          rintro r u1 ⟨rfl, b1⟩
          have B1 := btr hb b1
          have x0 := cell_keep b1 c0
          clear b1 F c0 c1 c2 c3 c4
          go_wp2_with fail
          go_ret
          exact ⟨rfl, B1⟩
      · obtain ⟨j, rfl⟩ : ∃ j, k = j + 1 := ⟨k - 1, by omega⟩
        obtain ⟨b, off, ha, hbB, c0, c1, c2, c3, c4⟩ := (hR.below (hb.mono hB)).at' hlt
        subst ha
        have hkp : j + 1 < ps.length := by rw [hL.out]; exact hlt
        have F := l7Fault_at b (off + (j + 1) * 5) (ps[j + 1]?.getD pin0) wr (hR.name hlt) c0 c1 c2 c3 c4
        by_cases h0 : (ps[j + 1]?.getD pin0).f = 0
        · rw [h0] at F
          have hjl : j < len := by omega
          have QR := Lib.hid (fun u1 (B1 : Below w.heap.size w u1) => (hR.below (B1.mono hB)).at' hjl)
          have hQ := nle_eq (ps[j + 1]?.getD pin0).n.toList (ps[j]?.getD pin0).n.toList
          rw [show nlt (ps[j]?.getD pin0).n.toList (ps[j + 1]?.getD pin0).n.toList = nlt (ps[j]?.getD pin0).nm (ps[j + 1]?.getD pin0).nm by rw [ByteArray.toList_eq, ByteArray.toList_eq]; rfl] at hQ
          cases h1 : nlt (ps[j]?.getD pin0).nm (ps[j + 1]?.getD pin0).nm
          · have hn := pinsG_form hkp ht h0 h1
            rw [h1] at hQ
            subst hn
            clear ht h0 h1
            generalize ps[j + 1]?.getD pin0 = p at *
            go_wp2_with fail
            refine F.mono ?_
            rintro r u1 ⟨rfl, b1⟩
            have B1 := btr hb b1
            have x0 := cell_keep b1 c0
            clear b1 F c0 c1 c2 c3 c4
            obtain ⟨b', off', ha', hbB', z0, -⟩ := QR.out u1 B1
            injection ha' with ha'
            injection ha' with e1 e2
            subst e1
            subst e2
            generalize ps[j]?.getD pin0 = q at *
            go_wp2_with fail
            refine wp_region_line (Bel u1) [(0, true), (1, true), (2, true), (3, true), (4, true), (5, true), (6, true), (7, true), (8, true), (9, true), (10, true), (11, true), (12, true), (13, true), (14, true), (15, true)] (by kernel_rfl) (by kernel_rfl) (fun _ _ d _ _ h => by cases d <;> exact h) (Bel.drew u1) ?_
            have hst := Bel.drew u1
            have inst : Nonempty (Of (Bel u1)) := ⟨⟨_, hst⟩⟩
            have q0 := bel_cell z0
            have q1 := bel_cell x0
            iterate 16 (refine line_read rfl (by kernel_rfl) (fun K hK => ?_); go_big_quiet_op; refine hK _ ?_; clear hK K)
            refine line_nil ?_
            have B2 := btr B1 hst.out
            go_wp2_with fail
            go_ret
            exact ⟨rfl, B2⟩
          · have hn := pinsG_next hkp ht h0 h1
            rw [h1] at hQ
            have HN := Lib.hid hn
            clear ht h0 h1 hn
            generalize ps[j + 1]?.getD pin0 = p at *
            go_wp2_with fail
            refine F.mono ?_
            rintro r u1 ⟨rfl, b1⟩
            have B1 := btr hb b1
            have x0 := cell_keep b1 c0
            clear b1 F c0 c1 c2 c3 c4
            obtain ⟨b', off', ha', hbB', z0, -⟩ := QR.out u1 B1
            injection ha' with ha'
            injection ha' with e1 e2
            subst e1
            subst e2
            generalize ps[j]?.getD pin0 = q at *
            go_wp2_with fail
            refine wp_region_line (Bel u1) [(0, true), (1, true), (2, true), (3, true), (4, true), (5, true), (6, true), (7, true), (8, true), (9, true), (10, true), (11, true), (12, true), (13, true), (14, true), (15, true)] (by kernel_rfl) (by kernel_rfl) (fun _ _ d _ _ h => by cases d <;> exact h) (Bel.drew u1) ?_
            have hst := Bel.drew u1
            have inst : Nonempty (Of (Bel u1)) := ⟨⟨_, hst⟩⟩
            have q0 := bel_cell z0
            have q1 := bel_cell x0
            iterate 16 (refine line_read rfl (by kernel_rfl) (fun K hK => ?_); go_big_quiet_op; refine hK _ ?_; clear hK K)
            refine line_nil ?_
            have B2 := btr B1 hst.out
            go_wp2_with fail
            go_roundw
            case rel => exact ⟨j + 1 + 1, by omega, by go_num, HN.out, B2⟩
            case measure => simp [intOf]; omega
        · have ht' := pinsG_bad hkp ht h0
          clear ht
          generalize ps[j + 1]?.getD pin0 = p at *
          subst ht'
          go_wp2_with fail
          refine F.mono ?_
          rintro r u1 ⟨rfl, b1⟩
          have B1 := btr hb b1
          have x0 := cell_keep b1 c0
          clear b1 F c0 c1 c2 c3 c4
          go_wp2_with fail
          go_ret
          exact ⟨rfl, B1⟩
    · obtain rfl : k = len := by omega
      have e : ps.drop k = [] := List.drop_of_length_le (by rw [hL.out]; omega)
      rw [e] at ht
      have ht' : t = 0 := by rw [← ht]; cases prevN ps k <;> rfl
      subst ht'
      go_wp2_with fail
      go_ret
      exact ⟨rfl, hb⟩
end Go.Proofs.YtcolecidbalmhaaGreatDoor
namespace Go.Proofs.YtcolecidbalmhaaGreatDoor
open Go.RowKit Go.Maps Go.WideShapes
open Go.ChangeMaps (putKey delKey notKey)
set_option maxRecDepth 100000
set_option linter.unusedVariables false

/-- How a pin in a map reads. -/
def pinR (v : Value) : Option (DataW PinD × List MemPlace) :=
  match v with
  | .agg cs => match cs.toList with
    | [.string n, .int .i64 a, .int .i64 b, .int .i64 e, .int .i64 u] => some (.held ⟨n, a, b, e, u⟩, [])
    | _ => none
  | _ => none
theorem pinR_mk (p : PinD) : pinR (P5 p) = some (.held p, []) := rfl
theorem pinR_inv {v : Value} {y : DataW PinD × List MemPlace} (h : pinR v = some y) : ∃ p, v = P5 p ∧ y = (.held p, []) := by
  unfold pinR at h
  split at h
  · rename_i cs
    split at h
    · rename_i n a b e u hcs
      injection h with h
      refine ⟨⟨n, a, b, e, u⟩, ?_, h.symm⟩
      have : cs = #[.string n, .int .i64 a, .int .i64 b, .int .i64 e, .int .i64 u] := by
        rw [← Array.toList_inj, hcs]
      rw [this]
    · cases h
  · cases h
def ent (p : PinD) : Lit × DataW PinD := (.string p.nm, .held p)
theorem same_str (x y : List UInt8) : (Lit.string x).sameKey (.string y) = decide (x = y) := by
  show (x == y) = decide (x = y)
  by_cases e : x = y <;> simp [e]
abbrev Apart (ps : List PinD) : Prop := ps.Pairwise fun p q => p.nm ≠ q.nm
theorem Rise.apart {ps : List PinD} (h : Rise ps) : Apart ps := h.imp fun h => nlt_ne h
theorem apart_inj : ∀ {ps : List PinD}, Apart ps → ∀ {p q : PinD}, p ∈ ps → q ∈ ps → p.nm = q.nm → p = q
  | [], _, _, _, h, _, _ => by cases h
  | x :: r, hr, p, q, hp, hq, e => by
    obtain ⟨h1, h2⟩ := List.pairwise_cons.1 hr
    rcases List.mem_cons.1 hp with rfl | hp'
    · rcases List.mem_cons.1 hq with rfl | hq'
      · rfl
      · exact absurd e (h1 q hq')
    · rcases List.mem_cons.1 hq with rfl | hq'
      · exact absurd e.symm (h1 p hp')
      · exact apart_inj h2 hp' hq' e
/-- The map holds just those pins, each at its name. -/
def MapIs (D : DataW PinD) (ps : List PinD) : Prop := ∃ es, D = .map es ∧ es.Perm (ps.map ent)
theorem MapIs.nil : MapIs (.map []) [] := ⟨[], rfl, .refl _⟩
theorem MapIs.has {D : DataW PinD} {ps : List PinD} (h : MapIs D ps) (l : List UInt8) : Maps.has D (.string l) = (findP ps l).isSome := by
  obtain ⟨es, rfl, hp⟩ := h
  rw [Maps.has_eq, Bool.eq_iff_iff, List.any_eq_true]
  unfold findP
  rw [List.find?_isSome]
  constructor
  · rintro ⟨x, hx, hs⟩
    obtain ⟨p, hpm, rfl⟩ := List.mem_map.1 (hp.mem_iff.1 hx)
    exact ⟨p, hpm, by simpa [ent, same_str] using hs⟩
  · rintro ⟨p, hpm, hs⟩
    exact ⟨ent p, hp.mem_iff.2 (List.mem_map.2 ⟨p, hpm, rfl⟩), by simpa [ent, same_str] using hs⟩
theorem MapIs.at' {D : DataW PinD} {ps : List PinD} (h : MapIs D ps) (ha : Apart ps) (l : List UInt8) : D.atKey (.string l) (.held pin0) = .held ((findP ps l).getD pin0) := by
  obtain ⟨es, rfl, hp⟩ := h
  unfold DataW.atKey
  cases hf : es.find? (fun p => p.1.sameKey (.string l)) with
  | none =>
    have : findP ps l = none := by
      unfold findP
      rw [List.find?_eq_none]
      intro p hpm
      have := List.find?_eq_none.1 hf (ent p) (hp.mem_iff.2 (List.mem_map.2 ⟨p, hpm, rfl⟩))
      simpa [ent, same_str] using this
    simp only [hf]
    rw [this]
    rfl
  | some x =>
    have hx := List.mem_of_find?_eq_some hf
    have hs := List.find?_some hf
    obtain ⟨p, hpm, rfl⟩ := List.mem_map.1 (hp.mem_iff.1 hx)
    have hl : p.nm = l := by simpa [ent, same_str] using hs
    have : findP ps l = some p := by
      cases hq : findP ps l with
      | none => exact absurd hl (findP_none hq p hpm)
      | some q =>
        obtain ⟨q1, q2⟩ := findP_mem hq
        rw [apart_inj ha q1 hpm (q2.trans hl.symm)]
    simp only [hf]
    rw [this]
    rfl
theorem MapIs.put {D : DataW PinD} {ps : List PinD} (h : MapIs D ps) {p : PinD} (hn : ∀ q ∈ ps, q.nm ≠ p.nm) : MapIs (D.put (.string p.nm) (.held p)) (ps ++ [p]) := by
  obtain ⟨es, rfl, hp⟩ := h
  refine ⟨_, DataW.put_eq _ _ _, ?_⟩
  unfold putKey
  have hf : es.filter (notKey (.string p.nm)) = es := by
    refine List.filter_eq_self.2 fun x hx => ?_
    obtain ⟨q, hq, rfl⟩ := List.mem_map.1 (hp.mem_iff.1 hx)
    have := hn q hq
    simp [notKey, ent, same_str, this]
  have e : delKey (.string p.nm) es = es := hf
  refine (insert_perm _ _).trans ?_
  rw [List.map_append]
  have h1 : ((Lit.string p.nm, DataW.held p) :: es.filter (notKey (.string p.nm))).Perm (ent p :: ps.map ent) := by
    rw [hf]
    exact hp.cons _
  exact h1.trans (List.perm_append_singleton _ _).symm
theorem MapIs.del {D : DataW PinD} {ps : List PinD} (h : MapIs D ps) (l : List UInt8) : MapIs (D.del (.string l)) (ps.filter fun q => !decide (q.nm = l)) := by
  obtain ⟨es, rfl, hp⟩ := h
  refine ⟨_, DataW.del_eq _ _, ?_⟩
  have e : ((ps.map ent).filter (notKey (.string l))) = (ps.filter fun q => !decide (q.nm = l)).map ent := by
    rw [List.filter_map]
    congr 1
    refine List.filter_congr fun q _ => ?_
    simp [notKey, ent, same_str]
  rw [← e]
  exact hp.filter _
theorem MapIs.size {D : DataW PinD} {ps : List PinD} (h : MapIs D ps) : Maps.size D = ps.length := by
  obtain ⟨es, rfl, hp⟩ := h
  rw [Maps.size_eq, hp.length_eq, List.length_map]

/-- Block b is a map of pins: those of ps. -/
structure PMap (w : World) (b : Nat) (ps : List PinD) : Prop where
  own : ∃ D, w.ownsMap Tryz.prog 9 pinR b ps.length D ∧ MapIs D ps
  apart : Apart ps
theorem str_law : Keyed Tryz.prog 9 := string_keyed Tryz.underlying9
theorem key_str {s : ByteArray} (h : s.size ≤ maxLen) : keyOf Tryz.prog 9 (.string s) = some (.string s.data.toList) := WideMaps.keyOf_string_mk Tryz.underlying9 h
section
variable {w w' : World} {b : Nat} {ps : List PinD}
theorem map_fit {n : Nat} {D : DataW PinD} (h : w.ownsMap Tryz.prog 9 pinR b n D) (hm : MapIs D ps) : w.ownsMap Tryz.prog 9 pinR b ps.length D := by
  have hz := hm.size
  obtain ⟨es, c, hb, F, hs, rfl⟩ := h
  refine ⟨es, c, hb, F, ?_, rfl⟩
  rw [← hz]
  simp [Maps.size, length_sorted]
theorem PMap.lt (h : PMap w b ps) : b < w.heap.size := by
  obtain ⟨D, ho, _⟩ := h.own
  exact ho.lt
theorem PMap.keep (h : PMap w b ps) (hk : w'.heap[b]? = w.heap[b]?) : PMap w' b ps := by
  obtain ⟨D, ⟨es, c, hb, r⟩, hm⟩ := h.own
  exact ⟨⟨D, ⟨es, c, hk.trans hb, r⟩, hm⟩, h.apart⟩
theorem PMap.on (h : PMap w b ps) (hb : Below w.heap.size w w') : PMap w' b ps := h.keep (hb.block b h.lt)
theorem PMap.alloc (h : PMap w b ps) (o : Obj) : PMap (w.alloc o) b ps := h.on (bal (Below.refl _ _) o)
theorem PMap.new (w : World) : PMap (w.alloc (.map #[] 0)) w.heap.size [] := ⟨⟨_, World.ownsMap_made w _ _ _, MapIs.nil⟩, .nil⟩
theorem PMap.look (h : PMap w b ps) {s : ByteArray} (hs : s.size ≤ maxLen) :
    (Instr.lookup 134 (.map (some b)) (.string s) true).run Tryz.prog w = .ok (.tuple #[P5 ((findP ps s.data.toList).getD pin0), .bool (findP ps s.data.toList).isSome]) w := by
  obtain ⟨D, ho, hm⟩ := h.own
  obtain ⟨v, z, hrun, hv⟩ := ho.look_ok str_law Tryz.underlying134 (z := P5 pin0) (by kernel_rfl) (pinR_mk pin0) (key_str hs)
  rw [hm.at' h.apart] at hv
  obtain ⟨p, rfl, e⟩ := pinR_inv hv
  injection e with e1 e2
  injection e1 with e1
  rw [hm.has] at hrun
  rw [hrun, e1]
theorem PMap.len (h : PMap w b ps) (ty : TypeId) : (Builtin.len_ #[134] ty #[.map (some b)]).run Tryz.prog w = .ok (.int .i64 ps.length) w := by
  obtain ⟨D, ho, hm⟩ := h.own
  rw [ho.len Tryz.underlying134 ty, hm.size]
theorem PMap.drop (h : PMap w b ps) {s : ByteArray} (hs : s.size ≤ maxLen) (ty : TypeId) :
    ∃ w', (Builtin.delete_ #[134, 9] ty #[.map (some b), .string s]).run Tryz.prog w = .ok (.tuple #[]) w' ∧ PMap w' b (ps.filter fun q => !decide (q.nm = s.data.toList)) ∧ w.mapTurned w' b := by
  obtain ⟨D, ho, hm⟩ := h.own
  obtain ⟨w', hrun, h1, h2⟩ := ho.drop str_law Tryz.underlying134 (key_str hs) ty
  exact ⟨w', hrun, ⟨⟨_, map_fit h1 (hm.del _), hm.del _⟩, h.apart.filter _⟩, h2⟩
theorem PMap.store (h : PMap w b ps) {p : PinD} (hl : ps.length ≤ 1000) (hs : p.n.size ≤ maxLen) (hn : ∀ q ∈ ps, q.nm ≠ p.nm) :
    ∃ w', (Instr.mapUpdate 134 (.map (some b)) (.string p.n) (P5 p)).run Tryz.prog w = .ok () w' ∧ PMap w' b (ps ++ [p]) ∧ w.mapTurned w' b := by
  obtain ⟨D, ho, hm⟩ := h.own
  obtain ⟨w', hrun, h1, h2⟩ := ho.store str_law Tryz.underlying134 (by simp only [maxLen]; omega) (key_str hs) (pinR_mk p)
  refine ⟨w', hrun, ⟨⟨_, map_fit h1 (hm.put hn), hm.put hn⟩, ?_⟩, h2⟩
  exact List.pairwise_append.2 ⟨h.apart, by simp, fun q hq r hr => by simp at hr; subst hr; exact hn q hq⟩
theorem turned_below {W : World} (h : w.mapTurned w' b) (hb : Below W.heap.size W w) (hB : W.heap.size ≤ b) : Below W.heap.size W w' := hb.grown h.grown hb.size (fun k e => by injection e with e; subst e; exact hB)
end
end Go.Proofs.YtcolecidbalmhaaGreatDoor
namespace Go.Proofs.YtcolecidbalmhaaGreatDoor
open Go.RowKit
set_option maxRecDepth 100000
set_option linter.unusedVariables false

/-- The map that holds the first k pins. -/
structure ByName (w : World) (ps : List PinD) (k : Nat) (wr : World) : Prop where
  map : PMap wr w.heap.size (ps.take k)
  bel : Below w.heap.size w wr
theorem take_apart {ps : List PinD} (h : Apart ps) {k : Nat} (hk : k < ps.length) : ∀ q ∈ ps.take k, q.nm ≠ (ps[k]?.getD pin0).nm := by
  intro q hq
  have e : ps = ps.take k ++ (ps[k]?.getD pin0) :: ps.drop (k + 1) := by
    rw [List.getElem?_eq_getElem hk, Option.getD_some, ← List.drop_eq_getElem_cons hk, List.take_append_drop]
  rw [e] at h
  exact (List.pairwise_append.1 h).2.2 q hq _ (by simp)
theorem take_snoc {ps : List PinD} {k : Nat} (hk : k < ps.length) : ps.take k ++ [ps[k]?.getD pin0] = ps.take (k + 1) := by
  rw [List.take_succ_eq_append_getElem hk, List.getElem?_eq_getElem hk]
  rfl
theorem run_makeMap_hint (n : Int) (w : World) : (Instr.makeMap 134 (some (.int .i64 n))).run Tryz.prog w = .ok (.map (some w.heap.size)) (w.alloc (.map #[] 0)) := by
  simp [Instr.makeMap, run_underlying Tryz.underlying134, asInt, asIntOf]
theorem pinsByName_any (a : Option Addr) (len cap B : Nat) (ps : List PinD) (w : World) (hR : PRow w B a len cap ps) (hB : B ≤ w.heap.size) (hl : len ≤ 4) (ha : Apart ps) :
    Calls Tryz.prog 85 #[.slice a len cap] w fun e w' => e = .returned (.map (some w.heap.size)) ∧ PMap w' w.heap.size ps ∧ Below w.heap.size w w' := by
  have hmm := fun w => run_makeMap_hint len w
  have hL := Lib.hid hR.length
  have T0 : ByName w ps 0 (w.alloc (.map #[] 0)) := ⟨PMap.new w, bal (Below.refl _ _) _⟩
  go_enter Tryz.func85, Tryz.ntmps85
  go_wp2_with fail
  generalize w.alloc (.map #[] 0) = w1 at *
  go_loopw [11] (fun i wr => ∃ k : Nat, k ≤ len ∧ i = .int .i64 k ∧ ByName w ps k wr) (fun i _ => len - (intOf i).toNat)
  case atStart => exact ⟨0, Nat.zero_le _, rfl, T0⟩
  case round =>
    obtain ⟨k, hk, rfl, hT⟩ := hrel
    clear T0
    by_cases hlt : k < len
    · obtain ⟨b, off, hab, hbB, c0, c1, c2, c3, c4⟩ := (hR.below (hT.bel.mono hB)).at' hlt
      subst hab
      have hkp : k < ps.length := by rw [hL.out]; exact hlt
      obtain ⟨w2, hrun, M2, hturn⟩ := (hT.map.alloc (.cells #[.string (ps[k]?.getD pin0).n, .int .i64 (ps[k]?.getD pin0).a, .int .i64 (ps[k]?.getD pin0).b, .int .i64 (ps[k]?.getD pin0).e, .int .i64 (ps[k]?.getD pin0).u] 31)).store (p := ps[k]?.getD pin0) (by simp; omega) (hR.name hlt) (take_apart ha hkp)
      have b2 := turned_below hturn (bal hT.bel _) (Nat.le_refl _)
      rw [take_snoc hkp] at M2
      have T2 := Lib.hid (ByName.mk M2 b2)
      clear M2 b2 hturn hT hmm
      generalize ps[k]?.getD pin0 = p at *
      go_wp2_with fail
      go_roundw
      case rel => exact ⟨k + 1, by omega, by go_num, T2.out⟩
      case measure => simp [intOf]; omega
    · obtain rfl : k = len := by omega
      have e : ps.take k = ps := List.take_of_length_le (by rw [hL.out]; omega)
      have HM := Lib.hid (e ▸ hT.map)
      have HB := Lib.hid hT.bel
      clear hT hmm
      go_wp2_with fail
      go_ret
      exact ⟨rfl, HM.out, HB.out⟩

def fndC : Option PinD → Int
  | some _ => 0
  | none => 4
abbrev RP6 (c : Int) (p : PinD) : Value := .agg #[.int .i64 c, .string p.n, .int .i64 p.a, .int .i64 p.b, .int .i64 p.e, .int .i64 p.u]
def RPL6 (c : Int) (p : PinD) : List Value := [.int .i64 c, .string p.n, .int .i64 p.a, .int .i64 p.b, .int .i64 p.e, .int .i64 p.u]
/-- The place of the first pin of a name, from place i on. -/
def atI : List PinD → List UInt8 → Int → Int
  | [], _, _ => -1
  | p :: r, l, i => if p.nm = l then i else atI r l (i + 1)
theorem atI_step {ps : List PinD} {k : Nat} (hk : k < ps.length) (l : List UInt8) (i : Int) : atI (ps.drop k) l i = if (ps[k]?.getD pin0).nm = l then i else atI (ps.drop (k + 1)) l (i + 1) := by
  have e : ps.drop k = (ps[k]?.getD pin0) :: ps.drop (k + 1) := by
    rw [List.drop_eq_getElem_cons hk, List.getElem?_eq_getElem hk]
    rfl
  rw [e]
  rfl
theorem atI_spec : ∀ (ps : List PinD) (l : List UInt8) (i : Int), (findP ps l = none ∧ atI ps l i = -1) ∨ ∃ k : Nat, k < ps.length ∧ atI ps l i = i + k ∧ findP ps l = some (ps[k]?.getD pin0)
  | [], l, i => .inl ⟨rfl, rfl⟩
  | p :: r, l, i => by
    by_cases h : p.nm = l
    · refine .inr ⟨0, by simp, ?_, ?_⟩
      · rw [atI, if_pos h]; simp
      · simp [findP, h]
    · have ef : findP (p :: r) l = findP r l := by simp [findP, h]
      rw [ef, atI, if_neg h]
      rcases atI_spec r l (i + 1) with h1 | ⟨k, hk, h1, h2⟩
      · exact .inl h1
      · exact .inr ⟨k + 1, by simpa using hk, by rw [h1]; push_cast; omega, by simpa using h2⟩
def AtRel (w : World) (ps : List PinD) (l : List UInt8) (t : Int) (k : Nat) (wr : World) : Prop := atI (ps.drop k) l k = t ∧ Below w.heap.size w wr
theorem l7At_any (a : Option Addr) (len cap B : Nat) (ps : List PinD) (s : ByteArray) (w : World) (hR : PRow w B a len cap ps) (hB : B ≤ w.heap.size) :
    Calls Tryz.prog 150 #[.slice a len cap, .string s] w fun e w' => e = .returned (.int .i64 (atI ps s.data.toList 0)) ∧ Below w.heap.size w w' := by
  have hf := hR.fits
  have hm := hR.most
  unfold maxLen at hm
  have hL := Lib.hid hR.length
  have T0 : AtRel w ps s.data.toList (atI ps s.data.toList 0) 0 w := ⟨rfl, Below.refl _ _⟩
  generalize atI ps s.data.toList 0 = t at *
  go_enter Tryz.func150, Tryz.ntmps150
  go_wp2_with fail
  go_loopw [5] (fun i wr => ∃ k : Nat, k ≤ len ∧ i = .int .i64 k ∧ AtRel w ps s.data.toList t k wr) (fun i _ => len - (intOf i).toNat)
  case atStart => exact ⟨0, Nat.zero_le _, rfl, T0⟩
  case round =>
    obtain ⟨k, hk, rfl, ht, hb⟩ := hrel
    clear T0
    by_cases hlt : k < len
    · obtain ⟨b, off, hab, hbB, c0, -⟩ := (hR.below (hb.mono hB)).at' hlt
      subst hab
      rw [atI_step (by rw [hL.out]; exact hlt)] at ht
      have Q : ((ps[k]?.getD pin0).n.toList == s.toList) = decide ((ps[k]?.getD pin0).nm = s.data.toList) := text_beq (ps[k]?.getD pin0).n s
      have HB := Lib.hid hb
      by_cases h1 : (ps[k]?.getD pin0).nm = s.data.toList
      · rw [if_pos h1] at ht
        rw [decide_eq_true h1] at Q
        subst ht
        clear h1 hb
        generalize ps[k]?.getD pin0 = p at *
        go_wp2_with fail
        go_ret
        exact ⟨rfl, HB.out⟩
      · rw [if_neg h1] at ht
        rw [decide_eq_false h1] at Q
        have HT := Lib.hid ht
        clear h1 ht hb
        generalize ps[k]?.getD pin0 = p at *
        go_wp2_with fail
        go_roundw
        case rel => exact ⟨k + 1, by omega, by go_num, HT.out, HB.out⟩
        case measure => simp [intOf]; omega
    · obtain rfl : k = len := by omega
      have e : ps.drop k = [] := List.drop_of_length_le (by rw [hL.out]; omega)
      rw [e] at ht
      have ht' : -1 = t := ht
      subst ht'
      go_wp2_with fail
      go_ret
      exact ⟨rfl, hb⟩

end Go.Proofs.YtcolecidbalmhaaGreatDoor
namespace Go.Proofs.YtcolecidbalmhaaGreatDoor
open Go.RowKit Go.Maps Go.Sort
set_option maxRecDepth 100000
set_option linter.unusedVariables false

/-- The pins that have been told: those that are no longer to come. -/
def CollP (ps : List PinD) (left : Lit → Bool) (xs : List PinD) : Prop := xs.Nodup ∧ ∀ x, x ∈ xs ↔ (x ∈ ps ∧ left (.string x.nm) = false)
theorem CollP.start {D : DataW PinD} {ps : List PinD} (hm : MapIs D ps) (ha : Apart ps) : CollP ps (Maps.has D) [] := by
  refine ⟨List.nodup_nil, fun x => ⟨fun h => absurd h (by simp), fun ⟨h1, h2⟩ => ?_⟩⟩
  rw [hm.has] at h2
  cases hf : findP ps x.nm with
  | none => exact absurd rfl (findP_none hf x h1)
  | some q => rw [hf] at h2; cases h2
theorem CollP.step {ps : List PinD} {left : Lit → Bool} {xs : List PinD} {c : PinD} {l : List UInt8} (h : CollP ps left xs) (ha : Apart ps) (hlk : left (.string l) = true) (hf : findP ps l = some c) : CollP ps (fun z => left z && !z.sameKey (.string l)) (xs ++ [c]) := by
  obtain ⟨hc, hl⟩ := findP_mem hf
  have hnew : c ∉ xs := fun hx => by
    have := ((h.2 c).1 hx).2
    rw [hl, hlk] at this
    cases this
  refine ⟨List.nodup_append.2 ⟨h.1, by simp, fun a ha' b hb => by simp at hb; subst hb; exact fun e => hnew (e ▸ ha')⟩, fun x => ?_⟩
  rw [List.mem_append, h.2 x]
  constructor
  · rintro (⟨h1, h2⟩ | hx)
    · exact ⟨h1, by simp [h2]⟩
    · simp at hx
      subst hx
      exact ⟨hc, by simp [hl, same_str]⟩
  · rintro ⟨h1, h2⟩
    by_cases e : x.nm = l
    · refine .inr ?_
      rw [apart_inj ha h1 hc (e.trans hl.symm)]
      simp
    · refine .inl ⟨h1, ?_⟩
      simpa [same_str, e] using h2
theorem Apart.nodup {ps : List PinD} (h : Apart ps) : ps.Nodup := h.imp fun h e => h (by rw [e])
theorem CollP.done {ps : List PinD} {left : Lit → Bool} {xs : List PinD} (h : CollP ps left xs) (ha : Apart ps) (hl : ∀ k, left k = false) : xs.Perm ps :=
  (List.perm_ext_iff_of_nodup h.1 ha.nodup).2 fun x => by rw [h.2 x, hl]; simp

set_option maxHeartbeats 2000000 in
theorem values_stops (m : Nat) (hm1 : 1 ≤ m) (Bm b : Nat) (ps : List PinD) (w : World) (hBm : Bm < w.heap.size) (cm : w.cell? ⟨Bm, 0, none⟩ = some (.map (some b))) (hM : PMap w b ps) :
    SeqStopsK Fence.wide m Tryz.prog 236 #[.pointer (some ⟨Bm, 0, none⟩)] (fun p : PinD => #[P5 p]) KeepsWalks (fun xs => xs.Perm ps) (fun _ => True) ps.length w := fun l J Jx W hW hJ hJx hY h0 => by
  have ap := hM.apart
  obtain ⟨D, ho, hm⟩ := (hM.on hW).own
  have cm1 := cell_keep hW cm
  have hz := hm.size
  have HJ := Lib.hid hJ
  have HY := Lib.hid hY
  clear hJ hJx hY hM cm
  refine callsIn_of_wp Tryz.func236 rfl trivial ?_ rfl
  simp only [Tryz.ntmps236, List.size_toArray, List.length_cons, List.length_nil, Nat.reduceAdd, Nat.reduceSub, Array.replicate_succ, Array.replicate_zero, List.push_toArray, List.append_toArray, List.nil_append, List.cons_append]
  gi_wp2_with (first
    | (gi_at_range; refine wpListIn_range_own _ rfl _ 134 rfl 9 31 str_law Tryz.underlying134 _ b ps.length _ rfl ho ?_; intro w0 hrg0 hg0 hs0)
    | gi_in)
  gi_loopw [4] (fun _ wr => ∃ (left : Lit → Bool) (cnt : Nat) (xs : List PinD), wr.ranges Tryz.prog 9 pinR b W.heap.size ps.length D left cnt ∧ xs.length + cnt ≤ ps.length ∧ CollP ps left xs ∧ J xs wr) (fun _ wr => wr.rangeLeft b W.heap.size)
  case atStart =>
    exact ⟨_, _, [], hrg0, by simp [hz], CollP.start hm ap, HJ.out [] W w0 none h0 hg0 (fun r e => by cases e)⟩
  case round =>
    obtain ⟨left, cnt, xs, hrg, hcs, hC, hJs⟩ := hrel
    gi_wp2_with (first
      | (gi_at_next; refine wpListIn_next_ranges _ rfl _ rfl 9 str_law pinR encStr (fun p : PinD => P5 p) (fun key kl hk => by obtain ⟨x, hx, _⟩ := Maps.keyOf_str Tryz.underlying9 hk; exact ⟨x, hx⟩) (fun v y hv => by obtain ⟨c, rfl, _⟩ := pinR_inv hv; exact ⟨c, rfl⟩) b W.heap.size ps.length _ _ _ rfl hrg ?_ ?_)
      | gi_in)
    · intro hc0 hl0
      gi_wp2
      go_end0
      exact ⟨⟨_, rfl⟩, .inl ⟨xs, hC.done ap hl0, hJs⟩⟩
    · intro x c kl yd yp w2 cnt2 hkey hlk hv hat hrg2 hlt hg2 hs2 hen
      obtain ⟨x', ex, rfl, _⟩ := Maps.keyOf_str Tryz.underlying9 hkey
      obtain rfl : x = x' := encStr_inj ex
      have hyd : yd = .held c := by
        rw [pinR_mk] at hv
        injection hv with hv
        injection hv with h1 _
        exact h1.symm
      have hf : findP ps x = some c := by
        have h1 := Maps.has_true_of_atKey hat
        have h2 := hat (.held pin0)
        rw [hm.at' ap, hyd] at h2
        rw [hm.has] at h1
        cases h3 : findP ps x with
        | none => rw [h3] at h1; cases h1
        | some q =>
          rw [h3] at h2
          injection h2 with h2
          exact congrArg some h2
      have hJ2 := HJ.out _ wr w2 (some W.heap.size) hJs hg2 (fun r e => by cases e; exact ⟨Nat.le_refl _, hrg.iter_walk⟩)
      have hJ3 := HJ.out _ w2 (w2.alloc (.cells #[.string c.n, .int .i64 c.a, .int .i64 c.b, .int .i64 c.e, .int .i64 c.u] 31)) none hJ2 (World.grownBy_alloc w2 _ none) (fun r e => by cases e)
      obtain ⟨fn, tmps, assign, body, hy, hR⟩ := HY.out xs c _ hJ3 (by omega)
      have hrg3 := hrg2.alloc (.cells #[.string c.n, .int .i64 c.a, .int .i64 c.b, .int .i64 c.e, .int .i64 c.u] 31)
      have hC2 := Lib.hid (hC.step ap hlk hf)
      have HR3 := Lib.hid hrg3
      have HLT := Lib.hid hlt
      have HRG := Lib.hid hrg
      clear hs2 hat hv hkey hJ2 hJ3 hrg2 hrg3 hg2 hC hJs hlt hf hyd
      gi_wp2
      refine hR.mono ?_
      rintro e W3 (⟨rfl, hJ4, hk4⟩ | ⟨rfl, hJx4⟩)
      · have hrg4 := HR3.out.of_walks hk4
        gi_wp2
        go_roundw
        case rel => exact ⟨_, cnt2, xs ++ [c], hrg4, by have := HLT.out; simp; omega, hC2.out, hJ4⟩
        case measure => rw [hrg4.left_eq, HRG.out.left_eq]; exact HLT.out
      · gi_wp2
        refine bodyPost_ret (results_none rfl _ _ _) rfl ?_
        exact ⟨⟨_, rfl⟩, .inr ⟨_, trivial, hJx4⟩⟩
end Go.Proofs.YtcolecidbalmhaaGreatDoor
namespace Go.Proofs.YtcolecidbalmhaaGreatDoor
open Go.RowKit Go.Maps Go.Sort
set_option maxRecDepth 100000
set_option linter.unusedVariables false
attribute [local go_sem] Oper.semAt_some

theorem wpListIn_append_src {F : Fence} {nn : Nat} {P : Program} (w : World) {ops : Array Oper} {rest : List Oper} {o : Oper} {a : Act} {Q : Exit → Act → World → Prop} (hgd : o.guard = none) (s y : Operand) (t tx : TypeId)
    (ho : o.op = .call { callee := .builtin .append, args := #[s, y], argTypes := #[t, tx] })
    (B : Nat) (e : TypeId) (i : TypeInfo) (z : Value) (size bytes : Nat) (ht : P.underlying t = some (.slice e)) (hi : P.info? e = some i) (hz : i.zero = some z)
    (hsize : i.size = size) (hby : i.bytes = bytes) (hzs : z.cells.size = size)
    (v : Value) (n : Nat) (xs : List Value) (hsv : a.eval s = v) (hown : Own w B size v n xs)
    (x : Value) (m : Nat) (news : List Value) (hx : a.eval y = x) (hs : Go.Src P size tx x m news w)
    (h63 : n + m ≤ maxLen) (hbytes : (n + m) * bytes ≤ 140737488355328) (hB : B ≤ w.heap.size)
    (h : ∀ v' w', Own w' B size v' (n + m) (xs ++ news) → w.grownBy w' v.ownBlock → (v'.ownBlock = v.ownBlock ∨ v'.ownBlock = some w.heap.size) → wpListIn F nn P ops Q rest (a.put o.dst v') w') : wpListIn F nn P ops Q (o :: rest) a w := by
  refine wpListIn_plain hgd fun K hK' => ?_
  obtain ⟨v', w', hr, h2, h3, h4⟩ := run_append_src (P := P) w B t tx o.type e i z size bytes ht hi hz hsize hby hzs v n xs hown x m news hs h63 hbytes hB
  unfold Oper.wpIn
  refine ⟨?_, ?_⟩
  · simp [Oper.about, ho, resolve, Target.leads, Sem.run_pure]
  · rw [Oper.semAt_plain F _ _ (by rw [ho]; intro c hc'; cases hc')]
    simp [execOp, ho, resolve, invoke, builtin, hsv, hx, hr, Result.andThen]
    exact hK' _ _ (h v' w' h2 h3 h4)
theorem src_new5 {P : Program} (w : World) (p : PinD) (t tx e' : TypeId) (hk : P.underlying tx = some (.slice e')) :
    Go.Src P 5 tx (.slice (some ⟨w.heap.size, 0, none⟩) 1 1) 1 p.vals (w.alloc (.cells #[.string p.n, .int .i64 p.a, .int .i64 p.b, .int .i64 p.e, .int .i64 p.u] t)) := by
  refine Src.ofSlice _ hk _ _ _ _ rfl (fun j u hu => ?_) (pin_oneCell p)
  have A : At w.heap.size p.vals (w.alloc (.cells #[.string p.n, .int .i64 p.a, .int .i64 p.b, .int .i64 p.e, .int .i64 p.u] t)) := At.new w p.vals t
  rw [Addr.add_lit, Nat.zero_add]
  exact A.cell j u hu
theorem values_any (b : Nat) (w : World) : Calls Tryz.prog 195 #[.map (some b)] w fun e w' =>
    e = .returned (.func (.func 236) #[] #[.pointer (some ⟨w.heap.size, 0, none⟩)]) ∧ w' = w.alloc (.cells #[.map (some b)] 134) := by
  go_enter Tryz.func195, Tryz.ntmps195
  go_wp2_with fail
  go_ret
  exact ⟨rfl, rfl⟩
/-- Between two rounds: the box holds a slice of what has been told. -/
structure ApI (w : World) (bx : Nat) (pre : List PinD) (W : World) : Prop where
  box : ∃ v, At bx [v] W ∧ OwnP W w.heap.size v pre ∧ (pre = [] → v = .slice none 0 0) ∧ v.ownBlock ≠ some bx
  bel : Below w.heap.size w W
  lt : w.heap.size ≤ bx
theorem Own.isCells {w : World} {B size : Nat} {v : Value} {n : Nat} {xs : List Value} (h : Own w B size v n xs) (hn : 0 < n) (hs : 0 < size) : ∀ (j : Nat) (o : Obj), v.ownBlock = some j → w.heap[j]? = some o → o.isCells = true := by
  intro j o hj ho
  rcases h.2 with ⟨rfl, h0⟩ | ⟨g, cap, rfl, _, _, h1, _, _, hroom⟩
  · omega
  · simp [Value.ownBlock] at hj
    subst hj
    have : 0 < cap * size := Nat.mul_pos (by omega) hs
    have hc := (hroom 0 this).1
    unfold World.cell? at hc
    rw [ho] at hc
    cases o <;> simp_all [Obj.isCells]
theorem ApI.from {w : World} {bx B : Nat} (hB : bx < B) : OwnFrom B (ApI w bx) := fun s W W' row hs hgr hr => by
  obtain ⟨v, hA, hO, hn, hv⟩ := hs.box
  have hne : ∀ k, row = some k → k ≠ bx := fun k e h => by have := (hr k e).1; omega
  refine ⟨⟨v, hA.keep (fun hl => hgr.block bx hl (fun e => hne bx e.symm rfl)), ?_, hn, hv⟩, ?_, hs.lt⟩
  · refine Own.keep hO hgr.size (fun k hk => hgr.block k (Own.lt hO k hk).2 (fun e => ?_))
    obtain ⟨hB', o, ho, hc⟩ := hr k e.symm
    cases s with
    | nil => rw [hn rfl] at hk; simp [Value.ownBlock] at hk
    | cons p r =>
      have := Own.isCells hO (by simp) (by omega) k o hk ho
      rw [hc] at this
      cases this
  · exact hs.bel.grown hgr hs.bel.size (fun k e => by have := (hr k e).1; have := hs.lt; omega)

theorem At.isCells {g : Nat} {v : Value} {cs : List Value} {w : World} (h : At g (v :: cs) w) {o : Obj} (ho : w.heap[g]? = some o) : o.isCells = true := by
  have hc := h.cell 0 v rfl
  unfold World.cell? at hc
  rw [ho] at hc
  cases o <;> simp_all [Obj.isCells]
/-- The round's own variable lies in a new block. -/
def BoxA (mk : Nat → Act) (bx : Nat) (x : PinD) (a' : Act) (W : World) : Prop := ∃ g, a' = mk g ∧ At g x.vals W
theorem BoxA.from {mk : Nat → Act} {bx B : Nat} (x : PinD) (a' : Act) : OwnFrom B (fun (_ : Unit) W => BoxA mk bx x a' W) := fun _ W W' row hs hgr hr => by
  obtain ⟨g, rfl, hA⟩ := hs
  refine ⟨g, rfl, hA.keep (fun hl => hgr.block g hl (fun e => ?_))⟩
  obtain ⟨_, o, ho, hc⟩ := hr g e.symm
  have := At.isCells (cs := [.int .i64 x.a, .int .i64 x.b, .int .i64 x.e, .int .i64 x.u]) hA ho
  rw [hc] at this
  cases this
/-- What an append and a store into the box make of it. -/
theorem ApI.step {w W w3 : World} {bx : Nat} {pre : List PinD} {x : PinD} {v v3 : Value} {o : Obj} (h : ApI w bx pre W) (hA : At bx [v] W) (hO : OwnP W w.heap.size v pre) (hn : pre = [] → v = .slice none 0 0) (hv : v.ownBlock ≠ some bx)
    (hown : Own w3 w.heap.size 5 v3 (pre.length + 1) (flat pre ++ x.vals)) (hgrow : (W.alloc o).grownBy w3 v.ownBlock) (hat : v3.ownBlock = v.ownBlock ∨ v3.ownBlock = some (W.alloc o).heap.size) :
    ApI w bx (pre ++ [x]) (w3.setCell ⟨bx, 0, none⟩ v3) ∧ KeepsOthers W (w3.setCell ⟨bx, 0, none⟩ v3) := by
  have hlt := hA.lt (by simp)
  have hv3 : v3.ownBlock ≠ some bx := by
    rcases hat with e | e
    · rw [e]; exact hv
    · rw [e]; intro e2; injection e2 with e2; simp at e2; omega
  have hO2 : OwnP w3 w.heap.size v3 (pre ++ [x]) := by
    unfold OwnP
    rw [flat_append, List.length_append]
    simpa [flat] using hown
  have hb3 : Below w.heap.size w w3 := (bal h.bel o).grown hgrow (bal h.bel o).size (fun k e => (Own.lt hO k e).1)
  have hA3 : At bx [v] w3 := (hA.alloc o).kept hgrow (fun e => hv e.symm)
  refine ⟨⟨⟨v3, ?_, ?_, fun e => by simp at e, hv3⟩, bset hb3 h.lt v3, h.lt⟩, ?_⟩
  · have := hA3.set 0 v3
    simpa using this
  · exact Own.setCell hO2 (fun k hk e => hv3 (by rw [hk]; exact congrArg some e)) v3
  · refine ((KeepsOthers.alloc W o).trans (KeepsOthers.of_grownBy hgrow ?_)).trans (KeepsOthers.setCell _ _ _)
    intro j o' hj ho'
    cases pre with
    | nil => rw [hn rfl] at hj; simp [Value.ownBlock] at hj
    | cons p r => exact Own.isCells (OwnP.alloc hO o) (by simp) (by omega) j o' hj ho'

set_option maxHeartbeats 4000000 in
theorem appendSeq_any (b Bm : Nat) (ps : List PinD) (w : World) (hBm : Bm < w.heap.size) (cm : w.cell? ⟨Bm, 0, none⟩ = some (.map (some b))) (hM : PMap w b ps) (hl : ps.length ≤ 1000) :
    Calls Tryz.prog 259 #[.slice none 0 0, .func (.func 236) #[] #[.pointer (some ⟨Bm, 0, none⟩)]] w fun e w' =>
      ∃ v xs, e = .returned v ∧ xs.Perm ps ∧ OwnP w' w.heap.size v xs ∧ Below w.heap.size w w' := by
  obtain ⟨i0, hi0, hz0, hz1, hz2⟩ := info_parts pin_info
  refine (callsIn_wide (n := 5)).1 ?_
  refine callsIn_of_wp_marks Tryz.func259 rfl trivial ?_ rfl
  simp only [Tryz.ntmps259, List.size_toArray, List.length_cons, List.length_nil, Nat.reduceAdd, Nat.reduceSub, Array.replicate_succ, Array.replicate_zero, List.push_toArray, List.append_toArray, List.nil_append, List.cons_append]
  refine wpIn_wide.2 ?_
  go_wp2_with fail
  have b0 := bal (Below.refl _ w) (.cells #[.slice none 0 0] 24)
  have X0 := At.new w [.slice none 0 0] 24
  have I0 : ApI w w.heap.size [] (w.alloc (.cells #[.slice none 0 0] 24)) := ⟨⟨_, X0, OwnP.nil _ _, fun _ => rfl, by simp [Value.ownBlock]⟩, b0, Nat.le_refl _⟩
  have hB0 : Bm < (w.alloc (.cells #[.slice none 0 0] 24)).heap.size := by simp; omega
  have hsz0 : (w.alloc (.cells #[.slice none 0 0] 24)).heap.size = w.heap.size + 1 := by simp
  have hS := values_stops (5 - 1) (by omega) Bm b ps w hBm cm hM
  clear X0
  generalize w.alloc (.cells #[.slice none 0 0] 24) = w1 at *
  refine (wpIn_wide (n := 5)).1 ?_
  refine wpIn_rangeFunc_ownH rfl (by omega) (gf := 236) (lb := #[.pointer (some ⟨Bm, 0, none⟩)]) rfl trivial (enters_of Tryz.func236 (by kernel_rfl) rfl)
    hS (fun h k => h.trans k) (walksK_b (w := w1)) b0 (fun _ => rfl)
    (ApI w w.heap.size) (fun _ _ _ => False) (ApI.from (by omega)) (fun _ _ _ _ _ hs _ _ => hs) I0
    (fun x a' W => ∃ g, a' = { tmps := #[.slice none 0 0, .func (.func 236) #[] #[.pointer (some ⟨Bm, 0, none⟩)], .pointer (some ⟨w.heap.size, 0, none⟩), undef, .slice none 0 0, .pointer (some ⟨g, 0, none⟩), .func (.func 236) #[] #[.pointer (some ⟨Bm, 0, none⟩)], P5 x, undef, undef, undef, undef, undef], defers := [] } ∧ At g x.vals W)
    (fun x a' => BoxA.from (mk := fun g => { tmps := #[.slice none 0 0, .func (.func 236) #[] #[.pointer (some ⟨Bm, 0, none⟩)], .pointer (some ⟨w.heap.size, 0, none⟩), undef, .slice none 0 0, .pointer (some ⟨g, 0, none⟩), .func (.func 236) #[] #[.pointer (some ⟨Bm, 0, none⟩)], P5 x, undef, undef, undef, undef, undef], defers := [] }) (bx := 0) x a') ?assign ?body ?done ?stop
  case assign =>
    intro l pre x W K hI hK
    gi_wp2
    exact hK _ _ ((KeepsOthers.alloc W _).from _) (KeepsWalks.alloc W _) (OwnFrom.alloc (ApI.from (B := w.heap.size + 1) (by omega)) _ hI) ⟨W.heap.size, rfl, At.new W x.vals 31⟩
  case body =>
    rintro l pre x a' W - - hI ⟨g, rfl, hAg⟩ hlen
    obtain ⟨v, hAx, hO, hn, hv⟩ := hI.box
    obtain ⟨a0, c0, rfl, -⟩ := hO.form
    have hsrc := src_new5 (P := Tryz.prog) W x 31 24 31 Tryz.underlying24
    have x0 := hAx.cell 0 _ rfl
    have hbs := hI.bel.size
    have S3 := Lib.hid (fun (w3 : World) (v3 : Value) => hI.step (w3 := w3) (v3 := v3) (x := x) (o := .cells #[.string x.n, .int .i64 x.a, .int .i64 x.b, .int .i64 x.e, .int .i64 x.u] 31) hAx hO hn hv)
    have A3' := Lib.hid (fun (w3 : World) (hgrow : (W.alloc (.cells #[.string x.n, .int .i64 x.a, .int .i64 x.b, .int .i64 x.e, .int .i64 x.u] 31)).grownBy w3 (Value.slice a0 pre.length c0).ownBlock) => (hAx.alloc (.cells #[.string x.n, .int .i64 x.a, .int .i64 x.b, .int .i64 x.e, .int .i64 x.u] 31)).kept hgrow (fun e => hv e.symm))
    have HO := Lib.hid hO
    have y0 := hAg.cell 0 _ rfl
    have y1 := hAg.cell 1 _ rfl
    have y2 := hAg.cell 2 _ rfl
    have y3 := hAg.cell 3 _ rfl
    have y4 := hAg.cell 4 _ rfl
    clear hO hn hI hAg hAx hS hM cm
    gi_wp2_with (first
      | (gi_at_builtin; refine wpListIn_append_src _ rfl (.tmp 8) (.tmp 10) 24 24 rfl w.heap.size 31 i0 (P5 pin0) 5 48 Tryz.underlying24 hi0 hz0 hz1 hz2 rfl _ _ _ rfl (Own.alloc HO.out _) _ 1 x.vals rfl hsrc (by simp only [maxLen]; omega) (by omega) (by simp; omega) ?_; intro v3 w3 hown hgrow hat
         have st := S3.out w3 v3 hown hgrow hat
         have A3 := A3'.out w3 hgrow
         have z0 := A3.cell 0 _ rfl
         have f0 := A3.free 0 _ rfl
         obtain ⟨a3, c3, rfl, -⟩ := Own.form hown
         go_frame)
      | gi_in)
    exact ⟨st.2.from _, st.2.walks, st.1⟩
  case done =>
    rintro D xs W hD hxs hI hdef
    obtain ⟨v, hAx, hO, hn, hv⟩ := hI.box
    have hb := hI.bel
    obtain ⟨a0, c0, rfl, -⟩ := hO.form
    have x0 := hAx.cell 0 _ rfl
    have HO := Lib.hid hO
    have HB := Lib.hid hb
    have HX := Lib.hid hxs
    have HN := Lib.hid hn
    have hDD : w.heap.size ≤ D := by omega
    have HD := Lib.hid hDD
    clear hO hn hI hAx hS hM cm hb hxs
    gi_wp2
    go_wp2_with fail
    refine ⟨by simp, .inl ⟨_, _, rfl, run_takeDeferred hdef, ?_⟩⟩
    have hgr := grownBy_putObj' W D (.deferred none)
    refine ⟨_, results_tmp rfl _ _ _, ?_⟩
    refine ⟨_, xs, rfl, HX.out, ?_, HB.out.trans (belowK_b (w := w) (Nat.le_refl _) W D _ _ HD.out hdef rfl rfl)⟩
    refine Own.keep HO.out hgr.size (fun q hq => hgr.block q (Own.lt HO.out q hq).2 (fun e => ?_))
    injection e with e
    subst e
    cases xs with
    | nil => rw [HN.out rfl] at hq; simp [Value.ownBlock] at hq
    | cons p r =>
      have := Own.isCells HO.out (by simp) (by omega) q _ hq hdef
      cases this
  case stop =>
    rintro D c' pre W _ _ h _
    exact h.elim

theorem collect_any (b Bm : Nat) (ps : List PinD) (w : World) (hBm : Bm < w.heap.size) (cm : w.cell? ⟨Bm, 0, none⟩ = some (.map (some b))) (hM : PMap w b ps) (hl : ps.length ≤ 1000) :
    Calls Tryz.prog 234 #[.func (.func 236) #[] #[.pointer (some ⟨Bm, 0, none⟩)]] w fun e w' =>
      ∃ v xs, e = .returned v ∧ xs.Perm ps ∧ OwnP w' w.heap.size v xs ∧ Below w.heap.size w w' := by
  have S := appendSeq_any b Bm ps w hBm cm hM hl
  clear hM cm
  go_enter Tryz.func234, Tryz.ntmps234
  go_wp2_with fail
  refine S.mono ?_
  rintro r u1 ⟨v, xs, rfl, hp, hO, b1⟩
  have HO := Lib.hid hO
  obtain ⟨a0, c0, rfl, -⟩ := hO.form
  clear hO
  go_wp2_with fail
  go_ret
  exact ⟨_, xs, rfl, hp, HO.out, b1⟩
end Go.Proofs.YtcolecidbalmhaaGreatDoor
namespace Go.Proofs.YtcolecidbalmhaaGreatDoor
open Go.Shelf
def lays106_ren : Go.Shelf.Ren := ⟨fun | 106 => 197 | 213 => 237 | 265 => 262 | n => n, fun | 9 => 9 | 3 => 3 | n => n, fun | n => n⟩
theorem lays106 : Go.Proofs.Lays.n106 Tryz.prog lays106_ren := {
  mixed := by kernel_rfl
  f106 := Tryz.func197.trans (congrArg some (by kernel_rfl))
  f213 := Tryz.func237.trans (congrArg some (by kernel_rfl))
  f265 := Tryz.func262.trans (congrArg some (by kernel_rfl))
  t3 := Tryz.underlying3
  a3 := Tryz.isAgg3
  z3 := Tryz.sizeOf3
  v3 := Tryz.zeroValue3
  t9 := Tryz.underlying9
  a9 := Tryz.isAgg9
  z9 := Tryz.sizeOf9
  v9 := Tryz.zeroValue9 }
def lays125_ren : Go.Shelf.Ren := ⟨fun | 125 => 261 | 128 => 282 | 129 => 283 | n => n, fun | 46 => 234 | 3 => 3 | 51 => 188 | 53 => 348 | 4 => 4 | 5 => 5 | 9 => 9 | n => n, fun | n => n⟩
theorem lays125 : Go.Proofs.Lays.n125 Tryz.prog lays125_ren := {
  mixed := by kernel_rfl
  f125 := Tryz.func261.trans (congrArg some (by kernel_rfl))
  f128 := Tryz.func282.trans (congrArg some (by kernel_rfl))
  f129 := Tryz.func283.trans (congrArg some (by kernel_rfl))
  t3 := Tryz.underlying3
  a3 := Tryz.isAgg3
  z3 := Tryz.sizeOf3
  v3 := Tryz.zeroValue3
  t4 := Tryz.underlying4
  a4 := Tryz.isAgg4
  z4 := Tryz.sizeOf4
  v4 := Tryz.zeroValue4
  t5 := Tryz.underlying5
  a5 := Tryz.isAgg5
  z5 := Tryz.sizeOf5
  v5 := Tryz.zeroValue5
  t9 := Tryz.underlying9
  a9 := Tryz.isAgg9
  z9 := Tryz.sizeOf9
  v9 := Tryz.zeroValue9
  t46 := Tryz.underlying234
  a46 := Tryz.isAgg234
  z46 := Tryz.sizeOf234
  v46 := Tryz.zeroValue234
  t51 := Tryz.underlying188
  a51 := Tryz.isAgg188
  z51 := Tryz.sizeOf188
  v51 := Tryz.zeroValue188
  t53 := Tryz.underlying348
  a53 := Tryz.isAgg348
  z53 := Tryz.sizeOf348
  v53 := Tryz.zeroValue348 }
def laysSort_ren : Go.Shelf.Ren := ⟨fun | 6 => 235 | 15 => 261 | 14 => 260 | 28 => 282 | 29 => 283 | 20 => 274 | 21 => 275 | 22 => 276 | 23 => 277 | 24 => 278 | 25 => 279 | 26 => 280 | 27 => 281 | 46 => 287 | 47 => 288 | 48 => 289 | 49 => 290 | 50 => 291 | 57 => 292 | n => n, fun | 22 => 24 | 24 => 31 | 25 => 240 | 3 => 3 | 39 => 234 | 0 => 0 | 53 => 188 | 55 => 348 | 4 => 4 | 46 => 340 | 45 => 339 | 50 => 344 | 5 => 5 | 9 => 9 | 66 => 356 | 70 => 360 | 76 => 366 | 77 => 367 | n => n, fun | n => n⟩
theorem laysSort : Go.Proofs.SlLaysF0.n6 Tryz.prog laysSort_ren := {
  mixed := by kernel_rfl
  f6 := ⟨Tryz.f235.name, by decide, Tryz.func235.trans (congrArg some (by kernel_rfl))⟩
  f14 := ⟨Tryz.f260.name, by decide, Tryz.func260.trans (congrArg some (by kernel_rfl))⟩
  f15 := Tryz.func261.trans (congrArg some (by kernel_rfl))
  f20 := ⟨Tryz.f274.name, by decide, Tryz.func274.trans (congrArg some (by kernel_rfl))⟩
  f21 := ⟨Tryz.f275.name, by decide, Tryz.func275.trans (congrArg some (by kernel_rfl))⟩
  f22 := ⟨Tryz.f276.name, by decide, Tryz.func276.trans (congrArg some (by kernel_rfl))⟩
  f23 := ⟨Tryz.f277.name, by decide, Tryz.func277.trans (congrArg some (by kernel_rfl))⟩
  f24 := ⟨Tryz.f278.name, by decide, Tryz.func278.trans (congrArg some (by kernel_rfl))⟩
  f25 := ⟨Tryz.f279.name, by decide, Tryz.func279.trans (congrArg some (by kernel_rfl))⟩
  f26 := ⟨Tryz.f280.name, by decide, Tryz.func280.trans (congrArg some (by kernel_rfl))⟩
  f27 := ⟨Tryz.f281.name, by decide, Tryz.func281.trans (congrArg some (by kernel_rfl))⟩
  f28 := Tryz.func282.trans (congrArg some (by kernel_rfl))
  f29 := Tryz.func283.trans (congrArg some (by kernel_rfl))
  f46 := ⟨Tryz.f287.name, by decide, Tryz.func287.trans (congrArg some (by kernel_rfl))⟩
  f47 := Tryz.func288.trans (congrArg some (by kernel_rfl))
  f48 := Tryz.func289.trans (congrArg some (by kernel_rfl))
  f49 := ⟨Tryz.f290.name, by decide, Tryz.func290.trans (congrArg some (by kernel_rfl))⟩
  f50 := ⟨Tryz.f291.name, by decide, Tryz.func291.trans (congrArg some (by kernel_rfl))⟩
  f57 := ⟨Tryz.f292.name, by decide, Tryz.func292.trans (congrArg some (by kernel_rfl))⟩
  t0 := Tryz.underlying0
  a0 := Tryz.isAgg0
  z0 := Tryz.sizeOf0
  v0 := Tryz.zeroValue0
  t3 := Tryz.underlying3
  a3 := Tryz.isAgg3
  z3 := Tryz.sizeOf3
  v3 := Tryz.zeroValue3
  t4 := Tryz.underlying4
  a4 := Tryz.isAgg4
  z4 := Tryz.sizeOf4
  v4 := Tryz.zeroValue4
  t5 := Tryz.underlying5
  a5 := Tryz.isAgg5
  z5 := Tryz.sizeOf5
  v5 := Tryz.zeroValue5
  t9 := Tryz.underlying9
  a9 := Tryz.isAgg9
  z9 := Tryz.sizeOf9
  v9 := Tryz.zeroValue9
  t22 := Tryz.underlying24
  a22 := Tryz.isAgg24
  z22 := Tryz.sizeOf24
  v22 := Tryz.zeroValue24
  t25 := Tryz.underlying240
  a25 := Tryz.isAgg240
  z25 := Tryz.sizeOf240
  v25 := Tryz.zeroValue240
  t39 := Tryz.underlying234
  a39 := Tryz.isAgg234
  z39 := Tryz.sizeOf234
  v39 := Tryz.zeroValue234
  t45 := Tryz.underlying339
  a45 := Tryz.isAgg339
  z45 := Tryz.sizeOf339
  v45 := Tryz.zeroValue339
  t46 := Tryz.underlying340
  a46 := Tryz.isAgg340
  z46 := Tryz.sizeOf340
  v46 := Tryz.zeroValue340
  t50 := Tryz.underlying344
  a50 := Tryz.isAgg344
  z50 := Tryz.sizeOf344
  v50 := Tryz.zeroValue344
  t53 := Tryz.underlying188
  a53 := Tryz.isAgg188
  z53 := Tryz.sizeOf188
  v53 := Tryz.zeroValue188
  t55 := Tryz.underlying348
  a55 := Tryz.isAgg348
  z55 := Tryz.sizeOf348
  v55 := Tryz.zeroValue348
  t66 := Tryz.underlying356
  a66 := Tryz.isAgg356
  z66 := Tryz.sizeOf356
  v66 := Tryz.zeroValue356
  t70 := Tryz.underlying360
  a70 := Tryz.isAgg360
  z70 := Tryz.sizeOf360
  v70 := Tryz.zeroValue360
  t76 := Tryz.underlying366
  a76 := Tryz.isAgg366
  z76 := Tryz.sizeOf366
  v76 := Tryz.zeroValue366
  t77 := Tryz.underlying367
  a77 := Tryz.isAgg367
  z77 := Tryz.sizeOf367
  v77 := Tryz.zeroValue367 }
end Go.Proofs.YtcolecidbalmhaaGreatDoor
