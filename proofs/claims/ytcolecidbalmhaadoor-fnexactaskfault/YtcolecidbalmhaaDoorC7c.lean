/- Contracts of what is wrong with pins, by the program and by its model. Conditions: as each theorem states. -/
import Derived.Test.YtcolecidbalmhaaDoorC7a
namespace Go.Proofs.YtcolecidbalmhaaDoor
open Go.RowKit
set_option maxRecDepth 100000
set_option linter.unusedVariables false

def FaultRel (w : World) (ps : List PinD) (t : Int) (k : Nat) (wr : World) : Prop := pinsG (prevN ps k) (ps.drop k) = t ∧ Below w.heap.size w wr
theorem pinsG_bad {ps : List PinD} {k : Nat} {t : Int} (hk : k < ps.length) (h : pinsG (prevN ps k) (ps.drop k) = t) (h0 : (ps[k]?.getD pin0).f ≠ 0) : t = (ps[k]?.getD pin0).f := by
  rw [← h, pinsG_step hk, if_neg h0]
theorem pinsG_form {ps : List PinD} {k : Nat} {t : Int} (hk : k < ps.length) (h : pinsG (prevN ps k) (ps.drop k) = t) (h0 : (ps[k]?.getD pin0).f = 0) (h1 : okN (prevN ps k) (ps[k]?.getD pin0).nm = false) : t = 1 := by
  rw [← h, pinsG_step hk, if_pos h0, h1]
  rfl
theorem pinsG_next {ps : List PinD} {k : Nat} {t : Int} (hk : k < ps.length) (h : pinsG (prevN ps k) (ps.drop k) = t) (h0 : (ps[k]?.getD pin0).f = 0) (h1 : okN (prevN ps k) (ps[k]?.getD pin0).nm = true) : pinsG (prevN ps (k + 1)) (ps.drop (k + 1)) = t := by
  rw [← h, pinsG_step hk, if_pos h0, h1, if_pos rfl]

theorem implPinsFault_any (a : Option Addr) (len cap B : Nat) (ps : List PinD) (w : World) (hR : PRow w B a len cap ps) (hB : B ≤ w.heap.size) :
    Calls Tryd.prog 26 #[.slice a len cap] w fun e w' => e = .returned (.int .i64 (pinsF ps)) ∧ Below w.heap.size w w' := by
  have hf := hR.fits
  have hm := hR.most
  unfold maxLen at hm
  have hL := Lib.hid hR.length
  by_cases h4 : 4 < len
  · have e : pinsF ps = 2 := by unfold pinsF; rw [hL.out, if_pos h4]
    rw [e]
    have h4' : (4 : Int) < len := by omega
    go_enter Tryd.func26, Tryd.ntmps26
    go_wp2_with fail
    go_ret
    exact ⟨rfl, Below.refl _ _⟩
  have e : pinsF ps = pinsG none ps := by unfold pinsF; rw [hL.out, if_neg h4]
  rw [e]
  have T0 : FaultRel w ps (pinsG none ps) 0 w := ⟨rfl, Below.refl _ _⟩
  have h4' : ¬ (4 : Int) < len := by omega
  generalize pinsG none ps = t at *
  clear e
  go_enter Tryd.func26, Tryd.ntmps26
  go_wp2_with fail
  go_loopw [11] (fun i wr => ∃ k : Nat, k ≤ len ∧ i = .int .i64 k ∧ FaultRel w ps t k wr) (fun i _ => len - (intOf i).toNat)
  case atStart => exact ⟨0, Nat.zero_le _, rfl, T0⟩
  case round =>
    obtain ⟨k, hk, rfl, ht, hb⟩ := hrel
    clear T0
    by_cases hlt : k < len
    · rcases Nat.eq_zero_or_pos k with hk0 | hk0
      · have hkz : ¬ (0 : Int) < k := by omega
        have hkn : ¬ 0 < k := by omega
        have hkd : decide (0 < k) = false := decide_eq_false hkn
        obtain ⟨b, off, ha, hbB, c0, c1, c2, c3, c4⟩ := (hR.below (hb.mono hB)).at' hlt
        subst ha
        have hkp : k < ps.length := by rw [hL.out]; exact hlt
        have F := fun w => implPinFault_any (ps[k]?.getD pin0) w (hR.name hlt)
        have A0 : At wr.heap.size (ps[k]?.getD pin0).vals (wr.alloc (.cells #[.string (ps[k]?.getD pin0).n, .int .i64 (ps[k]?.getD pin0).a, .int .i64 (ps[k]?.getD pin0).b, .int .i64 (ps[k]?.getD pin0).e, .int .i64 (ps[k]?.getD pin0).u] 73)) := At.new wr (ps[k]?.getD pin0).vals 73
        have b0 := bal hb (.cells #[.string (ps[k]?.getD pin0).n, .int .i64 (ps[k]?.getD pin0).a, .int .i64 (ps[k]?.getD pin0).b, .int .i64 (ps[k]?.getD pin0).e, .int .i64 (ps[k]?.getD pin0).u] 73)
        by_cases h0 : (ps[k]?.getD pin0).f = 0
        · rw [h0] at F
          have hn := pinsG_next hkp ht h0 (by rw [hk0]; rfl)
          have HN := Lib.hid hn
          have HK := Lib.hid hk0
          clear hn ht h0 hk0
          generalize ps[k]?.getD pin0 = p at *
          go_wp2_with fail
          generalize wr.alloc (.cells #[.string p.n, .int .i64 p.a, .int .i64 p.b, .int .i64 p.e, .int .i64 p.u] 73) = W0 at *
          refine (F _).mono ?_
          rintro r u1 ⟨rfl, b1⟩
          have x0 := (A0.on b1).cell 0 _ rfl
          have B1 := btr b0 b1
          clear b1 A0 b0 F c0 c1 c2 c3 c4
          go_wp2_with fail
          refine wp_region_line (Bel u1) [(0, true), (1, true), (2, true), (3, true), (4, true), (5, true), (6, true), (7, true), (8, true), (9, true), (10, true), (11, true), (12, true)] (by kernel_rfl) (by kernel_rfl) (fun _ _ d _ _ h => by cases d <;> exact h) (Bel.drew u1) ?_
          have hst := Bel.drew u1
          have inst : Nonempty (Of (Bel u1)) := ⟨⟨_, hst⟩⟩
          iterate 3 (refine line_read rfl (by kernel_rfl) (fun K hK => ?_); go_big_quiet_op; refine hK _ ?_; clear hK K)
          iterate 9 (refine line_skip rfl (by kernel_rfl) ?_; simp only [Act.put, List.setIfInBounds_toArray, List.set_cons_zero, List.set_cons_succ])
          iterate 1 (refine line_read rfl (by kernel_rfl) (fun K hK => ?_); go_big_quiet_op; refine hK _ ?_; clear hK K)
          refine line_nil ?_
          have B2 := btr B1 hst.out
          go_wp2_with fail
          go_roundw
          case rel => exact ⟨k + 1, by omega, by go_num, HN.out, B2⟩
          case measure => simp [intOf]; omega
        · have ht' := pinsG_bad hkp ht h0
          have HK := Lib.hid hk0
          clear ht hk0
          generalize ps[k]?.getD pin0 = p at *
          subst ht'
          go_wp2_with fail
          generalize wr.alloc (.cells #[.string p.n, .int .i64 p.a, .int .i64 p.b, .int .i64 p.e, .int .i64 p.u] 73) = W0 at *
          refine (F _).mono ?_
          rintro r u1 ⟨rfl, b1⟩
          have x0 := (A0.on b1).cell 0 _ rfl
          have B1 := btr b0 b1
          clear b1 A0 b0 F c0 c1 c2 c3 c4
          go_wp2_with fail
          go_ret
          exact ⟨rfl, B1⟩
      · obtain ⟨j, rfl⟩ : ∃ j, k = j + 1 := ⟨k - 1, by omega⟩
        obtain ⟨b, off, ha, hbB, c0, c1, c2, c3, c4⟩ := (hR.below (hb.mono hB)).at' hlt
        subst ha
        have hkp : j + 1 < ps.length := by rw [hL.out]; exact hlt
        have F := fun w => implPinFault_any (ps[j + 1]?.getD pin0) w (hR.name hlt)
        have A0 : At wr.heap.size (ps[j + 1]?.getD pin0).vals (wr.alloc (.cells #[.string (ps[j + 1]?.getD pin0).n, .int .i64 (ps[j + 1]?.getD pin0).a, .int .i64 (ps[j + 1]?.getD pin0).b, .int .i64 (ps[j + 1]?.getD pin0).e, .int .i64 (ps[j + 1]?.getD pin0).u] 73)) := At.new wr (ps[j + 1]?.getD pin0).vals 73
        have b0 := bal hb (.cells #[.string (ps[j + 1]?.getD pin0).n, .int .i64 (ps[j + 1]?.getD pin0).a, .int .i64 (ps[j + 1]?.getD pin0).b, .int .i64 (ps[j + 1]?.getD pin0).e, .int .i64 (ps[j + 1]?.getD pin0).u] 73)
        by_cases h0 : (ps[j + 1]?.getD pin0).f = 0
        · rw [h0] at F
          have hjl : j < len := by omega
          have QR := Lib.hid (fun u1 (B1 : Below w.heap.size w u1) => (hR.below (B1.mono hB)).at' hjl)
          cases h1 : nlt (ps[j]?.getD pin0).nm (ps[j + 1]?.getD pin0).nm
          · have hn := pinsG_form hkp ht h0 h1
            have Q : Op.bytesLess (ps[j]?.getD pin0).n.toList (ps[j + 1]?.getD pin0).n.toList = false := by rw [ByteArray.toList_eq, ByteArray.toList_eq]; exact h1
            subst hn
            clear ht h0 h1
            generalize ps[j + 1]?.getD pin0 = p at *
            go_wp2_with fail
            generalize wr.alloc (.cells #[.string p.n, .int .i64 p.a, .int .i64 p.b, .int .i64 p.e, .int .i64 p.u] 73) = W0 at *
            refine (F _).mono ?_
            rintro r u1 ⟨rfl, b1⟩
            have x0 := (A0.on b1).cell 0 _ rfl
            have B1 := btr b0 b1
            clear b1 A0 b0 F c0 c1 c2 c3 c4
            obtain ⟨b', off', ha', hbB', z0, -⟩ := QR.out u1 B1
            injection ha' with ha'
            injection ha' with e1 e2
            subst e1
            subst e2
            generalize ps[j]?.getD pin0 = q at *
            go_wp2_with fail
            refine wp_region_line (Bel u1) [(0, true), (1, true), (2, true), (3, true), (4, true), (5, true), (6, true), (7, true), (8, true), (9, true), (10, true), (11, true), (12, true)] (by kernel_rfl) (by kernel_rfl) (fun _ _ d _ _ h => by cases d <;> exact h) (Bel.drew u1) ?_
            have hst := Bel.drew u1
            have inst : Nonempty (Of (Bel u1)) := ⟨⟨_, hst⟩⟩
            have q0 := bel_cell z0
            have q1 := bel_cell x0
            iterate 13 (refine line_read rfl (by kernel_rfl) (fun K hK => ?_); go_big_quiet_op; refine hK _ ?_; clear hK K)
            refine line_nil ?_
            have B2 := btr B1 hst.out
            go_wp2_with fail
            go_ret
            exact ⟨rfl, B2⟩
          · have hn := pinsG_next hkp ht h0 h1
            have Q : Op.bytesLess (ps[j]?.getD pin0).n.toList (ps[j + 1]?.getD pin0).n.toList = true := by rw [ByteArray.toList_eq, ByteArray.toList_eq]; exact h1
            have HN := Lib.hid hn
            clear ht h0 h1 hn
            generalize ps[j + 1]?.getD pin0 = p at *
            go_wp2_with fail
            generalize wr.alloc (.cells #[.string p.n, .int .i64 p.a, .int .i64 p.b, .int .i64 p.e, .int .i64 p.u] 73) = W0 at *
            refine (F _).mono ?_
            rintro r u1 ⟨rfl, b1⟩
            have x0 := (A0.on b1).cell 0 _ rfl
            have B1 := btr b0 b1
            clear b1 A0 b0 F c0 c1 c2 c3 c4
            obtain ⟨b', off', ha', hbB', z0, -⟩ := QR.out u1 B1
            injection ha' with ha'
            injection ha' with e1 e2
            subst e1
            subst e2
            generalize ps[j]?.getD pin0 = q at *
            go_wp2_with fail
            refine wp_region_line (Bel u1) [(0, true), (1, true), (2, true), (3, true), (4, true), (5, true), (6, true), (7, true), (8, true), (9, true), (10, true), (11, true), (12, true)] (by kernel_rfl) (by kernel_rfl) (fun _ _ d _ _ h => by cases d <;> exact h) (Bel.drew u1) ?_
            have hst := Bel.drew u1
            have inst : Nonempty (Of (Bel u1)) := ⟨⟨_, hst⟩⟩
            have q0 := bel_cell z0
            have q1 := bel_cell x0
            iterate 13 (refine line_read rfl (by kernel_rfl) (fun K hK => ?_); go_big_quiet_op; refine hK _ ?_; clear hK K)
            refine line_nil ?_
            have B2 := btr B1 hst.out
            go_wp2_with fail
            go_roundw
            case rel => exact ⟨j + 1 + 1, by omega, by go_num, HN.out, B2⟩
            case measure => simp [intOf]; omega
        · have ht' := pinsG_bad hkp ht h0
          clear ht
          generalize ps[j + 1]?.getD pin0 = p at *
          subst ht'
          go_wp2_with fail
          generalize wr.alloc (.cells #[.string p.n, .int .i64 p.a, .int .i64 p.b, .int .i64 p.e, .int .i64 p.u] 73) = W0 at *
          refine (F _).mono ?_
          rintro r u1 ⟨rfl, b1⟩
          have x0 := (A0.on b1).cell 0 _ rfl
          have B1 := btr b0 b1
          clear b1 A0 b0 F c0 c1 c2 c3 c4
          go_wp2_with fail
          go_ret
          exact ⟨rfl, B1⟩
    · obtain rfl : k = len := by omega
      have e : ps.drop k = [] := List.drop_of_length_le (by rw [hL.out]; omega)
      rw [e] at ht
      have ht' : t = 0 := by rw [← ht]; cases prevN ps k <;> rfl
      subst ht'
      go_wp2_with fail
      go_ret
      exact ⟨rfl, hb⟩
theorem l7Pins_any (a : Option Addr) (len cap B : Nat) (ps : List PinD) (w : World) (hR : PRow w B a len cap ps) (hB : B ≤ w.heap.size) :
    Calls Tryd.prog 44 #[.slice a len cap] w fun e w' => e = .returned (.int .i64 (pinsF ps)) ∧ Below w.heap.size w w' := by
  have hf := hR.fits
  have hm := hR.most
  unfold maxLen at hm
  have hL := Lib.hid hR.length
  by_cases h4 : 4 < len
  · have e : pinsF ps = 2 := by unfold pinsF; rw [hL.out, if_pos h4]
    rw [e]
    have h4' : (4 : Int) < len := by omega
    go_enter Tryd.func44, Tryd.ntmps44
    go_wp2_with fail
    go_ret
    exact ⟨rfl, Below.refl _ _⟩
  have e : pinsF ps = pinsG none ps := by unfold pinsF; rw [hL.out, if_neg h4]
  rw [e]
  have T0 : FaultRel w ps (pinsG none ps) 0 w := ⟨rfl, Below.refl _ _⟩
  have h4' : ¬ (4 : Int) < len := by omega
  generalize pinsG none ps = t at *
  clear e
  go_enter Tryd.func44, Tryd.ntmps44
  go_wp2_with fail
  go_loopw [3] (fun i wr => ∃ k : Nat, k ≤ len ∧ i = .int .i64 k ∧ FaultRel w ps t k wr) (fun i _ => len - (intOf i).toNat)
  case atStart => exact ⟨0, Nat.zero_le _, rfl, T0⟩
  case round =>
    obtain ⟨k, hk, rfl, ht, hb⟩ := hrel
    clear T0
    by_cases hlt : k < len
    · rcases Nat.eq_zero_or_pos k with hk0 | hk0
      · have hkz : ¬ (0 : Int) < k := by omega
        have hkn : ¬ 0 < k := by omega
        have hkd : decide (0 < k) = false := decide_eq_false hkn
        obtain ⟨b, off, ha, hbB, c0, c1, c2, c3, c4⟩ := (hR.below (hb.mono hB)).at' hlt
        subst ha
        have hkp : k < ps.length := by rw [hL.out]; exact hlt
        have F := l7Fault_at b (off + (k) * 5) (ps[k]?.getD pin0) wr (hR.name hlt) c0 c1 c2 c3 c4
        by_cases h0 : (ps[k]?.getD pin0).f = 0
        · rw [h0] at F
          have hn := pinsG_next hkp ht h0 (by rw [hk0]; rfl)
          have HN := Lib.hid hn
          have HK := Lib.hid hk0
          clear hn ht h0 hk0
          generalize ps[k]?.getD pin0 = p at *
          go_wp2_with fail
          refine F.mono ?_
          rintro r u1 ⟨rfl, b1⟩
          have B1 := btr hb b1
          have x0 := cell_keep b1 c0
          clear b1 F c0 c1 c2 c3 c4
          go_wp2_with fail
          refine wp_region_line (Bel u1) [(0, true), (1, true), (2, true), (3, true), (4, true), (5, true), (6, true), (7, true), (8, true), (9, true), (10, true), (11, true), (12, true), (13, true), (14, true), (15, true)] (by kernel_rfl) (by kernel_rfl) (fun _ _ d _ _ h => by cases d <;> exact h) (Bel.drew u1) ?_
          have hst := Bel.drew u1
          have inst : Nonempty (Of (Bel u1)) := ⟨⟨_, hst⟩⟩
          iterate 3 (refine line_read rfl (by kernel_rfl) (fun K hK => ?_); go_big_quiet_op; refine hK _ ?_; clear hK K)
          iterate 12 (refine line_skip rfl (by kernel_rfl) ?_; simp only [Act.put, List.setIfInBounds_toArray, List.set_cons_zero, List.set_cons_succ])
          iterate 1 (refine line_read rfl (by kernel_rfl) (fun K hK => ?_); go_big_quiet_op; refine hK _ ?_; clear hK K)
          refine line_nil ?_
          have B2 := btr B1 hst.out
          go_wp2_with fail
          go_roundw
          case rel => exact ⟨k + 1, by omega, by go_num, HN.out, B2⟩
          case measure => simp [intOf]; omega
        · have ht' := pinsG_bad hkp ht h0
          have HK := Lib.hid hk0
          clear ht hk0
          generalize ps[k]?.getD pin0 = p at *
          subst ht'
          go_wp2_with fail
          refine F.mono ?_
          rintro r u1 ⟨rfl, b1⟩
          have B1 := btr hb b1
          have x0 := cell_keep b1 c0
          clear b1 F c0 c1 c2 c3 c4
          go_wp2_with fail
          go_ret
          exact ⟨rfl, B1⟩
      · obtain ⟨j, rfl⟩ : ∃ j, k = j + 1 := ⟨k - 1, by omega⟩
        obtain ⟨b, off, ha, hbB, c0, c1, c2, c3, c4⟩ := (hR.below (hb.mono hB)).at' hlt
        subst ha
        have hkp : j + 1 < ps.length := by rw [hL.out]; exact hlt
        have F := l7Fault_at b (off + (j + 1) * 5) (ps[j + 1]?.getD pin0) wr (hR.name hlt) c0 c1 c2 c3 c4
        by_cases h0 : (ps[j + 1]?.getD pin0).f = 0
        · rw [h0] at F
          have hjl : j < len := by omega
          have QR := Lib.hid (fun u1 (B1 : Below w.heap.size w u1) => (hR.below (B1.mono hB)).at' hjl)
          have hQ := nle_eq (ps[j + 1]?.getD pin0).n.toList (ps[j]?.getD pin0).n.toList
          rw [show nlt (ps[j]?.getD pin0).n.toList (ps[j + 1]?.getD pin0).n.toList = nlt (ps[j]?.getD pin0).nm (ps[j + 1]?.getD pin0).nm by rw [ByteArray.toList_eq, ByteArray.toList_eq]; rfl] at hQ
          cases h1 : nlt (ps[j]?.getD pin0).nm (ps[j + 1]?.getD pin0).nm
          · have hn := pinsG_form hkp ht h0 h1
            rw [h1] at hQ
            subst hn
            clear ht h0 h1
            generalize ps[j + 1]?.getD pin0 = p at *
            go_wp2_with fail
            refine F.mono ?_
            rintro r u1 ⟨rfl, b1⟩
            have B1 := btr hb b1
            have x0 := cell_keep b1 c0
            clear b1 F c0 c1 c2 c3 c4
            obtain ⟨b', off', ha', hbB', z0, -⟩ := QR.out u1 B1
            injection ha' with ha'
            injection ha' with e1 e2
            subst e1
            subst e2
            generalize ps[j]?.getD pin0 = q at *
            go_wp2_with fail
            refine wp_region_line (Bel u1) [(0, true), (1, true), (2, true), (3, true), (4, true), (5, true), (6, true), (7, true), (8, true), (9, true), (10, true), (11, true), (12, true), (13, true), (14, true), (15, true)] (by kernel_rfl) (by kernel_rfl) (fun _ _ d _ _ h => by cases d <;> exact h) (Bel.drew u1) ?_
            have hst := Bel.drew u1
            have inst : Nonempty (Of (Bel u1)) := ⟨⟨_, hst⟩⟩
            have q0 := bel_cell z0
            have q1 := bel_cell x0
            iterate 16 (refine line_read rfl (by kernel_rfl) (fun K hK => ?_); go_big_quiet_op; refine hK _ ?_; clear hK K)
            refine line_nil ?_
            have B2 := btr B1 hst.out
            go_wp2_with fail
            go_ret
            exact ⟨rfl, B2⟩
          · have hn := pinsG_next hkp ht h0 h1
            rw [h1] at hQ
            have HN := Lib.hid hn
            clear ht h0 h1 hn
            generalize ps[j + 1]?.getD pin0 = p at *
            go_wp2_with fail
            refine F.mono ?_
            rintro r u1 ⟨rfl, b1⟩
            have B1 := btr hb b1
            have x0 := cell_keep b1 c0
            clear b1 F c0 c1 c2 c3 c4
            obtain ⟨b', off', ha', hbB', z0, -⟩ := QR.out u1 B1
            injection ha' with ha'
            injection ha' with e1 e2
            subst e1
            subst e2
            generalize ps[j]?.getD pin0 = q at *
            go_wp2_with fail
            refine wp_region_line (Bel u1) [(0, true), (1, true), (2, true), (3, true), (4, true), (5, true), (6, true), (7, true), (8, true), (9, true), (10, true), (11, true), (12, true), (13, true), (14, true), (15, true)] (by kernel_rfl) (by kernel_rfl) (fun _ _ d _ _ h => by cases d <;> exact h) (Bel.drew u1) ?_
            have hst := Bel.drew u1
            have inst : Nonempty (Of (Bel u1)) := ⟨⟨_, hst⟩⟩
            have q0 := bel_cell z0
            have q1 := bel_cell x0
            iterate 16 (refine line_read rfl (by kernel_rfl) (fun K hK => ?_); go_big_quiet_op; refine hK _ ?_; clear hK K)
            refine line_nil ?_
            have B2 := btr B1 hst.out
            go_wp2_with fail
            go_roundw
            case rel => exact ⟨j + 1 + 1, by omega, by go_num, HN.out, B2⟩
            case measure => simp [intOf]; omega
        · have ht' := pinsG_bad hkp ht h0
          clear ht
          generalize ps[j + 1]?.getD pin0 = p at *
          subst ht'
          go_wp2_with fail
          refine F.mono ?_
          rintro r u1 ⟨rfl, b1⟩
          have B1 := btr hb b1
          have x0 := cell_keep b1 c0
          clear b1 F c0 c1 c2 c3 c4
          go_wp2_with fail
          go_ret
          exact ⟨rfl, B1⟩
    · obtain rfl : k = len := by omega
      have e : ps.drop k = [] := List.drop_of_length_le (by rw [hL.out]; omega)
      rw [e] at ht
      have ht' : t = 0 := by rw [← ht]; cases prevN ps k <;> rfl
      subst ht'
      go_wp2_with fail
      go_ret
      exact ⟨rfl, hb⟩
end Go.Proofs.YtcolecidbalmhaaDoor
