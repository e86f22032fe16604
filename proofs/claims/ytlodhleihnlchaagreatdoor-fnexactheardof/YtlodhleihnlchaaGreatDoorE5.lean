/- Texts of this seat that several laws rest on, laid into one. Conditions: as each theorem states. -/
import Derived.Test.YtlodhleihnlchaaGreatDoorE0
import Derived.Test.YtlodhleihnlchaaGreatDoorE2
import Derived.Test.YtlodhleihnlchaaGreatDoorE3
import Derived.Test.YtlodhleihnlchaaGreatDoorE4
import Derived.Deep.CutRange
namespace Go.Proofs.YtlodhleihnlchaaGreatDoor
open Go.RowKit
set_option maxRecDepth 100000
set_option linter.unusedVariables false

theorem Labels.setB {w : World} (h : Labels w) {p : Addr} (hp : 1 ≠ p.block) (u : Value) : Labels (w.setCell p u) := h.keep (Below.heap_setCell w p u _ hp)

theorem call_val {P : Program} {o : Oper} {a : Act} {w : World} {Q : Exit → Act → World → Prop} {K : Act → World → Prop} {x : Operand} {f : FuncId} {cap : Array Value} {xs : Array Operand} {ts : Array TypeId} {args : Array Value} {R : Ending → World → Prop} (ho : o.op = Op.call { callee := .value x, args := xs, argTypes := ts }) (hx : a.eval x = .func (.func f) #[] cap) (hf : callsB P f = true) (hargs : xs.map a.eval ++ cap = args)
    (h : Calls P f args w R) (hK : ∀ e w', R e w' → ∃ v, e = .returned v ∧ K (a.put o.dst v) w') : o.wp P a w K Q := by
  have e : (execOp a.eval o).run P w = .ok (.enter f args) w := by
    unfold execOp
    simp only [ho, resolve, hx, Deferred.ofValue, Sem.run_bind, Sem.run_pure, Result.andThen_ok, invoke]
    simpa [hargs] using run_callFunc_body hf args w
  unfold Oper.wp
  rw [e]
  exact h.mono fun e w' hR => by
    obtain ⟨v, he, hk⟩ := hK e w' hR
    subst he
    exact hk

theorem l11Master_any (sh he : Int) (w : World) (hs : M.sumB sh = true) (hh : M.sumB he = true) :
    Calls Tryz.prog 253 #[.int .i64 sh, .int .i64 he] w fun r w' => r = .returned (.int .i64 (masterN sh he)) ∧ Below w.heap.size w w' := by
  have hR := row_two (w := w) sh he 2 hs hh
  have HA := Lib.hid (show [sh, he].all M.sumB = true by simp [hs, hh])
  obtain ⟨t0, t1⟩ := M.tagL_bd M.masterS [sh, he]
  unfold masterN
  clear hs hh
  go_enter Tryz.func253, Tryz.ntmps253
  go_wp2_with fail
  refine (l2Tag_any M.masterS _ _ _ _ _ _ (by decide) hR (by simp) HA.out (by omega)).mono ?_
  rintro r w2 ⟨rfl, hb2⟩
  have hb := btr (bal (Below.refl _ _) _) hb2
  clear hb2 hR HA
  go_wp2_with fail
  go_ret
  exact ⟨rfl, hb⟩
theorem l11Verify_any (he : Int) (w : World) (hh : M.sumB he = true) :
    Calls Tryz.prog 252 #[.int .i64 he] w fun r w' => r = .returned (.int .i64 (verN he)) ∧ Below w.heap.size w w' := by
  have hR := row_one0 (w := w) he 2 hh
  have HA := Lib.hid (show [he].all M.sumB = true by simp [hh])
  obtain ⟨t0, t1⟩ := M.tagL_bd M.verifyS [he]
  unfold verN
  clear hh
  go_enter Tryz.func252, Tryz.ntmps252
  go_wp2_with fail
  refine (l2Tag_any M.verifyS _ _ _ _ _ _ (by decide) hR (by simp) HA.out (by omega)).mono ?_
  rintro r w2 ⟨rfl, hb2⟩
  have hb := btr (bal (Below.refl _ _) _) hb2
  clear hb2 hR HA
  go_wp2_with fail
  go_ret
  exact ⟨rfl, hb⟩
theorem l11Finish_any (sh he : Int) (w : World) (hs : M.sumB sh = true) (hh : M.sumB he = true) :
    Calls Tryz.prog 176 #[.int .i64 sh, .int .i64 he] w fun r w' => r = .returned (.int .i64 (finN sh he)) ∧ Below w.heap.size w w' := by
  have M1 := fun w => l11Master_any sh he w hs hh
  have hm := masterN_sum sh he
  unfold finN
  generalize masterN sh he = m at *
  have R := fun w : World => row_one0 (w := w) m 2 hm
  have HA := Lib.hid (show [m].all M.sumB = true by simp [hm])
  obtain ⟨t0, t1⟩ := M.tagL_bd M.finishS [m]
  clear hs hh hm
  go_enter Tryz.func176, Tryz.ntmps176
  go_wp2_with fail
  refine (M1 _).mono ?_
  rintro r w1 ⟨rfl, hb1⟩
  go_wp2_with fail
  refine (l2Tag_any M.finishS _ _ _ _ _ _ (by decide) (R w1) (by simp) HA.out (by omega)).mono ?_
  rintro r w2 ⟨rfl, hb2⟩
  have hb := btr (bal hb1 _) hb2
  clear hb1 hb2 R HA M1
  go_wp2_with fail
  go_ret
  exact ⟨rfl, hb⟩

theorem verifySum_any (he : Int) (w : World) (lab : Labels w) (hh : M.sumB he = true) :
    Calls Tryz.prog 163 #[.int .i64 he] w fun r w' => r = .returned (.int .i64 (verN he)) ∧ Below w.heap.size w w' := by
  have hlab := lab.verifyW
  have hlt := lab.lt
  have hR := row_one0 (w := w) he 2 hh
  have HA := Lib.hid (show [he].all M.sumB = true by simp [hh])
  obtain ⟨t0, t1⟩ := M.tagL_bd M.verifyS [he]
  unfold verN
  clear lab hh
  go_enter Tryz.func163, Tryz.ntmps163
  go_wp2_with fail
  refine (sumTagged_any _ _ _ _ _ _ _ (by decide) hR (by simp) HA.out (by omega)).mono ?_
  rintro r w2 ⟨rfl, hb2⟩
  have hb := btr (bal (Below.refl _ _) _) hb2
  clear hb2 hR hlab HA
  go_wp2_with fail
  go_ret
  exact ⟨rfl, hb⟩

abbrev walkV (b : Nat) : Value := .func (.func 248) #[] #[.pointer (some ⟨b, 0, none⟩)]
def WalkAt (m : Int) (w : World) (r : Ending) (w' : World) : Prop := ∃ b, r = .returned (walkV b) ∧ At b [.int .i64 m] w' ∧ Below w.heap.size w w' ∧ w.heap.size ≤ b
theorem walkFrom_any (sh he : Int) (w : World) (lab : Labels w) (hs : M.sumB sh = true) (hh : M.sumB he = true) :
    Calls Tryz.prog 161 #[.int .i64 sh, .int .i64 he] w (WalkAt (masterN sh he) w) := by
  have hmf : ∀ (fn : Fn) (first cap : Array Value) (w : World), (Instr.makeFunc fn first cap).run Tryz.prog w = .ok (.func fn first cap) w := fun _ _ _ _ => rfl
  have hlab := lab.masterW
  have hlt := lab.lt
  have hR := row_two (w := w) sh he 2 hs hh
  have HA := Lib.hid (show [sh, he].all M.sumB = true by simp [hs, hh])
  obtain ⟨t0, t1⟩ := M.tagL_bd M.masterS [sh, he]
  unfold masterN
  clear lab hs hh
  go_enter Tryz.func161, Tryz.ntmps161
  go_wp2_with fail
  refine (sumTagged_any _ _ _ _ _ _ _ (by decide) hR (by simp) HA.out (by omega)).mono ?_
  rintro r w2 ⟨rfl, hb2⟩
  have hb := btr (bal (Below.refl _ _) _) hb2
  clear hb2 hR hlab HA
  go_wp2_with fail
  go_ret
  exact ⟨w2.heap.size, rfl, At.new w2 [.int .i64 (M.tagL M.masterS [sh, he])] 2, bal hb _, hb.size⟩
theorem walk_fin (b : Nat) (m : Int) (w : World) (lab : Labels w) (hA : At b [.int .i64 m] w) (hm : M.sumB m = true) :
    Calls Tryz.prog 248 #[.int .i64 10, .pointer (some ⟨b, 0, none⟩)] w fun r w' => r = .returned (.int .i64 (M.tagL M.finishS [m])) ∧ Below w.heap.size w w' := by
  have hl : M.labB M.finishS = true := by decide +kernel
  have hk : M.keyD m M.finishS = (0, M.tagL M.finishS [m]) := by simp only [M.keyD, hm, hl]; rfl
  have F1 := fun w => implDeriveKey_any m M.finishS w (by decide)
  rw [hk] at F1
  have d0 := hA.cell 0 _ rfl
  have hlab := lab.finishW
  have hlt := lab.lt
  generalize M.tagL M.finishS [m] = v at *
  clear hl hk hm
  have f1 := fld1
  go_enter Tryz.func248, Tryz.ntmps248
  go_wp2_with fail
  refine wp_region_line (Bel w) [(0, true), (1, true), (2, true), (3, true), (4, false), (5, true), (6, true)] (by kernel_rfl) (by kernel_rfl) (fun _ _ d _ _ h => by cases d <;> exact h) (Bel.drew w) ?_
  have hst := Bel.drew w
  have inst : Nonempty (Of (Bel w)) := ⟨⟨_, hst⟩⟩
  have q0 := bel_cell d0
  have q1 := bel_cell hlab
  iterate 4 (refine line_read rfl (by kernel_rfl) (fun K hK => ?_); go_big_quiet_op; refine hK _ ?_; clear hK K)
  refine line_alone rfl (by kernel_rfl) (fun K hK => ?_)
  refine call_wp (args := #[.int .i64 m, .string M.finishS]) rfl (by kernel_rfl) (by kernel_rfl) (F1 _) (fun wn hbn => ?_)
  have hst2 := hst.on hbn
  refine hK _ _ hst2 ?_
  clear hK K hst hbn
  have hst := hst2
  clear hst2
  simp only [Act.put, List.setIfInBounds_toArray, List.set_cons_zero, List.set_cons_succ]
  iterate 2 (refine line_read rfl (by kernel_rfl) (fun K hK => ?_); go_big_quiet_op; refine hK _ ?_; clear hK K)
  refine line_nil ?_
  have hb := hst.out
  clear hst
  go_wp2_with fail
  go_ret
  exact ⟨rfl, hb⟩

theorem walk_up (b : Nat) (m : Int) (w : World) (lab : Labels w) (hA : At b [.int .i64 m] w) (hm : M.sumB m = true) :
    Calls Tryz.prog 248 #[.int .i64 11, .pointer (some ⟨b, 0, none⟩)] w fun r w' => r = .returned (.int .i64 (M.tagL M.upS [m])) ∧ Below w.heap.size w w' := by
  have hl : M.labB M.upS = true := by decide +kernel
  have hk : M.keyD m M.upS = (0, M.tagL M.upS [m]) := by simp only [M.keyD, hm, hl]; rfl
  have F1 := fun w => implDeriveKey_any m M.upS w (by decide)
  rw [hk] at F1
  have d0 := hA.cell 0 _ rfl
  have hlab := lab.upW
  have hlt := lab.lt
  generalize M.tagL M.upS [m] = v at *
  clear hl hk hm
  have f1 := fld1
  go_enter Tryz.func248, Tryz.ntmps248
  go_wp2_with fail
  refine wp_region_line (Bel w) [(0, true), (1, true), (2, true), (3, true), (4, false), (5, true), (6, true)] (by kernel_rfl) (by kernel_rfl) (fun _ _ d _ _ h => by cases d <;> exact h) (Bel.drew w) ?_
  have hst := Bel.drew w
  have inst : Nonempty (Of (Bel w)) := ⟨⟨_, hst⟩⟩
  have q0 := bel_cell d0
  have q1 := bel_cell hlab
  iterate 4 (refine line_read rfl (by kernel_rfl) (fun K hK => ?_); go_big_quiet_op; refine hK _ ?_; clear hK K)
  refine line_alone rfl (by kernel_rfl) (fun K hK => ?_)
  refine call_wp (args := #[.int .i64 m, .string M.upS]) rfl (by kernel_rfl) (by kernel_rfl) (F1 _) (fun wn hbn => ?_)
  have hst2 := hst.on hbn
  refine hK _ _ hst2 ?_
  clear hK K hst hbn
  have hst := hst2
  clear hst2
  simp only [Act.put, List.setIfInBounds_toArray, List.set_cons_zero, List.set_cons_succ]
  iterate 2 (refine line_read rfl (by kernel_rfl) (fun K hK => ?_); go_big_quiet_op; refine hK _ ?_; clear hK K)
  refine line_nil ?_
  have hb := hst.out
  clear hst
  go_wp2_with fail
  go_ret
  exact ⟨rfl, hb⟩

theorem walk_down (b : Nat) (m : Int) (w : World) (lab : Labels w) (hA : At b [.int .i64 m] w) (hm : M.sumB m = true) :
    Calls Tryz.prog 248 #[.int .i64 12, .pointer (some ⟨b, 0, none⟩)] w fun r w' => r = .returned (.int .i64 (M.tagL M.downS [m])) ∧ Below w.heap.size w w' := by
  have hl : M.labB M.downS = true := by decide +kernel
  have hk : M.keyD m M.downS = (0, M.tagL M.downS [m]) := by simp only [M.keyD, hm, hl]; rfl
  have F1 := fun w => implDeriveKey_any m M.downS w (by decide)
  rw [hk] at F1
  have d0 := hA.cell 0 _ rfl
  have hlab := lab.downW
  have hlt := lab.lt
  generalize M.tagL M.downS [m] = v at *
  clear hl hk hm
  have f1 := fld1
  go_enter Tryz.func248, Tryz.ntmps248
  go_wp2_with fail
  refine wp_region_line (Bel w) [(0, true), (1, true), (2, true), (3, true), (4, false), (5, true), (6, true)] (by kernel_rfl) (by kernel_rfl) (fun _ _ d _ _ h => by cases d <;> exact h) (Bel.drew w) ?_
  have hst := Bel.drew w
  have inst : Nonempty (Of (Bel w)) := ⟨⟨_, hst⟩⟩
  have q0 := bel_cell d0
  have q1 := bel_cell hlab
  iterate 4 (refine line_read rfl (by kernel_rfl) (fun K hK => ?_); go_big_quiet_op; refine hK _ ?_; clear hK K)
  refine line_alone rfl (by kernel_rfl) (fun K hK => ?_)
  refine call_wp (args := #[.int .i64 m, .string M.downS]) rfl (by kernel_rfl) (by kernel_rfl) (F1 _) (fun wn hbn => ?_)
  have hst2 := hst.on hbn
  refine hK _ _ hst2 ?_
  clear hK K hst hbn
  have hst := hst2
  clear hst2
  simp only [Act.put, List.setIfInBounds_toArray, List.set_cons_zero, List.set_cons_succ]
  iterate 2 (refine line_read rfl (by kernel_rfl) (fun K hK => ?_); go_big_quiet_op; refine hK _ ?_; clear hK K)
  refine line_nil ?_
  have hb := hst.out
  clear hst
  go_wp2_with fail
  go_ret
  exact ⟨rfl, hb⟩

end Go.Proofs.YtlodhleihnlchaaGreatDoor
namespace Go.Proofs.YtlodhleihnlchaaGreatDoor
open Go.RowKit
set_option maxRecDepth 100000
set_option linter.unusedVariables false

theorem l6Hello1_any (g : Nat) (k r s : Int) (n : ByteArray) (w : World) (A0 : At g (HL4 k r s n) w) (hn : n.size ≤ maxLen) :
    Calls Tryz.prog 107 #[.pointer (some ⟨g, 1, none⟩)] w fun e w' => e = .returned (.int .i64 (helF n.data.toList r s)) ∧ Below w.heap.size w w' := by
  have hL : n.data.toList.length = n.size := by simp
  have F := fun w => l5Fault_any n w hn
  have d0 := A0.cell 0 _ rfl
  have d1 := A0.cell 1 _ rfl
  have d2 := A0.cell 2 _ rfl
  have d3 := A0.cell 3 _ rfl
  cases hr : M.sumB r
  · rw [helF_no (by rw [hr]; rfl)]
    go_enter Tryz.func107, Tryz.ntmps107
    go_wp2_with fail
    refine (l2Is_any _ _).mono ?_
    rintro r w' ⟨rfl, rfl⟩
    go_wp2_with fail
    go_ret
    exact ⟨rfl, Below.refl _ _⟩
  cases hs : pubB s
  · rw [helF_no (by rw [hs]; simp)]
    go_enter Tryz.func107, Tryz.ntmps107
    go_wp2_with fail
    refine (l2Is_any _ _).mono ?_
    rintro r w' ⟨rfl, rfl⟩
    go_wp2_with fail
    refine (l1Public_any _ _).mono ?_
    rintro r w' ⟨rfl, rfl⟩
    go_wp2_with fail
    go_ret
    exact ⟨rfl, Below.refl _ _⟩
  rw [helF_yes (by rw [hr, hs]; rfl)]
  by_cases h0 : M.nameF n.data.toList = 0
  · obtain ⟨h20, hm⟩ := M.nameF_zero h0
    rw [hL] at h20
    have N := fun w : World => l5Normal_any n w h20
    have Q := text_beq (M.bs (M.nrm n.data.toList)) n
    rw [M.bs_list] at Q
    rw [h0] at F
    by_cases hq : M.nrm n.data.toList = n.data.toList
    · rw [M.normF_yes h0 hq]
      rw [decide_eq_true hq] at Q
      generalize M.bs (M.nrm n.data.toList) = R at *
      clear h0 hm hq hL
      go_enter Tryz.func107, Tryz.ntmps107
      go_wp2_with fail
      refine (l2Is_any _ _).mono ?_
      rintro r w' ⟨rfl, rfl⟩
      go_wp2_with fail
      refine (l1Public_any _ _).mono ?_
      rintro r w' ⟨rfl, rfl⟩
      go_wp2_with fail
      refine (F _).mono ?_
      rintro e u1 ⟨rfl, b1⟩
      have p0 := (A0.on b1).cell 0 _ rfl
      have p1 := (A0.on b1).cell 1 _ rfl
      have p2 := (A0.on b1).cell 2 _ rfl
      have p3 := (A0.on b1).cell 3 _ rfl
      go_wp2_with fail
      refine wp_region_line (Bel u1) [(0, true), (1, true), (2, true), (3, true), (5, true), (6, true), (7, true), (8, true), (4, false), (9, true)] (by kernel_rfl) (by kernel_rfl) (fun _ _ d _ _ h => by cases d <;> exact h) (Bel.drew u1) ?_
      have hst := Bel.drew u1
      have inst : Nonempty (Of (Bel u1)) := ⟨⟨_, hst⟩⟩
      have q2 := bel_cell p3
      iterate 8 (refine line_read rfl (by kernel_rfl) (fun K hK => ?_); go_big_quiet_op; refine hK _ ?_; clear hK K)
      refine line_alone rfl (by kernel_rfl) (fun K hK => ?_)
      refine call_wp (args := #[.string n]) rfl (by kernel_rfl) (by kernel_rfl) (N _) (fun wn hbn => ?_)
      have hst2 := hst.on hbn
      refine hK _ _ hst2 ?_
      clear hK K hst hbn
      have hst := hst2
      clear hst2
      simp only [Act.put, List.setIfInBounds_toArray, List.set_cons_zero, List.set_cons_succ]
      iterate 1 (refine line_read rfl (by kernel_rfl) (fun K hK => ?_); go_big_quiet_op; refine hK _ ?_; clear hK K)
      refine line_nil ?_
      have bb := btr b1 hst.out
      go_wp2_with fail
      go_ret
      exact ⟨rfl, bb⟩
    · rw [M.normF_form h0 hq]
      rw [decide_eq_false hq] at Q
      generalize M.bs (M.nrm n.data.toList) = R at *
      clear h0 hm hq hL
      go_enter Tryz.func107, Tryz.ntmps107
      go_wp2_with fail
      refine (l2Is_any _ _).mono ?_
      rintro r w' ⟨rfl, rfl⟩
      go_wp2_with fail
      refine (l1Public_any _ _).mono ?_
      rintro r w' ⟨rfl, rfl⟩
      go_wp2_with fail
      refine (F _).mono ?_
      rintro e u1 ⟨rfl, b1⟩
      have p0 := (A0.on b1).cell 0 _ rfl
      have p1 := (A0.on b1).cell 1 _ rfl
      have p2 := (A0.on b1).cell 2 _ rfl
      have p3 := (A0.on b1).cell 3 _ rfl
      go_wp2_with fail
      refine wp_region_line (Bel u1) [(0, true), (1, true), (2, true), (3, true), (5, true), (6, true), (7, true), (8, true), (4, false), (9, true)] (by kernel_rfl) (by kernel_rfl) (fun _ _ d _ _ h => by cases d <;> exact h) (Bel.drew u1) ?_
      have hst := Bel.drew u1
      have inst : Nonempty (Of (Bel u1)) := ⟨⟨_, hst⟩⟩
      have q2 := bel_cell p3
      iterate 8 (refine line_read rfl (by kernel_rfl) (fun K hK => ?_); go_big_quiet_op; refine hK _ ?_; clear hK K)
      refine line_alone rfl (by kernel_rfl) (fun K hK => ?_)
      refine call_wp (args := #[.string n]) rfl (by kernel_rfl) (by kernel_rfl) (N _) (fun wn hbn => ?_)
      have hst2 := hst.on hbn
      refine hK _ _ hst2 ?_
      clear hK K hst hbn
      have hst := hst2
      clear hst2
      simp only [Act.put, List.setIfInBounds_toArray, List.set_cons_zero, List.set_cons_succ]
      iterate 1 (refine line_read rfl (by kernel_rfl) (fun K hK => ?_); go_big_quiet_op; refine hK _ ?_; clear hK K)
      refine line_nil ?_
      have bb := btr b1 hst.out
      go_wp2_with fail
      go_ret
      exact ⟨rfl, bb⟩
  · rw [M.normF_no h0]
    generalize M.nameF n.data.toList = c at *
    go_enter Tryz.func107, Tryz.ntmps107
    go_wp2_with fail
    refine (l2Is_any _ _).mono ?_
    rintro r w' ⟨rfl, rfl⟩
    go_wp2_with fail
    refine (l1Public_any _ _).mono ?_
    rintro r w' ⟨rfl, rfl⟩
    go_wp2_with fail
    refine (F _).mono ?_
    rintro e u1 ⟨rfl, b1⟩
    have p0 := (A0.on b1).cell 0 _ rfl
    have p1 := (A0.on b1).cell 1 _ rfl
    have p2 := (A0.on b1).cell 2 _ rfl
    have p3 := (A0.on b1).cell 3 _ rfl
    go_wp2_with fail
    go_ret
    exact ⟨rfl, b1⟩
end Go.Proofs.YtlodhleihnlchaaGreatDoor
namespace Go.Proofs.YtlodhleihnlchaaGreatDoor
open Go.RowKit
set_option maxRecDepth 100000
set_option linter.unusedVariables false

theorem kf11 (a b : Int) (w : World) : Sem.run Tryz.prog (Instr.field 119 (.agg #[.int .i64 a, .int .i64 b]) 1) w = .ok (.int .i64 b) w := by kernel_rfl
theorem l11Fault_any (g : Nat) (k r s : Int) (n : ByteArray) (w : World) (A0 : At g (HL4 k r s n) w) (hn : n.size ≤ maxLen) :
    Calls Tryz.prog 177 #[.pointer (some ⟨g, 0, none⟩)] w fun e w' => e = .returned (.int .i64 (cliF k r s n)) ∧ Below w.heap.size w w' := by
  have g1 := kf11
  have F := fun w A => l6Hello1_any g k r s n w A hn
  have d0 := A0.cell 0 _ rfl
  have d1 := A0.cell 1 _ rfl
  have d2 := A0.cell 2 _ rfl
  have d3 := A0.cell 3 _ rfl
  cases hk : inB k 1 1438
  · rw [cliF_sec hk]
    go_enter Tryz.func177, Tryz.ntmps177
    go_wp2_with fail
    refine (l1Secret_any _ _).mono ?_
    rintro r w' ⟨rfl, rfl⟩
    go_wp2_with fail
    go_ret
    exact ⟨rfl, Below.refl _ _⟩
  have hk' := hk
  simp only [inB, decide_eq_true_eq] at hk'
  by_cases h2 : helF n.data.toList r s = 0
  · rw [h2] at F
    have K1 : ∀ w, Calls Tryz.prog 187 #[.int .i64 k] w fun r w' => r = .returned (I2 k (M.pubN k)) ∧ Below w.heap.size w w' := fun w => l1Key_any k w (by omega) (by omega)
    by_cases h3 : M.pubN k = s
    · rw [cliF_yes hk h2 h3]
      have e3 : (M.pubN k != s) = false := by simpa using h3
      have e4 : (M.pubN k == s) = true := by simpa using h3
      generalize M.pubN k = u at *
      clear h3 h2 hk'
      go_enter Tryz.func177, Tryz.ntmps177
      go_wp2_with fail
      refine (l1Secret_any _ _).mono ?_
      rintro r w' ⟨rfl, rfl⟩
      go_wp2_with fail
      refine (F _ A0).mono ?_
      rintro e u1 ⟨rfl, b1⟩
      have p0 := (A0.on b1).cell 0 _ rfl
      have p1 := (A0.on b1).cell 1 _ rfl
      have p2 := (A0.on b1).cell 2 _ rfl
      have p3 := (A0.on b1).cell 3 _ rfl
      go_wp2_with fail
      refine wp_region_line (Bel u1) [(0, true), (1, true), (2, true), (3, true), (6, true), (7, true), (8, true), (9, true), (10, true), (4, false), (5, true), (11, true)] (by kernel_rfl) (by kernel_rfl) (fun _ _ d _ _ h => by cases d <;> exact h) (Bel.drew u1) ?_
      have hst := Bel.drew u1
      have inst : Nonempty (Of (Bel u1)) := ⟨⟨_, hst⟩⟩
      have q0 := bel_cell p0
      have q2 := bel_cell p2
      iterate 9 (refine line_read rfl (by kernel_rfl) (fun K hK => ?_); go_big_quiet_op; refine hK _ ?_; clear hK K)
      refine line_alone rfl (by kernel_rfl) (fun K hK => ?_)
      refine call_wp (args := #[.int .i64 k]) rfl (by kernel_rfl) (by kernel_rfl) (K1 _) (fun wn hbn => ?_)
      have hst2 := hst.on hbn
      refine hK _ _ hst2 ?_
      clear hK K hst hbn
      have hst := hst2
      clear hst2
      simp only [Act.put, List.setIfInBounds_toArray, List.set_cons_zero, List.set_cons_succ]
      iterate 2 (refine line_read rfl (by kernel_rfl) (fun K hK => ?_); go_big_quiet_op; refine hK _ ?_; clear hK K)
      refine line_nil ?_
      have bb := btr b1 hst.out
      clear hst
      go_wp2_with fail
      go_ret
      exact ⟨rfl, bb⟩
    · rw [cliF_form hk h2 h3]
      have e3 : (M.pubN k != s) = true := by simpa using h3
      have e4 : (M.pubN k == s) = false := by simpa using h3
      generalize M.pubN k = u at *
      clear h3 h2 hk'
      go_enter Tryz.func177, Tryz.ntmps177
      go_wp2_with fail
      refine (l1Secret_any _ _).mono ?_
      rintro r w' ⟨rfl, rfl⟩
      go_wp2_with fail
      refine (F _ A0).mono ?_
      rintro e u1 ⟨rfl, b1⟩
      have p0 := (A0.on b1).cell 0 _ rfl
      have p1 := (A0.on b1).cell 1 _ rfl
      have p2 := (A0.on b1).cell 2 _ rfl
      have p3 := (A0.on b1).cell 3 _ rfl
      go_wp2_with fail
      refine wp_region_line (Bel u1) [(0, true), (1, true), (2, true), (3, true), (6, true), (7, true), (8, true), (9, true), (10, true), (4, false), (5, true), (11, true)] (by kernel_rfl) (by kernel_rfl) (fun _ _ d _ _ h => by cases d <;> exact h) (Bel.drew u1) ?_
      have hst := Bel.drew u1
      have inst : Nonempty (Of (Bel u1)) := ⟨⟨_, hst⟩⟩
      have q0 := bel_cell p0
      have q2 := bel_cell p2
      iterate 9 (refine line_read rfl (by kernel_rfl) (fun K hK => ?_); go_big_quiet_op; refine hK _ ?_; clear hK K)
      refine line_alone rfl (by kernel_rfl) (fun K hK => ?_)
      refine call_wp (args := #[.int .i64 k]) rfl (by kernel_rfl) (by kernel_rfl) (K1 _) (fun wn hbn => ?_)
      have hst2 := hst.on hbn
      refine hK _ _ hst2 ?_
      clear hK K hst hbn
      have hst := hst2
      clear hst2
      simp only [Act.put, List.setIfInBounds_toArray, List.set_cons_zero, List.set_cons_succ]
      iterate 2 (refine line_read rfl (by kernel_rfl) (fun K hK => ?_); go_big_quiet_op; refine hK _ ?_; clear hK K)
      refine line_nil ?_
      have bb := btr b1 hst.out
      clear hst
      go_wp2_with fail
      go_ret
      exact ⟨rfl, bb⟩
  · rw [cliF_hel hk h2]
    generalize helF n.data.toList r s = c at *
    have e3 : (c != 0) = true := by simpa using h2
    go_enter Tryz.func177, Tryz.ntmps177
    go_wp2_with fail
    refine (l1Secret_any _ _).mono ?_
    rintro r w' ⟨rfl, rfl⟩
    go_wp2_with fail
    refine (F _ A0).mono ?_
    rintro e u1 ⟨rfl, b1⟩
    go_wp2_with fail
    go_ret
    exact ⟨rfl, b1⟩
theorem l11Keys_any (sh he pb : Int) (w : World) (hs : M.sumB sh = true) (hh : M.sumB he = true) :
    Calls Tryz.prog 175 #[.int .i64 sh, .int .i64 he, .int .i64 pb] w fun e w' => e = .returned (K4 (upN sh he) (downN sh he) he pb) ∧ Below w.heap.size w w' := by
  have b0 := bal (Below.refl _ w) (.cells #[.int .i64 0, .int .i64 0, .int .i64 0, .int .i64 0] 110)
  have A0 := At.new w (KL4 0 0 0 0) 110
  have M1 := fun w => l11Master_any sh he w hs hh
  have hm := masterN_sum sh he
  unfold upN downN
  generalize masterN sh he = m at *
  have R := fun w : World => row_one0 (w := w) m 2 hm
  have HA := Lib.hid (show [m].all M.sumB = true by simp [hm])
  clear hs hh hm
  go_enter Tryz.func175, Tryz.ntmps175
  go_wp2_with fail
  generalize w.alloc (.cells #[.int .i64 0, .int .i64 0, .int .i64 0, .int .i64 0] 110) = W0 at *
  refine (M1 _).mono ?_
  rintro e u1 ⟨rfl, b1⟩
  go_wp2_with fail
  refine (l2Tag_any M.upS _ _ _ _ _ _ (by decide) (R u1) (by simp) HA.out (by omega)).mono ?_
  rintro e u2 ⟨rfl, b2⟩
  go_wp2_with fail
  refine (l2Tag_any M.downS _ _ _ _ _ _ (by decide) (R u2) (by simp) HA.out (by omega)).mono ?_
  rintro e u3 ⟨rfl, b3⟩
  have b13 := btr (bal (btr (bal b1 _) b2) _) b3
  have q0 := (A0.on b13).cell 0 _ rfl
  have q1 := (A0.on b13).cell 1 _ rfl
  have q2 := (A0.on b13).cell 2 _ rfl
  have q3 := (A0.on b13).cell 3 _ rfl
  have z0 := (A0.on b13).free 0 _ rfl
  have z1 := (A0.on b13).free 1 _ rfl
  have z2 := (A0.on b13).free 2 _ rfl
  have z3 := (A0.on b13).free 3 _ rfl
  have HB := Lib.hid (btr b0 b13)
  clear A0 b0 b1 b2 b3 b13 M1 R HA
  go_wp2_with fail
  refine bodyPost_ret (v := K4 (M.tagL M.upS [m]) (M.tagL M.downS [m]) he pb) (by simp [results, Tryz.results175, go_sem, q0, q1, q2, q3]) rfl ⟨rfl, ?_⟩
  exact (by (iterate 4 (refine bset ?_ (by dsimp only; omega) _)); exact HB.out)
end Go.Proofs.YtlodhleihnlchaaGreatDoor
namespace Go.Proofs.YtlodhleihnlchaaGreatDoor
open Go.RowKit
set_option maxRecDepth 100000
set_option linter.unusedVariables false

end Go.Proofs.YtlodhleihnlchaaGreatDoor
namespace Go.Proofs.YtlodhleihnlchaaGreatDoor
open Go.RowKit

def marks (k : Int) (n : Nat) : List Int := (List.range n).map fun i : Nat => (k + (i : Int)) % 256
theorem marks_length (k : Int) (n : Nat) : (marks k n).length = n := by simp [marks]
theorem marks_at (k : Int) (n j : Nat) (h : j < n) : (marks k n)[j]? = some ((k + (j : Int)) % 256) := by simp [marks, h]
structure MarkRel (w : World) (g cap : Nat) (k : Int) (j : Nat) (wr : World) : Prop where
  grew : w.grownBy wr (some g)
  lt : g < wr.heap.size
  room : ∀ i, i < cap → (∃ u, wr.cell? ⟨g, i, none⟩ = some u) ∧ wr.frozen? ⟨g, i, none⟩ = false
  told : ∀ i, i < j → wr.cell? ⟨g, i, none⟩ = some (.int .u8 ((k + (i : Int)) % 256))
theorem MarkRel.step {w : World} {g cap : Nat} {k : Int} {j : Nat} {wr : World} (h : MarkRel w g cap k j wr) (hj : j < cap) : MarkRel w g cap k (j + 1) (wr.setCell ⟨g, j, none⟩ (.int .u8 ((k + (j : Int)) % 256))) := by
  refine ⟨⟨h.grew.os, h.grew.tape, h.grew.output, by simpa [World.setCell] using h.grew.size, fun i hi hne => (Below.heap_setCell wr _ _ i (fun e => hne (by subst e; rfl))).trans (h.grew.block i hi hne)⟩, by simpa [World.setCell] using h.lt, fun i hi => ?_, fun i hi => ?_⟩
  · obtain ⟨⟨u, hu⟩, hf⟩ := h.room i hi
    refine ⟨?_, by rw [World.frozen?_setCell]; exact hf⟩
    obtain ⟨v, hv⟩ := cell?_setCell_some (w := wr) (p := ⟨g, j, none⟩) (x := .int .u8 ((k + (j : Int)) % 256)) (q := ⟨g, i, none⟩) (v := u) hu
    exact ⟨v, hv⟩
  · rcases Nat.lt_or_ge i j with hlt | hge
    · rw [World.cell?_setCell_other _ _ _ _ (fun e => by injection e with _ e2; omega)]
      exact h.told i hlt
    · obtain rfl : i = j := by omega
      obtain ⟨⟨u, hu⟩, _⟩ := h.room i hj
      rw [World.cell?_setCell_same _ _ _ (by rw [hu])]
theorem MarkRel.own {w : World} {g cap : Nat} {k : Int} {n B : Nat} {wr : World} (h : MarkRel w g cap k n wr) (hB : B ≤ g) (hn : n ≤ cap) (hm : cap ≤ maxLen) : OwnK .u8 wr B (.slice (some ⟨g, 0, none⟩) n cap) (marks k n) := by
  unfold OwnK
  rw [marks_length]
  refine ⟨by simp [marks_length], .inr ⟨g, cap, rfl, hB, h.lt, hn, hm, fun j u hu => ?_, fun j hj => ?_⟩⟩
  · have hj := (List.getElem?_eq_some_iff.1 hu).1
    simp [marks_length] at hj
    rw [h.told j hj, ← hu]
    simp [marks_at k n j hj]
  · obtain ⟨⟨u, hu⟩, hf⟩ := h.room j (by omega)
    exact ⟨by rw [hu]; rfl, hf⟩

theorem OwnK.len {k : IntKind} {w : World} {B : Nat} {a : Option Addr} {len cap : Nat} {zs : List Int} (h : OwnK k w B (.slice a len cap) zs) : len = zs.length := by
  rcases h.2 with ⟨e, h0⟩ | ⟨g, c, e, _⟩
  · injection e with e1 e2 e3
    omega
  · injection e with e1 e2 e3

structure TwoRes (w : World) (c : Int) (zs : List Int) (p1 p2 : Nat) (a1 a2 : Option Addr) (n c1 c2 : Nat) (ms : List Int) (cur : World) : Prop where
  bel : Below w.heap.size w cur
  x0 : cur.cell? ⟨p1, 0, none⟩ = some (.int .i64 c)
  x1 : cur.cell? ⟨p1, 1, none⟩ = some (.slice a1 n c1)
  row : Row .u8 cur p1 a1 n c1 zs
  y0 : cur.cell? ⟨p2, 0, none⟩ = some (.int .i64 c)
  y1 : cur.cell? ⟨p2, 1, none⟩ = some (.slice a2 n c2)
  own : OwnK .u8 cur (p1 + 1) (.slice a2 n c2) ms
  old : w.heap.size ≤ p1
  sep : ∀ k, Value.ownBlock (.slice a2 n c2) = some k → k < p2
  ahead : p1 < p2
section
variable {w : World} {c : Int} {zs : List Int} {p1 p2 : Nat} {a1 a2 : Option Addr} {n c1 c2 : Nat} {ms : List Int} {cur cur' : World}
theorem TwoRes.lt1 (h : TwoRes w c zs p1 p2 a1 a2 n c1 c2 ms cur) : p1 < cur.heap.size := cell_lt h.x0
theorem TwoRes.lt2 (h : TwoRes w c zs p1 p2 a1 a2 n c1 c2 ms cur) : p2 < cur.heap.size := cell_lt h.y0
theorem TwoRes.on (h : TwoRes w c zs p1 p2 a1 a2 n c1 c2 ms cur) (hb : Below cur.heap.size cur cur') : TwoRes w c zs p1 p2 a1 a2 n c1 c2 ms cur' :=
  ⟨btr h.bel hb, cell_keep hb h.x0, cell_keep hb h.x1, h.row.below (hb.mono (by have := h.lt1; omega)), cell_keep hb h.y0, cell_keep hb h.y1, h.own.below hb, h.old, h.sep, h.ahead⟩
theorem TwoRes.new {u1 u2 : World} {t : TypeId} (b1 : Below w.heap.size w u1) (O1 : OwnK .u8 u1 w.heap.size (.slice a1 n c1) zs) (hw : ∀ z ∈ zs, (Lit.int .u8 z).wf = true)
    (b2 : Below (u1.alloc (.cells #[.int .i64 c, .slice a1 n c1] t)).heap.size (u1.alloc (.cells #[.int .i64 c, .slice a1 n c1] t)) u2) (O2 : OwnK .u8 u2 (u1.alloc (.cells #[.int .i64 c, .slice a1 n c1] t)).heap.size (.slice a2 n c2) zs) :
    TwoRes w c zs u1.heap.size u2.heap.size a1 a2 n c1 c2 zs (u2.alloc (.cells #[.int .i64 c, .slice a2 n c2] t)) := by
  have hs := b2.size
  simp at hs
  have x0 : (u1.alloc (.cells #[.int .i64 c, .slice a1 n c1] t)).cell? ⟨u1.heap.size, 0, none⟩ = some (.int .i64 c) := by simp
  have x1 : (u1.alloc (.cells #[.int .i64 c, .slice a1 n c1] t)).cell? ⟨u1.heap.size, 1, none⟩ = some (.slice a1 n c1) := by simp
  have b3 := bal b2 (.cells #[.int .i64 c, .slice a2 n c2] t)
  have R1 := Own.row O1 hw
  refine ⟨btr (bal b1 _) b3, cell_keep b3 x0, cell_keep b3 x1, ?_, by simp, by simp, ?_, b1.size, fun k hk => (O2.lt k hk).2, by omega⟩
  · exact (R1.alloc (Nat.le_refl _) _).below (b3.mono (by simp))
  · have := O2.alloc (.cells #[.int .i64 c, .slice a2 n c2] t)
    simpa [OwnK] using this
end

end Go.Proofs.YtlodhleihnlchaaGreatDoor
namespace Go.Proofs.YtlodhleihnlchaaGreatDoor
open Go.RowKit
set_option maxRecDepth 100000
set_option linter.unusedVariables false

def headW6 (m : Int) (zs : List Int) : List Int := m :: zs.flatMap M.two
def Head6Rel (w : World) (m : Int) (zs : List Int) (k : Nat) (v : Value) (wr : World) : Prop := OwnK .u8 wr w.heap.size v (headW6 m (zs.take k)) ∧ Below w.heap.size w wr
theorem headL_take (m : Int) (zs : List Int) (k : Nat) (hk : k < zs.length) : headW6 m (zs.take k) ++ M.two (zs[k]?.getD 0) = headW6 m (zs.take (k + 1)) := by
  have e : zs.take (k + 1) = zs.take k ++ [zs[k]] := List.take_succ_eq_append_getElem hk
  rw [e, List.getElem?_eq_getElem hk]
  simp only [headW6, List.flatMap_append, List.flatMap_cons, List.flatMap_nil, List.append_nil, List.cons_append, Option.getD_some]
theorem headL_length (m : Int) : ∀ zs : List Int, (headW6 m zs).length = 1 + 2 * zs.length
  | [] => rfl
  | z :: r => by
    have := headL_length m r
    simp only [headW6, List.length_cons, List.flatMap_cons, List.length_append, M.two, List.length_nil] at *
    omega
theorem Head6Rel.step {w w1 w2 : World} {m : Int} {zs : List Int} {k : Nat} {v v' : Value} (h : Head6Rel w m zs k v w1) (hk : k < zs.length) (ho : OwnK .u8 w2 w.heap.size v' (headW6 m (zs.take k) ++ M.two (zs[k]?.getD 0))) (hg : w1.grownBy w2 v.ownBlock) : Head6Rel w m zs (k + 1) v' w2 :=
  ⟨by rw [← headL_take m zs k hk]; exact ho, h.1.grown h.2 h.2.size hg⟩
theorem wordHead_any (m : Int) (a : Option Addr) (len cap B : Nat) (zs : List Int) (w : World) (hR : Row .i64 w B a len cap zs) (hB : B ≤ w.heap.size) (hz : zs.all M.sumB = true) (hl : len ≤ 10) :
    Calls Tryz.prog 260 #[.int .u8 m, .slice a len cap] w (Made (headW6 m zs) w) := by
  have hL := Lib.hid hR.length
  have HZ := Lib.hid hz
  have O0 : OwnK .u8 (w.alloc (.cells #[.int .u8 m] 5)) w.heap.size (.slice (some ⟨w.heap.size, 0, none⟩) 1 1) [m] := own_lit (k := .u8) w [m] 1 5 (Nat.le_refl _) rfl (by simp only [maxLen]; omega)
  have T1 : Head6Rel w m zs 0 (.slice (some ⟨w.heap.size, 0, none⟩) 1 1) (w.alloc (.cells #[.int .u8 m] 5)) := ⟨by simpa [headW6] using O0, bal (Below.refl _ _) _⟩
  clear hz O0
  go_enter Tryz.func260, Tryz.ntmps260
  go_wp2_with fail
  generalize w.alloc (.cells #[.int .u8 m] 5) = W0 at *
  go_loopw [5, 12] (fun v i wr => ∃ k : Nat, k ≤ len ∧ i = .int .i64 k ∧ Head6Rel w m zs k v wr) (fun _ i _ => len - (intOf i).toNat)
  case atStart => exact ⟨0, Nat.zero_le _, rfl, T1⟩
  case round =>
    obtain ⟨k, hk, rfl, hT⟩ := hrel
    by_cases hlt : k < len
    · obtain ⟨b, off, ha, hb, hc⟩ := hR.cells (by omega)
      have hcell := (hT.2.cell (p := ⟨b, off + k, none⟩) (by show b < _; omega)).trans (hc k hlt)
      simp only [List.getD_eq_getElem?_getD] at hcell
      clear hc
      have hzk : M.sumB (zs[k]?.getD 0) = true := List.all_eq_true.1 HZ.out _ (by simp [show k < zs.length by rw [hL.out]; exact hlt])
      have HK := Lib.hid hzk
      have hlen : (headW6 m (zs.take k)).length ≤ 1000000 := by rw [headL_length]; simp; omega
      subst ha
      clear hzk
      go_wp2_with fail
      refine (appendTwo_any _ _ _ _ _ hT.1 hT.2.size HK.out hlen).mono ?_
      rintro r w2 ⟨v2, rfl, ho2, hg2⟩
      have T2 := hT.step (by rw [hL.out]; exact hlt) ho2 hg2
      clear ho2 hg2 hT hcell HK hlen
      go_wp2_with fail
      go_roundw
      case rel => exact ⟨k + 1, by omega, by go_num, T2⟩
      case measure => simp [intOf]; omega
    · obtain rfl : k = len := by omega
      have hT' := hT
      rw [← hL.out] at hT'
      obtain ⟨ho, hb⟩ := hT'
      rw [List.take_length] at ho
      obtain ⟨a', c', hv, -⟩ := ho.form
      have HB := Lib.hid (And.intro ho hb)
      clear hT ho hb
      subst hv
      go_wp2_with fail
      go_ret
      exact ⟨_, _, _, rfl, HB.out.1, HB.out.2⟩

theorem bytes_cells (n : ByteArray) : (M.textL n).map (Value.int .u8) = byteCells n := by simp [M.textL, byteCells, List.map_map, Function.comp_def]
theorem wordBytes_hello (r s : Int) (n : ByteArray) (w : World) (h : helF n.data.toList r s = 0) :
    Calls Tryz.prog 195 #[.iface 26 (H3 r s n)] w (Made (packH n r s) w) := by
  obtain ⟨hr, hs, -⟩ := helF_zero h
  have hn := hel_size h
  have hss := pub_sum6 hs
  obtain ⟨i0, hi0, hz0, hz1, hz2⟩ := info_parts u8_info
  have ta : ∀ W : World, (Instr.typeAssert (.iface 26 (H3 r s n)) 157 26 true).run Tryz.prog W = .ok (.tuple #[H3 r s n, .bool true]) W := fun _ => by kernel_rfl
  have A0 := At.new w (HL3 r s n) 26
  have b0 := bal (Below.refl _ w) (.cells #[.int .i64 r, .int .i64 s, .string n] 26)
  have hall : [r, s].all M.sumB = true := by simp [hr, hss]
  clear h
  go_enter Tryz.func195, Tryz.ntmps195
  go_wp2_with fail
  generalize w.alloc (.cells #[.int .i64 r, .int .i64 s, .string n] 26) = W0 at *
  have d0 := A0.cell 0 _ rfl
  have d1 := A0.cell 1 _ rfl
  have d2 := A0.cell 2 _ rfl
  refine wp_region_line (Bel W0) [(0, true), (1, true), (2, true), (3, true), (6, true), (7, true), (4, false), (5, false), (8, false), (9, true)] (by kernel_rfl) (by kernel_rfl) (fun _ _ d _ _ h => by cases d <;> exact h) (Bel.drew W0) ?_
  have hst := Bel.drew W0
  have inst : Nonempty (Of (Bel W0)) := ⟨⟨_, hst⟩⟩
  have u0 := bel_cell d0
  have u1 := bel_cell d1
  have u2 := bel_cell d2
  generalize W0.drew = V1 at *
  iterate 6 (refine line_read rfl (by kernel_rfl) (fun K hK => ?_); go_big_quiet_op; refine hK _ ?_; clear hK K)
  refine line_alone rfl (by kernel_rfl) (fun K hK => ?_)
  go_big_op
  refine hK _ _ (hst.on (bal (Below.refl _ V1) _)) ?_
  clear hK K
  have st2 := hst.on (bal (Below.refl _ V1) (.cells #[.int .i64 r, .int .i64 s] 2))
  have R2 := row_two (w := V1) r s 2 hr hss
  have lt2 : V1.heap.size + 1 ≤ (V1.alloc (.cells #[.int .i64 r, .int .i64 s] 2)).heap.size := by simp
  generalize V1.alloc (.cells #[.int .i64 r, .int .i64 s] 2) = V2 at *
  refine line_alone rfl (by kernel_rfl) (fun K hK => ?_)
  refine call_any (args := #[.int .u8 1, .slice (some ⟨V1.heap.size, 0, none⟩) 2 2]) rfl (by kernel_rfl) (by kernel_rfl) (wordHead_any 1 _ 2 2 _ [r, s] V2 R2 lt2 hall (by omega)) ?_
  rintro e V3 ⟨a3, n3, c3, rfl, O3, b3⟩
  have l3 : n3 = 5 := O3.len
  subst l3
  have st3 := st2.on b3
  refine ⟨_, rfl, hK _ _ st3 ?_⟩
  clear hK K
  simp only [Act.put, List.setIfInBounds_toArray, List.set_cons_zero, List.set_cons_succ]
  have hz3 := b3.size
  refine line_alone rfl (by kernel_rfl) (fun K hK => ?_)
  refine wp_append_src _ (.tmp 15) (.tmp 17) 22 9 rfl V2.heap.size 5 i0 (.int .u8 0) 1 1 Tryz.underlying22 hi0 hz0 hz1 hz2 rfl _ _ _ rfl O3 _ n.size _ rfl (Src.ofString (P := Tryz.prog) V3 (tx := 9) Tryz.underlying9 n) (by rw [headL_length]; simp only [maxLen, List.length_cons, List.length_nil]; omega) (by rw [headL_length]; simp only [List.length_cons, List.length_nil]; omega) hz3 (fun v4 w4 hown hgrow hat => ?_)
  have b4 : Below V2.heap.size V2 w4 := Own.grown O3 b3 hz3 hgrow
  have O4 : OwnK .u8 w4 V2.heap.size v4 (packH n r s) := by
    have e : packH n r s = headW6 1 [r, s] ++ M.textL n := by simp [packH, helHead, headW6]
    unfold OwnK
    rw [e, List.length_append, M.textL_length, List.map_append, bytes_cells]
    exact hown
  have st4 := st2.on b4
  refine hK _ _ st4 ?_
  have B4 := btr b0 st4.out
  obtain ⟨a4, c4, hv4, -⟩ := O4.form
  have hle : w.heap.size ≤ V2.heap.size := (btr b0 st2.out).size
  have HT := Lib.hid (And.intro (O4.less hle) B4)
  clear hK K hown hgrow hat O3 O4 b3 b4 B4 st3 st4 st2
  subst hv4
  simp only [Act.put, List.setIfInBounds_toArray, List.set_cons_zero, List.set_cons_succ]
  iterate 1 (refine line_read rfl (by kernel_rfl) (fun K hK => ?_); go_big_quiet_op; refine hK _ ?_; clear hK K)
  refine line_nil ?_
  go_wp2_with fail
  go_ret
  exact ⟨_, _, _, rfl, HT.out.1, HT.out.2⟩
end Go.Proofs.YtlodhleihnlchaaGreatDoor
namespace Go.Proofs.YtlodhleihnlchaaGreatDoor
open Go.RowKit
set_option maxRecDepth 100000
set_option linter.unusedVariables false

theorem OwnK.src6 {w : World} {B : Nat} {a : Option Addr} {len cap : Nat} {zs : List Int} (h : OwnK .u8 w B (.slice a len cap) zs) (hz : ∀ z ∈ zs, M.byteB z) : Go.Src Tryz.prog 1 22 (.slice a len cap) len (zs.map (Value.int .u8)) w :=
  (Own.row h (fun z hm => byte_wf (hz z hm))).src Tryz.underlying22
theorem OwnK.kept6 {w w' : World} {B : Nat} {v : Value} {zs : List Int} {row : Option Nat} (h : OwnK .u8 w B v zs) (hg : w.grownBy w' row) (hne : ∀ k, row = some k → k < B) : OwnK .u8 w' B v zs :=
  Own.kept h hg (by
    cases hv : v.ownBlock with
    | none => exact .inl rfl
    | some k =>
      refine .inr fun e => ?_
      have h1 := (Own.lt h k hv).1
      have h2 := hne k e.symm
      omega)
theorem two_own (w : World) (s : Int) : OwnK .u8 (w.alloc (.cells #[.int .u8 (s / 256), .int .u8 (s % 256)] 5)) w.heap.size (.slice (some ⟨w.heap.size, 0, none⟩) 2 2) (M.two s) := own_lit (k := .u8) w (M.two s) 2 5 (Nat.le_refl _) rfl (by simp only [maxLen]; omega)
theorem text_own (w : World) (n : ByteArray) (hn : n.size ≤ maxLen) : OwnK .u8 (w.alloc (textObj w n 5)).drew w.heap.size (.slice (some ⟨w.heap.size, 0, none⟩) n.size (grownCap w n.size 0 5)) (M.textL n) := by
  have := (own_text w n 5 hn).drew
  unfold OwnK
  rw [M.textL_length]
  exact this

set_option maxHeartbeats 1000000 in
theorem l6PackHello_any (g : Nat) (r s : Int) (n : ByteArray) (w : World) (hA : At g (HL3 r s n) w) (h : helF n.data.toList r s = 0) :
    Calls Tryz.prog 91 #[.pointer (some ⟨g, 0, none⟩)] w (Made (packH n r s) w) := by
  obtain ⟨hr, hs, -⟩ := helF_zero h
  have hn := hel_size h
  have hnm : n.size ≤ maxLen := size_max hn
  have hss := pub_sum6 hs
  obtain ⟨i0, hi0, hz0, hz1, hz2⟩ := info_parts u8_info
  have hcv := fun (W : World) => run_bytes_of_string (P := Tryz.prog) W 9 22 5 n Tryz.underlying9 Tryz.underlying22 Tryz.underlying5
  have ltg := hA.lt (by simp)
  have d0 := hA.cell 0 _ rfl
  have d1 := hA.cell 1 _ rfl
  have d2 := hA.cell 2 _ rfl
  have b1 := bal (Below.refl _ w) (.cells #[.int .u8 1] 5)
  have O1 : OwnK .u8 (w.alloc (.cells #[.int .u8 1] 5)) w.heap.size (.slice (some ⟨w.heap.size, 0, none⟩) 1 1) [1] := own_lit (k := .u8) w [1] 1 5 (Nat.le_refl _) rfl (by simp only [maxLen]; omega)
  clear h
  go_enter Tryz.func91, Tryz.ntmps91
  go_wp2_with fail
  generalize w.alloc (.cells #[.int .u8 1] 5) = W1 at *
  refine (l1Two_any r _ hr).mono ?_
  rintro e w2 ⟨rfl, rfl⟩
  have O2 := Own.alloc O1 (.cells #[.int .u8 (r / 256), .int .u8 (r % 256)] 5)
  have b2 := bal b1 (.cells #[.int .u8 (r / 256), .int .u8 (r % 256)] 5)
  have hle := b2.size
  have hsrc := src_new (P := Tryz.prog) W1 [.int .u8 (r / 256), .int .u8 (r % 256)] 2 2 5 22 5 Tryz.underlying22 rfl (ints_oneCell .u8 [r / 256, r % 256])
  go_wp2_with (at_builtin; refine wpList_append_src _ rfl (.tmp 4) (.tmp 9) 22 22 rfl w.heap.size 5 i0 (.int .u8 0) 1 1 Tryz.underlying22 hi0 hz0 hz1 hz2 rfl _ 1 [.int .u8 1] rfl O2 _ 2 _ rfl hsrc (by simp only [maxLen]; omega) (by omega) hle ?_; intro v3 w3 hown hgrow hat)
  have b3 : Below w.heap.size w w3 := Own.grown O2 b2 hle hgrow
  have O3 : OwnK .u8 w3.drew w.heap.size v3 ([1] ++ M.two r) := by unfold OwnK; simpa [M.two] using hown.drew
  clear O1 O2 b1 b2 hle hsrc hown hgrow hat
  refine wp_region_fork (Bel w) (by kernel_rfl) (Bel.mk b3.drew) ?_
  have hst : (Bel w) _ := (Bel.mk b3.drew)
  have inst : Nonempty (Of (Bel w)) := ⟨⟨_, hst⟩⟩
  have u1 := bel_cell d1
  have u2 := bel_cell d2
  clear b3 d0 d1 d2
  generalize w3.drew = V1 at *
  refine any_seg 5 [(0, true), (1, true), (2, true), (3, true), (4, true), (7, true), (8, true), (9, true), (10, true)] (by kernel_rfl) (fun _ _ d _ _ h => by cases d <;> exact h) ?_
  iterate 9 (refine line_read rfl (by kernel_rfl) (fun K hK => ?_); go_big_quiet_op; refine hK _ ?_; clear hK K)
  refine line_nil ?_
  clear u1 u2
  refine any_fork 5 11 (by kernel_rfl) rfl rfl (by kernel_rfl) (by kernel_rfl) (fun K hK => ?_) (fun K hK => ?_)
  · refine call_any (args := #[.int .i64 s]) rfl (by kernel_rfl) (by kernel_rfl) (l1Two_any s _ hss) ?_
    rintro e w4 ⟨rfl, rfl⟩
    have st4 := hst.on (bal (Below.refl _ V1) (.cells #[.int .u8 (s / 256), .int .u8 (s % 256)] 5))
    have O4 : OwnK .u8 _ w.heap.size v3 ([1] ++ M.two r) := Own.alloc O3 (.cells #[.int .u8 (s / 256), .int .u8 (s % 256)] 5)
    have T4 := two_own V1 s
    refine ⟨_, rfl, hK _ _ st4 ?_⟩
    clear hK K
    simp only [Act.put, List.setIfInBounds_toArray, List.set_cons_zero, List.set_cons_succ]
    generalize V1.alloc (.cells #[.int .u8 (s / 256), .int .u8 (s % 256)] 5) = V4 at *
    refine any_fork 6 11 (by kernel_rfl) rfl rfl (by kernel_rfl) (by kernel_rfl) (fun K hK => ?_) (fun K hK => ?_)
    · refine wp_append_src _ (.tmp 11) (.tmp 16) 22 22 rfl w.heap.size 5 i0 (.int .u8 0) 1 1 Tryz.underlying22 hi0 hz0 hz1 hz2 rfl _ _ _ rfl O4 _ 2 _ rfl (T4.src6 (two_byte hss)) (by simp only [maxLen, M.two, List.length_append, List.length_cons, List.length_nil]; omega) (by simp only [M.two, List.length_append, List.length_cons, List.length_nil]; omega) st4.out.size (fun v5 w5 hown hgrow hat => ?_)
      have b5 : Below w.heap.size w w5 := Own.grown O4 st4.out st4.out.size hgrow
      have O5 : OwnK .u8 w5 w.heap.size v5 (helHead r s) := by unfold OwnK helHead; simpa [M.two] using hown
      refine hK _ _ ⟨b5⟩ ?_
      clear hK K hown hgrow hat O3 O4 T4 st4 hst
      simp only [Act.put, List.setIfInBounds_toArray, List.set_cons_zero, List.set_cons_succ]
      refine any_rest [(11, false), (12, false), (13, true)] (by kernel_rfl) (fun _ _ d _ _ h => by cases d <;> exact h) ?_
      refine line_alone rfl (by kernel_rfl) (fun K hK => ?_)
      have st5 : Bel w w5 := ⟨b5⟩
      go_big_op
      have st6 := st5.on (bal (Below.refl _ w5) (textObj w5 n 5)).drew
      have X6 := text_own w5 n hnm
      refine hK _ _ st6 ?_
      clear hK K
      have O6 : OwnK .u8 (w5.alloc (textObj w5 n 5)).drew w.heap.size v5 (helHead r s) := (Own.alloc O5 _).drew
      have hsrc := X6.src6 (M.textL_byte n)
      clear b5 O5 X6 st5
      refine line_alone rfl (by kernel_rfl) (fun K hK => ?_)
      refine wp_append_src _ (.tmp 17) (.tmp 22) 22 22 rfl w.heap.size 5 i0 (.int .u8 0) 1 1 Tryz.underlying22 hi0 hz0 hz1 hz2 rfl _ _ _ rfl O6 _ n.size _ rfl hsrc (by rw [helHead_length]; simp only [maxLen]; omega) (by rw [helHead_length]; omega) st6.out.size (fun v7 w7 hown hgrow hat => ?_)
      have b7 : Below w.heap.size w w7 := Own.grown O6 st6.out st6.out.size hgrow
      have O7 : OwnK .u8 w7 w.heap.size v7 (packH n r s) := by
        unfold OwnK packH
        rw [List.length_append, M.textL_length, List.map_append]
        exact hown
      refine hK _ _ ⟨b7⟩ ?_
      obtain ⟨a7, c7, hv7, -⟩ := O7.form
      have HT := Lib.hid (And.intro O7 b7)
      clear hK K hown hgrow hat O7 b7 O6 st6 hsrc
      subst hv7
      simp only [Act.put, List.setIfInBounds_toArray, List.set_cons_zero, List.set_cons_succ]
      iterate 1 (refine line_read rfl (by kernel_rfl) (fun K hK => ?_); go_big_quiet_op; refine hK _ ?_; clear hK K)
      refine line_nil ?_
      go_wp2_with fail
      go_ret
      exact ⟨_, _, _, rfl, HT.out.1, HT.out.2⟩
    · go_big_op
      have st5 := st4.on (bal (Below.refl _ V4) (textObj V4 n 5)).drew
      have X5 := text_own V4 n hnm
      refine hK _ _ st5 ?_
      clear hK K
      have O5' : OwnK .u8 (V4.alloc (textObj V4 n 5)).drew w.heap.size v3 ([1] ++ M.two r) := (Own.alloc O4 _).drew
      have T5 : OwnK .u8 (V4.alloc (textObj V4 n 5)).drew V1.heap.size (.slice (some ⟨V1.heap.size, 0, none⟩) 2 2) (M.two s) := (Own.alloc T4 _).drew
      have hk3 : ∀ k, v3.ownBlock = some k → k < V4.heap.size := fun k hk => (Own.lt O4 k hk).2
      refine any_rest [(6, false), (12, false), (13, true)] (by kernel_rfl) (fun _ _ d _ _ h => by cases d <;> exact h) ?_
      refine line_alone rfl (by kernel_rfl) (fun K hK => ?_)
      refine wp_append_src _ (.tmp 11) (.tmp 16) 22 22 rfl w.heap.size 5 i0 (.int .u8 0) 1 1 Tryz.underlying22 hi0 hz0 hz1 hz2 rfl _ _ _ rfl O5' _ 2 _ rfl (T5.src6 (two_byte hss)) (by simp only [maxLen, M.two, List.length_append, List.length_cons, List.length_nil]; omega) (by simp only [M.two, List.length_append, List.length_cons, List.length_nil]; omega) st5.out.size (fun v5 w5 hown hgrow hat => ?_)
      have b5 : Below w.heap.size w w5 := Own.grown O5' st5.out st5.out.size hgrow
      have O5 : OwnK .u8 w5 w.heap.size v5 (helHead r s) := by unfold OwnK helHead; simpa [M.two] using hown
      have X6 := X5.kept6 hgrow hk3
      refine hK _ _ ⟨b5⟩ ?_
      clear hK K hown hgrow hat O3 O4 T4 st4 hst O5' T5 st5 X5
      simp only [Act.put, List.setIfInBounds_toArray, List.set_cons_zero, List.set_cons_succ]
      have st6 : Bel w w5 := ⟨b5⟩
      have O6 := O5
      have hsrc := X6.src6 (M.textL_byte n)
      clear b5 O5 X6
      refine line_alone rfl (by kernel_rfl) (fun K hK => ?_)
      refine wp_append_src _ (.tmp 17) (.tmp 22) 22 22 rfl w.heap.size 5 i0 (.int .u8 0) 1 1 Tryz.underlying22 hi0 hz0 hz1 hz2 rfl _ _ _ rfl O6 _ n.size _ rfl hsrc (by rw [helHead_length]; simp only [maxLen]; omega) (by rw [helHead_length]; omega) st6.out.size (fun v7 w7 hown hgrow hat => ?_)
      have b7 : Below w.heap.size w w7 := Own.grown O6 st6.out st6.out.size hgrow
      have O7 : OwnK .u8 w7 w.heap.size v7 (packH n r s) := by
        unfold OwnK packH
        rw [List.length_append, M.textL_length, List.map_append]
        exact hown
      refine hK _ _ ⟨b7⟩ ?_
      obtain ⟨a7, c7, hv7, -⟩ := O7.form
      have HT := Lib.hid (And.intro O7 b7)
      clear hK K hown hgrow hat O7 b7 O6 st6 hsrc
      subst hv7
      simp only [Act.put, List.setIfInBounds_toArray, List.set_cons_zero, List.set_cons_succ]
      iterate 1 (refine line_read rfl (by kernel_rfl) (fun K hK => ?_); go_big_quiet_op; refine hK _ ?_; clear hK K)
      refine line_nil ?_
      go_wp2_with fail
      go_ret
      exact ⟨_, _, _, rfl, HT.out.1, HT.out.2⟩
  · go_big_op
    have st4 := hst.on (bal (Below.refl _ V1) (textObj V1 n 5)).drew
    have X4 := text_own V1 n hnm
    refine hK _ _ st4 ?_
    clear hK K
    have O4' : OwnK .u8 (V1.alloc (textObj V1 n 5)).drew w.heap.size v3 ([1] ++ M.two r) := (Own.alloc O3 _).drew
    have hk3 : ∀ k, v3.ownBlock = some k → k < V1.heap.size := fun k hk => (Own.lt O3 k hk).2
    have lt4 : V1.heap.size < (V1.alloc (textObj V1 n 5)).drew.heap.size := by simp
    generalize (V1.alloc (textObj V1 n 5)).drew = V4 at *
    refine any_rest [(5, false), (6, false), (12, false), (13, true)] (by kernel_rfl) (fun _ _ d _ _ h => by cases d <;> exact h) ?_
    refine line_alone rfl (by kernel_rfl) (fun K hK => ?_)
    have st4' := st4
    clear st4
    refine call_any (args := #[.int .i64 s]) rfl (by kernel_rfl) (by kernel_rfl) (l1Two_any s _ hss) ?_
    rintro e w4 ⟨rfl, rfl⟩
    have st4 := st4'.on (bal (Below.refl _ V4) (.cells #[.int .u8 (s / 256), .int .u8 (s % 256)] 5))
    have O4 : OwnK .u8 _ w.heap.size v3 ([1] ++ M.two r) := Own.alloc O4' (.cells #[.int .u8 (s / 256), .int .u8 (s % 256)] 5)
    have T4 := two_own V4 s
    refine ⟨_, rfl, hK _ _ st4 ?_⟩
    clear hK K
    simp only [Act.put, List.setIfInBounds_toArray, List.set_cons_zero, List.set_cons_succ]
    have X5 : OwnK .u8 (V4.alloc (.cells #[.int .u8 (s / 256), .int .u8 (s % 256)] 5)) V1.heap.size (.slice (some ⟨V1.heap.size, 0, none⟩) n.size (grownCap V1 n.size 0 5)) (M.textL n) := Own.alloc X4 _
    refine line_alone rfl (by kernel_rfl) (fun K hK => ?_)
    refine wp_append_src _ (.tmp 11) (.tmp 16) 22 22 rfl w.heap.size 5 i0 (.int .u8 0) 1 1 Tryz.underlying22 hi0 hz0 hz1 hz2 rfl _ _ _ rfl O4 _ 2 _ rfl (T4.src6 (two_byte hss)) (by simp only [maxLen, M.two, List.length_append, List.length_cons, List.length_nil]; omega) (by simp only [M.two, List.length_append, List.length_cons, List.length_nil]; omega) st4.out.size (fun v5 w5 hown hgrow hat => ?_)
    have b5 : Below w.heap.size w w5 := Own.grown O4 st4.out st4.out.size hgrow
    have O5 : OwnK .u8 w5 w.heap.size v5 (helHead r s) := by unfold OwnK helHead; simpa [M.two] using hown
    have X6 := X5.kept6 hgrow hk3
    refine hK _ _ ⟨b5⟩ ?_
    clear hK K hown hgrow hat O3 O4 T4 st4 hst O4' st4' X4 X5
    simp only [Act.put, List.setIfInBounds_toArray, List.set_cons_zero, List.set_cons_succ]
    have st6 : Bel w w5 := ⟨b5⟩
    have O6 := O5
    have hsrc := X6.src6 (M.textL_byte n)
    clear b5 O5 X6
    refine line_alone rfl (by kernel_rfl) (fun K hK => ?_)
    refine wp_append_src _ (.tmp 17) (.tmp 22) 22 22 rfl w.heap.size 5 i0 (.int .u8 0) 1 1 Tryz.underlying22 hi0 hz0 hz1 hz2 rfl _ _ _ rfl O6 _ n.size _ rfl hsrc (by rw [helHead_length]; simp only [maxLen]; omega) (by rw [helHead_length]; omega) st6.out.size (fun v7 w7 hown hgrow hat => ?_)
    have b7 : Below w.heap.size w w7 := Own.grown O6 st6.out st6.out.size hgrow
    have O7 : OwnK .u8 w7 w.heap.size v7 (packH n r s) := by
      unfold OwnK packH
      rw [List.length_append, M.textL_length, List.map_append]
      exact hown
    refine hK _ _ ⟨b7⟩ ?_
    obtain ⟨a7, c7, hv7, -⟩ := O7.form
    have HT := Lib.hid (And.intro O7 b7)
    clear hK K hown hgrow hat O7 b7 O6 st6 hsrc
    subst hv7
    simp only [Act.put, List.setIfInBounds_toArray, List.set_cons_zero, List.set_cons_succ]
    iterate 1 (refine line_read rfl (by kernel_rfl) (fun K hK => ?_); go_big_quiet_op; refine hK _ ?_; clear hK K)
    refine line_nil ?_
    go_wp2_with fail
    go_ret
    exact ⟨_, _, _, rfl, HT.out.1, HT.out.2⟩

end Go.Proofs.YtlodhleihnlchaaGreatDoor
namespace Go.Proofs.YtlodhleihnlchaaGreatDoor
open Go.RowKit
set_option maxRecDepth 100000

theorem signer_split {s t : Int} (h : (inB s 1 1438 && M.sumB t) = true) : inB s 1 1438 = true ∧ M.sumB t = true := by simpa using h

theorem implSignSum_any (s t : Int) (w : World) (hL : Labels w) (hg : ErrT w) :
    Calls Tryz.prog 162 #[.int .i64 s, .int .i64 t] w fun r w' => r = .returned (I3 (M.signR s t).1 (M.signR s t).2.1 (M.signR s t).2.2) ∧ Below w.heap.size w w' := by
  cases h : (inB s 1 1438 && M.sumB t)
  · have E : M.signR s t = (3, 0, 0) := by simp only [M.signR, h]; rfl
    rw [E]; clear E
    go_enter Tryz.func162, Tryz.ntmps162
    go_wp2_with fail
    refine (fitSigner_no s t _ h).mono ?_
    rintro r w1 ⟨m, rfl, hb1⟩
    have hR1 := (Res3.new w _).on hb1
    have hb1' := btr (bal (Below.refl _ w) _) hb1
    have hg1 := hg.on hb1'
    clear hg hL hb1
    go_wp2_with fail
    refine (codeOf_mis _ _ _ hg1).mono ?_
    rintro r w2 ⟨rfl, hb2⟩
    obtain ⟨q0, q1, q2, z0, z1, z2⟩ := hR1.on hb2
    have hb := btr hb1' hb2
    clear hR1 hg1 hb1' hb2
    go_wp2_with fail
    exact bodyPost_ret (v := I3 3 0 0) (by simp [results, Tryz.results162, go_sem, q0, q1, q2]) rfl ⟨rfl, bset (bset (bset hb (Nat.le_refl _) _) (Nat.le_refl _) _) (Nat.le_refl _) _⟩
  · obtain ⟨hs, ht⟩ := signer_split h
    have E : M.signR s t = (0, M.sigPt s t, M.sigPr s t) := by simp only [M.signR, h]; rfl
    rw [E]; clear E h
    have hs' := hs
    simp only [inB, decide_eq_true_eq] at hs'
    obtain ⟨s0, s1⟩ := hs'
    have hS := M.sum_of_sec hs
    obtain ⟨n0, n1⟩ := M.nonceN_bd s t
    obtain ⟨c0, c1⟩ := M.chalN_bd (M.pubN s) (M.sigPt s t) t
    have hp1 := M.pow_sum (a := 4) s.toNat
    have hp2 := M.pow_sum (a := 4) (M.nonceN s t).toNat
    have ep : M.pw 4 s.toNat 2879 = M.pubN s := rfl
    have eq : M.pw 4 (M.nonceN s t).toNat 2879 = M.sigPt s t := rfl
    rw [ep] at hp1
    rw [eq] at hp2
    have er : M.sigPr s t = (M.nonceN s t + M.chalN (M.pubN s) (M.sigPt s t) t * s % 1439) % 1439 := by unfold M.sigPr; omega
    obtain ⟨m0, m1⟩ := M.mod_bd (M.chalN (M.pubN s) (M.sigPt s t) t * s) (m := 1439) (by omega)
    rw [er]
    clear er hg
    generalize M.sigPt s t = P at *
    generalize M.pubN s = U at *
    go_enter Tryz.func162, Tryz.ntmps162
    go_wp2_with fail
    refine (fitSigner_yes s t _ hs ht).mono ?_
    rintro r w' ⟨rfl, rfl⟩
    go_wp2_with fail
    have hL0 := fun o => hL.on (bal (Below.refl _ w) o)
    refine (nonce_any s t _ (hL0 _) hS ht).mono ?_
    rintro r w1 ⟨rfl, hb0⟩
    have hR1 := (Res3.new w _).on hb0
    have hb1 := btr (bal (Below.refl _ w) _) hb0
    clear hL0 hb0
    go_wp2_with fail
    refine (power_int _ _ _ _ (by omega) (by omega) (by omega) (by omega) (by omega) (by omega)).mono ?_
    rintro r w2 ⟨rfl, hb2⟩
    rw [ep]
    go_wp2_with fail
    refine (power_int _ _ _ _ (by omega) (by omega) (by omega) (by omega) (by omega) (by omega)).mono ?_
    rintro r w3 ⟨rfl, hb3⟩
    rw [eq]
    have hb4 := btr (btr hb1 hb2) hb3
    have hR4 := (hR1.on hb2).on hb3
    have hL4 := hL.on hb4
    clear hL hR1 hb1 hb2 hb3 ep eq
    go_wp2_with fail
    refine (challenge_any _ _ _ _ hL4 hp1 hp2 ht).mono ?_
    rintro r w5 ⟨rfl, hb5⟩
    have hb6 := btr hb4 hb5
    have hR6 := (hR4.on hb5).on (bal (Below.refl _ _) (.cells #[.int .i64 (M.chalN U P t), .int .i64 s] 2))
    clear hL4 hR4 hb4 hb5
    go_wp2_with fail
    refine (product_two 1439 (M.chalN U P t) s _ _ (by omega) (by omega) (by omega) (by omega) (by omega) (by omega) (by go_simp) (by go_simp)).mono ?_
    rintro r w7 ⟨rfl, rfl⟩
    obtain ⟨q0, q1, q2, z0, z1, z2⟩ := hR6
    go_wp2_with fail
    exact bodyPost_ret (v := I3 0 P ((M.nonceN s t + M.chalN U P t * s % 1439) % 1439)) (by simp [results, Tryz.results162, go_sem, q0, q1, q2]) rfl ⟨rfl, bset (bset (bset (bal hb6 _) (Nat.le_refl _) _) (Nat.le_refl _) _) (Nat.le_refl _) _⟩
end Go.Proofs.YtlodhleihnlchaaGreatDoor
