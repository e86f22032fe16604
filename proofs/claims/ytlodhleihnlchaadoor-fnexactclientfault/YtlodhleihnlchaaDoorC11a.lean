/- Contracts of the walk from what two share to their numbers, by the program and by its model. Conditions: as each theorem states. -/
import Derived.Test.YtlodhleihnlchaaDoorC2e
import Derived.Test.YtlodhleihnlchaaDoorG2
import Derived.Test.YtlodhleihnlchaaDoorMath11
namespace Go.Proofs.YtlodhleihnlchaaDoor
open Go.RowKit
set_option maxRecDepth 100000
set_option linter.unusedVariables false

/-- A call of a function value, by its contract. -/
theorem call_val {P : Program} {o : Oper} {a : Act} {w : World} {Q : Exit → Act → World → Prop} {K : Act → World → Prop} {x : Operand} {f : FuncId} {cap : Array Value} {xs : Array Operand} {ts : Array TypeId} {args : Array Value} {R : Ending → World → Prop} (ho : o.op = Op.call { callee := .value x, args := xs, argTypes := ts }) (hx : a.eval x = .func (.func f) #[] cap) (hf : callsB P f = true) (hargs : xs.map a.eval ++ cap = args)
    (h : Calls P f args w R) (hK : ∀ e w', R e w' → ∃ v, e = .returned v ∧ K (a.put o.dst v) w') : o.wp P a w K Q := by
  have e : (execOp a.eval o).run P w = .ok (.enter f args) w := by
    unfold execOp
    simp only [ho, resolve, hx, Deferred.ofValue, Sem.run_bind, Sem.run_pure, Result.andThen_ok, invoke]
    simpa [hargs] using run_callFunc_body hf args w
  unfold Oper.wp
  rw [e]
  exact h.mono fun e w' hR => by
    obtain ⟨v, he, hk⟩ := hK e w' hR
    subst he
    exact hk

theorem l11Master_any (sh he : Int) (w : World) (hs : M.sumB sh = true) (hh : M.sumB he = true) :
    Calls Tryd.prog 54 #[.int .i64 sh, .int .i64 he] w fun r w' => r = .returned (.int .i64 (masterN sh he)) ∧ Below w.heap.size w w' := by
  have hR := row_two (w := w) sh he 2 hs hh
  have HA := Lib.hid (show [sh, he].all M.sumB = true by simp [hs, hh])
  obtain ⟨t0, t1⟩ := M.tagL_bd M.masterS [sh, he]
  unfold masterN
  clear hs hh
  go_enter Tryd.func54, Tryd.ntmps54
  go_wp2_with fail
  refine (l2Tag_any M.masterS _ _ _ _ _ _ (by decide) hR (by simp) HA.out (by omega)).mono ?_
  rintro r w2 ⟨rfl, hb2⟩
  have hb := btr (bal (Below.refl _ _) _) hb2
  clear hb2 hR HA
  go_wp2_with fail
  go_ret
  exact ⟨rfl, hb⟩
theorem l11Finish_any (sh he : Int) (w : World) (hs : M.sumB sh = true) (hh : M.sumB he = true) :
    Calls Tryd.prog 39 #[.int .i64 sh, .int .i64 he] w fun r w' => r = .returned (.int .i64 (finN sh he)) ∧ Below w.heap.size w w' := by
  have M1 := fun w => l11Master_any sh he w hs hh
  have hm := masterN_sum sh he
  unfold finN
  generalize masterN sh he = m at *
  have R := fun w : World => row_one0 (w := w) m 2 hm
  have HA := Lib.hid (show [m].all M.sumB = true by simp [hm])
  obtain ⟨t0, t1⟩ := M.tagL_bd M.finishS [m]
  clear hs hh hm
  go_enter Tryd.func39, Tryd.ntmps39
  go_wp2_with fail
  refine (M1 _).mono ?_
  rintro r w1 ⟨rfl, hb1⟩
  go_wp2_with fail
  refine (l2Tag_any M.finishS _ _ _ _ _ _ (by decide) (R w1) (by simp) HA.out (by omega)).mono ?_
  rintro r w2 ⟨rfl, hb2⟩
  have hb := btr (bal hb1 _) hb2
  clear hb1 hb2 R HA M1
  go_wp2_with fail
  go_ret
  exact ⟨rfl, hb⟩

/-- The walk from a master that lies in block b. -/
abbrev walkV (b : Nat) : Value := .func (.func 57) #[] #[.pointer (some ⟨b, 0, none⟩)]
def WalkAt (m : Int) (w : World) (r : Ending) (w' : World) : Prop := ∃ b, r = .returned (walkV b) ∧ At b [.int .i64 m] w' ∧ Below w.heap.size w w'
theorem walkFrom_any (sh he : Int) (w : World) (lab : Labels w) (hs : M.sumB sh = true) (hh : M.sumB he = true) :
    Calls Tryd.prog 36 #[.int .i64 sh, .int .i64 he] w (WalkAt (masterN sh he) w) := by
  have hmf : ∀ (fn : Fn) (first cap : Array Value) (w : World), (Instr.makeFunc fn first cap).run Tryd.prog w = .ok (.func fn first cap) w := fun _ _ _ _ => rfl
  have hlab := lab.masterW
  have hlt := lab.lt
  have hR := row_two (w := w) sh he 2 hs hh
  have HA := Lib.hid (show [sh, he].all M.sumB = true by simp [hs, hh])
  obtain ⟨t0, t1⟩ := M.tagL_bd M.masterS [sh, he]
  unfold masterN
  clear lab hs hh
  go_enter Tryd.func36, Tryd.ntmps36
  go_wp2_with fail
  refine (sumTagged_any _ _ _ _ _ _ _ (by decide) hR (by simp) HA.out (by omega)).mono ?_
  rintro r w2 ⟨rfl, hb2⟩
  have hb := btr (bal (Below.refl _ _) _) hb2
  clear hb2 hR hlab HA
  go_wp2_with fail
  go_ret
  exact ⟨w2.heap.size, rfl, At.new w2 [.int .i64 (M.tagL M.masterS [sh, he])] 2, bal hb _⟩
theorem walk_fin (b : Nat) (m : Int) (w : World) (lab : Labels w) (hA : At b [.int .i64 m] w) (hm : M.sumB m = true) :
    Calls Tryd.prog 57 #[.int .i64 10, .pointer (some ⟨b, 0, none⟩)] w fun r w' => r = .returned (.int .i64 (M.tagL M.finishS [m])) ∧ Below w.heap.size w w' := by
  have hl : M.labB M.finishS = true := by decide +kernel
  have hk : M.keyD m M.finishS = (0, M.tagL M.finishS [m]) := by simp only [M.keyD, hm, hl]; rfl
  have F1 := fun w => implDeriveKey_any m M.finishS w (by decide)
  rw [hk] at F1
  have d0 := hA.cell 0 _ rfl
  have hlab := lab.finishW
  have hlt := lab.lt
  generalize M.tagL M.finishS [m] = v at *
  clear hl hk hm
  have f1 := fld1
  go_enter Tryd.func57, Tryd.ntmps57
  go_wp2_with fail
  refine wp_region_line (Bel w) [(0, true), (1, true), (2, true), (3, true), (4, false), (5, true), (6, true)] (by kernel_rfl) (by kernel_rfl) (fun _ _ d _ _ h => by cases d <;> exact h) (Bel.drew w) ?_
  have hst := Bel.drew w
  have inst : Nonempty (Of (Bel w)) := ⟨⟨_, hst⟩⟩
  have q0 := bel_cell d0
  have q1 := bel_cell hlab
  iterate 4 (refine line_read rfl (by kernel_rfl) (fun K hK => ?_); go_big_quiet_op; refine hK _ ?_; clear hK K)
  refine line_alone rfl (by kernel_rfl) (fun K hK => ?_)
  refine call_wp (args := #[.int .i64 m, .string M.finishS]) rfl (by kernel_rfl) (by kernel_rfl) (F1 _) (fun wn hbn => ?_)
  have hst2 := hst.on hbn
  refine hK _ _ hst2 ?_
  clear hK K hst hbn
  have hst := hst2
  clear hst2
  simp only [Act.put, List.setIfInBounds_toArray, List.set_cons_zero, List.set_cons_succ]
  iterate 2 (refine line_read rfl (by kernel_rfl) (fun K hK => ?_); go_big_quiet_op; refine hK _ ?_; clear hK K)
  refine line_nil ?_
  have hb := hst.out
  clear hst
  go_wp2_with fail
  go_ret
  exact ⟨rfl, hb⟩

theorem walk_up (b : Nat) (m : Int) (w : World) (lab : Labels w) (hA : At b [.int .i64 m] w) (hm : M.sumB m = true) :
    Calls Tryd.prog 57 #[.int .i64 11, .pointer (some ⟨b, 0, none⟩)] w fun r w' => r = .returned (.int .i64 (M.tagL M.upS [m])) ∧ Below w.heap.size w w' := by
  have hl : M.labB M.upS = true := by decide +kernel
  have hk : M.keyD m M.upS = (0, M.tagL M.upS [m]) := by simp only [M.keyD, hm, hl]; rfl
  have F1 := fun w => implDeriveKey_any m M.upS w (by decide)
  rw [hk] at F1
  have d0 := hA.cell 0 _ rfl
  have hlab := lab.upW
  have hlt := lab.lt
  generalize M.tagL M.upS [m] = v at *
  clear hl hk hm
  have f1 := fld1
  go_enter Tryd.func57, Tryd.ntmps57
  go_wp2_with fail
  refine wp_region_line (Bel w) [(0, true), (1, true), (2, true), (3, true), (4, false), (5, true), (6, true)] (by kernel_rfl) (by kernel_rfl) (fun _ _ d _ _ h => by cases d <;> exact h) (Bel.drew w) ?_
  have hst := Bel.drew w
  have inst : Nonempty (Of (Bel w)) := ⟨⟨_, hst⟩⟩
  have q0 := bel_cell d0
  have q1 := bel_cell hlab
  iterate 4 (refine line_read rfl (by kernel_rfl) (fun K hK => ?_); go_big_quiet_op; refine hK _ ?_; clear hK K)
  refine line_alone rfl (by kernel_rfl) (fun K hK => ?_)
  refine call_wp (args := #[.int .i64 m, .string M.upS]) rfl (by kernel_rfl) (by kernel_rfl) (F1 _) (fun wn hbn => ?_)
  have hst2 := hst.on hbn
  refine hK _ _ hst2 ?_
  clear hK K hst hbn
  have hst := hst2
  clear hst2
  simp only [Act.put, List.setIfInBounds_toArray, List.set_cons_zero, List.set_cons_succ]
  iterate 2 (refine line_read rfl (by kernel_rfl) (fun K hK => ?_); go_big_quiet_op; refine hK _ ?_; clear hK K)
  refine line_nil ?_
  have hb := hst.out
  clear hst
  go_wp2_with fail
  go_ret
  exact ⟨rfl, hb⟩

theorem walk_down (b : Nat) (m : Int) (w : World) (lab : Labels w) (hA : At b [.int .i64 m] w) (hm : M.sumB m = true) :
    Calls Tryd.prog 57 #[.int .i64 12, .pointer (some ⟨b, 0, none⟩)] w fun r w' => r = .returned (.int .i64 (M.tagL M.downS [m])) ∧ Below w.heap.size w w' := by
  have hl : M.labB M.downS = true := by decide +kernel
  have hk : M.keyD m M.downS = (0, M.tagL M.downS [m]) := by simp only [M.keyD, hm, hl]; rfl
  have F1 := fun w => implDeriveKey_any m M.downS w (by decide)
  rw [hk] at F1
  have d0 := hA.cell 0 _ rfl
  have hlab := lab.downW
  have hlt := lab.lt
  generalize M.tagL M.downS [m] = v at *
  clear hl hk hm
  have f1 := fld1
  go_enter Tryd.func57, Tryd.ntmps57
  go_wp2_with fail
  refine wp_region_line (Bel w) [(0, true), (1, true), (2, true), (3, true), (4, false), (5, true), (6, true)] (by kernel_rfl) (by kernel_rfl) (fun _ _ d _ _ h => by cases d <;> exact h) (Bel.drew w) ?_
  have hst := Bel.drew w
  have inst : Nonempty (Of (Bel w)) := ⟨⟨_, hst⟩⟩
  have q0 := bel_cell d0
  have q1 := bel_cell hlab
  iterate 4 (refine line_read rfl (by kernel_rfl) (fun K hK => ?_); go_big_quiet_op; refine hK _ ?_; clear hK K)
  refine line_alone rfl (by kernel_rfl) (fun K hK => ?_)
  refine call_wp (args := #[.int .i64 m, .string M.downS]) rfl (by kernel_rfl) (by kernel_rfl) (F1 _) (fun wn hbn => ?_)
  have hst2 := hst.on hbn
  refine hK _ _ hst2 ?_
  clear hK K hst hbn
  have hst := hst2
  clear hst2
  simp only [Act.put, List.setIfInBounds_toArray, List.set_cons_zero, List.set_cons_succ]
  iterate 2 (refine line_read rfl (by kernel_rfl) (fun K hK => ?_); go_big_quiet_op; refine hK _ ?_; clear hK K)
  refine line_nil ?_
  have hb := hst.out
  clear hst
  go_wp2_with fail
  go_ret
  exact ⟨rfl, hb⟩

end Go.Proofs.YtlodhleihnlchaaDoor
