/- Texts of this seat that several laws rest on, laid into one. Conditions: as each theorem states. -/
import Derived.Test.YtlodhleihnlchaaGreatDoorH1
import Derived.Test.YtlodhleihnlchaaGreatDoorH2
import Derived.Test.YtlodhleihnlchaaGreatDoorH3
import Derived.Test.YtlodhleihnlchaaGreatDoorH4
import Derived.Test.YtlodhleihnlchaaGreatDoorH5
import Derived.Test.YtlodhleihnlchaaGreatDoorH6
import Derived.Test.YtlodhleihnlchaaGreatDoorH7
import Derived.Test.YtlodhleihnlchaaGreatDoorProg
import Derived.Shelf.Small.Strs
import Derived.Shelf.Small.Bits
import Derived.Shelf.SlSortCmp.SmallK
import Derived.Sort.LotA
namespace Go.Proofs.YtlodhleihnlchaaGreatDoor
open Go.Shelf
end Go.Proofs.YtlodhleihnlchaaGreatDoor
namespace Go.Proofs.YtlodhleihnlchaaGreatDoor
open Go.RowKit Go.Maps Go.Sort Go.Shelf
set_option maxRecDepth 100000
set_option linter.unusedVariables false

theorem flatK_get (ps : List PinD) (t : Nat) (h : t < ps.length * 5) : (flatK PinD.vals 5 ps.toArray)[t]! = ((ps[t / 5]?.getD pin0).vals)[t % 5]! := by
  rw [get_flatK _ _ _ _ (by simpa using h)]
  have h5 : t / 5 < ps.length := by omega
  congr 2
  simp [h5]
theorem vals_get (p : PinD) {i : Nat} (hi : i < 5) : p.vals[i]? = some p.vals[i]! := by
  rw [List.getElem?_eq_getElem (by rw [PinD.vals_length]; exact hi), List.getElem!_eq_getElem?_getD, List.getElem?_eq_getElem (by rw [PinD.vals_length]; exact hi)]
  rfl
theorem OwnP.holds {w : World} {B g n c : Nat} {ps : List PinD} (h : OwnP w B (.slice (some ⟨g, 0, none⟩) n c) ps) : HoldsK PinD.vals 5 w g 0 ps.toArray := by
  intro j hj
  rw [size_flatK] at hj
  have hj' : j < ps.length * 5 := by simpa using hj
  have h5 : j / 5 < ps.length := by omega
  have hm : j % 5 < 5 := Nat.mod_lt _ (by omega)
  have hjj : j / 5 * 5 + j % 5 = j := by omega
  rw [flatK_get ps j hj']
  have := h.cell h5 (vals_get (ps[j / 5]?.getD pin0) hm)
  rw [hjj] at this
  rw [Nat.zero_add]
  exact this
end Go.Proofs.YtlodhleihnlchaaGreatDoor
namespace Go.Proofs.YtlodhleihnlchaaGreatDoor
open Go.RowKit
set_option maxRecDepth 100000
set_option linter.unusedVariables false

end Go.Proofs.YtlodhleihnlchaaGreatDoor
namespace Go.Proofs.YtlodhleihnlchaaGreatDoor
open Go.RowKit
set_option maxRecDepth 100000
set_option linter.unusedVariables false

end Go.Proofs.YtlodhleihnlchaaGreatDoor
namespace Go.Proofs.YtlodhleihnlchaaGreatDoor
open Go.RowKit
set_option maxRecDepth 100000
set_option linter.unusedVariables false

end Go.Proofs.YtlodhleihnlchaaGreatDoor
namespace Go.Proofs.YtlodhleihnlchaaGreatDoor
open Go.RowKit
set_option maxRecDepth 100000
set_option linter.unusedVariables false

structure DrwP (w0 : World) (a : Option Addr) (len cap : Nat) (zs : List Int) (p : Nat) (w : World) (rb : Nat) (rs : List Value) (cur : World) : Prop where
  draw : Draw w0 a len cap zs p cur
  grew : w.grownBy cur (some w0.heap.size)
  res : At rb rs cur
section
variable {w0 : World} {a : Option Addr} {len cap : Nat} {zs : List Int} {p p' : Nat} {w : World} {rb tb : Nat} {rs cs : List Value} {cur cur' : World}
theorem DrwP.only (h : DrwP w0 a len cap zs p w rb rs cur) (hO : Only w0.heap.size cur cur') (D : Draw w0 a len cap zs p' cur') (h1 : rb ≠ w0.heap.size) : DrwP w0 a len cap zs p' w rb rs cur' :=
  ⟨D, gtr h.grew hO.grown, h.res.only5 hO h1⟩
theorem DrwP.kept (h : DrwP w0 a len cap zs p w rb rs cur) (hO : cur.grownBy cur' (some w0.heap.size)) (D : Draw w0 a len cap zs p' cur') (h1 : rb ≠ w0.heap.size) : DrwP w0 a len cap zs p' w rb rs cur' :=
  ⟨D, gtr h.grew hO, h.res.kept hO (fun e => by injection e with e; exact h1 e)⟩
theorem DrwP.on (h : DrwP w0 a len cap zs p w rb rs cur) (hb : Below cur.heap.size cur cur') : DrwP w0 a len cap zs p w rb rs cur' := ⟨h.draw.below hb, gbe h.grew hb, h.res.on hb⟩
theorem DrwP.alloc (h : DrwP w0 a len cap zs p w rb rs cur) (o : Obj) : DrwP w0 a len cap zs p w rb rs (cur.alloc o) := ⟨h.draw.alloc o, gal h.grew o, h.res.alloc o⟩
structure BentP (w0 : World) (a : Option Addr) (len cap : Nat) (zs : List Int) (p : Nat) (w : World) (rb : Nat) (rs : List Value) (tb : Nat) (cs : List Value) (cur : World) : Prop where
  drw : DrwP w0 a len cap zs p w rb rs cur
  one : At tb cs cur
theorem BentP.only (h : BentP w0 a len cap zs p w rb rs tb cs cur) (hO : Only w0.heap.size cur cur') (D : Draw w0 a len cap zs p' cur') (h1 : rb ≠ w0.heap.size) (h2 : tb ≠ w0.heap.size) : BentP w0 a len cap zs p' w rb rs tb cs cur' :=
  ⟨h.drw.only hO D h1, h.one.only5 hO h2⟩
theorem BentP.kept (h : BentP w0 a len cap zs p w rb rs tb cs cur) (hO : cur.grownBy cur' (some w0.heap.size)) (D : Draw w0 a len cap zs p' cur') (h1 : rb ≠ w0.heap.size) (h2 : tb ≠ w0.heap.size) : BentP w0 a len cap zs p' w rb rs tb cs cur' :=
  ⟨h.drw.kept hO D h1, h.one.kept hO (fun e => by injection e with e; exact h2 e)⟩
theorem BentP.alloc (h : BentP w0 a len cap zs p w rb rs tb cs cur) (o : Obj) : BentP w0 a len cap zs p w rb rs tb cs (cur.alloc o) := ⟨h.drw.alloc o, h.one.alloc o⟩
theorem BentP.put (i : Nat) (x : Value) (h : BentP w0 a len cap zs p w rb rs tb cs cur) (h1 : rb ≠ tb) (h2 : w0.heap.size < tb) (h3 : w.heap.size ≤ tb) : BentP w0 a len cap zs p w rb rs tb (cs.set i x) (cur.setCell ⟨tb, i, none⟩ x) :=
  ⟨⟨h.drw.draw.put h2 x, gset h.drw.grew h3 x, h.drw.res.setB (p := ⟨tb, i, none⟩) h1 x⟩, h.one.set i x⟩
end
theorem dl7Public {w0 : World} {a : Option Addr} {len cap : Nat} {zs : List Int} {p : Nat} {w : World} (D : Draw w0 a len cap zs p w) (hp : p ≤ 1000) :
    Calls Tryz.prog 172 #[.pointer (some ⟨w0.heap.size, 0, none⟩)] w fun r w' => ∃ v : Int, pubB v = true ∧ r = .returned (.int .i64 v) ∧ Draw w0 a len cap zs (p + 1) w' ∧ w.grownBy w' (some w0.heap.size) := by
  have g1 := key1
  go_enter Tryz.func172, Tryz.ntmps172
  go_wp2_with fail
  refine (dnext 4 D (by omega)).mono ?_
  rintro r w1 ⟨x, x0, x1, rfl, D1, O1⟩
  have hx : x < 4 := by omega
  have hpub := pub_base (a := 1 + x) (by omega) (by omega)
  clear x1 D
  go_wp2_with fail
  refine (l1Key_any _ _ (by omega) (by omega)).mono ?_
  rintro r w2 ⟨rfl, b2⟩
  generalize M.pw 4 (1 + x).toNat 2879 = v at *
  have HD := Lib.hid (And.intro (D1.below b2) (gbe O1.grown b2))
  clear D1 O1 b2
  go_wp2_with fail
  go_ret
  exact ⟨v, hpub, rfl, HD.out.1, HD.out.2⟩

end Go.Proofs.YtlodhleihnlchaaGreatDoor
namespace Go.Proofs.YtlodhleihnlchaaGreatDoor
open Go.RowKit
set_option maxRecDepth 100000
set_option linter.unusedVariables false

theorem Labels.setB {w : World} (h : Labels w) {p : Addr} (hp : 1 ≠ p.block) (u : Value) : Labels (w.setCell p u) := h.keep (Below.heap_setCell w p u _ hp)

theorem call_val {P : Program} {o : Oper} {a : Act} {w : World} {Q : Exit → Act → World → Prop} {K : Act → World → Prop} {x : Operand} {f : FuncId} {cap : Array Value} {xs : Array Operand} {ts : Array TypeId} {args : Array Value} {R : Ending → World → Prop} (ho : o.op = Op.call { callee := .value x, args := xs, argTypes := ts }) (hx : a.eval x = .func (.func f) #[] cap) (hf : callsB P f = true) (hargs : xs.map a.eval ++ cap = args)
    (h : Calls P f args w R) (hK : ∀ e w', R e w' → ∃ v, e = .returned v ∧ K (a.put o.dst v) w') : o.wp P a w K Q := by
  have e : (execOp a.eval o).run P w = .ok (.enter f args) w := by
    unfold execOp
    simp only [ho, resolve, hx, Deferred.ofValue, Sem.run_bind, Sem.run_pure, Result.andThen_ok, invoke]
    simpa [hargs] using run_callFunc_body hf args w
  unfold Oper.wp
  rw [e]
  exact h.mono fun e w' hR => by
    obtain ⟨v, he, hk⟩ := hK e w' hR
    subst he
    exact hk

theorem l11Master_any (sh he : Int) (w : World) (hs : M.sumB sh = true) (hh : M.sumB he = true) :
    Calls Tryz.prog 253 #[.int .i64 sh, .int .i64 he] w fun r w' => r = .returned (.int .i64 (masterN sh he)) ∧ Below w.heap.size w w' := by
  have hR := row_two (w := w) sh he 2 hs hh
  have HA := Lib.hid (show [sh, he].all M.sumB = true by simp [hs, hh])
  obtain ⟨t0, t1⟩ := M.tagL_bd M.masterS [sh, he]
  unfold masterN
  clear hs hh
  go_enter Tryz.func253, Tryz.ntmps253
  go_wp2_with fail
  refine (l2Tag_any M.masterS _ _ _ _ _ _ (by decide) hR (by simp) HA.out (by omega)).mono ?_
  rintro r w2 ⟨rfl, hb2⟩
  have hb := btr (bal (Below.refl _ _) _) hb2
  clear hb2 hR HA
  go_wp2_with fail
  go_ret
  exact ⟨rfl, hb⟩
theorem l11Verify_any (he : Int) (w : World) (hh : M.sumB he = true) :
    Calls Tryz.prog 252 #[.int .i64 he] w fun r w' => r = .returned (.int .i64 (verN he)) ∧ Below w.heap.size w w' := by
  have hR := row_one0 (w := w) he 2 hh
  have HA := Lib.hid (show [he].all M.sumB = true by simp [hh])
  obtain ⟨t0, t1⟩ := M.tagL_bd M.verifyS [he]
  unfold verN
  clear hh
  go_enter Tryz.func252, Tryz.ntmps252
  go_wp2_with fail
  refine (l2Tag_any M.verifyS _ _ _ _ _ _ (by decide) hR (by simp) HA.out (by omega)).mono ?_
  rintro r w2 ⟨rfl, hb2⟩
  have hb := btr (bal (Below.refl _ _) _) hb2
  clear hb2 hR HA
  go_wp2_with fail
  go_ret
  exact ⟨rfl, hb⟩
theorem l11Finish_any (sh he : Int) (w : World) (hs : M.sumB sh = true) (hh : M.sumB he = true) :
    Calls Tryz.prog 176 #[.int .i64 sh, .int .i64 he] w fun r w' => r = .returned (.int .i64 (finN sh he)) ∧ Below w.heap.size w w' := by
  have M1 := fun w => l11Master_any sh he w hs hh
  have hm := masterN_sum sh he
  unfold finN
  generalize masterN sh he = m at *
  have R := fun w : World => row_one0 (w := w) m 2 hm
  have HA := Lib.hid (show [m].all M.sumB = true by simp [hm])
  obtain ⟨t0, t1⟩ := M.tagL_bd M.finishS [m]
  clear hs hh hm
  go_enter Tryz.func176, Tryz.ntmps176
  go_wp2_with fail
  refine (M1 _).mono ?_
  rintro r w1 ⟨rfl, hb1⟩
  go_wp2_with fail
  refine (l2Tag_any M.finishS _ _ _ _ _ _ (by decide) (R w1) (by simp) HA.out (by omega)).mono ?_
  rintro r w2 ⟨rfl, hb2⟩
  have hb := btr (bal hb1 _) hb2
  clear hb1 hb2 R HA M1
  go_wp2_with fail
  go_ret
  exact ⟨rfl, hb⟩

theorem verifySum_any (he : Int) (w : World) (lab : Labels w) (hh : M.sumB he = true) :
    Calls Tryz.prog 163 #[.int .i64 he] w fun r w' => r = .returned (.int .i64 (verN he)) ∧ Below w.heap.size w w' := by
  have hlab := lab.verifyW
  have hlt := lab.lt
  have hR := row_one0 (w := w) he 2 hh
  have HA := Lib.hid (show [he].all M.sumB = true by simp [hh])
  obtain ⟨t0, t1⟩ := M.tagL_bd M.verifyS [he]
  unfold verN
  clear lab hh
  go_enter Tryz.func163, Tryz.ntmps163
  go_wp2_with fail
  refine (sumTagged_any _ _ _ _ _ _ _ (by decide) hR (by simp) HA.out (by omega)).mono ?_
  rintro r w2 ⟨rfl, hb2⟩
  have hb := btr (bal (Below.refl _ _) _) hb2
  clear hb2 hR hlab HA
  go_wp2_with fail
  go_ret
  exact ⟨rfl, hb⟩

abbrev walkV (b : Nat) : Value := .func (.func 248) #[] #[.pointer (some ⟨b, 0, none⟩)]
def WalkAt (m : Int) (w : World) (r : Ending) (w' : World) : Prop := ∃ b, r = .returned (walkV b) ∧ At b [.int .i64 m] w' ∧ Below w.heap.size w w' ∧ w.heap.size ≤ b
theorem walkFrom_any (sh he : Int) (w : World) (lab : Labels w) (hs : M.sumB sh = true) (hh : M.sumB he = true) :
    Calls Tryz.prog 161 #[.int .i64 sh, .int .i64 he] w (WalkAt (masterN sh he) w) := by
  have hmf : ∀ (fn : Fn) (first cap : Array Value) (w : World), (Instr.makeFunc fn first cap).run Tryz.prog w = .ok (.func fn first cap) w := fun _ _ _ _ => rfl
  have hlab := lab.masterW
  have hlt := lab.lt
  have hR := row_two (w := w) sh he 2 hs hh
  have HA := Lib.hid (show [sh, he].all M.sumB = true by simp [hs, hh])
  obtain ⟨t0, t1⟩ := M.tagL_bd M.masterS [sh, he]
  unfold masterN
  clear lab hs hh
  go_enter Tryz.func161, Tryz.ntmps161
  go_wp2_with fail
  refine (sumTagged_any _ _ _ _ _ _ _ (by decide) hR (by simp) HA.out (by omega)).mono ?_
  rintro r w2 ⟨rfl, hb2⟩
  have hb := btr (bal (Below.refl _ _) _) hb2
  clear hb2 hR hlab HA
  go_wp2_with fail
  go_ret
  exact ⟨w2.heap.size, rfl, At.new w2 [.int .i64 (M.tagL M.masterS [sh, he])] 2, bal hb _, hb.size⟩
theorem walk_fin (b : Nat) (m : Int) (w : World) (lab : Labels w) (hA : At b [.int .i64 m] w) (hm : M.sumB m = true) :
    Calls Tryz.prog 248 #[.int .i64 10, .pointer (some ⟨b, 0, none⟩)] w fun r w' => r = .returned (.int .i64 (M.tagL M.finishS [m])) ∧ Below w.heap.size w w' := by
  have hl : M.labB M.finishS = true := by decide +kernel
  have hk : M.keyD m M.finishS = (0, M.tagL M.finishS [m]) := by simp only [M.keyD, hm, hl]; rfl
  have F1 := fun w => implDeriveKey_any m M.finishS w (by decide)
  rw [hk] at F1
  have d0 := hA.cell 0 _ rfl
  have hlab := lab.finishW
  have hlt := lab.lt
  generalize M.tagL M.finishS [m] = v at *
  clear hl hk hm
  have f1 := fld1
  go_enter Tryz.func248, Tryz.ntmps248
  go_wp2_with fail
  refine wp_region_line (Bel w) [(0, true), (1, true), (2, true), (3, true), (4, false), (5, true), (6, true)] (by kernel_rfl) (by kernel_rfl) (fun _ _ d _ _ h => by cases d <;> exact h) (Bel.drew w) ?_
  have hst := Bel.drew w
  have inst : Nonempty (Of (Bel w)) := ⟨⟨_, hst⟩⟩
  have q0 := bel_cell d0
  have q1 := bel_cell hlab
  iterate 4 (refine line_read rfl (by kernel_rfl) (fun K hK => ?_); go_big_quiet_op; refine hK _ ?_; clear hK K)
  refine line_alone rfl (by kernel_rfl) (fun K hK => ?_)
  refine call_wp (args := #[.int .i64 m, .string M.finishS]) rfl (by kernel_rfl) (by kernel_rfl) (F1 _) (fun wn hbn => ?_)
  have hst2 := hst.on hbn
  refine hK _ _ hst2 ?_
  clear hK K hst hbn
  have hst := hst2
  clear hst2
  simp only [Act.put, List.setIfInBounds_toArray, List.set_cons_zero, List.set_cons_succ]
  iterate 2 (refine line_read rfl (by kernel_rfl) (fun K hK => ?_); go_big_quiet_op; refine hK _ ?_; clear hK K)
  refine line_nil ?_
  have hb := hst.out
  clear hst
  go_wp2_with fail
  go_ret
  exact ⟨rfl, hb⟩

theorem walk_up (b : Nat) (m : Int) (w : World) (lab : Labels w) (hA : At b [.int .i64 m] w) (hm : M.sumB m = true) :
    Calls Tryz.prog 248 #[.int .i64 11, .pointer (some ⟨b, 0, none⟩)] w fun r w' => r = .returned (.int .i64 (M.tagL M.upS [m])) ∧ Below w.heap.size w w' := by
  have hl : M.labB M.upS = true := by decide +kernel
  have hk : M.keyD m M.upS = (0, M.tagL M.upS [m]) := by simp only [M.keyD, hm, hl]; rfl
  have F1 := fun w => implDeriveKey_any m M.upS w (by decide)
  rw [hk] at F1
  have d0 := hA.cell 0 _ rfl
  have hlab := lab.upW
  have hlt := lab.lt
  generalize M.tagL M.upS [m] = v at *
  clear hl hk hm
  have f1 := fld1
  go_enter Tryz.func248, Tryz.ntmps248
  go_wp2_with fail
  refine wp_region_line (Bel w) [(0, true), (1, true), (2, true), (3, true), (4, false), (5, true), (6, true)] (by kernel_rfl) (by kernel_rfl) (fun _ _ d _ _ h => by cases d <;> exact h) (Bel.drew w) ?_
  have hst := Bel.drew w
  have inst : Nonempty (Of (Bel w)) := ⟨⟨_, hst⟩⟩
  have q0 := bel_cell d0
  have q1 := bel_cell hlab
  iterate 4 (refine line_read rfl (by kernel_rfl) (fun K hK => ?_); go_big_quiet_op; refine hK _ ?_; clear hK K)
  refine line_alone rfl (by kernel_rfl) (fun K hK => ?_)
  refine call_wp (args := #[.int .i64 m, .string M.upS]) rfl (by kernel_rfl) (by kernel_rfl) (F1 _) (fun wn hbn => ?_)
  have hst2 := hst.on hbn
  refine hK _ _ hst2 ?_
  clear hK K hst hbn
  have hst := hst2
  clear hst2
  simp only [Act.put, List.setIfInBounds_toArray, List.set_cons_zero, List.set_cons_succ]
  iterate 2 (refine line_read rfl (by kernel_rfl) (fun K hK => ?_); go_big_quiet_op; refine hK _ ?_; clear hK K)
  refine line_nil ?_
  have hb := hst.out
  clear hst
  go_wp2_with fail
  go_ret
  exact ⟨rfl, hb⟩

theorem walk_down (b : Nat) (m : Int) (w : World) (lab : Labels w) (hA : At b [.int .i64 m] w) (hm : M.sumB m = true) :
    Calls Tryz.prog 248 #[.int .i64 12, .pointer (some ⟨b, 0, none⟩)] w fun r w' => r = .returned (.int .i64 (M.tagL M.downS [m])) ∧ Below w.heap.size w w' := by
  have hl : M.labB M.downS = true := by decide +kernel
  have hk : M.keyD m M.downS = (0, M.tagL M.downS [m]) := by simp only [M.keyD, hm, hl]; rfl
  have F1 := fun w => implDeriveKey_any m M.downS w (by decide)
  rw [hk] at F1
  have d0 := hA.cell 0 _ rfl
  have hlab := lab.downW
  have hlt := lab.lt
  generalize M.tagL M.downS [m] = v at *
  clear hl hk hm
  have f1 := fld1
  go_enter Tryz.func248, Tryz.ntmps248
  go_wp2_with fail
  refine wp_region_line (Bel w) [(0, true), (1, true), (2, true), (3, true), (4, false), (5, true), (6, true)] (by kernel_rfl) (by kernel_rfl) (fun _ _ d _ _ h => by cases d <;> exact h) (Bel.drew w) ?_
  have hst := Bel.drew w
  have inst : Nonempty (Of (Bel w)) := ⟨⟨_, hst⟩⟩
  have q0 := bel_cell d0
  have q1 := bel_cell hlab
  iterate 4 (refine line_read rfl (by kernel_rfl) (fun K hK => ?_); go_big_quiet_op; refine hK _ ?_; clear hK K)
  refine line_alone rfl (by kernel_rfl) (fun K hK => ?_)
  refine call_wp (args := #[.int .i64 m, .string M.downS]) rfl (by kernel_rfl) (by kernel_rfl) (F1 _) (fun wn hbn => ?_)
  have hst2 := hst.on hbn
  refine hK _ _ hst2 ?_
  clear hK K hst hbn
  have hst := hst2
  clear hst2
  simp only [Act.put, List.setIfInBounds_toArray, List.set_cons_zero, List.set_cons_succ]
  iterate 2 (refine line_read rfl (by kernel_rfl) (fun K hK => ?_); go_big_quiet_op; refine hK _ ?_; clear hK K)
  refine line_nil ?_
  have hb := hst.out
  clear hst
  go_wp2_with fail
  go_ret
  exact ⟨rfl, hb⟩

end Go.Proofs.YtlodhleihnlchaaGreatDoor
namespace Go.Proofs.YtlodhleihnlchaaGreatDoor
open Go.RowKit
set_option maxRecDepth 100000
set_option linter.unusedVariables false

theorem l6Hello1_any (g : Nat) (k r s : Int) (n : ByteArray) (w : World) (A0 : At g (HL4 k r s n) w) (hn : n.size ≤ maxLen) :
    Calls Tryz.prog 107 #[.pointer (some ⟨g, 1, none⟩)] w fun e w' => e = .returned (.int .i64 (helF n.data.toList r s)) ∧ Below w.heap.size w w' := by
  have hL : n.data.toList.length = n.size := by simp
  have F := fun w => l5Fault_any n w hn
  have d0 := A0.cell 0 _ rfl
  have d1 := A0.cell 1 _ rfl
  have d2 := A0.cell 2 _ rfl
  have d3 := A0.cell 3 _ rfl
  cases hr : M.sumB r
  · rw [helF_no (by rw [hr]; rfl)]
    go_enter Tryz.func107, Tryz.ntmps107
    go_wp2_with fail
    refine (l2Is_any _ _).mono ?_
    rintro r w' ⟨rfl, rfl⟩
    go_wp2_with fail
    go_ret
    exact ⟨rfl, Below.refl _ _⟩
  cases hs : pubB s
  · rw [helF_no (by rw [hs]; simp)]
    go_enter Tryz.func107, Tryz.ntmps107
    go_wp2_with fail
    refine (l2Is_any _ _).mono ?_
    rintro r w' ⟨rfl, rfl⟩
    go_wp2_with fail
    refine (l1Public_any _ _).mono ?_
    rintro r w' ⟨rfl, rfl⟩
    go_wp2_with fail
    go_ret
    exact ⟨rfl, Below.refl _ _⟩
  rw [helF_yes (by rw [hr, hs]; rfl)]
  by_cases h0 : M.nameF n.data.toList = 0
  · obtain ⟨h20, hm⟩ := M.nameF_zero h0
    rw [hL] at h20
    have N := fun w : World => l5Normal_any n w h20
    have Q := text_beq (M.bs (M.nrm n.data.toList)) n
    rw [M.bs_list] at Q
    rw [h0] at F
    by_cases hq : M.nrm n.data.toList = n.data.toList
    · rw [M.normF_yes h0 hq]
      rw [decide_eq_true hq] at Q
      generalize M.bs (M.nrm n.data.toList) = R at *
      clear h0 hm hq hL
      go_enter Tryz.func107, Tryz.ntmps107
      go_wp2_with fail
      refine (l2Is_any _ _).mono ?_
      rintro r w' ⟨rfl, rfl⟩
      go_wp2_with fail
      refine (l1Public_any _ _).mono ?_
      rintro r w' ⟨rfl, rfl⟩
      go_wp2_with fail
      refine (F _).mono ?_
      rintro e u1 ⟨rfl, b1⟩
      have p0 := (A0.on b1).cell 0 _ rfl
      have p1 := (A0.on b1).cell 1 _ rfl
      have p2 := (A0.on b1).cell 2 _ rfl
      have p3 := (A0.on b1).cell 3 _ rfl
      go_wp2_with fail
      refine wp_region_line (Bel u1) [(0, true), (1, true), (2, true), (3, true), (5, true), (6, true), (7, true), (8, true), (4, false), (9, true)] (by kernel_rfl) (by kernel_rfl) (fun _ _ d _ _ h => by cases d <;> exact h) (Bel.drew u1) ?_
      have hst := Bel.drew u1
      have inst : Nonempty (Of (Bel u1)) := ⟨⟨_, hst⟩⟩
      have q2 := bel_cell p3
      iterate 8 (refine line_read rfl (by kernel_rfl) (fun K hK => ?_); go_big_quiet_op; refine hK _ ?_; clear hK K)
      refine line_alone rfl (by kernel_rfl) (fun K hK => ?_)
      refine call_wp (args := #[.string n]) rfl (by kernel_rfl) (by kernel_rfl) (N _) (fun wn hbn => ?_)
      have hst2 := hst.on hbn
      refine hK _ _ hst2 ?_
      clear hK K hst hbn
      have hst := hst2
      clear hst2
      simp only [Act.put, List.setIfInBounds_toArray, List.set_cons_zero, List.set_cons_succ]
      iterate 1 (refine line_read rfl (by kernel_rfl) (fun K hK => ?_); go_big_quiet_op; refine hK _ ?_; clear hK K)
      refine line_nil ?_
      have bb := btr b1 hst.out
      go_wp2_with fail
      go_ret
      exact ⟨rfl, bb⟩
    · rw [M.normF_form h0 hq]
      rw [decide_eq_false hq] at Q
      generalize M.bs (M.nrm n.data.toList) = R at *
      clear h0 hm hq hL
      go_enter Tryz.func107, Tryz.ntmps107
      go_wp2_with fail
      refine (l2Is_any _ _).mono ?_
      rintro r w' ⟨rfl, rfl⟩
      go_wp2_with fail
      refine (l1Public_any _ _).mono ?_
      rintro r w' ⟨rfl, rfl⟩
      go_wp2_with fail
      refine (F _).mono ?_
      rintro e u1 ⟨rfl, b1⟩
      have p0 := (A0.on b1).cell 0 _ rfl
      have p1 := (A0.on b1).cell 1 _ rfl
      have p2 := (A0.on b1).cell 2 _ rfl
      have p3 := (A0.on b1).cell 3 _ rfl
      go_wp2_with fail
      refine wp_region_line (Bel u1) [(0, true), (1, true), (2, true), (3, true), (5, true), (6, true), (7, true), (8, true), (4, false), (9, true)] (by kernel_rfl) (by kernel_rfl) (fun _ _ d _ _ h => by cases d <;> exact h) (Bel.drew u1) ?_
      have hst := Bel.drew u1
      have inst : Nonempty (Of (Bel u1)) := ⟨⟨_, hst⟩⟩
      have q2 := bel_cell p3
      iterate 8 (refine line_read rfl (by kernel_rfl) (fun K hK => ?_); go_big_quiet_op; refine hK _ ?_; clear hK K)
      refine line_alone rfl (by kernel_rfl) (fun K hK => ?_)
      refine call_wp (args := #[.string n]) rfl (by kernel_rfl) (by kernel_rfl) (N _) (fun wn hbn => ?_)
      have hst2 := hst.on hbn
      refine hK _ _ hst2 ?_
      clear hK K hst hbn
      have hst := hst2
      clear hst2
      simp only [Act.put, List.setIfInBounds_toArray, List.set_cons_zero, List.set_cons_succ]
      iterate 1 (refine line_read rfl (by kernel_rfl) (fun K hK => ?_); go_big_quiet_op; refine hK _ ?_; clear hK K)
      refine line_nil ?_
      have bb := btr b1 hst.out
      go_wp2_with fail
      go_ret
      exact ⟨rfl, bb⟩
  · rw [M.normF_no h0]
    generalize M.nameF n.data.toList = c at *
    go_enter Tryz.func107, Tryz.ntmps107
    go_wp2_with fail
    refine (l2Is_any _ _).mono ?_
    rintro r w' ⟨rfl, rfl⟩
    go_wp2_with fail
    refine (l1Public_any _ _).mono ?_
    rintro r w' ⟨rfl, rfl⟩
    go_wp2_with fail
    refine (F _).mono ?_
    rintro e u1 ⟨rfl, b1⟩
    have p0 := (A0.on b1).cell 0 _ rfl
    have p1 := (A0.on b1).cell 1 _ rfl
    have p2 := (A0.on b1).cell 2 _ rfl
    have p3 := (A0.on b1).cell 3 _ rfl
    go_wp2_with fail
    go_ret
    exact ⟨rfl, b1⟩
end Go.Proofs.YtlodhleihnlchaaGreatDoor
