/- Texts of this seat that several laws rest on, laid into one. Conditions: as each theorem states. -/
import Derived.Test.YtlodhleihnlchaaGreatDoorH0
import Derived.Test.YtlodhleihnlchaaGreatDoorH1
import Derived.Test.YtlodhleihnlchaaGreatDoorH2
import Derived.Test.YtlodhleihnlchaaGreatDoorH3
import Derived.Laws.StructEq
import Derived.Laws.Tables
import Derived.Deep.CutRange
namespace Go.Proofs.YtlodhleihnlchaaGreatDoor
open Go.RowKit
set_option maxRecDepth 100000
set_option linter.unusedVariables false

abbrev H3 (r s : Int) (n : ByteArray) : Value := .agg #[.int .i64 r, .int .i64 s, .string n]
abbrev HL3 (r s : Int) (n : ByteArray) : List Value := [.int .i64 r, .int .i64 s, .string n]
abbrev H4 (c r s : Int) (n : ByteArray) : Value := .agg #[.int .i64 c, .int .i64 r, .int .i64 s, .string n]
abbrev HL4 (c r s : Int) (n : ByteArray) : List Value := [.int .i64 c, .int .i64 r, .int .i64 s, .string n]

theorem implHelloFault_any (r s : Int) (n : ByteArray) (w : World) (hn : n.size ≤ maxLen) :
    Calls Tryz.prog 23 #[H3 r s n] w fun e w' => e = .returned (.int .i64 (helF n.data.toList r s)) ∧ Below w.heap.size w w' := by
  have b0 := bal (Below.refl _ w) (.cells #[.int .i64 r, .int .i64 s, .string n] 26)
  have A0 := At.new w (HL3 r s n) 26
  have F := fun w => implNormalFault_any n w hn
  cases hr : M.sumB r
  · rw [helF_no (by rw [hr]; rfl)]
    go_enter Tryz.func23, Tryz.ntmps23
    go_wp2_with fail
    refine (isSum_any _ _).mono ?_
    rintro r w' ⟨rfl, rfl⟩
    go_wp2_with fail
    go_ret
    exact ⟨rfl, b0⟩
  cases hs : pubB s
  · rw [helF_no (by rw [hs]; simp)]
    go_enter Tryz.func23, Tryz.ntmps23
    go_wp2_with fail
    refine (isSum_any _ _).mono ?_
    rintro r w' ⟨rfl, rfl⟩
    go_wp2_with fail
    generalize w.alloc (.cells #[.int .i64 r, .int .i64 s, .string n] 26) = W0 at *
    refine (implIsPublic_any _ _).mono ?_
    rintro e u1 ⟨rfl, b1⟩
    have B1 := btr b0 b1
    have p0 := (A0.on b1).cell 0 _ rfl
    have p1 := (A0.on b1).cell 1 _ rfl
    have p2 := (A0.on b1).cell 2 _ rfl
    clear A0 b0 b1
    go_wp2_with fail
    go_ret
    exact ⟨rfl, B1⟩
  · rw [helF_yes (by rw [hr, hs]; rfl)]
    generalize M.normF n.data.toList = c at *
    go_enter Tryz.func23, Tryz.ntmps23
    go_wp2_with fail
    refine (isSum_any _ _).mono ?_
    rintro r w' ⟨rfl, rfl⟩
    go_wp2_with fail
    generalize w.alloc (.cells #[.int .i64 r, .int .i64 s, .string n] 26) = W0 at *
    refine (implIsPublic_any _ _).mono ?_
    rintro e u1 ⟨rfl, b1⟩
    have B1 := btr b0 b1
    have p0 := (A0.on b1).cell 0 _ rfl
    have p1 := (A0.on b1).cell 1 _ rfl
    have p2 := (A0.on b1).cell 2 _ rfl
    clear A0 b0 b1
    go_wp2_with fail
    refine (F _).mono ?_
    rintro e u2 ⟨rfl, b2⟩
    have B2 := btr B1 b2
    go_wp2_with fail
    go_ret
    exact ⟨rfl, B2⟩

theorem l6Hello_any (g : Nat) (r s : Int) (n : ByteArray) (w : World) (A0 : At g (HL3 r s n) w) (hn : n.size ≤ maxLen) :
    Calls Tryz.prog 107 #[.pointer (some ⟨g, 0, none⟩)] w fun e w' => e = .returned (.int .i64 (helF n.data.toList r s)) ∧ Below w.heap.size w w' := by
  have hL : n.data.toList.length = n.size := by simp
  have F := fun w => l5Fault_any n w hn
  have d0 := A0.cell 0 _ rfl
  have d1 := A0.cell 1 _ rfl
  have d2 := A0.cell 2 _ rfl
  cases hr : M.sumB r
  · rw [helF_no (by rw [hr]; rfl)]
    go_enter Tryz.func107, Tryz.ntmps107
    go_wp2_with fail
    refine (l2Is_any _ _).mono ?_
    rintro r w' ⟨rfl, rfl⟩
    go_wp2_with fail
    go_ret
    exact ⟨rfl, Below.refl _ _⟩
  cases hs : pubB s
  · rw [helF_no (by rw [hs]; simp)]
    go_enter Tryz.func107, Tryz.ntmps107
    go_wp2_with fail
    refine (l2Is_any _ _).mono ?_
    rintro r w' ⟨rfl, rfl⟩
    go_wp2_with fail
    refine (l1Public_any _ _).mono ?_
    rintro r w' ⟨rfl, rfl⟩
    go_wp2_with fail
    go_ret
    exact ⟨rfl, Below.refl _ _⟩
  rw [helF_yes (by rw [hr, hs]; rfl)]
  by_cases h0 : M.nameF n.data.toList = 0
  · obtain ⟨h20, hm⟩ := M.nameF_zero h0
    rw [hL] at h20
    have N := fun w : World => l5Normal_any n w h20
    have Q := text_beq (M.bs (M.nrm n.data.toList)) n
    rw [M.bs_list] at Q
    rw [h0] at F
    by_cases hq : M.nrm n.data.toList = n.data.toList
    · rw [M.normF_yes h0 hq]
      rw [decide_eq_true hq] at Q
      generalize M.bs (M.nrm n.data.toList) = R at *
      clear h0 hm hq hL
      go_enter Tryz.func107, Tryz.ntmps107
      go_wp2_with fail
      refine (l2Is_any _ _).mono ?_
      rintro r w' ⟨rfl, rfl⟩
      go_wp2_with fail
      refine (l1Public_any _ _).mono ?_
      rintro r w' ⟨rfl, rfl⟩
      go_wp2_with fail
      refine (F _).mono ?_
      rintro e u1 ⟨rfl, b1⟩
      have p0 := (A0.on b1).cell 0 _ rfl
      have p1 := (A0.on b1).cell 1 _ rfl
      have p2 := (A0.on b1).cell 2 _ rfl
      go_wp2_with fail
      refine wp_region_line (Bel u1) [(0, true), (1, true), (2, true), (3, true), (5, true), (6, true), (7, true), (8, true), (4, false), (9, true)] (by kernel_rfl) (by kernel_rfl) (fun _ _ d _ _ h => by cases d <;> exact h) (Bel.drew u1) ?_
      have hst := Bel.drew u1
      have inst : Nonempty (Of (Bel u1)) := ⟨⟨_, hst⟩⟩
      have q2 := bel_cell p2
      iterate 8 (refine line_read rfl (by kernel_rfl) (fun K hK => ?_); go_big_quiet_op; refine hK _ ?_; clear hK K)
      refine line_alone rfl (by kernel_rfl) (fun K hK => ?_)
      refine call_wp (args := #[.string n]) rfl (by kernel_rfl) (by kernel_rfl) (N _) (fun wn hbn => ?_)
      have hst2 := hst.on hbn
      refine hK _ _ hst2 ?_
      clear hK K hst hbn
      have hst := hst2
      clear hst2
      simp only [Act.put, List.setIfInBounds_toArray, List.set_cons_zero, List.set_cons_succ]
      iterate 1 (refine line_read rfl (by kernel_rfl) (fun K hK => ?_); go_big_quiet_op; refine hK _ ?_; clear hK K)
      refine line_nil ?_
      have bb := btr b1 hst.out
      go_wp2_with fail
      go_ret
      exact ⟨rfl, bb⟩
    · rw [M.normF_form h0 hq]
      rw [decide_eq_false hq] at Q
      generalize M.bs (M.nrm n.data.toList) = R at *
      clear h0 hm hq hL
      go_enter Tryz.func107, Tryz.ntmps107
      go_wp2_with fail
      refine (l2Is_any _ _).mono ?_
      rintro r w' ⟨rfl, rfl⟩
      go_wp2_with fail
      refine (l1Public_any _ _).mono ?_
      rintro r w' ⟨rfl, rfl⟩
      go_wp2_with fail
      refine (F _).mono ?_
      rintro e u1 ⟨rfl, b1⟩
      have p0 := (A0.on b1).cell 0 _ rfl
      have p1 := (A0.on b1).cell 1 _ rfl
      have p2 := (A0.on b1).cell 2 _ rfl
      go_wp2_with fail
      refine wp_region_line (Bel u1) [(0, true), (1, true), (2, true), (3, true), (5, true), (6, true), (7, true), (8, true), (4, false), (9, true)] (by kernel_rfl) (by kernel_rfl) (fun _ _ d _ _ h => by cases d <;> exact h) (Bel.drew u1) ?_
      have hst := Bel.drew u1
      have inst : Nonempty (Of (Bel u1)) := ⟨⟨_, hst⟩⟩
      have q2 := bel_cell p2
      iterate 8 (refine line_read rfl (by kernel_rfl) (fun K hK => ?_); go_big_quiet_op; refine hK _ ?_; clear hK K)
      refine line_alone rfl (by kernel_rfl) (fun K hK => ?_)
      refine call_wp (args := #[.string n]) rfl (by kernel_rfl) (by kernel_rfl) (N _) (fun wn hbn => ?_)
      have hst2 := hst.on hbn
      refine hK _ _ hst2 ?_
      clear hK K hst hbn
      have hst := hst2
      clear hst2
      simp only [Act.put, List.setIfInBounds_toArray, List.set_cons_zero, List.set_cons_succ]
      iterate 1 (refine line_read rfl (by kernel_rfl) (fun K hK => ?_); go_big_quiet_op; refine hK _ ?_; clear hK K)
      refine line_nil ?_
      have bb := btr b1 hst.out
      go_wp2_with fail
      go_ret
      exact ⟨rfl, bb⟩
  · rw [M.normF_no h0]
    generalize M.nameF n.data.toList = c at *
    go_enter Tryz.func107, Tryz.ntmps107
    go_wp2_with fail
    refine (l2Is_any _ _).mono ?_
    rintro r w' ⟨rfl, rfl⟩
    go_wp2_with fail
    refine (l1Public_any _ _).mono ?_
    rintro r w' ⟨rfl, rfl⟩
    go_wp2_with fail
    refine (F _).mono ?_
    rintro e u1 ⟨rfl, b1⟩
    have p0 := (A0.on b1).cell 0 _ rfl
    have p1 := (A0.on b1).cell 1 _ rfl
    have p2 := (A0.on b1).cell 2 _ rfl
    go_wp2_with fail
    go_ret
    exact ⟨rfl, b1⟩
end Go.Proofs.YtlodhleihnlchaaGreatDoor
namespace Go.Proofs.YtlodhleihnlchaaGreatDoor
open Go.RowKit
set_option maxRecDepth 100000
set_option linter.unusedVariables false

end Go.Proofs.YtlodhleihnlchaaGreatDoor
namespace Go.Proofs.YtlodhleihnlchaaGreatDoor
open Go.RowKit
set_option maxRecDepth 100000
set_option linter.unusedVariables false

abbrev C5 (c k r s : Int) (n : ByteArray) : Value := .agg #[.int .i64 c, .int .i64 k, .int .i64 r, .int .i64 s, .string n]
abbrev CL5 (c k r s : Int) (n : ByteArray) : List Value := [.int .i64 c, .int .i64 k, .int .i64 r, .int .i64 s, .string n]
abbrev K4 (u d h k : Int) : Value := .agg #[.int .i64 u, .int .i64 d, .int .i64 h, .int .i64 k]
abbrev KL4 (u d h k : Int) : List Value := [.int .i64 u, .int .i64 d, .int .i64 h, .int .i64 k]
abbrev T11 (t : TakD) : Value := .agg #[.int .i64 t.c, .int .i64 t.r, .int .i64 t.s, .int .i64 t.p, .int .i64 t.x, .int .i64 t.y, .int .i64 t.f, .int .i64 t.u, .int .i64 t.d, .int .i64 t.h, .int .i64 t.k]
end Go.Proofs.YtlodhleihnlchaaGreatDoor
namespace Go.Proofs.YtlodhleihnlchaaGreatDoor
open Go.RowKit
set_option maxRecDepth 100000
set_option linter.unusedVariables false

theorem keys_same11 (u d h k : Int) (w : World) : (Op.equalIn 10000 110 (.agg #[.int .i64 u, .int .i64 d, .int .i64 h, .int .i64 k]) (.agg #[.int .i64 u, .int .i64 d, .int .i64 h, .int .i64 k])).run Tryz.prog w = .ok true w := by
  have u3 := Tryz.underlying2
  have a3 := Tryz.isAgg2
  have z3 := Tryz.sizeOf2
  have hS : Tryz.prog.underlying 110 = some (.struct (Tryz.prog.fieldsOf 110)) := by kernel_rfl
  have hp : Tryz.prog.stoodInHeld 110 = false := by kernel_rfl
  rw [show (10000 : Nat) = 9999 + 1 from rfl, run_equalIn_agg w (9999) 110 _ _ hS hp]
  simp only [Program.fieldsOf, Tryz.underlying110]
  go_simp
theorem keys_neq11 (u d h k : Int) (w : World) : (binOp .neq 110 (.agg #[.int .i64 u, .int .i64 d, .int .i64 h, .int .i64 k]) (.agg #[.int .i64 u, .int .i64 d, .int .i64 h, .int .i64 k])).run Tryz.prog w = .ok (.bool false) w := by
  rw [run_neq_struct, keys_same11]
  rfl
theorem keys_eql11 (u d h k : Int) (w : World) : (binOp .eql 110 (.agg #[.int .i64 u, .int .i64 d, .int .i64 h, .int .i64 k]) (.agg #[.int .i64 u, .int .i64 d, .int .i64 h, .int .i64 k])).run Tryz.prog w = .ok (.bool true) w := by
  rw [run_eql_struct, keys_same11]
  rfl
theorem keys_guard11 (op : BinOp) (x1 x2 : Operand) (u d h k : Int) (w : World) : (eqGuard op 110 x1 x2 (.agg #[.int .i64 u, .int .i64 d, .int .i64 h, .int .i64 k]) (.agg #[.int .i64 u, .int .i64 d, .int .i64 h, .int .i64 k])).run Tryz.prog w = .ok () w := run_eqGuard_agg w op 110 x1 x2 _ _ (by kernel_rfl)
theorem reply_same11 (r s p x y f : Int) (w : World) : (Op.equalIn 10000 33 (.agg #[.int .i64 r, .int .i64 s, .int .i64 p, .int .i64 x, .int .i64 y, .int .i64 f]) (.agg #[.int .i64 r, .int .i64 s, .int .i64 p, .int .i64 x, .int .i64 y, .int .i64 f])).run Tryz.prog w = .ok true w := by
  have u3 := Tryz.underlying2
  have a3 := Tryz.isAgg2
  have z3 := Tryz.sizeOf2
  have us0 := Tryz.underlying31
  have as0 := Tryz.isAgg31
  have zs0 := Tryz.sizeOf31
  have hS0 : Tryz.prog.underlying 31 = some (.struct (Tryz.prog.fieldsOf 31)) := by kernel_rfl
  have hp0 : Tryz.prog.stoodInHeld 31 = false := by kernel_rfl
  have hS : Tryz.prog.underlying 33 = some (.struct (Tryz.prog.fieldsOf 33)) := by kernel_rfl
  have hp : Tryz.prog.stoodInHeld 33 = false := by kernel_rfl
  rw [show (10000 : Nat) = 9998 + 1 + 1 from rfl, run_equalIn_agg w (9998 + 1) 33 _ _ hS hp]
  simp only [Program.fieldsOf, Tryz.underlying33]
  go_simp
theorem reply_eql11 (r s p x y f : Int) (w : World) : (binOp .eql 33 (.agg #[.int .i64 r, .int .i64 s, .int .i64 p, .int .i64 x, .int .i64 y, .int .i64 f]) (.agg #[.int .i64 r, .int .i64 s, .int .i64 p, .int .i64 x, .int .i64 y, .int .i64 f])).run Tryz.prog w = .ok (.bool true) w := by
  rw [run_eql_struct, reply_same11]
  rfl
theorem reply_guard11 (op : BinOp) (x1 x2 : Operand) (r s p x y f : Int) (w : World) : (eqGuard op 33 x1 x2 (.agg #[.int .i64 r, .int .i64 s, .int .i64 p, .int .i64 x, .int .i64 y, .int .i64 f]) (.agg #[.int .i64 r, .int .i64 s, .int .i64 p, .int .i64 x, .int .i64 y, .int .i64 f])).run Tryz.prog w = .ok () w := run_eqGuard_agg w op 33 x1 x2 _ _ (by kernel_rfl)
theorem taken_same11 (c r s p x y f u d h k : Int) (w : World) : (Op.equalIn 10000 112 (.agg #[.int .i64 c, .int .i64 r, .int .i64 s, .int .i64 p, .int .i64 x, .int .i64 y, .int .i64 f, .int .i64 u, .int .i64 d, .int .i64 h, .int .i64 k]) (.agg #[.int .i64 c, .int .i64 r, .int .i64 s, .int .i64 p, .int .i64 x, .int .i64 y, .int .i64 f, .int .i64 u, .int .i64 d, .int .i64 h, .int .i64 k])).run Tryz.prog w = .ok true w := by
  have u3 := Tryz.underlying2
  have a3 := Tryz.isAgg2
  have z3 := Tryz.sizeOf2
  have us0 := Tryz.underlying33
  have as0 := Tryz.isAgg33
  have zs0 := Tryz.sizeOf33
  have hS0 : Tryz.prog.underlying 33 = some (.struct (Tryz.prog.fieldsOf 33)) := by kernel_rfl
  have hp0 : Tryz.prog.stoodInHeld 33 = false := by kernel_rfl
  have us1 := Tryz.underlying110
  have as1 := Tryz.isAgg110
  have zs1 := Tryz.sizeOf110
  have hS1 : Tryz.prog.underlying 110 = some (.struct (Tryz.prog.fieldsOf 110)) := by kernel_rfl
  have hp1 : Tryz.prog.stoodInHeld 110 = false := by kernel_rfl
  have us2 := Tryz.underlying31
  have as2 := Tryz.isAgg31
  have zs2 := Tryz.sizeOf31
  have hS2 : Tryz.prog.underlying 31 = some (.struct (Tryz.prog.fieldsOf 31)) := by kernel_rfl
  have hp2 : Tryz.prog.stoodInHeld 31 = false := by kernel_rfl
  have hS : Tryz.prog.underlying 112 = some (.struct (Tryz.prog.fieldsOf 112)) := by kernel_rfl
  have hp : Tryz.prog.stoodInHeld 112 = false := by kernel_rfl
  rw [show (10000 : Nat) = 9997 + 1 + 1 + 1 from rfl, run_equalIn_agg w (9997 + 1 + 1) 112 _ _ hS hp]
  simp only [Program.fieldsOf, Tryz.underlying112]
  go_simp
theorem taken_neq11 (c r s p x y f u d h k : Int) (w : World) : (binOp .neq 112 (.agg #[.int .i64 c, .int .i64 r, .int .i64 s, .int .i64 p, .int .i64 x, .int .i64 y, .int .i64 f, .int .i64 u, .int .i64 d, .int .i64 h, .int .i64 k]) (.agg #[.int .i64 c, .int .i64 r, .int .i64 s, .int .i64 p, .int .i64 x, .int .i64 y, .int .i64 f, .int .i64 u, .int .i64 d, .int .i64 h, .int .i64 k])).run Tryz.prog w = .ok (.bool false) w := by
  rw [run_neq_struct, taken_same11]
  rfl
theorem taken_guard11 (op : BinOp) (x1 x2 : Operand) (c r s p x y f u d h k : Int) (w : World) : (eqGuard op 112 x1 x2 (.agg #[.int .i64 c, .int .i64 r, .int .i64 s, .int .i64 p, .int .i64 x, .int .i64 y, .int .i64 f, .int .i64 u, .int .i64 d, .int .i64 h, .int .i64 k]) (.agg #[.int .i64 c, .int .i64 r, .int .i64 s, .int .i64 p, .int .i64 x, .int .i64 y, .int .i64 f, .int .i64 u, .int .i64 d, .int .i64 h, .int .i64 k])).run Tryz.prog w = .ok () w := run_eqGuard_agg w op 112 x1 x2 _ _ (by kernel_rfl)
theorem tkf0 (c r s p x y f u d h k : Int) (w : World) : Sem.run Tryz.prog (Instr.field 112 (.agg #[.int .i64 c, .int .i64 r, .int .i64 s, .int .i64 p, .int .i64 x, .int .i64 y, .int .i64 f, .int .i64 u, .int .i64 d, .int .i64 h, .int .i64 k]) 0) w = .ok (.int .i64 c) w := by kernel_rfl
theorem tkf2 (c r s p x y f u d h k : Int) (w : World) : Sem.run Tryz.prog (Instr.field 112 (.agg #[.int .i64 c, .int .i64 r, .int .i64 s, .int .i64 p, .int .i64 x, .int .i64 y, .int .i64 f, .int .i64 u, .int .i64 d, .int .i64 h, .int .i64 k]) 2) w = .ok (.agg #[.int .i64 u, .int .i64 d, .int .i64 h, .int .i64 k]) w := by kernel_rfl
theorem clf0 (c k r s : Int) (n : ByteArray) (w : World) : Sem.run Tryz.prog (Instr.field 105 (.agg #[.int .i64 c, .int .i64 k, .int .i64 r, .int .i64 s, .string n]) 0) w = .ok (.int .i64 c) w := by kernel_rfl
theorem krf1 (a b c : Int) (w : World) : Sem.run Tryz.prog (Instr.field 121 (.agg #[.int .i64 a, .int .i64 b, .int .i64 c]) 1) w = .ok (.agg #[.int .i64 b, .int .i64 c]) w := by kernel_rfl
end Go.Proofs.YtlodhleihnlchaaGreatDoor
namespace Go.Proofs.YtlodhleihnlchaaGreatDoor
open Go.RowKit

def Blk (g : Nat) (cs : List Value) (T : TypeId) (w : World) : Prop := w.heap[g]? = some (.cells cs.toArray T (0, 0))
section
variable {g : Nat} {cs old : List Value} {T : TypeId} {w w' W : World} {B : Nat}
theorem Blk.new (w : World) (cs : List Value) (T : TypeId) : Blk w.heap.size cs T (w.alloc (.cells cs.toArray T)) := (MapKept.heap_alloc w _).1
theorem Blk.on (h : Blk g cs T w) (hb : Below w.heap.size w w') : Blk g cs T w' := (hb.block g (blk_lt h)).trans h
theorem Blk.cells (h : Blk g cs T w) : At g cs w := ⟨fun i v hi => by rw [blk_cell h i]; simpa using hi, fun i _ _ => blk_free h i⟩
theorem Blk.row (h : Blk g old T w) (cs : List Value) : Blk g cs T (w.setRow g cs.toArray) := setRow_heap w g old.toArray cs.toArray T (0, 0) h
theorem below_row (h : Below B W w) (hg : B ≤ g) (cs : Array Value) : Below B W (w.setRow g cs) :=
  h.trans ((⟨rfl, rfl, rfl, by simp, fun k hk => setRow_other w g k cs hk⟩ : Only g w (w.setRow g cs)).below hg)
end
end Go.Proofs.YtlodhleihnlchaaGreatDoor
namespace Go.Proofs.YtlodhleihnlchaaGreatDoor
open Go.RowKit
set_option maxRecDepth 100000
set_option linter.unusedVariables false

end Go.Proofs.YtlodhleihnlchaaGreatDoor
namespace Go.Proofs.YtlodhleihnlchaaGreatDoor
open Go.RowKit
set_option maxRecDepth 100000
set_option linter.unusedVariables false

end Go.Proofs.YtlodhleihnlchaaGreatDoor
namespace Go.Proofs.YtlodhleihnlchaaGreatDoor
open Go.RowKit

def Src (w : World) (g : Nat) (a : Option Addr) (len cap : Nat) (p : Nat) : Prop := w.heap[g]? = some (.cells #[.slice a len cap, .int .i64 p] 256 (0, 0))
theorem Src.lt {w : World} {g : Nat} {a : Option Addr} {len cap p : Nat} (h : Src w g a len cap p) : g < w.heap.size := by
  rcases Nat.lt_or_ge g w.heap.size with h1 | h1
  · exact h1
  · unfold Src at h; rw [Array.getElem?_eq_none h1] at h; cases h
theorem Src.cell0 {w : World} {g : Nat} {a : Option Addr} {len cap p : Nat} (h : Src w g a len cap p) : w.cell? ⟨g, 0, none⟩ = some (.slice a len cap) := by unfold Src at h; simp [World.cell?, h]
theorem Src.cell1 {w : World} {g : Nat} {a : Option Addr} {len cap p : Nat} (h : Src w g a len cap p) : w.cell? ⟨g, 1, none⟩ = some (.int .i64 p) := by unfold Src at h; simp [World.cell?, h]
theorem Src.free {w : World} {g : Nat} {a : Option Addr} {len cap p : Nat} (h : Src w g a len cap p) (i : Nat) : w.frozen? ⟨g, i, none⟩ = false := by unfold Src at h; simp [World.frozen?, h]
theorem Src.keep {w w' : World} {g : Nat} {a : Option Addr} {len cap p : Nat} (h : Src w g a len cap p) (hk : w'.heap[g]? = w.heap[g]?) : Src w' g a len cap p := hk.trans h
theorem Src.step {w : World} {g : Nat} {a : Option Addr} {len cap p : Nat} (h : Src w g a len cap p) : Src (w.setCell ⟨g, 1, none⟩ (.int .i64 (p + 1))) g a len cap (p + 1) := by
  unfold Src at *; simp [World.setCell, Array.getElem?_modify, h]

theorem Src.drewN {w : World} {g : Nat} {a : Option Addr} {len cap p : Nat} (h : Src w g a len cap p) (n : Nat) : Src (w.drewN n) g a len cap p := h

def Nexted (g : Nat) (n : Int) (a : Option Addr) (len cap p : Nat) (w : World) (r : Ending) (w' : World) : Prop :=
  ∃ v : Int, 0 ≤ v ∧ (v < n ∨ n < 1 ∧ v = 0) ∧ r = .returned (.int .i64 v) ∧ Src w' g a len cap (p + 1) ∧ Only g w w'

theorem l1Next_pos (g : Nat) (n : Int) (a : Option Addr) (len cap p B : Nat) (zs : List Int) (w : World) (hS : Src w g a len cap p) (hR : Row .u8 w B a len cap zs) (hB : B ≤ g) (hp : p ≤ 1000000) (hn : 1 ≤ n) (hl : 0 < len) :
    Calls Tryz.prog 92 #[.pointer (some ⟨g, 0, none⟩), .int .i64 n] w (Nexted g n a len cap p w) := by
  have c0 := hS.cell0
  have c1 := hS.cell1
  have f1 := hS.free 1
  have hlen := hR.fits
  have hmost := hR.most
  unfold maxLen at hmost
  obtain ⟨b, off, rfl, hb, hc⟩ := hR.cells hl
  have hbg : b ≠ g := by omega
  have r1 : p % len < len := Nat.mod_lt _ hl
  have r2 : (p + 1) % len < len := Nat.mod_lt _ hl
  have d1 := hc _ r1
  have d2 := hc _ r2
  obtain ⟨z0, z1⟩ := hR.byte (p % len)
  obtain ⟨y0, y1⟩ := hR.byte ((p + 1) % len)
  clear hc
  have q0 : 0 ≤ (p : Int) / len ∧ (p : Int) / len ≤ 1000000 := ⟨Int.ediv_nonneg (by omega) (by omega), by
    have : (p : Int) / len ≤ p := Int.ediv_le_self _ (by omega)
    omega⟩
  obtain ⟨q1, q2⟩ := q0
  have e0 : ((len : Int) == 0) = false := by rw [beq_eq_false_iff_ne]; omega
  simp only [List.getD_eq_getElem?_getD] at z0 z1 y0 y1 d1 d2
  have m1 : 0 ≤ ((p : Int) + 1) % len := Int.emod_nonneg _ (by omega)
  have m2 : ((p : Int) + 1) % len < len := Int.emod_lt_of_pos _ (by omega)
  have m3 : (((p : Int) + 1) % len).toNat = (p + 1) % len := by
    have : ((p : Int) + 1) % len = ((p + 1) % len : Nat) := by simp
    rw [this]; rfl
  have HS := Lib.hid (And.intro hS.step ((Only.refl g w).setCell 1 (.int .i64 (p + 1))))
  by_cases h2 : 200 < n
  · go_enter Tryz.func92, Tryz.ntmps92
    go_wp2_with fail
    go_quiet (fail)
    go_wp2_with fail
    go_quiet (fail)
    go_wp2_with fail
    go_ret
    exact ⟨_, Int.emod_nonneg _ (by omega), .inl (Int.emod_lt_of_pos _ (by omega)), rfl, HS.out.1.drewN _, HS.out.2.drewN _⟩
  · go_enter Tryz.func92, Tryz.ntmps92
    go_wp2_with fail
    go_quiet (fail)
    go_wp2_with fail
    go_ret
    exact ⟨_, Int.emod_nonneg _ (by omega), .inl (Int.emod_lt_of_pos _ (by omega)), rfl, HS.out.1.drewN _, HS.out.2.drewN _⟩

theorem l1Next_any (g : Nat) (n : Int) (a : Option Addr) (len cap p B : Nat) (zs : List Int) (w : World) (hS : Src w g a len cap p) (hR : Row .u8 w B a len cap zs) (hB : B ≤ g) (hp : p ≤ 1000000) :
    Calls Tryz.prog 92 #[.pointer (some ⟨g, 0, none⟩), .int .i64 n] w (Nexted g n a len cap p w) := by
  have c0 := hS.cell0
  have c1 := hS.cell1
  have f1 := hS.free 1
  have HS := Lib.hid (And.intro hS.step ((Only.refl g w).setCell 1 (.int .i64 (p + 1))))
  by_cases hn : n < 1
  · go_enter Tryz.func92, Tryz.ntmps92
    go_wp2_with fail
    go_ret
    exact ⟨0, by omega, .inr ⟨hn, rfl⟩, rfl, HS.out.1, HS.out.2⟩
  · rcases Nat.eq_zero_or_pos len with h0 | h0
    · have e0 : ((len : Int) == 0) = true := by rw [beq_iff_eq]; omega
      clear h0
      go_enter Tryz.func92, Tryz.ntmps92
      go_wp2_with fail
      go_ret
      exact ⟨_, Int.emod_nonneg _ (by omega), .inl (Int.emod_lt_of_pos _ (by omega)), rfl, HS.out.1, HS.out.2⟩
    · exact l1Next_pos g n a len cap p B zs w hS hR hB hp (by omega) h0

theorem l1Source_any (a : Option Addr) (len cap : Nat) (w : World) :
    Calls Tryz.prog 89 #[.slice a len cap] w fun r w' => r = .returned (.pointer (some ⟨w.heap.size, 0, none⟩)) ∧ w' = w.alloc (.cells #[.slice a len cap, .int .i64 0] 256) := by
  go_enter Tryz.func89, Tryz.ntmps89
  go_wp2_with fail
  go_ret
  simp

def Picked (g : Nat) (vs : List Int) (a : Option Addr) (len cap p : Nat) (w : World) (r : Ending) (w' : World) : Prop :=
  ∃ v : Int, v ∈ vs ∧ r = .returned (.int .i64 v) ∧ Src w' g a len cap (p + 1) ∧ Only g w w'

theorem l1Pick_any (g q n : Nat) (vs : List Int) (a : Option Addr) (len cap p B : Nat) (zs : List Int) (w : World) (hS : Src w g a len cap p) (hR : Row .u8 w B a len cap zs) (hB : B ≤ g) (hp : p ≤ 1000000)
    (hq : q ≠ g) (hv : vs.length = n) (hn : 1 ≤ n) (hm : n ≤ 100) (hc : ∀ j, j < n → w.cell? ⟨q, j, none⟩ = some (.int .i64 (vs.getD j 0))) :
    Calls Tryz.prog 93 #[.pointer (some ⟨g, 0, none⟩), .slice (some ⟨q, 0, none⟩) n n] w (Picked g vs a len cap p w) := by
  have Hc := Lib.hid hc
  clear hc
  go_enter Tryz.func93, Tryz.ntmps93
  go_wp2_with fail
  refine (l1Next_any g _ a len cap p B zs _ hS hR hB hp).mono ?_
  rintro r w' ⟨v, v0, v1, rfl, hS', hO⟩
  obtain ⟨k, rfl⟩ := Int.eq_ofNat_of_zero_le v0
  have hk : k < n := by omega
  have hcell : w'.cell? ⟨q, k, none⟩ = some (.int .i64 (vs.getD k 0)) := (World.cell?_of_block (w := w) (hO.block q hq)).trans (Hc.out k hk)
  have hmem : vs.getD k 0 ∈ vs := by
    have : k < vs.length := by omega
    simp [List.getD, this]
  have HE := Lib.hid (And.intro hmem (And.intro hS' hO))
  clear v0 v1 hmem hS' hO
  go_wp2_with fail
  go_ret
  exact ⟨vs.getD k 0, HE.out.1, by simp [List.getD]; rw [List.getElem?_eq_getElem (by omega)]; rfl, HE.out.2.1, HE.out.2.2⟩

theorem Src.new (w : World) (a : Option Addr) (len cap p : Nat) : Src (w.alloc (.cells #[.slice a len cap, .int .i64 p] 256)) w.heap.size a len cap p := by
  unfold Src; exact (MapKept.heap_alloc w _).1
theorem Src.alloc {w : World} {g : Nat} {a : Option Addr} {len cap p : Nat} (h : Src w g a len cap p) (o : Obj) : Src (w.alloc o) g a len cap p := h.keep (Below.heap_alloc w o g h.lt)

structure Draw (w0 : World) (a : Option Addr) (len cap : Nat) (zs : List Int) (p : Nat) (w : World) : Prop where
  src : Src w w0.heap.size a len cap p
  row : Row .u8 w w0.heap.size a len cap zs
  bel : Below w0.heap.size w0 w
theorem Draw.alloc {w0 : World} {a : Option Addr} {len cap : Nat} {zs : List Int} {p : Nat} {w : World} (h : Draw w0 a len cap zs p w) (o : Obj) : Draw w0 a len cap zs p (w.alloc o) :=
  ⟨h.src.alloc o, h.row.below ((Below.refl _ w).alloc h.bel.size o), h.bel.alloc h.bel.size o⟩
theorem Draw.only {w0 : World} {a : Option Addr} {len cap : Nat} {zs : List Int} {p p' : Nat} {w w' : World} (h : Draw w0 a len cap zs p w) (hS : Src w' w0.heap.size a len cap p') (hO : Only w0.heap.size w w') : Draw w0 a len cap zs p' w' :=
  ⟨hS, h.row.below (hO.below (Nat.le_refl _)), h.bel.trans (hO.below (Nat.le_refl _))⟩
theorem Draw.new {w0 : World} {a : Option Addr} {len cap : Nat} {zs : List Int} (p : Nat) (hR : Row .u8 w0 w0.heap.size a len cap zs) : Draw w0 a len cap zs p (w0.alloc (.cells #[.slice a len cap, .int .i64 p] 256)) :=
  ⟨Src.new w0 a len cap p, hR.below (bal (Below.refl _ _) _), bal (Below.refl _ _) _⟩
theorem Draw.below {w0 : World} {a : Option Addr} {len cap : Nat} {zs : List Int} {p : Nat} {w w' : World} (h : Draw w0 a len cap zs p w) (hb : Below w.heap.size w w') : Draw w0 a len cap zs p w' :=
  ⟨h.src.keep (hb.block _ h.src.lt), h.row.below (hb.mono h.bel.size), h.bel.trans (hb.mono h.bel.size)⟩

def DNext (w0 : World) (a : Option Addr) (len cap : Nat) (zs : List Int) (p : Nat) (n : Int) (w : World) (r : Ending) (w' : World) : Prop :=
  ∃ v : Int, 0 ≤ v ∧ (v < n ∨ n < 1 ∧ v = 0) ∧ r = .returned (.int .i64 v) ∧ Draw w0 a len cap zs (p + 1) w' ∧ Only w0.heap.size w w'
def DPick (w0 : World) (a : Option Addr) (len cap : Nat) (zs : List Int) (p : Nat) (vs : List Int) (w : World) (r : Ending) (w' : World) : Prop :=
  ∃ v : Int, v ∈ vs ∧ r = .returned (.int .i64 v) ∧ Draw w0 a len cap zs (p + 1) w' ∧ Only w0.heap.size w w'

theorem dnext {w0 : World} {a : Option Addr} {len cap : Nat} {zs : List Int} {p : Nat} (n : Int) {w : World} (D : Draw w0 a len cap zs p w) (hp : p ≤ 1000000) :
    Calls Tryz.prog 92 #[.pointer (some ⟨w0.heap.size, 0, none⟩), .int .i64 n] w (DNext w0 a len cap zs p n w) :=
  (l1Next_any w0.heap.size n a len cap p w0.heap.size zs w D.src D.row (Nat.le_refl _) hp).mono fun _ _ ⟨v, h0, h1, hr, hS, hO⟩ => ⟨v, h0, h1, hr, D.only hS hO, hO⟩

theorem cells_new (w : World) (vs : List Int) (t : TypeId) (j : Nat) (hj : j < vs.length) : (w.alloc (.cells (vs.map (Value.int .i64)).toArray t)).cell? ⟨w.heap.size, j, none⟩ = some (.int .i64 (vs.getD j 0)) := by
  have e : (w.alloc (.cells (vs.map (Value.int .i64)).toArray t)).heap[w.heap.size]? = some (.cells (vs.map (Value.int .i64)).toArray t) := (MapKept.heap_alloc w _).1
  unfold World.cell?
  rw [e]
  simp [hj]

theorem dpick {w0 : World} {a : Option Addr} {len cap : Nat} {zs : List Int} {p : Nat} (vs : List Int) (n : Nat) {w : World} (D : Draw w0 a len cap zs p w) (hp : p ≤ 1000000) (hn : 1 ≤ n) (hm : n ≤ 100) (hv : vs.length = n) (t : TypeId) :
    Calls Tryz.prog 93 #[.pointer (some ⟨w0.heap.size, 0, none⟩), .slice (some ⟨w.heap.size, 0, none⟩) n n] (w.alloc (.cells (vs.map (Value.int .i64)).toArray t)) (DPick w0 a len cap zs p vs (w.alloc (.cells (vs.map (Value.int .i64)).toArray t))) :=
  (l1Pick_any w0.heap.size w.heap.size n vs a len cap p w0.heap.size zs _ (D.alloc _).src (D.alloc _).row (Nat.le_refl _) hp (by have := D.src.lt; omega) hv hn hm (fun j hj => cells_new w vs t j (by omega))).mono fun _ _ ⟨v, h0, hr, hS, hO⟩ => ⟨v, h0, hr, (D.alloc _).only hS hO, hO⟩

theorem dsource {a : Option Addr} {len cap : Nat} {zs : List Int} {w : World} (hR : Row .u8 w w.heap.size a len cap zs) :
    Calls Tryz.prog 89 #[.slice a len cap] w fun r w' => r = .returned (.pointer (some ⟨w.heap.size, 0, none⟩)) ∧ Draw w a len cap zs 0 w' :=
  (l1Source_any a len cap w).mono fun _ _ ⟨hr, hw⟩ => ⟨hr, by rw [hw]; exact Draw.new 0 hR⟩
theorem lwBig_any (a : Option Addr) (len cap : Nat) (w : World) (h : len ≤ 9223372036854775807) :
    Calls Tryz.prog 11 #[.slice a len cap] w fun r w' => r = .returned (.bool (decide (1048576 < len))) ∧ w = w' := by
  by_cases hl : 1048576 < len
  · have e : decide (1048576 < len) = true := by simp [hl]
    rw [e]; clear e
    go_enter Tryz.func11, Tryz.ntmps11
    go_wp2_with fail
    go_ret
    simp; omega
  · have e : decide (1048576 < len) = false := by simp [hl]
    rw [e]; clear e
    go_enter Tryz.func11, Tryz.ntmps11
    go_wp2_with fail
    go_ret
    simp; omega

def Ated (n : Int) (w : World) (r : Ending) (w' : World) : Prop := ∃ v : Int, 0 ≤ v ∧ (v < n ∨ n ≤ 1 ∧ v = 0) ∧ r = .returned (.int .i64 v) ∧ Below w.heap.size w w'

theorem lwAt_pos (p : Nat) (n : Int) (a : Option Addr) (len cap B : Nat) (zs : List Int) (w : World) (hR : Row .u8 w B a len cap zs) (hp : p ≤ 1000) (hn : 1 < n) (hl : 0 < len) :
    Calls Tryz.prog 66 #[.slice a len cap, .int .i64 p, .int .i64 n] w (Ated n w) := by
  have hlen := hR.fits
  have hmost := hR.most
  unfold maxLen at hmost
  obtain ⟨b, off, rfl, hb, hc⟩ := hR.cells hl
  have r1 : p % len < len := Nat.mod_lt _ hl
  have r2 : (p + 1) % len < len := Nat.mod_lt _ hl
  have d1 := hc _ r1
  have d2 := hc _ r2
  obtain ⟨z0, z1⟩ := hR.byte (p % len)
  obtain ⟨y0, y1⟩ := hR.byte ((p + 1) % len)
  clear hc
  have q0 : 0 ≤ (p : Int) / len ∧ (p : Int) / len ≤ 1000 := ⟨Int.ediv_nonneg (by omega) (by omega), by
    have : (p : Int) / len ≤ p := Int.ediv_le_self _ (by omega)
    omega⟩
  obtain ⟨q1, q2⟩ := q0
  have e0 : ((len : Int) == 0) = false := by rw [beq_eq_false_iff_ne]; omega
  simp only [List.getD_eq_getElem?_getD] at z0 z1 y0 y1 d1 d2
  have m1 : 0 ≤ ((p : Int) + 1) % len := Int.emod_nonneg _ (by omega)
  have m2 : ((p : Int) + 1) % len < len := Int.emod_lt_of_pos _ (by omega)
  have m3 : (((p : Int) + 1) % len).toNat = (p + 1) % len := by
    have : ((p : Int) + 1) % len = ((p + 1) % len : Nat) := by simp
    rw [this]; rfl
  by_cases h2 : 200 < n
  · go_enter Tryz.func66, Tryz.ntmps66
    go_wp2_with fail
    go_quiet (fail)
    go_wp2_with fail
    go_ret
    exact ⟨_, Int.emod_nonneg _ (by omega), .inl (Int.emod_lt_of_pos _ (by omega)), rfl, bdrewN (Below.refl _ _) _⟩
  · go_enter Tryz.func66, Tryz.ntmps66
    go_wp2_with fail
    go_quiet (fail)
    go_wp2_with fail
    go_ret
    exact ⟨_, Int.emod_nonneg _ (by omega), .inl (Int.emod_lt_of_pos _ (by omega)), rfl, bdrewN (Below.refl _ _) _⟩

theorem lwAt_any (p : Nat) (n : Int) (a : Option Addr) (len cap B : Nat) (zs : List Int) (w : World) (hR : Row .u8 w B a len cap zs) (hp : p ≤ 1000) :
    Calls Tryz.prog 66 #[.slice a len cap, .int .i64 p, .int .i64 n] w (Ated n w) := by
  have hlen := hR.fits
  have hmost := hR.most
  unfold maxLen at hmost
  by_cases hn : n ≤ 1
  · go_enter Tryz.func66, Tryz.ntmps66
    go_wp2_with fail
    go_ret
    exact ⟨0, by omega, .inr ⟨hn, rfl⟩, rfl, Below.refl _ _⟩
  · rcases Nat.eq_zero_or_pos len with h0 | h0
    · have e0 : ((len : Int) == 0) = true := by rw [beq_iff_eq]; omega
      clear h0
      go_enter Tryz.func66, Tryz.ntmps66
      go_wp2_with fail
      go_ret
      exact ⟨_, Int.emod_nonneg _ (by omega), .inl (Int.emod_lt_of_pos _ (by omega)), rfl, Below.refl _ _⟩
    · exact lwAt_pos p n a len cap B zs w hR hp (by omega) h0

end Go.Proofs.YtlodhleihnlchaaGreatDoor
