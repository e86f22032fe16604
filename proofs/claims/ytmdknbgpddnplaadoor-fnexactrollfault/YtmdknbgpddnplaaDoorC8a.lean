/- Errors that wrap others: errors.As finds the one of the type 'misfit' that lies below; the code of an error. Conditions: as each theorem states. -/
import Derived.Test.YtmdknbgpddnplaaDoorC3b
import Derived.Test.YtmdknbgpddnplaaDoorG2
namespace Go.Proofs.YtmdknbgpddnplaaDoor
open Go.RowKit Go.Extern.Stop Go.Stop Go.Extern
set_option linter.unusedVariables false
set_option maxRecDepth 100000

/-- An error that wraps another. -/
abbrev refV (s : ByteArray) (e : Value) : Value := .iface 61 (.agg #[.string s, e])
theorem rl_typeOfR (v : Value) (w : World) : (ReflectliteType.typeOf #[.iface 61 v]).run Tryd.prog w = .ok (.iface 109 (.agg #[hdl 61])) w := by kernel_rfl
theorem rl_asgnR (w : World) : (ReflectliteType.relation "AssignableTo" ReflectliteType.assignableTo #[.agg #[hdl 61], .iface 109 (.agg #[hdl 63])]).run Tryd.prog w = .ok (.bool false) w := by kernel_rfl
theorem rl_noAs (s : ByteArray) (e : Value) (w : World) : (Instr.typeAssert (refV s e) 49 114 true).run Tryd.prog w = .ok (.tuple #[.nilIface, .bool false]) w := run_typeAssert_lacksB Tryd.underlying114 (by kernel_rfl) (by kernel_rfl) _ _ w
theorem rl_unwraps (s : ByteArray) (e : Value) (w : World) : (Instr.typeAssert (refV s e) 49 117 true).run Tryd.prog w = .ok (.tuple #[refV s e, .bool true]) w := run_typeAssert_hasB Tryd.underlying117 (by kernel_rfl) _ _ w
theorem rl_mUnwrap (s : ByteArray) (e : Value) (w : World) : (Go.method 286 61 (.agg #[.string s, e]) "Unwrap").run Tryd.prog w = .ok (106, .agg #[.string s, e]) w := by kernel_rfl
theorem unwrap_any (s : ByteArray) (e : Value) (w : World) :
    Calls Tryd.prog 106 #[.agg #[.string s, e]] w fun r w' => r = .returned e ∧ Below w.heap.size w w' := by
  have b0 := bal (Below.refl _ w) (.cells #[.string s, e] 61)
  go_enter Tryd.func106, Tryd.ntmps106
  go_wp2_with fail
  go_ret
  exact ⟨rfl, b0⟩
def AsHit (tb : Nat) (c : Int) (w : World) (ev : Ending) (w' : World) : Prop := ev = .returned (.bool true) ∧ w'.cell? ⟨tb, 0, none⟩ = some (.int .i64 c) ∧ Below tb w w'
set_option maxHeartbeats 4000000 in
theorem as_0 (c : Int) (s : ByteArray) (tb vb : Nat) (o0 o1 T : Value) (w : World) (cv : w.cell? ⟨vb, 0, none⟩ = some (.pointer (some ⟨tb, 0, none⟩))) (t0 : w.cell? ⟨tb, 0, none⟩ = some o0) (t1 : w.cell? ⟨tb, 1, none⟩ = some o1) (f0 : w.frozen? ⟨tb, 0, none⟩ = false) (f1 : w.frozen? ⟨tb, 1, none⟩ = false) :
    Calls Tryd.prog 43 #[misV c s, T, rval 69 ⟨vb, 0, none⟩ 150, .iface 109 (.agg #[hdl 63])] w (AsHit tb c w) := by
  have hV := @run_callFunc_extern Tryd.prog 40 _ (fun args => ReflectliteValue.unpack (args.getD 0 (.tuple #[]))) Tryd.func40 (by kernel_rfl) (by kernel_rfl) (by kernel_rfl) (by kernel_rfl)
  have hO := @run_callFunc_extern Tryd.prog 55 _ ReflectliteType.typeOf Tryd.func55 (by kernel_rfl) (by kernel_rfl) (by kernel_rfl) (by kernel_rfl)
  have hA := @run_callFunc_extern Tryd.prog 113 _ (ReflectliteType.relation "AssignableTo" ReflectliteType.assignableTo) Tryd.func113 (by kernel_rfl) (by kernel_rfl) (by kernel_rfl) (by kernel_rfl)
  have hL := @run_callFunc_extern Tryd.prog 56 _ (ReflectliteValue.method (ReflectliteValue.valueError "reflectlite.Value.Elem" 0) ReflectliteValue.elem) Tryd.func56 (by kernel_rfl) (by kernel_rfl) (by kernel_rfl) (by kernel_rfl)
  have hS := @run_callFunc_extern Tryd.prog 57 _ ReflectliteValue.set Tryd.func57 (by kernel_rfl) (by kernel_rfl) (by kernel_rfl) (by kernel_rfl)
  have tO := rl_typeOfM
  have tR := rl_typeOfR
  have mA := rl_mAsgn
  have a1 := rl_asgnM
  have a2 := rl_asgnR
  have v1 := rl_valueOfM
  have htl0 : tb < w.heap.size := cell_lt t0
  have hb := bal (Below.refl _ w) (.cells #[hdl 69, .pointer (some ⟨vb, 0, none⟩), .int .u64 150] 92)
  have HB := Lib.hid (hb.mono (Nat.le_of_lt htl0))
  have z := cell_keep hb cv; clear cv; have cv := z; clear z
  have z := cell_keep hb t0; clear t0; have t0 := z; clear z
  have z := cell_keep hb t1; clear t1; have t1 := z; clear z
  have z := (hb.frozen (p := ⟨tb, 0, none⟩) htl0).trans f0; clear f0; have f0 := z; clear z
  have z := (hb.frozen (p := ⟨tb, 1, none⟩) htl0).trans f1; clear f1; have f1 := z; clear z
  have AV : At w.heap.size [hdl 69, .pointer (some ⟨vb, 0, none⟩), .int .u64 150] (w.alloc (.cells #[hdl 69, .pointer (some ⟨vb, 0, none⟩), .int .u64 150] 92)) := At.new w [hdl 69, .pointer (some ⟨vb, 0, none⟩), .int .u64 150] 92
  clear hb htl0
  go_enter Tryd.func43, Tryd.ntmps43
  go_wp2
  generalize w.alloc (.cells #[hdl 69, .pointer (some ⟨vb, 0, none⟩), .int .u64 150] 92) = W1 at *
  refine wp_loop_rounds 1 ?_
  have el := rl_elemV ⟨vb, 0, none⟩ ⟨tb, 0, none⟩ W1 cv
  have hb4 : Below W1.heap.size W1 (W1.alloc (.cells #[.int .i64 c, .string s] 63)) := bal (Below.refl _ _) _
  have htl : tb < W1.heap.size := cell_lt t0
  have q0 := cell_keep hb4 t0
  have q1 := cell_keep hb4 t1
  have p0 := (hb4.frozen (p := ⟨tb, 0, none⟩) htl).trans f0
  have p1 := (hb4.frozen (p := ⟨tb, 1, none⟩) htl).trans f1
  have st := rl_setM tb W1.heap.size c s o0 o1 (W1.alloc (.cells #[.int .i64 c, .string s] 63)) (by rw [World.cell?_alloc_at _ _ _ _ (by simp)]; rfl) (by rw [World.cell?_alloc_at _ _ _ _ (by simp)]; rfl) q0 q1 p0 p1
  have F := Lib.hid (And.intro q0 (Below.trans HB.out (hb4.mono (Nat.le_of_lt htl))))
  clear hb4 q0 q1 p0 p1 t0 t1 f0 f1 cv HB htl
  have d0 := AV.cell 0 _ rfl
  have d1 := AV.cell 1 _ rfl
  have d2 := AV.cell 2 _ rfl
  clear AV
  rw [rounds_succ]
  go_wp2
  go_ret
  refine ⟨rfl, ?_, ?_⟩
  · rw [World.cell?_setCell_other _ _ _ _ (fun e => by injection e with _ e2; omega), World.cell?_setCell_same _ _ _ (by rw [F.out.1])]
  · exact (F.out.2.setCell (Nat.le_refl _) _).setCell (Nat.le_refl _) _
set_option maxHeartbeats 4000000 in
theorem as_1 (c : Int) (s s1 : ByteArray) (tb vb : Nat) (o0 o1 T : Value) (w : World) (cv : w.cell? ⟨vb, 0, none⟩ = some (.pointer (some ⟨tb, 0, none⟩))) (t0 : w.cell? ⟨tb, 0, none⟩ = some o0) (t1 : w.cell? ⟨tb, 1, none⟩ = some o1) (f0 : w.frozen? ⟨tb, 0, none⟩ = false) (f1 : w.frozen? ⟨tb, 1, none⟩ = false) :
    Calls Tryd.prog 43 #[refV s1 (misV c s), T, rval 69 ⟨vb, 0, none⟩ 150, .iface 109 (.agg #[hdl 63])] w (AsHit tb c w) := by
  have hV := @run_callFunc_extern Tryd.prog 40 _ (fun args => ReflectliteValue.unpack (args.getD 0 (.tuple #[]))) Tryd.func40 (by kernel_rfl) (by kernel_rfl) (by kernel_rfl) (by kernel_rfl)
  have hO := @run_callFunc_extern Tryd.prog 55 _ ReflectliteType.typeOf Tryd.func55 (by kernel_rfl) (by kernel_rfl) (by kernel_rfl) (by kernel_rfl)
  have hA := @run_callFunc_extern Tryd.prog 113 _ (ReflectliteType.relation "AssignableTo" ReflectliteType.assignableTo) Tryd.func113 (by kernel_rfl) (by kernel_rfl) (by kernel_rfl) (by kernel_rfl)
  have hL := @run_callFunc_extern Tryd.prog 56 _ (ReflectliteValue.method (ReflectliteValue.valueError "reflectlite.Value.Elem" 0) ReflectliteValue.elem) Tryd.func56 (by kernel_rfl) (by kernel_rfl) (by kernel_rfl) (by kernel_rfl)
  have hS := @run_callFunc_extern Tryd.prog 57 _ ReflectliteValue.set Tryd.func57 (by kernel_rfl) (by kernel_rfl) (by kernel_rfl) (by kernel_rfl)
  have tO := rl_typeOfM
  have tR := rl_typeOfR
  have mA := rl_mAsgn
  have a1 := rl_asgnM
  have a2 := rl_asgnR
  have v1 := rl_valueOfM
  have htl0 : tb < w.heap.size := cell_lt t0
  have hb := bal (Below.refl _ w) (.cells #[hdl 69, .pointer (some ⟨vb, 0, none⟩), .int .u64 150] 92)
  have HB := Lib.hid (hb.mono (Nat.le_of_lt htl0))
  have z := cell_keep hb cv; clear cv; have cv := z; clear z
  have z := cell_keep hb t0; clear t0; have t0 := z; clear z
  have z := cell_keep hb t1; clear t1; have t1 := z; clear z
  have z := (hb.frozen (p := ⟨tb, 0, none⟩) htl0).trans f0; clear f0; have f0 := z; clear z
  have z := (hb.frozen (p := ⟨tb, 1, none⟩) htl0).trans f1; clear f1; have f1 := z; clear z
  have AV : At w.heap.size [hdl 69, .pointer (some ⟨vb, 0, none⟩), .int .u64 150] (w.alloc (.cells #[hdl 69, .pointer (some ⟨vb, 0, none⟩), .int .u64 150] 92)) := At.new w [hdl 69, .pointer (some ⟨vb, 0, none⟩), .int .u64 150] 92
  clear hb htl0
  go_enter Tryd.func43, Tryd.ntmps43
  go_wp2
  generalize w.alloc (.cells #[hdl 69, .pointer (some ⟨vb, 0, none⟩), .int .u64 150] 92) = W1 at *
  refine wp_loop_rounds 2 ?_
  have ta1 := rl_noAs s1 (misV c s)
  have ta2 := rl_unwraps s1 (misV c s)
  have mU := rl_mUnwrap s1 (misV c s)
  rw [rounds_succ]
  go_wp2_with fail
  refine (unwrap_any _ _ _).mono ?_
  rintro r W2 ⟨rfl, hb⟩
  have htl : tb < W1.heap.size := cell_lt t0
  have z := Lib.hid (Below.trans HB.out (hb.mono (Nat.le_of_lt htl))); clear HB; have HB := z; clear z
  have z := AV.on hb; clear AV; have AV := z; clear z
  have z := cell_keep hb cv; clear cv; have cv := z; clear z
  have z := cell_keep hb t0; clear t0; have t0 := z; clear z
  have z := cell_keep hb t1; clear t1; have t1 := z; clear z
  have z := (hb.frozen (p := ⟨tb, 0, none⟩) htl).trans f0; clear f0; have f0 := z; clear z
  have z := (hb.frozen (p := ⟨tb, 1, none⟩) htl).trans f1; clear f1; have f1 := z; clear z
  clear hb htl ta1 ta2 mU
  go_wp2
  generalize W2 = W1 at *
  have el := rl_elemV ⟨vb, 0, none⟩ ⟨tb, 0, none⟩ W1 cv
  have hb4 : Below W1.heap.size W1 (W1.alloc (.cells #[.int .i64 c, .string s] 63)) := bal (Below.refl _ _) _
  have htl : tb < W1.heap.size := cell_lt t0
  have q0 := cell_keep hb4 t0
  have q1 := cell_keep hb4 t1
  have p0 := (hb4.frozen (p := ⟨tb, 0, none⟩) htl).trans f0
  have p1 := (hb4.frozen (p := ⟨tb, 1, none⟩) htl).trans f1
  have st := rl_setM tb W1.heap.size c s o0 o1 (W1.alloc (.cells #[.int .i64 c, .string s] 63)) (by rw [World.cell?_alloc_at _ _ _ _ (by simp)]; rfl) (by rw [World.cell?_alloc_at _ _ _ _ (by simp)]; rfl) q0 q1 p0 p1
  have F := Lib.hid (And.intro q0 (Below.trans HB.out (hb4.mono (Nat.le_of_lt htl))))
  clear hb4 q0 q1 p0 p1 t0 t1 f0 f1 cv HB htl
  have d0 := AV.cell 0 _ rfl
  have d1 := AV.cell 1 _ rfl
  have d2 := AV.cell 2 _ rfl
  clear AV
  rw [rounds_succ]
  go_wp2
  go_ret
  refine ⟨rfl, ?_, ?_⟩
  · rw [World.cell?_setCell_other _ _ _ _ (fun e => by injection e with _ e2; omega), World.cell?_setCell_same _ _ _ (by rw [F.out.1])]
  · exact (F.out.2.setCell (Nat.le_refl _) _).setCell (Nat.le_refl _) _
set_option maxHeartbeats 4000000 in
theorem as_2 (c : Int) (s s1 s2 : ByteArray) (tb vb : Nat) (o0 o1 T : Value) (w : World) (cv : w.cell? ⟨vb, 0, none⟩ = some (.pointer (some ⟨tb, 0, none⟩))) (t0 : w.cell? ⟨tb, 0, none⟩ = some o0) (t1 : w.cell? ⟨tb, 1, none⟩ = some o1) (f0 : w.frozen? ⟨tb, 0, none⟩ = false) (f1 : w.frozen? ⟨tb, 1, none⟩ = false) :
    Calls Tryd.prog 43 #[refV s2 (refV s1 (misV c s)), T, rval 69 ⟨vb, 0, none⟩ 150, .iface 109 (.agg #[hdl 63])] w (AsHit tb c w) := by
  have hV := @run_callFunc_extern Tryd.prog 40 _ (fun args => ReflectliteValue.unpack (args.getD 0 (.tuple #[]))) Tryd.func40 (by kernel_rfl) (by kernel_rfl) (by kernel_rfl) (by kernel_rfl)
  have hO := @run_callFunc_extern Tryd.prog 55 _ ReflectliteType.typeOf Tryd.func55 (by kernel_rfl) (by kernel_rfl) (by kernel_rfl) (by kernel_rfl)
  have hA := @run_callFunc_extern Tryd.prog 113 _ (ReflectliteType.relation "AssignableTo" ReflectliteType.assignableTo) Tryd.func113 (by kernel_rfl) (by kernel_rfl) (by kernel_rfl) (by kernel_rfl)
  have hL := @run_callFunc_extern Tryd.prog 56 _ (ReflectliteValue.method (ReflectliteValue.valueError "reflectlite.Value.Elem" 0) ReflectliteValue.elem) Tryd.func56 (by kernel_rfl) (by kernel_rfl) (by kernel_rfl) (by kernel_rfl)
  have hS := @run_callFunc_extern Tryd.prog 57 _ ReflectliteValue.set Tryd.func57 (by kernel_rfl) (by kernel_rfl) (by kernel_rfl) (by kernel_rfl)
  have tO := rl_typeOfM
  have tR := rl_typeOfR
  have mA := rl_mAsgn
  have a1 := rl_asgnM
  have a2 := rl_asgnR
  have v1 := rl_valueOfM
  have htl0 : tb < w.heap.size := cell_lt t0
  have hb := bal (Below.refl _ w) (.cells #[hdl 69, .pointer (some ⟨vb, 0, none⟩), .int .u64 150] 92)
  have HB := Lib.hid (hb.mono (Nat.le_of_lt htl0))
  have z := cell_keep hb cv; clear cv; have cv := z; clear z
  have z := cell_keep hb t0; clear t0; have t0 := z; clear z
  have z := cell_keep hb t1; clear t1; have t1 := z; clear z
  have z := (hb.frozen (p := ⟨tb, 0, none⟩) htl0).trans f0; clear f0; have f0 := z; clear z
  have z := (hb.frozen (p := ⟨tb, 1, none⟩) htl0).trans f1; clear f1; have f1 := z; clear z
  have AV : At w.heap.size [hdl 69, .pointer (some ⟨vb, 0, none⟩), .int .u64 150] (w.alloc (.cells #[hdl 69, .pointer (some ⟨vb, 0, none⟩), .int .u64 150] 92)) := At.new w [hdl 69, .pointer (some ⟨vb, 0, none⟩), .int .u64 150] 92
  clear hb htl0
  go_enter Tryd.func43, Tryd.ntmps43
  go_wp2
  generalize w.alloc (.cells #[hdl 69, .pointer (some ⟨vb, 0, none⟩), .int .u64 150] 92) = W1 at *
  refine wp_loop_rounds 3 ?_
  have ta1 := rl_noAs s2 (refV s1 (misV c s))
  have ta2 := rl_unwraps s2 (refV s1 (misV c s))
  have mU := rl_mUnwrap s2 (refV s1 (misV c s))
  rw [rounds_succ]
  go_wp2_with fail
  refine (unwrap_any _ _ _).mono ?_
  rintro r W2 ⟨rfl, hb⟩
  have htl : tb < W1.heap.size := cell_lt t0
  have z := Lib.hid (Below.trans HB.out (hb.mono (Nat.le_of_lt htl))); clear HB; have HB := z; clear z
  have z := AV.on hb; clear AV; have AV := z; clear z
  have z := cell_keep hb cv; clear cv; have cv := z; clear z
  have z := cell_keep hb t0; clear t0; have t0 := z; clear z
  have z := cell_keep hb t1; clear t1; have t1 := z; clear z
  have z := (hb.frozen (p := ⟨tb, 0, none⟩) htl).trans f0; clear f0; have f0 := z; clear z
  have z := (hb.frozen (p := ⟨tb, 1, none⟩) htl).trans f1; clear f1; have f1 := z; clear z
  clear hb htl ta1 ta2 mU
  go_wp2
  generalize W2 = W1 at *
  have ta1 := rl_noAs s1 (misV c s)
  have ta2 := rl_unwraps s1 (misV c s)
  have mU := rl_mUnwrap s1 (misV c s)
  rw [rounds_succ]
  go_wp2_with fail
  refine (unwrap_any _ _ _).mono ?_
  rintro r W2 ⟨rfl, hb⟩
  have htl : tb < W1.heap.size := cell_lt t0
  have z := Lib.hid (Below.trans HB.out (hb.mono (Nat.le_of_lt htl))); clear HB; have HB := z; clear z
  have z := AV.on hb; clear AV; have AV := z; clear z
  have z := cell_keep hb cv; clear cv; have cv := z; clear z
  have z := cell_keep hb t0; clear t0; have t0 := z; clear z
  have z := cell_keep hb t1; clear t1; have t1 := z; clear z
  have z := (hb.frozen (p := ⟨tb, 0, none⟩) htl).trans f0; clear f0; have f0 := z; clear z
  have z := (hb.frozen (p := ⟨tb, 1, none⟩) htl).trans f1; clear f1; have f1 := z; clear z
  clear hb htl ta1 ta2 mU
  go_wp2
  generalize W2 = W1 at *
  have el := rl_elemV ⟨vb, 0, none⟩ ⟨tb, 0, none⟩ W1 cv
  have hb4 : Below W1.heap.size W1 (W1.alloc (.cells #[.int .i64 c, .string s] 63)) := bal (Below.refl _ _) _
  have htl : tb < W1.heap.size := cell_lt t0
  have q0 := cell_keep hb4 t0
  have q1 := cell_keep hb4 t1
  have p0 := (hb4.frozen (p := ⟨tb, 0, none⟩) htl).trans f0
  have p1 := (hb4.frozen (p := ⟨tb, 1, none⟩) htl).trans f1
  have st := rl_setM tb W1.heap.size c s o0 o1 (W1.alloc (.cells #[.int .i64 c, .string s] 63)) (by rw [World.cell?_alloc_at _ _ _ _ (by simp)]; rfl) (by rw [World.cell?_alloc_at _ _ _ _ (by simp)]; rfl) q0 q1 p0 p1
  have F := Lib.hid (And.intro q0 (Below.trans HB.out (hb4.mono (Nat.le_of_lt htl))))
  clear hb4 q0 q1 p0 p1 t0 t1 f0 f1 cv HB htl
  have d0 := AV.cell 0 _ rfl
  have d1 := AV.cell 1 _ rfl
  have d2 := AV.cell 2 _ rfl
  clear AV
  rw [rounds_succ]
  go_wp2
  go_ret
  refine ⟨rfl, ?_, ?_⟩
  · rw [World.cell?_setCell_other _ _ _ _ (fun e => by injection e with _ e2; omega), World.cell?_setCell_same _ _ _ (by rw [F.out.1])]
  · exact (F.out.2.setCell (Nat.le_refl _) _).setCell (Nat.le_refl _) _
/-- An error that has code c: what does not fit, wrapped twice at most. -/
def ErrC (c : Int) (e : Value) : Prop := (∃ s, e = misV c s) ∨ (∃ s1 s, e = refV s1 (misV c s)) ∨ ∃ s2 s1 s, e = refV s2 (refV s1 (misV c s))
/-- One that is wrapped once at most. -/
def ErrC1 (c : Int) (e : Value) : Prop := (∃ s, e = misV c s) ∨ ∃ s1 s, e = refV s1 (misV c s)
theorem ErrC1.all {c : Int} {e : Value} (h : ErrC1 c e) : ErrC c e := h.elim (fun h => .inl h) fun h => .inr (.inl h)
theorem ErrC1.wrap {c : Int} {e : Value} (h : ErrC1 c e) (s : ByteArray) : ErrC c (refV s e) := by
  rcases h with ⟨x, rfl⟩ | ⟨y, x, rfl⟩
  · exact .inr (.inl ⟨_, _, rfl⟩)
  · exact .inr (.inr ⟨_, _, _, rfl⟩)
theorem ErrC.neq {c : Int} {e : Value} (h : ErrC c e) (w : World) : (binOp .neq 49 e .nilIface).run Tryd.prog w = .ok (.bool true) w := by
  rcases h with ⟨x, rfl⟩ | ⟨y, x, rfl⟩ | ⟨z, y, x, rfl⟩ <;> kernel_rfl
theorem ErrC.eql {c : Int} {e : Value} (h : ErrC c e) (w : World) : (binOp .eql 49 e .nilIface).run Tryd.prog w = .ok (.bool false) w := by
  rcases h with ⟨x, rfl⟩ | ⟨y, x, rfl⟩ | ⟨z, y, x, rfl⟩ <;> kernel_rfl
theorem ErrC.gneq {c : Int} {e : Value} (h : ErrC c e) (n : Nat) (w : World) : (eqGuard .neq 49 (.tmp n) (.const .nilIface) e .nilIface).run Tryd.prog w = .ok () w := by
  rcases h with ⟨x, rfl⟩ | ⟨y, x, rfl⟩ | ⟨z, y, x, rfl⟩ <;> kernel_rfl
theorem ErrC.geql {c : Int} {e : Value} (h : ErrC c e) (n : Nat) (w : World) : (eqGuard .eql 49 (.tmp n) (.const .nilIface) e .nilIface).run Tryd.prog w = .ok () w := by
  rcases h with ⟨x, rfl⟩ | ⟨y, x, rfl⟩ | ⟨z, y, x, rfl⟩ <;> kernel_rfl
theorem as_any {c : Int} {e : Value} (h : ErrC c e) (tb vb : Nat) (o0 o1 T : Value) (w : World) (cv : w.cell? ⟨vb, 0, none⟩ = some (.pointer (some ⟨tb, 0, none⟩))) (t0 : w.cell? ⟨tb, 0, none⟩ = some o0) (t1 : w.cell? ⟨tb, 1, none⟩ = some o1) (f0 : w.frozen? ⟨tb, 0, none⟩ = false) (f1 : w.frozen? ⟨tb, 1, none⟩ = false) :
    Calls Tryd.prog 43 #[e, T, rval 69 ⟨vb, 0, none⟩ 150, .iface 109 (.agg #[hdl 63])] w (AsHit tb c w) := by
  rcases h with ⟨x, rfl⟩ | ⟨y, x, rfl⟩ | ⟨z, y, x, rfl⟩
  · exact as_0 c x tb vb o0 o1 T w cv t0 t1 f0 f1
  · exact as_1 c x y tb vb o0 o1 T w cv t0 t1 f0 f1
  · exact as_2 c x y z tb vb o0 o1 T w cv t0 t1 f0 f1
set_option maxHeartbeats 4000000 in
theorem As_err {c : Int} {e : Value} (h : ErrC c e) (tb : Nat) (o0 o1 : Value) (w : World) (hg : ErrT w) (t0 : w.cell? ⟨tb, 0, none⟩ = some o0) (t1 : w.cell? ⟨tb, 1, none⟩ = some o1) (f0 : w.frozen? ⟨tb, 0, none⟩ = false) (f1 : w.frozen? ⟨tb, 1, none⟩ = false) :
    Calls Tryd.prog 26 #[e, .iface 69 (.pointer (some ⟨tb, 0, none⟩))] w (AsHit tb c w) := by
  have hV := @run_callFunc_extern Tryd.prog 40 _ (fun args => ReflectliteValue.unpack (args.getD 0 (.tuple #[]))) Tryd.func40 (by kernel_rfl) (by kernel_rfl) (by kernel_rfl) (by kernel_rfl)
  have hT := @run_callFunc_extern Tryd.prog 41 _ (ReflectliteValue.methodAny (ReflectliteValue.valueError "reflectlite.Value.Type" 0) (fun t _ _ _ => ReflectliteType.toType t)) Tryd.func41 (by kernel_rfl) (by kernel_rfl) (by kernel_rfl) (by kernel_rfl)
  have hN := @run_callFunc_extern Tryd.prog 42 _ (ReflectliteValue.method (ReflectliteValue.valueError "reflectlite.Value.IsNil" 0) ReflectliteValue.isNil) Tryd.func42 (by kernel_rfl) (by kernel_rfl) (by kernel_rfl) (by kernel_rfl)
  have hK := @run_callFunc_extern Tryd.prog 102 _ (ReflectliteType.abiMethod fun t => do pure (.int .u8 (← Rtype.kind t))) Tryd.func102 (by kernel_rfl) (by kernel_rfl) (by kernel_rfl) (by kernel_rfl)
  have hE := @run_callFunc_extern Tryd.prog 115 _ (ReflectliteType.method ReflectliteType.elem) Tryd.func115 (by kernel_rfl) (by kernel_rfl) (by kernel_rfl) (by kernel_rfl)
  have hI := @run_callFunc_extern Tryd.prog 116 _ (ReflectliteType.relation "Implements" ReflectliteType.implements_) Tryd.func116 (by kernel_rfl) (by kernel_rfl) (by kernel_rfl) (by kernel_rfl)
  have v2 := rl_valueOfP
  have ty := rl_typeP
  have mK := rl_mKind
  have mE := rl_mElem
  have mI := rl_mImpl
  have k1 := rl_kindP
  have k2 := rl_kindM
  have e1 := rl_elemP
  have i1 := rl_implM
  have ne := h.eql
  have ng := h.geql
  have n1 := rl_isNilP ⟨w.heap.size, 0, none⟩ ⟨tb, 0, none⟩ ((w.alloc (.cells #[.pointer (some ⟨tb, 0, none⟩)] 69)).alloc (.cells #[hdl 69, .pointer (some ⟨w.heap.size, 0, none⟩), .int .u64 150] 92)) (by simp)
  have hg2 : ((w.alloc (.cells #[.pointer (some ⟨tb, 0, none⟩)] 69)).alloc (.cells #[hdl 69, .pointer (some ⟨w.heap.size, 0, none⟩), .int .u64 150] 92)).cell? ⟨1, 0, none⟩ = some (.iface 109 (.agg #[.pointer (some ⟨6, 49, none⟩)])) :=
    ((hg.on (bal (Below.refl _ _) _)).on (bal (Below.refl _ _) _)).cell
  have htl : tb < w.heap.size := cell_lt t0
  have hb : Below w.heap.size w ((w.alloc (.cells #[.pointer (some ⟨tb, 0, none⟩)] 69)).alloc (.cells #[hdl 69, .pointer (some ⟨w.heap.size, 0, none⟩), .int .u64 150] 92)) := bal (bal (Below.refl _ _) _) _
  have A := as_any h tb w.heap.size o0 o1 (.iface 69 (.pointer (some ⟨tb, 0, none⟩))) _ (show ((w.alloc (.cells #[.pointer (some ⟨tb, 0, none⟩)] 69)).alloc (.cells #[hdl 69, .pointer (some ⟨w.heap.size, 0, none⟩), .int .u64 150] 92)).cell? ⟨w.heap.size, 0, none⟩ = some (.pointer (some ⟨tb, 0, none⟩)) by simp) (cell_keep hb t0) (cell_keep hb t1) ((hb.frozen (p := ⟨tb, 0, none⟩) htl).trans f0) ((hb.frozen (p := ⟨tb, 1, none⟩) htl).trans f1)
  have HB := Lib.hid (hb.mono (Nat.le_of_lt htl))
  clear hb t0 t1 f0 f1 hg htl h
  go_enter Tryd.func26, Tryd.ntmps26
  go_wp2_with fail
  refine A.mono ?_
  rintro r w2 ⟨rfl, q0, b2⟩
  have F := Lib.hid (And.intro q0 (Below.trans HB.out b2))
  clear q0 b2 HB
  go_wp2
  go_ret
  exact ⟨rfl, F.out.1, F.out.2⟩
theorem codeOf_err {c : Int} {e : Value} (h : ErrC c e) (w : World) (hg : ErrT w) :
    Calls Tryd.prog 17 #[e] w fun r w' => r = .returned (.int .i64 c) ∧ Below w.heap.size w w' := by
  have hg1 := fun o => hg.on (bal (Below.refl _ w) o)
  clear hg
  go_enter Tryd.func17, Tryd.ntmps17
  go_wp2_with fail
  refine (As_err h w.heap.size (.int .i64 0) (.string { data := #[] }) _ (hg1 _) (by go_simp) (by go_simp) (by go_simp) (by go_simp)).mono ?_
  rintro r w1 ⟨rfl, q0, hb⟩
  have hb2 := Below.trans (bal (Below.refl _ w) _) hb
  clear hb hg1
  go_wp2_with fail
  go_ret
  exact ⟨rfl, hb2⟩
end Go.Proofs.YtmdknbgpddnplaaDoor
