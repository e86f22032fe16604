/- Contracts of the errors of chapter 3: what does not fit is an error of its own, asked by errors.As. Conditions: as each theorem states. -/
import Derived.Test.YtmdknbgpddnplaaDoorC2e
import Derived.LaidEql
import Derived.Stop.Asserts
import Derived.RowKitTokens
import Derived.Laws.IdiomCopy
namespace Go.Proofs.YtmdknbgpddnplaaDoor
open Go.RowKit Go.Extern.Stop Go.Stop Go.Extern

/-- The variable errors.errorType holds the handle of the type 'error'. -/
structure ErrT (w : World) : Prop where
  cell : w.cell? ⟨1, 0, none⟩ = some (.iface 109 (.agg #[.pointer (some ⟨6, 49, none⟩)]))
theorem ErrT.on {w w' : World} (h : ErrT w) (hb : Below w.heap.size w w') : ErrT w' := ⟨cell_keep hb h.cell⟩
theorem ErrT.grew {w w' : World} {row : Option Nat} (h : ErrT w) (hg : w.grownBy w' row) (hr : ∀ k, row = some k → 1 < k) : ErrT w' :=
  ⟨hg.cell h.cell (fun e => by have := hr _ e.symm; exact absurd this (Nat.lt_irrefl _))⟩
theorem ErrT.lt {w : World} (h : ErrT w) : 1 < w.heap.size := cell_lt h.cell

/-- An error of what does not fit. -/
abbrev misV (c : Int) (s : ByteArray) : Value := .iface 63 (.agg #[.int .i64 c, .string s])
abbrev hdl (t : Nat) : Value := .pointer (some ⟨6, t, none⟩)
abbrev rval (t : Nat) (a : Addr) (f : Int) : Value := .agg #[hdl t, .pointer (some a), .int .u64 f]

theorem as_nil (t : Value) (w : World) :
    Calls Tryd.prog 26 #[.nilIface, t] w fun e w' => e = .returned (.bool false) ∧ w = w' := by
  go_enter Tryd.func26, Tryd.ntmps26
  go_wp2
  go_ret
  exact ⟨rfl, rfl⟩

theorem rl_valueOfP (t : Addr) (w : World) : (ReflectliteValue.unpack (.iface 69 (.pointer (some t)))).run Tryd.prog w
    = .ok (rval 69 ⟨w.heap.size, 0, none⟩ 150) (w.alloc (.cells #[.pointer (some t)] 69)) := by kernel_rfl
theorem rl_typeP (a : Addr) (w : World) : (ReflectliteValue.methodAny (ReflectliteValue.valueError "reflectlite.Value.Type" 0) (fun t _ _ _ => ReflectliteType.toType t) #[rval 69 a 150]).run Tryd.prog w
    = .ok (.iface 109 (.agg #[hdl 69])) w := by kernel_rfl
theorem rl_mKind (h : Value) (w : World) : (Go.method 286 109 (.agg #[h]) "Kind").run Tryd.prog w = .ok (102, h) w := by kernel_rfl
theorem rl_mElem (h : Value) (w : World) : (Go.method 286 109 (.agg #[h]) "Elem").run Tryd.prog w = .ok (115, .agg #[h]) w := by kernel_rfl
theorem rl_mImpl (h : Value) (w : World) : (Go.method 286 109 (.agg #[h]) "Implements").run Tryd.prog w = .ok (116, .agg #[h]) w := by kernel_rfl
theorem rl_mAsgn (h : Value) (w : World) : (Go.method 286 109 (.agg #[h]) "AssignableTo").run Tryd.prog w = .ok (113, .agg #[h]) w := by kernel_rfl
theorem rl_kindP (w : World) : ((ReflectliteType.abiMethod fun t => (fun a : Nat => Value.int IntKind.u8 (a : Int)) <$> Rtype.kind t) #[hdl 69]).run Tryd.prog w = .ok (.int .u8 22) w := by kernel_rfl
theorem rl_kindM (w : World) : ((ReflectliteType.abiMethod fun t => (fun a : Nat => Value.int IntKind.u8 (a : Int)) <$> Rtype.kind t) #[hdl 63]).run Tryd.prog w = .ok (.int .u8 25) w := by kernel_rfl
theorem rl_elemP (w : World) : (ReflectliteType.method ReflectliteType.elem #[.agg #[hdl 69]]).run Tryd.prog w = .ok (.iface 109 (.agg #[hdl 63])) w := by kernel_rfl
theorem rl_implM (w : World) : (ReflectliteType.relation "Implements" ReflectliteType.implements_ #[.agg #[hdl 63], .iface 109 (.agg #[hdl 49])]).run Tryd.prog w = .ok (.bool true) w := by kernel_rfl
theorem rl_typeOfM (v : Value) (w : World) : (ReflectliteType.typeOf #[.iface 63 v]).run Tryd.prog w = .ok (.iface 109 (.agg #[hdl 63])) w := by kernel_rfl
theorem rl_asgnM (w : World) : (ReflectliteType.relation "AssignableTo" ReflectliteType.assignableTo #[.agg #[hdl 63], .iface 109 (.agg #[hdl 63])]).run Tryd.prog w = .ok (.bool true) w := by kernel_rfl
theorem rl_valueOfM (c : Int) (s : ByteArray) (w : World) : (ReflectliteValue.unpack (misV c s)).run Tryd.prog w
    = .ok (rval 63 ⟨w.heap.size, 0, none⟩ 153) (w.alloc (.cells #[.int .i64 c, .string s] 63)) := by kernel_rfl

theorem rl_partsP (a : Addr) (w : World) : (ReflectliteValue.parts (rval 69 a 150)).run Tryd.prog w = .ok (some (69, a, 150)) w := by kernel_rfl
theorem rl_method {P : Program} {w : World} {z : Sem Value} {f : TypeId → Addr → Nat → Nat → Sem Value} {v : Value} {t : TypeId} {a : Addr} {k : Nat} (h : (ReflectliteValue.parts v).run P w = .ok (some (t, a, k)) w) :
    (ReflectliteValue.method z f #[v]).run P w = (f t a k (k % 32)).run P w := by
  rw [show ReflectliteValue.method z f #[v] = ReflectliteValue.parts v >>= _ from rfl]
  simp only [Sem.run_bind, h, Result.andThen]
theorem rl_isNilP (a p : Addr) (W : World) (ha : W.cell? a = some (.pointer (some p))) :
    (ReflectliteValue.method (ReflectliteValue.valueError "reflectlite.Value.IsNil" 0) ReflectliteValue.isNil #[rval 69 a 150]).run Tryd.prog W = .ok (.bool false) W := by
  rw [rl_method (rl_partsP _ _)]
  simp [ReflectliteValue.isNil, loadVar, isAgg, underlying, Tryd.underlying69, ha, Result.andThen]
theorem rl_elemOfP (w : World) : (Rtype.elem? 69).run Tryd.prog w = .ok (some 63) w := by kernel_rfl
theorem rl_mkM (p : Addr) (w : World) : (ReflectliteValue.mk 63 p ReflectliteValue.flagAddr).run Tryd.prog w = .ok (rval 63 p 409) w := by kernel_rfl
theorem rl_elemV (a p : Addr) (W : World) (ha : W.cell? a = some (.pointer (some p))) :
    (ReflectliteValue.method (ReflectliteValue.valueError "reflectlite.Value.Elem" 0) ReflectliteValue.elem #[rval 69 a 150]).run Tryd.prog W = .ok (rval 63 p 409) W := by
  rw [rl_method (rl_partsP _ _)]
  simp [ReflectliteValue.elem, loadVar, isAgg, underlying, Tryd.underlying69, ha, Result.andThen, rl_elemOfP, rl_mkM]
theorem rl_partsMa (a : Addr) (w : World) : (ReflectliteValue.parts (rval 63 a 409)).run Tryd.prog w = .ok (some (63, a, 409)) w := by kernel_rfl
theorem rl_partsM (a : Addr) (w : World) : (ReflectliteValue.parts (rval 63 a 153)).run Tryd.prog w = .ok (some (63, a, 153)) w := by kernel_rfl
theorem rl_directM (w : World) : (Rtype.directlyAssignable 63 63).run Tryd.prog w = .ok true w := by kernel_rfl
/-- (Value).Set: the struct at 'ta' gets what the Value's own variable holds. -/
theorem rl_setM (tb b : Nat) (c : Int) (s : ByteArray) (o0 o1 : Value) (W : World) (b0 : W.cell? ⟨b, 0, none⟩ = some (.int .i64 c)) (b1 : W.cell? ⟨b, 1, none⟩ = some (.string s))
    (t0 : W.cell? ⟨tb, 0, none⟩ = some o0) (t1 : W.cell? ⟨tb, 1, none⟩ = some o1) (f0 : W.frozen? ⟨tb, 0, none⟩ = false) (f1 : W.frozen? ⟨tb, 1, none⟩ = false) :
    (ReflectliteValue.set #[rval 63 ⟨tb, 0, none⟩ 409, rval 63 ⟨b, 0, none⟩ 153]).run Tryd.prog W = .ok (.tuple #[]) ((W.setCell ⟨tb, 0, none⟩ (.int .i64 c)).setCell ⟨tb, 1, none⟩ (.string s)) := by
  have hl : (loadCells ⟨b, 0, none⟩ 2).run Tryd.prog W = .ok #[.int .i64 c, .string s] W := by
    have := run_loadCells_list (P := Tryd.prog) (w := W) ⟨b, 0, none⟩ [.int .i64 c, .string s] (fun j v hj => by
      rcases j with _ | _ | j
      · simp at hj; subst hj; exact b0
      · simp at hj; subst hj; exact b1
      · first | (simp at hj; done) | (simp at hj; omega))
    exact this
  generalize hv : rval 63 ⟨tb, 0, none⟩ 409 = v
  generalize hx : rval 63 ⟨b, 0, none⟩ 153 = x
  rw [show ReflectliteValue.set #[v, x] = (ReflectliteValue.parts v >>= fun p => ReflectliteValue.parts x >>= fun q => _) from rfl]
  subst hv; subst hx
  simp only [Sem.run_bind, rl_partsMa, rl_partsM, Result.andThen]
  simp [ReflectliteValue.flagAddr, loadVar, isAgg, underlying, Tryd.underlying63, hl, Result.andThen, rl_directM, storeVar, Value.cells]
  have hst := run_storeCells_cells (P := Tryd.prog) tb 0 [.int .i64 c, .string s] 0 W
    (fun j hj => by
      rcases j with _ | _ | j
      · simp [t0]
      · simp [t1]
      · first | (simp at hj; done) | (simp at hj; omega))
    (fun j hj => by
      rcases j with _ | _ | j
      · exact f0
      · exact f1
      · first | (simp at hj; done) | (simp at hj; omega))
    (fun v hv => by
      simp at hv
      rcases hv with rfl | rfl <;> rfl)
  rw [hst]
  rfl
end Go.Proofs.YtmdknbgpddnplaaDoor
