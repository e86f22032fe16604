/- Contracts of the errors of chapter 3: what does not fit is an error of its own, asked by errors.As. Conditions: as each theorem states. -/
import Derived.Test.YtkondaojikfbjaaC2e
import Derived.LaidEql
import Derived.Stop.Asserts
import Derived.RowKitTokens
import Derived.Laws.IdiomCopy
namespace Go.Proofs.Ytkondaojikfbjaa
open Go.RowKit Go.Extern.Stop Go.Stop Go.Extern

/-- An error of what does not fit. -/
abbrev misV (c : Int) (s : ByteArray) : Value := .iface 48 (.agg #[.int .i64 c, .string s])
abbrev hdl (t : Nat) : Value := .pointer (some ⟨0, t, none⟩)
abbrev rval (t : Nat) (a : Addr) (f : Int) : Value := .agg #[hdl t, .pointer (some a), .int .u64 f]

theorem rl_kindM (w : World) : ((ReflectliteType.abiMethod fun t => (fun a : Nat => Value.int IntKind.u8 (a : Int)) <$> Rtype.kind t) #[hdl 48]).run Try.prog w = .ok (.int .u8 25) w := by kernel_rfl
theorem rl_valueOfM (c : Int) (s : ByteArray) (w : World) : (ReflectliteValue.unpack (misV c s)).run Try.prog w
    = .ok (rval 48 ⟨w.heap.size, 0, none⟩ 153) (w.alloc (.cells #[.int .i64 c, .string s] 48)) := by kernel_rfl

theorem rl_method {P : Program} {w : World} {z : Sem Value} {f : TypeId → Addr → Nat → Nat → Sem Value} {v : Value} {t : TypeId} {a : Addr} {k : Nat} (h : (ReflectliteValue.parts v).run P w = .ok (some (t, a, k)) w) :
    (ReflectliteValue.method z f #[v]).run P w = (f t a k (k % 32)).run P w := by
  rw [show ReflectliteValue.method z f #[v] = ReflectliteValue.parts v >>= _ from rfl]
  simp only [Sem.run_bind, h, Result.andThen]
theorem rl_mkM (p : Addr) (w : World) : (ReflectliteValue.mk 48 p ReflectliteValue.flagAddr).run Try.prog w = .ok (rval 48 p 409) w := by kernel_rfl
theorem rl_partsMa (a : Addr) (w : World) : (ReflectliteValue.parts (rval 48 a 409)).run Try.prog w = .ok (some (48, a, 409)) w := by kernel_rfl
theorem rl_partsM (a : Addr) (w : World) : (ReflectliteValue.parts (rval 48 a 153)).run Try.prog w = .ok (some (48, a, 153)) w := by kernel_rfl
theorem rl_directM (w : World) : (Rtype.directlyAssignable 48 48).run Try.prog w = .ok true w := by kernel_rfl
/-- (Value).Set: the struct at 'ta' gets what the Value's own variable holds. -/
theorem rl_setM (tb b : Nat) (c : Int) (s : ByteArray) (o0 o1 : Value) (W : World) (b0 : W.cell? ⟨b, 0, none⟩ = some (.int .i64 c)) (b1 : W.cell? ⟨b, 1, none⟩ = some (.string s))
    (t0 : W.cell? ⟨tb, 0, none⟩ = some o0) (t1 : W.cell? ⟨tb, 1, none⟩ = some o1) (f0 : W.frozen? ⟨tb, 0, none⟩ = false) (f1 : W.frozen? ⟨tb, 1, none⟩ = false) :
    (ReflectliteValue.set #[rval 48 ⟨tb, 0, none⟩ 409, rval 48 ⟨b, 0, none⟩ 153]).run Try.prog W = .ok (.tuple #[]) ((W.setCell ⟨tb, 0, none⟩ (.int .i64 c)).setCell ⟨tb, 1, none⟩ (.string s)) := by
  have hl : (loadCells ⟨b, 0, none⟩ 2).run Try.prog W = .ok #[.int .i64 c, .string s] W := by
    have := run_loadCells_list (P := Try.prog) (w := W) ⟨b, 0, none⟩ [.int .i64 c, .string s] (fun j v hj => by
      rcases j with _ | _ | j
      · simp at hj; subst hj; exact b0
      · simp at hj; subst hj; exact b1
      · first | (simp at hj; done) | (simp at hj; omega))
    exact this
  generalize hv : rval 48 ⟨tb, 0, none⟩ 409 = v
  generalize hx : rval 48 ⟨b, 0, none⟩ 153 = x
  rw [show ReflectliteValue.set #[v, x] = (ReflectliteValue.parts v >>= fun p => ReflectliteValue.parts x >>= fun q => _) from rfl]
  subst hv; subst hx
  simp only [Sem.run_bind, rl_partsMa, rl_partsM, Result.andThen]
  simp [ReflectliteValue.flagAddr, loadVar, isAgg, underlying, Try.underlying48, hl, Result.andThen, rl_directM, storeVar, Value.cells]
  have hst := run_storeCells_cells (P := Try.prog) tb 0 [.int .i64 c, .string s] 0 W
    (fun j hj => by
      rcases j with _ | _ | j
      · simp [t0]
      · simp [t1]
      · first | (simp at hj; done) | (simp at hj; omega))
    (fun j hj => by
      rcases j with _ | _ | j
      · exact f0
      · exact f1
      · first | (simp at hj; done) | (simp at hj; omega))
    (fun v hv => by
      simp at hv
      rcases hv with rfl | rfl <;> rfl)
  rw [hst]
  rfl
end Go.Proofs.Ytkondaojikfbjaa
