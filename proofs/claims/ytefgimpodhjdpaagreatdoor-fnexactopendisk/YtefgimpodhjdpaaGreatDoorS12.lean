/- Texts of this seat that several laws rest on, laid into one. Conditions: as each theorem states. -/
import Derived.Test.YtefgimpodhjdpaaGreatDoorS1
import Derived.Test.YtefgimpodhjdpaaGreatDoorS8
import Derived.Test.YtefgimpodhjdpaaGreatDoorS11
import Derived.Test.YtefgimpodhjdpaaGreatDoorRows
import Derived.ProofKit
import Derived.JoinedCond
import Derived.LaidEql
import Derived.Stop.Asserts
import Derived.RowKitTokens
import Derived.Laws.IdiomCopy
import Derived.Test.YtefgimpodhjdpaaGreatDoorTie
import Derived.Test.YtefgimpodhjdpaaGreatDoorCards
import Derived.LaidHandle
import Derived.LaidLaws
import Derived.OpenShut
import Derived.WalkSmall
import Derived.Carry
import Derived.Below
import Derived.Deep.DeepHandedRow
import Derived.Lib.LaidTab
import Derived.Lay
import Derived.MakeChecks
import Derived.LaidMore
import Derived.Stop.Joined
namespace Go.Proofs.YtefgimpodhjdpaaGreatDoor
open Go.Joins Go.ChangeShapes Go.WideShapes Go.RowKit Go.Deep
set_option maxRecDepth 100000

theorem open_store {H : Type} {enc : TypeId × Value → H} {w : World} {r : Reach} {b0 : Nat} {v : Value} {d : DataW H} {p : List MemPlace} (hv : Value.okWide Tryz.prog w r b0 69 v) (h : DataW.Trod enc Tryz.prog w 0 (fun _ => true) true 69 v d p) :
    ∃ (a1 : Option Addr) (n1 c1 : Nat) (a2 : Option Addr) (n2 c2 : Nat) (t : StoreD), v = .agg #[.slice a1 n1 c1, .slice a2 n2 c2, .int .i64 t.d.s] ∧ SRow w w.heap.size a1 n1 c1 a2 n2 c2 t := by
  have hC : Tryz.prog.cellsOf 69 = 3 := by kernel_rfl
  have q0 : Tryz.prog.cellsOf 67 = 1 := by kernel_rfl
  have q1 : Tryz.prog.cellsOf 59 = 2 := by kernel_rfl
  obtain ⟨cs, rfl, hsz⟩ := okWide_struct Tryz.underlying69 hv
  obtain ⟨fuel, hf⟩ := h
  obtain ⟨xs, n, -, -, -, hlen, hx⟩ := DataW.trod_struct Tryz.underlying69 hf
  have hl : cs.toList.length = 3 := by simpa using hsz.trans hC
  have key : ∃ (a1 : Option Addr) (n1 c1 : Nat) (a2 : Option Addr) (n2 c2 : Nat) (t : StoreD), cs.toList = [.slice a1 n1 c1, .slice a2 n2 c2, .int .i64 t.d.s] ∧ SRow w w.heap.size a1 n1 c1 a2 n2 c2 t := by
    simp only [Value.cells] at hx hlen
    generalize cs.toList = l at *
    match l, hl, xs, hlen with
    | [c0, c1, c2], _, [y0, y1], _ =>
      have h0 := hx 0 _ rfl
      have h1 := hx 1 _ rfl
      simp [q0, q1] at h0 h1
      obtain ⟨a2, n2, k2, zss, y, hq, hG, hw⟩ := disk_cells rfl h1
      simp only [List.cons.injEq, and_true] at hq
      obtain ⟨rfl, rfl⟩ := hq
      have hs : ∃ a n c, c0 = .slice a n c := by
        rcases open_slice Tryz.underlying67 h0 with ⟨hcs, _⟩ | ⟨x, l, c, m, n, D, Pl, hcs, _⟩
        · simp only [List.cons.injEq, and_true] at hcs
          exact ⟨none, 0, 0, hcs⟩
        · simp only [List.cons.injEq, and_true] at hcs
          exact ⟨some x, l, c, hcs⟩
      obtain ⟨a1, n1, k1, rfl⟩ := hs
      obtain ⟨ps, hP⟩ := open_pins (d := y0.1) (p := y0.2) (a := a1) (len := n1) (cap := k1) Tryz.underlying67 Tryz.underlying73 Tryz.underlying9 Tryz.underlying2 Tryz.underlying2 Tryz.underlying2 Tryz.underlying2 rfl (by kernel_rfl) (by kernel_rfl) ⟨n, by simpa [Value.cells] using h0⟩
      exact ⟨a1, n1, k1, a2, n2, k2, ⟨ps, ⟨zss, y⟩⟩, rfl, hP, hG, hw⟩
  obtain ⟨a1, n1, c1, a2, n2, c2, t, he, hS⟩ := key
  refine ⟨a1, n1, c1, a2, n2, c2, t, ?_, hS⟩
  have : cs = [Value.slice a1 n1 c1, .slice a2 n2 c2, .int .i64 t.d.s].toArray := by rw [← he]
  rw [this]
end Go.Proofs.YtefgimpodhjdpaaGreatDoor
namespace Go.Proofs.YtefgimpodhjdpaaGreatDoor.Facts
set_option maxRecDepth 100000

theorem laidOut : laidOutB Tryz.prog = true := by kernel_rfl
theorem mapsRowed : mapsRowed Tryz.prog = true := by kernel_rfl
theorem stopsHeard : Tryz.prog.stopsHeard = true := by kernel_rfl
theorem mayEnter : Tryz.prog.mayEnter = true := by kernel_rfl
theorem plainKeys : (true == Tryz.prog.plainKeys) = true := by kernel_rfl
theorem liftsFinal : (false == Tryz.prog.liftsFinal) = true := by kernel_rfl
theorem make : (Tryz.prog.make == some Make.cut) = true := by kernel_rfl

theorem joined_of {P : Program} {f : FuncId} {fn : Func} {s : ChangeSpec} {c : OpenClaim}
    (g2 : laidOutB P = true) (g3 : Go.mapsRowed P = true) (g4 : P.stopsHeard = true) (g5 : P.mayEnter = true)
    (h1 : c.wf (OpenSpec.ofChange s) = true) (h4 : fn.params.all (P.readableRec ·) = true) (h5 : namedTie P c.named s.vars = true)
    (h6 : (c.stops == []) = true) (h7 : (P.stops == []) = true) (h8 : (c.knobs == []) = true) (h9 : (P.stopKnobs == []) = true)
    (h10 : c.inPlace = P.inPlace f) (h11 : c.unfollowed = P.unfollowed f) (h12 : c.recurses = P.recurses f) (h13 : c.named = P.varsNamed f)
    (h14 : (c.maps == (fn.params.toList ++ s.plain.varTypes P).any (P.mapsRec ·)) = true) (h15 : (c.ifaces == (fn.params.toList ++ s.plain.varTypes P).any (P.ifacesRec ·)) = true) (h16 : (c.mapsOut == P.mapsAmong fn.resultTypes.toList) = true)
    (h17 : (c.loops == (fn.params.toList ++ s.plain.varTypes P).any (P.loopsFrom ·)) = true) (h18 : (c.wideKeys == (fn.params.toList ++ s.plain.varTypes P ++ fn.resultTypes.toList).any (P.wideKeysFrom ·)) = true)
    (h19 : s.vars.all (P.varReadable ·) = true) (h20 : fn.resultTypes.all (fun t => P.readableRec t && decide (t < P.types.size)) = true) (h21 : (c.ifacesOut == fn.resultTypes.toList.any (P.ifacesRec ·)) = true) (h22 : (c.loopsOut == fn.resultTypes.toList.any (P.loopsFrom ·)) = true)
    (h23 : (c.plainKeys == P.plainKeys) = true) (h24 : c.shortTexts.isNone = true) (h25 : (c.lifted == P.liftsFinal) = true) (h26 : (P.make == some c.make) = true)
    (h27 : (c.kinds == (if c.domain.isEmpty then [] else fn.params.toList.map fun t => match P.underlying t with | some (.int k) => some k | _ => none)) = true) (h28 : (c.pinned == c.pinnedBy) = true)
    (h29 : (c.veiled == (fn.params.toList ++ s.plain.varTypes P ++ fn.resultTypes.toList).any (P.veiledRec ·)) = true) (h30 : c.veiledFits P fn.params.toList (fn.params.toList ++ s.plain.varTypes P ++ fn.resultTypes.toList) = true) :
    joinedFacts P f fn s c = true := by
  have g10 : (c.inPlace == P.inPlace f) = true := by rw [h10]; simp
  have g11 : (c.unfollowed == P.unfollowed f) = true := by rw [h11]; simp
  have g12 : (c.recurses == P.recurses f) = true := by rw [h12]; simp
  have g13 : (c.named == P.varsNamed f) = true := by rw [h13]; simp
  unfold joinedFacts
  simp only [Bool.and_eq_true]
  exact ⟨⟨⟨⟨⟨⟨⟨⟨⟨⟨⟨⟨⟨⟨⟨⟨⟨⟨⟨⟨⟨⟨⟨⟨⟨⟨⟨⟨⟨⟨⟨h1, g2⟩, g3⟩, h4⟩, h5⟩, h6⟩, h7⟩, h8⟩, h9⟩, g10⟩, g11⟩, g12⟩, g13⟩, h14⟩, h15⟩, h16⟩, h17⟩, h18⟩, h19⟩, h20⟩, h21⟩, h22⟩, h23⟩, h24⟩, g4⟩, g5⟩, h25⟩, h26⟩, h27⟩, h28⟩, h29⟩, h30⟩
end Go.Proofs.YtefgimpodhjdpaaGreatDoor.Facts
namespace Go.Proofs.YtefgimpodhjdpaaGreatDoor
open Go.RowKit Go.Extern.Stop Go.Stop Go.Extern

/-- The variable errors.errorType holds the handle of the type 'error'. -/
structure ErrT (w : World) : Prop where
  cell : w.cell? ⟨0, 0, none⟩ = some (.iface 262 (.agg #[.pointer (some ⟨6, 162, none⟩)]))
theorem ErrT.on {w w' : World} (h : ErrT w) (hb : Below w.heap.size w w') : ErrT w' := ⟨cell_keep hb h.cell⟩
theorem ErrT.grew {w w' : World} {row : Option Nat} (h : ErrT w) (hg : w.grownBy w' row) (hr : ∀ k, row = some k → 0 < k) : ErrT w' :=
  ⟨hg.cell h.cell (fun e => by have := hr _ e.symm; exact absurd this (Nat.lt_irrefl _))⟩
theorem ErrT.lt {w : World} (h : ErrT w) : 0 < w.heap.size := cell_lt h.cell

/-- An error of what does not fit. -/
abbrev misV (c : Int) (s : ByteArray) : Value := .iface 199 (.agg #[.int .i64 c, .string s])
abbrev hdl (t : Nat) : Value := .pointer (some ⟨6, t, none⟩)
abbrev rval (t : Nat) (a : Addr) (f : Int) : Value := .agg #[hdl t, .pointer (some a), .int .u64 f]

theorem as_nil (t : Value) (w : World) :
    Calls Tryz.prog 164 #[.nilIface, t] w fun e w' => e = .returned (.bool false) ∧ w = w' := by
  go_enter Tryz.func164, Tryz.ntmps164
  go_wp2
  go_ret
  exact ⟨rfl, rfl⟩

theorem rl_valueOfP (t : Addr) (w : World) : (ReflectliteValue.unpack (.iface 205 (.pointer (some t)))).run Tryz.prog w
    = .ok (rval 205 ⟨w.heap.size, 0, none⟩ 150) (w.alloc (.cells #[.pointer (some t)] 205)) := by kernel_rfl
theorem rl_typeP (a : Addr) (w : World) : (ReflectliteValue.methodAny (ReflectliteValue.valueError "reflectlite.Value.Type" 0) (fun t _ _ _ => ReflectliteType.toType t) #[rval 205 a 150]).run Tryz.prog w
    = .ok (.iface 262 (.agg #[hdl 205])) w := by kernel_rfl
theorem rl_mKind (h : Value) (w : World) : (Go.method 439 262 (.agg #[h]) "Kind").run Tryz.prog w = .ok (264, h) w := by kernel_rfl
theorem rl_mElem (h : Value) (w : World) : (Go.method 439 262 (.agg #[h]) "Elem").run Tryz.prog w = .ok (277, .agg #[h]) w := by kernel_rfl
theorem rl_mImpl (h : Value) (w : World) : (Go.method 439 262 (.agg #[h]) "Implements").run Tryz.prog w = .ok (278, .agg #[h]) w := by kernel_rfl
theorem rl_mAsgn (h : Value) (w : World) : (Go.method 439 262 (.agg #[h]) "AssignableTo").run Tryz.prog w = .ok (275, .agg #[h]) w := by kernel_rfl
theorem rl_kindP (w : World) : ((ReflectliteType.abiMethod fun t => (fun a : Nat => Value.int IntKind.u8 (a : Int)) <$> Rtype.kind t) #[hdl 205]).run Tryz.prog w = .ok (.int .u8 22) w := by kernel_rfl
theorem rl_kindM (w : World) : ((ReflectliteType.abiMethod fun t => (fun a : Nat => Value.int IntKind.u8 (a : Int)) <$> Rtype.kind t) #[hdl 199]).run Tryz.prog w = .ok (.int .u8 25) w := by kernel_rfl
theorem rl_elemP (w : World) : (ReflectliteType.method ReflectliteType.elem #[.agg #[hdl 205]]).run Tryz.prog w = .ok (.iface 262 (.agg #[hdl 199])) w := by kernel_rfl
theorem rl_implM (w : World) : (ReflectliteType.relation "Implements" ReflectliteType.implements_ #[.agg #[hdl 199], .iface 262 (.agg #[hdl 162])]).run Tryz.prog w = .ok (.bool true) w := by kernel_rfl
theorem rl_typeOfM (v : Value) (w : World) : (ReflectliteType.typeOf #[.iface 199 v]).run Tryz.prog w = .ok (.iface 262 (.agg #[hdl 199])) w := by kernel_rfl
theorem rl_asgnM (w : World) : (ReflectliteType.relation "AssignableTo" ReflectliteType.assignableTo #[.agg #[hdl 199], .iface 262 (.agg #[hdl 199])]).run Tryz.prog w = .ok (.bool true) w := by kernel_rfl
theorem rl_valueOfM (c : Int) (s : ByteArray) (w : World) : (ReflectliteValue.unpack (misV c s)).run Tryz.prog w
    = .ok (rval 199 ⟨w.heap.size, 0, none⟩ 153) (w.alloc (.cells #[.int .i64 c, .string s] 199)) := by kernel_rfl

theorem rl_partsP (a : Addr) (w : World) : (ReflectliteValue.parts (rval 205 a 150)).run Tryz.prog w = .ok (some (205, a, 150)) w := by kernel_rfl
theorem rl_method {P : Program} {w : World} {z : Sem Value} {f : TypeId → Addr → Nat → Nat → Sem Value} {v : Value} {t : TypeId} {a : Addr} {k : Nat} (h : (ReflectliteValue.parts v).run P w = .ok (some (t, a, k)) w) :
    (ReflectliteValue.method z f #[v]).run P w = (f t a k (k % 32)).run P w := by
  rw [show ReflectliteValue.method z f #[v] = ReflectliteValue.parts v >>= _ from rfl]
  simp only [Sem.run_bind, h, Result.andThen]
theorem rl_isNilP (a p : Addr) (W : World) (ha : W.cell? a = some (.pointer (some p))) :
    (ReflectliteValue.method (ReflectliteValue.valueError "reflectlite.Value.IsNil" 0) ReflectliteValue.isNil #[rval 205 a 150]).run Tryz.prog W = .ok (.bool false) W := by
  rw [rl_method (rl_partsP _ _)]
  simp [ReflectliteValue.isNil, loadVar, isAgg, underlying, Tryz.underlying205, ha, Result.andThen]
theorem rl_elemOfP (w : World) : (Rtype.elem? 205).run Tryz.prog w = .ok (some 199) w := by kernel_rfl
theorem rl_mkM (p : Addr) (w : World) : (ReflectliteValue.mk 199 p ReflectliteValue.flagAddr).run Tryz.prog w = .ok (rval 199 p 409) w := by kernel_rfl
theorem rl_elemV (a p : Addr) (W : World) (ha : W.cell? a = some (.pointer (some p))) :
    (ReflectliteValue.method (ReflectliteValue.valueError "reflectlite.Value.Elem" 0) ReflectliteValue.elem #[rval 205 a 150]).run Tryz.prog W = .ok (rval 199 p 409) W := by
  rw [rl_method (rl_partsP _ _)]
  simp [ReflectliteValue.elem, loadVar, isAgg, underlying, Tryz.underlying205, ha, Result.andThen, rl_elemOfP, rl_mkM]
theorem rl_partsMa (a : Addr) (w : World) : (ReflectliteValue.parts (rval 199 a 409)).run Tryz.prog w = .ok (some (199, a, 409)) w := by kernel_rfl
theorem rl_partsM (a : Addr) (w : World) : (ReflectliteValue.parts (rval 199 a 153)).run Tryz.prog w = .ok (some (199, a, 153)) w := by kernel_rfl
theorem rl_directM (w : World) : (Rtype.directlyAssignable 199 199).run Tryz.prog w = .ok true w := by kernel_rfl
/-- (Value).Set: the struct at 'ta' gets what the Value's own variable holds. -/
theorem rl_setM (tb b : Nat) (c : Int) (s : ByteArray) (o0 o1 : Value) (W : World) (b0 : W.cell? ⟨b, 0, none⟩ = some (.int .i64 c)) (b1 : W.cell? ⟨b, 1, none⟩ = some (.string s))
    (t0 : W.cell? ⟨tb, 0, none⟩ = some o0) (t1 : W.cell? ⟨tb, 1, none⟩ = some o1) (f0 : W.frozen? ⟨tb, 0, none⟩ = false) (f1 : W.frozen? ⟨tb, 1, none⟩ = false) :
    (ReflectliteValue.set #[rval 199 ⟨tb, 0, none⟩ 409, rval 199 ⟨b, 0, none⟩ 153]).run Tryz.prog W = .ok (.tuple #[]) ((W.setCell ⟨tb, 0, none⟩ (.int .i64 c)).setCell ⟨tb, 1, none⟩ (.string s)) := by
  have hl : (loadCells ⟨b, 0, none⟩ 2).run Tryz.prog W = .ok #[.int .i64 c, .string s] W := by
    have := run_loadCells_list (P := Tryz.prog) (w := W) ⟨b, 0, none⟩ [.int .i64 c, .string s] (fun j v hj => by
      rcases j with _ | _ | j
      · simp at hj; subst hj; exact b0
      · simp at hj; subst hj; exact b1
      · first | (simp at hj; done) | (simp at hj; omega))
    exact this
  generalize hv : rval 199 ⟨tb, 0, none⟩ 409 = v
  generalize hx : rval 199 ⟨b, 0, none⟩ 153 = x
  rw [show ReflectliteValue.set #[v, x] = (ReflectliteValue.parts v >>= fun p => ReflectliteValue.parts x >>= fun q => _) from rfl]
  subst hv; subst hx
  simp only [Sem.run_bind, rl_partsMa, rl_partsM, Result.andThen]
  simp [ReflectliteValue.flagAddr, loadVar, isAgg, underlying, Tryz.underlying199, hl, Result.andThen, rl_directM, storeVar, Value.cells]
  have hst := run_storeCells_cells (P := Tryz.prog) tb 0 [.int .i64 c, .string s] 0 W
    (fun j hj => by
      rcases j with _ | _ | j
      · simp [t0]
      · simp [t1]
      · first | (simp at hj; done) | (simp at hj; omega))
    (fun j hj => by
      rcases j with _ | _ | j
      · exact f0
      · exact f1
      · first | (simp at hj; done) | (simp at hj; omega))
    (fun v hv => by
      simp at hv
      rcases hv with rfl | rfl <;> rfl)
  rw [hst]
  rfl
end Go.Proofs.YtefgimpodhjdpaaGreatDoor
namespace Go.Proofs.YtefgimpodhjdpaaGreatDoor
open Go.ChangeShapes Go.WideShapes Go.ChangeAt Go.RowKit

theorem own : ownKnob Tryz.prog.godebug = none := by kernel_rfl
theorem laidOut : laidOutB Tryz.prog = true := by kernel_rfl

/-- Each named variable is there, and its type can be read. -/
def varsOk (P : Program) (names : List String) : Bool :=
  names.all fun n => match P.globalNamed n with
    | some g => match (P.globals[g]?).map (·.type) with
      | some t => P.readableRec t && decide (t < P.types.size)
      | Option.none => false
    | Option.none => false
theorem vars_keep {H : Type} {enc : TypeId × Value → H} {P : Program} (hl : laidOutB P = true) {W W' : World} (bel : Below W.heap.size W W') : ∀ (names : List String) (gs : List (DataW H)) (q : List MemPlace),
    varsOk P names = true → DataW.TrodVars enc P W (fun _ => true) names gs q → (∀ x ∈ q, x.block < W.heap.size) → DataW.TrodVars enc P W' (fun b => decide (b < W.heap.size)) names gs q
  | [], gs, q, _, h, _ => by
    obtain ⟨rfl, rfl⟩ := trodVars_none h
    exact rfl
  | n :: r, [], q, _, h, _ => by simp [DataW.TrodVars] at h
  | n :: r, d :: ds, q, hok, h, hlt => by
    obtain ⟨g, t, cs, fuel, p, q2, h1, h2, h3, h4, h5, rfl⟩ := h
    simp only [varsOk, List.all_cons, Bool.and_eq_true] at hok
    obtain ⟨ho, hor⟩ := hok
    simp only [h1, h2, Bool.and_eq_true, decide_eq_true_eq] at ho
    have hg : g < W.heap.size := by
      rcases Nat.lt_or_ge g W.heap.size with hlt | hge
      · exact hlt
      · simp [World.var?, h1, Array.getElem?_eq_none hge] at h3
    have hT : DataW.Trod enc P W 0 (fun _ => true) true t (.agg cs) d p := ⟨fuel, h4⟩
    obtain ⟨fuel', h4'⟩ := Below.trod hl ho.1 ho.2 hT bel (fun x hx => hlt x (by simp [hx]))
    exact ⟨g, t, cs, fuel', p, q2, h1, h2, var?_below bel h1 hg h3, h4', vars_keep hl bel r ds q2 hor h5 (fun x hx => hlt x (by simp [hx])), rfl⟩

/-- An array of words that reads as it is listed holds these words, cell for cell. -/
theorem cells_of_words {H : Type} {enc : TypeId × Value → H} {P : Program} {w : World} {base : Nat} {sp : Nat → Bool} {held : Bool} {fuel : Nat} {t e : TypeId} {n : Nat} {cs : List Value} {ss : List (List UInt8)} {p : List MemPlace}
    (ht : P.underlying t = some (.array n e)) (he : P.underlying e = some .string) (hce : P.cellsOf e = 1) (hct : P.cellsOf t = n)
    (h : DataW.trod enc P w base sp held fuel t cs = some (.agg (ss.map fun s => .lit (.string s)), p)) : cs = ss.map fun s => Value.string ⟨s.toArray⟩ := by
  cases fuel with
  | zero => simp [DataW.trod] at h
  | succ fuel =>
    simp only [DataW.trod, ht, hce, hct, Nat.mul_one] at h
    split at h
    · rename_i hl
      obtain ⟨xs, hm, hx⟩ := Option.map_eq_some_iff.1 h
      have hxs : xs.map (·.1) = ss.map fun s => (DataW.lit (.string s) : DataW H) := by
        have := congrArg Prod.fst hx
        simpa using this
      have hxl : xs.length = n := by simpa using Lib.mapM_length hm
      have hzl : ss.length = n := by
        have := congrArg List.length hxs
        simp at this
        omega
      apply List.ext_getElem?
      intro i
      by_cases hi : i < n
      · obtain ⟨b, hb, hf⟩ := Lib.mapM_at hm i i (by simp [hi])
        obtain ⟨s, hc, rfl, _⟩ := DataW.trod_string he hf
        have h1 : cs[i]? = some (.string s) := by
          have := congrArg (·[0]?) hc
          simpa [List.getElem?_take, List.getElem?_drop] using this
        have h2 : (xs.map (·.1))[i]? = some (DataW.lit (.string s.data.toList) : DataW H) := by simp [hb]
        rw [hxs] at h2
        simp only [List.getElem?_map, Option.map_eq_some_iff, DataW.lit.injEq, Lit.string.injEq] at h2
        obtain ⟨z', hz', e'⟩ := h2
        rw [h1]
        simp [hz', e']
      · rw [List.getElem?_eq_none (by omega), List.getElem?_eq_none (by simp; omega)]
    · cases h

theorem gLabels : Tryz.prog.globalNamed "loop.example/g00618/impl.labels" = some 2 := by kernel_rfl
theorem gLabelsType : (Tryz.prog.globals[2]?).map (·.type) = some 275 := by kernel_rfl
theorem cLabels : Tryz.prog.cellsOf 275 = 8 := by kernel_rfl
theorem cWord : Tryz.prog.cellsOf 9 = 1 := by kernel_rfl
/-- What the listed datum of the labels gives a walk. -/
theorem Labels_of {W : World} (h : laidMet Tryz.prog [("loop.example/g00618/impl.labels", Rows.laid_loop_example_g00618_impl_labels)] W) : Labels W := by
  obtain ⟨ps, ⟨g, t, cs, fuel, p, q, hg, ht, hvar, hd, _, _⟩, _⟩ := h
  obtain rfl := Option.some.inj (gLabels.symm.trans hg)
  obtain rfl := Option.some.inj (gLabelsType.symm.trans ht)
  have e := cells_of_words (ss := [[115, 116, 114, 101, 97, 109], [104, 101, 97, 114, 100], [110, 111, 110, 99, 101], [115, 105, 103, 110], [109, 97, 99], [115, 101, 97, 108], [115, 112, 107, 105], [114, 111, 108, 108]]) Tryz.underlying275 Tryz.underlying9 cWord cLabels hd
  have c := fun i => World.var?_cell hg hvar i
  have a0 : cs[0]? = some (.string M.streamS) := by rw [← Array.getElem?_toList, e]; rfl
  have a1 : cs[1]? = some (.string M.heardS) := by rw [← Array.getElem?_toList, e]; rfl
  have a2 : cs[2]? = some (.string M.nonceS) := by rw [← Array.getElem?_toList, e]; rfl
  have a3 : cs[3]? = some (.string M.signS) := by rw [← Array.getElem?_toList, e]; rfl
  have a4 : cs[4]? = some (.string M.macS) := by rw [← Array.getElem?_toList, e]; rfl
  have a5 : cs[5]? = some (.string M.sealS) := by rw [← Array.getElem?_toList, e]; rfl
  have a6 : cs[6]? = some (.string M.spkiS) := by rw [← Array.getElem?_toList, e]; rfl
  have a7 : cs[7]? = some (.string M.rollS) := by rw [← Array.getElem?_toList, e]; rfl
  exact ⟨(c 0).trans a0, (c 1).trans a1, (c 2).trans a2, (c 3).trans a3, (c 4).trans a4, (c 5).trans a5, (c 6).trans a6, (c 7).trans a7⟩
theorem Labels_laid {W : World} (h : laidMetH Tryz.prog [("loop.example/g00618/impl.labels", Rows.laid_loop_example_g00618_impl_labels)] W) : Labels W := Labels_of h

theorem gErrT : Tryz.prog.globalNamed "errors.errorType" = some 0 := by kernel_rfl
theorem rtErrT : (Tryz.prog.cutTypes.find? (·.1 == "internal/reflectlite.rtype")).map (·.2) = some 262 := by kernel_rfl
theorem rowErrT : ((List.range 339).filter fun t => Tryz.prog.rowNamed t [101, 114, 114, 111, 114]) = [162] := by kernel_rfl
theorem sizeErrT : Tryz.prog.types.size = 339 := by kernel_rfl
/-- What the listed handle gives a walk: the variable's one cell. -/
theorem ErrT_of {W : World} (h : handlesMet Tryz.prog [("errors.errorType", Rows.laid_errors_errorType)] W) : ErrT W := by
  obtain ⟨name, u, ty, e1, e2, e3, e4, e5⟩ := h _ (List.mem_singleton.2 rfl)
  have en : name = [101, 114, 114, 111, 114] := (Option.some.inj e1).symm
  subst en
  obtain rfl := Option.some.inj (rtErrT.symm.trans e2)
  have hm : ty ∈ (List.range 339).filter fun t => Tryz.prog.rowNamed t [101, 114, 114, 111, 114] := List.mem_filter.2 ⟨List.mem_range.2 (by rw [← sizeErrT]; exact e3), e4⟩
  rw [rowErrT] at hm
  obtain rfl := List.mem_singleton.1 hm
  have hh : typeHandle Tryz.prog 162 = .pointer (some ⟨6, 162, none⟩) := by kernel_rfl
  rw [hh] at e5
  exact ⟨by simpa using World.var?_cell gErrT e5 0⟩
theorem ErrT_laid {W : World} (h : laidMetH Tryz.prog [("errors.errorType", Rows.laid_errors_errorType)] W) : ErrT W := ErrT_of (show laidMet Tryz.prog [] W ∧ handlesMet Tryz.prog [("errors.errorType", Rows.laid_errors_errorType)] W from h).2
theorem both_laid {W : World} (h : laidMetH Tryz.prog [("errors.errorType", Rows.laid_errors_errorType), ("loop.example/g00618/impl.labels", Rows.laid_loop_example_g00618_impl_labels)] W) : Labels W ∧ ErrT W := by
  have h' : laidMet Tryz.prog [("loop.example/g00618/impl.labels", Rows.laid_loop_example_g00618_impl_labels)] W ∧ handlesMet Tryz.prog [("errors.errorType", Rows.laid_errors_errorType)] W := h
  exact ⟨Labels_of h'.1, ErrT_of h'.2⟩

/-- A world for the witness: the settled one, its tables holding what their initialisers lay. -/
noncomputable def laidWorld (os : Os) : World :=
  { World.holding Tryz.prog os ⟨#[], #[], []⟩ with heap := ((World.holding Tryz.prog os ⟨#[], #[], []⟩).heap
       |>.modify 2 (fun | .cells _ t frozen => .cells #[.string M.streamS, .string M.heardS, .string M.nonceS, .string M.signS, .string M.macS, .string M.sealS, .string M.spkiS, .string M.rollS] t frozen | o => o)
       |>.modify 0 (fun | .cells _ t frozen => .cells #[.iface 262 (.agg #[.pointer (some ⟨6, 162, none⟩)])] t frozen | o => o)
    ) }
end Go.Proofs.YtefgimpodhjdpaaGreatDoor
namespace Go.Proofs.YtefgimpodhjdpaaGreatDoor
open Go.ChangeShapes Go.WideShapes Go.ChangeAt Go.RowKit

/-- What the rows list: with the labels (the variable at block 2). -/
def listL : List (String × DataW Unit) := [("unicode/utf8.acceptRanges", Rows.laid_unicode_utf8_acceptRanges), ("loop.example/g00618/impl.labels", Rows.laid_loop_example_g00618_impl_labels), ("unicode.CaseRanges", Rows.laid_unicode_CaseRanges), ("unicode/utf8.first", Rows.laid_unicode_utf8_first)]
/-- Without them. -/
def listN : List (String × DataW Unit) := [("unicode/utf8.acceptRanges", Rows.laid_unicode_utf8_acceptRanges), ("unicode.CaseRanges", Rows.laid_unicode_CaseRanges), ("unicode/utf8.first", Rows.laid_unicode_utf8_first)]

theorem laid_mem {P : Program} {w : World} : ∀ (l : List (String × DataW Unit)) (ps : List MemPlace), DataW.LaidVars P w l ps → ∀ n d, (n, d) ∈ l →
    ∃ g t cs fuel p, P.globalNamed n = some g ∧ (P.globals[g]?).map (·.type) = some t ∧ w.var? P n = some cs ∧ DataW.trod (fun _ => ()) P w 0 (fun _ => true) false fuel t cs.toList = some (d, p)
  | [], _, _, n, d, h => by cases h
  | (n', d') :: r, ps, ⟨g, t, cs, fuel, p, q, h1, h2, h3, h4, h5, _⟩, n, d, h => by
    rcases List.mem_cons.1 h with e | h
    · injection e with e1 e2
      subst e1
      subst e2
      exact ⟨g, t, cs, fuel, p, h1, h2, h3, h4⟩
    · exact laid_mem r q h5 n d h
theorem Labels_tabs {W : World} (h : laidMetH Tryz.prog listL W) : Labels W := by
  rw [MakeChecks.laidMetH_plain _ _ _ (by kernel_rfl)] at h
  obtain ⟨ps, hv, _⟩ := h
  obtain ⟨g, t, cs, fuel, p, hg, ht, hvar, hd⟩ := laid_mem _ _ hv "loop.example/g00618/impl.labels" Rows.laid_loop_example_g00618_impl_labels (List.mem_cons_of_mem _ (List.mem_cons_self ..))
  obtain rfl := Option.some.inj (gLabels.symm.trans hg)
  obtain rfl := Option.some.inj (gLabelsType.symm.trans ht)
  have e := cells_of_words (ss := [[115, 116, 114, 101, 97, 109], [104, 101, 97, 114, 100], [110, 111, 110, 99, 101], [115, 105, 103, 110], [109, 97, 99], [115, 101, 97, 108], [115, 112, 107, 105], [114, 111, 108, 108]]) Tryz.underlying275 Tryz.underlying9 cWord cLabels hd
  have c := fun i => World.var?_cell hg hvar i
  have a0 : cs[0]? = some (.string M.streamS) := by rw [← Array.getElem?_toList, e]; rfl
  have a1 : cs[1]? = some (.string M.heardS) := by rw [← Array.getElem?_toList, e]; rfl
  have a2 : cs[2]? = some (.string M.nonceS) := by rw [← Array.getElem?_toList, e]; rfl
  have a3 : cs[3]? = some (.string M.signS) := by rw [← Array.getElem?_toList, e]; rfl
  have a4 : cs[4]? = some (.string M.macS) := by rw [← Array.getElem?_toList, e]; rfl
  have a5 : cs[5]? = some (.string M.sealS) := by rw [← Array.getElem?_toList, e]; rfl
  have a6 : cs[6]? = some (.string M.spkiS) := by rw [← Array.getElem?_toList, e]; rfl
  have a7 : cs[7]? = some (.string M.rollS) := by rw [← Array.getElem?_toList, e]; rfl
  exact ⟨(c 0).trans a0, (c 1).trans a1, (c 2).trans a2, (c 3).trans a3, (c 4).trans a4, (c 5).trans a5, (c 6).trans a6, (c 7).trans a7⟩

theorem witness_tabs {H : Type} {enc : TypeId × Value → H} {C : Checked} {os : Os} {f : FuncId} {fn : Func} {s : OpenSpec} {conds : List PathCond} {apart : Bool} {laid : List (String × DataW Unit)} (modest : Bool) (w0 : World) (args : Array Value) (hos : w0.os = os)
    (hsh : (w0.forCall (fun _ _ => 0) ⟨#[], args, []⟩).Shaped C.prog)
    (hok : Input.okWideB C.prog (w0.forCall (fun _ _ => 0) ⟨#[], args, []⟩) f ⟨#[], args, []⟩ = true)
    (hrow : s.preRow enc C.prog fn conds apart laid (w0.forCall (fun _ _ => 0) ⟨#[], args, []⟩).memory args) :
    ∃ (w : World) (tape : Tape) (i : Input), w.os = os ∧ (w.forCall tape i).Shaped C.prog ∧ i.vars = [] ∧ Input.okWide C.prog (w.forCall tape i) .any w.heap.size f i ∧
      s.preRow enc C.prog fn conds apart laid (w.forCall tape i).memory i.args ∧ ({ modest := modest } : Assume).holds C.prog (lone (Frame.enter C.prog f i.args .normal) [] (w.forCall tape i)) :=
  ⟨w0, fun _ _ => 0, ⟨#[], args, []⟩, hos, hsh, (Input.okWide_of_okWideB (base := 0) hok).1, (Input.okWide_of_okWideB hok).2, hrow, by
    simp only [Assume.holds]
    exact ⟨by simp, by simp, fun _ => Modest.zero, by simp, by simp⟩⟩

theorem shapedL (os : Os) (args : Array Value) : ((World.laidAll Tryz.prog os listL).forCall (fun _ _ => 0) ⟨#[], args, []⟩).Shaped Tryz.prog := World.shaped_of_ZipB (by kernel_rfl) (by kernel_rfl)
theorem metL (os : Os) (args : Array Value) : laidMetH Tryz.prog listL ((World.laidAll Tryz.prog os listL).forCall (fun _ _ => 0) ⟨#[], args, []⟩).memory := by
  rw [MakeChecks.laidMetH_plain _ _ _ (by kernel_rfl)]
  exact laidMet_laidAll _ (by kernel_rfl) (by kernel_rfl)

theorem shapedN (os : Os) (args : Array Value) : ((World.laidAll Tryz.prog os listN).forCall (fun _ _ => 0) ⟨#[], args, []⟩).Shaped Tryz.prog := World.shaped_of_ZipB (by kernel_rfl) (by kernel_rfl)
theorem metN (os : Os) (args : Array Value) : laidMetH Tryz.prog listN ((World.laidAll Tryz.prog os listN).forCall (fun _ _ => 0) ⟨#[], args, []⟩).memory := by
  rw [MakeChecks.laidMetH_plain _ _ _ (by kernel_rfl)]
  exact laidMet_laidAll _ (by kernel_rfl) (by kernel_rfl)

end Go.Proofs.YtefgimpodhjdpaaGreatDoor
