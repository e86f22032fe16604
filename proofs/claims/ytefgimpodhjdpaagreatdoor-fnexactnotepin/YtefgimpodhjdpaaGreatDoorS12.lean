/- Texts of this seat that several laws rest on, laid into one. Conditions: as each theorem states. -/
import Derived.Test.YtefgimpodhjdpaaGreatDoorS1
import Derived.Test.YtefgimpodhjdpaaGreatDoorS8
import Derived.Test.YtefgimpodhjdpaaGreatDoorS10
import Derived.Test.YtefgimpodhjdpaaGreatDoorS11
import Derived.Test.YtefgimpodhjdpaaGreatDoorRows
import Derived.ProofKit
import Derived.JoinedCond
import Derived.LaidEql
import Derived.Stop.Asserts
import Derived.RowKitTokens
import Derived.Laws.IdiomCopy
import Derived.Test.YtefgimpodhjdpaaGreatDoorTie
import Derived.Test.YtefgimpodhjdpaaGreatDoorCards
import Derived.LaidHandle
import Derived.LaidLaws
import Derived.OpenShut
import Derived.WalkSmall
import Derived.Carry
import Derived.Below
import Derived.Deep.DeepHandedRow
import Derived.Lib.LaidTab
import Derived.Lay
import Derived.MakeChecks
import Derived.LaidMore
import Derived.Stop.Joined
namespace Go.Proofs.YtefgimpodhjdpaaGreatDoor
open Go.Joins Go.ChangeShapes Go.WideShapes Go.RowKit Go.Deep
set_option maxRecDepth 100000

theorem open_store {H : Type} {enc : TypeId × Value → H} {w : World} {r : Reach} {b0 : Nat} {v : Value} {d : DataW H} {p : List MemPlace} (hv : Value.okWide Tryz.prog w r b0 69 v) (h : DataW.Trod enc Tryz.prog w 0 (fun _ => true) true 69 v d p) :
    ∃ (a1 : Option Addr) (n1 c1 : Nat) (a2 : Option Addr) (n2 c2 : Nat) (t : StoreD), v = .agg #[.slice a1 n1 c1, .slice a2 n2 c2, .int .i64 t.d.s] ∧ SRow w w.heap.size a1 n1 c1 a2 n2 c2 t := by
  have hC : Tryz.prog.cellsOf 69 = 3 := by kernel_rfl
  have q0 : Tryz.prog.cellsOf 67 = 1 := by kernel_rfl
  have q1 : Tryz.prog.cellsOf 59 = 2 := by kernel_rfl
  obtain ⟨cs, rfl, hsz⟩ := okWide_struct Tryz.underlying69 hv
  obtain ⟨fuel, hf⟩ := h
  obtain ⟨xs, n, -, -, -, hlen, hx⟩ := DataW.trod_struct Tryz.underlying69 hf
  have hl : cs.toList.length = 3 := by simpa using hsz.trans hC
  have key : ∃ (a1 : Option Addr) (n1 c1 : Nat) (a2 : Option Addr) (n2 c2 : Nat) (t : StoreD), cs.toList = [.slice a1 n1 c1, .slice a2 n2 c2, .int .i64 t.d.s] ∧ SRow w w.heap.size a1 n1 c1 a2 n2 c2 t := by
    simp only [Value.cells] at hx hlen
    generalize cs.toList = l at *
    match l, hl, xs, hlen with
    | [c0, c1, c2], _, [y0, y1], _ =>
      have h0 := hx 0 _ rfl
      have h1 := hx 1 _ rfl
      simp [q0, q1] at h0 h1
      obtain ⟨a2, n2, k2, zss, y, hq, hG, hw⟩ := disk_cells rfl h1
      simp only [List.cons.injEq, and_true] at hq
      obtain ⟨rfl, rfl⟩ := hq
      have hs : ∃ a n c, c0 = .slice a n c := by
        rcases open_slice Tryz.underlying67 h0 with ⟨hcs, _⟩ | ⟨x, l, c, m, n, D, Pl, hcs, _⟩
        · simp only [List.cons.injEq, and_true] at hcs
          exact ⟨none, 0, 0, hcs⟩
        · simp only [List.cons.injEq, and_true] at hcs
          exact ⟨some x, l, c, hcs⟩
      obtain ⟨a1, n1, k1, rfl⟩ := hs
      obtain ⟨ps, hP⟩ := open_pins (d := y0.1) (p := y0.2) (a := a1) (len := n1) (cap := k1) Tryz.underlying67 Tryz.underlying73 Tryz.underlying9 Tryz.underlying2 Tryz.underlying2 Tryz.underlying2 Tryz.underlying2 rfl (by kernel_rfl) (by kernel_rfl) ⟨n, by simpa [Value.cells] using h0⟩
      exact ⟨a1, n1, k1, a2, n2, k2, ⟨ps, ⟨zss, y⟩⟩, rfl, hP, hG, hw⟩
  obtain ⟨a1, n1, c1, a2, n2, c2, t, he, hS⟩ := key
  refine ⟨a1, n1, c1, a2, n2, c2, t, ?_, hS⟩
  have : cs = [Value.slice a1 n1 c1, .slice a2 n2 c2, .int .i64 t.d.s].toArray := by rw [← he]
  rw [this]
end Go.Proofs.YtefgimpodhjdpaaGreatDoor
namespace Go.Proofs.YtefgimpodhjdpaaGreatDoor.Facts
set_option maxRecDepth 100000

theorem laidOut : laidOutB Tryz.prog = true := by kernel_rfl
theorem mapsRowed : mapsRowed Tryz.prog = true := by kernel_rfl
theorem stopsHeard : Tryz.prog.stopsHeard = true := by kernel_rfl
theorem mayEnter : Tryz.prog.mayEnter = true := by kernel_rfl
theorem plainKeys : (true == Tryz.prog.plainKeys) = true := by kernel_rfl
theorem liftsFinal : (false == Tryz.prog.liftsFinal) = true := by kernel_rfl
theorem make : (Tryz.prog.make == some Make.cut) = true := by kernel_rfl

theorem joined_of {P : Program} {f : FuncId} {fn : Func} {s : ChangeSpec} {c : OpenClaim}
    (g2 : laidOutB P = true) (g3 : Go.mapsRowed P = true) (g4 : P.stopsHeard = true) (g5 : P.mayEnter = true)
    (h1 : c.wf (OpenSpec.ofChange s) = true) (h4 : fn.params.all (P.readableRec ·) = true) (h5 : namedTie P c.named s.vars = true)
    (h6 : (c.stops == []) = true) (h7 : (P.stops == []) = true) (h8 : (c.knobs == []) = true) (h9 : (P.stopKnobs == []) = true)
    (h10 : c.inPlace = P.inPlace f) (h11 : c.unfollowed = P.unfollowed f) (h12 : c.recurses = P.recurses f) (h13 : c.named = P.varsNamed f)
    (h14 : (c.maps == (fn.params.toList ++ s.plain.varTypes P).any (P.mapsRec ·)) = true) (h15 : (c.ifaces == (fn.params.toList ++ s.plain.varTypes P).any (P.ifacesRec ·)) = true) (h16 : (c.mapsOut == P.mapsAmong fn.resultTypes.toList) = true)
    (h17 : (c.loops == (fn.params.toList ++ s.plain.varTypes P).any (P.loopsFrom ·)) = true) (h18 : (c.wideKeys == (fn.params.toList ++ s.plain.varTypes P ++ fn.resultTypes.toList).any (P.wideKeysFrom ·)) = true)
    (h19 : s.vars.all (P.varReadable ·) = true) (h20 : fn.resultTypes.all (fun t => P.readableRec t && decide (t < P.types.size)) = true) (h21 : (c.ifacesOut == fn.resultTypes.toList.any (P.ifacesRec ·)) = true) (h22 : (c.loopsOut == fn.resultTypes.toList.any (P.loopsFrom ·)) = true)
    (h23 : (c.plainKeys == P.plainKeys) = true) (h24 : c.shortTexts.isNone = true) (h25 : (c.lifted == P.liftsFinal) = true) (h26 : (P.make == some c.make) = true)
    (h27 : (c.kinds == (if c.domain.isEmpty then [] else fn.params.toList.map fun t => match P.underlying t with | some (.int k) => some k | _ => none)) = true) (h28 : (c.pinned == c.pinnedBy) = true)
    (h29 : (c.veiled == (fn.params.toList ++ s.plain.varTypes P ++ fn.resultTypes.toList).any (P.veiledRec ·)) = true) (h30 : c.veiledFits P fn.params.toList (fn.params.toList ++ s.plain.varTypes P ++ fn.resultTypes.toList) = true) :
    joinedFacts P f fn s c = true := by
  have g10 : (c.inPlace == P.inPlace f) = true := by rw [h10]; simp
  have g11 : (c.unfollowed == P.unfollowed f) = true := by rw [h11]; simp
  have g12 : (c.recurses == P.recurses f) = true := by rw [h12]; simp
  have g13 : (c.named == P.varsNamed f) = true := by rw [h13]; simp
  unfold joinedFacts
  simp only [Bool.and_eq_true]
  exact ⟨⟨⟨⟨⟨⟨⟨⟨⟨⟨⟨⟨⟨⟨⟨⟨⟨⟨⟨⟨⟨⟨⟨⟨⟨⟨⟨⟨⟨⟨⟨h1, g2⟩, g3⟩, h4⟩, h5⟩, h6⟩, h7⟩, h8⟩, h9⟩, g10⟩, g11⟩, g12⟩, g13⟩, h14⟩, h15⟩, h16⟩, h17⟩, h18⟩, h19⟩, h20⟩, h21⟩, h22⟩, h23⟩, h24⟩, g4⟩, g5⟩, h25⟩, h26⟩, h27⟩, h28⟩, h29⟩, h30⟩
end Go.Proofs.YtefgimpodhjdpaaGreatDoor.Facts
namespace Go.Proofs.YtefgimpodhjdpaaGreatDoor
open Go.RowKit Go.Extern.Stop Go.Stop Go.Extern

/-- The variable errors.errorType holds the handle of the type 'error'. -/
structure ErrT (w : World) : Prop where
  cell : w.cell? ⟨0, 0, none⟩ = some (.iface 262 (.agg #[.pointer (some ⟨6, 162, none⟩)]))
theorem ErrT.on {w w' : World} (h : ErrT w) (hb : Below w.heap.size w w') : ErrT w' := ⟨cell_keep hb h.cell⟩
theorem ErrT.grew {w w' : World} {row : Option Nat} (h : ErrT w) (hg : w.grownBy w' row) (hr : ∀ k, row = some k → 0 < k) : ErrT w' :=
  ⟨hg.cell h.cell (fun e => by have := hr _ e.symm; exact absurd this (Nat.lt_irrefl _))⟩
theorem ErrT.lt {w : World} (h : ErrT w) : 0 < w.heap.size := cell_lt h.cell

/-- An error of what does not fit. -/
abbrev misV (c : Int) (s : ByteArray) : Value := .iface 199 (.agg #[.int .i64 c, .string s])
abbrev hdl (t : Nat) : Value := .pointer (some ⟨6, t, none⟩)
abbrev rval (t : Nat) (a : Addr) (f : Int) : Value := .agg #[hdl t, .pointer (some a), .int .u64 f]

theorem as_nil (t : Value) (w : World) :
    Calls Tryz.prog 164 #[.nilIface, t] w fun e w' => e = .returned (.bool false) ∧ w = w' := by
  go_enter Tryz.func164, Tryz.ntmps164
  go_wp2
  go_ret
  exact ⟨rfl, rfl⟩

theorem rl_valueOfP (t : Addr) (w : World) : (ReflectliteValue.unpack (.iface 205 (.pointer (some t)))).run Tryz.prog w
    = .ok (rval 205 ⟨w.heap.size, 0, none⟩ 150) (w.alloc (.cells #[.pointer (some t)] 205)) := by kernel_rfl
theorem rl_typeP (a : Addr) (w : World) : (ReflectliteValue.methodAny (ReflectliteValue.valueError "reflectlite.Value.Type" 0) (fun t _ _ _ => ReflectliteType.toType t) #[rval 205 a 150]).run Tryz.prog w
    = .ok (.iface 262 (.agg #[hdl 205])) w := by kernel_rfl
theorem rl_mKind (h : Value) (w : World) : (Go.method 439 262 (.agg #[h]) "Kind").run Tryz.prog w = .ok (264, h) w := by kernel_rfl
theorem rl_mElem (h : Value) (w : World) : (Go.method 439 262 (.agg #[h]) "Elem").run Tryz.prog w = .ok (277, .agg #[h]) w := by kernel_rfl
theorem rl_mImpl (h : Value) (w : World) : (Go.method 439 262 (.agg #[h]) "Implements").run Tryz.prog w = .ok (278, .agg #[h]) w := by kernel_rfl
theorem rl_mAsgn (h : Value) (w : World) : (Go.method 439 262 (.agg #[h]) "AssignableTo").run Tryz.prog w = .ok (275, .agg #[h]) w := by kernel_rfl
theorem rl_kindP (w : World) : ((ReflectliteType.abiMethod fun t => (fun a : Nat => Value.int IntKind.u8 (a : Int)) <$> Rtype.kind t) #[hdl 205]).run Tryz.prog w = .ok (.int .u8 22) w := by kernel_rfl
theorem rl_kindM (w : World) : ((ReflectliteType.abiMethod fun t => (fun a : Nat => Value.int IntKind.u8 (a : Int)) <$> Rtype.kind t) #[hdl 199]).run Tryz.prog w = .ok (.int .u8 25) w := by kernel_rfl
theorem rl_elemP (w : World) : (ReflectliteType.method ReflectliteType.elem #[.agg #[hdl 205]]).run Tryz.prog w = .ok (.iface 262 (.agg #[hdl 199])) w := by kernel_rfl
theorem rl_implM (w : World) : (ReflectliteType.relation "Implements" ReflectliteType.implements_ #[.agg #[hdl 199], .iface 262 (.agg #[hdl 162])]).run Tryz.prog w = .ok (.bool true) w := by kernel_rfl
theorem rl_typeOfM (v : Value) (w : World) : (ReflectliteType.typeOf #[.iface 199 v]).run Tryz.prog w = .ok (.iface 262 (.agg #[hdl 199])) w := by kernel_rfl
theorem rl_asgnM (w : World) : (ReflectliteType.relation "AssignableTo" ReflectliteType.assignableTo #[.agg #[hdl 199], .iface 262 (.agg #[hdl 199])]).run Tryz.prog w = .ok (.bool true) w := by kernel_rfl
theorem rl_valueOfM (c : Int) (s : ByteArray) (w : World) : (ReflectliteValue.unpack (misV c s)).run Tryz.prog w
    = .ok (rval 199 ⟨w.heap.size, 0, none⟩ 153) (w.alloc (.cells #[.int .i64 c, .string s] 199)) := by kernel_rfl

theorem rl_partsP (a : Addr) (w : World) : (ReflectliteValue.parts (rval 205 a 150)).run Tryz.prog w = .ok (some (205, a, 150)) w := by kernel_rfl
theorem rl_method {P : Program} {w : World} {z : Sem Value} {f : TypeId → Addr → Nat → Nat → Sem Value} {v : Value} {t : TypeId} {a : Addr} {k : Nat} (h : (ReflectliteValue.parts v).run P w = .ok (some (t, a, k)) w) :
    (ReflectliteValue.method z f #[v]).run P w = (f t a k (k % 32)).run P w := by
  rw [show ReflectliteValue.method z f #[v] = ReflectliteValue.parts v >>= _ from rfl]
  simp only [Sem.run_bind, h, Result.andThen]
theorem rl_isNilP (a p : Addr) (W : World) (ha : W.cell? a = some (.pointer (some p))) :
    (ReflectliteValue.method (ReflectliteValue.valueError "reflectlite.Value.IsNil" 0) ReflectliteValue.isNil #[rval 205 a 150]).run Tryz.prog W = .ok (.bool false) W := by
  rw [rl_method (rl_partsP _ _)]
  simp [ReflectliteValue.isNil, loadVar, isAgg, underlying, Tryz.underlying205, ha, Result.andThen]
theorem rl_elemOfP (w : World) : (Rtype.elem? 205).run Tryz.prog w = .ok (some 199) w := by kernel_rfl
theorem rl_mkM (p : Addr) (w : World) : (ReflectliteValue.mk 199 p ReflectliteValue.flagAddr).run Tryz.prog w = .ok (rval 199 p 409) w := by kernel_rfl
theorem rl_elemV (a p : Addr) (W : World) (ha : W.cell? a = some (.pointer (some p))) :
    (ReflectliteValue.method (ReflectliteValue.valueError "reflectlite.Value.Elem" 0) ReflectliteValue.elem #[rval 205 a 150]).run Tryz.prog W = .ok (rval 199 p 409) W := by
  rw [rl_method (rl_partsP _ _)]
  simp [ReflectliteValue.elem, loadVar, isAgg, underlying, Tryz.underlying205, ha, Result.andThen, rl_elemOfP, rl_mkM]
theorem rl_partsMa (a : Addr) (w : World) : (ReflectliteValue.parts (rval 199 a 409)).run Tryz.prog w = .ok (some (199, a, 409)) w := by kernel_rfl
theorem rl_partsM (a : Addr) (w : World) : (ReflectliteValue.parts (rval 199 a 153)).run Tryz.prog w = .ok (some (199, a, 153)) w := by kernel_rfl
theorem rl_directM (w : World) : (Rtype.directlyAssignable 199 199).run Tryz.prog w = .ok true w := by kernel_rfl
/-- (Value).Set: the struct at 'ta' gets what the Value's own variable holds. -/
theorem rl_setM (tb b : Nat) (c : Int) (s : ByteArray) (o0 o1 : Value) (W : World) (b0 : W.cell? ⟨b, 0, none⟩ = some (.int .i64 c)) (b1 : W.cell? ⟨b, 1, none⟩ = some (.string s))
    (t0 : W.cell? ⟨tb, 0, none⟩ = some o0) (t1 : W.cell? ⟨tb, 1, none⟩ = some o1) (f0 : W.frozen? ⟨tb, 0, none⟩ = false) (f1 : W.frozen? ⟨tb, 1, none⟩ = false) :
    (ReflectliteValue.set #[rval 199 ⟨tb, 0, none⟩ 409, rval 199 ⟨b, 0, none⟩ 153]).run Tryz.prog W = .ok (.tuple #[]) ((W.setCell ⟨tb, 0, none⟩ (.int .i64 c)).setCell ⟨tb, 1, none⟩ (.string s)) := by
  have hl : (loadCells ⟨b, 0, none⟩ 2).run Tryz.prog W = .ok #[.int .i64 c, .string s] W := by
    have := run_loadCells_list (P := Tryz.prog) (w := W) ⟨b, 0, none⟩ [.int .i64 c, .string s] (fun j v hj => by
      rcases j with _ | _ | j
      · simp at hj; subst hj; exact b0
      · simp at hj; subst hj; exact b1
      · first | (simp at hj; done) | (simp at hj; omega))
    exact this
  generalize hv : rval 199 ⟨tb, 0, none⟩ 409 = v
  generalize hx : rval 199 ⟨b, 0, none⟩ 153 = x
  rw [show ReflectliteValue.set #[v, x] = (ReflectliteValue.parts v >>= fun p => ReflectliteValue.parts x >>= fun q => _) from rfl]
  subst hv; subst hx
  simp only [Sem.run_bind, rl_partsMa, rl_partsM, Result.andThen]
  simp [ReflectliteValue.flagAddr, loadVar, isAgg, underlying, Tryz.underlying199, hl, Result.andThen, rl_directM, storeVar, Value.cells]
  have hst := run_storeCells_cells (P := Tryz.prog) tb 0 [.int .i64 c, .string s] 0 W
    (fun j hj => by
      rcases j with _ | _ | j
      · simp [t0]
      · simp [t1]
      · first | (simp at hj; done) | (simp at hj; omega))
    (fun j hj => by
      rcases j with _ | _ | j
      · exact f0
      · exact f1
      · first | (simp at hj; done) | (simp at hj; omega))
    (fun v hv => by
      simp at hv
      rcases hv with rfl | rfl <;> rfl)
  rw [hst]
  rfl
end Go.Proofs.YtefgimpodhjdpaaGreatDoor
namespace Go.Proofs.YtefgimpodhjdpaaGreatDoor
open Go.ChangeShapes Go.WideShapes Go.ChangeAt Go.RowKit

theorem own : ownKnob Tryz.prog.godebug = none := by kernel_rfl
theorem laidOut : laidOutB Tryz.prog = true := by kernel_rfl

/-- Each named variable is there, and its type can be read. -/
def varsOk (P : Program) (names : List String) : Bool :=
  names.all fun n => match P.globalNamed n with
    | some g => match (P.globals[g]?).map (·.type) with
      | some t => P.readableRec t && decide (t < P.types.size)
      | Option.none => false
    | Option.none => false
theorem vars_keep {H : Type} {enc : TypeId × Value → H} {P : Program} (hl : laidOutB P = true) {W W' : World} (bel : Below W.heap.size W W') : ∀ (names : List String) (gs : List (DataW H)) (q : List MemPlace),
    varsOk P names = true → DataW.TrodVars enc P W (fun _ => true) names gs q → (∀ x ∈ q, x.block < W.heap.size) → DataW.TrodVars enc P W' (fun b => decide (b < W.heap.size)) names gs q
  | [], gs, q, _, h, _ => by
    obtain ⟨rfl, rfl⟩ := trodVars_none h
    exact rfl
  | n :: r, [], q, _, h, _ => by simp [DataW.TrodVars] at h
  | n :: r, d :: ds, q, hok, h, hlt => by
    obtain ⟨g, t, cs, fuel, p, q2, h1, h2, h3, h4, h5, rfl⟩ := h
    simp only [varsOk, List.all_cons, Bool.and_eq_true] at hok
    obtain ⟨ho, hor⟩ := hok
    simp only [h1, h2, Bool.and_eq_true, decide_eq_true_eq] at ho
    have hg : g < W.heap.size := by
      rcases Nat.lt_or_ge g W.heap.size with hlt | hge
      · exact hlt
      · simp [World.var?, h1, Array.getElem?_eq_none hge] at h3
    have hT : DataW.Trod enc P W 0 (fun _ => true) true t (.agg cs) d p := ⟨fuel, h4⟩
    obtain ⟨fuel', h4'⟩ := Below.trod hl ho.1 ho.2 hT bel (fun x hx => hlt x (by simp [hx]))
    exact ⟨g, t, cs, fuel', p, q2, h1, h2, var?_below bel h1 hg h3, h4', vars_keep hl bel r ds q2 hor h5 (fun x hx => hlt x (by simp [hx])), rfl⟩

/-- An array of words that reads as it is listed holds these words, cell for cell. -/
theorem cells_of_words {H : Type} {enc : TypeId × Value → H} {P : Program} {w : World} {base : Nat} {sp : Nat → Bool} {held : Bool} {fuel : Nat} {t e : TypeId} {n : Nat} {cs : List Value} {ss : List (List UInt8)} {p : List MemPlace}
    (ht : P.underlying t = some (.array n e)) (he : P.underlying e = some .string) (hce : P.cellsOf e = 1) (hct : P.cellsOf t = n)
    (h : DataW.trod enc P w base sp held fuel t cs = some (.agg (ss.map fun s => .lit (.string s)), p)) : cs = ss.map fun s => Value.string ⟨s.toArray⟩ := by
  cases fuel with
  | zero => simp [DataW.trod] at h
  | succ fuel =>
    simp only [DataW.trod, ht, hce, hct, Nat.mul_one] at h
    split at h
    · rename_i hl
      obtain ⟨xs, hm, hx⟩ := Option.map_eq_some_iff.1 h
      have hxs : xs.map (·.1) = ss.map fun s => (DataW.lit (.string s) : DataW H) := by
        have := congrArg Prod.fst hx
        simpa using this
      have hxl : xs.length = n := by simpa using Lib.mapM_length hm
      have hzl : ss.length = n := by
        have := congrArg List.length hxs
        simp at this
        omega
      apply List.ext_getElem?
      intro i
      by_cases hi : i < n
      · obtain ⟨b, hb, hf⟩ := Lib.mapM_at hm i i (by simp [hi])
        obtain ⟨s, hc, rfl, _⟩ := DataW.trod_string he hf
        have h1 : cs[i]? = some (.string s) := by
          have := congrArg (·[0]?) hc
          simpa [List.getElem?_take, List.getElem?_drop] using this
        have h2 : (xs.map (·.1))[i]? = some (DataW.lit (.string s.data.toList) : DataW H) := by simp [hb]
        rw [hxs] at h2
        simp only [List.getElem?_map, Option.map_eq_some_iff, DataW.lit.injEq, Lit.string.injEq] at h2
        obtain ⟨z', hz', e'⟩ := h2
        rw [h1]
        simp [hz', e']
      · rw [List.getElem?_eq_none (by omega), List.getElem?_eq_none (by simp; omega)]
    · cases h

theorem gLabels : Tryz.prog.globalNamed "loop.example/g00618/impl.labels" = some 2 := by kernel_rfl
theorem gLabelsType : (Tryz.prog.globals[2]?).map (·.type) = some 275 := by kernel_rfl
theorem cLabels : Tryz.prog.cellsOf 275 = 8 := by kernel_rfl
theorem cWord : Tryz.prog.cellsOf 9 = 1 := by kernel_rfl
/-- What the listed datum of the labels gives a walk. -/
theorem Labels_of {W : World} (h : laidMet Tryz.prog [("loop.example/g00618/impl.labels", Rows.laid_loop_example_g00618_impl_labels)] W) : Labels W := by
  obtain ⟨ps, ⟨g, t, cs, fuel, p, q, hg, ht, hvar, hd, _, _⟩, _⟩ := h
  obtain rfl := Option.some.inj (gLabels.symm.trans hg)
  obtain rfl := Option.some.inj (gLabelsType.symm.trans ht)
  have e := cells_of_words (ss := [[115, 116, 114, 101, 97, 109], [104, 101, 97, 114, 100], [110, 111, 110, 99, 101], [115, 105, 103, 110], [109, 97, 99], [115, 101, 97, 108], [115, 112, 107, 105], [114, 111, 108, 108]]) Tryz.underlying275 Tryz.underlying9 cWord cLabels hd
  have c := fun i => World.var?_cell hg hvar i
  have a0 : cs[0]? = some (.string M.streamS) := by rw [← Array.getElem?_toList, e]; rfl
  have a1 : cs[1]? = some (.string M.heardS) := by rw [← Array.getElem?_toList, e]; rfl
  have a2 : cs[2]? = some (.string M.nonceS) := by rw [← Array.getElem?_toList, e]; rfl
  have a3 : cs[3]? = some (.string M.signS) := by rw [← Array.getElem?_toList, e]; rfl
  have a4 : cs[4]? = some (.string M.macS) := by rw [← Array.getElem?_toList, e]; rfl
  have a5 : cs[5]? = some (.string M.sealS) := by rw [← Array.getElem?_toList, e]; rfl
  have a6 : cs[6]? = some (.string M.spkiS) := by rw [← Array.getElem?_toList, e]; rfl
  have a7 : cs[7]? = some (.string M.rollS) := by rw [← Array.getElem?_toList, e]; rfl
  exact ⟨(c 0).trans a0, (c 1).trans a1, (c 2).trans a2, (c 3).trans a3, (c 4).trans a4, (c 5).trans a5, (c 6).trans a6, (c 7).trans a7⟩
theorem Labels_laid {W : World} (h : laidMetH Tryz.prog [("loop.example/g00618/impl.labels", Rows.laid_loop_example_g00618_impl_labels)] W) : Labels W := Labels_of h

theorem gErrT : Tryz.prog.globalNamed "errors.errorType" = some 0 := by kernel_rfl
theorem rtErrT : (Tryz.prog.cutTypes.find? (·.1 == "internal/reflectlite.rtype")).map (·.2) = some 262 := by kernel_rfl
theorem rowErrT : ((List.range 339).filter fun t => Tryz.prog.rowNamed t [101, 114, 114, 111, 114]) = [162] := by kernel_rfl
theorem sizeErrT : Tryz.prog.types.size = 339 := by kernel_rfl
/-- What the listed handle gives a walk: the variable's one cell. -/
theorem ErrT_of {W : World} (h : handlesMet Tryz.prog [("errors.errorType", Rows.laid_errors_errorType)] W) : ErrT W := by
  obtain ⟨name, u, ty, e1, e2, e3, e4, e5⟩ := h _ (List.mem_singleton.2 rfl)
  have en : name = [101, 114, 114, 111, 114] := (Option.some.inj e1).symm
  subst en
  obtain rfl := Option.some.inj (rtErrT.symm.trans e2)
  have hm : ty ∈ (List.range 339).filter fun t => Tryz.prog.rowNamed t [101, 114, 114, 111, 114] := List.mem_filter.2 ⟨List.mem_range.2 (by rw [← sizeErrT]; exact e3), e4⟩
  rw [rowErrT] at hm
  obtain rfl := List.mem_singleton.1 hm
  have hh : typeHandle Tryz.prog 162 = .pointer (some ⟨6, 162, none⟩) := by kernel_rfl
  rw [hh] at e5
  exact ⟨by simpa using World.var?_cell gErrT e5 0⟩
theorem ErrT_laid {W : World} (h : laidMetH Tryz.prog [("errors.errorType", Rows.laid_errors_errorType)] W) : ErrT W := ErrT_of (show laidMet Tryz.prog [] W ∧ handlesMet Tryz.prog [("errors.errorType", Rows.laid_errors_errorType)] W from h).2
theorem both_laid {W : World} (h : laidMetH Tryz.prog [("errors.errorType", Rows.laid_errors_errorType), ("loop.example/g00618/impl.labels", Rows.laid_loop_example_g00618_impl_labels)] W) : Labels W ∧ ErrT W := by
  have h' : laidMet Tryz.prog [("loop.example/g00618/impl.labels", Rows.laid_loop_example_g00618_impl_labels)] W ∧ handlesMet Tryz.prog [("errors.errorType", Rows.laid_errors_errorType)] W := h
  exact ⟨Labels_of h'.1, ErrT_of h'.2⟩

/-- A world for the witness: the settled one, its tables holding what their initialisers lay. -/
noncomputable def laidWorld (os : Os) : World :=
  { World.holding Tryz.prog os ⟨#[], #[], []⟩ with heap := ((World.holding Tryz.prog os ⟨#[], #[], []⟩).heap
       |>.modify 2 (fun | .cells _ t frozen => .cells #[.string M.streamS, .string M.heardS, .string M.nonceS, .string M.signS, .string M.macS, .string M.sealS, .string M.spkiS, .string M.rollS] t frozen | o => o)
       |>.modify 0 (fun | .cells _ t frozen => .cells #[.iface 262 (.agg #[.pointer (some ⟨6, 162, none⟩)])] t frozen | o => o)
    ) }
end Go.Proofs.YtefgimpodhjdpaaGreatDoor
namespace Go.Proofs.YtefgimpodhjdpaaGreatDoor
open Go.ChangeShapes Go.WideShapes Go.ChangeAt Go.RowKit

/-- What the rows list: with the labels (the variable at block 2). -/
def listL : List (String × DataW Unit) := [("unicode/utf8.acceptRanges", Rows.laid_unicode_utf8_acceptRanges), ("loop.example/g00618/impl.labels", Rows.laid_loop_example_g00618_impl_labels), ("unicode.CaseRanges", Rows.laid_unicode_CaseRanges), ("unicode/utf8.first", Rows.laid_unicode_utf8_first)]
/-- Without them. -/
def listN : List (String × DataW Unit) := [("unicode/utf8.acceptRanges", Rows.laid_unicode_utf8_acceptRanges), ("unicode.CaseRanges", Rows.laid_unicode_CaseRanges), ("unicode/utf8.first", Rows.laid_unicode_utf8_first)]

theorem laid_mem {P : Program} {w : World} : ∀ (l : List (String × DataW Unit)) (ps : List MemPlace), DataW.LaidVars P w l ps → ∀ n d, (n, d) ∈ l →
    ∃ g t cs fuel p, P.globalNamed n = some g ∧ (P.globals[g]?).map (·.type) = some t ∧ w.var? P n = some cs ∧ DataW.trod (fun _ => ()) P w 0 (fun _ => true) false fuel t cs.toList = some (d, p)
  | [], _, _, n, d, h => by cases h
  | (n', d') :: r, ps, ⟨g, t, cs, fuel, p, q, h1, h2, h3, h4, h5, _⟩, n, d, h => by
    rcases List.mem_cons.1 h with e | h
    · injection e with e1 e2
      subst e1
      subst e2
      exact ⟨g, t, cs, fuel, p, h1, h2, h3, h4⟩
    · exact laid_mem r q h5 n d h
theorem Labels_tabs {W : World} (h : laidMetH Tryz.prog listL W) : Labels W := by
  rw [MakeChecks.laidMetH_plain _ _ _ (by kernel_rfl)] at h
  obtain ⟨ps, hv, _⟩ := h
  obtain ⟨g, t, cs, fuel, p, hg, ht, hvar, hd⟩ := laid_mem _ _ hv "loop.example/g00618/impl.labels" Rows.laid_loop_example_g00618_impl_labels (List.mem_cons_of_mem _ (List.mem_cons_self ..))
  obtain rfl := Option.some.inj (gLabels.symm.trans hg)
  obtain rfl := Option.some.inj (gLabelsType.symm.trans ht)
  have e := cells_of_words (ss := [[115, 116, 114, 101, 97, 109], [104, 101, 97, 114, 100], [110, 111, 110, 99, 101], [115, 105, 103, 110], [109, 97, 99], [115, 101, 97, 108], [115, 112, 107, 105], [114, 111, 108, 108]]) Tryz.underlying275 Tryz.underlying9 cWord cLabels hd
  have c := fun i => World.var?_cell hg hvar i
  have a0 : cs[0]? = some (.string M.streamS) := by rw [← Array.getElem?_toList, e]; rfl
  have a1 : cs[1]? = some (.string M.heardS) := by rw [← Array.getElem?_toList, e]; rfl
  have a2 : cs[2]? = some (.string M.nonceS) := by rw [← Array.getElem?_toList, e]; rfl
  have a3 : cs[3]? = some (.string M.signS) := by rw [← Array.getElem?_toList, e]; rfl
  have a4 : cs[4]? = some (.string M.macS) := by rw [← Array.getElem?_toList, e]; rfl
  have a5 : cs[5]? = some (.string M.sealS) := by rw [← Array.getElem?_toList, e]; rfl
  have a6 : cs[6]? = some (.string M.spkiS) := by rw [← Array.getElem?_toList, e]; rfl
  have a7 : cs[7]? = some (.string M.rollS) := by rw [← Array.getElem?_toList, e]; rfl
  exact ⟨(c 0).trans a0, (c 1).trans a1, (c 2).trans a2, (c 3).trans a3, (c 4).trans a4, (c 5).trans a5, (c 6).trans a6, (c 7).trans a7⟩

theorem witness_tabs {H : Type} {enc : TypeId × Value → H} {C : Checked} {os : Os} {f : FuncId} {fn : Func} {s : OpenSpec} {conds : List PathCond} {apart : Bool} {laid : List (String × DataW Unit)} (modest : Bool) (w0 : World) (args : Array Value) (hos : w0.os = os)
    (hsh : (w0.forCall (fun _ _ => 0) ⟨#[], args, []⟩).Shaped C.prog)
    (hok : Input.okWideB C.prog (w0.forCall (fun _ _ => 0) ⟨#[], args, []⟩) f ⟨#[], args, []⟩ = true)
    (hrow : s.preRow enc C.prog fn conds apart laid (w0.forCall (fun _ _ => 0) ⟨#[], args, []⟩).memory args) :
    ∃ (w : World) (tape : Tape) (i : Input), w.os = os ∧ (w.forCall tape i).Shaped C.prog ∧ i.vars = [] ∧ Input.okWide C.prog (w.forCall tape i) .any w.heap.size f i ∧
      s.preRow enc C.prog fn conds apart laid (w.forCall tape i).memory i.args ∧ ({ modest := modest } : Assume).holds C.prog (lone (Frame.enter C.prog f i.args .normal) [] (w.forCall tape i)) :=
  ⟨w0, fun _ _ => 0, ⟨#[], args, []⟩, hos, hsh, (Input.okWide_of_okWideB (base := 0) hok).1, (Input.okWide_of_okWideB hok).2, hrow, by
    simp only [Assume.holds]
    exact ⟨by simp, by simp, fun _ => Modest.zero, by simp, by simp⟩⟩

theorem shapedL (os : Os) (args : Array Value) : ((World.laidAll Tryz.prog os listL).forCall (fun _ _ => 0) ⟨#[], args, []⟩).Shaped Tryz.prog := World.shaped_of_ZipB (by kernel_rfl) (by kernel_rfl)
theorem metL (os : Os) (args : Array Value) : laidMetH Tryz.prog listL ((World.laidAll Tryz.prog os listL).forCall (fun _ _ => 0) ⟨#[], args, []⟩).memory := by
  rw [MakeChecks.laidMetH_plain _ _ _ (by kernel_rfl)]
  exact laidMet_laidAll _ (by kernel_rfl) (by kernel_rfl)

theorem shapedN (os : Os) (args : Array Value) : ((World.laidAll Tryz.prog os listN).forCall (fun _ _ => 0) ⟨#[], args, []⟩).Shaped Tryz.prog := World.shaped_of_ZipB (by kernel_rfl) (by kernel_rfl)
theorem metN (os : Os) (args : Array Value) : laidMetH Tryz.prog listN ((World.laidAll Tryz.prog os listN).forCall (fun _ _ => 0) ⟨#[], args, []⟩).memory := by
  rw [MakeChecks.laidMetH_plain _ _ _ (by kernel_rfl)]
  exact laidMet_laidAll _ (by kernel_rfl) (by kernel_rfl)

end Go.Proofs.YtefgimpodhjdpaaGreatDoor
namespace Go.Proofs.YtefgimpodhjdpaaGreatDoor
open Go.RowKit
set_option maxRecDepth 100000
set_option linter.unusedVariables false

theorem syncS_no {s : StoreD} (h : storeF s ≠ 0) : syncS s = store0 := by unfold syncS; rw [if_neg h]
theorem sync_open {s : StoreD} (h : storeF s = 0) : openC ⟨s.d.rs, s.d.rs.length⟩ = 0 ∧ openS ⟨s.d.rs, s.d.rs.length⟩ = syncS s := by
  obtain ⟨hf, _⟩ := sync_f h
  have e : (syncS s).d = ⟨s.d.rs, s.d.rs.length⟩ := by unfold syncS; rw [if_pos h]
  have h1 := (storeF_zero hf).1
  have h2 := openS_self hf
  rw [e] at h1 h2
  exact ⟨h1, h2⟩
/-- Where an operation on a store begins: the argument, the result, what is wrong. -/
theorem begin9 (a1 : Option Addr) (n1 c1 : Nat) (a2 : Option Addr) (n2 c2 B : Nat) (s : StoreD) (w : World) (hR : SRow w B a1 n1 c1 a2 n2 c2 s) (hB : B ≤ w.heap.size) :
    Below w.heap.size w ((w.alloc (.cells #[.slice a1 n1 c1, .slice a2 n2 c2, .int .i64 s.d.s] 29)).alloc (.cells #[.int .i64 0, .slice none 0 0, .slice none 0 0, .int .i64 0] 35)) ∧
    At w.heap.size (S3L a1 n1 c1 a2 n2 c2 s.d.s) ((w.alloc (.cells #[.slice a1 n1 c1, .slice a2 n2 c2, .int .i64 s.d.s] 29)).alloc (.cells #[.int .i64 0, .slice none 0 0, .slice none 0 0, .int .i64 0] 35)) ∧
    At (w.heap.size + 1) zero9 ((w.alloc (.cells #[.slice a1 n1 c1, .slice a2 n2 c2, .int .i64 s.d.s] 29)).alloc (.cells #[.int .i64 0, .slice none 0 0, .slice none 0 0, .int .i64 0] 35)) := by
  have b0 := bal (bal (Below.refl _ w) (.cells #[.slice a1 n1 c1, .slice a2 n2 c2, .int .i64 s.d.s] 29)) (.cells #[.int .i64 0, .slice none 0 0, .slice none 0 0, .int .i64 0] 35)
  have A0 := (At.new w (S3L a1 n1 c1 a2 n2 c2 s.d.s) 29).alloc (.cells #[.int .i64 0, .slice none 0 0, .slice none 0 0, .int .i64 0] 35)
  have R0 := At.new (w.alloc (.cells #[.slice a1 n1 c1, .slice a2 n2 c2, .int .i64 s.d.s] 29)) zero9 35
  rw [World.size_alloc] at R0
  exact ⟨b0, A0, R0⟩
set_option maxHeartbeats 2000000 in
theorem implSyncStore_any (a1 : Option Addr) (n1 c1 : Nat) (a2 : Option Addr) (n2 c2 B : Nat) (s : StoreD) (w : World) (hR : SRow w B a1 n1 c1 a2 n2 c2 s) (hB : B ≤ w.heap.size) :
    Calls Tryz.prog 20 #[S3 a1 n1 c1 a2 n2 c2 s.d.s] w (StoreRes (storeF s) (syncS s) w) := by
  obtain ⟨b0, A0, R0⟩ := begin9 a1 n1 c1 a2 n2 c2 B s w hR hB
  have HR0 := Lib.hid R0
  have HA0 := Lib.hid A0
  have HB0 := Lib.hid b0
  have hRw := hR.wf
  have HR := Lib.hid (fun (w' : World) (h : Below w.heap.size w w') => hR.below (h.mono hB))
  have F0 := implStoreFault_any a1 n1 c1 a2 n2 c2 B s _ (hR.below (b0.mono hB)) (Nat.le_trans hB b0.size)
  clear A0 R0 b0 hR
  by_cases h0 : storeF s = 0
  case neg =>
    rw [syncS_no h0]
    generalize storeF s = cd at *
    have q9 : (cd != 0) = true := by simpa using h0
    have q8 : decide (cd = 0) = false := by simpa using h0
    clear HR
    have d0 := HA0.out.cell 0 _ rfl
    have d1 := HA0.out.cell 1 _ rfl
    have d2 := HA0.out.cell 2 _ rfl
    go_enter Tryz.func20, Tryz.ntmps20
    go_wp2_with fail
    generalize (w.alloc (.cells #[.slice a1 n1 c1, .slice a2 n2 c2, .int .i64 s.d.s] 29)).alloc (.cells #[.int .i64 0, .slice none 0 0, .slice none 0 0, .int .i64 0] 35) = W0 at *
    refine F0.mono ?_
    rintro r u1 ⟨rfl, b1⟩
    have B1 := Lib.hid (btr HB0.out b1)
    have R1 := Lib.hid (HR0.out.on b1)
    have A1 := Lib.hid (HA0.out.on b1)
    clear d0 d1 d2 b1 F0 HB0 HR0 HA0
    have R9 := (R1.out)
    have B9 := B1.out
    unfold zero9 at R9
    have q0 := R9.cell 0 _ rfl
    have q1 := R9.cell 1 _ rfl
    have q2 := R9.cell 2 _ rfl
    have q3 := R9.cell 3 _ rfl
    have f0 := R9.free 0 _ rfl
    have f1 := R9.free 1 _ rfl
    have f2 := R9.free 2 _ rfl
    have f3 := R9.free 3 _ rfl
    clear R9
    go_wp2_with fail
    refine bodyPost_ret (v := V4 cd none 0 0 none 0 0 0) (by simp [results, Tryz.results20, go_sem, V4, q0, q1, q2, q3]) rfl ⟨none, 0, 0, none, 0, 0, rfl, SOwn.nil _ _ ?_, ?_⟩
    · exact Nat.le_trans B9.size (by simp [World.setCell])
    · exact (by (iterate 4 (refine bset ?_ (by dsimp only; omega) _)); exact B9)
  obtain ⟨ho, hp⟩ := storeF_zero h0
  obtain ⟨h12, hlong, _, _⟩ := diskF_zero (openC_zero ho).1
  obtain ⟨e1, e2⟩ := sync_open h0
  rw [h0] at F0 ⊢
  have JO := Lib.hid (fun (w' : World) (h : Below w.heap.size w w') => journalOf_any a2 n2 c2 B s.d.rs s.d.s w' (HR.out w' h).rs (Nat.le_trans hB h.size) h12 hlong)
  have bg := fun (w' : World) => beginning_any s.d.rs s.d.rs.length s.d.s s.d.rs.length w'
  have dk := fun (w' : World) => disk_any s.d.rs s.d.rs.length s.d.rs.length w' (Nat.le_refl _) h12 hlong hRw
  simp only [← jall_def, List.take_length] at bg dk
  have BG := Lib.hid bg
  have DK := Lib.hid dk
  have od := fun (a : Option Addr) (n c : Nat) (w' : World) (h : Grid w' w'.heap.size a n c s.d.rs) => implOpenDisk_any a n c w'.heap.size s.d.rs s.d.rs.length w' h (Nat.le_refl _) hRw
  rw [e1, e2] at od
  have OD := Lib.hid od
  have hct := jall_count s.d.rs s.d.s
  have HFJ := Lib.hid (jall_fit s.d.rs s.d.s)
  have HOJ := Lib.hid (jall_one s.d.rs s.d.s)
  have HLJ := Lib.hid (jall_old [] s.d.rs 0 s.d.s)
  have hz := (zero_of_info jour_info).1
  rw [← jall_nil] at hz
  have hsy : (syncS s).d.s = s.d.rs.length := (sync_f h0).2
  have HW := Lib.hid hRw
  unfold StoreRes at OD
  clear bg dk od ho hp h12 hlong e1 e2 hsy hRw h0
  generalize syncS s = S at *
  generalize jall s.d.rs s.d.s = J at *
  generalize jall s.d.rs s.d.rs.length = K at *
  generalize jall [] 0 = E at *
  have d0 := HA0.out.cell 0 _ rfl
  have d1 := HA0.out.cell 1 _ rfl
  have d2 := HA0.out.cell 2 _ rfl
  go_enter Tryz.func20, Tryz.ntmps20
  go_wp2_with fail
  generalize (w.alloc (.cells #[.slice a1 n1 c1, .slice a2 n2 c2, .int .i64 s.d.s] 29)).alloc (.cells #[.int .i64 0, .slice none 0 0, .slice none 0 0, .int .i64 0] 35) = W0 at *
  refine F0.mono ?_
  rintro r u1 ⟨rfl, b1⟩
  have B1 := Lib.hid (btr HB0.out b1)
  have R1 := Lib.hid (HR0.out.on b1)
  have A1 := Lib.hid (HA0.out.on b1)
  clear d0 d1 d2 b1 F0 HB0 HR0 HA0
  have d0 := A1.out.cell 0 _ rfl
  have d1 := A1.out.cell 1 _ rfl
  have d2 := A1.out.cell 2 _ rfl
  go_wp2_with fail
  refine (JO.out _ B1.out).mono ?_
  rintro r u2 ⟨rfl, b2⟩
  have Q2 := (JB.new u2 E).row J
  have b3 := btr b2 (brow (bal (Below.refl _ u2) (.cells E.toArray 94)) (Nat.le_refl _) J.toArray)
  have R3 := Lib.hid (R1.out.on b3)
  have B3 := Lib.hid (btr B1.out b3)
  clear d0 d1 d2 b2 b3 A1
  go_upto_region 5 with (refine store_jour J E rfl (.tmp 4) (.tmp 13) rfl u2.heap.size rfl rfl (JB.new u2 E) HFJ.out HLJ.out HOJ.out ?_)
  generalize (u2.alloc (.cells E.toArray 94)).setRow u2.heap.size J.toArray = W3 at *
  have d0 := Q2.at hct
  have HQ2 := Lib.hid Q2
  clear Q2
  go_wp2_with (refine load_jour J rfl (.tmp 4) rfl u2.heap.size rfl HQ2.out HFJ.out ?_)
  refine (BG.out _).mono ?_
  rintro r u4 ⟨rfl, b4⟩
  have R4 := Lib.hid (R3.out.on b4)
  have B4 := Lib.hid (btr B3.out b4)
  clear d0 HQ2 b4 R3 B3
  go_wp2_with fail
  refine (DK.out _).mono ?_
  rintro r u5 ⟨a5, n5, c5, xs, rfl, G5, b5⟩
  have R5 := Lib.hid (R4.out.on b5)
  have B5 := Lib.hid (btr B4.out b5)
  have Q5 := G5.grid HW.out
  clear b5 R4 B4 G5
  go_wp2_with fail
  refine (OD.out _ _ _ _ Q5).mono ?_
  rintro r u9 ⟨a3, n3, c3, a4, n4, c4, rfl, SO9, b9⟩
  have R9 := (R5.out).on b9
  have B9 := btr (B5.out) b9
  have HS9 := Lib.hid (SO9.res (w := w) (r := w.heap.size + 1) (by have := (R5.out).lt (by decide); exact this) (B5.out).size (.int .i64 0) (.slice a3 n3 c3) (.slice a4 n4 c4) (.int .i64 S.d.s))
  unfold zero9 at R9
  have q0 := R9.cell 0 _ rfl
  have q1 := R9.cell 1 _ rfl
  have q2 := R9.cell 2 _ rfl
  have q3 := R9.cell 3 _ rfl
  have f0 := R9.free 0 _ rfl
  have f1 := R9.free 1 _ rfl
  have f2 := R9.free 2 _ rfl
  have f3 := R9.free 3 _ rfl
  clear R9 b9 SO9
  go_wp2_with fail
  refine bodyPost_ret (v := V4 0 a3 n3 c3 a4 n4 c4 S.d.s) (by simp [results, Tryz.results20, go_sem, V4, q0, q1, q2, q3]) rfl ⟨a3, n3, c3, a4, n4, c4, rfl, HS9.out, ?_⟩
  exact (by (iterate 4 (refine bset ?_ (by dsimp only; omega) _)); exact B9)
end Go.Proofs.YtefgimpodhjdpaaGreatDoor
namespace Go.Proofs.YtefgimpodhjdpaaGreatDoor
open Go.RowKit
set_option maxRecDepth 100000
set_option linter.unusedVariables false

@[go_sem] theorem min_two (ats : Array TypeId) (ty : TypeId) (k k' : IntKind) (x y : Int) : Builtin.min_ ats ty #[.int k x, .int k' y] = pure (.int k (if y < x then y else x)) := rfl
theorem crashS_no {s : StoreD} {k : Int} (h : crashC s k ≠ 0) : crashS s k = store0 := by unfold crashS; rw [if_neg h]
theorem crash_open {s : StoreD} {k : Int} (h : storeF s = 0) (hk : 0 ≤ k) : ∃ m : Nat, (m : Int) = leftN s k ∧ m ≤ s.d.rs.length ∧ leftD s k = ⟨s.d.rs.take m, m⟩ ∧ openC ⟨s.d.rs.take m, m⟩ = 0 ∧ openS ⟨s.d.rs.take m, m⟩ = crashS s k := by
  have hb := left_bd h hk
  have ho := left_open h hk
  have e : leftD s k = ⟨s.d.rs.take (leftN s k).toNat, ((leftN s k).toNat : Nat)⟩ := by
    unfold leftD
    rw [Int.toNat_of_nonneg (by omega)]
  refine ⟨(leftN s k).toNat, Int.toNat_of_nonneg (by omega), by omega, e, ?_, ?_⟩
  · rw [← e]; exact ho
  · rw [← e]; unfold crashS; rw [if_pos (crashC_yes h (by omega))]
set_option maxHeartbeats 2000000 in
theorem implCrashStore_any (a1 : Option Addr) (n1 c1 : Nat) (a2 : Option Addr) (n2 c2 B : Nat) (s : StoreD) (k : Int) (w : World) (hR : SRow w B a1 n1 c1 a2 n2 c2 s) (hB : B ≤ w.heap.size) (hkm : k ≤ 9223372036854775807) :
    Calls Tryz.prog 30 #[S3 a1 n1 c1 a2 n2 c2 s.d.s, .int .i64 k] w (StoreRes (crashC s k) (crashS s k) w) := by
  obtain ⟨b0, A0, R0⟩ := begin9 a1 n1 c1 a2 n2 c2 B s w hR hB
  have HR0 := Lib.hid R0
  have HA0 := Lib.hid A0
  have HB0 := Lib.hid b0
  have hRw := hR.wf
  have HR := Lib.hid (fun (w' : World) (h : Below w.heap.size w w') => hR.below (h.mono hB))
  have F0 := implStoreFault_any a1 n1 c1 a2 n2 c2 B s _ (hR.below (b0.mono hB)) (Nat.le_trans hB b0.size)
  clear A0 R0 b0 hR
  by_cases h0 : storeF s = 0
  case neg =>
    have ec := crashC_bad (k := k) h0
    rw [crashS_no (by rw [ec]; exact h0), ec]
    generalize storeF s = cd at *
    have q9 : (cd != 0) = true := by simpa using h0
    have q8 : decide (cd = 0) = false := by simpa using h0
    clear HR ec
    have d0 := HA0.out.cell 0 _ rfl
    have d1 := HA0.out.cell 1 _ rfl
    have d2 := HA0.out.cell 2 _ rfl
    go_enter Tryz.func30, Tryz.ntmps30
    go_wp2_with fail
    generalize (w.alloc (.cells #[.slice a1 n1 c1, .slice a2 n2 c2, .int .i64 s.d.s] 29)).alloc (.cells #[.int .i64 0, .slice none 0 0, .slice none 0 0, .int .i64 0] 35) = W0 at *
    refine F0.mono ?_
    rintro r u1 ⟨rfl, b1⟩
    have B1 := Lib.hid (btr HB0.out b1)
    have R1 := Lib.hid (HR0.out.on b1)
    have A1 := Lib.hid (HA0.out.on b1)
    clear d0 d1 d2 b1 F0 HB0 HR0 HA0
    have R9 := (R1.out)
    have B9 := B1.out
    unfold zero9 at R9
    have q0 := R9.cell 0 _ rfl
    have q1 := R9.cell 1 _ rfl
    have q2 := R9.cell 2 _ rfl
    have q3 := R9.cell 3 _ rfl
    have f0 := R9.free 0 _ rfl
    have f1 := R9.free 1 _ rfl
    have f2 := R9.free 2 _ rfl
    have f3 := R9.free 3 _ rfl
    clear R9
    go_wp2_with fail
    refine bodyPost_ret (v := V4 cd none 0 0 none 0 0 0) (by simp [results, Tryz.results30, go_sem, V4, q0, q1, q2, q3]) rfl ⟨none, 0, 0, none, 0, 0, rfl, SOwn.nil _ _ ?_, ?_⟩
    · exact Nat.le_trans B9.size (by simp [World.setCell])
    · exact (by (iterate 4 (refine bset ?_ (by dsimp only; omega) _)); exact B9)
  by_cases hk : k < 0
  · have ec := crashC_neg h0 hk
    rw [crashS_no (by rw [ec]; decide), ec]
    rw [h0] at F0
    clear HR ec
    have d0 := HA0.out.cell 0 _ rfl
    have d1 := HA0.out.cell 1 _ rfl
    have d2 := HA0.out.cell 2 _ rfl
    go_enter Tryz.func30, Tryz.ntmps30
    go_wp2_with fail
    generalize (w.alloc (.cells #[.slice a1 n1 c1, .slice a2 n2 c2, .int .i64 s.d.s] 29)).alloc (.cells #[.int .i64 0, .slice none 0 0, .slice none 0 0, .int .i64 0] 35) = W0 at *
    refine F0.mono ?_
    rintro r u1 ⟨rfl, b1⟩
    have B1 := Lib.hid (btr HB0.out b1)
    have R1 := Lib.hid (HR0.out.on b1)
    have A1 := Lib.hid (HA0.out.on b1)
    clear d0 d1 d2 b1 F0 HB0 HR0 HA0
    have R9 := (R1.out)
    have B9 := B1.out
    unfold zero9 at R9
    have q0 := R9.cell 0 _ rfl
    have q1 := R9.cell 1 _ rfl
    have q2 := R9.cell 2 _ rfl
    have q3 := R9.cell 3 _ rfl
    have f0 := R9.free 0 _ rfl
    have f1 := R9.free 1 _ rfl
    have f2 := R9.free 2 _ rfl
    have f3 := R9.free 3 _ rfl
    clear R9
    go_wp2_with fail
    refine bodyPost_ret (v := V4 3 none 0 0 none 0 0 0) (by simp [results, Tryz.results30, go_sem, V4, q0, q1, q2, q3]) rfl ⟨none, 0, 0, none, 0, 0, rfl, SOwn.nil _ _ ?_, ?_⟩
    · exact Nat.le_trans B9.size (by simp [World.setCell])
    · exact (by (iterate 4 (refine bset ?_ (by dsimp only; omega) _)); exact B9)
  have hk0 : 0 ≤ k := by omega
  obtain ⟨ho, hp⟩ := storeF_zero h0
  obtain ⟨h12, hlong, hd0, hd1⟩ := diskF_zero (openC_zero ho).1
  obtain ⟨m, hm, hml, -, e1, e2⟩ := crash_open h0 hk0
  rw [crashC_yes h0 hk]
  rw [h0] at F0
  have JO := Lib.hid (fun (w' : World) (h : Below w.heap.size w w') => journalOf_any a2 n2 c2 B s.d.rs s.d.s w' (HR.out w' h).rs (Nat.le_trans hB h.size) h12 hlong)
  have bg := fun (w' : World) (t : Int) (ht : t = m) => beginning_any s.d.rs s.d.rs.length s.d.s t w'
  have dk := fun (w' : World) => disk_any s.d.rs m m w' hml h12 hlong hRw
  simp only [← jall_def] at bg
  have BG := Lib.hid (fun (w' : World) (t : Int) (ht : t = m) => (show Calls Tryz.prog 70 #[.agg (jall s.d.rs s.d.s).toArray, .int .i64 t] w' (fun r w2 => r = .returned (.agg (jour s.d.rs m m).toArray) ∧ Below w'.heap.size w' w2) from by have := bg w' t ht; subst ht; exact this))
  have DK := Lib.hid dk
  have hwt : ∀ zs ∈ s.d.rs.take m, ∀ z ∈ zs, (Lit.int .u8 z).wf = true := fun zs hz => hRw zs (List.mem_of_mem_take hz)
  have od := fun (a : Option Addr) (n c : Nat) (w' : World) (h : Grid w' w'.heap.size a n c (s.d.rs.take m)) => implOpenDisk_any a n c w'.heap.size (s.d.rs.take m) m w' h (Nat.le_refl _) hwt
  rw [e1, e2] at od
  have OD := Lib.hid od
  have hct := jall_count s.d.rs s.d.s
  have hsf := jall_safe s.d.rs s.d.s
  have HFJ := Lib.hid (jall_fit s.d.rs s.d.s)
  have HOJ := Lib.hid (jall_one s.d.rs s.d.s)
  have HLJ := Lib.hid (jall_old [] s.d.rs 0 s.d.s)
  have hz := (zero_of_info jour_info).1
  rw [← jall_nil] at hz
  have hsy : (crashS s k).d.s = m := by
    have := (crash_ok (crashC_yes h0 hk)).d
    rw [this, hm]; rfl
  have HW := Lib.hid hwt
  have hlen : s.d.rs.length ≤ 12 := h12
  have hs0 : 0 ≤ s.d.s := hd0
  have hs1 : s.d.s ≤ s.d.rs.length := hd1
  unfold leftN at hm
  unfold StoreRes at OD
  clear bg dk od ho hp h12 hlong e1 e2 hRw h0 hwt hd0 hd1 hsy
  generalize crashS s k = S at *
  generalize jour s.d.rs m m = K at *
  generalize s.d.rs.take m = rs2 at *
  generalize jall s.d.rs s.d.s = J at *
  generalize jall [] 0 = E at *
  by_cases hmn : (s.d.rs.length : Int) - s.d.s < k
  · rw [if_neg (by omega)] at hm
    have HM := Lib.hid hm
    clear hm
    have d0 := HA0.out.cell 0 _ rfl
    have d1 := HA0.out.cell 1 _ rfl
    have d2 := HA0.out.cell 2 _ rfl
    go_enter Tryz.func30, Tryz.ntmps30
    go_wp2_with fail
    generalize (w.alloc (.cells #[.slice a1 n1 c1, .slice a2 n2 c2, .int .i64 s.d.s] 29)).alloc (.cells #[.int .i64 0, .slice none 0 0, .slice none 0 0, .int .i64 0] 35) = W0 at *
    refine F0.mono ?_
    rintro r u1 ⟨rfl, b1⟩
    have B1 := Lib.hid (btr HB0.out b1)
    have R1 := Lib.hid (HR0.out.on b1)
    have A1 := Lib.hid (HA0.out.on b1)
    clear d0 d1 d2 b1 F0 HB0 HR0 HA0
    have d0 := A1.out.cell 0 _ rfl
    have d1 := A1.out.cell 1 _ rfl
    have d2 := A1.out.cell 2 _ rfl
    go_wp2_with fail
    refine (JO.out _ B1.out).mono ?_
    rintro r u2 ⟨rfl, b2⟩
    have Q2 := (JB.new u2 E).row J
    have b3 := btr b2 (brow (bal (Below.refl _ u2) (.cells E.toArray 94)) (Nat.le_refl _) J.toArray)
    have R3 := Lib.hid (R1.out.on b3)
    have B3 := Lib.hid (btr B1.out b3)
    clear d0 d1 d2 b2 b3 A1
    go_upto_region 7 with (refine store_jour J E rfl (.tmp 6) (.tmp 18) rfl u2.heap.size rfl rfl (JB.new u2 E) HFJ.out HLJ.out HOJ.out ?_)
    generalize (u2.alloc (.cells E.toArray 94)).setRow u2.heap.size J.toArray = W3 at *
    have d0 := Q2.at hct
    have d1 := Q2.at hsf
    have HQ2 := Lib.hid Q2
    clear Q2
    go_wp2_with (refine load_jour J rfl (.tmp 6) rfl u2.heap.size rfl HQ2.out HFJ.out ?_)
    refine (BG.out _ _ (by rw [HM.out])).mono ?_
    rintro r u4 ⟨rfl, b4⟩
    have R4 := Lib.hid (R3.out.on b4)
    have B4 := Lib.hid (btr B3.out b4)
    clear d0 d1 HQ2 b4 R3 B3
    go_wp2_with fail
    refine (DK.out _).mono ?_
    rintro r u5 ⟨a5, n5, c5, xs, rfl, G5, b5⟩
    have R5 := Lib.hid (R4.out.on b5)
    have B5 := Lib.hid (btr B4.out b5)
    have Q5 := G5.grid HW.out
    clear b5 R4 B4 G5
    go_wp2_with fail
    refine (OD.out _ _ _ _ Q5).mono ?_
    rintro r u9 ⟨a3, n3, c3, a4, n4, c4, rfl, SO9, b9⟩
    have R9 := (R5.out).on b9
    have B9 := btr (B5.out) b9
    have HS9 := Lib.hid (SO9.res (w := w) (r := w.heap.size + 1) (by have := (R5.out).lt (by decide); exact this) (B5.out).size (.int .i64 0) (.slice a3 n3 c3) (.slice a4 n4 c4) (.int .i64 S.d.s))
    unfold zero9 at R9
    have q0 := R9.cell 0 _ rfl
    have q1 := R9.cell 1 _ rfl
    have q2 := R9.cell 2 _ rfl
    have q3 := R9.cell 3 _ rfl
    have f0 := R9.free 0 _ rfl
    have f1 := R9.free 1 _ rfl
    have f2 := R9.free 2 _ rfl
    have f3 := R9.free 3 _ rfl
    clear R9 b9 SO9
    go_wp2_with fail
    refine bodyPost_ret (v := V4 0 a3 n3 c3 a4 n4 c4 S.d.s) (by simp [results, Tryz.results30, go_sem, V4, q0, q1, q2, q3]) rfl ⟨a3, n3, c3, a4, n4, c4, rfl, HS9.out, ?_⟩
    exact (by (iterate 4 (refine bset ?_ (by dsimp only; omega) _)); exact B9)
  · rw [if_pos (by omega)] at hm
    have HM := Lib.hid hm
    clear hm
    have d0 := HA0.out.cell 0 _ rfl
    have d1 := HA0.out.cell 1 _ rfl
    have d2 := HA0.out.cell 2 _ rfl
    go_enter Tryz.func30, Tryz.ntmps30
    go_wp2_with fail
    generalize (w.alloc (.cells #[.slice a1 n1 c1, .slice a2 n2 c2, .int .i64 s.d.s] 29)).alloc (.cells #[.int .i64 0, .slice none 0 0, .slice none 0 0, .int .i64 0] 35) = W0 at *
    refine F0.mono ?_
    rintro r u1 ⟨rfl, b1⟩
    have B1 := Lib.hid (btr HB0.out b1)
    have R1 := Lib.hid (HR0.out.on b1)
    have A1 := Lib.hid (HA0.out.on b1)
    clear d0 d1 d2 b1 F0 HB0 HR0 HA0
    have d0 := A1.out.cell 0 _ rfl
    have d1 := A1.out.cell 1 _ rfl
    have d2 := A1.out.cell 2 _ rfl
    go_wp2_with fail
    refine (JO.out _ B1.out).mono ?_
    rintro r u2 ⟨rfl, b2⟩
    have Q2 := (JB.new u2 E).row J
    have b3 := btr b2 (brow (bal (Below.refl _ u2) (.cells E.toArray 94)) (Nat.le_refl _) J.toArray)
    have R3 := Lib.hid (R1.out.on b3)
    have B3 := Lib.hid (btr B1.out b3)
    clear d0 d1 d2 b2 b3 A1
    go_upto_region 7 with (refine store_jour J E rfl (.tmp 6) (.tmp 18) rfl u2.heap.size rfl rfl (JB.new u2 E) HFJ.out HLJ.out HOJ.out ?_)
    generalize (u2.alloc (.cells E.toArray 94)).setRow u2.heap.size J.toArray = W3 at *
    have d0 := Q2.at hct
    have d1 := Q2.at hsf
    have HQ2 := Lib.hid Q2
    clear Q2
    go_wp2_with (refine load_jour J rfl (.tmp 6) rfl u2.heap.size rfl HQ2.out HFJ.out ?_)
    refine (BG.out _ _ (by rw [HM.out])).mono ?_
    rintro r u4 ⟨rfl, b4⟩
    have R4 := Lib.hid (R3.out.on b4)
    have B4 := Lib.hid (btr B3.out b4)
    clear d0 d1 HQ2 b4 R3 B3
    go_wp2_with fail
    refine (DK.out _).mono ?_
    rintro r u5 ⟨a5, n5, c5, xs, rfl, G5, b5⟩
    have R5 := Lib.hid (R4.out.on b5)
    have B5 := Lib.hid (btr B4.out b5)
    have Q5 := G5.grid HW.out
    clear b5 R4 B4 G5
    go_wp2_with fail
    refine (OD.out _ _ _ _ Q5).mono ?_
    rintro r u9 ⟨a3, n3, c3, a4, n4, c4, rfl, SO9, b9⟩
    have R9 := (R5.out).on b9
    have B9 := btr (B5.out) b9
    have HS9 := Lib.hid (SO9.res (w := w) (r := w.heap.size + 1) (by have := (R5.out).lt (by decide); exact this) (B5.out).size (.int .i64 0) (.slice a3 n3 c3) (.slice a4 n4 c4) (.int .i64 S.d.s))
    unfold zero9 at R9
    have q0 := R9.cell 0 _ rfl
    have q1 := R9.cell 1 _ rfl
    have q2 := R9.cell 2 _ rfl
    have q3 := R9.cell 3 _ rfl
    have f0 := R9.free 0 _ rfl
    have f1 := R9.free 1 _ rfl
    have f2 := R9.free 2 _ rfl
    have f3 := R9.free 3 _ rfl
    clear R9 b9 SO9
    go_wp2_with fail
    refine bodyPost_ret (v := V4 0 a3 n3 c3 a4 n4 c4 S.d.s) (by simp [results, Tryz.results30, go_sem, V4, q0, q1, q2, q3]) rfl ⟨a3, n3, c3, a4, n4, c4, rfl, HS9.out, ?_⟩
    exact (by (iterate 4 (refine bset ?_ (by dsimp only; omega) _)); exact B9)
end Go.Proofs.YtefgimpodhjdpaaGreatDoor
namespace Go.Proofs.YtefgimpodhjdpaaGreatDoor
open Go.RowKit
set_option maxRecDepth 100000
set_option linter.unusedVariables false

theorem flat_oneCell (ps : List PinD) : ∀ v ∈ flat ps, v.oneCell' = true := by
  intro v hv
  simp only [flat, List.mem_flatMap] at hv
  obtain ⟨p, _, h⟩ := hv
  exact pin_oneCell p v h
theorem PRow.src {w : World} {B : Nat} {a : Option Addr} {len cap : Nat} {ps : List PinD} {tx e' : TypeId} (h : PRow w B a len cap ps) (hk : Tryz.prog.underlying tx = some (.slice e')) : Go.Src Tryz.prog 5 tx (.slice a len cap) len (flat ps) w := by
  rcases Nat.eq_zero_or_pos len with h0 | h0
  · subst h0
    obtain rfl : ps = [] := List.eq_nil_of_length_eq_zero h.length
    cases a with
    | none => exact Src.ofNil w hk cap
    | some x => exact Src.ofSlice w hk x 0 cap [] rfl (fun j u hu => by simp at hu) (fun _ hu => by cases hu)
  · obtain ⟨b, off, rfl, hb, hc⟩ := h.cells h0
    refine Src.ofSlice w hk _ len cap _ (by rw [flat_length, h.length]) (fun j u hu => ?_) (flat_oneCell ps)
    have hj := (List.getElem?_eq_some_iff.1 hu).1
    rw [flat_length] at hj
    have hk5 : j / 5 < ps.length := by omega
    have hi5 : j % 5 < (ps[j / 5]?.getD pin0).vals.length := by show j % 5 < 5; omega
    have hv := flat_get ps (j / 5) (j % 5) _ hk5 (List.getElem?_eq_getElem hi5)
    rw [show j / 5 * 5 + j % 5 = j by omega, hu] at hv
    injection hv with hv
    rw [Addr.add_lit, show off + j = off + j / 5 * 5 + j % 5 by omega, hv]
    exact hc (j / 5) (by rw [← h.length]; exact hk5) (j % 5) _ (List.getElem?_eq_getElem hi5)
/-- A store of new memory was answered. -/
def CopiedS (s : StoreD) (w : World) (e : Ending) (w' : World) : Prop :=
  ∃ a1 c1 a2 c2, e = .returned (S3 a1 s.ps.length c1 a2 s.d.rs.length c2 s.d.s) ∧ SOwn w' w.heap.size w'.heap.size (.slice a1 s.ps.length c1) (.slice a2 s.d.rs.length c2) s ∧ Below w.heap.size w w'
set_option maxHeartbeats 1000000 in
theorem l9Copy_any (a1 : Option Addr) (n1 c1 : Nat) (a2 : Option Addr) (n2 c2 B : Nat) (s : StoreD) (w : World) (hR : SRow w B a1 n1 c1 a2 n2 c2 s) (hB : B ≤ w.heap.size) (hn4 : s.ps.length ≤ 4) (h12 : s.d.rs.length ≤ 12) (hl : s.d.rs.any longR = false) :
    Calls Tryz.prog 79 #[S3 a1 n1 c1 a2 n2 c2 s.d.s] w (CopiedS s w) := by
  obtain ⟨i0, hi0, hz0, hz1, hz2⟩ := info_parts pin_info
  have b0 := bal (bal (Below.refl _ w) (.cells #[.slice a1 n1 c1, .slice a2 n2 c2, .int .i64 s.d.s] 29)) (.cells #[.slice none 0 0, .slice none 0 0, .int .i64 0] 29)
  have A0 := (At.new w (S3L a1 n1 c1 a2 n2 c2 s.d.s) 29).alloc (.cells #[.slice none 0 0, .slice none 0 0, .int .i64 0] 29)
  have R0 := At.new (w.alloc (.cells #[.slice a1 n1 c1, .slice a2 n2 c2, .int .i64 s.d.s] 29)) [.slice none 0 0, .slice none 0 0, .int .i64 0] 29
  rw [World.size_alloc] at R0
  have hln := hR.ps.length
  have hrn := hR.rs.length
  have HPS := Lib.hid (fun (w' : World) (h : Below w.heap.size w w') => (hR.ps.below (h.mono hB)).src Tryz.underlying24)
  have CD := Lib.hid (fun (w' : World) (h : Below w.heap.size w w') => l9CopyDisk_any a2 n2 c2 B s.d.rs s.d.s w' (hR.rs.below (h.mono hB)) (Nat.le_trans hB h.size) h12 hl)
  have HNM := Lib.hid hR.ps.names
  have HW := Lib.hid hR.wf
  have H0 := Lib.hid (show Hold w w.heap.size (S3L a1 n1 c1 a2 n2 c2 s.d.s) (((w.alloc (.cells #[.slice a1 n1 c1, .slice a2 n2 c2, .int .i64 s.d.s] 29)).alloc (.cells #[.slice none 0 0, .slice none 0 0, .int .i64 0] 29)).drew) from ⟨b0.drew, A0.on (bdrew _)⟩)
  have HR0 := Lib.hid (show At (w.heap.size + 1) [.slice none 0 0, .slice none 0 0, .int .i64 0] (((w.alloc (.cells #[.slice a1 n1 c1, .slice a2 n2 c2, .int .i64 s.d.s] 29)).alloc (.cells #[.slice none 0 0, .slice none 0 0, .int .i64 0] 29)).drew) from R0.on (bdrew _))
  have hn1 : n1 ≤ 4 := by rw [← hln]; exact hn4
  have HLN := Lib.hid hln
  have HRN := Lib.hid hrn
  clear hR hn4 h12 hl A0 R0 b0 hln hrn
  go_enter Tryz.func79, Tryz.ntmps79
  go_wp2_with fail
  refine wp_region_line (Hold w w.heap.size (S3L a1 n1 c1 a2 n2 c2 s.d.s)) [(1, true), (2, true), (4, true), (5, true), (0, false), (3, false), (6, false), (7, true), (8, false)] (by kernel_rfl) (by kernel_rfl) (fun _ _ d _ _ h => by cases d <;> exact h) H0.out ?_
  have hst := H0.out
  have inst : Nonempty (Of (Hold w w.heap.size (S3L a1 n1 c1 a2 n2 c2 s.d.s))) := ⟨⟨_, hst⟩⟩
  have u0 := hold_cell (W := w) (g := w.heap.size) (cs := S3L a1 n1 c1 a2 n2 c2 s.d.s) 0 _ rfl
  have u1 := hold_cell (W := w) (g := w.heap.size) (cs := S3L a1 n1 c1 a2 n2 c2 s.d.s) 1 _ rfl
  have u2 := hold_cell (W := w) (g := w.heap.size) (cs := S3L a1 n1 c1 a2 n2 c2 s.d.s) 2 _ rfl
  clear H0
  generalize ((w.alloc (.cells #[.slice a1 n1 c1, .slice a2 n2 c2, .int .i64 s.d.s] 29)).alloc (.cells #[.slice none 0 0, .slice none 0 0, .int .i64 0] 29)).drew = V1 at *
  iterate 4 (refine line_read rfl (by kernel_rfl) (fun K hK => ?_); go_big_quiet_op; refine hK _ ?_; clear hK K)
  clear u0 u1 u2
  refine line_alone rfl (by kernel_rfl) (fun K hK => ?_)
  go_big_op
  have b2 := bal (Below.refl _ V1) (.cells #[] 31)
  have hst2 := hst.on b2
  have O2 := Lib.hid (show Own (V1.alloc (.cells #[] 31)) V1.heap.size 5 (.slice (some ⟨V1.heap.size, 0, none⟩) 0 0) 0 [] from Own.made V1 #[] 31 0 (Nat.le_refl _) (Nat.zero_le _) rfl)
  have S2 := Lib.hid (HPS.out _ hst2.bel)
  have R2 := Lib.hid (HR0.out.on b2)
  have hlo : w.heap.size + 1 < V1.heap.size := HR0.out.lt (by simp)
  refine hK _ _ hst2 ?_
  clear hK K hst b2 HPS HR0
  have hst := hst2
  clear hst2
  have hsz2 : V1.heap.size ≤ (V1.alloc (.cells #[] 31)).heap.size := by simp
  generalize V1.alloc (.cells #[] 31) = V2 at *
  generalize V1.heap.size = lo at *
  refine line_alone rfl (by kernel_rfl) (fun K hK => ?_)
  refine wp_append_src _ (.tmp 3) (.tmp 5) 24 24 rfl lo 31 i0 (P5 pin0) 5 48 Tryz.underlying24 hi0 hz0 hz1 hz2 rfl _ 0 [] rfl O2.out _ n1 (flat s.ps) rfl S2.out (by simp only [maxLen]; omega) (by omega) hsz2 (fun v3 w3 hown hgrow hat => ?_)
  have hst2 : Hold w w.heap.size (S3L a1 n1 c1 a2 n2 c2 s.d.s) w3 := ⟨hst.bel.grown hgrow hst.bel.size (fun k e => by have := (Own.lt O2.out k e).1; omega), hst.at'.kept hgrow (fun e => by have := (Own.lt O2.out _ e.symm).1; omega)⟩
  have R3 := Lib.hid (R2.out.kept hgrow (fun e => by have := (Own.lt O2.out _ e.symm).1; omega))
  have O3 : OwnP w3 lo v3 s.ps := by
    unfold OwnP
    rw [HLN.out]
    simpa using hown
  obtain ⟨a3, c3, hv3, -⟩ := O3.form
  subst hv3
  have HO3 := Lib.hid O3
  have hlo3 : lo ≤ w3.heap.size := Nat.le_trans hsz2 hgrow.size
  refine hK _ _ hst2 ?_
  clear hK K hst hown hgrow hat O2 S2 R2 O3 hsz2
  have hst := hst2
  clear hst2
  simp only [Act.put, List.setIfInBounds_toArray, List.set_cons_zero, List.set_cons_succ]
  refine line_alone rfl (by kernel_rfl) (fun K hK => ?_)
  refine call_any (args := #[.agg #[.slice a2 n2 c2, .int .i64 s.d.s]]) rfl (by kernel_rfl) (by kernel_rfl) (CD.out _ hst.bel) ?_
  rintro e x6 ⟨a6, n6, c6, xs, rfl, G6, b6⟩
  have hst2 := hst.on b6
  have R6 := R3.out.on b6
  have SO : SOwn x6 lo x6.heap.size (.slice a3 s.ps.length c3) (.slice a6 n6 c6) s :=
    SOwn.mk' (W := w) (mid := w3.heap.size) (HO3.out.below b6) hlo3 (fun g hg => (Own.lt HO3.out g hg).2) G6 b6.size HNM.out HW.out
  obtain ⟨-, hn6⟩ := SO.len
  subst hn6
  have HSO := Lib.hid SO
  refine ⟨_, rfl, hK _ _ hst2 ?_⟩
  clear hK K hst b6 G6 SO R3 HO3 CD
  have hst := hst2
  clear hst2
  simp only [Act.put, List.setIfInBounds_toArray, List.set_cons_zero, List.set_cons_succ]
  refine line_readv (v := .agg #[.slice a3 s.ps.length c3, .slice a6 s.d.rs.length c6, .int .i64 s.d.s]) rfl (by kernel_rfl) (fun _ => by kernel_rfl) ?_
  simp only [Act.put, List.setIfInBounds_toArray, List.set_cons_zero, List.set_cons_succ]
  have q0 := R6.cell 0 _ rfl
  have q1 := R6.cell 1 _ rfl
  have q2 := R6.cell 2 _ rfl
  have f0 := R6.free 0 _ rfl
  have f1 := R6.free 1 _ rfl
  have f2 := R6.free 2 _ rfl
  refine line_alone rfl (by kernel_rfl) (fun K hK => ?_)
  go_big_op
  refine hK _ _ ((by (iterate 3 (refine Hold.setB ?_ (by dsimp only; omega) (by dsimp only; omega) _)); exact hst)) ?_
  clear hK K
  refine line_nil ?_
  have hS := ((HSO.out.setCell (p := ⟨w.heap.size + 1, 0, none⟩) (.inl hlo) (.slice a3 s.ps.length c3)).setCell (p := ⟨w.heap.size + 1, 1, none⟩) (.inl hlo) (.slice a6 s.d.rs.length c6)).setCell (p := ⟨w.heap.size + 1, 2, none⟩) (.inl hlo) (.int .i64 s.d.s)
  have hS2 := Lib.hid ((hS.less (show w.heap.size ≤ lo by omega)).more hS.top.2 (Nat.le_refl _))
  have HB := Lib.hid hst.bel
  clear hst inst R6 hS HSO
  go_wp2_with fail
  refine bodyPost_ret (v := S3 a3 s.ps.length c3 a6 s.d.rs.length c6 s.d.s) (by simp [results, Tryz.results79, go_sem, S3, q0, q1, q2]) rfl ⟨a3, c3, a6, c6, rfl, hS2.out, ?_⟩
  exact (by (iterate 3 (refine bset ?_ (by dsimp only; omega) _)); exact HB.out)
end Go.Proofs.YtefgimpodhjdpaaGreatDoor
