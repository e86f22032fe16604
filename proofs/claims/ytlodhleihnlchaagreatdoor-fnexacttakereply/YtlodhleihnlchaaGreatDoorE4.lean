/- Texts of this seat that several laws rest on, laid into one. Conditions: as each theorem states. -/
import Derived.Test.YtlodhleihnlchaaGreatDoorE0
import Derived.Test.YtlodhleihnlchaaGreatDoorE1
import Derived.Test.YtlodhleihnlchaaGreatDoorE2
import Derived.Test.YtlodhleihnlchaaGreatDoorE3
import Derived.LaidEql
import Derived.Stop.Asserts
import Derived.RowKitTokens
import Derived.Laws.IdiomCopy
namespace Go.Proofs.YtlodhleihnlchaaGreatDoor
set_option linter.unusedVariables false

def masterN (sh he : Int) : Int := M.tagL M.masterS [sh, he]
def finN (sh he : Int) : Int := M.tagL M.finishS [masterN sh he]
def upN (sh he : Int) : Int := M.tagL M.upS [masterN sh he]
def downN (sh he : Int) : Int := M.tagL M.downS [masterN sh he]
def verN (he : Int) : Int := M.tagL M.verifyS [he]
theorem tag_sum11 (s : ByteArray) (zs : List Int) : M.sumB (M.tagL s zs) = true := by
  have := M.tagL_bd s zs
  simp only [M.sumB, decide_eq_true_eq]
  omega
theorem masterN_sum (sh he : Int) : M.sumB (masterN sh he) = true := tag_sum11 _ _
theorem verN_sum (he : Int) : M.sumB (verN he) = true := tag_sum11 _ _
theorem heardL_sum (zss : List (List Int)) : M.sumB (M.heardL zss) = true := tag_sum11 _ _

structure TakD where
  c : Int
  r : Int
  s : Int
  p : Int
  x : Int
  y : Int
  f : Int
  u : Int
  d : Int
  h : Int
  k : Int
def tak0 (c : Int) : TakD := ⟨c, 0, 0, 0, 0, 0, 0, 0, 0, 0, 0⟩
def cliF (k r s : Int) (n : ByteArray) : Int := if inB k 1 1438 then (if helF n.data.toList r s = 0 then (if M.pubN k = s then 0 else 1) else helF n.data.toList r s) else 3
theorem cliF_sec {k r s : Int} {n : ByteArray} (h : inB k 1 1438 = false) : cliF k r s n = 3 := by simp [cliF, h]
theorem cliF_hel {k r s : Int} {n : ByteArray} (h : inB k 1 1438 = true) (h2 : ¬ helF n.data.toList r s = 0) : cliF k r s n = helF n.data.toList r s := by simp [cliF, h, h2]
theorem cliF_form {k r s : Int} {n : ByteArray} (h : inB k 1 1438 = true) (h2 : helF n.data.toList r s = 0) (h3 : ¬ M.pubN k = s) : cliF k r s n = 1 := by simp [cliF, h, h2, h3]
theorem cliF_yes {k r s : Int} {n : ByteArray} (h : inB k 1 1438 = true) (h2 : helF n.data.toList r s = 0) (h3 : M.pubN k = s) : cliF k r s n = 0 := by simp [cliF, h, h2, h3]
theorem cliF_zero {k r s : Int} {n : ByteArray} (h : cliF k r s n = 0) : inB k 1 1438 = true ∧ helF n.data.toList r s = 0 ∧ M.pubN k = s := by
  cases h1 : inB k 1 1438
  · rw [cliF_sec h1] at h
    omega
  · by_cases h2 : helF n.data.toList r s = 0
    · by_cases h3 : M.pubN k = s
      · exact ⟨rfl, h2, h3⟩
      · rw [cliF_form h1 h2 h3] at h
        omega
    · rw [cliF_hel h1 h2] at h
      exact absurd h h2

def heN (n : ByteArray) (r s rd sh pb : Int) : Int := M.heardL [packH n r s, frontR rd sh pb]
def shN (k s : Int) : Int := M.pw s k.toNat 2879
def ansB (i s rd : Int) : Bool := inB i 1 1438 && inB s 1 1438 && M.sumB rd
def ansH (i s rd : Int) (n : ByteArray) (r0 s0 : Int) : Int := heN n r0 s0 rd (M.pubN s) (M.pubN i)
def ansD (i s rd : Int) (n : ByteArray) (r0 s0 : Int) : TakD :=
  ⟨0, rd, M.pubN s, M.pubN i, M.sigPt i (verN (ansH i s rd n r0 s0)), M.sigPr i (verN (ansH i s rd n r0 s0)), finN (shN s s0) (ansH i s rd n r0 s0), upN (shN s s0) (ansH i s rd n r0 s0), downN (shN s s0) (ansH i s rd n r0 s0), ansH i s rd n r0 s0, M.pubN i⟩
def ansT (i s rd : Int) (n : ByteArray) (r0 s0 : Int) : TakD := if ansB i s rd then (if helF n.data.toList r0 s0 = 0 then ansD i s rd n r0 s0 else tak0 (helF n.data.toList r0 s0)) else tak0 3
theorem ansT_no {i s rd : Int} {n : ByteArray} {r0 s0 : Int} (h : ansB i s rd = false) : ansT i s rd n r0 s0 = tak0 3 := by simp [ansT, h]
theorem ansT_hel {i s rd : Int} {n : ByteArray} {r0 s0 : Int} (h : ansB i s rd = true) (h2 : ¬ helF n.data.toList r0 s0 = 0) : ansT i s rd n r0 s0 = tak0 (helF n.data.toList r0 s0) := by simp [ansT, h, h2]
theorem ansT_yes {i s rd : Int} {n : ByteArray} {r0 s0 : Int} (h : ansB i s rd = true) (h2 : helF n.data.toList r0 s0 = 0) : ansT i s rd n r0 s0 = ansD i s rd n r0 s0 := by simp [ansT, h, h2]

def takK (k : Int) (n : ByteArray) (r0 s0 r s p x y f : Int) : TakD :=
  ⟨0, r, s, p, x, y, f, upN (shN k s) (heN n r0 s0 r s p), downN (shN k s) (heN n r0 s0 r s p), heN n r0 s0 r s p, p⟩
def takC (k r0 s0 : Int) (n : ByteArray) (r s p x y f : Int) : Int :=
  if cliF k r0 s0 n = 0 then (if repF r s p x y f = 0 then (if M.checkB p (verN (heN n r0 s0 r s p)) x y then (if f = finN (shN k s) (heN n r0 s0 r s p) then 0 else 8) else 9) else repF r s p x y f) else cliF k r0 s0 n
def takT (k r0 s0 : Int) (n : ByteArray) (r s p x y f : Int) : TakD := if takC k r0 s0 n r s p x y f = 0 then takK k n r0 s0 r s p x y f else tak0 (takC k r0 s0 n r s p x y f)
section
variable {k r0 s0 : Int} {n : ByteArray} {r s p x y f : Int}
theorem takC_cli (h : ¬ cliF k r0 s0 n = 0) : takC k r0 s0 n r s p x y f = cliF k r0 s0 n := by simp [takC, h]
theorem takC_rep (h : cliF k r0 s0 n = 0) (h2 : ¬ repF r s p x y f = 0) : takC k r0 s0 n r s p x y f = repF r s p x y f := by simp [takC, h, h2]
theorem takC_sign (h : cliF k r0 s0 n = 0) (h2 : repF r s p x y f = 0) (h3 : M.checkB p (verN (heN n r0 s0 r s p)) x y = false) : takC k r0 s0 n r s p x y f = 9 := by simp [takC, h, h2, h3]
theorem takC_fin (h : cliF k r0 s0 n = 0) (h2 : repF r s p x y f = 0) (h3 : M.checkB p (verN (heN n r0 s0 r s p)) x y = true) (h4 : ¬ f = finN (shN k s) (heN n r0 s0 r s p)) : takC k r0 s0 n r s p x y f = 8 := by
  unfold takC
  rw [if_pos h, if_pos h2, if_pos h3, if_neg h4]
theorem takC_yes (h : cliF k r0 s0 n = 0) (h2 : repF r s p x y f = 0) (h3 : M.checkB p (verN (heN n r0 s0 r s p)) x y = true) (h4 : f = finN (shN k s) (heN n r0 s0 r s p)) : takC k r0 s0 n r s p x y f = 0 := by
  unfold takC
  rw [if_pos h, if_pos h2, if_pos h3, if_pos h4]
theorem takT_no (h : ¬ takC k r0 s0 n r s p x y f = 0) : takT k r0 s0 n r s p x y f = tak0 (takC k r0 s0 n r s p x y f) := by simp [takT, h]
theorem takT_yes (h : takC k r0 s0 n r s p x y f = 0) : takT k r0 s0 n r s p x y f = takK k n r0 s0 r s p x y f := by simp [takT, h]
end

theorem pub_of {k : Int} (h : inB k 1 1438 = true) : pubB (M.pubN k) = true := by
  simp only [inB, decide_eq_true_eq] at h
  exact M.pub_pow h.1 h.2
end Go.Proofs.YtlodhleihnlchaaGreatDoor
namespace Go.Proofs.YtlodhleihnlchaaGreatDoor
open Go.RowKit
set_option maxRecDepth 100000
set_option linter.unusedVariables false

abbrev C5 (c k r s : Int) (n : ByteArray) : Value := .agg #[.int .i64 c, .int .i64 k, .int .i64 r, .int .i64 s, .string n]
abbrev K4 (u d h k : Int) : Value := .agg #[.int .i64 u, .int .i64 d, .int .i64 h, .int .i64 k]
abbrev KL4 (u d h k : Int) : List Value := [.int .i64 u, .int .i64 d, .int .i64 h, .int .i64 k]
abbrev T11 (t : TakD) : Value := .agg #[.int .i64 t.c, .int .i64 t.r, .int .i64 t.s, .int .i64 t.p, .int .i64 t.x, .int .i64 t.y, .int .i64 t.f, .int .i64 t.u, .int .i64 t.d, .int .i64 t.h, .int .i64 t.k]
theorem toClient_any (k r s : Int) (n : ByteArray) (w : World) :
    Calls Tryz.prog 88 #[H4 k r s n] w fun e w' => e = .returned (H4 k r s n) ∧ Below w.heap.size w w' := by
  have b0 := bal (bal (bal (Below.refl _ w) (.cells #[.int .i64 k, .int .i64 r, .int .i64 s, .string n] 145)) (.cells #[.int .i64 0, .int .i64 0, .int .i64 0, .string { data := #[] }] 103)) (.cells #[.int .i64 k, .int .i64 0, .int .i64 0, .string { data := #[] }] 103)
  have A0 := ((At.new w (HL4 k r s n) 145).alloc (.cells #[.int .i64 0, .int .i64 0, .int .i64 0, .string { data := #[] }] 103)).alloc (.cells #[.int .i64 k, .int .i64 0, .int .i64 0, .string { data := #[] }] 103)
  have A1 := (At.new (w.alloc (.cells #[.int .i64 k, .int .i64 r, .int .i64 s, .string n] 145)) (HL4 0 0 0 { data := #[] }) 103).alloc (.cells #[.int .i64 k, .int .i64 0, .int .i64 0, .string { data := #[] }] 103)
  have A2 := At.new ((w.alloc (.cells #[.int .i64 k, .int .i64 r, .int .i64 s, .string n] 145)).alloc (.cells #[.int .i64 0, .int .i64 0, .int .i64 0, .string { data := #[] }] 103)) (HL4 k 0 0 { data := #[] }) 103
  simp only [World.size_alloc] at A0 A1 A2
  go_enter Tryz.func88, Tryz.ntmps88
  go_wp2_with fail
  generalize ((w.alloc (.cells #[.int .i64 k, .int .i64 r, .int .i64 s, .string n] 145)).alloc (.cells #[.int .i64 0, .int .i64 0, .int .i64 0, .string { data := #[] }] 103)).alloc (.cells #[.int .i64 k, .int .i64 0, .int .i64 0, .string { data := #[] }] 103) = W0 at *
  refine (toHello_any r s n _).mono ?_
  rintro e u1 ⟨rfl, b1⟩
  have hb := btr b0 b1
  have d0 := (A1.on b1).cell 0 _ rfl
  have d1 := (A1.on b1).cell 1 _ rfl
  have d2 := (A1.on b1).cell 2 _ rfl
  have d3 := (A1.on b1).cell 3 _ rfl
  have z0 := (A1.on b1).free 0 _ rfl
  have z1 := (A1.on b1).free 1 _ rfl
  have z2 := (A1.on b1).free 2 _ rfl
  have z3 := (A1.on b1).free 3 _ rfl
  have q0 := (A2.on b1).cell 0 _ rfl
  have q1 := (A2.on b1).cell 1 _ rfl
  have q2 := (A2.on b1).cell 2 _ rfl
  have q3 := (A2.on b1).cell 3 _ rfl
  have v0 := (A2.on b1).free 0 _ rfl
  have v1 := (A2.on b1).free 1 _ rfl
  have v2 := (A2.on b1).free 2 _ rfl
  have v3 := (A2.on b1).free 3 _ rfl
  clear A0 A1 A2 b0 b1
  go_wp2_with fail
  refine bodyPost_ret (v := H4 k r s n) (by simp [results, Tryz.results88, go_sem, d0, d1, d2, d3]) rfl ⟨rfl, ?_⟩
  exact (by (iterate 7 (refine bset ?_ (by dsimp only; omega) _)); exact hb)
theorem szClient_any (k r s : Int) (n : ByteArray) (l : Int) (w : World) (hn : n.size ≤ maxLen) (l0 : 0 ≤ l) (l1 : l ≤ 1048576) :
    Calls Tryz.prog 87 #[H4 k r s n, .int .i64 l] w fun e w' => e = .returned (.int .i64 (if l < n.size then -1 else l - n.size)) ∧ Below w.heap.size w w' := by
  have b0 := bal (Below.refl _ w) (.cells #[.int .i64 k, .int .i64 r, .int .i64 s, .string n] 145)
  have F := fun w => szHello_any r s n l w hn l0 l1
  unfold maxLen at hn
  by_cases h : l < n.size
  · simp only [if_pos h] at F ⊢
    go_enter Tryz.func87, Tryz.ntmps87
    go_wp2_with fail
    refine (F _).mono ?_
    rintro e u1 ⟨rfl, b1⟩
    have hb := btr b0 b1
    go_wp2_with fail
    go_ret
    exact ⟨rfl, hb⟩
  · simp only [if_neg h] at F ⊢
    have h' : ¬ l - n.size < 0 := by omega
    go_enter Tryz.func87, Tryz.ntmps87
    go_wp2_with fail
    refine (F _).mono ?_
    rintro e u1 ⟨rfl, b1⟩
    have hb := btr b0 b1
    go_wp2_with fail
    go_ret
    exact ⟨rfl, hb⟩
end Go.Proofs.YtlodhleihnlchaaGreatDoor
namespace Go.Proofs.YtlodhleihnlchaaGreatDoor
open Go.RowKit Go.Extern.Stop Go.Stop Go.Extern

structure ErrT (w : World) : Prop where
  cell : w.cell? ⟨3, 0, none⟩ = some (.iface 384 (.agg #[.pointer (some ⟨8, 160, none⟩)]))
theorem ErrT.on {w w' : World} (h : ErrT w) (hb : Below w.heap.size w w') : ErrT w' := ⟨cell_keep hb h.cell⟩
theorem ErrT.grew {w w' : World} {row : Option Nat} (h : ErrT w) (hg : w.grownBy w' row) (hr : ∀ k, row = some k → 3 < k) : ErrT w' :=
  ⟨hg.cell h.cell (fun e => by have := hr _ e.symm; exact absurd this (Nat.lt_irrefl _))⟩
theorem ErrT.lt {w : World} (h : ErrT w) : 3 < w.heap.size := cell_lt h.cell

abbrev misV (c : Int) (s : ByteArray) : Value := .iface 315 (.agg #[.int .i64 c, .string s])
abbrev hdl (t : Nat) : Value := .pointer (some ⟨8, t, none⟩)
abbrev rval (t : Nat) (a : Addr) (f : Int) : Value := .agg #[hdl t, .pointer (some a), .int .u64 f]

theorem as_nil (t : Value) (w : World) :
    Calls Tryz.prog 262 #[.nilIface, t] w fun e w' => e = .returned (.bool false) ∧ w = w' := by
  go_enter Tryz.func262, Tryz.ntmps262
  go_wp2
  go_ret
  exact ⟨rfl, rfl⟩

theorem rl_valueOfP (t : Addr) (w : World) : (ReflectliteValue.unpack (.iface 322 (.pointer (some t)))).run Tryz.prog w
    = .ok (rval 322 ⟨w.heap.size, 0, none⟩ 150) (w.alloc (.cells #[.pointer (some t)] 322)) := by kernel_rfl
theorem rl_typeP (a : Addr) (w : World) : (ReflectliteValue.methodAny (ReflectliteValue.valueError "reflectlite.Value.Type" 0) (fun t _ _ _ => ReflectliteType.toType t) #[rval 322 a 150]).run Tryz.prog w
    = .ok (.iface 384 (.agg #[hdl 322])) w := by kernel_rfl
theorem rl_mKind (h : Value) (w : World) : (Go.method 566 384 (.agg #[h]) "Kind").run Tryz.prog w = .ok (360, h) w := by kernel_rfl
theorem rl_mElem (h : Value) (w : World) : (Go.method 566 384 (.agg #[h]) "Elem").run Tryz.prog w = .ok (375, .agg #[h]) w := by kernel_rfl
theorem rl_mImpl (h : Value) (w : World) : (Go.method 566 384 (.agg #[h]) "Implements").run Tryz.prog w = .ok (376, .agg #[h]) w := by kernel_rfl
theorem rl_mAsgn (h : Value) (w : World) : (Go.method 566 384 (.agg #[h]) "AssignableTo").run Tryz.prog w = .ok (373, .agg #[h]) w := by kernel_rfl
theorem rl_kindP (w : World) : ((ReflectliteType.abiMethod fun t => (fun a : Nat => Value.int IntKind.u8 (a : Int)) <$> Rtype.kind t) #[hdl 322]).run Tryz.prog w = .ok (.int .u8 22) w := by kernel_rfl
theorem rl_kindM (w : World) : ((ReflectliteType.abiMethod fun t => (fun a : Nat => Value.int IntKind.u8 (a : Int)) <$> Rtype.kind t) #[hdl 315]).run Tryz.prog w = .ok (.int .u8 25) w := by kernel_rfl
theorem rl_elemP (w : World) : (ReflectliteType.method ReflectliteType.elem #[.agg #[hdl 322]]).run Tryz.prog w = .ok (.iface 384 (.agg #[hdl 315])) w := by kernel_rfl
theorem rl_implM (w : World) : (ReflectliteType.relation "Implements" ReflectliteType.implements_ #[.agg #[hdl 315], .iface 384 (.agg #[hdl 160])]).run Tryz.prog w = .ok (.bool true) w := by kernel_rfl
theorem rl_typeOfM (v : Value) (w : World) : (ReflectliteType.typeOf #[.iface 315 v]).run Tryz.prog w = .ok (.iface 384 (.agg #[hdl 315])) w := by kernel_rfl
theorem rl_asgnM (w : World) : (ReflectliteType.relation "AssignableTo" ReflectliteType.assignableTo #[.agg #[hdl 315], .iface 384 (.agg #[hdl 315])]).run Tryz.prog w = .ok (.bool true) w := by kernel_rfl
theorem rl_valueOfM (c : Int) (s : ByteArray) (w : World) : (ReflectliteValue.unpack (misV c s)).run Tryz.prog w
    = .ok (rval 315 ⟨w.heap.size, 0, none⟩ 153) (w.alloc (.cells #[.int .i64 c, .string s] 315)) := by kernel_rfl

theorem rl_partsP (a : Addr) (w : World) : (ReflectliteValue.parts (rval 322 a 150)).run Tryz.prog w = .ok (some (322, a, 150)) w := by kernel_rfl
theorem rl_method {P : Program} {w : World} {z : Sem Value} {f : TypeId → Addr → Nat → Nat → Sem Value} {v : Value} {t : TypeId} {a : Addr} {k : Nat} (h : (ReflectliteValue.parts v).run P w = .ok (some (t, a, k)) w) :
    (ReflectliteValue.method z f #[v]).run P w = (f t a k (k % 32)).run P w := by
  rw [show ReflectliteValue.method z f #[v] = ReflectliteValue.parts v >>= _ from rfl]
  simp only [Sem.run_bind, h, Result.andThen]
theorem rl_isNilP (a p : Addr) (W : World) (ha : W.cell? a = some (.pointer (some p))) :
    (ReflectliteValue.method (ReflectliteValue.valueError "reflectlite.Value.IsNil" 0) ReflectliteValue.isNil #[rval 322 a 150]).run Tryz.prog W = .ok (.bool false) W := by
  rw [rl_method (rl_partsP _ _)]
  simp [ReflectliteValue.isNil, loadVar, isAgg, underlying, Tryz.underlying322, ha, Result.andThen]
theorem rl_elemOfP (w : World) : (Rtype.elem? 322).run Tryz.prog w = .ok (some 315) w := by kernel_rfl
theorem rl_mkM (p : Addr) (w : World) : (ReflectliteValue.mk 315 p ReflectliteValue.flagAddr).run Tryz.prog w = .ok (rval 315 p 409) w := by kernel_rfl
theorem rl_elemV (a p : Addr) (W : World) (ha : W.cell? a = some (.pointer (some p))) :
    (ReflectliteValue.method (ReflectliteValue.valueError "reflectlite.Value.Elem" 0) ReflectliteValue.elem #[rval 322 a 150]).run Tryz.prog W = .ok (rval 315 p 409) W := by
  rw [rl_method (rl_partsP _ _)]
  simp [ReflectliteValue.elem, loadVar, isAgg, underlying, Tryz.underlying322, ha, Result.andThen, rl_elemOfP, rl_mkM]
theorem rl_partsMa (a : Addr) (w : World) : (ReflectliteValue.parts (rval 315 a 409)).run Tryz.prog w = .ok (some (315, a, 409)) w := by kernel_rfl
theorem rl_partsM (a : Addr) (w : World) : (ReflectliteValue.parts (rval 315 a 153)).run Tryz.prog w = .ok (some (315, a, 153)) w := by kernel_rfl
theorem rl_directM (w : World) : (Rtype.directlyAssignable 315 315).run Tryz.prog w = .ok true w := by kernel_rfl
theorem rl_setM (tb b : Nat) (c : Int) (s : ByteArray) (o0 o1 : Value) (W : World) (b0 : W.cell? ⟨b, 0, none⟩ = some (.int .i64 c)) (b1 : W.cell? ⟨b, 1, none⟩ = some (.string s))
    (t0 : W.cell? ⟨tb, 0, none⟩ = some o0) (t1 : W.cell? ⟨tb, 1, none⟩ = some o1) (f0 : W.frozen? ⟨tb, 0, none⟩ = false) (f1 : W.frozen? ⟨tb, 1, none⟩ = false) :
    (ReflectliteValue.set #[rval 315 ⟨tb, 0, none⟩ 409, rval 315 ⟨b, 0, none⟩ 153]).run Tryz.prog W = .ok (.tuple #[]) ((W.setCell ⟨tb, 0, none⟩ (.int .i64 c)).setCell ⟨tb, 1, none⟩ (.string s)) := by
  have hl : (loadCells ⟨b, 0, none⟩ 2).run Tryz.prog W = .ok #[.int .i64 c, .string s] W := by
    have := run_loadCells_list (P := Tryz.prog) (w := W) ⟨b, 0, none⟩ [.int .i64 c, .string s] (fun j v hj => by
      rcases j with _ | _ | j
      · simp at hj; subst hj; exact b0
      · simp at hj; subst hj; exact b1
      · first | (simp at hj; done) | (simp at hj; omega))
    exact this
  generalize hv : rval 315 ⟨tb, 0, none⟩ 409 = v
  generalize hx : rval 315 ⟨b, 0, none⟩ 153 = x
  rw [show ReflectliteValue.set #[v, x] = (ReflectliteValue.parts v >>= fun p => ReflectliteValue.parts x >>= fun q => _) from rfl]
  subst hv; subst hx
  simp only [Sem.run_bind, rl_partsMa, rl_partsM, Result.andThen]
  simp [ReflectliteValue.flagAddr, loadVar, isAgg, underlying, Tryz.underlying315, hl, Result.andThen, rl_directM, storeVar, Value.cells]
  have hst := run_storeCells_cells (P := Tryz.prog) tb 0 [.int .i64 c, .string s] 0 W
    (fun j hj => by
      rcases j with _ | _ | j
      · simp [t0]
      · simp [t1]
      · first | (simp at hj; done) | (simp at hj; omega))
    (fun j hj => by
      rcases j with _ | _ | j
      · exact f0
      · exact f1
      · first | (simp at hj; done) | (simp at hj; omega))
    (fun v hv => by
      simp at hv
      rcases hv with rfl | rfl <;> rfl)
  rw [hst]
  rfl
end Go.Proofs.YtlodhleihnlchaaGreatDoor
namespace Go.Proofs.YtlodhleihnlchaaGreatDoor
open Go.RowKit Go.Extern.Stop Go.Stop Go.Extern

set_option maxHeartbeats 4000000 in
set_option maxRecDepth 100000 in
theorem as_hit (c : Int) (s : ByteArray) (tb : Nat) (o0 o1 : Value) (w : World) (hg : ErrT w) (t0 : w.cell? ⟨tb, 0, none⟩ = some o0) (t1 : w.cell? ⟨tb, 1, none⟩ = some o1) (f0 : w.frozen? ⟨tb, 0, none⟩ = false) (f1 : w.frozen? ⟨tb, 1, none⟩ = false) :
    Calls Tryz.prog 262 #[misV c s, .iface 322 (.pointer (some ⟨tb, 0, none⟩))] w fun ev w' => ev = .returned (.bool true) ∧ w'.cell? ⟨tb, 0, none⟩ = some (.int .i64 c) ∧ Below tb w w' := by
  have hV := @run_callFunc_extern Tryz.prog 294 _ (fun args => ReflectliteValue.unpack (args.getD 0 (.tuple #[]))) Tryz.func294 (by kernel_rfl) (by kernel_rfl) (by kernel_rfl) (by kernel_rfl)
  have hT := @run_callFunc_extern Tryz.prog 295 _ (ReflectliteValue.methodAny (ReflectliteValue.valueError "reflectlite.Value.Type" 0) (fun t _ _ _ => ReflectliteType.toType t)) Tryz.func295 (by kernel_rfl) (by kernel_rfl) (by kernel_rfl) (by kernel_rfl)
  have hN := @run_callFunc_extern Tryz.prog 296 _ (ReflectliteValue.method (ReflectliteValue.valueError "reflectlite.Value.IsNil" 0) ReflectliteValue.isNil) Tryz.func296 (by kernel_rfl) (by kernel_rfl) (by kernel_rfl) (by kernel_rfl)
  have hK := @run_callFunc_extern Tryz.prog 360 _ (ReflectliteType.abiMethod fun t => do pure (.int .u8 (← Rtype.kind t))) Tryz.func360 (by kernel_rfl) (by kernel_rfl) (by kernel_rfl) (by kernel_rfl)
  have hE := @run_callFunc_extern Tryz.prog 375 _ (ReflectliteType.method ReflectliteType.elem) Tryz.func375 (by kernel_rfl) (by kernel_rfl) (by kernel_rfl) (by kernel_rfl)
  have hI := @run_callFunc_extern Tryz.prog 376 _ (ReflectliteType.relation "Implements" ReflectliteType.implements_) Tryz.func376 (by kernel_rfl) (by kernel_rfl) (by kernel_rfl) (by kernel_rfl)
  have hO := @run_callFunc_extern Tryz.prog 315 _ ReflectliteType.typeOf Tryz.func315 (by kernel_rfl) (by kernel_rfl) (by kernel_rfl) (by kernel_rfl)
  have hA := @run_callFunc_extern Tryz.prog 373 _ (ReflectliteType.relation "AssignableTo" ReflectliteType.assignableTo) Tryz.func373 (by kernel_rfl) (by kernel_rfl) (by kernel_rfl) (by kernel_rfl)
  have hL := @run_callFunc_extern Tryz.prog 316 _ (ReflectliteValue.method (ReflectliteValue.valueError "reflectlite.Value.Elem" 0) ReflectliteValue.elem) Tryz.func316 (by kernel_rfl) (by kernel_rfl) (by kernel_rfl) (by kernel_rfl)
  have hS := @run_callFunc_extern Tryz.prog 317 _ ReflectliteValue.set Tryz.func317 (by kernel_rfl) (by kernel_rfl) (by kernel_rfl) (by kernel_rfl)
  have tO := rl_typeOfM
  have mA := rl_mAsgn
  have a1 := rl_asgnM
  have v1 := rl_valueOfM
  have v2 := rl_valueOfP
  have ty := rl_typeP
  have mK := rl_mKind
  have mE := rl_mElem
  have mI := rl_mImpl
  have k1 := rl_kindP
  have k2 := rl_kindM
  have e1 := rl_elemP
  have i1 := rl_implM
  have n1 := rl_isNilP ⟨w.heap.size, 0, none⟩ ⟨tb, 0, none⟩ ((w.alloc (.cells #[.pointer (some ⟨tb, 0, none⟩)] 322)).alloc (.cells #[hdl 322, .pointer (some ⟨w.heap.size, 0, none⟩), .int .u64 150] 361)) (by simp)
  have hlt := hg.lt
  have hg2 : ((w.alloc (.cells #[.pointer (some ⟨tb, 0, none⟩)] 322)).alloc (.cells #[hdl 322, .pointer (some ⟨w.heap.size, 0, none⟩), .int .u64 150] 361)).cell? ⟨3, 0, none⟩ = some (.iface 384 (.agg #[.pointer (some ⟨8, 160, none⟩)])) :=
    ((hg.on (bal (Below.refl _ _) _)).on (bal (Below.refl _ _) _)).cell
  have htl : tb < w.heap.size := cell_lt t0
  have el := rl_elemV ⟨w.heap.size, 0, none⟩ ⟨tb, 0, none⟩ (((w.alloc (.cells #[.pointer (some ⟨tb, 0, none⟩)] 322)).alloc (.cells #[hdl 322, .pointer (some ⟨w.heap.size, 0, none⟩), .int .u64 150] 361)).alloc (.cells #[hdl 322, .pointer (some ⟨w.heap.size, 0, none⟩), .int .u64 150] 361)) (by rw [World.cell?_alloc_lt _ _ ⟨w.heap.size, 0, none⟩ (by simp; omega)]; simp)
  have hb4 : Below w.heap.size w ((((w.alloc (.cells #[.pointer (some ⟨tb, 0, none⟩)] 322)).alloc (.cells #[hdl 322, .pointer (some ⟨w.heap.size, 0, none⟩), .int .u64 150] 361)).alloc (.cells #[hdl 322, .pointer (some ⟨w.heap.size, 0, none⟩), .int .u64 150] 361)).alloc (.cells #[.int .i64 c, .string s] 315)) := bal (bal (bal (bal (Below.refl _ _) _) _) _) _
  have q0 := cell_keep hb4 t0
  have q1 := cell_keep hb4 t1
  have p0 := (hb4.frozen (p := ⟨tb, 0, none⟩) htl).trans f0
  have p1 := (hb4.frozen (p := ⟨tb, 1, none⟩) htl).trans f1
  have st := rl_setM tb (w.heap.size + 1 + 1 + 1) c s o0 o1 ((((w.alloc (.cells #[.pointer (some ⟨tb, 0, none⟩)] 322)).alloc (.cells #[hdl 322, .pointer (some ⟨w.heap.size, 0, none⟩), .int .u64 150] 361)).alloc (.cells #[hdl 322, .pointer (some ⟨w.heap.size, 0, none⟩), .int .u64 150] 361)).alloc (.cells #[.int .i64 c, .string s] 315))
    (by rw [World.cell?_alloc_at _ _ _ _ (by simp)]; rfl) (by rw [World.cell?_alloc_at _ _ _ _ (by simp)]; rfl) q0 q1 p0 p1
  have F := Lib.hid (And.intro q0 (And.intro q1 (hb4.mono (Nat.le_of_lt htl))))
  clear hb4 q0 q1 p0 p1 t0 t1 f0 f1 hg
  go_enter Tryz.func262, Tryz.ntmps262
  go_wp2
  refine wp_loop_rounds 1 ?_
  rw [rounds_succ]
  go_wp2
  go_ret
  refine ⟨rfl, ?_, ?_⟩
  · rw [World.cell?_setCell_other _ _ _ _ (fun e => by injection e with _ e2; omega), World.cell?_setCell_same _ _ _ (by rw [F.out.1])]
  · exact (F.out.2.2.setCell (Nat.le_refl _) _).setCell (Nat.le_refl _) _

theorem codeOf_nil (w : World) :
    Calls Tryz.prog 198 #[.nilIface] w fun r w' => r = .returned (.int .i64 0) ∧ Below w.heap.size w w' := by
  go_enter Tryz.func198, Tryz.ntmps198
  go_wp2_with fail
  refine (as_nil _ _).mono ?_
  rintro r w' ⟨rfl, rfl⟩
  go_wp2_with fail
  go_ret
  exact ⟨rfl, bal (Below.refl _ _) _⟩

theorem codeOf_mis (c : Int) (s : ByteArray) (w : World) (hg : ErrT w) :
    Calls Tryz.prog 198 #[misV c s] w fun r w' => r = .returned (.int .i64 c) ∧ Below w.heap.size w w' := by
  have hg1 := fun o => hg.on (bal (Below.refl _ w) o)
  clear hg
  go_enter Tryz.func198, Tryz.ntmps198
  go_wp2_with fail
  refine (as_hit c s w.heap.size (.int .i64 0) (.string { data := #[] }) _ (hg1 _) (by go_simp) (by go_simp) (by go_simp) (by go_simp)).mono ?_
  rintro r w1 ⟨rfl, q0, hb⟩
  have hb2 := Below.trans (bal (Below.refl _ w) _) hb
  clear hb hg1
  go_wp2_with fail
  go_ret
  exact ⟨rfl, hb2⟩
end Go.Proofs.YtlodhleihnlchaaGreatDoor
namespace Go.Proofs.YtlodhleihnlchaaGreatDoor
open Go.RowKit
set_option maxRecDepth 100000

/-! Whole numbers below 2879 as floats, and back. -/
def floatBackB (n : Nat) : Bool := floatToIntVal .f64 (floatOfInt .f64 (n : Int)) .i64 == some (n : Int)
theorem float_all : M.allB floatBackB 2879 = true := by decide +kernel
theorem float_back {n : Int} (h0 : 0 ≤ n) (h1 : n ≤ 2878) : floatToIntVal .f64 (floatOfInt .f64 n) .i64 = some n := by
  obtain ⟨n, rfl⟩ := Int.eq_ofNat_of_zero_le h0
  have h := M.allB_out float_all (k := n) (by omega)
  simp only [floatBackB, beq_iff_eq] at h
  exact h
def pairV (p q : Int) : Value := .complex .f64 (floatOfInt .f64 p) (floatOfInt .f64 q)

theorem point_any (p q : Int) (w : World) (h0 : 0 ≤ p) (h1 : p ≤ 2878) :
    Calls Tryz.prog 181 #[pairV p q] w fun r w' => r = .returned (.int .i64 p) ∧ w = w' := by
  have hf := float_back h0 h1
  have hc := fun (w : World) => run_convert_float_int (P := Tryz.prog) w 316 2 .f64 .i64 (floatOfInt .f64 p) p (by kernel_rfl) Tryz.underlying2 hf
  unfold pairV
  go_enter Tryz.func181, Tryz.ntmps181
  go_wp2_with fail
  go_ret
  simp
theorem proof_any (p q : Int) (w : World) (h0 : 0 ≤ q) (h1 : q ≤ 2878) :
    Calls Tryz.prog 182 #[pairV p q] w fun r w' => r = .returned (.int .i64 q) ∧ w = w' := by
  have hf := float_back h0 h1
  have hc := fun (w : World) => run_convert_float_int (P := Tryz.prog) w 316 2 .f64 .i64 (floatOfInt .f64 q) q (by kernel_rfl) Tryz.underlying2 hf
  unfold pairV
  go_enter Tryz.func182, Tryz.ntmps182
  go_wp2_with fail
  go_ret
  simp

def Misfit (w : World) (r : Ending) (w' : World) : Prop := ∃ s, r = .returned (misV 3 s) ∧ Below w.heap.size w w'
theorem fitSigner_yes (s t : Int) (w : World) (hs : inB s 1 1438 = true) (ht : M.sumB t = true) :
    Calls Tryz.prog 249 #[.int .i64 s, .int .i64 t] w fun r w' => r = .returned .nilIface ∧ w = w' := by
  go_enter Tryz.func249, Tryz.ntmps249
  go_wp2_with fail
  refine (isSecret_any _ _).mono ?_
  rintro r w' ⟨rfl, rfl⟩
  go_wp2_with fail
  refine (isSum_any _ _).mono ?_
  rintro r w' ⟨rfl, rfl⟩
  go_wp2_with fail
  go_ret
  simp
theorem fitSigner_no (s t : Int) (w : World) (h : (inB s 1 1438 && M.sumB t) = false) :
    Calls Tryz.prog 249 #[.int .i64 s, .int .i64 t] w (Misfit w) := by
  cases hs : inB s 1 1438
  · clear h
    go_enter Tryz.func249, Tryz.ntmps249
    go_wp2_with fail
    refine (isSecret_any _ _).mono ?_
    rintro r w' ⟨rfl, rfl⟩
    go_wp2_with fail
    go_ret
    exact ⟨_, rfl, Below.refl _ _⟩
  · have ht : M.sumB t = false := by simpa [hs] using h
    clear h
    go_enter Tryz.func249, Tryz.ntmps249
    go_wp2_with fail
    refine (isSecret_any _ _).mono ?_
    rintro r w' ⟨rfl, rfl⟩
    go_wp2_with fail
    refine (isSum_any _ _).mono ?_
    rintro r w' ⟨rfl, rfl⟩
    go_wp2_with fail
    go_ret
    exact ⟨_, rfl, Below.refl _ _⟩

theorem pairOf_yes (p q : Int) (w : World) (h : M.sigB p q = true) :
    Calls Tryz.prog 179 #[I2 p q] w fun r w' => r = .returned (.tuple #[pairV p q, .nilIface]) ∧ Below w.heap.size w w' := by
  obtain ⟨p0, p1, q0, q1⟩ := M.sigB_bd h
  have hp : pubB p = true := by simp only [M.sigB, Bool.and_eq_true] at h; exact h.1
  unfold pairV
  clear h
  go_enter Tryz.func179, Tryz.ntmps179
  go_wp2_with fail
  refine (implIsPublic_any _ _).mono ?_
  rintro r w1 ⟨rfl, hb_w1⟩
  obtain ⟨hc_w1, hf_w1⟩ := bcell hb_w1
  have hz_w1 := hb_w1.size
  (try simp at hz_w1)
  go_wp2_with fail
  go_ret2
  exact ⟨rfl, btr (bal (Below.refl _ _) _) hb_w1⟩
def PairNo (w : World) (r : Ending) (w' : World) : Prop := ∃ s v, r = .returned (.tuple #[v, misV 3 s]) ∧ Below w.heap.size w w'
theorem pairOf_no (p q : Int) (w : World) (h : M.sigB p q = false) :
    Calls Tryz.prog 179 #[I2 p q] w (PairNo w) := by
  cases hp : pubB p
  · clear h
    go_enter Tryz.func179, Tryz.ntmps179
    go_wp2_with fail
    refine (implIsPublic_any _ _).mono ?_
    rintro r w1 ⟨rfl, hb_w1⟩
    obtain ⟨hc_w1, hf_w1⟩ := bcell hb_w1
    have hz_w1 := hb_w1.size
    (try simp at hz_w1)
    go_wp2_with fail
    go_ret2
    exact ⟨_, _, rfl, btr (bal (Below.refl _ _) _) hb_w1⟩
  · have hq : ¬ (0 ≤ q ∧ q ≤ 1438) := by
      intro hq
      simp only [M.sigB, hp, inB, hq, and_self, decide_true, Bool.and_self] at h
      cases h
    clear h
    by_cases q0 : q < 0
    · go_enter Tryz.func179, Tryz.ntmps179
      go_wp2_with fail
      refine (implIsPublic_any _ _).mono ?_
      rintro r w1 ⟨rfl, hb_w1⟩
      obtain ⟨hc_w1, hf_w1⟩ := bcell hb_w1
      have hz_w1 := hb_w1.size
      (try simp at hz_w1)
      go_wp2_with fail
      go_ret2
      exact ⟨_, _, rfl, btr (bal (Below.refl _ _) _) hb_w1⟩
    · have q1 : 1438 < q := by omega
      clear hq
      go_enter Tryz.func179, Tryz.ntmps179
      go_wp2_with fail
      refine (implIsPublic_any _ _).mono ?_
      rintro r w1 ⟨rfl, hb_w1⟩
      obtain ⟨hc_w1, hf_w1⟩ := bcell hb_w1
      have hz_w1 := hb_w1.size
      (try simp at hz_w1)
      go_wp2_with fail
      go_ret2
      exact ⟨_, _, rfl, btr (bal (Below.refl _ _) _) hb_w1⟩

theorem nonce_any (s t : Int) (w : World) (hL : Labels w) (hs : M.sumB s = true) (ht : M.sumB t = true) :
    Calls Tryz.prog 250 #[.int .i64 s, .int .i64 t] w fun r w' => r = .returned (.int .i64 (M.nonceN s t)) ∧ Below w.heap.size w w' := by
  have hlab := hL.nonceW
  have hlt := hL.lt
  have hR := row_two (w := w) s t 2 hs ht
  have HA := Lib.hid (show [s, t].all M.sumB = true by simp [hs, ht])
  obtain ⟨t0, t1⟩ := M.tagL_bd M.nonceS [s, t]
  unfold M.nonceN
  clear hL hs ht
  go_enter Tryz.func250, Tryz.ntmps250
  go_wp2_with fail
  refine (sumTagged_any _ _ _ _ _ _ _ (by decide) hR (by simp) HA.out (by omega)).mono ?_
  rintro r w2 ⟨rfl, hb2⟩
  have hb := btr (bal (Below.refl _ _) _) hb2
  clear hb2 hR hlab HA
  go_wp2_with fail
  go_ret
  exact ⟨rfl, hb⟩
theorem challenge_any (p q t : Int) (w : World) (hL : Labels w) (hp : M.sumB p = true) (hq : M.sumB q = true) (ht : M.sumB t = true) :
    Calls Tryz.prog 180 #[.int .i64 p, .int .i64 q, .int .i64 t] w fun r w' => r = .returned (.int .i64 (M.chalN p q t)) ∧ Below w.heap.size w w' := by
  have hlab := hL.signW
  have hlt := hL.lt
  have hR := row_three (w := w) p q t 2 hp hq ht
  have HA := Lib.hid (show [p, q, t].all M.sumB = true by simp [hp, hq, ht])
  obtain ⟨t0, t1⟩ := M.tagL_bd M.signS [p, q, t]
  unfold M.chalN
  clear hL hp hq ht
  go_enter Tryz.func180, Tryz.ntmps180
  go_wp2_with fail
  refine (sumTagged_any _ _ _ _ _ _ _ (by decide) hR (by simp) HA.out (by omega)).mono ?_
  rintro r w2 ⟨rfl, hb2⟩
  have hb := btr (bal (Below.refl _ _) _) hb2
  clear hb2 hR hlab HA
  go_wp2_with fail
  go_ret
  exact ⟨rfl, hb⟩

theorem l3Nonce_any (s t : Int) (w : World) (hs : M.sumB s = true) (ht : M.sumB t = true) :
    Calls Tryz.prog 258 #[.int .i64 s, .int .i64 t] w fun r w' => r = .returned (.int .i64 (M.nonceN s t)) ∧ Below w.heap.size w w' := by
  have hR := row_two (w := w) s t 2 hs ht
  have HA := Lib.hid (show [s, t].all M.sumB = true by simp [hs, ht])
  obtain ⟨t0, t1⟩ := M.tagL_bd M.nonceS [s, t]
  unfold M.nonceN
  clear hs ht
  go_enter Tryz.func258, Tryz.ntmps258
  go_wp2_with fail
  refine (l2Tag_any M.nonceS _ _ _ _ _ _ (by decide) hR (by simp) HA.out (by omega)).mono ?_
  rintro r w2 ⟨rfl, hb2⟩
  have hb := btr (bal (Below.refl _ _) _) hb2
  clear hb2 hR HA
  go_wp2_with fail
  go_ret
  exact ⟨rfl, hb⟩
theorem l3Challenge_any (p q t : Int) (w : World) (hp : M.sumB p = true) (hq : M.sumB q = true) (ht : M.sumB t = true) :
    Calls Tryz.prog 259 #[.int .i64 p, .int .i64 q, .int .i64 t] w fun r w' => r = .returned (.int .i64 (M.chalN p q t)) ∧ Below w.heap.size w w' := by
  have hR := row_three (w := w) p q t 2 hp hq ht
  have HA := Lib.hid (show [p, q, t].all M.sumB = true by simp [hp, hq, ht])
  obtain ⟨t0, t1⟩ := M.tagL_bd M.signS [p, q, t]
  unfold M.chalN
  clear hp hq ht
  go_enter Tryz.func259, Tryz.ntmps259
  go_wp2_with fail
  refine (l2Tag_any M.signS _ _ _ _ _ _ (by decide) hR (by simp) HA.out (by omega)).mono ?_
  rintro r w2 ⟨rfl, hb2⟩
  have hb := btr (bal (Below.refl _ _) _) hb2
  clear hb2 hR HA
  go_wp2_with fail
  go_ret
  exact ⟨rfl, hb⟩

theorem l3Fault_at (g o : Nat) (p q : Int) (w : World) (c0 : w.cell? ⟨g, o, none⟩ = some (.int .i64 p)) (c1 : w.cell? ⟨g, o + 1, none⟩ = some (.int .i64 q)) :
    Calls Tryz.prog 199 #[.pointer (some ⟨g, o, none⟩)] w fun r w' => r = .returned (.int .i64 (M.sigF p q)) ∧ w = w' := by
  cases hp : pubB p
  · have E : M.sigF p q = 3 := by simp [M.sigF, M.sigB, hp]
    rw [E]; clear E
    go_enter Tryz.func199, Tryz.ntmps199
    go_wp2_with fail
    refine (l1Public_any _ _).mono ?_
    rintro r w' ⟨rfl, rfl⟩
    go_wp2_with fail
    go_ret
    simp
  cases hq : inB q 0 1438
  · have E : M.sigF p q = 3 := by simp [M.sigF, M.sigB, hq]
    rw [E]; clear E
    go_enter Tryz.func199, Tryz.ntmps199
    go_wp2_with fail
    refine (l1Public_any _ _).mono ?_
    rintro r w' ⟨rfl, rfl⟩
    go_wp2_with fail
    refine (l1In_any _ _ _ _).mono ?_
    rintro r w' ⟨rfl, rfl⟩
    go_wp2_with fail
    go_ret
    simp
  · have E : M.sigF p q = 0 := by simp [M.sigF, M.sigB, hp, hq]
    rw [E]; clear E
    go_enter Tryz.func199, Tryz.ntmps199
    go_wp2_with fail
    refine (l1Public_any _ _).mono ?_
    rintro r w' ⟨rfl, rfl⟩
    go_wp2_with fail
    refine (l1In_any _ _ _ _).mono ?_
    rintro r w' ⟨rfl, rfl⟩
    go_wp2_with fail
    go_ret
    simp
theorem implSignFault_any (p q : Int) (w : World) (hg : ErrT w) :
    Calls Tryz.prog 108 #[I2 p q] w fun r w' => r = .returned (.int .i64 (M.sigF p q)) ∧ Below w.heap.size w w' := by
  cases hB : M.sigB p q
  · have E : M.sigF p q = 3 := by simp [M.sigF, hB]
    rw [E]; clear E
    go_enter Tryz.func108, Tryz.ntmps108
    go_wp2_with fail
    refine (pairOf_no p q _ hB).mono ?_
    rintro r w1 ⟨s, v, rfl, hb0⟩
    have hb1 := btr (bal (Below.refl _ w) _) hb0
    clear hb0
    have hg1 := hg.on hb1
    go_wp2_with fail
    refine (codeOf_mis _ _ _ hg1).mono ?_
    rintro r w2 ⟨rfl, hb_w2⟩
    obtain ⟨hc_w2, hf_w2⟩ := bcell hb_w2
    have hz_w2 := hb_w2.size
    (try simp at hz_w2)
    go_wp2_with fail
    go_ret
    exact ⟨rfl, btr hb1 hb_w2⟩
  · have E : M.sigF p q = 0 := by simp [M.sigF, hB]
    rw [E]; clear E
    go_enter Tryz.func108, Tryz.ntmps108
    go_wp2_with fail
    refine (pairOf_yes p q _ hB).mono ?_
    rintro r w1 ⟨rfl, hb0⟩
    have hb1 := btr (bal (Below.refl _ w) _) hb0
    clear hb0
    go_wp2_with fail
    refine (codeOf_nil _).mono ?_
    rintro r w2 ⟨rfl, hb_w2⟩
    obtain ⟨hc_w2, hf_w2⟩ := bcell hb_w2
    have hz_w2 := hb_w2.size
    (try simp at hz_w2)
    go_wp2_with fail
    go_ret
    exact ⟨rfl, btr hb1 hb_w2⟩

theorem toSigned_any (p q : Int) (w : World) :
    Calls Tryz.prog 184 #[I2 p q] w fun r w' => r = .returned (I2 p q) ∧ Below w.heap.size w w' := by
  go_enter Tryz.func184, Tryz.ntmps184
  go_wp2_with fail
  exact bodyPost_ret (v := I2 p q) (by simp [results, Tryz.results184, go_sem]) rfl ⟨rfl, bal (bal (bal (Below.refl _ _) _) _) _⟩
end Go.Proofs.YtlodhleihnlchaaGreatDoor
namespace Go.Proofs.YtlodhleihnlchaaGreatDoor
open Go.RowKit
set_option maxRecDepth 100000
set_option linter.unusedVariables false

abbrev R6 (r s p x y f : Int) : Value := .agg #[.int .i64 r, .int .i64 s, .int .i64 p, .int .i64 x, .int .i64 y, .int .i64 f]
abbrev RL6 (r s p x y f : Int) : List Value := [.int .i64 r, .int .i64 s, .int .i64 p, .int .i64 x, .int .i64 y, .int .i64 f]
theorem implReplyFault_any (r s p x y f : Int) (w : World) (hg : ErrT w) :
    Calls Tryz.prog 25 #[R6 r s p x y f] w fun e w' => e = .returned (.int .i64 (repF r s p x y f)) ∧ Below w.heap.size w w' := by
  have b0 := bal (Below.refl _ w) (.cells #[.int .i64 r, .int .i64 s, .int .i64 p, .int .i64 x, .int .i64 y, .int .i64 f] 33)
  have A0 := At.new w (RL6 r s p x y f) 33
  have E0 := hg.on b0
  clear hg
  cases hr : M.sumB r
  · rw [repF_no (by rw [hr]; rfl)]
    go_enter Tryz.func25, Tryz.ntmps25
    go_wp2_with fail
    refine (isSum_any _ _).mono ?_
    rintro r w' ⟨rfl, rfl⟩
    go_wp2_with fail
    go_ret
    exact ⟨rfl, b0⟩
  cases hs : pubB s
  · rw [repF_no (by rw [hs]; simp)]
    go_enter Tryz.func25, Tryz.ntmps25
    go_wp2_with fail
    refine (isSum_any _ _).mono ?_
    rintro r w' ⟨rfl, rfl⟩
    go_wp2_with fail
    generalize w.alloc (.cells #[.int .i64 r, .int .i64 s, .int .i64 p, .int .i64 x, .int .i64 y, .int .i64 f] 33) = W0 at *
    refine (implIsPublic_any _ _).mono ?_
    rintro e u1 ⟨rfl, b1⟩
    have B1 := btr b0 b1
    have d0 := (A0.on b1).cell 0 _ rfl
    have d1 := (A0.on b1).cell 1 _ rfl
    have d2 := (A0.on b1).cell 2 _ rfl
    have d3 := (A0.on b1).cell 3 _ rfl
    have d4 := (A0.on b1).cell 4 _ rfl
    have d5 := (A0.on b1).cell 5 _ rfl
    go_wp2_with fail
    go_ret
    exact ⟨rfl, B1⟩
  cases hp : pubB p
  · rw [repF_no (by rw [hp]; simp)]
    go_enter Tryz.func25, Tryz.ntmps25
    go_wp2_with fail
    refine (isSum_any _ _).mono ?_
    rintro r w' ⟨rfl, rfl⟩
    go_wp2_with fail
    generalize w.alloc (.cells #[.int .i64 r, .int .i64 s, .int .i64 p, .int .i64 x, .int .i64 y, .int .i64 f] 33) = W0 at *
    refine (implIsPublic_any _ _).mono ?_
    rintro e u1 ⟨rfl, b1⟩
    have B1 := btr b0 b1
    have d0 := (A0.on b1).cell 0 _ rfl
    have d1 := (A0.on b1).cell 1 _ rfl
    have d2 := (A0.on b1).cell 2 _ rfl
    have d3 := (A0.on b1).cell 3 _ rfl
    have d4 := (A0.on b1).cell 4 _ rfl
    have d5 := (A0.on b1).cell 5 _ rfl
    go_wp2_with fail
    refine (implIsPublic_any _ _).mono ?_
    rintro e u2 ⟨rfl, b2⟩
    have B2 := btr B1 b2
    have b12 := btr b1 b2
    clear d0 d1 d2 d3 d4 d5 b1 b2
    have d0 := (A0.on b12).cell 0 _ rfl
    have d1 := (A0.on b12).cell 1 _ rfl
    have d2 := (A0.on b12).cell 2 _ rfl
    have d3 := (A0.on b12).cell 3 _ rfl
    have d4 := (A0.on b12).cell 4 _ rfl
    have d5 := (A0.on b12).cell 5 _ rfl
    go_wp2_with fail
    go_ret
    exact ⟨rfl, B2⟩
  cases hf : M.sumB f
  · rw [repF_no (by rw [hf]; simp)]
    go_enter Tryz.func25, Tryz.ntmps25
    go_wp2_with fail
    refine (isSum_any _ _).mono ?_
    rintro r w' ⟨rfl, rfl⟩
    go_wp2_with fail
    generalize w.alloc (.cells #[.int .i64 r, .int .i64 s, .int .i64 p, .int .i64 x, .int .i64 y, .int .i64 f] 33) = W0 at *
    refine (implIsPublic_any _ _).mono ?_
    rintro e u1 ⟨rfl, b1⟩
    have B1 := btr b0 b1
    have d0 := (A0.on b1).cell 0 _ rfl
    have d1 := (A0.on b1).cell 1 _ rfl
    have d2 := (A0.on b1).cell 2 _ rfl
    have d3 := (A0.on b1).cell 3 _ rfl
    have d4 := (A0.on b1).cell 4 _ rfl
    have d5 := (A0.on b1).cell 5 _ rfl
    go_wp2_with fail
    refine (implIsPublic_any _ _).mono ?_
    rintro e u2 ⟨rfl, b2⟩
    have B2 := btr B1 b2
    have b12 := btr b1 b2
    clear d0 d1 d2 d3 d4 d5 b1 b2
    have d0 := (A0.on b12).cell 0 _ rfl
    have d1 := (A0.on b12).cell 1 _ rfl
    have d2 := (A0.on b12).cell 2 _ rfl
    have d3 := (A0.on b12).cell 3 _ rfl
    have d4 := (A0.on b12).cell 4 _ rfl
    have d5 := (A0.on b12).cell 5 _ rfl
    go_wp2_with fail
    refine (isSum_any _ _).mono ?_
    rintro r w' ⟨rfl, rfl⟩
    go_wp2_with fail
    go_ret
    exact ⟨rfl, B2⟩
  · rw [repF_yes (by rw [hr, hs, hp, hf]; rfl)]
    go_enter Tryz.func25, Tryz.ntmps25
    go_wp2_with fail
    refine (isSum_any _ _).mono ?_
    rintro r w' ⟨rfl, rfl⟩
    go_wp2_with fail
    generalize w.alloc (.cells #[.int .i64 r, .int .i64 s, .int .i64 p, .int .i64 x, .int .i64 y, .int .i64 f] 33) = W0 at *
    refine (implIsPublic_any _ _).mono ?_
    rintro e u1 ⟨rfl, b1⟩
    have B1 := btr b0 b1
    have d0 := (A0.on b1).cell 0 _ rfl
    have d1 := (A0.on b1).cell 1 _ rfl
    have d2 := (A0.on b1).cell 2 _ rfl
    have d3 := (A0.on b1).cell 3 _ rfl
    have d4 := (A0.on b1).cell 4 _ rfl
    have d5 := (A0.on b1).cell 5 _ rfl
    go_wp2_with fail
    refine (implIsPublic_any _ _).mono ?_
    rintro e u2 ⟨rfl, b2⟩
    have B2 := btr B1 b2
    have b12 := btr b1 b2
    clear d0 d1 d2 d3 d4 d5 b1 b2
    have d0 := (A0.on b12).cell 0 _ rfl
    have d1 := (A0.on b12).cell 1 _ rfl
    have d2 := (A0.on b12).cell 2 _ rfl
    have d3 := (A0.on b12).cell 3 _ rfl
    have d4 := (A0.on b12).cell 4 _ rfl
    have d5 := (A0.on b12).cell 5 _ rfl
    go_wp2_with fail
    refine (isSum_any _ _).mono ?_
    rintro r w' ⟨rfl, rfl⟩
    go_wp2_with fail
    refine (implSignFault_any x y _ (E0.on b12)).mono ?_
    rintro e u3 ⟨rfl, b3⟩
    have B3 := btr B2 b3
    go_wp2_with fail
    go_ret
    exact ⟨rfl, B3⟩

theorem l3Fault3_any (g : Nat) (p q : Int) (w : World) (c0 : w.cell? ⟨g, 3, none⟩ = some (.int .i64 p)) (c1 : w.cell? ⟨g, 4, none⟩ = some (.int .i64 q)) :
    Calls Tryz.prog 199 #[.pointer (some ⟨g, 3, none⟩)] w fun r w' => r = .returned (.int .i64 (M.sigF p q)) ∧ w = w' := by
  cases hp : pubB p
  · have E : M.sigF p q = 3 := by simp [M.sigF, M.sigB, hp]
    rw [E]; clear E
    go_enter Tryz.func199, Tryz.ntmps199
    go_wp2_with fail
    refine (l1Public_any _ _).mono ?_
    rintro r w' ⟨rfl, rfl⟩
    go_wp2_with fail
    go_ret
    simp
  cases hq : inB q 0 1438
  · have E : M.sigF p q = 3 := by simp [M.sigF, M.sigB, hq]
    rw [E]; clear E
    go_enter Tryz.func199, Tryz.ntmps199
    go_wp2_with fail
    refine (l1Public_any _ _).mono ?_
    rintro r w' ⟨rfl, rfl⟩
    go_wp2_with fail
    refine (l1In_any _ _ _ _).mono ?_
    rintro r w' ⟨rfl, rfl⟩
    go_wp2_with fail
    go_ret
    simp
  · have E : M.sigF p q = 0 := by simp [M.sigF, M.sigB, hp, hq]
    rw [E]; clear E
    go_enter Tryz.func199, Tryz.ntmps199
    go_wp2_with fail
    refine (l1Public_any _ _).mono ?_
    rintro r w' ⟨rfl, rfl⟩
    go_wp2_with fail
    refine (l1In_any _ _ _ _).mono ?_
    rintro r w' ⟨rfl, rfl⟩
    go_wp2_with fail
    go_ret
    simp
theorem l6Reply_any (g : Nat) (r s p x y f : Int) (w : World) (A0 : At g (RL6 r s p x y f) w) :
    Calls Tryz.prog 109 #[.pointer (some ⟨g, 0, none⟩)] w fun e w' => e = .returned (.int .i64 (repF r s p x y f)) ∧ w = w' := by
  have d0 := A0.cell 0 _ rfl
  have d1 := A0.cell 1 _ rfl
  have d2 := A0.cell 2 _ rfl
  have d3 := A0.cell 3 _ rfl
  have d4 := A0.cell 4 _ rfl
  have d5 := A0.cell 5 _ rfl
  cases hr : M.sumB r
  · rw [repF_no (by rw [hr]; rfl)]
    go_enter Tryz.func109, Tryz.ntmps109
    go_wp2_with fail
    refine (l2Is_any _ _).mono ?_
    rintro r w' ⟨rfl, rfl⟩
    go_wp2_with fail
    go_ret
    simp
  cases hs : pubB s
  · rw [repF_no (by rw [hs]; simp)]
    go_enter Tryz.func109, Tryz.ntmps109
    go_wp2_with fail
    refine (l2Is_any _ _).mono ?_
    rintro r w' ⟨rfl, rfl⟩
    go_wp2_with fail
    refine (l1Public_any _ _).mono ?_
    rintro r w' ⟨rfl, rfl⟩
    go_wp2_with fail
    go_ret
    simp
  cases hp : pubB p
  · rw [repF_no (by rw [hp]; simp)]
    go_enter Tryz.func109, Tryz.ntmps109
    go_wp2_with fail
    refine (l2Is_any _ _).mono ?_
    rintro r w' ⟨rfl, rfl⟩
    go_wp2_with fail
    refine (l1Public_any _ _).mono ?_
    rintro r w' ⟨rfl, rfl⟩
    go_wp2_with fail
    refine (l1Public_any _ _).mono ?_
    rintro r w' ⟨rfl, rfl⟩
    go_wp2_with fail
    go_ret
    simp
  cases hf : M.sumB f
  · rw [repF_no (by rw [hf]; simp)]
    go_enter Tryz.func109, Tryz.ntmps109
    go_wp2_with fail
    refine (l2Is_any _ _).mono ?_
    rintro r w' ⟨rfl, rfl⟩
    go_wp2_with fail
    refine (l1Public_any _ _).mono ?_
    rintro r w' ⟨rfl, rfl⟩
    go_wp2_with fail
    refine (l1Public_any _ _).mono ?_
    rintro r w' ⟨rfl, rfl⟩
    go_wp2_with fail
    refine (l2Is_any _ _).mono ?_
    rintro r w' ⟨rfl, rfl⟩
    go_wp2_with fail
    go_ret
    simp
  · rw [repF_yes (by rw [hr, hs, hp, hf]; rfl)]
    go_enter Tryz.func109, Tryz.ntmps109
    go_wp2_with fail
    refine (l2Is_any _ _).mono ?_
    rintro r w' ⟨rfl, rfl⟩
    go_wp2_with fail
    refine (l1Public_any _ _).mono ?_
    rintro r w' ⟨rfl, rfl⟩
    go_wp2_with fail
    refine (l1Public_any _ _).mono ?_
    rintro r w' ⟨rfl, rfl⟩
    go_wp2_with fail
    refine (l2Is_any _ _).mono ?_
    rintro r w' ⟨rfl, rfl⟩
    go_wp2_with fail
    refine (l3Fault3_any g x y _ d3 d4).mono ?_
    rintro r w' ⟨rfl, rfl⟩
    go_wp2_with fail
    go_ret
    simp
end Go.Proofs.YtlodhleihnlchaaGreatDoor
namespace Go.Proofs.YtlodhleihnlchaaGreatDoor
open Go.RowKit
set_option maxRecDepth 100000
set_option linter.unusedVariables false

theorem eqSigned6_any (x y : Int) (w : World) :
    Calls Tryz.prog 256 #[I2 x y, I2 x y] w fun e w' => e = .returned (.bool true) ∧ Below w.heap.size w w' := by
  have b0 := bal (bal (Below.refl _ w) (.cells #[.int .i64 x, .int .i64 y] 31)) (.cells #[.int .i64 x, .int .i64 y] 31)
  go_enter Tryz.func256, Tryz.ntmps256
  go_wp2_with fail
  go_ret
  exact ⟨rfl, b0⟩
theorem eqReply_any (r s p x y f : Int) (w : World) :
    Calls Tryz.prog 185 #[R6 r s p x y f, R6 r s p x y f] w fun e w' => e = .returned (.bool true) ∧ Below w.heap.size w w' := by
  have b0 := bal (bal (Below.refl _ w) (.cells #[.int .i64 r, .int .i64 s, .int .i64 p, .int .i64 x, .int .i64 y, .int .i64 f] 33)) (.cells #[.int .i64 r, .int .i64 s, .int .i64 p, .int .i64 x, .int .i64 y, .int .i64 f] 33)
  have A0 := (At.new w (RL6 r s p x y f) 33).alloc (.cells #[.int .i64 r, .int .i64 s, .int .i64 p, .int .i64 x, .int .i64 y, .int .i64 f] 33)
  have A1 := At.new (w.alloc (.cells #[.int .i64 r, .int .i64 s, .int .i64 p, .int .i64 x, .int .i64 y, .int .i64 f] 33)) (RL6 r s p x y f) 33
  simp only [World.size_alloc] at A0 A1
  go_enter Tryz.func185, Tryz.ntmps185
  go_wp2_with fail
  generalize (w.alloc (.cells #[.int .i64 r, .int .i64 s, .int .i64 p, .int .i64 x, .int .i64 y, .int .i64 f] 33)).alloc (.cells #[.int .i64 r, .int .i64 s, .int .i64 p, .int .i64 x, .int .i64 y, .int .i64 f] 33) = W0 at *
  refine (eqSigned6_any x y _).mono ?_
  rintro e u1 ⟨rfl, b1⟩
  have hb := btr b0 b1
  have c0 := (A0.on b1).cell 0 _ rfl
  have c1 := (A0.on b1).cell 1 _ rfl
  have c2 := (A0.on b1).cell 2 _ rfl
  have c3 := (A0.on b1).cell 3 _ rfl
  have c4 := (A0.on b1).cell 4 _ rfl
  have c5 := (A0.on b1).cell 5 _ rfl
  have d0 := (A1.on b1).cell 0 _ rfl
  have d1 := (A1.on b1).cell 1 _ rfl
  have d2 := (A1.on b1).cell 2 _ rfl
  have d3 := (A1.on b1).cell 3 _ rfl
  have d4 := (A1.on b1).cell 4 _ rfl
  have d5 := (A1.on b1).cell 5 _ rfl
  clear A0 A1
  go_wp2_with fail
  go_ret
  exact ⟨rfl, hb⟩
theorem toReply_any (r s p x y f : Int) (w : World) :
    Calls Tryz.prog 84 #[R6 r s p x y f] w fun e w' => e = .returned (R6 r s p x y f) ∧ Below w.heap.size w w' := by
  have b0 := bal (bal (bal (Below.refl _ w) (.cells #[.int .i64 r, .int .i64 s, .int .i64 p, .int .i64 x, .int .i64 y, .int .i64 f] 136)) (.cells #[.int .i64 0, .int .i64 0, .int .i64 0, .int .i64 0, .int .i64 0, .int .i64 0] 33)) (.cells #[.int .i64 r, .int .i64 s, .int .i64 p, .int .i64 0, .int .i64 0, .int .i64 0] 33)
  have A0 := ((At.new w (RL6 r s p x y f) 136).alloc (.cells #[.int .i64 0, .int .i64 0, .int .i64 0, .int .i64 0, .int .i64 0, .int .i64 0] 33)).alloc (.cells #[.int .i64 r, .int .i64 s, .int .i64 p, .int .i64 0, .int .i64 0, .int .i64 0] 33)
  have A1 := (At.new (w.alloc (.cells #[.int .i64 r, .int .i64 s, .int .i64 p, .int .i64 x, .int .i64 y, .int .i64 f] 136)) (RL6 0 0 0 0 0 0) 33).alloc (.cells #[.int .i64 r, .int .i64 s, .int .i64 p, .int .i64 0, .int .i64 0, .int .i64 0] 33)
  have A2 := At.new ((w.alloc (.cells #[.int .i64 r, .int .i64 s, .int .i64 p, .int .i64 x, .int .i64 y, .int .i64 f] 136)).alloc (.cells #[.int .i64 0, .int .i64 0, .int .i64 0, .int .i64 0, .int .i64 0, .int .i64 0] 33)) (RL6 r s p 0 0 0) 33
  simp only [World.size_alloc] at A0 A1 A2
  go_enter Tryz.func84, Tryz.ntmps84
  go_wp2_with fail
  generalize ((w.alloc (.cells #[.int .i64 r, .int .i64 s, .int .i64 p, .int .i64 x, .int .i64 y, .int .i64 f] 136)).alloc (.cells #[.int .i64 0, .int .i64 0, .int .i64 0, .int .i64 0, .int .i64 0, .int .i64 0] 33)).alloc (.cells #[.int .i64 r, .int .i64 s, .int .i64 p, .int .i64 0, .int .i64 0, .int .i64 0] 33) = W0 at *
  refine (toSigned_any x y _).mono ?_
  rintro e u1 ⟨rfl, b1⟩
  have hb := btr b0 b1
  have c0 := (A0.on b1).cell 0 _ rfl
  have c1 := (A0.on b1).cell 1 _ rfl
  have c2 := (A0.on b1).cell 2 _ rfl
  have c3 := (A0.on b1).cell 3 _ rfl
  have c4 := (A0.on b1).cell 4 _ rfl
  have c5 := (A0.on b1).cell 5 _ rfl
  have d0 := (A1.on b1).cell 0 _ rfl
  have d1 := (A1.on b1).cell 1 _ rfl
  have d2 := (A1.on b1).cell 2 _ rfl
  have d3 := (A1.on b1).cell 3 _ rfl
  have d4 := (A1.on b1).cell 4 _ rfl
  have d5 := (A1.on b1).cell 5 _ rfl
  have z0 := (A1.on b1).free 0 _ rfl
  have z1 := (A1.on b1).free 1 _ rfl
  have z2 := (A1.on b1).free 2 _ rfl
  have z3 := (A1.on b1).free 3 _ rfl
  have z4 := (A1.on b1).free 4 _ rfl
  have z5 := (A1.on b1).free 5 _ rfl
  have k0 := (A2.on b1).cell 0 _ rfl
  have k1 := (A2.on b1).cell 1 _ rfl
  have k2 := (A2.on b1).cell 2 _ rfl
  have k3 := (A2.on b1).cell 3 _ rfl
  have k4 := (A2.on b1).cell 4 _ rfl
  have k5 := (A2.on b1).cell 5 _ rfl
  have v0 := (A2.on b1).free 0 _ rfl
  have v1 := (A2.on b1).free 1 _ rfl
  have v2 := (A2.on b1).free 2 _ rfl
  have v3 := (A2.on b1).free 3 _ rfl
  have v4 := (A2.on b1).free 4 _ rfl
  have v5 := (A2.on b1).free 5 _ rfl
  clear A0 A1 A2 b0 b1
  go_wp2_with fail
  refine bodyPost_ret (v := R6 r s p x y f) (by simp [results, Tryz.results84, go_sem, d0, d1, d2, d3, d4, d5]) rfl ⟨rfl, ?_⟩
  exact (by (iterate 9 (refine bset ?_ (by dsimp only; omega) _)); exact hb)
end Go.Proofs.YtlodhleihnlchaaGreatDoor
namespace Go.Proofs.YtlodhleihnlchaaGreatDoor
open Go.RowKit
set_option maxRecDepth 100000
set_option linter.unusedVariables false

theorem eqKeys_any (u d h k : Int) (w : World) :
    Calls Tryz.prog 186 #[K4 u d h k, K4 u d h k] w fun e w' => e = .returned (.bool true) ∧ Below w.heap.size w w' := by
  have b0 := bal (bal (Below.refl _ w) (.cells #[.int .i64 u, .int .i64 d, .int .i64 h, .int .i64 k] 110)) (.cells #[.int .i64 u, .int .i64 d, .int .i64 h, .int .i64 k] 110)
  go_enter Tryz.func186, Tryz.ntmps186
  go_wp2_with fail
  go_ret
  exact ⟨rfl, b0⟩
theorem eqTaken_any (t : TakD) (w : World) :
    Calls Tryz.prog 86 #[T11 t, T11 t] w fun e w' => e = .returned (.bool true) ∧ Below w.heap.size w w' := by
  obtain ⟨c, r, s, p, x, y, f, u, d, h, k⟩ := t
  show Calls Tryz.prog 86 #[.agg #[.int .i64 c, .int .i64 r, .int .i64 s, .int .i64 p, .int .i64 x, .int .i64 y, .int .i64 f, .int .i64 u, .int .i64 d, .int .i64 h, .int .i64 k], .agg #[.int .i64 c, .int .i64 r, .int .i64 s, .int .i64 p, .int .i64 x, .int .i64 y, .int .i64 f, .int .i64 u, .int .i64 d, .int .i64 h, .int .i64 k]] w _
  have b0 := bal (bal (Below.refl _ w) (.cells #[.int .i64 c, .int .i64 r, .int .i64 s, .int .i64 p, .int .i64 x, .int .i64 y, .int .i64 f, .int .i64 u, .int .i64 d, .int .i64 h, .int .i64 k] 112)) (.cells #[.int .i64 c, .int .i64 r, .int .i64 s, .int .i64 p, .int .i64 x, .int .i64 y, .int .i64 f, .int .i64 u, .int .i64 d, .int .i64 h, .int .i64 k] 112)
  have A0 := (At.new w [.int .i64 c, .int .i64 r, .int .i64 s, .int .i64 p, .int .i64 x, .int .i64 y, .int .i64 f, .int .i64 u, .int .i64 d, .int .i64 h, .int .i64 k] 112).alloc (.cells #[.int .i64 c, .int .i64 r, .int .i64 s, .int .i64 p, .int .i64 x, .int .i64 y, .int .i64 f, .int .i64 u, .int .i64 d, .int .i64 h, .int .i64 k] 112)
  have A1 := At.new (w.alloc (.cells #[.int .i64 c, .int .i64 r, .int .i64 s, .int .i64 p, .int .i64 x, .int .i64 y, .int .i64 f, .int .i64 u, .int .i64 d, .int .i64 h, .int .i64 k] 112)) [.int .i64 c, .int .i64 r, .int .i64 s, .int .i64 p, .int .i64 x, .int .i64 y, .int .i64 f, .int .i64 u, .int .i64 d, .int .i64 h, .int .i64 k] 112
  simp only [World.size_alloc] at A0 A1
  go_enter Tryz.func86, Tryz.ntmps86
  go_wp2_with fail
  generalize (w.alloc (.cells #[.int .i64 c, .int .i64 r, .int .i64 s, .int .i64 p, .int .i64 x, .int .i64 y, .int .i64 f, .int .i64 u, .int .i64 d, .int .i64 h, .int .i64 k] 112)).alloc (.cells #[.int .i64 c, .int .i64 r, .int .i64 s, .int .i64 p, .int .i64 x, .int .i64 y, .int .i64 f, .int .i64 u, .int .i64 d, .int .i64 h, .int .i64 k] 112) = W0 at *
  refine (eqReply_any r s p x y f _).mono ?_
  rintro e u1 ⟨rfl, b1⟩
  have hb := btr b0 b1
  have q0 := (A0.on b1).cell 0 _ rfl
  have q1 := (A0.on b1).cell 1 _ rfl
  have q2 := (A0.on b1).cell 2 _ rfl
  have q3 := (A0.on b1).cell 3 _ rfl
  have q4 := (A0.on b1).cell 4 _ rfl
  have q5 := (A0.on b1).cell 5 _ rfl
  have q6 := (A0.on b1).cell 6 _ rfl
  have q7 := (A0.on b1).cell 7 _ rfl
  have q8 := (A0.on b1).cell 8 _ rfl
  have q9 := (A0.on b1).cell 9 _ rfl
  have q10 := (A0.on b1).cell 10 _ rfl
  have v0 := (A1.on b1).cell 0 _ rfl
  have v1 := (A1.on b1).cell 1 _ rfl
  have v2 := (A1.on b1).cell 2 _ rfl
  have v3 := (A1.on b1).cell 3 _ rfl
  have v4 := (A1.on b1).cell 4 _ rfl
  have v5 := (A1.on b1).cell 5 _ rfl
  have v6 := (A1.on b1).cell 6 _ rfl
  have v7 := (A1.on b1).cell 7 _ rfl
  have v8 := (A1.on b1).cell 8 _ rfl
  have v9 := (A1.on b1).cell 9 _ rfl
  have v10 := (A1.on b1).cell 10 _ rfl
  clear A0 A1 b0 b1
  go_wp2_with fail
  refine (eqKeys_any u d h k _).mono ?_
  rintro e u2 ⟨rfl, b2⟩
  have hb2 := btr hb b2
  go_wp2_with fail
  go_ret
  exact ⟨rfl, hb2⟩
end Go.Proofs.YtlodhleihnlchaaGreatDoor
