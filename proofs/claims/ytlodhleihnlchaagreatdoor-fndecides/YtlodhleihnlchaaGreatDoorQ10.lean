/- Texts of this seat that several laws rest on, laid into one. Conditions: as each theorem states. -/
import Derived.Test.YtlodhleihnlchaaGreatDoorQ1
import Derived.Test.YtlodhleihnlchaaGreatDoorQ2
import Derived.Test.YtlodhleihnlchaaGreatDoorQ3
import Derived.Test.YtlodhleihnlchaaGreatDoorQ4
import Derived.Test.YtlodhleihnlchaaGreatDoorQ7
import Derived.Test.YtlodhleihnlchaaGreatDoorQ9
import Derived.Test.YtlodhleihnlchaaGreatDoorRows
import Derived.ProofKit
import Derived.JoinedCond
import Derived.LaidEql
import Derived.Stop.Asserts
import Derived.RowKitTokens
import Derived.Laws.IdiomCopy
import Derived.Test.YtlodhleihnlchaaGreatDoorTie
import Derived.Test.YtlodhleihnlchaaGreatDoorCards
import Derived.LaidHandle
import Derived.LaidLaws
import Derived.OpenShut
import Derived.WalkSmall
import Derived.Carry
import Derived.Below
import Derived.Deep.DeepHandedRow
import Derived.Lib.LaidTab
import Derived.Lay
import Derived.MakeChecks
import Derived.LaidMore
import Derived.Stop.Joined
namespace Go.Proofs.YtlodhleihnlchaaGreatDoor
open Go.RowKit
set_option maxRecDepth 100000
set_option linter.unusedVariables false

def reasonW : List ByteArray := [{ data := #[] }, { data := #[100, 97, 110, 101] }, { data := #[110, 111, 45, 100, 97, 110, 101] }, { data := #[97, 99, 116, 105, 118, 101] }, { data := #[98, 97, 99, 107, 117, 112] }, { data := #[111, 116, 104, 101, 114] }, { data := #[101, 120, 112, 105, 114, 101, 100] }, { data := #[102, 105, 114, 115, 116] }, { data := #[114, 101, 102, 117, 115, 101, 100] }]
structure Texts (w : World) : Prop where
  t1 : w.cell? ⟨2, 1, none⟩ = some (.string { data := #[100, 97, 110, 101] })
  t2 : w.cell? ⟨2, 2, none⟩ = some (.string { data := #[110, 111, 45, 100, 97, 110, 101] })
  t3 : w.cell? ⟨2, 3, none⟩ = some (.string { data := #[97, 99, 116, 105, 118, 101] })
  t4 : w.cell? ⟨2, 4, none⟩ = some (.string { data := #[98, 97, 99, 107, 117, 112] })
  t5 : w.cell? ⟨2, 5, none⟩ = some (.string { data := #[111, 116, 104, 101, 114] })
  t6 : w.cell? ⟨2, 6, none⟩ = some (.string { data := #[101, 120, 112, 105, 114, 101, 100] })
  t7 : w.cell? ⟨2, 7, none⟩ = some (.string { data := #[102, 105, 114, 115, 116] })
  t8 : w.cell? ⟨2, 8, none⟩ = some (.string { data := #[114, 101, 102, 117, 115, 101, 100] })
theorem Texts.on {w w' : World} (h : Texts w) (hb : Below w.heap.size w w') : Texts w' := ⟨cell_keep hb h.t1, cell_keep hb h.t2, cell_keep hb h.t3, cell_keep hb h.t4, cell_keep hb h.t5, cell_keep hb h.t6, cell_keep hb h.t7, cell_keep hb h.t8⟩
def textC (r : Int) : Int := if 1 ≤ r ∧ r ≤ 8 then 0 else 3
def textW (r : Int) : ByteArray := if 1 ≤ r ∧ r ≤ 8 then reasonW.getD r.toNat { data := #[] } else { data := #[] }
theorem text_no {r : Int} (h : ¬ (1 ≤ r ∧ r ≤ 8)) : textC r = 3 ∧ textW r = { data := #[] } := by unfold textC textW; rw [if_neg h, if_neg h]; exact ⟨rfl, rfl⟩
abbrev XV2 (c : Int) (t : ByteArray) : Value := .agg #[.int .i64 c, .string t]
theorem implReasonText_any (r : Int) (w : World) (tx : Texts w) : Calls Tryz.prog 51 #[.int .i64 r] w fun e w' => e = .returned (XV2 (textC r) (textW r)) ∧ Below w.heap.size w w' := by
  have b0 := bal (Below.refl _ w) (.cells #[.int .i64 0, .string { data := #[] }] 92)
  have A0 := At.new w [.int .i64 0, .string { data := #[] }] 92
  obtain ⟨t1, t2, t3, t4, t5, t6, t7, t8⟩ := tx.on b0
  clear tx
  clear A0
  by_cases h : 1 ≤ r ∧ r ≤ 8
  case neg =>
    rw [(text_no h).1, (text_no h).2]
    by_cases h1 : r < 1
    · clear h t1 t2 t3 t4 t5 t6 t7 t8
      go_enter Tryz.func51, Tryz.ntmps51
      go_wp2_with fail
      refine bodyPost_ret (v := XV2 3 { data := #[] }) (by simp [results, Tryz.results51, go_sem]) rfl ⟨rfl, ?_⟩
      exact bal (Below.refl _ _) _
    · have h8 : 8 < r := by omega
      clear h t1 t2 t3 t4 t5 t6 t7 t8
      go_enter Tryz.func51, Tryz.ntmps51
      go_wp2_with fail
      refine bodyPost_ret (v := XV2 3 { data := #[] }) (by simp [results, Tryz.results51, go_sem]) rfl ⟨rfl, ?_⟩
      exact bal (Below.refl _ _) _
  obtain ⟨h1, h8⟩ := h
  have hr : r = 1 ∨ r = 2 ∨ r = 3 ∨ r = 4 ∨ r = 5 ∨ r = 6 ∨ r = 7 ∨ r = 8 := by omega
  clear h1 h8
  rcases hr with rfl | rfl | rfl | rfl | rfl | rfl | rfl | rfl
  · go_enter Tryz.func51, Tryz.ntmps51
    go_wp2_with fail
    refine bodyPost_ret (v := XV2 0 { data := #[100, 97, 110, 101] }) (by simp [results, Tryz.results51, go_sem]) rfl ⟨rfl, ?_⟩
    exact bal (Below.refl _ _) _
  · go_enter Tryz.func51, Tryz.ntmps51
    go_wp2_with fail
    refine bodyPost_ret (v := XV2 0 { data := #[110, 111, 45, 100, 97, 110, 101] }) (by simp [results, Tryz.results51, go_sem]) rfl ⟨rfl, ?_⟩
    exact bal (Below.refl _ _) _
  · go_enter Tryz.func51, Tryz.ntmps51
    go_wp2_with fail
    refine bodyPost_ret (v := XV2 0 { data := #[97, 99, 116, 105, 118, 101] }) (by simp [results, Tryz.results51, go_sem]) rfl ⟨rfl, ?_⟩
    exact bal (Below.refl _ _) _
  · go_enter Tryz.func51, Tryz.ntmps51
    go_wp2_with fail
    refine bodyPost_ret (v := XV2 0 { data := #[98, 97, 99, 107, 117, 112] }) (by simp [results, Tryz.results51, go_sem]) rfl ⟨rfl, ?_⟩
    exact bal (Below.refl _ _) _
  · go_enter Tryz.func51, Tryz.ntmps51
    go_wp2_with fail
    refine bodyPost_ret (v := XV2 0 { data := #[111, 116, 104, 101, 114] }) (by simp [results, Tryz.results51, go_sem]) rfl ⟨rfl, ?_⟩
    exact bal (Below.refl _ _) _
  · go_enter Tryz.func51, Tryz.ntmps51
    go_wp2_with fail
    refine bodyPost_ret (v := XV2 0 { data := #[101, 120, 112, 105, 114, 101, 100] }) (by simp [results, Tryz.results51, go_sem]) rfl ⟨rfl, ?_⟩
    exact bal (Below.refl _ _) _
  · go_enter Tryz.func51, Tryz.ntmps51
    go_wp2_with fail
    refine bodyPost_ret (v := XV2 0 { data := #[102, 105, 114, 115, 116] }) (by simp [results, Tryz.results51, go_sem]) rfl ⟨rfl, ?_⟩
    exact bal (Below.refl _ _) _
  · go_enter Tryz.func51, Tryz.ntmps51
    go_wp2_with fail
    refine bodyPost_ret (v := XV2 0 { data := #[114, 101, 102, 117, 115, 101, 100] }) (by simp [results, Tryz.results51, go_sem]) rfl ⟨rfl, ?_⟩
    exact bal (Below.refl _ _) _
set_option maxHeartbeats 2000000 in
theorem l10Word_any (r : Nat) (w : World) (h : r ≤ 8) : Calls Tryz.prog 152 #[.int .i64 r] w fun e w' => e = .returned (.string (reasonW.getD r { data := #[] })) ∧ Below w.heap.size w w' := by
  have b0 := bal (Below.refl _ w) (.cells #[.string { data := #[] }, .string { data := #[100, 97, 110, 101] }, .string { data := #[110, 111, 45, 100, 97, 110, 101] }, .string { data := #[97, 99, 116, 105, 118, 101] }, .string { data := #[98, 97, 99, 107, 117, 112] }, .string { data := #[111, 116, 104, 101, 114] }, .string { data := #[101, 120, 112, 105, 114, 101, 100] }, .string { data := #[102, 105, 114, 115, 116] }, .string { data := #[114, 101, 102, 117, 115, 101, 100] }] 9)
  have hr : r = 0 ∨ r = 1 ∨ r = 2 ∨ r = 3 ∨ r = 4 ∨ r = 5 ∨ r = 6 ∨ r = 7 ∨ r = 8 := by omega
  clear h
  rcases hr with rfl | rfl | rfl | rfl | rfl | rfl | rfl | rfl | rfl
  · go_enter Tryz.func152, Tryz.ntmps152
    go_wp2_with fail
    go_ret
    exact ⟨rfl, b0⟩
  · go_enter Tryz.func152, Tryz.ntmps152
    go_wp2_with fail
    go_ret
    exact ⟨rfl, b0⟩
  · go_enter Tryz.func152, Tryz.ntmps152
    go_wp2_with fail
    go_ret
    exact ⟨rfl, b0⟩
  · go_enter Tryz.func152, Tryz.ntmps152
    go_wp2_with fail
    go_ret
    exact ⟨rfl, b0⟩
  · go_enter Tryz.func152, Tryz.ntmps152
    go_wp2_with fail
    go_ret
    exact ⟨rfl, b0⟩
  · go_enter Tryz.func152, Tryz.ntmps152
    go_wp2_with fail
    go_ret
    exact ⟨rfl, b0⟩
  · go_enter Tryz.func152, Tryz.ntmps152
    go_wp2_with fail
    go_ret
    exact ⟨rfl, b0⟩
  · go_enter Tryz.func152, Tryz.ntmps152
    go_wp2_with fail
    go_ret
    exact ⟨rfl, b0⟩
  · go_enter Tryz.func152, Tryz.ntmps152
    go_wp2_with fail
    go_ret
    exact ⟨rfl, b0⟩
theorem l1In_reason (r : Int) (w : World) : Calls Tryz.prog 151 #[.int .i64 r, .int .i64 1, .int .i64 8] w fun e w' => e = .returned (.bool (decide (1 ≤ r ∧ r ≤ 8))) ∧ w = w' := l1In_any r 1 8 w
theorem specReasonText_any (r : Int) (w : World) : Calls Tryz.prog 52 #[.int .i64 r] w fun e w' => e = .returned (XV2 (textC r) (textW r)) ∧ Below w.heap.size w w' := by
  have b0 := bal (Below.refl _ w) (.cells #[.int .i64 0, .string { data := #[] }] 92)
  have A0 := At.new w [.int .i64 0, .string { data := #[] }] 92
  have IN := fun w => l1In_reason r w
  by_cases h : 1 ≤ r ∧ r ≤ 8
  case neg =>
    rw [(text_no h).1, (text_no h).2]
    rw [decide_eq_false h] at IN
    clear A0
    go_enter Tryz.func52, Tryz.ntmps52
    go_wp2_with fail
    refine (IN _).mono ?_
    rintro r w' ⟨rfl, rfl⟩
    go_wp2_with fail
    refine bodyPost_ret (v := XV2 3 { data := #[] }) (by simp [results, Tryz.results52, go_sem]) rfl ⟨rfl, ?_⟩
    exact bal (Below.refl _ _) _
  rw [decide_eq_true h] at IN
  obtain ⟨k, rfl⟩ : ∃ k : Nat, r = k := Int.eq_ofNat_of_zero_le (by omega)
  have e1 : textC k = 0 := by unfold textC; rw [if_pos h]
  have e2 : textW k = reasonW.getD k { data := #[] } := by unfold textW; rw [if_pos h]; rfl
  rw [e1, e2]
  have W := fun w => l10Word_any k w (by omega)
  generalize reasonW.getD k { data := #[] } = t at *
  clear e1 e2
  go_enter Tryz.func52, Tryz.ntmps52
  go_wp2_with fail
  generalize w.alloc (.cells #[.int .i64 0, .string { data := #[] }] 92) = W0 at *
  refine (IN _).mono ?_
  rintro r' u1 ⟨rfl, rfl⟩
  go_wp2_with fail
  refine (W _).mono ?_
  rintro r' u1 ⟨rfl, b1⟩
  have A1 := A0.on b1
  have q0 := A1.cell 0 _ rfl
  have q1 := A1.cell 1 _ rfl
  have z0 := A1.free 0 _ rfl
  have z1 := A1.free 1 _ rfl
  have bb := btr b0 b1
  clear A0 A1
  go_wp2_with fail
  refine bodyPost_ret (v := XV2 0 t) (by simp [results, Tryz.results52, go_sem, q0, q1]) rfl ⟨rfl, ?_⟩
  refine bset (bset bb ?_ _) ?_ _ <;> exact Nat.le_refl _
end Go.Proofs.YtlodhleihnlchaaGreatDoor
namespace Go.Proofs.YtlodhleihnlchaaGreatDoor
open Go.RowKit
set_option maxRecDepth 100000

structure LRel (w0 : World) (a : Option Addr) (len cap : Nat) (zs : List Int) (p b : Nat) (v : Value) (wr : World) : Prop where
  own : ∃ zs', zs'.length ≤ b ∧ OwnK .i64 wr (w0.heap.size + 1) v zs' ∧ ∀ z ∈ zs', (Lit.int .i64 z).wf = true
  draw : Draw w0 a len cap zs p wr
section
variable {w0 : World} {a : Option Addr} {len cap : Nat} {zs : List Int} {p p' b : Nat} {v : Value} {w w' : World}
theorem LRel.only (h : LRel w0 a len cap zs p b v w) (hO : Only w0.heap.size w w') (D : Draw w0 a len cap zs p' w') : LRel w0 a len cap zs p' b v w' := by
  obtain ⟨zs', h1, h2, h3⟩ := h.own
  exact ⟨⟨zs', h1, h2.only hO (by omega), h3⟩, D⟩
theorem LRel.alloc (h : LRel w0 a len cap zs p b v w) (o : Obj) : LRel w0 a len cap zs p b v (w.alloc o) := by
  obtain ⟨zs', h1, h2, h3⟩ := h.own
  exact ⟨⟨zs', h1, h2.alloc o, h3⟩, h.draw.alloc o⟩
end
structure GRel (w0 : World) (a : Option Addr) (len cap : Nat) (zs : List Int) (p b : Nat) (v : Value) (wr : World) : Prop where
  own : ∃ rows, rows.length ≤ b ∧ Own2 wr (w0.heap.size + 1) v rows
  draw : Draw w0 a len cap zs p wr
section
variable {w0 : World} {a : Option Addr} {len cap : Nat} {zs : List Int} {p p' b : Nat} {v : Value} {w w' : World}
theorem GRel.only (h : GRel w0 a len cap zs p b v w) (hO : Only w0.heap.size w w') (D : Draw w0 a len cap zs p' w') : GRel w0 a len cap zs p' b v w' := by
  obtain ⟨rows, h1, h2⟩ := h.own
  exact ⟨⟨rows, h1, h2.only hO (by omega)⟩, D⟩
theorem GRel.alloc (h : GRel w0 a len cap zs p b v w) (o : Obj) : GRel w0 a len cap zs p b v (w.alloc o) := by
  obtain ⟨rows, h1, h2⟩ := h.own
  exact ⟨⟨rows, h1, h2.alloc o⟩, h.draw.alloc o⟩
end
end Go.Proofs.YtlodhleihnlchaaGreatDoor
namespace Go.Proofs.YtlodhleihnlchaaGreatDoor.Facts
set_option maxRecDepth 100000

theorem laidOut : laidOutB Tryz.prog = true := by kernel_rfl
theorem mapsRowed : mapsRowed Tryz.prog = true := by kernel_rfl
theorem stopsHeard : Tryz.prog.stopsHeard = true := by kernel_rfl
theorem mayEnter : Tryz.prog.mayEnter = true := by kernel_rfl
theorem plainKeys : (false == Tryz.prog.plainKeys) = true := by kernel_rfl
theorem liftsFinal : (false == Tryz.prog.liftsFinal) = true := by kernel_rfl
theorem make : (Tryz.prog.make == some Make.cut) = true := by kernel_rfl

theorem joined_of {P : Program} {f : FuncId} {fn : Func} {s : ChangeSpec} {c : OpenClaim}
    (g2 : laidOutB P = true) (g3 : Go.mapsRowed P = true) (g4 : P.stopsHeard = true) (g5 : P.mayEnter = true)
    (h1 : c.wf (OpenSpec.ofChange s) = true) (h4 : fn.params.all (P.readableRec ·) = true) (h5 : namedTie P c.named s.vars = true)
    (h6 : (c.stops == []) = true) (h7 : (P.stops == []) = true) (h8 : (c.knobs == []) = true) (h9 : (P.stopKnobs == []) = true)
    (h10 : c.inPlace = P.inPlace f) (h11 : c.unfollowed = P.unfollowed f) (h12 : c.recurses = P.recurses f) (h13 : c.named = P.varsNamed f)
    (h14 : (c.maps == (fn.params.toList ++ s.plain.varTypes P).any (P.mapsRec ·)) = true) (h15 : (c.ifaces == (fn.params.toList ++ s.plain.varTypes P).any (P.ifacesRec ·)) = true) (h16 : (c.mapsOut == P.mapsAmong fn.resultTypes.toList) = true)
    (h17 : (c.loops == (fn.params.toList ++ s.plain.varTypes P).any (P.loopsFrom ·)) = true) (h18 : (c.wideKeys == (fn.params.toList ++ s.plain.varTypes P ++ fn.resultTypes.toList).any (P.wideKeysFrom ·)) = true)
    (h19 : s.vars.all (P.varReadable ·) = true) (h20 : fn.resultTypes.all (fun t => P.readableRec t && decide (t < P.types.size)) = true) (h21 : (c.ifacesOut == fn.resultTypes.toList.any (P.ifacesRec ·)) = true) (h22 : (c.loopsOut == fn.resultTypes.toList.any (P.loopsFrom ·)) = true)
    (h23 : (c.plainKeys == P.plainKeys) = true) (h24 : c.shortTexts.isNone = true) (h25 : (c.lifted == P.liftsFinal) = true) (h26 : (P.make == some c.make) = true)
    (h27 : (c.kinds == (if c.domain.isEmpty then [] else fn.params.toList.map fun t => match P.underlying t with | some (.int k) => some k | _ => none)) = true) (h28 : (c.pinned == c.pinnedBy) = true)
    (h29 : (c.veiled == (fn.params.toList ++ s.plain.varTypes P ++ fn.resultTypes.toList).any (P.veiledRec ·)) = true) (h30 : c.veiledFits P fn.params.toList (fn.params.toList ++ s.plain.varTypes P ++ fn.resultTypes.toList) = true) :
    joinedFacts P f fn s c = true := by
  have g10 : (c.inPlace == P.inPlace f) = true := by rw [h10]; simp
  have g11 : (c.unfollowed == P.unfollowed f) = true := by rw [h11]; simp
  have g12 : (c.recurses == P.recurses f) = true := by rw [h12]; simp
  have g13 : (c.named == P.varsNamed f) = true := by rw [h13]; simp
  unfold joinedFacts
  simp only [Bool.and_eq_true]
  exact ⟨⟨⟨⟨⟨⟨⟨⟨⟨⟨⟨⟨⟨⟨⟨⟨⟨⟨⟨⟨⟨⟨⟨⟨⟨⟨⟨⟨⟨⟨⟨h1, g2⟩, g3⟩, h4⟩, h5⟩, h6⟩, h7⟩, h8⟩, h9⟩, g10⟩, g11⟩, g12⟩, g13⟩, h14⟩, h15⟩, h16⟩, h17⟩, h18⟩, h19⟩, h20⟩, h21⟩, h22⟩, h23⟩, h24⟩, g4⟩, g5⟩, h25⟩, h26⟩, h27⟩, h28⟩, h29⟩, h30⟩
end Go.Proofs.YtlodhleihnlchaaGreatDoor.Facts
namespace Go.Proofs.YtlodhleihnlchaaGreatDoor
open Go.RowKit Go.Extern.Stop Go.Stop Go.Extern

structure ErrT (w : World) : Prop where
  cell : w.cell? ⟨3, 0, none⟩ = some (.iface 384 (.agg #[.pointer (some ⟨8, 160, none⟩)]))
theorem ErrT.on {w w' : World} (h : ErrT w) (hb : Below w.heap.size w w') : ErrT w' := ⟨cell_keep hb h.cell⟩
theorem ErrT.lt {w : World} (h : ErrT w) : 3 < w.heap.size := cell_lt h.cell

end Go.Proofs.YtlodhleihnlchaaGreatDoor
namespace Go.Proofs.YtlodhleihnlchaaGreatDoor
open Go.ChangeShapes Go.WideShapes Go.ChangeAt Go.RowKit

theorem own : ownKnob Tryz.prog.godebug = none := by kernel_rfl
theorem laidOut : laidOutB Tryz.prog = true := by kernel_rfl

def varsOk (P : Program) (names : List String) : Bool :=
  names.all fun n => match P.globalNamed n with
    | some g => match (P.globals[g]?).map (·.type) with
      | some t => P.readableRec t && decide (t < P.types.size)
      | Option.none => false
    | Option.none => false
theorem vars_keep {H : Type} {enc : TypeId × Value → H} {P : Program} (hl : laidOutB P = true) {W W' : World} (bel : Below W.heap.size W W') : ∀ (names : List String) (gs : List (DataW H)) (q : List MemPlace),
    varsOk P names = true → DataW.TrodVars enc P W (fun _ => true) names gs q → (∀ x ∈ q, x.block < W.heap.size) → DataW.TrodVars enc P W' (fun b => decide (b < W.heap.size)) names gs q
  | [], gs, q, _, h, _ => by
    obtain ⟨rfl, rfl⟩ := trodVars_none h
    exact rfl
  | n :: r, [], q, _, h, _ => by simp [DataW.TrodVars] at h
  | n :: r, d :: ds, q, hok, h, hlt => by
    obtain ⟨g, t, cs, fuel, p, q2, h1, h2, h3, h4, h5, rfl⟩ := h
    simp only [varsOk, List.all_cons, Bool.and_eq_true] at hok
    obtain ⟨ho, hor⟩ := hok
    simp only [h1, h2, Bool.and_eq_true, decide_eq_true_eq] at ho
    have hg : g < W.heap.size := by
      rcases Nat.lt_or_ge g W.heap.size with hlt | hge
      · exact hlt
      · simp [World.var?, h1, Array.getElem?_eq_none hge] at h3
    have hT : DataW.Trod enc P W 0 (fun _ => true) true t (.agg cs) d p := ⟨fuel, h4⟩
    obtain ⟨fuel', h4'⟩ := Below.trod hl ho.1 ho.2 hT bel (fun x hx => hlt x (by simp [hx]))
    exact ⟨g, t, cs, fuel', p, q2, h1, h2, var?_below bel h1 hg h3, h4', vars_keep hl bel r ds q2 hor h5 (fun x hx => hlt x (by simp [hx])), rfl⟩

theorem cells_of_words {H : Type} {enc : TypeId × Value → H} {P : Program} {w : World} {base : Nat} {sp : Nat → Bool} {held : Bool} {fuel : Nat} {t e : TypeId} {n : Nat} {cs : List Value} {ss : List (List UInt8)} {p : List MemPlace}
    (ht : P.underlying t = some (.array n e)) (he : P.underlying e = some .string) (hce : P.cellsOf e = 1) (hct : P.cellsOf t = n)
    (h : DataW.trod enc P w base sp held fuel t cs = some (.agg (ss.map fun s => .lit (.string s)), p)) : cs = ss.map fun s => Value.string ⟨s.toArray⟩ := by
  cases fuel with
  | zero => simp [DataW.trod] at h
  | succ fuel =>
    simp only [DataW.trod, ht, hce, hct, Nat.mul_one] at h
    split at h
    · rename_i hl
      obtain ⟨xs, hm, hx⟩ := Option.map_eq_some_iff.1 h
      have hxs : xs.map (·.1) = ss.map fun s => (DataW.lit (.string s) : DataW H) := by
        have := congrArg Prod.fst hx
        simpa using this
      have hxl : xs.length = n := by simpa using Lib.mapM_length hm
      have hzl : ss.length = n := by
        have := congrArg List.length hxs
        simp at this
        omega
      apply List.ext_getElem?
      intro i
      by_cases hi : i < n
      · obtain ⟨b, hb, hf⟩ := Lib.mapM_at hm i i (by simp [hi])
        obtain ⟨s, hc, rfl, _⟩ := DataW.trod_string he hf
        have h1 : cs[i]? = some (.string s) := by
          have := congrArg (·[0]?) hc
          simpa [List.getElem?_take, List.getElem?_drop] using this
        have h2 : (xs.map (·.1))[i]? = some (DataW.lit (.string s.data.toList) : DataW H) := by simp [hb]
        rw [hxs] at h2
        simp only [List.getElem?_map, Option.map_eq_some_iff, DataW.lit.injEq, Lit.string.injEq] at h2
        obtain ⟨z', hz', e'⟩ := h2
        rw [h1]
        simp [hz', e']
      · rw [List.getElem?_eq_none (by omega), List.getElem?_eq_none (by simp; omega)]
    · cases h

theorem gLabels : Tryz.prog.globalNamed "loop.example/g00618/impl.labels" = some 1 := by kernel_rfl
theorem gLabelsType : (Tryz.prog.globals[1]?).map (·.type) = some 178 := by kernel_rfl
theorem cLabels : Tryz.prog.cellsOf 178 = 13 := by kernel_rfl
theorem cWord : Tryz.prog.cellsOf 9 = 1 := by kernel_rfl
noncomputable def laidWorld (os : Os) : World :=
  { World.holding Tryz.prog os ⟨#[], #[], []⟩ with heap := ((World.holding Tryz.prog os ⟨#[], #[], []⟩).heap
       |>.modify 1 (fun | .cells _ t frozen => .cells #[.string M.streamS, .string M.heardS, .string M.nonceS, .string M.signS, .string M.macS, .string M.sealS, .string M.spkiS, .string M.rollS, .string M.masterS, .string M.verifyS, .string M.finishS, .string M.upS, .string M.downS] t frozen | o => o)
       |>.modify 3 (fun | .cells _ t frozen => .cells #[.iface 384 (.agg #[.pointer (some ⟨8, 160, none⟩)])] t frozen | o => o)
    ) }
end Go.Proofs.YtlodhleihnlchaaGreatDoor
namespace Go.Proofs.YtlodhleihnlchaaGreatDoor
open Go.ChangeShapes Go.WideShapes Go.ChangeAt Go.RowKit

theorem laid_mem {P : Program} {w : World} : ∀ (l : List (String × DataW Unit)) (ps : List MemPlace), DataW.LaidVars P w l ps → ∀ n d, (n, d) ∈ l →
    ∃ g t cs fuel p, P.globalNamed n = some g ∧ (P.globals[g]?).map (·.type) = some t ∧ w.var? P n = some cs ∧ DataW.trod (fun _ => ()) P w 0 (fun _ => true) false fuel t cs.toList = some (d, p)
  | [], _, _, n, d, h => by cases h
  | (n', d') :: r, ps, ⟨g, t, cs, fuel, p, q, h1, h2, h3, h4, h5, _⟩, n, d, h => by
    rcases List.mem_cons.1 h with e | h
    · injection e with e1 e2
      subst e1
      subst e2
      exact ⟨g, t, cs, fuel, p, h1, h2, h3, h4⟩
    · exact laid_mem r q h5 n d h
theorem witness_tabs {H : Type} {enc : TypeId × Value → H} {C : Checked} {os : Os} {f : FuncId} {fn : Func} {s : OpenSpec} {conds : List PathCond} {apart : Bool} {laid : List (String × DataW Unit)} (modest : Bool) (w0 : World) (args : Array Value) (hos : w0.os = os)
    (hsh : (w0.forCall (fun _ _ => 0) ⟨#[], args, []⟩).Shaped C.prog)
    (hok : Input.okWideB C.prog (w0.forCall (fun _ _ => 0) ⟨#[], args, []⟩) f ⟨#[], args, []⟩ = true)
    (hrow : s.preRow enc C.prog fn conds apart laid (w0.forCall (fun _ _ => 0) ⟨#[], args, []⟩).memory args) :
    ∃ (w : World) (tape : Tape) (i : Input), w.os = os ∧ (w.forCall tape i).Shaped C.prog ∧ i.vars = [] ∧ Input.okWide C.prog (w.forCall tape i) .any w.heap.size f i ∧
      s.preRow enc C.prog fn conds apart laid (w.forCall tape i).memory i.args ∧ ({ modest := modest } : Assume).holds C.prog (lone (Frame.enter C.prog f i.args .normal) [] (w.forCall tape i)) :=
  ⟨w0, fun _ _ => 0, ⟨#[], args, []⟩, hos, hsh, (Input.okWide_of_okWideB (base := 0) hok).1, (Input.okWide_of_okWideB hok).2, hrow, by
    simp only [Assume.holds]
    exact ⟨by simp, by simp, fun _ => Modest.zero, by simp, by simp⟩⟩

end Go.Proofs.YtlodhleihnlchaaGreatDoor
namespace Go.Proofs.YtlodhleihnlchaaGreatDoor
open Go.ChangeShapes Go.WideShapes Go.ChangeAt Go.RowKit

theorem gTexts : Tryz.prog.globalNamed "loop.example/g00618/impl.reasonTexts" = some 2 := by kernel_rfl
theorem gTextsType : (Tryz.prog.globals[2]?).map (·.type) = some 219 := by kernel_rfl
theorem cTexts : Tryz.prog.cellsOf 219 = 9 := by kernel_rfl
theorem Texts_at {W : World} {t : TypeId} {cs : Array Value} {fuel g : Nat} {p : List MemPlace} (hg : Tryz.prog.globalNamed "loop.example/g00618/impl.reasonTexts" = some g) (ht : (Tryz.prog.globals[g]?).map (·.type) = some t) (hvar : W.var? Tryz.prog "loop.example/g00618/impl.reasonTexts" = some cs)
    (hd : DataW.trod (fun _ => ()) Tryz.prog W 0 (fun _ => true) false fuel t cs.toList = some (Rows.laid_loop_example_g00618_impl_reasonTexts, p)) : Texts W := by
  obtain rfl := Option.some.inj (gTexts.symm.trans hg)
  obtain rfl := Option.some.inj (gTextsType.symm.trans ht)
  have e := cells_of_words (ss := [[], [100, 97, 110, 101], [110, 111, 45, 100, 97, 110, 101], [97, 99, 116, 105, 118, 101], [98, 97, 99, 107, 117, 112], [111, 116, 104, 101, 114], [101, 120, 112, 105, 114, 101, 100], [102, 105, 114, 115, 116], [114, 101, 102, 117, 115, 101, 100]]) Tryz.underlying219 Tryz.underlying9 cWord cTexts hd
  have c := fun i => World.var?_cell hg hvar i
  have a1 : cs[1]? = some (.string { data := #[100, 97, 110, 101] }) := by rw [← Array.getElem?_toList, e]; rfl
  have a2 : cs[2]? = some (.string { data := #[110, 111, 45, 100, 97, 110, 101] }) := by rw [← Array.getElem?_toList, e]; rfl
  have a3 : cs[3]? = some (.string { data := #[97, 99, 116, 105, 118, 101] }) := by rw [← Array.getElem?_toList, e]; rfl
  have a4 : cs[4]? = some (.string { data := #[98, 97, 99, 107, 117, 112] }) := by rw [← Array.getElem?_toList, e]; rfl
  have a5 : cs[5]? = some (.string { data := #[111, 116, 104, 101, 114] }) := by rw [← Array.getElem?_toList, e]; rfl
  have a6 : cs[6]? = some (.string { data := #[101, 120, 112, 105, 114, 101, 100] }) := by rw [← Array.getElem?_toList, e]; rfl
  have a7 : cs[7]? = some (.string { data := #[102, 105, 114, 115, 116] }) := by rw [← Array.getElem?_toList, e]; rfl
  have a8 : cs[8]? = some (.string { data := #[114, 101, 102, 117, 115, 101, 100] }) := by rw [← Array.getElem?_toList, e]; rfl
  exact ⟨(c 1).trans a1, (c 2).trans a2, (c 3).trans a3, (c 4).trans a4, (c 5).trans a5, (c 6).trans a6, (c 7).trans a7, (c 8).trans a8⟩
noncomputable def laidTexts (os : Os) : World :=
  { World.holding Tryz.prog os ⟨#[], #[], []⟩ with heap := (World.holding Tryz.prog os ⟨#[], #[], []⟩).heap.modify 2 (fun | .cells _ t frozen => .cells #[.string { data := #[] }, .string { data := #[100, 97, 110, 101] }, .string { data := #[110, 111, 45, 100, 97, 110, 101] }, .string { data := #[97, 99, 116, 105, 118, 101] }, .string { data := #[98, 97, 99, 107, 117, 112] }, .string { data := #[111, 116, 104, 101, 114] }, .string { data := #[101, 120, 112, 105, 114, 101, 100] }, .string { data := #[102, 105, 114, 115, 116] }, .string { data := #[114, 101, 102, 117, 115, 101, 100] }] t frozen | o => o) }
end Go.Proofs.YtlodhleihnlchaaGreatDoor
namespace Go.Proofs.YtlodhleihnlchaaGreatDoor
open Go.ChangeShapes Go.WideShapes Go.ChangeAt Go.RowKit

def listT : List (String × DataW Unit) := [("unicode/utf8.acceptRanges", Rows.laid_unicode_utf8_acceptRanges), ("loop.example/g00618/impl.labels", Rows.laid_loop_example_g00618_impl_labels), ("loop.example/g00618/impl.reasonTexts", Rows.laid_loop_example_g00618_impl_reasonTexts), ("unicode.CaseRanges", Rows.laid_unicode_CaseRanges), ("unicode/utf8.first", Rows.laid_unicode_utf8_first)]
theorem Labels_T {W : World} (h : laidMetH Tryz.prog listT W) : Labels W := by
  rw [MakeChecks.laidMetH_plain _ _ _ (by kernel_rfl)] at h
  obtain ⟨ps, hv, _⟩ := h
  obtain ⟨g, t, cs, fuel, p, hg, ht, hvar, hd⟩ := laid_mem _ _ hv "loop.example/g00618/impl.labels" Rows.laid_loop_example_g00618_impl_labels (List.mem_cons_of_mem _ (List.mem_cons_self ..))
  obtain rfl := Option.some.inj (gLabels.symm.trans hg)
  obtain rfl := Option.some.inj (gLabelsType.symm.trans ht)
  have e := cells_of_words (ss := [[115, 116, 114, 101, 97, 109], [104, 101, 97, 114, 100], [110, 111, 110, 99, 101], [115, 105, 103, 110], [109, 97, 99], [115, 101, 97, 108], [115, 112, 107, 105], [114, 111, 108, 108], [109, 97, 115, 116, 101, 114], [118, 101, 114, 105, 102, 121], [102, 105, 110, 105, 115, 104], [117, 112], [100, 111, 119, 110]]) Tryz.underlying178 Tryz.underlying9 cWord cLabels hd
  have c := fun i => World.var?_cell hg hvar i
  have a0 : cs[0]? = some (.string M.streamS) := by rw [← Array.getElem?_toList, e]; rfl
  have a1 : cs[1]? = some (.string M.heardS) := by rw [← Array.getElem?_toList, e]; rfl
  have a2 : cs[2]? = some (.string M.nonceS) := by rw [← Array.getElem?_toList, e]; rfl
  have a3 : cs[3]? = some (.string M.signS) := by rw [← Array.getElem?_toList, e]; rfl
  have a4 : cs[4]? = some (.string M.macS) := by rw [← Array.getElem?_toList, e]; rfl
  have a5 : cs[5]? = some (.string M.sealS) := by rw [← Array.getElem?_toList, e]; rfl
  have a6 : cs[6]? = some (.string M.spkiS) := by rw [← Array.getElem?_toList, e]; rfl
  have a7 : cs[7]? = some (.string M.rollS) := by rw [← Array.getElem?_toList, e]; rfl
  have a8 : cs[8]? = some (.string M.masterS) := by rw [← Array.getElem?_toList, e]; rfl
  have a9 : cs[9]? = some (.string M.verifyS) := by rw [← Array.getElem?_toList, e]; rfl
  have a10 : cs[10]? = some (.string M.finishS) := by rw [← Array.getElem?_toList, e]; rfl
  have a11 : cs[11]? = some (.string M.upS) := by rw [← Array.getElem?_toList, e]; rfl
  have a12 : cs[12]? = some (.string M.downS) := by rw [← Array.getElem?_toList, e]; rfl
  exact ⟨(c 0).trans a0, (c 1).trans a1, (c 2).trans a2, (c 3).trans a3, (c 4).trans a4, (c 5).trans a5, (c 6).trans a6, (c 7).trans a7, (c 8).trans a8, (c 9).trans a9, (c 10).trans a10, (c 11).trans a11, (c 12).trans a12⟩
theorem Texts_T {W : World} (h : laidMetH Tryz.prog listT W) : Texts W := by
  rw [MakeChecks.laidMetH_plain _ _ _ (by kernel_rfl)] at h
  obtain ⟨ps, hv, _⟩ := h
  obtain ⟨g, t, cs, fuel, p, hg, ht, hvar, hd⟩ := laid_mem _ _ hv "loop.example/g00618/impl.reasonTexts" Rows.laid_loop_example_g00618_impl_reasonTexts (List.mem_cons_of_mem _ (List.mem_cons_of_mem _ (List.mem_cons_self ..)))
  exact Texts_at hg ht hvar hd
theorem shapedT (os : Os) (args : Array Value) : ((World.laidAll Tryz.prog os listT).forCall (fun _ _ => 0) ⟨#[], args, []⟩).Shaped Tryz.prog := World.shaped_of_ZipB (by kernel_rfl) (by kernel_rfl)
theorem metT (os : Os) (args : Array Value) : laidMetH Tryz.prog listT ((World.laidAll Tryz.prog os listT).forCall (fun _ _ => 0) ⟨#[], args, []⟩).memory := by
  rw [MakeChecks.laidMetH_plain _ _ _ (by kernel_rfl)]
  exact laidMet_laidAll _ (by kernel_rfl) (by kernel_rfl)
end Go.Proofs.YtlodhleihnlchaaGreatDoor
