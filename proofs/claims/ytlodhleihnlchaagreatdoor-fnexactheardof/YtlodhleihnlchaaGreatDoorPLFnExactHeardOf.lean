/- The function HeardOf answers, at every argument, as its model does. The row's step and the card's: from the walk to the given statement. Conditions: none beside the given statement's own. -/
import Derived.Test.YtlodhleihnlchaaGreatDoorE8
import Derived.Test.YtlodhleihnlchaaGreatDoorPVFnExactHeardOf
import Derived.ProofKit
import Derived.OpenShut
import Derived.ShutString
import Derived.ChangeOld
import Derived.Below
namespace Go.Proofs.YtlodhleihnlchaaGreatDoor.fnExactHeardOf
open Go.ChangeShapes Go.WideShapes Go.ChangeAt Go.RowKit
open Go.ChangeMaps (open_string shut_string)
set_option linter.unusedVariables false

set_option maxRecDepth 100000 in
theorem contract (H : Type) (enc : TypeId × Value → H) (W : World) (base : Nat) (args : Array Value) (ds gs : List (DataW H)) (before : List MemPlace)
    (hval0 : ∀ (j : Nat) t v, Tryz.f8.params[j]? = some t → args[j]? = some v → Value.okWide Tryz.prog W .any base t v)
    (hW : DataW.Whole enc Tryz.prog Tryz.f8.params.toList Rows.fnExactHeardOfSpec.vars false W args.toList ds gs before) (hL : laidMetH Tryz.prog Rows.fnExactHeardOfRow.laid W) :
    Calls Tryz.prog 8 args W fun e W' => ∃ v, e = .returned v ∧ Rows.fnExactHeardOfSpec.post enc Tryz.prog Tryz.f8 false true false false W args v W' := by
  have hval := hval0
  have hW' := hW
  obtain ⟨p, q, hA0, hV0, rfl, hfz, hnd⟩ := hW
  have hA : DataW.TrodAll enc Tryz.prog W 0 (fun _ => true) true Tryz.f8.params.toList args.toList ds p := hA0
  have hV : DataW.TrodVars enc Tryz.prog W (fun _ => true) ["loop.example/g00618/impl.labels"] gs q := hV0
  rw [Tryz.params8] at hA hval
  obtain ⟨v0, vs0, d0, ds0, p0, q0, hargs, rfl, rfl, h0, r0⟩ := trodAll_cons hA
  obtain ⟨v1, vs1, d1, ds1, p1, q1, rfl, rfl, rfl, h1, r1⟩ := trodAll_cons r0
  obtain ⟨rfl, rfl, rfl⟩ := trodAll_nil r1
  obtain rfl : args = #[v0, v1] := by cases args; simp_all
  have hlt := fun x hx => hW'.lt x (List.mem_append.2 (Or.inr hx))
  have hVk := fun W' bel => vars_keep laidOut (W' := W') bel ["loop.example/g00618/impl.labels"] gs q (by kernel_rfl) hV hlt
  obtain ⟨g, t, cs, fuel, d, p', rfl, hg, ht, hvar, hd, hq⟩ := trodVars_one hV
  have k0 := h0
  have lt0 : ∀ x ∈ p0, x.block < W.heap.size := by obtain ⟨m, hm⟩ := k0; exact DataW.trod_lt m _ _ _ hm
  obtain ⟨a0r, a0s, a0n, rfl, w0r, w0s, w0n⟩ := open_hello Tryz.underlying133 Tryz.underlying2 Tryz.underlying2 Tryz.underlying9 (by kernel_rfl) (by kernel_rfl) (hval 0 133 v0 rfl rfl) h0
  have k1 := h1
  have lt1 : ∀ x ∈ p1, x.block < W.heap.size := by obtain ⟨m, hm⟩ := k1; exact DataW.trod_lt m _ _ _ hm
  obtain ⟨a1r, a1s, a1p, a1x, a1y, a1f, rfl, w1r, w1s, w1p, w1x, w1y, w1f⟩ := open_reply Tryz.underlying136 Tryz.underlying2 Tryz.underlying2 Tryz.underlying2 Tryz.underlying134 Tryz.underlying2 Tryz.underlying2 Tryz.underlying2 rfl (by kernel_rfl) (by kernel_rfl) (hval 1 136 v1 rfl rfl) h1
  clear hA0 hval0
  refine (walk a0r a0s a0n a1r a1s a1p a1x a1y a1f W w0r w0s w0n w1r w1s w1p w1x w1y w1f (Labels_P hL) (ErrT_P hL)).mono fun e W' ⟨he, bel⟩ => ?_
  subst he
  exact ⟨_, rfl, _, _, _, [], _, q, hW', trodAll_mk1 (shut_bool Tryz.underlying4 _), (trodAll_cons_mk (Below.trod laidOut (by kernel_rfl) (of_decide_eq_true (by kernel_rfl)) k0 bel lt0) (trodAll_cons_mk (Below.trod laidOut (by kernel_rfl) (of_decide_eq_true (by kernel_rfl)) k1 bel lt1) trodAll_mk0)), hVk W' bel, bel.frame _, fun h => by cases h⟩

theorem laid_met (os : Os) : laidMetH Tryz.prog Rows.fnExactHeardOfRow.laid ((laidP os).forCall (fun _ _ => 0) ⟨#[], #[.agg #[.int .i64 0, .int .i64 0, .string ByteArray.empty], .agg #[.int .i64 0, .int .i64 0, .int .i64 0, .int .i64 0, .int .i64 0, .int .i64 0]], []⟩).memory := metP os _
theorem reads (os : Os) {H : Type} (enc : TypeId × Value → H) : ∃ places, DataW.whole enc Tryz.prog ((laidP os).forCall (fun _ _ => 0) ⟨#[], #[.agg #[.int .i64 0, .int .i64 0, .string ByteArray.empty], .agg #[.int .i64 0, .int .i64 0, .int .i64 0, .int .i64 0, .int .i64 0, .int .i64 0]], []⟩).memory Tryz.f8.params.toList Rows.fnExactHeardOfSpec.vars false #[.agg #[.int .i64 0, .int .i64 0, .string ByteArray.empty], .agg #[.int .i64 0, .int .i64 0, .int .i64 0, .int .i64 0, .int .i64 0, .int .i64 0]].toList 8 = some ([.agg [.lit (.int .i64 0), .lit (.int .i64 0), .lit (.string [])], .agg [.lit (.int .i64 0), .lit (.int .i64 0), .lit (.int .i64 0), .agg [.lit (.int .i64 0), .lit (.int .i64 0)], .lit (.int .i64 0)]], [Rows.laid_loop_example_g00618_impl_labels], places) :=
  ⟨MemPlace.row ⟨1, 0, none⟩ 13, by kernel_rfl⟩

set_option maxRecDepth 100000 in
theorem lifted (os : Os) (started : os.Started) (H : Type) (enc : TypeId × Value → H) (F : Stop.Interp) :
    ReturnsInHanded {} Tryz.checked os 8 .any ((OpenSpec.ofChange Rows.fnExactHeardOfSpec).preRow enc Tryz.prog Tryz.f8 Rows.fnExactHeardOfRow.domain false Rows.fnExactHeardOfRow.laid) (((OpenSpec.ofChange Rows.fnExactHeardOfSpec).at F).post enc Tryz.prog Tryz.f8 false true false false) := by
  obtain ⟨places, hx⟩ := reads os enc
  refine returnsInHanded_of_row (C := Tryz.checked) (s := OpenSpec.ofChange Rows.fnExactHeardOfSpec) own started (by kernel_rfl) Tryz.func8
    (witness_tabs (enc := enc) (C := Tryz.checked) false (laidP os) #[.agg #[.int .i64 0, .int .i64 0, .string ByteArray.empty], .agg #[.int .i64 0, .int .i64 0, .int .i64 0, .int .i64 0, .int .i64 0, .int .i64 0]] (laidP_os os) (shapedP os _) (by kernel_rfl)
      (OpenSpec.preRow_of_cond 8 hx (by kernel_rfl) (fun k hk => by cases hk) (by kernel_rfl) (laid_met os))) ?_
  intro W base args ds gs before hval hW _ _ _ hL _ _
  exact contract H enc W base args ds gs before hval hW hL

set_option maxRecDepth 100000 in
theorem in_place : Rows.fnExactHeardOfRow.inPlace = Tryz.prog.inPlace 8 := by kernel_rfl
set_option maxRecDepth 100000 in
theorem unfollowed : Rows.fnExactHeardOfRow.unfollowed = Tryz.prog.unfollowed 8 := by kernel_rfl
set_option maxRecDepth 100000 in
theorem recurses : Rows.fnExactHeardOfRow.recurses = Tryz.prog.recurses 8 := by kernel_rfl
set_option maxRecDepth 100000 in
theorem named : Rows.fnExactHeardOfRow.named = Tryz.prog.varsNamed 8 := by kernel_rfl

set_option maxRecDepth 100000 in
theorem said : Rows.FnExactHeardOfSaid :=
  OpenClaim.holds_of_cond 8 Tryz.f8 rfl rfl rfl rfl rfl rfl rfl ⟨rfl, rfl, rfl, rfl, rfl⟩ rfl rfl rfl rfl rfl (by kernel_rfl) Tryz.func8 (Facts.joined_of Facts.laidOut Facts.mapsRowed Facts.stopsHeard Facts.mayEnter (by kernel_rfl) (by kernel_rfl) (by kernel_rfl) (by kernel_rfl) (by kernel_rfl) (by kernel_rfl) (by kernel_rfl) in_place unfollowed recurses named (by kernel_rfl) (by kernel_rfl) (by kernel_rfl) (by kernel_rfl) (by kernel_rfl) (by kernel_rfl) (by kernel_rfl) (by kernel_rfl) (by kernel_rfl) Facts.plainKeys (by kernel_rfl) Facts.liftsFinal Facts.make (by kernel_rfl) (by kernel_rfl) (by kernel_rfl) (by kernel_rfl))
    (of_decide_eq_true (by kernel_rfl)) (by unfold Func.isWrapper; first | (rw [if_pos (by decide +kernel)]; kernel_rfl) | (rw [if_neg (by decide +kernel)]; exact ⟨rfl, rfl⟩))
    (fun os started H enc _ F => by rw [OpenClaim.pre_eq_preRow]; exact lifted os started H enc F)

/-- No parameter wants a stand-in; the program's own looks are off. -/
theorem plain (f : FuncId) (fn : Func) (hf : Tryz.pinned.checked.prog.funcNamed "loop.example/g00618/laws.FnExactHeardOf" = some f) (hfn : Tryz.pinned.checked.prog.funcs[f]? = some fn) :
    true = Tryz.pinned.checked.prog.looks [] ∧ ∀ (j : Nat) t, fn.params[j]? = some t → Tryz.pinned.checked.prog.wantsStandIn t = false := by
  obtain rfl : f = 8 := Option.some.inj ((show Tryz.prog.funcNamed "loop.example/g00618/laws.FnExactHeardOf" = some 8 by kernel_rfl).symm.trans hf) |>.symm
  obtain rfl : fn = Tryz.f8 := (Option.some.inj (Tryz.func8.symm.trans hfn)).symm
  have hall : (Tryz.f8.params.toList.all fun t => !Tryz.pinned.checked.prog.wantsStandIn t) = true := by kernel_rfl
  refine ⟨by kernel_rfl, fun j t ht => ?_⟩
  have hm := List.all_eq_true.1 hall t (Array.mem_def.1 (Array.mem_of_getElem? ht))
  simpa using hm

end Go.Proofs.YtlodhleihnlchaaGreatDoor.fnExactHeardOf
namespace Go.Proofs.YtlodhleihnlchaaGreatDoor
/-- The given statement. -/
theorem fnExactHeardOf_holds : Rows.FnExactHeardOfCardSaid :=
  Claim7.holds_tied_plain_at .later [] _ _ _ _ fnExactHeardOf.said (fun _ h => by cases h) (by kernel_rfl) (fun _ h => by cases h) fnExactHeardOf_row_tie rfl ⟨rfl, rfl⟩ (by kernel_rfl) rfl fnExactHeardOf.plain (by kernel_rfl)
#print axioms fnExactHeardOf_holds
end Go.Proofs.YtlodhleihnlchaaGreatDoor
