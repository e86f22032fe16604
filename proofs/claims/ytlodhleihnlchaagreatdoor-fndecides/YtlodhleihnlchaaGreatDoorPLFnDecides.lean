/- Supplied keys are asked first, then pins, and who comes first last, at every input that is drawn out of whatever bytes. The row's step and the card's: from the walk to the given statement. Conditions: none beside the given statement's own. -/
import Derived.Test.YtlodhleihnlchaaGreatDoorQ10
import Derived.Test.YtlodhleihnlchaaGreatDoorPVFnDecides
import Derived.ProofKit
import Derived.OpenShut
import Derived.ShutString
import Derived.ChangeOld
import Derived.Below
namespace Go.Proofs.YtlodhleihnlchaaGreatDoor.fnDecides
open Go.ChangeShapes Go.WideShapes Go.ChangeAt Go.RowKit
open Go.ChangeMaps (open_string shut_string)
set_option linter.unusedVariables false

set_option maxRecDepth 100000 in
theorem contract (H : Type) (enc : TypeId × Value → H) (W : World) (base : Nat) (args : Array Value) (ds gs : List (DataW H)) (before : List MemPlace)
    (hval0 : ∀ (j : Nat) t v, Tryz.f5.params[j]? = some t → args[j]? = some v → Value.okWide Tryz.prog W .any base t v)
    (hW : DataW.Whole enc Tryz.prog Tryz.f5.params.toList Rows.fnDecidesSpec.vars false W args.toList ds gs before) (hL : laidMetH Tryz.prog Rows.fnDecidesRow.laid W) :
    Calls Tryz.prog 5 args W fun e W' => ∃ v, e = .returned v ∧ Rows.fnDecidesSpec.post enc Tryz.prog Tryz.f5 false true false false W args v W' := by
  have hval := hval0
  have hW' := hW
  obtain ⟨p, q, hA0, hV0, rfl, hfz, hnd⟩ := hW
  have hA : DataW.TrodAll enc Tryz.prog W 0 (fun _ => true) true Tryz.f5.params.toList args.toList ds p := hA0
  have hV : DataW.TrodVars enc Tryz.prog W (fun _ => true) ["loop.example/g00618/impl.labels", "loop.example/g00618/impl.reasonTexts"] gs q := hV0
  rw [Tryz.params5] at hA hval
  obtain ⟨v0, vs0, d0, ds0, p0, q0, hargs, rfl, rfl, h0, r0⟩ := trodAll_cons hA
  obtain ⟨rfl, rfl, rfl⟩ := trodAll_nil r0
  obtain rfl : args = #[v0] := by cases args; simp_all
  have hlt := fun x hx => hW'.lt x (List.mem_append.2 (Or.inr hx))
  have hVk := fun W' bel => vars_keep laidOut (W' := W') bel ["loop.example/g00618/impl.labels", "loop.example/g00618/impl.reasonTexts"] gs q (by kernel_rfl) hV hlt
  obtain ⟨_, _, _, _, g1, _, _, _, _, _, g2, _, rfl, -⟩ := trodVars_two hV
  obtain ⟨a0, len0, cap0, rfl⟩ := okWide_slice Tryz.underlying22 (hval 0 22 v0 rfl rfl)
  have k0 := h0
  have lt0 : ∀ x ∈ p0, x.block < W.heap.size := by obtain ⟨m, hm⟩ := k0; exact DataW.trod_lt m _ _ _ hm
  obtain ⟨z0, w0⟩ : ∃ zs, Row .u8 W W.heap.size a0 len0 cap0 zs := by
    obtain ⟨fuel, hf⟩ := h0
    rcases open_ints Tryz.underlying22 Tryz.underlying5 (by kernel_rfl) hf with ⟨hcs, _⟩ | ⟨x, l, c, zs, hcs, _, hl, hm, hz, _, hcell, hwz⟩
    · simp [Value.cells] at hcs
      obtain ⟨rfl, rfl, rfl⟩ := hcs
      exact ⟨[], Row.nil _ _ _⟩
    · simp [Value.cells] at hcs
      obtain ⟨rfl, rfl, rfl⟩ := hcs
      exact ⟨_, Row.of_open hl hm (by simpa using hz) hcell hwz⟩
  clear hA0 hval0
  refine (walk a0 len0 cap0 z0 W w0 (Labels_T hL) (Texts_T hL)).mono fun e W' ⟨he, bel⟩ => ?_
  subst he
  exact ⟨_, rfl, _, _, _, [], _, q, hW', trodAll_mk1 (shut_bool Tryz.underlying4 _), (trodAll_cons_mk (Below.trod laidOut (by kernel_rfl) (of_decide_eq_true (by kernel_rfl)) k0 bel lt0) trodAll_mk0), hVk W' bel, bel.frame _, fun h => by cases h⟩

theorem laid_met (os : Os) : laidMetH Tryz.prog Rows.fnDecidesRow.laid ((World.laidAll Tryz.prog os listT).forCall (fun _ _ => 0) ⟨#[], #[.slice none 0 0], []⟩).memory := metT os _
theorem reads (os : Os) {H : Type} (enc : TypeId × Value → H) : ∃ places, DataW.whole enc Tryz.prog ((World.laidAll Tryz.prog os listT).forCall (fun _ _ => 0) ⟨#[], #[.slice none 0 0], []⟩).memory Tryz.f5.params.toList Rows.fnDecidesSpec.vars false #[.slice none 0 0].toList 8 = some ([.nil], [Rows.laid_loop_example_g00618_impl_labels, Rows.laid_loop_example_g00618_impl_reasonTexts], places) :=
  ⟨MemPlace.row ⟨1, 0, none⟩ 13 ++ MemPlace.row ⟨2, 0, none⟩ 9, by kernel_rfl⟩

set_option maxRecDepth 100000 in
theorem lifted (os : Os) (started : os.Started) (H : Type) (enc : TypeId × Value → H) (F : Stop.Interp) :
    ReturnsInHanded {} Tryz.checked os 5 .any ((OpenSpec.ofChange Rows.fnDecidesSpec).preRow enc Tryz.prog Tryz.f5 Rows.fnDecidesRow.domain false Rows.fnDecidesRow.laid) (((OpenSpec.ofChange Rows.fnDecidesSpec).at F).post enc Tryz.prog Tryz.f5 false true false false) := by
  obtain ⟨places, hx⟩ := reads os enc
  refine returnsInHanded_of_row (C := Tryz.checked) (s := OpenSpec.ofChange Rows.fnDecidesSpec) own started (by kernel_rfl) Tryz.func5
    (witness_tabs (enc := enc) (C := Tryz.checked) false (World.laidAll Tryz.prog os listT) #[.slice none 0 0] (World.laidAll_os _ _ _) (shapedT os _) (by kernel_rfl)
      (OpenSpec.preRow_of_cond 8 hx (by kernel_rfl) (fun k hk => by cases hk) (by kernel_rfl) (laid_met os))) ?_
  intro W base args ds gs before hval hW _ _ _ hL _ _
  exact contract H enc W base args ds gs before hval hW hL

set_option maxRecDepth 100000 in
theorem in_place : Rows.fnDecidesRow.inPlace = Tryz.prog.inPlace 5 := by kernel_rfl
set_option maxRecDepth 100000 in
theorem unfollowed : Rows.fnDecidesRow.unfollowed = Tryz.prog.unfollowed 5 := by kernel_rfl
set_option maxRecDepth 100000 in
theorem recurses : Rows.fnDecidesRow.recurses = Tryz.prog.recurses 5 := by kernel_rfl
set_option maxRecDepth 100000 in
theorem named : Rows.fnDecidesRow.named = Tryz.prog.varsNamed 5 := by kernel_rfl

set_option maxRecDepth 100000 in
theorem said : Rows.FnDecidesSaid :=
  OpenClaim.holds_of_cond 5 Tryz.f5 rfl rfl rfl rfl rfl rfl rfl ⟨rfl, rfl, rfl, rfl, rfl⟩ rfl rfl rfl rfl rfl (by kernel_rfl) Tryz.func5 (Facts.joined_of Facts.laidOut Facts.mapsRowed Facts.stopsHeard Facts.mayEnter (by kernel_rfl) (by kernel_rfl) (by kernel_rfl) (by kernel_rfl) (by kernel_rfl) (by kernel_rfl) (by kernel_rfl) in_place unfollowed recurses named (by kernel_rfl) (by kernel_rfl) (by kernel_rfl) (by kernel_rfl) (by kernel_rfl) (by kernel_rfl) (by kernel_rfl) (by kernel_rfl) (by kernel_rfl) Facts.plainKeys (by kernel_rfl) Facts.liftsFinal Facts.make (by kernel_rfl) (by kernel_rfl) (by kernel_rfl) (by kernel_rfl))
    (of_decide_eq_true (by kernel_rfl)) (by unfold Func.isWrapper; first | (rw [if_pos (by decide +kernel)]; kernel_rfl) | (rw [if_neg (by decide +kernel)]; exact ⟨rfl, rfl⟩))
    (fun os started H enc _ F => by rw [OpenClaim.pre_eq_preRow]; exact lifted os started H enc F)

/-- No parameter wants a stand-in; the program's own looks are off. -/
theorem plain (f : FuncId) (fn : Func) (hf : Tryz.pinned.checked.prog.funcNamed "loop.example/g00618/laws.FnDecides" = some f) (hfn : Tryz.pinned.checked.prog.funcs[f]? = some fn) :
    true = Tryz.pinned.checked.prog.looks [] ∧ ∀ (j : Nat) t, fn.params[j]? = some t → Tryz.pinned.checked.prog.wantsStandIn t = false := by
  obtain rfl : f = 5 := Option.some.inj ((show Tryz.prog.funcNamed "loop.example/g00618/laws.FnDecides" = some 5 by kernel_rfl).symm.trans hf) |>.symm
  obtain rfl : fn = Tryz.f5 := (Option.some.inj (Tryz.func5.symm.trans hfn)).symm
  have hall : (Tryz.f5.params.toList.all fun t => !Tryz.pinned.checked.prog.wantsStandIn t) = true := by kernel_rfl
  refine ⟨by kernel_rfl, fun j t ht => ?_⟩
  have hm := List.all_eq_true.1 hall t (Array.mem_def.1 (Array.mem_of_getElem? ht))
  simpa using hm

end Go.Proofs.YtlodhleihnlchaaGreatDoor.fnDecides
namespace Go.Proofs.YtlodhleihnlchaaGreatDoor
/-- The given statement. -/
theorem fnDecides_holds : Rows.FnDecidesCardSaid :=
  Claim7.holds_tied_plain_at .later [] _ _ _ _ fnDecides.said (fun _ h => by cases h) (by kernel_rfl) (fun _ h => by cases h) fnDecides_row_tie rfl ⟨rfl, rfl⟩ (by kernel_rfl) rfl fnDecides.plain (by kernel_rfl)
#print axioms fnDecides_holds
end Go.Proofs.YtlodhleihnlchaaGreatDoor
