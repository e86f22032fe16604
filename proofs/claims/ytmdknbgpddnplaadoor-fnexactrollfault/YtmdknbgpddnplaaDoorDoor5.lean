/- What the rows of chapter 8 list: the tables and the handle, with the labels or without: what the list gives a walk; a world that holds it all. No condition. -/
import Derived.Test.YtmdknbgpddnplaaDoorDoor2
namespace Go.Proofs.YtmdknbgpddnplaaDoor
open Go.ChangeShapes Go.WideShapes Go.ChangeAt Go.RowKit

/-- What the rows list: with the labels. -/
def listP : List (String × DataW Unit) := [("unicode/utf8.acceptRanges", Rows.laid_unicode_utf8_acceptRanges), ("errors.errorType", Rows.laid_errors_errorType), ("loop.example/g00618/impl.labels", Rows.laid_loop_example_g00618_impl_labels), ("unicode.CaseRanges", Rows.laid_unicode_CaseRanges), ("unicode/utf8.first", Rows.laid_unicode_utf8_first)]
/-- Without them. -/
def listE : List (String × DataW Unit) := [("unicode/utf8.acceptRanges", Rows.laid_unicode_utf8_acceptRanges), ("errors.errorType", Rows.laid_errors_errorType), ("unicode.CaseRanges", Rows.laid_unicode_CaseRanges), ("unicode/utf8.first", Rows.laid_unicode_utf8_first)]
/-- A world with the handle in its place. -/
noncomputable def heldW (os : Os) : World :=
  { World.holding Tryd.prog os ⟨#[], #[], []⟩ with heap := (World.holding Tryd.prog os ⟨#[], #[], []⟩).heap.modify 1 (fun | .cells _ t frozen => .cells #[.iface 109 (.agg #[.pointer (some ⟨6, 49, none⟩)])] t frozen | o => o) }
theorem laidMet_on {P : Program} {w0 : World} {laid : List (String × DataW Unit)} (args : Array Value) (hf : w0.layFits P laid [] = true) (hi : w0.layIfaces P laid (w0.layVars P laid) = true) :
    laidMet P laid ((w0.layVars P laid).forCall (fun _ _ => 0) ⟨#[], args, []⟩).memory := by
  have e1 : (laid.filter fun x => (laid.map (·.1)).contains x.1) = laid := List.filter_eq_self.2 fun x hx => List.contains_iff_mem.2 (List.mem_map.2 ⟨x, hx, rfl⟩)
  have e2 : (laid.filter fun x => !(laid.map (·.1)).contains x.1) = [] := List.filter_eq_nil_iff.2 fun x hx => by rw [List.contains_iff_mem.2 (List.mem_map.2 ⟨x, hx, rfl⟩)]; simp
  have h : laidMet P laid (w0.layVars P laid) := laidMet_layVars (w0 := w0) (laid.map (·.1)) [] (by rw [e1]) (by rw [e1]; exact hf) (by rw [e1]; exact hi) (by rw [e2]; exact LaidIn.none)
  exact h.of_heap (by simp [World.memory, World.forCall, Input.heap])
theorem listP_handle : (listP.filter fun x => x.2.handleName?.isSome) = [("errors.errorType", Rows.laid_errors_errorType)] := by kernel_rfl
theorem listP_plain : (listP.filter fun x => x.2.handleName?.isNone) = listL := by kernel_rfl
theorem all_P {W : World} (h : laidMetH Tryd.prog listP W) : laidMet Tryd.prog listL W ∧ handlesMet Tryd.prog [("errors.errorType", Rows.laid_errors_errorType)] W := by
  unfold laidMetH at h
  rw [listP_handle, listP_plain] at h
  exact h
theorem ErrT_P {W : World} (h : laidMetH Tryd.prog listP W) : ErrT W := ErrT_of (all_P h).2
noncomputable def laidP (os : Os) : World := (heldW os).layVars Tryd.prog listL
theorem laidP_os (os : Os) : (laidP os).os = os := World.layVars_os _ _ _
theorem shapedP (os : Os) (args : Array Value) : ((laidP os).forCall (fun _ _ => 0) ⟨#[], args, []⟩).Shaped Tryd.prog := World.shaped_of_ZipB (by kernel_rfl) (by kernel_rfl)
theorem metP (os : Os) (args : Array Value) : laidMetH Tryd.prog listP ((laidP os).forCall (fun _ _ => 0) ⟨#[], args, []⟩).memory :=
  laidMetH_of_parts (by rw [listP_plain]; exact laidMet_on args (by kernel_rfl) (by kernel_rfl)) (by rw [listP_handle]; kernel_rfl)

theorem listE_handle : (listE.filter fun x => x.2.handleName?.isSome) = [("errors.errorType", Rows.laid_errors_errorType)] := by kernel_rfl
theorem listE_plain : (listE.filter fun x => x.2.handleName?.isNone) = listN := by kernel_rfl
theorem all_E {W : World} (h : laidMetH Tryd.prog listE W) : laidMet Tryd.prog listN W ∧ handlesMet Tryd.prog [("errors.errorType", Rows.laid_errors_errorType)] W := by
  unfold laidMetH at h
  rw [listE_handle, listE_plain] at h
  exact h
theorem ErrT_E {W : World} (h : laidMetH Tryd.prog listE W) : ErrT W := ErrT_of (all_E h).2
noncomputable def laidE (os : Os) : World := (heldW os).layVars Tryd.prog listN
theorem laidE_os (os : Os) : (laidE os).os = os := World.layVars_os _ _ _
theorem shapedE (os : Os) (args : Array Value) : ((laidE os).forCall (fun _ _ => 0) ⟨#[], args, []⟩).Shaped Tryd.prog := World.shaped_of_ZipB (by kernel_rfl) (by kernel_rfl)
theorem metE (os : Os) (args : Array Value) : laidMetH Tryd.prog listE ((laidE os).forCall (fun _ _ => 0) ⟨#[], args, []⟩).memory :=
  laidMetH_of_parts (by rw [listE_plain]; exact laidMet_on args (by kernel_rfl) (by kernel_rfl)) (by rw [listE_handle]; kernel_rfl)

theorem Labels_P {W : World} (h : laidMetH Tryd.prog listP W) : Labels W := by
  obtain ⟨ps, hv, _⟩ := (all_P h).1
  obtain ⟨g, t, cs, fuel, p, hg, ht, hvar, hd⟩ := laid_mem _ _ hv "loop.example/g00618/impl.labels" Rows.laid_loop_example_g00618_impl_labels (List.mem_cons_of_mem _ (List.mem_cons_self ..))
  obtain rfl := Option.some.inj (gLabels.symm.trans hg)
  obtain rfl := Option.some.inj (gLabelsType.symm.trans ht)
  have e := cells_of_words (ss := [[115, 116, 114, 101, 97, 109], [104, 101, 97, 114, 100], [110, 111, 110, 99, 101], [115, 105, 103, 110], [109, 97, 99], [115, 101, 97, 108], [115, 112, 107, 105], [114, 111, 108, 108]]) Tryd.underlying85 Tryd.underlying9 cWord cLabels hd
  have c := fun i => World.var?_cell hg hvar i
  have a0 : cs[0]? = some (.string M.streamS) := by rw [← Array.getElem?_toList, e]; rfl
  have a1 : cs[1]? = some (.string M.heardS) := by rw [← Array.getElem?_toList, e]; rfl
  have a2 : cs[2]? = some (.string M.nonceS) := by rw [← Array.getElem?_toList, e]; rfl
  have a3 : cs[3]? = some (.string M.signS) := by rw [← Array.getElem?_toList, e]; rfl
  have a4 : cs[4]? = some (.string M.macS) := by rw [← Array.getElem?_toList, e]; rfl
  have a5 : cs[5]? = some (.string M.sealS) := by rw [← Array.getElem?_toList, e]; rfl
  have a6 : cs[6]? = some (.string M.spkiS) := by rw [← Array.getElem?_toList, e]; rfl
  have a7 : cs[7]? = some (.string M.rollS) := by rw [← Array.getElem?_toList, e]; rfl
  exact ⟨(c 0).trans a0, (c 1).trans a1, (c 2).trans a2, (c 3).trans a3, (c 4).trans a4, (c 5).trans a5, (c 6).trans a6, (c 7).trans a7⟩
end Go.Proofs.YtmdknbgpddnplaaDoor
