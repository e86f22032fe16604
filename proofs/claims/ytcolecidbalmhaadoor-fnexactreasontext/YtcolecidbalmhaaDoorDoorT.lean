/- The program's words for reasons: what the rows list of them, as facts on memory; a world that holds them. No condition. -/
import Derived.Test.YtcolecidbalmhaaDoorDoor
import Derived.Test.YtcolecidbalmhaaDoorC10d
namespace Go.Proofs.YtcolecidbalmhaaDoor
open Go.ChangeShapes Go.WideShapes Go.ChangeAt Go.RowKit

theorem gTexts : Tryd.prog.globalNamed "loop.example/g00618/impl.reasonTexts" = some 0 := by kernel_rfl
theorem gTextsType : (Tryd.prog.globals[0]?).map (·.type) = some 69 := by kernel_rfl
theorem cTexts : Tryd.prog.cellsOf 69 = 9 := by kernel_rfl
/-- What the listed datum of the words gives a walk. -/
theorem Texts_at {W : World} {t : TypeId} {cs : Array Value} {fuel g : Nat} {p : List MemPlace} (hg : Tryd.prog.globalNamed "loop.example/g00618/impl.reasonTexts" = some g) (ht : (Tryd.prog.globals[g]?).map (·.type) = some t) (hvar : W.var? Tryd.prog "loop.example/g00618/impl.reasonTexts" = some cs)
    (hd : DataW.trod (fun _ => ()) Tryd.prog W 0 (fun _ => true) false fuel t cs.toList = some (Rows.laid_loop_example_g00618_impl_reasonTexts, p)) : Texts W := by
  obtain rfl := Option.some.inj (gTexts.symm.trans hg)
  obtain rfl := Option.some.inj (gTextsType.symm.trans ht)
  have e := cells_of_words (ss := [[], [100, 97, 110, 101], [110, 111, 45, 100, 97, 110, 101], [97, 99, 116, 105, 118, 101], [98, 97, 99, 107, 117, 112], [111, 116, 104, 101, 114], [101, 120, 112, 105, 114, 101, 100], [102, 105, 114, 115, 116], [114, 101, 102, 117, 115, 101, 100]]) Tryd.underlying69 Tryd.underlying9 cWord cTexts hd
  have c := fun i => World.var?_cell hg hvar i
  have a1 : cs[1]? = some (.string { data := #[100, 97, 110, 101] }) := by rw [← Array.getElem?_toList, e]; rfl
  have a2 : cs[2]? = some (.string { data := #[110, 111, 45, 100, 97, 110, 101] }) := by rw [← Array.getElem?_toList, e]; rfl
  have a3 : cs[3]? = some (.string { data := #[97, 99, 116, 105, 118, 101] }) := by rw [← Array.getElem?_toList, e]; rfl
  have a4 : cs[4]? = some (.string { data := #[98, 97, 99, 107, 117, 112] }) := by rw [← Array.getElem?_toList, e]; rfl
  have a5 : cs[5]? = some (.string { data := #[111, 116, 104, 101, 114] }) := by rw [← Array.getElem?_toList, e]; rfl
  have a6 : cs[6]? = some (.string { data := #[101, 120, 112, 105, 114, 101, 100] }) := by rw [← Array.getElem?_toList, e]; rfl
  have a7 : cs[7]? = some (.string { data := #[102, 105, 114, 115, 116] }) := by rw [← Array.getElem?_toList, e]; rfl
  have a8 : cs[8]? = some (.string { data := #[114, 101, 102, 117, 115, 101, 100] }) := by rw [← Array.getElem?_toList, e]; rfl
  exact ⟨(c 1).trans a1, (c 2).trans a2, (c 3).trans a3, (c 4).trans a4, (c 5).trans a5, (c 6).trans a6, (c 7).trans a7, (c 8).trans a8⟩
theorem Texts_laid {W : World} (h : laidMetH Tryd.prog [("loop.example/g00618/impl.reasonTexts", Rows.laid_loop_example_g00618_impl_reasonTexts)] W) : Texts W := by
  obtain ⟨ps, ⟨g, t, cs, fuel, p, q, hg, ht, hvar, hd, _, _⟩, _⟩ := (show laidMet Tryd.prog [("loop.example/g00618/impl.reasonTexts", Rows.laid_loop_example_g00618_impl_reasonTexts)] W from h)
  exact Texts_at hg ht hvar hd
/-- A world for the witness. -/
noncomputable def laidTexts (os : Os) : World :=
  { World.holding Tryd.prog os ⟨#[], #[], []⟩ with heap := (World.holding Tryd.prog os ⟨#[], #[], []⟩).heap.modify 0 (fun | .cells _ t frozen => .cells #[.string { data := #[] }, .string { data := #[100, 97, 110, 101] }, .string { data := #[110, 111, 45, 100, 97, 110, 101] }, .string { data := #[97, 99, 116, 105, 118, 101] }, .string { data := #[98, 97, 99, 107, 117, 112] }, .string { data := #[111, 116, 104, 101, 114] }, .string { data := #[101, 120, 112, 105, 114, 101, 100] }, .string { data := #[102, 105, 114, 115, 116] }, .string { data := #[114, 101, 102, 117, 115, 101, 100] }] t frozen | o => o) }
end Go.Proofs.YtcolecidbalmhaaDoor
