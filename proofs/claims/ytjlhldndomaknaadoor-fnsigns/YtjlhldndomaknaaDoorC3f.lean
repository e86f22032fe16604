/- Contracts of how signatures are read out of bytes, by the program and by its model. Conditions: as each theorem states. -/
import Derived.Test.YtjlhldndomaknaaDoorC3e
import Derived.Test.YtjlhldndomaknaaDoorLine
namespace Go.Proofs.YtjlhldndomaknaaDoor
open Go.RowKit
set_option maxRecDepth 100000
set_option linter.unusedVariables false

/-- What four bytes are, cell by cell. -/
theorem row_four {w : World} {B : Nat} {a : Option Addr} {cap : Nat} {zs : List Int} (hR : Row .u8 w B a 4 cap zs) :
    ∃ b off, ∃ x y u v : Int, a = some ⟨b, off, none⟩ ∧ zs = [x, y, u, v] ∧ w.cell? ⟨b, off, none⟩ = some (.int .u8 x) ∧ w.cell? ⟨b, off + 1, none⟩ = some (.int .u8 y) ∧ w.cell? ⟨b, off + 2, none⟩ = some (.int .u8 u) ∧ w.cell? ⟨b, off + 3, none⟩ = some (.int .u8 v) ∧
      0 ≤ x ∧ x ≤ 255 ∧ 0 ≤ y ∧ y ≤ 255 ∧ 0 ≤ u ∧ u ≤ 255 ∧ 0 ≤ v ∧ v ≤ 255 := by
  obtain ⟨b, off, ha, _, hc⟩ := hR.cells (by omega)
  have b0 := hR.byte 0
  have b1 := hR.byte 1
  have b2 := hR.byte 2
  have b3 := hR.byte 3
  have h0 := hc 0 (by omega)
  have h1 := hc 1 (by omega)
  have h2 := hc 2 (by omega)
  have h3 := hc 3 (by omega)
  have hl := hR.length
  match zs, hl with
  | [x, y, u, v], _ =>
    refine ⟨b, off, x, y, u, v, ha, rfl, h0, h1, h2, h3, b0.1, b0.2, b1.1, b1.2, b2.1, b2.2, b3.1, b3.2⟩

theorem readR_no {zs : List Int} (h : M.readB zs = false) : M.readR zs = (5, 0, 0) := by simp [M.readR, h]
theorem readR_yes {zs : List Int} (h : M.readB zs = true) : M.readR zs = (0, M.readP zs, M.readQ zs) := by simp [M.readR, h]

end Go.Proofs.YtjlhldndomaknaaDoor
