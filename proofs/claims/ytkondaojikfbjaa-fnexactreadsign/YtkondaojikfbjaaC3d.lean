/- Contracts of the exported functions of chapter 3 and of their model's: nonces, signatures and how they are checked. Conditions: as each theorem states. -/
import Derived.Test.YtkondaojikfbjaaC3c
namespace Go.Proofs.Ytkondaojikfbjaa
open Go.RowKit
set_option maxRecDepth 100000

/-- The cells of a result that is not yet told. -/
structure Res2 (g : Nat) (w : World) : Prop where
  c0 : w.cell? ⟨g, 0, none⟩ = some (.int .i64 0)
  c1 : w.cell? ⟨g, 1, none⟩ = some (.int .i64 0)
  f0 : w.frozen? ⟨g, 0, none⟩ = false
  f1 : w.frozen? ⟨g, 1, none⟩ = false
theorem Res2.new (w : World) (t : TypeId) : Res2 w.heap.size (w.alloc (.cells #[.int .i64 0, .int .i64 0] t)) := ⟨by go_simp, by go_simp, by go_simp, by go_simp⟩
theorem Res2.on {g : Nat} {w w' : World} (h : Res2 g w) (hb : Below w.heap.size w w') : Res2 g w' :=
  ⟨cell_keep hb h.c0, cell_keep hb h.c1, (hb.frozen (p := ⟨g, 0, none⟩) (cell_lt h.c0)).trans h.f0, (hb.frozen (p := ⟨g, 1, none⟩) (cell_lt h.c1)).trans h.f1⟩
structure Res3 (g : Nat) (w : World) : Prop where
  c0 : w.cell? ⟨g, 0, none⟩ = some (.int .i64 0)
  c1 : w.cell? ⟨g, 1, none⟩ = some (.int .i64 0)
  c2 : w.cell? ⟨g, 2, none⟩ = some (.int .i64 0)
  f0 : w.frozen? ⟨g, 0, none⟩ = false
  f1 : w.frozen? ⟨g, 1, none⟩ = false
  f2 : w.frozen? ⟨g, 2, none⟩ = false
theorem Res3.new (w : World) (t : TypeId) : Res3 w.heap.size (w.alloc (.cells #[.int .i64 0, .int .i64 0, .int .i64 0] t)) := ⟨by go_simp, by go_simp, by go_simp, by go_simp, by go_simp, by go_simp⟩
theorem Res3.on {g : Nat} {w w' : World} (h : Res3 g w) (hb : Below w.heap.size w w') : Res3 g w' :=
  ⟨cell_keep hb h.c0, cell_keep hb h.c1, cell_keep hb h.c2, (hb.frozen (p := ⟨g, 0, none⟩) (cell_lt h.c0)).trans h.f0, (hb.frozen (p := ⟨g, 1, none⟩) (cell_lt h.c1)).trans h.f1, (hb.frozen (p := ⟨g, 2, none⟩) (cell_lt h.c2)).trans h.f2⟩
theorem signer_split {s t : Int} (h : (inB s 1 1438 && M.sumB t) = true) : inB s 1 1438 = true ∧ M.sumB t = true := by simpa using h

end Go.Proofs.Ytkondaojikfbjaa
