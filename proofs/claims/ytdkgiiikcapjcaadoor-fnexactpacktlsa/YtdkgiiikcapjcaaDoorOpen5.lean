/- A supplied key, opened as an argument. No condition. -/
import Derived.Test.YtdkgiiikcapjcaaDoorBase
import Derived.Lib.SmallJoins
import Derived.OpenShut
namespace Go.Proofs.YtdkgiiikcapjcaaDoor
open Go.Joins Go.ChangeShapes Go.WideShapes Go.RowKit Go.Deep

theorem open_tlsa {H : Type} {enc : TypeId × Value → H} {P : Program} {w : World} {r : Reach} {b0 : Nat} {t : TypeId} {f0 f1 f2 f3 : Field} {v : Value} {d : DataW H} {p : List MemPlace}
    (hs : P.underlying t = some (.struct #[f0, f1, f2, f3])) (e0 : P.underlying f0.type = some .string) (e1 : P.underlying f1.type = some (.int .i64)) (e2 : P.underlying f2.type = some (.int .i64)) (e3 : P.underlying f3.type = some (.int .i64))
    (hone : oneCellFields P #[f0, f1, f2, f3] = true) (hC : P.cellsOf t = 4)
    (hv : Value.okWide P w r b0 t v) (h : DataW.Trod enc P w 0 (fun _ => true) true t v d p) :
    ∃ (n : ByteArray) (u m q : Int), v = .agg #[.string n, .int .i64 u, .int .i64 m, .int .i64 q] ∧ n.size ≤ maxLen ∧ (Lit.int .i64 u).wf = true ∧ (Lit.int .i64 m).wf = true ∧ (Lit.int .i64 q).wf = true := by
  obtain ⟨v0, v1, v2, v3, y0, y1, y2, y3, n, rfl, -, -, h0, h1, h2, h3⟩ := open_agg4 hs hone hC hv h
  obtain ⟨s, hx0, -, ws⟩ := DataW.trod_string e0 h0
  obtain ⟨u, hx1, -, wu⟩ := DataW.trod_int e1 h1
  obtain ⟨m, hx2, -, wm⟩ := DataW.trod_int e2 h2
  obtain ⟨q, hx3, -, wq⟩ := DataW.trod_int e3 h3
  simp only [List.cons.injEq, and_true] at hx0 hx1 hx2 hx3
  subst hx0; subst hx1; subst hx2; subst hx3
  exact ⟨s, u, m, q, rfl, ws, wu, wm, wq⟩
end Go.Proofs.YtdkgiiikcapjcaaDoor
