/- A record, opened as an argument. No condition. -/
import Derived.Test.YtjlhldndomaknaaDoorC4a
import Derived.Lib.SmallJoins
import Derived.OpenShut
namespace Go.Proofs.YtjlhldndomaknaaDoor
open Go.Joins Go.ChangeShapes Go.WideShapes Go.RowKit Go.Deep

theorem open_rec {H : Type} {enc : TypeId × Value → H} {P : Program} {w : World} {r : Reach} {b0 : Nat} {t e : TypeId} {f0 f1 f2 f3 : Field} {v : Value} {d : DataW H} {p : List MemPlace}
    (hs : P.underlying t = some (.struct #[f0, f1, f2, f3])) (e0 : P.underlying f0.type = some (.int .i64)) (e1 : P.underlying f1.type = some (.int .i64)) (e2 : P.underlying f2.type = some (.slice e)) (ee : P.underlying e = some (.int .u8)) (e3 : P.underlying f3.type = some (.int .i64))
    (hone : oneCellFields P #[f0, f1, f2, f3] = true) (hC : P.cellsOf t = 4) (hc : P.cellsOf e = 1)
    (hv : Value.okWide P w r b0 t v) (h : DataW.Trod enc P w 0 (fun _ => true) true t v d p) :
    ∃ (s k : Int) (a : Option Addr) (n c : Nat) (zs : List Int) (q : Int), v = .agg #[.int .i64 s, .int .i64 k, .slice a n c, .int .i64 q] ∧ (Lit.int .i64 s).wf = true ∧ (Lit.int .i64 k).wf = true ∧ (Lit.int .i64 q).wf = true ∧ Row .u8 w w.heap.size a n c zs := by
  obtain ⟨v0, v1, v2, v3, y0, y1, y2, y3, n, rfl, -, -, h0, h1, h2, h3⟩ := open_agg4 hs hone hC hv h
  obtain ⟨s, hx0, -, ws⟩ := DataW.trod_int e0 h0
  obtain ⟨k, hx1, -, wk⟩ := DataW.trod_int e1 h1
  obtain ⟨q, hx3, -, wq⟩ := DataW.trod_int e3 h3
  simp only [List.cons.injEq, and_true] at hx0 hx1 hx3
  subst hx0; subst hx1; subst hx3
  rcases open_ints e2 ee hc h2 with ⟨hcs, _⟩ | ⟨x, l, c, zs, hcs, _, hl, hm, hz, _, hcell, hwz⟩
  · simp only [List.cons.injEq, and_true] at hcs
    subst hcs
    exact ⟨s, k, none, 0, 0, [], q, rfl, ws, wk, wq, Row.nil _ _ _⟩
  · simp only [List.cons.injEq, and_true] at hcs
    subst hcs
    exact ⟨s, k, some x, l, c, _, q, rfl, ws, wk, wq, Row.of_open hl hm (by simpa using hz) hcell hwz⟩
end Go.Proofs.YtjlhldndomaknaaDoor
