/- A hello, opened as an argument; a reply. No condition. -/
import Derived.Test.YtlodhleihnlchaaDoorBase
import Derived.Lib.SmallJoins
import Derived.OpenShut
namespace Go.Proofs.YtlodhleihnlchaaDoor
open Go.Joins Go.ChangeShapes Go.WideShapes Go.RowKit Go.Deep

theorem open_hello {H : Type} {enc : TypeId × Value → H} {P : Program} {w : World} {r : Reach} {b0 : Nat} {t : TypeId} {f0 f1 f2 : Field} {v : Value} {d : DataW H} {p : List MemPlace}
    (hs : P.underlying t = some (.struct #[f0, f1, f2])) (e0 : P.underlying f0.type = some (.int .i64)) (e1 : P.underlying f1.type = some (.int .i64)) (e2 : P.underlying f2.type = some .string)
    (hone : oneCellFields P #[f0, f1, f2] = true) (hC : P.cellsOf t = 3)
    (hv : Value.okWide P w r b0 t v) (h : DataW.Trod enc P w 0 (fun _ => true) true t v d p) :
    ∃ (x y : Int) (n : ByteArray), v = .agg #[.int .i64 x, .int .i64 y, .string n] ∧ (Lit.int .i64 x).wf = true ∧ (Lit.int .i64 y).wf = true ∧ n.size ≤ maxLen := by
  obtain ⟨v0, v1, v2, y0, y1, y2, n, rfl, -, -, h0, h1, h2⟩ := open_agg3 hs hone hC hv h
  obtain ⟨x, hx0, -, wx⟩ := DataW.trod_int e0 h0
  obtain ⟨y, hx1, -, wy⟩ := DataW.trod_int e1 h1
  obtain ⟨s, hx2, -, ws⟩ := DataW.trod_string e2 h2
  simp only [List.cons.injEq, and_true] at hx0 hx1 hx2
  subst hx0; subst hx1; subst hx2
  exact ⟨x, y, s, rfl, wx, wy, ws⟩
theorem array6 {α : Type} {cs : Array α} (h : cs.size = 6) : ∃ c0 c1 c2 c3 c4 c5, cs = #[c0, c1, c2, c3, c4, c5] := by
  obtain ⟨l⟩ := cs
  match l, h with
  | [c0, c1, c2, c3, c4, c5], _ => exact ⟨c0, c1, c2, c3, c4, c5, rfl⟩
theorem open_reply {H : Type} {enc : TypeId × Value → H} {P : Program} {w : World} {r : Reach} {b0 : Nat} {t : TypeId} {f0 f1 f2 f3 f4 g0 g1 : Field} {v : Value} {d : DataW H} {p : List MemPlace}
    (hs : P.underlying t = some (.struct #[f0, f1, f2, f3, f4])) (e0 : P.underlying f0.type = some (.int .i64)) (e1 : P.underlying f1.type = some (.int .i64)) (e2 : P.underlying f2.type = some (.int .i64)) (e3 : P.underlying f3.type = some (.struct #[g0, g1])) (e4 : P.underlying f4.type = some (.int .i64))
    (k0 : P.underlying g0.type = some (.int .i64)) (k1 : P.underlying g1.type = some (.int .i64))
    (ho : [f0.offset, f1.offset, f2.offset, f3.offset, f4.offset, g0.offset, g1.offset] = [0, 1, 2, 3, 5, 0, 1])
    (hc : [P.cellsOf f0.type, P.cellsOf f1.type, P.cellsOf f2.type, P.cellsOf f3.type, P.cellsOf f4.type, P.cellsOf g0.type, P.cellsOf g1.type] = [1, 1, 1, 2, 1, 1, 1]) (hC : P.cellsOf t = 6)
    (hv : Value.okWide P w r b0 t v) (h : DataW.Trod enc P w 0 (fun _ => true) true t v d p) :
    ∃ (x0 x1 x2 x3 x4 x5 : Int), v = .agg #[.int .i64 x0, .int .i64 x1, .int .i64 x2, .int .i64 x3, .int .i64 x4, .int .i64 x5] ∧ (Lit.int .i64 x0).wf = true ∧ (Lit.int .i64 x1).wf = true ∧ (Lit.int .i64 x2).wf = true ∧ (Lit.int .i64 x3).wf = true ∧ (Lit.int .i64 x4).wf = true ∧ (Lit.int .i64 x5).wf = true := by
  simp only [List.cons.injEq, and_true] at ho hc
  obtain ⟨o0, o1, o2, o3, o4, o5, o6⟩ := ho
  obtain ⟨q0, q1, q2, q3, q4, q5, q6⟩ := hc
  obtain ⟨cs, rfl, hsz⟩ := okWide_struct hs hv
  obtain ⟨c0, c1, c2, c3, c4, c5, rfl⟩ := array6 (hsz.trans hC)
  obtain ⟨fuel, hf⟩ := h
  obtain ⟨xs, n, -, -, -, hlen, hx⟩ := DataW.trod_struct hs hf
  match xs, hlen with
  | [y0, y1, y2, y3, y4], _ =>
    have h0 := hx 0 f0 rfl
    have h1 := hx 1 f1 rfl
    have h2 := hx 2 f2 rfl
    have h3 := hx 3 f3 rfl
    have h4 := hx 4 f4 rfl
    simp [Value.cells, o0, o1, o2, o3, o4, q0, q1, q2, q3, q4] at h0 h1 h2 h3 h4
    obtain ⟨x0, hx0, -, w0⟩ := DataW.trod_int e0 h0
    obtain ⟨x1, hx1, -, w1⟩ := DataW.trod_int e1 h1
    obtain ⟨x2, hx2, -, w2⟩ := DataW.trod_int e2 h2
    obtain ⟨x5, hx5, -, w5⟩ := DataW.trod_int e4 h4
    obtain ⟨y5, y6, m, -, -, h5, h6⟩ := trod_struct2 e3 h3
    simp [o5, o6, q5, q6] at h5 h6
    obtain ⟨x3, hx3, -, w3⟩ := DataW.trod_int k0 h5
    obtain ⟨x4, hx4, -, w4⟩ := DataW.trod_int k1 h6
    simp only [List.cons.injEq, and_true] at hx0 hx1 hx2 hx3 hx4 hx5
    subst hx0; subst hx1; subst hx2; subst hx3; subst hx4; subst hx5
    exact ⟨x0, x1, x2, x3, x4, x5, rfl, w0, w1, w2, w3, w4, w5⟩
end Go.Proofs.YtlodhleihnlchaaDoor
