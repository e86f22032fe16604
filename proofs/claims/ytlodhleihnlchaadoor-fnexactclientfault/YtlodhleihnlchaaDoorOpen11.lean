/- A client, opened as an argument. No condition. -/
import Derived.Test.YtlodhleihnlchaaDoorOpen6
namespace Go.Proofs.YtlodhleihnlchaaDoor
open Go.Joins Go.ChangeShapes Go.WideShapes Go.RowKit Go.Deep

theorem array4 {α : Type} {cs : Array α} (h : cs.size = 4) : ∃ c0 c1 c2 c3, cs = #[c0, c1, c2, c3] := by
  obtain ⟨l⟩ := cs
  match l, h with
  | [c0, c1, c2, c3], _ => exact ⟨c0, c1, c2, c3, rfl⟩
theorem open_client {H : Type} {enc : TypeId × Value → H} {P : Program} {w : World} {r : Reach} {b0 : Nat} {t : TypeId} {f0 f1 g0 g1 g2 : Field} {v : Value} {d : DataW H} {p : List MemPlace}
    (hs : P.underlying t = some (.struct #[f0, f1])) (e0 : P.underlying f0.type = some (.int .i64)) (e1 : P.underlying f1.type = some (.struct #[g0, g1, g2]))
    (k0 : P.underlying g0.type = some (.int .i64)) (k1 : P.underlying g1.type = some (.int .i64)) (k2 : P.underlying g2.type = some .string)
    (ho : [f0.offset, f1.offset, g0.offset, g1.offset, g2.offset] = [0, 1, 0, 1, 2])
    (hc : [P.cellsOf f0.type, P.cellsOf f1.type, P.cellsOf g0.type, P.cellsOf g1.type, P.cellsOf g2.type] = [1, 3, 1, 1, 1]) (hC : P.cellsOf t = 4)
    (hv : Value.okWide P w r b0 t v) (h : DataW.Trod enc P w 0 (fun _ => true) true t v d p) :
    ∃ (x0 x1 x2 : Int) (n : ByteArray), v = .agg #[.int .i64 x0, .int .i64 x1, .int .i64 x2, .string n] ∧ (Lit.int .i64 x0).wf = true ∧ (Lit.int .i64 x1).wf = true ∧ (Lit.int .i64 x2).wf = true ∧ n.size ≤ maxLen := by
  simp only [List.cons.injEq, and_true] at ho hc
  obtain ⟨o0, o1, o2, o3, o4⟩ := ho
  obtain ⟨q0, q1, q2, q3, q4⟩ := hc
  obtain ⟨cs, rfl, hsz⟩ := okWide_struct hs hv
  obtain ⟨c0, c1, c2, c3, rfl⟩ := array4 (hsz.trans hC)
  obtain ⟨fuel, hf⟩ := h
  obtain ⟨xs, n, -, -, -, hlen, hx⟩ := DataW.trod_struct hs hf
  match xs, hlen with
  | [y0, y1], _ =>
    have h0 := hx 0 f0 rfl
    have h1 := hx 1 f1 rfl
    simp [Value.cells, o0, o1, q0, q1] at h0 h1
    obtain ⟨x0, hx0, -, w0⟩ := DataW.trod_int e0 h0
    obtain ⟨zs, m, -, -, -, hlen2, hz⟩ := DataW.trod_struct e1 h1
    match zs, hlen2 with
    | [z0, z1, z2], _ =>
      have h2 := hz 0 g0 rfl
      have h3 := hz 1 g1 rfl
      have h4 := hz 2 g2 rfl
      simp [o2, o3, o4, q2, q3, q4] at h2 h3 h4
      obtain ⟨x1, hx1, -, w1⟩ := DataW.trod_int k0 h2
      obtain ⟨x2, hx2, -, w2⟩ := DataW.trod_int k1 h3
      obtain ⟨s, hx3, -, w3⟩ := DataW.trod_string k2 h4
      simp only [List.cons.injEq, and_true] at hx0 hx1 hx2 hx3
      subst hx0; subst hx1; subst hx2; subst hx3
      exact ⟨x0, x1, x2, s, rfl, w0, w1, w2, w3⟩
end Go.Proofs.YtlodhleihnlchaaDoor
