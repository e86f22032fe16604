/- A rollover, and a slice of rollovers, opened as arguments. No condition. -/
import Derived.Test.YtmdknbgpddnplaaDoorG8
import Derived.Test.YtmdknbgpddnplaaDoorOpen7
namespace Go.Proofs.YtmdknbgpddnplaaDoor
open Go.Joins Go.ChangeShapes Go.WideShapes Go.RowKit Go.Deep

/-- Eight cells that read as a rollover. -/
theorem roll_cells {H : Type} {enc : TypeId × Value → H} {P : Program} {w : World} {base : Nat} {sp : Nat → Bool} {held : Bool} {fuel : Nat} {t : TypeId} {k0 k1 k2 f0 f1 f2 f3 f4 g0 g1 : Field} {cs : List Value} {x : DataW H × List MemPlace}
    (hr : P.underlying t = some (.struct #[k0, k1, k2])) (u0 : P.underlying k0.type = some (.struct #[f0, f1, f2, f3, f4])) (u1 : P.underlying k1.type = some (.int .i64)) (u2 : P.underlying k2.type = some (.struct #[g0, g1]))
    (e0 : P.underlying f0.type = some .string) (e1 : P.underlying f1.type = some (.int .i64)) (e2 : P.underlying f2.type = some (.int .i64)) (e3 : P.underlying f3.type = some (.int .i64)) (e4 : P.underlying f4.type = some (.int .i64))
    (y0 : P.underlying g0.type = some (.int .i64)) (y1 : P.underlying g1.type = some (.int .i64))
    (ho : [f0.offset, f1.offset, f2.offset, f3.offset, f4.offset] = [0, 1, 2, 3, 4])
    (hc : [P.cellsOf f0.type, P.cellsOf f1.type, P.cellsOf f2.type, P.cellsOf f3.type, P.cellsOf f4.type] = [1, 1, 1, 1, 1])
    (ho2 : [k0.offset, k1.offset, k2.offset, g0.offset, g1.offset] = [0, 5, 6, 0, 1])
    (hc2 : [P.cellsOf k0.type, P.cellsOf k1.type, P.cellsOf k2.type, P.cellsOf g0.type, P.cellsOf g1.type] = [5, 1, 2, 1, 1]) (hl : cs.length = 8)
    (h : DataW.trod enc P w base sp held fuel t cs = some x) : ∃ p : RollD, cs = p.vals ∧ p.p.n.size ≤ maxLen := by
  simp only [List.cons.injEq, and_true] at ho2 hc2
  obtain ⟨o0, o1, o2, o3, o4⟩ := ho2
  obtain ⟨q0, q1, q2, q3, q4⟩ := hc2
  obtain ⟨xs, n, -, -, -, hlen, hx⟩ := DataW.trod_struct hr h
  match cs, hl, xs, hlen with
  | [c0, c1, c2, c3, c4, c5, c6, c7], _, [z0, z1, z2], _ =>
    have h0 := hx 0 k0 rfl
    have h1 := hx 1 k1 rfl
    have h2 := hx 2 k2 rfl
    simp [o0, o1, o2, q0, q1, q2] at h0 h1 h2
    obtain ⟨p, hp, wp⟩ := pin_cells u0 e0 e1 e2 e3 e4 ho hc rfl h0
    obtain ⟨b, hb, -, -⟩ := DataW.trod_int u1 h1
    obtain ⟨y5, y6, m, -, -, h5, h6⟩ := trod_struct2 u2 h2
    simp [o3, o4, q3, q4] at h5 h6
    obtain ⟨x3, hx3, -, -⟩ := DataW.trod_int y0 h5
    obtain ⟨x4, hx4, -, -⟩ := DataW.trod_int y1 h6
    simp only [PinD.vals, List.cons.injEq, and_true] at hp hb hx3 hx4
    obtain ⟨rfl, rfl, rfl, rfl, rfl⟩ := hp
    subst hb; subst hx3; subst hx4
    exact ⟨⟨p, b, x3, x4⟩, rfl, wp⟩
section
variable {H : Type} {enc : TypeId × Value → H} {P : Program} {t : TypeId} {k0 k1 k2 f0 f1 f2 f3 f4 g0 g1 : Field}
theorem open_roll {w : World} {r : Reach} {b0 : Nat} {v : Value} {d : DataW H} {p : List MemPlace}
    (hr : P.underlying t = some (.struct #[k0, k1, k2])) (u0 : P.underlying k0.type = some (.struct #[f0, f1, f2, f3, f4])) (u1 : P.underlying k1.type = some (.int .i64)) (u2 : P.underlying k2.type = some (.struct #[g0, g1]))
    (e0 : P.underlying f0.type = some .string) (e1 : P.underlying f1.type = some (.int .i64)) (e2 : P.underlying f2.type = some (.int .i64)) (e3 : P.underlying f3.type = some (.int .i64)) (e4 : P.underlying f4.type = some (.int .i64))
    (y0 : P.underlying g0.type = some (.int .i64)) (y1 : P.underlying g1.type = some (.int .i64))
    (ho : [f0.offset, f1.offset, f2.offset, f3.offset, f4.offset] = [0, 1, 2, 3, 4])
    (hc : [P.cellsOf f0.type, P.cellsOf f1.type, P.cellsOf f2.type, P.cellsOf f3.type, P.cellsOf f4.type] = [1, 1, 1, 1, 1])
    (ho2 : [k0.offset, k1.offset, k2.offset, g0.offset, g1.offset] = [0, 5, 6, 0, 1])
    (hc2 : [P.cellsOf k0.type, P.cellsOf k1.type, P.cellsOf k2.type, P.cellsOf g0.type, P.cellsOf g1.type] = [5, 1, 2, 1, 1]) (hC : P.cellsOf t = 8)
    (hv : Value.okWide P w r b0 t v) (h : DataW.Trod enc P w 0 (fun _ => true) true t v d p) : ∃ q : RollD, v = R8 q ∧ q.p.n.size ≤ maxLen := by
  obtain ⟨cs, rfl, hsz⟩ := okWide_struct hr hv
  obtain ⟨fuel, hf⟩ := h
  obtain ⟨q, hq, hn⟩ := roll_cells hr u0 u1 u2 e0 e1 e2 e3 e4 y0 y1 ho hc ho2 hc2 (cs := cs.toList) (by simpa using hsz.trans hC) hf
  refine ⟨q, ?_, hn⟩
  have : cs = q.vals.toArray := by rw [← hq]
  rw [this]
  rfl
theorem open_rolls {W : World} {ts : TypeId} {a : Option Addr} {len cap : Nat} {d : DataW H} {p : List MemPlace}
    (ht : P.underlying ts = some (.slice t))
    (hr : P.underlying t = some (.struct #[k0, k1, k2])) (u0 : P.underlying k0.type = some (.struct #[f0, f1, f2, f3, f4])) (u1 : P.underlying k1.type = some (.int .i64)) (u2 : P.underlying k2.type = some (.struct #[g0, g1]))
    (e0 : P.underlying f0.type = some .string) (e1 : P.underlying f1.type = some (.int .i64)) (e2 : P.underlying f2.type = some (.int .i64)) (e3 : P.underlying f3.type = some (.int .i64)) (e4 : P.underlying f4.type = some (.int .i64))
    (y0 : P.underlying g0.type = some (.int .i64)) (y1 : P.underlying g1.type = some (.int .i64))
    (ho : [f0.offset, f1.offset, f2.offset, f3.offset, f4.offset] = [0, 1, 2, 3, 4])
    (hc : [P.cellsOf f0.type, P.cellsOf f1.type, P.cellsOf f2.type, P.cellsOf f3.type, P.cellsOf f4.type] = [1, 1, 1, 1, 1])
    (ho2 : [k0.offset, k1.offset, k2.offset, g0.offset, g1.offset] = [0, 5, 6, 0, 1])
    (hc2 : [P.cellsOf k0.type, P.cellsOf k1.type, P.cellsOf k2.type, P.cellsOf g0.type, P.cellsOf g1.type] = [5, 1, 2, 1, 1]) (hC : P.cellsOf t = 8)
    (h : DataW.Trod enc P W 0 (fun _ => true) true ts (.slice a len cap) d p) : ∃ ps, RRow W W.heap.size a len cap ps := by
  obtain ⟨fuel, hf⟩ := h
  rcases open_slice ht hf with ⟨hcs, _⟩ | ⟨x, l, c, m, n, D, Pl, hcs, _, hl, hm, hmm, _, hx⟩
  · simp [Value.cells] at hcs
    obtain ⟨rfl, rfl, rfl⟩ := hcs
    exact ⟨[], RRow.nil _ _⟩
  · simp [Value.cells] at hcs
    obtain ⟨rfl, rfl, rfl⟩ := hcs
    have hlm : len ≤ m := by rw [hmm]; split <;> omega
    rw [hC] at hx
    have each : ∀ i, i < len → ∃ q : RollD, q.p.n.size ≤ maxLen ∧ ∀ j v, q.vals[j]? = some v → W.cell? (x.add (i * 8 + j)) = some v := by
      intro i hi
      obtain ⟨cs', h1, h2⟩ := hx i (by omega)
      obtain ⟨_, hlen, hcell⟩ := World.cells?_some h1
      obtain ⟨q, rfl, hq⟩ := roll_cells hr u0 u1 u2 e0 e1 e2 e3 e4 y0 y1 ho hc ho2 hc2 hlen h2
      refine ⟨q, hq, fun j v hj => ?_⟩
      have hj5 : j < 8 := by have := (List.getElem?_eq_some_iff.1 hj).1; simpa [RollD.vals_length] using this
      have := hcell j hj5
      rw [add_add] at this
      rw [this, hj]
    obtain ⟨q, hq⟩ := choose_lt each
    refine ⟨(List.range len).map q, by simp, hl, hm, fun y hy => ?_, fun hp => ?_⟩
    · obtain ⟨r, hr, rfl⟩ := List.mem_map.1 hy
      exact (hq r (List.mem_range.1 hr)).1
    · have hc0 := (hq 0 (by omega)).2 0 _ rfl
      have hs : x.spot = none := by
        have := World.cell?_spot hc0
        simpa [Addr.add] using this
      obtain ⟨b, off, spot⟩ := x
      simp at hs
      subst hs
      refine ⟨b, off, rfl, ?_, fun j hj i v hv => ?_⟩
      · have := cell_lt hc0
        simpa [Addr.add] using this
      · have e : ((List.range len).map q)[j]?.getD roll0 = q j := by simp [hj]
        rw [e] at hv
        have := (hq j hj).2 i v hv
        rw [Addr.add_lit] at this
        rw [Nat.add_assoc]
        exact this
end
end Go.Proofs.YtmdknbgpddnplaaDoor
