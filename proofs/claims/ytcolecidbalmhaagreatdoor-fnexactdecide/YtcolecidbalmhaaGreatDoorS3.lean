/- Texts of this seat that several laws rest on, laid into one. Conditions: as each theorem states. -/
import Derived.Test.YtcolecidbalmhaaGreatDoorS0
import Derived.Test.YtcolecidbalmhaaGreatDoorS1
import Derived.Test.YtcolecidbalmhaaGreatDoorS2
import Derived.Lib.SmallJoins
import Derived.OpenShut
import Derived.Deep.Slices
import Derived.Scope
import Derived.WalkMore
namespace Go.Proofs.YtcolecidbalmhaaGreatDoor
open Go.RowKit
set_option maxRecDepth 100000
set_option linter.unusedVariables false

/-- A slice of supplied keys that is read: 'ps' are its elements; it lies below block B. -/
structure TRow (w : World) (B : Nat) (a : Option Addr) (len cap : Nat) (ps : List TlsaD) : Prop where
  length : ps.length = len
  fits : len ≤ cap
  most : cap ≤ maxLen
  names : ∀ p ∈ ps, p.n.size ≤ maxLen
  cells : 0 < len → ∃ b off, a = some ⟨b, off, none⟩ ∧ b < B ∧ ∀ j, j < len → ∀ i v, (ps[j]?.getD tls0).vals[i]? = some v → w.cell? ⟨b, off + j * 4 + i, none⟩ = some v
section
variable {w w' : World} {B B' : Nat} {a : Option Addr} {len cap : Nat} {ps : List TlsaD}
theorem TRow.keep (h : TRow w B a len cap ps) (hk : ∀ i, i < B → w'.heap[i]? = w.heap[i]?) : TRow w' B a len cap ps :=
  ⟨h.length, h.fits, h.most, h.names, fun hp => by
    obtain ⟨b, off, e, hb, hc⟩ := h.cells hp
    exact ⟨b, off, e, hb, fun j hj i v hv => (World.cell?_of_block (w := w) (hk b hb)).trans (hc j hj i v hv)⟩⟩
theorem TRow.below (h : TRow w B a len cap ps) (hb : Below B w w') : TRow w' B a len cap ps := h.keep hb.block
theorem TRow.more (h : TRow w B a len cap ps) (hB : B ≤ B') : TRow w B' a len cap ps :=
  ⟨h.length, h.fits, h.most, h.names, fun hp => by
    obtain ⟨b, off, e, hb, hc⟩ := h.cells hp
    exact ⟨b, off, e, by omega, hc⟩⟩
theorem TRow.on (h : TRow w w.heap.size a len cap ps) (hb : Below w.heap.size w w') : TRow w' w'.heap.size a len cap ps := (h.below hb).more hb.size
theorem TRow.alloc (h : TRow w B a len cap ps) (hB : B ≤ w.heap.size) (o : Obj) : TRow (w.alloc o) B a len cap ps := h.below ((Below.refl B w).alloc hB o)
theorem TRow.nil (w : World) (B : Nat) : TRow w B none 0 0 [] := ⟨rfl, Nat.le_refl _, Nat.zero_le _, by simp, fun h => absurd h (by omega)⟩
/-- Element k's cells. -/
theorem TRow.at' (h : TRow w B a len cap ps) {k : Nat} (hk : k < len) : ∃ b off, a = some ⟨b, off, none⟩ ∧ b < B ∧
    w.cell? ⟨b, off + k * 4, none⟩ = some (.string (ps[k]?.getD tls0).n) ∧ w.cell? ⟨b, off + k * 4 + 1, none⟩ = some (.int .i64 (ps[k]?.getD tls0).u) ∧ w.cell? ⟨b, off + k * 4 + 2, none⟩ = some (.int .i64 (ps[k]?.getD tls0).m) ∧ w.cell? ⟨b, off + k * 4 + 3, none⟩ = some (.int .i64 (ps[k]?.getD tls0).v) := by
  obtain ⟨b, off, e, hb, hc⟩ := h.cells (by omega)
  exact ⟨b, off, e, hb, hc k hk 0 _ rfl, hc k hk 1 _ rfl, hc k hk 2 _ rfl, hc k hk 3 _ rfl⟩
theorem TRow.mem (h : TRow w B a len cap ps) {k : Nat} (hk : k < len) : (ps[k]?.getD tls0) ∈ ps := by
  have := h.length
  rw [List.getElem?_eq_getElem (by omega)]
  exact List.getElem_mem _
theorem TRow.name (h : TRow w B a len cap ps) {k : Nat} (hk : k < len) : (ps[k]?.getD tls0).n.size ≤ maxLen := h.names _ (h.mem hk)
end

/-- A slice of supplied keys of the call's own. -/
def OwnT (w : World) (B : Nat) (v : Value) (ps : List TlsaD) : Prop := Own w B 4 v ps.length (flatT ps)
section
variable {w w' : World} {B : Nat} {v : Value} {ps : List TlsaD}
theorem OwnT.row {a : Option Addr} {len cap : Nat} (h : OwnT w B (.slice a len cap) ps) (hs : ∀ p ∈ ps, p.n.size ≤ maxLen) : TRow w w.heap.size a len cap ps := by
  rcases h.2 with ⟨e, h0⟩ | ⟨g, c, e, hb, hg, h1, h2, hc, _⟩
  · injection e with e1 e2 e3
    subst e1; subst e2; subst e3
    obtain rfl : ps = [] := List.eq_nil_of_length_eq_zero h0
    exact TRow.nil _ _
  · injection e with e1 e2 e3
    subst e1; subst e2; subst e3
    exact ⟨rfl, h1, h2, hs, fun hp => ⟨g, 0, rfl, hg, fun j hj i v hv => by
      rw [Nat.zero_add]
      exact hc _ v (flatT_get ps j i v hj hv)⟩⟩
theorem OwnT.nil (w : World) (B : Nat) : OwnT w B (.slice none 0 0) [] := Own.nil w B 4
theorem OwnT.alloc (h : OwnT w B v ps) (o : Obj) : OwnT (w.alloc o) B v ps := Own.alloc h o
theorem OwnT.below (h : OwnT w B v ps) (hb : Below w.heap.size w w') : OwnT w' B v ps := Own.below h hb
theorem OwnT.form (h : OwnT w B v ps) : ∃ a cap, v = .slice a ps.length cap ∧ ps.length ≤ cap ∧ cap ≤ maxLen ∧ (a = none → ps.length = 0 ∧ cap = 0) := Own.form h
theorem OwnT.less {B' : Nat} (h : OwnT w B v ps) (hB : B' ≤ B) : OwnT w B' v ps := Own.less h hB
theorem OwnT.lt (h : OwnT w B v ps) : ∀ k, v.ownBlock = some k → B ≤ k ∧ k < w.heap.size := Own.lt h
theorem OwnT.len {a : Option Addr} {len cap : Nat} (h : OwnT w B (.slice a len cap) ps) : len = ps.length := by
  obtain ⟨a', c', e, -⟩ := h.form
  injection e
theorem OwnT.grown {g : Option Nat} (h : OwnT w B v ps) (hg : w.grownBy w' g) (hne : ∀ k, v.ownBlock = some k → some k ≠ g) : OwnT w' B v ps := Own.keep h hg.size fun k hk => hg.block k (Own.lt h k hk).2 (hne k hk)
end
/-- One element of an owned slice is stored. -/
theorem OwnT.put {w : World} {B g n c : Nat} {ps : List TlsaD} {k : Nat} {p : TlsaD} (h : OwnT w B (.slice (some ⟨g, 0, none⟩) n c) ps) (hk : k < ps.length) :
    OwnT ((((w.setCell ⟨g, k * 4, none⟩ (.string p.n)).setCell ⟨g, k * 4 + 1, none⟩ (.int .i64 p.u)).setCell ⟨g, k * 4 + 2, none⟩ (.int .i64 p.m)).setCell ⟨g, k * 4 + 3, none⟩ (.int .i64 p.v)) B (.slice (some ⟨g, 0, none⟩) n c) (ps.set k p) := by
  have hn : n = ps.length := by
    obtain ⟨a, cap, e, _⟩ := h.form
    injection e
  subst hn
  have hl := flatT_length ps
  unfold OwnT
  rw [flatT_set ps k p hk, List.length_set]
  refine Own.putCell (Own.putCell (Own.putCell (Own.putCell h ?_) ?_) ?_) ?_ <;> (try simp only [List.length_set]) <;> omega
/-- That a cell of an owned slice can be written. -/
theorem OwnT.cell {w : World} {B g n c : Nat} {ps : List TlsaD} (h : OwnT w B (.slice (some ⟨g, 0, none⟩) n c) ps) {k i : Nat} (hk : k < ps.length) {u : Value} (hu : (ps[k]?.getD tls0).vals[i]? = some u) :
    w.cell? ⟨g, k * 4 + i, none⟩ = some u ∧ w.frozen? ⟨g, k * 4 + i, none⟩ = false := by
  rcases h.2 with ⟨e, h0⟩ | ⟨g', c', e, hB, hg, hn, hm, hcell, hroom⟩
  · cases e
  injection e with e1 e2 e3
  injection e1 with e1
  injection e1 with e1 _ _
  subst e1
  subst e3
  have hi : i < 4 := by have := (List.getElem?_eq_some_iff.1 hu).1; simpa [TlsaD.vals_length] using this
  have : (k + 1) * 4 ≤ c * 4 := Nat.mul_le_mul_right _ (by omega)
  exact ⟨hcell _ _ (flatT_get ps k i u hk hu), (hroom _ (by omega)).2⟩
theorem TlsaD.oneCell (p : TlsaD) : ∀ v ∈ p.vals, v.oneCell' = true := by
  intro v hv
  simp only [TlsaD.vals, List.mem_cons, List.not_mem_nil, or_false] at hv
  rcases hv with rfl | rfl | rfl | rfl <;> rfl
end Go.Proofs.YtcolecidbalmhaaGreatDoor
namespace Go.Proofs.YtcolecidbalmhaaGreatDoor
open Go.Joins Go.ChangeShapes Go.WideShapes Go.RowKit Go.Deep

/-- Cells that read as such a struct. -/
theorem tlsa_cells {H : Type} {enc : TypeId × Value → H} {P : Program} {w : World} {base : Nat} {sp : Nat → Bool} {held : Bool} {fuel : Nat} {t : TypeId} {f0 f1 f2 f3 : Field} {cs : List Value} {x : DataW H × List MemPlace}
    (hs : P.underlying t = some (.struct #[f0, f1, f2, f3])) (e0 : P.underlying f0.type = some .string) (e1 : P.underlying f1.type = some (.int .i64)) (e2 : P.underlying f2.type = some (.int .i64)) (e3 : P.underlying f3.type = some (.int .i64))
    (ho : [f0.offset, f1.offset, f2.offset, f3.offset] = [0, 1, 2, 3])
    (hc : [P.cellsOf f0.type, P.cellsOf f1.type, P.cellsOf f2.type, P.cellsOf f3.type] = [1, 1, 1, 1]) (hl : cs.length = 4)
    (h : DataW.trod enc P w base sp held fuel t cs = some x) : ∃ p : TlsaD, cs = p.vals ∧ (p.n.size ≤ maxLen) := by
  simp only [List.cons.injEq, and_true] at ho hc
  obtain ⟨o0, o1, o2, o3⟩ := ho
  obtain ⟨q0, q1, q2, q3⟩ := hc
  obtain ⟨xs, n, -, -, -, hlen, hx⟩ := DataW.trod_struct hs h
  match cs, hl, xs, hlen with
  | [c0, c1, c2, c3], _, [y0, y1, y2, y3], _ =>
    have h0 := hx 0 f0 rfl
    have h1 := hx 1 f1 rfl
    have h2 := hx 2 f2 rfl
    have h3 := hx 3 f3 rfl
    simp [o0, o1, o2, o3, q0, q1, q2, q3] at h0 h1 h2 h3
    obtain ⟨x0, hx0, -, w0⟩ := DataW.trod_string e0 h0
    obtain ⟨x1, hx1, -, -⟩ := DataW.trod_int e1 h1
    obtain ⟨x2, hx2, -, -⟩ := DataW.trod_int e2 h2
    obtain ⟨x3, hx3, -, -⟩ := DataW.trod_int e3 h3
    simp only [List.cons.injEq, and_true] at hx0 hx1 hx2 hx3
    subst hx0; subst hx1; subst hx2; subst hx3
    exact ⟨⟨x0, x1, x2, x3⟩, rfl, w0⟩
theorem open_tlsas {H : Type} {enc : TypeId × Value → H} {P : Program} {W : World} {held : Bool} {t e : TypeId} {f0 f1 f2 f3 : Field} {a : Option Addr} {len cap : Nat} {d : DataW H} {p : List MemPlace}
    (ht : P.underlying t = some (.slice e)) (hs : P.underlying e = some (.struct #[f0, f1, f2, f3])) (e0 : P.underlying f0.type = some .string) (e1 : P.underlying f1.type = some (.int .i64)) (e2 : P.underlying f2.type = some (.int .i64)) (e3 : P.underlying f3.type = some (.int .i64))
    (ho : [f0.offset, f1.offset, f2.offset, f3.offset] = [0, 1, 2, 3])
    (hc : [P.cellsOf f0.type, P.cellsOf f1.type, P.cellsOf f2.type, P.cellsOf f3.type] = [1, 1, 1, 1]) (hC : P.cellsOf e = 4)
    (h : DataW.Trod enc P W 0 (fun _ => true) held t (.slice a len cap) d p) : ∃ ps, TRow W W.heap.size a len cap ps := by
  obtain ⟨fuel, hf⟩ := h
  rcases open_slice ht hf with ⟨hcs, _⟩ | ⟨x, l, c, m, n, D, Pl, hcs, _, hl, hm, hmm, _, hx⟩
  · simp [Value.cells] at hcs
    obtain ⟨rfl, rfl, rfl⟩ := hcs
    exact ⟨[], TRow.nil _ _⟩
  · simp [Value.cells] at hcs
    obtain ⟨rfl, rfl, rfl⟩ := hcs
    have hlm : len ≤ m := by rw [hmm]; split <;> omega
    rw [hC] at hx
    have each : ∀ i, i < len → ∃ q : TlsaD, (q.n.size ≤ maxLen) ∧ ∀ j v, q.vals[j]? = some v → W.cell? (x.add (i * 4 + j)) = some v := by
      intro i hi
      obtain ⟨cs', h1, h2⟩ := hx i (by omega)
      obtain ⟨_, hlen, hcell⟩ := World.cells?_some h1
      obtain ⟨q, rfl, hq⟩ := tlsa_cells hs e0 e1 e2 e3 ho hc hlen h2
      refine ⟨q, hq, fun j v hj => ?_⟩
      have hj5 : j < 4 := by have := (List.getElem?_eq_some_iff.1 hj).1; simpa [TlsaD.vals_length] using this
      have := hcell j hj5
      rw [add_add] at this
      rw [this, hj]
    obtain ⟨q, hq⟩ := choose_lt each
    refine ⟨(List.range len).map q, by simp, hl, hm, fun y hy => ?_, fun hp => ?_⟩
    · obtain ⟨r, hr, rfl⟩ := List.mem_map.1 hy
      exact (hq r (List.mem_range.1 hr)).1
    · have hc0 := (hq 0 (by omega)).2 0 _ rfl
      have hs : x.spot = none := by
        have := World.cell?_spot hc0
        simpa [Addr.add] using this
      obtain ⟨b, off, spot⟩ := x
      simp at hs
      subst hs
      refine ⟨b, off, rfl, ?_, fun j hj i v hv => ?_⟩
      · have := cell_lt hc0
        simpa [Addr.add] using this
      · have e : ((List.range len).map q)[j]?.getD tls0 = q j := by simp [hj]
        rw [e] at hv
        have := (hq j hj).2 i v hv
        rw [Addr.add_lit] at this
        rw [Nat.add_assoc]
        exact this
end Go.Proofs.YtcolecidbalmhaaGreatDoor
namespace Go.Proofs.YtcolecidbalmhaaGreatDoor
open Go.Joins Go.ChangeShapes Go.WideShapes Go.RowKit Go.Deep

/-- Five cells that read as a pin. -/
theorem pin_cells {H : Type} {enc : TypeId × Value → H} {P : Program} {w : World} {base : Nat} {sp : Nat → Bool} {held : Bool} {fuel : Nat} {t : TypeId} {f0 f1 f2 f3 f4 : Field} {cs : List Value} {x : DataW H × List MemPlace}
    (hs : P.underlying t = some (.struct #[f0, f1, f2, f3, f4])) (e0 : P.underlying f0.type = some .string) (e1 : P.underlying f1.type = some (.int .i64)) (e2 : P.underlying f2.type = some (.int .i64)) (e3 : P.underlying f3.type = some (.int .i64)) (e4 : P.underlying f4.type = some (.int .i64))
    (ho : [f0.offset, f1.offset, f2.offset, f3.offset, f4.offset] = [0, 1, 2, 3, 4])
    (hc : [P.cellsOf f0.type, P.cellsOf f1.type, P.cellsOf f2.type, P.cellsOf f3.type, P.cellsOf f4.type] = [1, 1, 1, 1, 1]) (hl : cs.length = 5)
    (h : DataW.trod enc P w base sp held fuel t cs = some x) : ∃ p : PinD, cs = p.vals ∧ p.n.size ≤ maxLen := by
  simp only [List.cons.injEq, and_true] at ho hc
  obtain ⟨o0, o1, o2, o3, o4⟩ := ho
  obtain ⟨q0, q1, q2, q3, q4⟩ := hc
  obtain ⟨xs, n, -, -, -, hlen, hx⟩ := DataW.trod_struct hs h
  match cs, hl, xs, hlen with
  | [c0, c1, c2, c3, c4], _, [y0, y1, y2, y3, y4], _ =>
    have h0 := hx 0 f0 rfl
    have h1 := hx 1 f1 rfl
    have h2 := hx 2 f2 rfl
    have h3 := hx 3 f3 rfl
    have h4 := hx 4 f4 rfl
    simp [o0, o1, o2, o3, o4, q0, q1, q2, q3, q4] at h0 h1 h2 h3 h4
    obtain ⟨s, hx0, -, ws⟩ := DataW.trod_string e0 h0
    obtain ⟨x1, hx1, -, -⟩ := DataW.trod_int e1 h1
    obtain ⟨x2, hx2, -, -⟩ := DataW.trod_int e2 h2
    obtain ⟨x3, hx3, -, -⟩ := DataW.trod_int e3 h3
    obtain ⟨x4, hx4, -, -⟩ := DataW.trod_int e4 h4
    simp only [List.cons.injEq, and_true] at hx0 hx1 hx2 hx3 hx4
    subst hx0; subst hx1; subst hx2; subst hx3; subst hx4
    exact ⟨⟨s, x1, x2, x3, x4⟩, rfl, ws⟩
theorem open_pins {H : Type} {enc : TypeId × Value → H} {P : Program} {W : World} {t e : TypeId} {f0 f1 f2 f3 f4 : Field} {a : Option Addr} {len cap : Nat} {d : DataW H} {p : List MemPlace}
    (ht : P.underlying t = some (.slice e)) (hs : P.underlying e = some (.struct #[f0, f1, f2, f3, f4])) (e0 : P.underlying f0.type = some .string) (e1 : P.underlying f1.type = some (.int .i64)) (e2 : P.underlying f2.type = some (.int .i64)) (e3 : P.underlying f3.type = some (.int .i64)) (e4 : P.underlying f4.type = some (.int .i64))
    (ho : [f0.offset, f1.offset, f2.offset, f3.offset, f4.offset] = [0, 1, 2, 3, 4])
    (hc : [P.cellsOf f0.type, P.cellsOf f1.type, P.cellsOf f2.type, P.cellsOf f3.type, P.cellsOf f4.type] = [1, 1, 1, 1, 1]) (hC : P.cellsOf e = 5)
    (h : DataW.Trod enc P W 0 (fun _ => true) true t (.slice a len cap) d p) : ∃ ps, PRow W W.heap.size a len cap ps := by
  obtain ⟨fuel, hf⟩ := h
  rcases open_slice ht hf with ⟨hcs, _⟩ | ⟨x, l, c, m, n, D, Pl, hcs, _, hl, hm, hmm, _, hx⟩
  · simp [Value.cells] at hcs
    obtain ⟨rfl, rfl, rfl⟩ := hcs
    exact ⟨[], PRow.nil _ _⟩
  · simp [Value.cells] at hcs
    obtain ⟨rfl, rfl, rfl⟩ := hcs
    have hlm : len ≤ m := by rw [hmm]; split <;> omega
    rw [hC] at hx
    have each : ∀ i, i < len → ∃ q : PinD, q.n.size ≤ maxLen ∧ ∀ j v, q.vals[j]? = some v → W.cell? (x.add (i * 5 + j)) = some v := by
      intro i hi
      obtain ⟨cs', h1, h2⟩ := hx i (by omega)
      obtain ⟨_, hlen, hcell⟩ := World.cells?_some h1
      obtain ⟨q, rfl, hq⟩ := pin_cells hs e0 e1 e2 e3 e4 ho hc hlen h2
      refine ⟨q, hq, fun j v hj => ?_⟩
      have hj5 : j < 5 := by have := (List.getElem?_eq_some_iff.1 hj).1; simpa [PinD.vals_length] using this
      have := hcell j hj5
      rw [add_add] at this
      rw [this, hj]
    obtain ⟨q, hq⟩ := choose_lt each
    refine ⟨(List.range len).map q, by simp, hl, hm, fun y hy => ?_, fun hp => ?_⟩
    · obtain ⟨r, hr, rfl⟩ := List.mem_map.1 hy
      exact (hq r (List.mem_range.1 hr)).1
    · have hc0 := (hq 0 (by omega)).2 0 _ rfl
      have hs : x.spot = none := by
        have := World.cell?_spot hc0
        simpa [Addr.add] using this
      obtain ⟨b, off, spot⟩ := x
      simp at hs
      subst hs
      refine ⟨b, off, rfl, ?_, fun j hj i v hv => ?_⟩
      · have := cell_lt hc0
        simpa [Addr.add] using this
      · have e : ((List.range len).map q)[j]?.getD pin0 = q j := by simp [hj]
        rw [e] at hv
        have := (hq j hj).2 i v hv
        rw [Addr.add_lit] at this
        rw [Nat.add_assoc]
        exact this
end Go.Proofs.YtcolecidbalmhaaGreatDoor
namespace Go.Proofs.YtcolecidbalmhaaGreatDoor
open Go.Joins Go.ChangeShapes Go.WideShapes Go.RowKit Go.Deep
set_option maxRecDepth 100000

/-- An asking that is read: its pins, its supplied keys; it lies below block B. -/
structure ARow (w : World) (B : Nat) (a1 : Option Addr) (n1 c1 : Nat) (a2 : Option Addr) (n2 c2 : Nat) (q : AskD) : Prop where
  ps : PRow w B a1 n1 c1 q.ps
  ts : TRow w B a2 n2 c2 q.ts
  nm : q.n.size ≤ maxLen
section
variable {w w' : World} {B B' : Nat} {a1 a2 : Option Addr} {n1 c1 n2 c2 : Nat} {q : AskD}
theorem ARow.below (h : ARow w B a1 n1 c1 a2 n2 c2 q) (hb : Below B w w') : ARow w' B a1 n1 c1 a2 n2 c2 q := ⟨h.ps.below hb, h.ts.below hb, h.nm⟩
theorem ARow.more (h : ARow w B a1 n1 c1 a2 n2 c2 q) (hB : B ≤ B') : ARow w B' a1 n1 c1 a2 n2 c2 q := ⟨h.ps.more hB, h.ts.more hB, h.nm⟩
theorem ARow.on (h : ARow w w.heap.size a1 n1 c1 a2 n2 c2 q) (hb : Below w.heap.size w w') : ARow w' w'.heap.size a1 n1 c1 a2 n2 c2 q := (h.below hb).more hb.size
end
abbrev A6 (a1 : Option Addr) (n1 c1 : Nat) (a2 : Option Addr) (n2 c2 : Nat) (q : AskD) : Value := .agg #[.bool q.first, .slice a1 n1 c1, .slice a2 n2 c2, .string q.n, .int .i64 q.p, .int .i64 q.t]
def A6L (a1 : Option Addr) (n1 c1 : Nat) (a2 : Option Addr) (n2 c2 : Nat) (q : AskD) : List Value := [.bool q.first, .slice a1 n1 c1, .slice a2 n2 c2, .string q.n, .int .i64 q.p, .int .i64 q.t]
theorem open_ask {H : Type} {enc : TypeId × Value → H} {w : World} {r : Reach} {b0 : Nat} {v : Value} {d : DataW H} {p : List MemPlace} (hv : Value.okWide Tryz.prog w r b0 99 v) (h : DataW.Trod enc Tryz.prog w 0 (fun _ => true) true 99 v d p) :
    ∃ (a1 : Option Addr) (n1 c1 : Nat) (a2 : Option Addr) (n2 c2 : Nat) (t : AskD), v = A6 a1 n1 c1 a2 n2 c2 t ∧ ARow w w.heap.size a1 n1 c1 a2 n2 c2 t := by
  have hC : Tryz.prog.cellsOf 99 = 6 := by kernel_rfl
  have qb : Tryz.prog.cellsOf 4 = 1 := by kernel_rfl
  have qp : Tryz.prog.cellsOf 81 = 1 := by kernel_rfl
  have qt : Tryz.prog.cellsOf 97 = 1 := by kernel_rfl
  have qs : Tryz.prog.cellsOf 9 = 1 := by kernel_rfl
  have qi : Tryz.prog.cellsOf 2 = 1 := by kernel_rfl
  obtain ⟨cs, rfl, hsz⟩ := okWide_struct Tryz.underlying99 hv
  obtain ⟨fuel, hf⟩ := h
  obtain ⟨xs, n, -, -, -, hlen, hx⟩ := DataW.trod_struct Tryz.underlying99 hf
  have hl : cs.toList.length = 6 := by simpa using hsz.trans hC
  have key : ∃ (a1 : Option Addr) (n1 c1 : Nat) (a2 : Option Addr) (n2 c2 : Nat) (t : AskD), cs.toList = A6L a1 n1 c1 a2 n2 c2 t ∧ ARow w w.heap.size a1 n1 c1 a2 n2 c2 t := by
    simp only [Value.cells] at hx hlen
    generalize cs.toList = l at *
    match l, hl, xs, hlen with
    | [c0, c1, c2, c3, c4, c5], _, [y0, y1, y2, y3, y4, y5], _ =>
      have h0 := hx 0 _ rfl
      have h1 := hx 1 _ rfl
      have h2 := hx 2 _ rfl
      have h3 := hx 3 _ rfl
      have h4 := hx 4 _ rfl
      have h5 := hx 5 _ rfl
      simp [qb, qp, qt, qs, qi] at h0 h1 h2 h3 h4 h5
      obtain ⟨f, hy0, -⟩ := DataW.trod_bool Tryz.underlying4 h0
      obtain ⟨s, hy3, -, ws⟩ := DataW.trod_string Tryz.underlying9 h3
      obtain ⟨x4, hy4, -, -⟩ := DataW.trod_int Tryz.underlying2 h4
      obtain ⟨x5, hy5, -, -⟩ := DataW.trod_int Tryz.underlying2 h5
      simp only [List.cons.injEq, and_true] at hy0 hy3 hy4 hy5
      subst hy0; subst hy3; subst hy4; subst hy5
      have sp : ∃ a n c, c1 = .slice a n c := by
        rcases open_slice Tryz.underlying81 h1 with ⟨hcs, _⟩ | ⟨x, l, c, m, n, D, Pl, hcs, _⟩
        · simp only [List.cons.injEq, and_true] at hcs
          exact ⟨none, 0, 0, hcs⟩
        · simp only [List.cons.injEq, and_true] at hcs
          exact ⟨some x, l, c, hcs⟩
      have st : ∃ a n c, c2 = .slice a n c := by
        rcases open_slice Tryz.underlying97 h2 with ⟨hcs, _⟩ | ⟨x, l, c, m, n, D, Pl, hcs, _⟩
        · simp only [List.cons.injEq, and_true] at hcs
          exact ⟨none, 0, 0, hcs⟩
        · simp only [List.cons.injEq, and_true] at hcs
          exact ⟨some x, l, c, hcs⟩
      obtain ⟨a1, n1, k1, rfl⟩ := sp
      obtain ⟨a2, n2, k2, rfl⟩ := st
      obtain ⟨ps, hP⟩ := open_pins (d := y1.1) (p := y1.2) (a := a1) (len := n1) (cap := k1) Tryz.underlying81 Tryz.underlying85 Tryz.underlying9 Tryz.underlying2 Tryz.underlying2 Tryz.underlying2 Tryz.underlying2 rfl (by kernel_rfl) (by kernel_rfl) ⟨n, by simpa [Value.cells] using h1⟩
      obtain ⟨ts, hT⟩ := open_tlsas (d := y2.1) (p := y2.2) (a := a2) (len := n2) (cap := k2) Tryz.underlying97 Tryz.underlying231 Tryz.underlying9 Tryz.underlying2 Tryz.underlying2 Tryz.underlying2 rfl (by kernel_rfl) (by kernel_rfl) ⟨n, by simpa [Value.cells] using h2⟩
      exact ⟨a1, n1, k1, a2, n2, k2, ⟨f, ps, ts, s, x4, x5⟩, rfl, hP, hT, ws⟩
  obtain ⟨a1, n1, c1, a2, n2, c2, t, he, hS⟩ := key
  refine ⟨a1, n1, c1, a2, n2, c2, t, ?_, hS⟩
  have : cs = (A6L a1 n1 c1 a2 n2 c2 t).toArray := by rw [← he]
  rw [this]
  rfl
end Go.Proofs.YtcolecidbalmhaaGreatDoor
namespace Go.Proofs.YtcolecidbalmhaaGreatDoor
open Go.RowKit
set_option maxRecDepth 100000
set_option linter.unusedVariables false

theorem eqPin_any (p : PinD) (w : World) : Calls Tryz.prog 184 #[P5 p, P5 p] w fun e w' => e = .returned (.bool true) ∧ Below w.heap.size w w' := by
  have b0 := bal (bal (Below.refl _ w) (.cells #[.string p.n, .int .i64 p.a, .int .i64 p.b, .int .i64 p.e, .int .i64 p.u] 31)) (.cells #[.string p.n, .int .i64 p.a, .int .i64 p.b, .int .i64 p.e, .int .i64 p.u] 31)
  go_enter Tryz.func184, Tryz.ntmps184
  go_wp2_with fail
  go_ret
  exact ⟨rfl, b0⟩
theorem toPin_any (p : PinD) (w : World) : Calls Tryz.prog 122 #[P5 p] w fun e w' => e = .returned (P5 p) ∧ Below w.heap.size w w' := by
  have b0 := bal (bal (bal (Below.refl _ w) (.cells #[.string p.n, .int .i64 p.a, .int .i64 p.b, .int .i64 p.e, .int .i64 p.u] 85)) (.cells #[.string p.n, .int .i64 p.a, .int .i64 p.b, .int .i64 p.e, .int .i64 p.u] 31)) (.cells #[.string p.n, .int .i64 p.a, .int .i64 p.b, .int .i64 p.e, .int .i64 p.u] 31)
  go_enter Tryz.func122, Tryz.ntmps122
  go_wp2_with fail
  exact bodyPost_ret (v := P5 p) (by simp [results, Tryz.results122, go_sem]) rfl ⟨rfl, b0⟩
theorem szPin_any (p : PinD) (l : Int) (w : World) (hn : p.n.size ≤ maxLen) (l0 : 0 ≤ l) (l1 : l ≤ 1048576) :
    Calls Tryz.prog 119 #[P5 p, .int .i64 l] w fun e w' => e = .returned (.int .i64 (if l < p.n.size then -1 else l - p.n.size)) ∧ Below w.heap.size w w' := by
  have hb := bal (Below.refl _ w) (.cells #[.string p.n, .int .i64 p.a, .int .i64 p.b, .int .i64 p.e, .int .i64 p.u] 85)
  unfold maxLen at hn
  by_cases h : l < p.n.size
  · have h' : l - p.n.size < 0 := by omega
    rw [if_pos h]
    go_enter Tryz.func119, Tryz.ntmps119
    go_wp2_with fail
    go_ret
    exact ⟨rfl, hb⟩
  · have h' : ¬ l - p.n.size < 0 := by omega
    rw [if_neg h]
    go_enter Tryz.func119, Tryz.ntmps119
    go_wp2_with fail
    go_ret
    exact ⟨rfl, hb⟩

/-- How much of a bound pins leave. -/
def szL : List PinD → Int → Int
  | [], l => l
  | p :: r, l => if l < p.n.size then -1 else szL r (l - p.n.size)
def szP (ps : List PinD) (l : Int) : Int := if l < ps.length then -1 else szL ps (l - ps.length)
theorem szL_le : ∀ (ps : List PinD) (l : Int), 0 ≤ l → szL ps l ≤ l ∧ -1 ≤ szL ps l
  | [], l, h => ⟨Int.le_refl _, by unfold szL; omega⟩
  | p :: r, l, h => by
    unfold szL
    split
    · omega
    · have := szL_le r (l - p.n.size) (by omega)
      omega
theorem szL_mem : ∀ (ps : List PinD) (l : Int), 0 ≤ szL ps l → ∀ p ∈ ps, (p.n.size : Int) ≤ l
  | [], l, _, _, hp => by cases hp
  | q :: r, l, h, p, hp => by
    unfold szL at h
    split at h
    · omega
    · rcases List.mem_cons.1 hp with rfl | hp
      · omega
      · have := szL_mem r _ h p hp
        omega
theorem szP_ok {ps : List PinD} {l : Int} (h : 0 ≤ szP ps l) : (ps.length : Int) ≤ l ∧ (∀ p ∈ ps, (p.n.size : Int) ≤ l) ∧ szP ps l ≤ l := by
  unfold szP at h ⊢
  split at h
  · omega
  · rw [if_neg ‹_›]
    refine ⟨by omega, fun p hp => ?_, ?_⟩
    · have := szL_mem _ _ h p hp
      omega
    · have := (szL_le ps (l - ps.length) (by omega)).1
      omega
theorem szL_step {ps : List PinD} {k : Nat} (hk : k < ps.length) (l : Int) : szL (ps.drop k) l = if l < (ps[k]?.getD pin0).n.size then -1 else szL (ps.drop (k + 1)) (l - (ps[k]?.getD pin0).n.size) := by
  have e : ps.drop k = (ps[k]?.getD pin0) :: ps.drop (k + 1) := by
    rw [List.drop_eq_getElem_cons hk, List.getElem?_eq_getElem hk]
    rfl
  rw [e]
  rfl
def SzRel (w : World) (ps : List PinD) (t : Int) (k : Nat) (l : Int) (wr : World) : Prop := 0 ≤ l ∧ l ≤ 1048576 ∧ szL (ps.drop k) l = t ∧ Below w.heap.size w wr
theorem szPinS_any (a : Option Addr) (len cap B : Nat) (ps : List PinD) (l : Int) (w : World) (hR : PRow w B a len cap ps) (hB : B ≤ w.heap.size) (l0 : 0 ≤ l) (l1 : l ≤ 1048576) :
    Calls Tryz.prog 117 #[.slice a len cap, .int .i64 l] w fun e w' => e = .returned (.int .i64 (szP ps l)) ∧ Below w.heap.size w w' := by
  have hL := Lib.hid hR.length
  have hm := hR.most
  have hf := hR.fits
  unfold maxLen at hm
  by_cases h : l < len
  · have E : szP ps l = -1 := by unfold szP; rw [hL.out, if_pos h]
    rw [E]
    have h' : l - len < 0 := by omega
    go_enter Tryz.func117, Tryz.ntmps117
    go_wp2_with fail
    go_ret
    exact ⟨rfl, Below.refl _ _⟩
  have E : szP ps l = szL ps (l - len) := by unfold szP; rw [hL.out, if_neg h]
  rw [E]
  have h' : ¬ l - len < 0 := by omega
  have T0 : SzRel w ps (szL ps (l - len)) 0 (l - len) w := ⟨by omega, by omega, rfl, Below.refl _ _⟩
  generalize szL ps (l - len) = t at *
  clear E
  go_enter Tryz.func117, Tryz.ntmps117
  go_wp2_with fail
  go_loopw [1, 5] (fun x i wr => ∃ (k : Nat) (y : Int), k ≤ len ∧ i = .int .i64 k ∧ x = .int .i64 y ∧ SzRel w ps t k y wr) (fun _ i _ => len - (intOf i).toNat)
  case atStart => exact ⟨0, _, Nat.zero_le _, rfl, rfl, T0⟩
  case round =>
    obtain ⟨k, y, hk, rfl, rfl, y0, y1, hy, hb⟩ := hrel
    clear T0
    by_cases hlt : k < len
    · obtain ⟨b, off, ha, hbB, c0, c1, c2, c3, c4⟩ := (hR.below (hb.mono hB)).at' hlt
      have hst := szL_step (by rw [hL.out]; exact hlt) y
      rw [hy] at hst
      have S := szPin_any (ps[k]?.getD pin0) y wr (hR.name hlt) y0 y1
      subst ha
      generalize ps[k]?.getD pin0 = p at *
      by_cases hs : y < p.n.size
      · rw [if_pos hs] at hst S
        clear hy
        subst hst
        go_wp2_with fail
        refine S.mono ?_
        rintro r w2 ⟨rfl, b2⟩
        have bb := btr hb b2
        go_wp2_with fail
        go_ret
        exact ⟨rfl, bb⟩
      · rw [if_neg hs] at hst S
        have hn : ¬ y - p.n.size < 0 := by omega
        have hy0 : 0 ≤ y - (p.n.size : Int) := by omega
        have HY := Lib.hid hst
        have hm2 : (p.n.size : Int) ≤ y := by omega
        clear hst
        go_wp2_with fail
        refine S.mono ?_
        rintro r w2 ⟨rfl, b2⟩
        have bb := btr hb b2
        clear b2 S c0 c1 c2 c3 c4
        go_wp2_with fail
        go_roundw
        case rel => exact ⟨k + 1, _, by omega, by go_num, rfl, hy0, by omega, HY.out.symm, bb⟩
        case measure => simp [intOf]; omega
    · obtain rfl : k = len := by omega
      have e : ps.drop k = [] := List.drop_of_length_le (by rw [hL.out]; omega)
      rw [e] at hy
      have hy' : y = t := hy
      subst hy'
      go_wp2_with fail
      go_ret
      exact ⟨rfl, hb⟩

/-- The pins that have been laid so far into a new block. -/
structure FillP (w : World) (n : Nat) (ps : List PinD) (k : Nat) (wr : World) : Prop where
  told : ∀ j, j < k → ∀ i v, (ps[j]?.getD pin0).vals[i]? = some v → wr.cell? ⟨w.heap.size, j * 5 + i, none⟩ = some v
  room : ∀ j, j < n * 5 → (∃ u, wr.cell? ⟨w.heap.size, j, none⟩ = some u) ∧ wr.frozen? ⟨w.heap.size, j, none⟩ = false
  lt : w.heap.size < wr.heap.size
  bel : Below w.heap.size w wr
theorem FillP.new (w : World) (n : Nat) (ps : List PinD) (cs : Array Value) (t : TypeId) (hs : cs.size = n * 5) : FillP w n ps 0 (w.alloc (.cells cs t)) := by
  have e1 : (w.alloc (.cells cs t)).heap[w.heap.size]? = some (.cells cs t) := (MapKept.heap_alloc w _).1
  refine ⟨fun j hj => absurd hj (by omega), fun j hj => ?_, by simp, bal (Below.refl _ _) _⟩
  unfold World.cell? World.frozen?
  rw [e1]
  exact ⟨⟨cs[j], by simp [show j < cs.size by omega]⟩, by simp⟩
theorem FillP.on {w wr wr' : World} {n : Nat} {ps : List PinD} {k : Nat} (h : FillP w n ps k wr) (hb : Below wr.heap.size wr wr') : FillP w n ps k wr' := by
  have e := hb.block w.heap.size h.lt
  refine ⟨fun j hj i v hv => cell_keep hb (h.told j hj i v hv), fun j hj => ?_, Nat.lt_of_lt_of_le h.lt hb.size, btr h.bel hb⟩
  rw [World.cell?_of_block (w := wr) (a := ⟨w.heap.size, j, none⟩) e, World.frozen?_of_block (w := wr) (a := ⟨w.heap.size, j, none⟩) e]
  exact h.room j hj
theorem FillP.one {w wr : World} {n : Nat} {ps : List PinD} {k : Nat} (h : FillP w n ps k wr) {j : Nat} (hj : k * 5 ≤ j) (v : Value) : FillP w n ps k (wr.setCell ⟨w.heap.size, j, none⟩ v) := by
  refine ⟨fun i hi c u hu => ?_, fun i hi => ?_, by simpa [World.setCell] using h.lt, bset h.bel (Nat.le_refl _) v⟩
  · have hc : c < 5 := by have := (List.getElem?_eq_some_iff.1 hu).1; simpa [PinD.vals_length] using this
    rw [World.cell?_setCell_other _ _ _ _ (fun e => by injection e with _ e2; omega)]
    exact h.told i hi c u hu
  · obtain ⟨⟨u, hu⟩, hf⟩ := h.room i hi
    exact ⟨cell?_setCell_some (w := wr) (p := ⟨w.heap.size, j, none⟩) (x := v) (q := ⟨w.heap.size, i, none⟩) (v := u) hu, by rw [World.frozen?_setCell]; exact hf⟩
theorem set5_cell {w : World} {g k : Nat} {p : PinD} (hs : ∀ i, i < 5 → ∃ u, w.cell? ⟨g, k * 5 + i, none⟩ = some u) (i : Nat) (v : Value) (hv : p.vals[i]? = some v) :
    (((((w.setCell ⟨g, k * 5, none⟩ (.string p.n)).setCell ⟨g, k * 5 + 1, none⟩ (.int .i64 p.a)).setCell ⟨g, k * 5 + 2, none⟩ (.int .i64 p.b)).setCell ⟨g, k * 5 + 3, none⟩ (.int .i64 p.e)).setCell ⟨g, k * 5 + 4, none⟩ (.int .i64 p.u)).cell? ⟨g, k * 5 + i, none⟩ = some v := by
  have hi : i < 5 := by have := (List.getElem?_eq_some_iff.1 hv).1; simpa [PinD.vals_length] using this
  have ne : ∀ {a b : Nat}, a ≠ b → (⟨g, k * 5 + a, none⟩ : Addr) ≠ ⟨g, k * 5 + b, none⟩ := fun h e => by injection e with _ e2; omega
  have ne0 : ∀ {b : Nat}, b ≠ 0 → (⟨g, k * 5 + b, none⟩ : Addr) ≠ ⟨g, k * 5, none⟩ := fun h e => by injection e with _ e2; omega
  have st : ∀ (w : World) (q : Addr) (x : Value), (∀ i, i < 5 → ∃ u, w.cell? ⟨g, k * 5 + i, none⟩ = some u) → ∀ i, i < 5 → ∃ u, (w.setCell q x).cell? ⟨g, k * 5 + i, none⟩ = some u := fun w q x h i hi => by
    obtain ⟨u, hu⟩ := h i hi
    exact cell?_setCell_some (w := w) (p := q) (x := x) (q := ⟨g, k * 5 + i, none⟩) (v := u) hu
  have s1 := st _ ⟨g, k * 5, none⟩ (.string p.n) hs
  have s2 := st _ ⟨g, k * 5 + 1, none⟩ (.int .i64 p.a) s1
  have s3 := st _ ⟨g, k * 5 + 2, none⟩ (.int .i64 p.b) s2
  have s4 := st _ ⟨g, k * 5 + 3, none⟩ (.int .i64 p.e) s3
  match i, hi with
  | 0, _ =>
    obtain ⟨u, hu⟩ := hs 0 (by omega)
    rw [World.cell?_setCell_other _ _ _ _ (by intro e; injection e with _ e2; omega), World.cell?_setCell_other _ _ _ _ (by intro e; injection e with _ e2; omega), World.cell?_setCell_other _ _ _ _ (by intro e; injection e with _ e2; omega), World.cell?_setCell_other _ _ _ _ (by intro e; injection e with _ e2; omega)]
    rw [show k * 5 + 0 = k * 5 from rfl] at hu ⊢
    rw [World.cell?_setCell_same _ _ _ (by rw [hu])]
    exact hv
  | 1, _ =>
    obtain ⟨u, hu⟩ := s1 1 (by omega)
    rw [World.cell?_setCell_other _ _ _ _ (by intro e; injection e with _ e2; omega), World.cell?_setCell_other _ _ _ _ (by intro e; injection e with _ e2; omega), World.cell?_setCell_other _ _ _ _ (by intro e; injection e with _ e2; omega), World.cell?_setCell_same _ _ _ (by rw [hu])]
    exact hv
  | 2, _ =>
    obtain ⟨u, hu⟩ := s2 2 (by omega)
    rw [World.cell?_setCell_other _ _ _ _ (by intro e; injection e with _ e2; omega), World.cell?_setCell_other _ _ _ _ (by intro e; injection e with _ e2; omega), World.cell?_setCell_same _ _ _ (by rw [hu])]
    exact hv
  | 3, _ =>
    obtain ⟨u, hu⟩ := s3 3 (by omega)
    rw [World.cell?_setCell_other _ _ _ _ (by intro e; injection e with _ e2; omega), World.cell?_setCell_same _ _ _ (by rw [hu])]
    exact hv
  | 4, _ =>
    obtain ⟨u, hu⟩ := s4 4 (by omega)
    rw [World.cell?_setCell_same _ _ _ (by rw [hu])]
    exact hv
theorem FillP.step {w wr : World} {n : Nat} {ps : List PinD} {k : Nat} (h : FillP w n ps k wr) (hk : k < n) {p : PinD} (hp : ps[k]?.getD pin0 = p) :
    FillP w n ps (k + 1) (((((wr.setCell ⟨w.heap.size, k * 5, none⟩ (.string p.n)).setCell ⟨w.heap.size, k * 5 + 1, none⟩ (.int .i64 p.a)).setCell ⟨w.heap.size, k * 5 + 2, none⟩ (.int .i64 p.b)).setCell ⟨w.heap.size, k * 5 + 3, none⟩ (.int .i64 p.e)).setCell ⟨w.heap.size, k * 5 + 4, none⟩ (.int .i64 p.u)) := by
  have hall := ((((h.one (j := k * 5) (by omega) (.string p.n)).one (j := k * 5 + 1) (by omega) (.int .i64 p.a)).one (j := k * 5 + 2) (by omega) (.int .i64 p.b)).one (j := k * 5 + 3) (by omega) (.int .i64 p.e)).one (j := k * 5 + 4) (by omega) (.int .i64 p.u)
  refine ⟨fun j hj i v hv => ?_, hall.room, hall.lt, hall.bel⟩
  by_cases e : j = k
  · subst e
    rw [hp] at hv
    exact set5_cell (fun i hi => (h.room (j * 5 + i) (by omega)).1) i v hv
  · exact hall.told j (by omega) i v hv
theorem FillP.own {w wr : World} {n : Nat} {ps : List PinD} (h : FillP w n ps n wr) (hl : ps.length = n) (hm : n ≤ maxLen) : OwnP wr w.heap.size (.slice (some ⟨w.heap.size, 0, none⟩) n n) ps := by
  subst hl
  refine ⟨flat_length ps, .inr ⟨w.heap.size, _, rfl, Nat.le_refl _, h.lt, Nat.le_refl _, hm, fun j u hu => ?_, fun j hj => ?_⟩⟩
  · have hj := (List.getElem?_eq_some_iff.1 hu).1
    rw [flat_length] at hj
    have hjk : j / 5 < ps.length := by omega
    have hjj : j / 5 * 5 + j % 5 = j := by omega
    have h5 : j % 5 < 5 := Nat.mod_lt _ (by omega)
    have hv : (ps[j / 5]?.getD pin0).vals[j % 5]? = some ((ps[j / 5]?.getD pin0).vals[j % 5]'(by rw [PinD.vals_length]; exact h5)) := List.getElem?_eq_getElem _
    have q1 := flat_get ps (j / 5) (j % 5) _ hjk hv
    have q2 := h.told (j / 5) hjk (j % 5) _ hv
    rw [hjj] at q1 q2
    rw [hu] at q1
    injection q1 with q1
    rw [q1]
    exact q2
  · obtain ⟨⟨u, hu⟩, hf⟩ := h.room j hj
    exact ⟨by rw [hu]; rfl, hf⟩

/-- A slice of pins was copied. -/
def CopiedP (n : Nat) (ps : List PinD) (w : World) (r : Ending) (w' : World) : Prop :=
  r = .returned (.slice (some ⟨w.heap.size, 0, none⟩) n n) ∧ OwnP w' w.heap.size (.slice (some ⟨w.heap.size, 0, none⟩) n n) ps ∧ Below w.heap.size w w'
theorem pin_info : (Tryz.prog.info? 31).map (fun i => (i.zero, i.size, i.bytes)) = some (some (P5 pin0), 5, 48) := by kernel_rfl
theorem toPinS_any (a : Option Addr) (len cap B : Nat) (ps : List PinD) (w : World) (hR : PRow w B a len cap ps) (hB : B ≤ w.heap.size) (hl : len ≤ 1048576) :
    Calls Tryz.prog 120 #[.slice a len cap] w (CopiedP len ps w) := by
  obtain ⟨i0, hi0, hz0, hz1, hz2⟩ := info_parts pin_info
  have hmk : ∀ W : World, (Instr.makeSlice 24 (.int .i64 (len : Int)) (.int .i64 (len : Int))).run Tryz.prog W = .ok (.slice (some ⟨W.heap.size, 0, none⟩) len len) (W.alloc (.cells (madeCells (P5 pin0).cells (len * 5)) 31)) := by
    intro W
    have := run_make (P := Tryz.prog) W 24 31 i0 (P5 pin0) Tryz.underlying24 hi0 hz0 .i64 .i64 len len (by omega) (by omega) (by rw [hz2]; omega) (by omega)
    simpa [hz1] using this
  have hL := Lib.hid hR.length
  clear hi0 hz0 hz1 hz2
  have T0 := FillP.new w len ps (madeCells (P5 pin0).cells (len * 5)) 31 (size_madeCells _ _)
  generalize madeCells (P5 pin0).cells (len * 5) = cs at *
  go_enter Tryz.func120, Tryz.ntmps120
  go_wp2_with fail
  generalize w.alloc (.cells cs 31) = w1 at *
  go_loopw [4] (fun i wr => ∃ k : Nat, k ≤ len ∧ i = .int .i64 k ∧ FillP w len ps k wr) (fun i _ => len - (intOf i).toNat)
  case atStart => exact ⟨0, Nat.zero_le _, rfl, T0⟩
  case round =>
    obtain ⟨k, hk, rfl, hT⟩ := hrel
    by_cases hlt : k < len
    · obtain ⟨b, off, ha, hbB, c0, c1, c2, c3, c4⟩ := (hR.below (hT.bel.mono hB)).at' hlt
      generalize hp : ps[k]?.getD pin0 = p at *
      subst ha
      clear hR T0
      go_wp2_with fail
      refine (toPin_any p _).mono ?_
      rintro r w2 ⟨rfl, b2⟩
      have hT2 := hT.on b2
      obtain ⟨⟨v0, r0⟩, f0⟩ := hT2.room (k * 5) (by omega)
      obtain ⟨⟨v1, r1⟩, f1⟩ := hT2.room (k * 5 + 1) (by omega)
      obtain ⟨⟨v2, r2⟩, f2⟩ := hT2.room (k * 5 + 2) (by omega)
      obtain ⟨⟨v3, r3⟩, f3⟩ := hT2.room (k * 5 + 3) (by omega)
      obtain ⟨⟨v4, r4⟩, f4⟩ := hT2.room (k * 5 + 4) (by omega)
      have T2 := Lib.hid (hT2.step hlt hp)
      clear hT hT2 hp b2 c0 c1 c2 c3 c4
      go_wp2_with fail
      go_roundw
      case rel => exact ⟨k + 1, by omega, by go_num, T2.out⟩
      case measure => simp [intOf]; omega
    · obtain rfl : k = len := by omega
      have T2 := hT.own hL.out (by simp only [maxLen]; omega)
      have hb := Lib.hid hT.bel
      clear hT
      go_wp2_with fail
      go_ret
      exact ⟨rfl, T2, hb.out⟩

theorem eqPinS_any (a b : Option Addr) (len c1 c2 B : Nat) (ps : List PinD) (w : World) (hR : PRow w B a len c1 ps) (hQ : PRow w B b len c2 ps) (hB : B ≤ w.heap.size) :
    Calls Tryz.prog 124 #[.slice a len c1, .slice b len c2] w fun e w' => e = .returned (.bool true) ∧ Below w.heap.size w w' := by
  have hlen := hR.fits
  have hmost := hR.most
  unfold maxLen at hmost
  go_enter Tryz.func124, Tryz.ntmps124
  go_wp2_with fail
  go_loopw [5] (fun i wr => ∃ k : Nat, k ≤ len ∧ i = .int .i64 k ∧ Below w.heap.size w wr) (fun i _ => len - (intOf i).toNat)
  case atStart => exact ⟨0, Nat.zero_le _, rfl, Below.refl _ _⟩
  case round =>
    obtain ⟨k, hk, rfl, hb⟩ := hrel
    by_cases hlt : k < len
    · obtain ⟨b1, o1, ha1, hb1, c0, c1, c2, c3, c4⟩ := (hR.below (hb.mono hB)).at' hlt
      obtain ⟨b2, o2, ha2, hb2, d0, d1, d2, d3, d4⟩ := (hQ.below (hb.mono hB)).at' hlt
      have HB := Lib.hid hb
      clear hb hR hQ
      subst ha1
      subst ha2
      generalize ps[k]?.getD pin0 = p at *
      go_wp2_with fail
      refine wp_region_line (Bel wr) [(0, true), (1, true), (2, true), (3, true), (4, true), (5, true), (6, true), (7, true), (8, false), (9, true)] (by kernel_rfl) (by kernel_rfl) (fun _ _ d _ _ h => by cases d <;> exact h) (Bel.drew wr) ?_
      have hst := Bel.drew wr
      have inst : Nonempty (Of (Bel wr)) := ⟨⟨_, hst⟩⟩
      have q0 := bel_cell c0
      have q1 := bel_cell c1
      have q2 := bel_cell c2
      have q3 := bel_cell c3
      have q4 := bel_cell c4
      have y0 := bel_cell d0
      have y1 := bel_cell d1
      have y2 := bel_cell d2
      have y3 := bel_cell d3
      have y4 := bel_cell d4
      iterate 8 (refine line_read rfl (by kernel_rfl) (fun K hK => ?_); go_big_quiet_op; refine hK _ ?_; clear hK K)
      refine line_alone rfl (by kernel_rfl) (fun K hK => ?_)
      refine call_wp (args := #[P5 p, P5 p]) rfl (by kernel_rfl) (by kernel_rfl) (eqPin_any p _) (fun wn hbn => ?_)
      have hst2 := hst.on hbn
      refine hK _ _ hst2 ?_
      clear hK K hst hbn
      have hst := hst2
      clear hst2
      simp only [Act.put, List.setIfInBounds_toArray, List.set_cons_zero, List.set_cons_succ]
      iterate 1 (refine line_read rfl (by kernel_rfl) (fun K hK => ?_); go_big_quiet_op; refine hK _ ?_; clear hK K)
      refine line_nil ?_
      have bb := btr HB.out hst.out
      clear hst inst q0 q1 q2 q3 q4 y0 y1 y2 y3 y4 c0 c1 c2 c3 c4 d0 d1 d2 d3 d4 HB
      go_wp2_with fail
      go_roundw
      case rel => exact ⟨k + 1, by omega, by go_num, bb⟩
      case measure => simp [intOf]; omega
    · go_wp2_with fail
      go_ret
      exact ⟨rfl, hb⟩
end Go.Proofs.YtcolecidbalmhaaGreatDoor
namespace Go.Proofs.YtcolecidbalmhaaGreatDoor
open Go Go.RowKit

/-- As Q; by a goto: what is held at its label. -/
def jumps (J : Nat → Act → World → Prop) (Q : Exit → Act → World → Prop) : Exit → Act → World → Prop
  | .goto l, a, w => J l a w
  | e, a, w => Q e a w

theorem wp_scope_labels {P : Program} {a : Act} {w : World} {Q : Exit → Act → World → Prop} {c : Code} (J : Nat → Act → World → Prop) (m : Nat → Act → World → Nat)
    (first : c.wp P (jumps J Q) a w)
    (pass : ∀ l a w, J l a w → ∃ rest, findLabel c l = some rest ∧ rest.wp P (jumps (fun l' a' w' => J l' a' w' ∧ m l' a' w' < m l a w) Q) a w) : (Code.scope c).wp P Q a w := by
  intro b k cs
  have key : ∀ n l a w, m l a w = n → J l a w → ∃ rest, findLabel c l = some rest ∧ ∃ e a' w', Q e a' w' ∧ Arrives P (lone (b.at a (.code rest :: .inScope c :: k)) cs w) b k cs e a' w' := by
    intro n
    induction n using Nat.strongRecOn with
    | _ n ih =>
      intro l a w hn hJ
      obtain ⟨rest, hf, hp⟩ := pass l a w hJ
      refine ⟨rest, hf, ?_⟩
      obtain ⟨e, a₁, w₁, hq, harr⟩ := hp b (.inScope c :: k) cs
      cases e with
      | normal => exact ⟨.normal, a₁, w₁, hq, Steps.trans harr (.one step_inScope)⟩
      | exit id => exact ⟨.exit id, a₁, w₁, hq, fun k' hk => harr k' (by simp [exitTo, hk])⟩
      | goto l' =>
        obtain ⟨hJ', hlt⟩ := hq
        obtain ⟨rest', hf', e₂, a₂, w₂, hq₂, harr₂⟩ := ih _ (by omega) l' a₁ w₁ rfl hJ'
        have hg : gotoIn l' (.inScope c :: k) = some (.code rest' :: .inScope c :: k) := by simp [gotoIn, hf']
        exact ⟨e₂, a₂, w₂, hq₂, .of_steps (harr _ hg) harr₂⟩
      | ret => exact ⟨_, a₁, w₁, hq, harr⟩
      | panic ch => exact ⟨_, a₁, w₁, hq, harr⟩
      | outgrown => exact ⟨_, a₁, w₁, hq, harr⟩
  obtain ⟨e, a₁, w₁, hq, harr⟩ := first b (.inScope c :: k) cs
  cases e with
  | normal => exact ⟨.normal, a₁, w₁, hq, .head step_scope (Steps.trans harr (.one step_inScope))⟩
  | exit id => exact ⟨.exit id, a₁, w₁, hq, fun k' hk => .head step_scope (harr k' (by simp [exitTo, hk]))⟩
  | goto l' =>
    obtain ⟨rest', hf', e₂, a₂, w₂, hq₂, harr₂⟩ := key _ l' a₁ w₁ rfl hq
    have hg : gotoIn l' (.inScope c :: k) = some (.code rest' :: .inScope c :: k) := by simp [gotoIn, hf']
    exact ⟨e₂, a₂, w₂, hq₂, .of_steps (.head step_scope (harr _ hg)) harr₂⟩
  | ret => exact ⟨_, a₁, w₁, hq, .of_steps (.one step_scope) harr⟩
  | panic ch => exact ⟨_, a₁, w₁, hq, .of_steps (.one step_scope) harr⟩
  | outgrown => exact ⟨_, a₁, w₁, hq, .of_steps (.one step_scope) harr⟩
end Go.Proofs.YtcolecidbalmhaaGreatDoor
namespace Go.Proofs.YtcolecidbalmhaaGreatDoor
open Go.RowKit
set_option maxRecDepth 100000
set_option linter.unusedVariables false

theorem charAt_any (s : ByteArray) (k : Nat) (w : World) (hs : s.size ≤ maxLen) (hk : k ≤ 1000) :
    Calls Tryz.prog 208 #[.string s, .int .i64 k] w fun e w' => e = .returned (.int .i64 (M.chr s.data.toList k)) ∧ w = w' := by
  unfold maxLen at hs
  by_cases hlt : k < s.size
  · have HC := Lib.hid ((M.chr_at s k hlt).trans (M.cls_eq _))
    go_enter Tryz.func208, Tryz.ntmps208
    go_wp2_with fail
    all_goals
      go_ret
      refine ⟨ret_int ?_, rfl⟩
      (try simp only [beq_iff_eq, beq_eq_false_iff_ne, ne_eq] at *)
      rw [HC.out]
      repeat' (first | rfl | omega | split)
  · have HC := Lib.hid (M.chr_end s k (by omega))
    have hge : (s.size : Int) ≤ k := by omega
    go_enter Tryz.func208, Tryz.ntmps208
    go_wp2_with fail
    go_ret
    exact ⟨ret_int HC.out.symm, rfl⟩

/-- What holds where the machine comes to a label. -/
def AtLab (l : List UInt8) : Nat → Nat → Prop
  | 0, k => M.mDot (l.drop k) = M.mDot l
  | 1, k => M.mPlain (l.drop (k + 1)) = M.mDot l
  | 2, k => M.mDash (l.drop (k + 1)) = M.mDot l
  | _, _ => False
def PartsJ (s : ByteArray) (w : World) (lab : Nat) (a' : Act) (w' : World) : Prop :=
  w = w' ∧ ∃ (i : Int) (k : Nat) (u4 u5 u6 u7 u8 u9 u10 u11 u12 u13 u14 u15 u16 u17 u18 u19 u20 u21 u22 u23 u24 u25 u26 u27 u28 u29 u30 u31 u32 u33 u34 u35 : Value), a' = { tmps := #[.string s, undef, .bool false, .int .i64 i, u4, u5, u6, u7, u8, u9, u10, u11, u12, u13, u14, u15, u16, u17, u18, u19, u20, u21, u22, u23, u24, u25, u26, u27, u28, u29, u30, u31, u32, u33, u34, u35], defers := [] } ∧ i = k ∧ k < s.size ∧ AtLab s.data.toList lab k
def placeOf (a : Act) : Nat := (intOf (a.tmps.getD 3 undef)).toNat

theorem hasParts_any (s : ByteArray) (w : World) (hs : s.size ≤ 20) :
    Calls Tryz.prog 153 #[.string s] w fun e w' => e = .returned (.bool (M.mDot s.data.toList)) ∧ w = w' := by
  have hm : s.size ≤ maxLen := by simp only [maxLen]; omega
  have C : ∀ (i : Int) (k : Nat) (c : Int), M.chr s.data.toList k = c → i = k → k ≤ 1000 → ∀ w, Calls Tryz.prog 208 #[.string s, .int .i64 i] w fun e w' => e = .returned (.int .i64 c) ∧ w = w' := by
    intro i k c hc hi hk w
    subst hi
    subst hc
    exact charAt_any s k w hm hk
  have hL : s.data.toList.length = s.size := by simp
  have S := fun k => M.step s.data.toList k
  have h0 : M.mDot (s.data.toList.drop 0) = M.mDot s.data.toList := rfl
  obtain ⟨B, hB⟩ : ∃ B, B = M.mDot s.data.toList := ⟨_, rfl⟩
  have fin : ∀ (b : Bool), b = B → Ending.returned (.bool b) = .returned (.bool (M.mDot s.data.toList)) := fun _ h => by rw [h, hB]
  have HF := Lib.hid fin
  have HB := Lib.hid hB
  clear fin hB
  go_enter Tryz.func153, Tryz.ntmps153
  go_wp2_with fail
  refine wp_scope_labels (PartsJ s w) (fun _ a' _ => s.size - placeOf a') ?_ ?_
  · go_wp2_with fail
    go_step3
    rcases S (0) with ⟨e, hl, d, p, q⟩ | ⟨e, hl, d, p, q⟩ | ⟨e, hl, d, p, q⟩ | ⟨e, hl, d, p, q⟩ | ⟨e, hl, d, p, q⟩ | ⟨e, hl, d, p, q⟩
    · go_wp2_with fail
      refine (C 0 (0) _ e (by omega) (by omega) _).mono ?_
      rintro r w' ⟨rfl, rfl⟩
      have h1 := d.symm.trans h0
      clear e
      go_wp2_with fail
      go_step3
      rcases S (0 + 1) with ⟨e, hl, d, p, q⟩ | ⟨e, hl, d, p, q⟩ | ⟨e, hl, d, p, q⟩ | ⟨e, hl, d, p, q⟩ | ⟨e, hl, d, p, q⟩ | ⟨e, hl, d, p, q⟩ <;> clear S
      · go_wp2_with fail
        refine (C (0 + 1) (0 + 1) _ e (by omega) (by omega) _).mono ?_
        rintro r w' ⟨rfl, rfl⟩
        go_wp2_with fail
        go_step3
        refine ⟨rfl, _, 0 + 1, _, _, _, _, _, _, _, _, _, _, _, _, _, _, _, _, _, _, _, _, _, _, _, _, _, _, _, _, _, _, _, _, rfl, by omega, by omega, ?_⟩
        exact (p.symm).trans h1
      · go_wp2_with fail
        refine (C (0 + 1) (0 + 1) _ e (by omega) (by omega) _).mono ?_
        rintro r w' ⟨rfl, rfl⟩
        go_wp2_with fail
        go_step3
        refine ⟨rfl, _, 0 + 1, _, _, _, _, _, _, _, _, _, _, _, _, _, _, _, _, _, _, _, _, _, _, _, _, _, _, _, _, _, _, _, _, rfl, by omega, by omega, ?_⟩
        exact (p.symm).trans h1
      · go_wp2_with fail
        refine (C (0 + 1) (0 + 1) _ e (by omega) (by omega) _).mono ?_
        rintro r w' ⟨rfl, rfl⟩
        have hlt : (0 + 1) + 1 < (s.size : Int) := by omega
        go_wp2_with fail
        go_step3
        refine ⟨rfl, _, 0 + 1 + 1, _, _, _, _, _, _, _, _, _, _, _, _, _, _, _, _, _, _, _, _, _, _, _, _, _, _, _, _, _, _, _, _, rfl, by omega, by omega, ?_⟩
        exact (p.symm).trans h1
      · go_wp2_with fail
        refine (C (0 + 1) (0 + 1) _ e (by omega) (by omega) _).mono ?_
        rintro r w' ⟨rfl, rfl⟩
        have hlt : ¬ (0 + 1) + 1 < (s.size : Int) := by omega
        go_wp2_with fail
        simp only [jumps]
        go_ret
        exact ⟨HF.out _ ((p.symm).trans (h1.trans HB.out.symm)), rfl⟩
      · go_wp2_with fail
        refine (C (0 + 1) (0 + 1) _ e (by omega) (by omega) _).mono ?_
        rintro r w' ⟨rfl, rfl⟩
        go_wp2_with fail
        simp only [jumps]
        go_ret
        exact ⟨HF.out _ ((p.symm).trans (h1.trans HB.out.symm)), rfl⟩
      · go_wp2_with fail
        refine (C (0 + 1) (0 + 1) _ e (by omega) (by omega) _).mono ?_
        rintro r w' ⟨rfl, rfl⟩
        go_wp2_with fail
        simp only [jumps]
        go_ret
        exact ⟨HF.out _ ((p.symm).trans (h1.trans HB.out.symm)), rfl⟩
    · go_wp2_with fail
      refine (C 0 (0) _ e (by omega) (by omega) _).mono ?_
      rintro r w' ⟨rfl, rfl⟩
      go_wp2_with fail
      simp only [jumps]
      go_ret
      exact ⟨HF.out _ ((d.symm).trans (h0.trans HB.out.symm)), rfl⟩
    · go_wp2_with fail
      refine (C 0 (0) _ e (by omega) (by omega) _).mono ?_
      rintro r w' ⟨rfl, rfl⟩
      go_wp2_with fail
      simp only [jumps]
      go_ret
      exact ⟨HF.out _ ((d.symm).trans (h0.trans HB.out.symm)), rfl⟩
    · go_wp2_with fail
      refine (C 0 (0) _ e (by omega) (by omega) _).mono ?_
      rintro r w' ⟨rfl, rfl⟩
      go_wp2_with fail
      simp only [jumps]
      go_ret
      exact ⟨HF.out _ ((d.symm).trans (h0.trans HB.out.symm)), rfl⟩
    · go_wp2_with fail
      refine (C 0 (0) _ e (by omega) (by omega) _).mono ?_
      rintro r w' ⟨rfl, rfl⟩
      go_wp2_with fail
      simp only [jumps]
      go_ret
      exact ⟨HF.out _ ((d.symm).trans (h0.trans HB.out.symm)), rfl⟩
    · go_wp2_with fail
      refine (C 0 (0) _ e (by omega) (by omega) _).mono ?_
      rintro r w' ⟨rfl, rfl⟩
      go_wp2_with fail
      simp only [jumps]
      go_ret
      exact ⟨HF.out _ ((d.symm).trans (h0.trans HB.out.symm)), rfl⟩
  · rintro lab a' w' ⟨rfl, i, k, u4, u5, u6, u7, u8, u9, u10, u11, u12, u13, u14, u15, u16, u17, u18, u19, u20, u21, u22, u23, u24, u25, u26, u27, u28, u29, u30, u31, u32, u33, u34, u35, rfl, rfl, hk, hat⟩
    rcases lab with _ | _ | _ | n
    · refine ⟨_, rfl, ?_⟩
      have h1 : M.mDot (s.data.toList.drop k) = M.mDot s.data.toList := hat
      clear hat
      rcases S (k) with ⟨e, hl, d, p, q⟩ | ⟨e, hl, d, p, q⟩ | ⟨e, hl, d, p, q⟩ | ⟨e, hl, d, p, q⟩ | ⟨e, hl, d, p, q⟩ | ⟨e, hl, d, p, q⟩
      · go_wp2_with fail
        refine (C k (k) _ e (by omega) (by omega) _).mono ?_
        rintro r w' ⟨rfl, rfl⟩
        have h1 := d.symm.trans h1
        clear e
        go_wp2_with fail
        go_step3
        rcases S (k + 1) with ⟨e, hl, d, p, q⟩ | ⟨e, hl, d, p, q⟩ | ⟨e, hl, d, p, q⟩ | ⟨e, hl, d, p, q⟩ | ⟨e, hl, d, p, q⟩ | ⟨e, hl, d, p, q⟩ <;> clear S
        · go_wp2_with fail
          refine (C ((k : Int) + 1) (k + 1) _ e (by omega) (by omega) _).mono ?_
          rintro r w' ⟨rfl, rfl⟩
          go_wp2_with fail
          go_step3
          refine ⟨⟨rfl, _, k + 1, _, _, _, _, _, _, _, _, _, _, _, _, _, _, _, _, _, _, _, _, _, _, _, _, _, _, _, _, _, _, _, _, rfl, by omega, by omega, ?_⟩, ?_⟩
          · exact (p.symm).trans h1
          · simp [placeOf, intOf]; omega
        · go_wp2_with fail
          refine (C ((k : Int) + 1) (k + 1) _ e (by omega) (by omega) _).mono ?_
          rintro r w' ⟨rfl, rfl⟩
          go_wp2_with fail
          go_step3
          refine ⟨⟨rfl, _, k + 1, _, _, _, _, _, _, _, _, _, _, _, _, _, _, _, _, _, _, _, _, _, _, _, _, _, _, _, _, _, _, _, _, rfl, by omega, by omega, ?_⟩, ?_⟩
          · exact (p.symm).trans h1
          · simp [placeOf, intOf]; omega
        · go_wp2_with fail
          refine (C ((k : Int) + 1) (k + 1) _ e (by omega) (by omega) _).mono ?_
          rintro r w' ⟨rfl, rfl⟩
          have hlt : ((k : Int) + 1) + 1 < (s.size : Int) := by omega
          go_wp2_with fail
          go_step3
          refine ⟨⟨rfl, _, k + 1 + 1, _, _, _, _, _, _, _, _, _, _, _, _, _, _, _, _, _, _, _, _, _, _, _, _, _, _, _, _, _, _, _, _, rfl, by omega, by omega, ?_⟩, ?_⟩
          · exact (p.symm).trans h1
          · simp [placeOf, intOf]; omega
        · go_wp2_with fail
          refine (C ((k : Int) + 1) (k + 1) _ e (by omega) (by omega) _).mono ?_
          rintro r w' ⟨rfl, rfl⟩
          have hlt : ¬ ((k : Int) + 1) + 1 < (s.size : Int) := by omega
          go_wp2_with fail
          simp only [jumps]
          go_ret
          exact ⟨HF.out _ ((p.symm).trans (h1.trans HB.out.symm)), rfl⟩
        · go_wp2_with fail
          refine (C ((k : Int) + 1) (k + 1) _ e (by omega) (by omega) _).mono ?_
          rintro r w' ⟨rfl, rfl⟩
          go_wp2_with fail
          simp only [jumps]
          go_ret
          exact ⟨HF.out _ ((p.symm).trans (h1.trans HB.out.symm)), rfl⟩
        · go_wp2_with fail
          refine (C ((k : Int) + 1) (k + 1) _ e (by omega) (by omega) _).mono ?_
          rintro r w' ⟨rfl, rfl⟩
          go_wp2_with fail
          simp only [jumps]
          go_ret
          exact ⟨HF.out _ ((p.symm).trans (h1.trans HB.out.symm)), rfl⟩
      · go_wp2_with fail
        refine (C k (k) _ e (by omega) (by omega) _).mono ?_
        rintro r w' ⟨rfl, rfl⟩
        go_wp2_with fail
        simp only [jumps]
        go_ret
        exact ⟨HF.out _ ((d.symm).trans (h1.trans HB.out.symm)), rfl⟩
      · go_wp2_with fail
        refine (C k (k) _ e (by omega) (by omega) _).mono ?_
        rintro r w' ⟨rfl, rfl⟩
        go_wp2_with fail
        simp only [jumps]
        go_ret
        exact ⟨HF.out _ ((d.symm).trans (h1.trans HB.out.symm)), rfl⟩
      · go_wp2_with fail
        refine (C k (k) _ e (by omega) (by omega) _).mono ?_
        rintro r w' ⟨rfl, rfl⟩
        go_wp2_with fail
        simp only [jumps]
        go_ret
        exact ⟨HF.out _ ((d.symm).trans (h1.trans HB.out.symm)), rfl⟩
      · go_wp2_with fail
        refine (C k (k) _ e (by omega) (by omega) _).mono ?_
        rintro r w' ⟨rfl, rfl⟩
        go_wp2_with fail
        simp only [jumps]
        go_ret
        exact ⟨HF.out _ ((d.symm).trans (h1.trans HB.out.symm)), rfl⟩
      · go_wp2_with fail
        refine (C k (k) _ e (by omega) (by omega) _).mono ?_
        rintro r w' ⟨rfl, rfl⟩
        go_wp2_with fail
        simp only [jumps]
        go_ret
        exact ⟨HF.out _ ((d.symm).trans (h1.trans HB.out.symm)), rfl⟩
    · refine ⟨_, rfl, ?_⟩
      have h1 : M.mPlain (s.data.toList.drop (k + 1)) = M.mDot s.data.toList := hat
      clear hat
      rcases S (k + 1) with ⟨e, hl, d, p, q⟩ | ⟨e, hl, d, p, q⟩ | ⟨e, hl, d, p, q⟩ | ⟨e, hl, d, p, q⟩ | ⟨e, hl, d, p, q⟩ | ⟨e, hl, d, p, q⟩ <;> clear S
      · go_wp2_with fail
        refine (C ((k : Int) + 1) (k + 1) _ e (by omega) (by omega) _).mono ?_
        rintro r w' ⟨rfl, rfl⟩
        go_wp2_with fail
        go_step3
        refine ⟨⟨rfl, _, k + 1, _, _, _, _, _, _, _, _, _, _, _, _, _, _, _, _, _, _, _, _, _, _, _, _, _, _, _, _, _, _, _, _, rfl, by omega, by omega, ?_⟩, ?_⟩
        · exact (p.symm).trans h1
        · simp [placeOf, intOf]; omega
      · go_wp2_with fail
        refine (C ((k : Int) + 1) (k + 1) _ e (by omega) (by omega) _).mono ?_
        rintro r w' ⟨rfl, rfl⟩
        go_wp2_with fail
        go_step3
        refine ⟨⟨rfl, _, k + 1, _, _, _, _, _, _, _, _, _, _, _, _, _, _, _, _, _, _, _, _, _, _, _, _, _, _, _, _, _, _, _, _, rfl, by omega, by omega, ?_⟩, ?_⟩
        · exact (p.symm).trans h1
        · simp [placeOf, intOf]; omega
      · go_wp2_with fail
        refine (C ((k : Int) + 1) (k + 1) _ e (by omega) (by omega) _).mono ?_
        rintro r w' ⟨rfl, rfl⟩
        have hlt : ((k : Int) + 1) + 1 < (s.size : Int) := by omega
        go_wp2_with fail
        go_step3
        refine ⟨⟨rfl, _, k + 1 + 1, _, _, _, _, _, _, _, _, _, _, _, _, _, _, _, _, _, _, _, _, _, _, _, _, _, _, _, _, _, _, _, _, rfl, by omega, by omega, ?_⟩, ?_⟩
        · exact (p.symm).trans h1
        · simp [placeOf, intOf]; omega
      · go_wp2_with fail
        refine (C ((k : Int) + 1) (k + 1) _ e (by omega) (by omega) _).mono ?_
        rintro r w' ⟨rfl, rfl⟩
        have hlt : ¬ ((k : Int) + 1) + 1 < (s.size : Int) := by omega
        go_wp2_with fail
        simp only [jumps]
        go_ret
        exact ⟨HF.out _ ((p.symm).trans (h1.trans HB.out.symm)), rfl⟩
      · go_wp2_with fail
        refine (C ((k : Int) + 1) (k + 1) _ e (by omega) (by omega) _).mono ?_
        rintro r w' ⟨rfl, rfl⟩
        go_wp2_with fail
        simp only [jumps]
        go_ret
        exact ⟨HF.out _ ((p.symm).trans (h1.trans HB.out.symm)), rfl⟩
      · go_wp2_with fail
        refine (C ((k : Int) + 1) (k + 1) _ e (by omega) (by omega) _).mono ?_
        rintro r w' ⟨rfl, rfl⟩
        go_wp2_with fail
        simp only [jumps]
        go_ret
        exact ⟨HF.out _ ((p.symm).trans (h1.trans HB.out.symm)), rfl⟩
    · refine ⟨_, rfl, ?_⟩
      have h1 : M.mDash (s.data.toList.drop (k + 1)) = M.mDot s.data.toList := hat
      clear hat
      rcases S (k + 1) with ⟨e, hl, d, p, q⟩ | ⟨e, hl, d, p, q⟩ | ⟨e, hl, d, p, q⟩ | ⟨e, hl, d, p, q⟩ | ⟨e, hl, d, p, q⟩ | ⟨e, hl, d, p, q⟩ <;> clear S
      · go_wp2_with fail
        refine (C ((k : Int) + 1) (k + 1) _ e (by omega) (by omega) _).mono ?_
        rintro r w' ⟨rfl, rfl⟩
        go_wp2_with fail
        go_step3
        refine ⟨⟨rfl, _, k + 1, _, _, _, _, _, _, _, _, _, _, _, _, _, _, _, _, _, _, _, _, _, _, _, _, _, _, _, _, _, _, _, _, rfl, by omega, by omega, ?_⟩, ?_⟩
        · exact (q.symm).trans h1
        · simp [placeOf, intOf]; omega
      · go_wp2_with fail
        refine (C ((k : Int) + 1) (k + 1) _ e (by omega) (by omega) _).mono ?_
        rintro r w' ⟨rfl, rfl⟩
        go_wp2_with fail
        go_step3
        refine ⟨⟨rfl, _, k + 1, _, _, _, _, _, _, _, _, _, _, _, _, _, _, _, _, _, _, _, _, _, _, _, _, _, _, _, _, _, _, _, _, rfl, by omega, by omega, ?_⟩, ?_⟩
        · exact (q.symm).trans h1
        · simp [placeOf, intOf]; omega
      · go_wp2_with fail
        refine (C ((k : Int) + 1) (k + 1) _ e (by omega) (by omega) _).mono ?_
        rintro r w' ⟨rfl, rfl⟩
        go_wp2_with fail
        simp only [jumps]
        go_ret
        exact ⟨HF.out _ ((q.symm).trans (h1.trans HB.out.symm)), rfl⟩
      · go_wp2_with fail
        refine (C ((k : Int) + 1) (k + 1) _ e (by omega) (by omega) _).mono ?_
        rintro r w' ⟨rfl, rfl⟩
        go_wp2_with fail
        simp only [jumps]
        go_ret
        exact ⟨HF.out _ ((q.symm).trans (h1.trans HB.out.symm)), rfl⟩
      · go_wp2_with fail
        refine (C ((k : Int) + 1) (k + 1) _ e (by omega) (by omega) _).mono ?_
        rintro r w' ⟨rfl, rfl⟩
        go_wp2_with fail
        simp only [jumps]
        go_ret
        exact ⟨HF.out _ ((q.symm).trans (h1.trans HB.out.symm)), rfl⟩
      · go_wp2_with fail
        refine (C ((k : Int) + 1) (k + 1) _ e (by omega) (by omega) _).mono ?_
        rintro r w' ⟨rfl, rfl⟩
        go_wp2_with fail
        simp only [jumps]
        go_ret
        exact ⟨HF.out _ ((q.symm).trans (h1.trans HB.out.symm)), rfl⟩
    · exact hat.elim
end Go.Proofs.YtcolecidbalmhaaGreatDoor
namespace Go.Proofs.YtcolecidbalmhaaGreatDoor
open Go.RowKit
set_option maxRecDepth 100000
set_option linter.unusedVariables false

theorem l5Sign_any (b : UInt8) (w : World) :
    Calls Tryz.prog 223 #[.int .u8 (b.toNat : Int)] w fun e w' => e = .returned (.bool (M.signB b)) ∧ w = w' := by
  have HS := Lib.hid (M.signB_eq b)
  go_enter Tryz.func223, Tryz.ntmps223
  go_wp2_with fail
  all_goals
    go_ret
    refine ⟨ret_bool ?_, rfl⟩
    rw [HS.out]
    (try simp only [beq_iff_eq, beq_eq_false_iff_ne, ne_eq] at *)
    first | (symm; rw [decide_eq_true_iff]; omega) | (symm; rw [decide_eq_false_iff_not]; omega) | (rw [Bool.eq_iff_iff]; simp only [beq_iff_eq, decide_eq_true_eq, Bool.or_eq_true]; omega)

theorem implNameFault_any (s : ByteArray) (w : World) (hs : s.size ≤ maxLen) :
    Calls Tryz.prog 84 #[.string s] w fun e w' => e = .returned (.int .i64 (M.nameF s.data.toList)) ∧ w = w' := by
  have hL : s.data.toList.length = s.size := by simp
  unfold maxLen at hs
  by_cases h : 20 < s.size
  · have HE := Lib.hid (M.nameF_long (l := s.data.toList) (by omega))
    have h' : (20 : Int) < s.size := by omega
    go_enter Tryz.func84, Tryz.ntmps84
    go_wp2_with fail
    go_ret
    exact ⟨ret_int HE.out.symm, rfl⟩
  have h' : ¬ (20 : Int) < s.size := by omega
  have F := fun w => hasParts_any s w (by omega)
  cases hm : M.mDot s.data.toList
  · have HE := Lib.hid (M.nameF_no (l := s.data.toList) (by omega) hm)
    simp only [hm] at F
    clear hm
    go_enter Tryz.func84, Tryz.ntmps84
    go_wp2_with fail
    refine (F _).mono ?_
    rintro r w' ⟨rfl, rfl⟩
    go_wp2_with fail
    go_ret
    exact ⟨ret_int HE.out.symm, rfl⟩
  · have HE := Lib.hid (M.nameF_yes (l := s.data.toList) (by omega) hm)
    simp only [hm] at F
    clear hm
    go_enter Tryz.func84, Tryz.ntmps84
    go_wp2_with fail
    refine (F _).mono ?_
    rintro r w' ⟨rfl, rfl⟩
    go_wp2_with fail
    go_ret
    exact ⟨ret_int HE.out.symm, rfl⟩

theorem l5Part_any (s : ByteArray) (w : World) (hs : s.size ≤ maxLen) :
    Calls Tryz.prog 174 #[.string s] w fun e w' => e = .returned (.bool (M.partB s.data.toList)) ∧ w = w' := by
  unfold maxLen at hs
  go_enter Tryz.func174, Tryz.ntmps174
  go_wp2_with fail
  go_loop [3] (fun i => ∃ k : Nat, k ≤ s.size ∧ i = .int .i64 k ∧ Hid (M.signTo s k = true)) (fun i => s.size - (intOf i).toNat)
  case atStart => exact ⟨0, Nat.zero_le _, rfl, Lib.hid (M.signTo_zero s)⟩
  case round =>
    obtain ⟨k, hk, rfl, hlow⟩ := hrel
    by_cases hlt : k < s.size
    · have F := fun w => l5Sign_any s[k] w
      cases hb : M.signB s[k]
      · have HS := Lib.hid (M.partB_stop s k hlt hb)
        simp only [hb] at F
        clear hb
        go_wp2_with fail
        refine (F _).mono ?_
        rintro r w' ⟨rfl, rfl⟩
        go_wp2_with fail
        go_ret
        exact ⟨ret_bool HS.out.symm, rfl⟩
      · have HN := Lib.hid (M.signTo_next s k hlt hlow.out hb)
        simp only [hb] at F
        clear hb
        go_wp2_with fail
        refine (F _).mono ?_
        rintro r w' ⟨rfl, rfl⟩
        go_wp2_with fail
        go_round
        case rel => exact ⟨k + 1, by omega, by go_num, HN⟩
        case measure => simp [intOf]; omega
    · obtain rfl : k = s.size := by omega
      by_cases h1 : s.size < 1
      · have HS := Lib.hid (M.partB_short s h1)
        have h1' : ¬ 1 ≤ (s.size : Int) := by omega
        go_wp2_with fail
        go_ret
        exact ⟨ret_bool HS.out.symm, rfl⟩
      · obtain ⟨n, hn⟩ : ∃ n, s.size = n + 1 := ⟨s.size - 1, by omega⟩
        have HS := Lib.hid (M.partB_ends s n hn hlow.out)
        have h1' : 1 ≤ (s.size : Int) := by omega
        go_wp2_with fail
        all_goals
          go_ret
          refine ⟨ret_bool ?_, rfl⟩
          rw [HS.out]
          unfold M.dashB
          rcases Classical.em ((s[0].toNat : Int) = 45) with q0 | q0 <;> rcases Classical.em ((s[n].toNat : Int) = 45) with q1 | q1 <;> simp [q0, q1] at * <;> simp [bne, q0, q1]

theorem l5Bare_any (s : ByteArray) (w : World) (hs : s.size ≤ maxLen) :
    Calls Tryz.prog 173 #[.string s] w fun e w' => e = .returned (.string (M.bs (M.bare s.data.toList))) ∧ w = w' := by
  unfold maxLen at hs
  by_cases h1 : s.size ≤ 1
  · have h1' : ¬ 1 < (s.size : Int) := by omega
    rw [M.bare_one s h1]
    go_enter Tryz.func173, Tryz.ntmps173
    go_wp2_with fail
    go_ret
    simp
  obtain ⟨n, hn⟩ : ∃ n, s.size = n + 2 := ⟨s.size - 2, by omega⟩
  cases hd : M.dotB (s[n + 1]'(by omega))
  · rw [M.bare_not s n hn hd]
    have hd' : ((s[n + 1]'(by omega)).toNat : Int) ≠ 46 := by simpa [M.dotB] using hd
    go_enter Tryz.func173, Tryz.ntmps173
    go_wp2_with fail
    go_ret
    exact ⟨rfl, rfl⟩
  · rw [M.bare_dot s n hn hd]
    have hd' : ((s[n + 1]'(by omega)).toNat : Int) = 46 := by simpa [M.dotB] using hd
    go_enter Tryz.func173, Tryz.ntmps173
    go_wp2_with fail
    go_ret
    exact ⟨rfl, rfl⟩
end Go.Proofs.YtcolecidbalmhaaGreatDoor
