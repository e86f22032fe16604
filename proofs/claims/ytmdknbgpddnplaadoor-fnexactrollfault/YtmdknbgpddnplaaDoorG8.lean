/- Slices of rollovers: read, and made. No condition beside what each theorem states. -/
import Derived.Test.YtmdknbgpddnplaaDoorMath8
import Derived.Test.YtmdknbgpddnplaaDoorG7
namespace Go.Proofs.YtmdknbgpddnplaaDoor
open Go.RowKit
set_option maxRecDepth 100000
set_option linter.unusedVariables false

theorem At.newN {w : World} (cs : List Value) (t : TypeId) {n : Nat} (h : w.heap.size = n) : At n cs (w.alloc (.cells cs.toArray t)) := h ▸ At.new w cs t
/-- A slice of rollovers that is read: 'ps' are its elements; it lies below block B. -/
structure RRow (w : World) (B : Nat) (a : Option Addr) (len cap : Nat) (ps : List RollD) : Prop where
  length : ps.length = len
  fits : len ≤ cap
  most : cap ≤ maxLen
  names : ∀ p ∈ ps, p.p.n.size ≤ maxLen
  cells : 0 < len → ∃ b off, a = some ⟨b, off, none⟩ ∧ b < B ∧ ∀ j, j < len → ∀ i v, (ps[j]?.getD roll0).vals[i]? = some v → w.cell? ⟨b, off + j * 8 + i, none⟩ = some v
section
variable {w w' : World} {B B' : Nat} {a : Option Addr} {len cap : Nat} {ps : List RollD}
theorem RRow.keep (h : RRow w B a len cap ps) (hk : ∀ i, i < B → w'.heap[i]? = w.heap[i]?) : RRow w' B a len cap ps :=
  ⟨h.length, h.fits, h.most, h.names, fun hp => by
    obtain ⟨b, off, e, hb, hc⟩ := h.cells hp
    exact ⟨b, off, e, hb, fun j hj i v hv => (World.cell?_of_block (w := w) (hk b hb)).trans (hc j hj i v hv)⟩⟩
theorem RRow.below (h : RRow w B a len cap ps) (hb : Below B w w') : RRow w' B a len cap ps := h.keep hb.block
theorem RRow.more (h : RRow w B a len cap ps) (hB : B ≤ B') : RRow w B' a len cap ps :=
  ⟨h.length, h.fits, h.most, h.names, fun hp => by
    obtain ⟨b, off, e, hb, hc⟩ := h.cells hp
    exact ⟨b, off, e, by omega, hc⟩⟩
theorem RRow.on (h : RRow w w.heap.size a len cap ps) (hb : Below w.heap.size w w') : RRow w' w'.heap.size a len cap ps := (h.below hb).more hb.size
theorem RRow.on' (h : RRow w B a len cap ps) (hB : B ≤ w.heap.size) (hb : Below w.heap.size w w') : RRow w' B a len cap ps := h.below (hb.mono hB)
theorem RRow.alloc (h : RRow w B a len cap ps) (hB : B ≤ w.heap.size) (o : Obj) : RRow (w.alloc o) B a len cap ps := h.below ((Below.refl B w).alloc hB o)
theorem RRow.nil (w : World) (B : Nat) : RRow w B none 0 0 [] := ⟨rfl, Nat.le_refl _, Nat.zero_le _, by simp, fun h => absurd h (by omega)⟩
/-- Element k's eight cells. -/
theorem RRow.at' (h : RRow w B a len cap ps) {k : Nat} (hk : k < len) : ∃ b off, a = some ⟨b, off, none⟩ ∧ b < B ∧
    w.cell? ⟨b, off + k * 8, none⟩ = some (.string (ps[k]?.getD roll0).p.n) ∧ w.cell? ⟨b, off + k * 8 + 1, none⟩ = some (.int .i64 (ps[k]?.getD roll0).p.a) ∧ w.cell? ⟨b, off + k * 8 + 2, none⟩ = some (.int .i64 (ps[k]?.getD roll0).p.b) ∧
    w.cell? ⟨b, off + k * 8 + 3, none⟩ = some (.int .i64 (ps[k]?.getD roll0).p.e) ∧ w.cell? ⟨b, off + k * 8 + 4, none⟩ = some (.int .i64 (ps[k]?.getD roll0).p.u) ∧
    w.cell? ⟨b, off + k * 8 + 5, none⟩ = some (.int .i64 (ps[k]?.getD roll0).b) ∧ w.cell? ⟨b, off + k * 8 + 6, none⟩ = some (.int .i64 (ps[k]?.getD roll0).x) ∧ w.cell? ⟨b, off + k * 8 + 7, none⟩ = some (.int .i64 (ps[k]?.getD roll0).y) := by
  obtain ⟨b, off, e, hb, hc⟩ := h.cells (by omega)
  exact ⟨b, off, e, hb, hc k hk 0 _ rfl, hc k hk 1 _ rfl, hc k hk 2 _ rfl, hc k hk 3 _ rfl, hc k hk 4 _ rfl, hc k hk 5 _ rfl, hc k hk 6 _ rfl, hc k hk 7 _ rfl⟩
theorem RRow.mem (h : RRow w B a len cap ps) {k : Nat} (hk : k < len) : (ps[k]?.getD roll0) ∈ ps := by
  have := h.length
  rw [List.getElem?_eq_getElem (by omega)]
  exact List.getElem_mem _
theorem RRow.name (h : RRow w B a len cap ps) {k : Nat} (hk : k < len) : (ps[k]?.getD roll0).p.n.size ≤ maxLen := h.names _ (h.mem hk)
/-- A beginning of it. -/
theorem RRow.take (h : RRow w B a len cap ps) {k : Nat} (hk : k ≤ len) : RRow w B a k cap (ps.take k) := by
  have hl := h.length
  refine ⟨by rw [List.length_take]; omega, Nat.le_trans hk h.fits, h.most, fun p hp => h.names p (List.mem_of_mem_take hp), fun hp => ?_⟩
  obtain ⟨b, off, e, hb, hc⟩ := h.cells (by omega)
  refine ⟨b, off, e, hb, fun j hj i v hv => hc j (by omega) i v ?_⟩
  rw [List.getElem?_take_of_lt hj] at hv
  exact hv
end

/-- A slice of rollovers of the call's own. -/
def OwnR (w : World) (B : Nat) (v : Value) (ps : List RollD) : Prop := Own w B 8 v ps.length (flatR ps)
section
variable {w w' : World} {B : Nat} {v : Value} {ps : List RollD}
theorem OwnR.row {a : Option Addr} {len cap : Nat} (h : OwnR w B (.slice a len cap) ps) (hs : ∀ p ∈ ps, p.p.n.size ≤ maxLen) : RRow w w.heap.size a len cap ps := by
  rcases h.2 with ⟨e, h0⟩ | ⟨g, c, e, hb, hg, h1, h2, hc, _⟩
  · injection e with e1 e2 e3
    subst e1; subst e2; subst e3
    obtain rfl : ps = [] := List.eq_nil_of_length_eq_zero h0
    exact RRow.nil _ _
  · injection e with e1 e2 e3
    subst e1; subst e2; subst e3
    exact ⟨rfl, h1, h2, hs, fun hp => ⟨g, 0, rfl, hg, fun j hj i v hv => by
      rw [Nat.zero_add]
      exact hc _ v (flatR_get ps j i v hj hv)⟩⟩
theorem OwnR.nil (w : World) (B : Nat) : OwnR w B (.slice none 0 0) [] := Own.nil w B 8
theorem OwnR.alloc (h : OwnR w B v ps) (o : Obj) : OwnR (w.alloc o) B v ps := Own.alloc h o
theorem OwnR.below (h : OwnR w B v ps) (hb : Below w.heap.size w w') : OwnR w' B v ps := Own.below h hb
theorem OwnR.form (h : OwnR w B v ps) : ∃ a cap, v = .slice a ps.length cap ∧ ps.length ≤ cap ∧ cap ≤ maxLen ∧ (a = none → ps.length = 0 ∧ cap = 0) := Own.form h
theorem OwnR.less {B' : Nat} (h : OwnR w B v ps) (hB : B' ≤ B) : OwnR w B' v ps := Own.less h hB
end
theorem roll_oneCell (p : RollD) : ∀ v ∈ p.vals, v.oneCell' = true := by
  intro v hv
  simp only [RollD.vals, List.mem_cons, List.not_mem_nil, or_false] at hv
  rcases hv with rfl | rfl | rfl | rfl | rfl | rfl | rfl | rfl <;> rfl

/-- Cells that have been laid so far into a new block, in their order. -/
structure FillC (w : World) (n : Nat) (cs : List Value) (m : Nat) (wr : World) : Prop where
  told : ∀ j, j < m → ∀ v, cs[j]? = some v → wr.cell? ⟨w.heap.size, j, none⟩ = some v
  room : ∀ j, j < n → (∃ u, wr.cell? ⟨w.heap.size, j, none⟩ = some u) ∧ wr.frozen? ⟨w.heap.size, j, none⟩ = false
  lt : w.heap.size < wr.heap.size
  bel : Below w.heap.size w wr
theorem FillC.new (w : World) (n : Nat) (ps : List Value) (cs : Array Value) (t : TypeId) (hs : cs.size = n) : FillC w n ps 0 (w.alloc (.cells cs t)) := by
  have e1 : (w.alloc (.cells cs t)).heap[w.heap.size]? = some (.cells cs t) := (MapKept.heap_alloc w _).1
  refine ⟨fun j hj => absurd hj (by omega), fun j hj => ?_, by simp, bal (Below.refl _ _) _⟩
  unfold World.cell? World.frozen?
  rw [e1]
  exact ⟨⟨cs[j], by simp [show j < cs.size by omega]⟩, by simp⟩
theorem FillC.on {w wr wr' : World} {n : Nat} {ps : List Value} {k : Nat} (h : FillC w n ps k wr) (hb : Below wr.heap.size wr wr') : FillC w n ps k wr' := by
  have e := hb.block w.heap.size h.lt
  refine ⟨fun j hj v hv => cell_keep hb (h.told j hj v hv), fun j hj => ?_, Nat.lt_of_lt_of_le h.lt hb.size, btr h.bel hb⟩
  rw [World.cell?_of_block (w := wr) (a := ⟨w.heap.size, j, none⟩) e, World.frozen?_of_block (w := wr) (a := ⟨w.heap.size, j, none⟩) e]
  exact h.room j hj
theorem FillC.one {w wr : World} {n : Nat} {cs : List Value} {m : Nat} {v : Value} (h : FillC w n cs m wr) (hm : m < n) (hv : cs[m]? = some v) : FillC w n cs (m + 1) (wr.setCell ⟨w.heap.size, m, none⟩ v) := by
  refine ⟨fun i hi u hu => ?_, fun i hi => ?_, by simpa [World.setCell] using h.lt, bset h.bel (Nat.le_refl _) v⟩
  · by_cases e : i = m
    · subst e
      rw [hv] at hu
      injection hu with hu
      subst hu
      obtain ⟨u0, hu0⟩ := (h.room i hm).1
      exact World.cell?_setCell_same _ _ _ (by rw [hu0])
    · rw [World.cell?_setCell_other _ _ _ _ (fun e => by injection e with _ e2; omega)]
      exact h.told i (by omega) u hu
  · obtain ⟨⟨u, hu⟩, hf⟩ := h.room i hi
    exact ⟨cell?_setCell_some (w := wr) (p := ⟨w.heap.size, m, none⟩) (x := v) (q := ⟨w.heap.size, i, none⟩) (v := u) hu, by rw [World.frozen?_setCell]; exact hf⟩
theorem FillC.roll {w wr : World} {n : Nat} {ps : List RollD} {k : Nat} (h : FillC w (n * 8) (flatR ps) (k * 8) wr) (hk : k < n) (hl : ps.length = n) {p : RollD} (hp : ps[k]?.getD roll0 = p) :
    FillC w (n * 8) (flatR ps) ((k + 1) * 8) ((((((((wr.setCell ⟨w.heap.size, k * 8, none⟩ (.string p.p.n)).setCell ⟨w.heap.size, k * 8 + 1, none⟩ (.int .i64 p.p.a)).setCell ⟨w.heap.size, k * 8 + 2, none⟩ (.int .i64 p.p.b)).setCell ⟨w.heap.size, k * 8 + 3, none⟩ (.int .i64 p.p.e)).setCell ⟨w.heap.size, k * 8 + 4, none⟩ (.int .i64 p.p.u)).setCell ⟨w.heap.size, k * 8 + 5, none⟩ (.int .i64 p.b)).setCell ⟨w.heap.size, k * 8 + 6, none⟩ (.int .i64 p.x)).setCell ⟨w.heap.size, k * 8 + 7, none⟩ (.int .i64 p.y)) := by
  subst hp
  have g := fun i v hv => flatR_get ps k i v (by omega) hv
  have e : (k + 1) * 8 = k * 8 + 7 + 1 := by omega
  rw [e]
  exact (((((((h.one (by omega) (g 0 _ rfl)).one (by omega) (g 1 _ rfl)).one (by omega) (g 2 _ rfl)).one (by omega) (g 3 _ rfl)).one (by omega) (g 4 _ rfl)).one (by omega) (g 5 _ rfl)).one (by omega) (g 6 _ rfl)).one (by omega) (g 7 _ rfl)
theorem FillC.own {w wr : World} {n : Nat} {ps : List RollD} (h : FillC w (n * 8) (flatR ps) (n * 8) wr) (hl : ps.length = n) (hm : n ≤ maxLen) : OwnR wr w.heap.size (.slice (some ⟨w.heap.size, 0, none⟩) n n) ps := by
  subst hl
  refine ⟨flatR_length ps, .inr ⟨w.heap.size, _, rfl, Nat.le_refl _, h.lt, Nat.le_refl _, hm, fun j u hu => ?_, fun j hj => ?_⟩⟩
  · have hj := (List.getElem?_eq_some_iff.1 hu).1
    rw [flatR_length] at hj
    exact h.told j hj u hu
  · obtain ⟨⟨u, hu⟩, hf⟩ := h.room j hj
    exact ⟨by rw [hu]; rfl, hf⟩
end Go.Proofs.YtmdknbgpddnplaaDoor
