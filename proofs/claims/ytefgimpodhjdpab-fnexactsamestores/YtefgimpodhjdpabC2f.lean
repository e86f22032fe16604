/- Contracts of the transcripts of chapter 2, and of their model's; slices of slices of bytes. Conditions: as each theorem states. -/
import Derived.Test.YtefgimpodhjdpabC2e
namespace Go.Proofs.Ytefgimpodhjdpab
open Go.RowKit
set_option maxRecDepth 100000

/-- A slice of slices of bytes that is read: 'zss' are its elements; all of it lies below block B. -/
structure Grid (w : World) (B : Nat) (a : Option Addr) (len cap : Nat) (zss : List (List Int)) : Prop where
  length : zss.length = len
  fits : len ≤ cap
  most : cap ≤ maxLen
  cells : 0 < len → ∃ b off, a = some ⟨b, off, none⟩ ∧ b < B ∧ ∀ j, j < len → ∃ a' n' c', w.cell? ⟨b, off + j, none⟩ = some (.slice a' n' c') ∧ Row .u8 w B a' n' c' (zss[j]?.getD [])
section
variable {w w' : World} {B B' : Nat} {a : Option Addr} {len cap : Nat} {zss : List (List Int)}
theorem Grid.keep (h : Grid w B a len cap zss) (hk : ∀ i, i < B → w'.heap[i]? = w.heap[i]?) : Grid w' B a len cap zss :=
  ⟨h.length, h.fits, h.most, fun hp => by
    obtain ⟨b, off, e, hb, hc⟩ := h.cells hp
    refine ⟨b, off, e, hb, fun j hj => ?_⟩
    obtain ⟨a', n', c', h1, h2⟩ := hc j hj
    exact ⟨a', n', c', (World.cell?_of_block (w := w) (hk b hb)).trans h1, h2.keep hk⟩⟩
theorem Grid.below (h : Grid w B a len cap zss) (hb : Below B w w') : Grid w' B a len cap zss := h.keep hb.block
theorem Grid.more (h : Grid w B a len cap zss) (hB : B ≤ B') : Grid w B' a len cap zss :=
  ⟨h.length, h.fits, h.most, fun hp => by
    obtain ⟨b, off, e, hb, hc⟩ := h.cells hp
    refine ⟨b, off, e, by omega, fun j hj => ?_⟩
    obtain ⟨a', n', c', h1, h2⟩ := hc j hj
    exact ⟨a', n', c', h1, h2.more hB⟩⟩
theorem Grid.on (h : Grid w w.heap.size a len cap zss) (hb : Below w.heap.size w w') : Grid w' w'.heap.size a len cap zss := (h.below hb).more hb.size
theorem Grid.alloc (h : Grid w B a len cap zss) (hB : B ≤ w.heap.size) (o : Obj) : Grid (w.alloc o) B a len cap zss := h.below ((Below.refl B w).alloc hB o)
theorem Grid.nil (w : World) (B : Nat) : Grid w B none 0 0 [] := ⟨rfl, Nat.le_refl _, Nat.zero_le _, fun h => absurd h (by omega)⟩
end

def HeardRel (W : World) (zss : List (List Int)) (k : Nat) (v : Value) (wr : World) : Prop := OwnK .i64 wr W.heap.size v ((zss.take k).map M.sumL) ∧ Below W.heap.size W wr
theorem HeardRel.step {W wr w1 w2 : World} {zss : List (List Int)} {k : Nat} {v v' : Value} {o : Obj} (h : HeardRel W zss k v wr) (hk : k < zss.length) (hb : Below wr.heap.size wr w1)
    (ho : Own w2 W.heap.size 1 v' (((zss.take k).map M.sumL).length + 1) (((zss.take k).map M.sumL).map (Value.int .i64) ++ [.int .i64 (M.sumL (zss[k]?.getD []))])) (hg : (w1.alloc o).grownBy w2 v.ownBlock) : HeardRel W zss (k + 1) v' w2 := by
  refine ⟨?_, ?_⟩
  · unfold OwnK
    rw [← M.map_take_snoc M.sumL zss [] k hk]
    simpa using ho
  · have h1 : Below W.heap.size W (w1.alloc o) := bal (btr h.2 hb) o
    have h2 : Own (w1.alloc o) W.heap.size 1 v _ _ := (h.1.below hb).alloc o
    exact h2.grown h1 h1.size hg
theorem HeardRel.row {W wr : World} {zss : List (List Int)} {v : Value} (h : HeardRel W zss zss.length v wr) : ∃ a n c, v = .slice a n c ∧ n = zss.length ∧ Row .i64 wr wr.heap.size a n c (zss.map M.sumL) := by
  obtain ⟨ho, _⟩ := h
  rw [List.take_length] at ho
  obtain ⟨a, c, rfl, _⟩ := ho.form
  exact ⟨a, _, c, rfl, by simp, Own.row ho fun b hb => by
    obtain ⟨zs, _, rfl⟩ := List.mem_map.1 hb
    have := M.sumL_bd zs
    exact sum_wf (by simp [M.sumB]; omega)⟩

theorem src_new2 {P : Program} (w : World) (o : Obj) (vs : List Value) (m c : Nat) (t tx e' : TypeId) (hk : P.underlying tx = some (.slice e')) (hm : vs.length = m) (h1 : ∀ u ∈ vs, u.oneCell' = true) :
    Src P 1 tx (.slice (some ⟨w.heap.size + 1, 0, none⟩) m c) m vs ((w.alloc o).alloc (.cells vs.toArray t)) := by
  have := src_new (P := P) (w.alloc o) vs m c t tx e' hk hm h1
  rwa [show (w.alloc o).heap.size = w.heap.size + 1 by simp] at this

end Go.Proofs.Ytefgimpodhjdpab
