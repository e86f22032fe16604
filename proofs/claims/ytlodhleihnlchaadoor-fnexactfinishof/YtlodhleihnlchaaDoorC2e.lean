/- Contracts of the streams of chapter 2, and of their model's. Conditions: as each theorem states. -/
import Derived.Test.YtlodhleihnlchaaDoorC2d
namespace Go.Proofs.YtlodhleihnlchaaDoor
open Go.RowKit
set_option maxRecDepth 100000

/-- The program's table of labels holds these words. -/
structure Labels (w : World) : Prop where
  streamW : w.cell? ⟨0, 0, none⟩ = some (.string M.streamS)
  heardW : w.cell? ⟨0, 1, none⟩ = some (.string M.heardS)
  nonceW : w.cell? ⟨0, 2, none⟩ = some (.string M.nonceS)
  signW : w.cell? ⟨0, 3, none⟩ = some (.string M.signS)
  macW : w.cell? ⟨0, 4, none⟩ = some (.string M.macS)
  sealW : w.cell? ⟨0, 5, none⟩ = some (.string M.sealS)
  spkiW : w.cell? ⟨0, 6, none⟩ = some (.string M.spkiS)
  rollW : w.cell? ⟨0, 7, none⟩ = some (.string M.rollS)
  masterW : w.cell? ⟨0, 8, none⟩ = some (.string M.masterS)
  verifyW : w.cell? ⟨0, 9, none⟩ = some (.string M.verifyS)
  finishW : w.cell? ⟨0, 10, none⟩ = some (.string M.finishS)
  upW : w.cell? ⟨0, 11, none⟩ = some (.string M.upS)
  downW : w.cell? ⟨0, 12, none⟩ = some (.string M.downS)
theorem Labels.on {w w' : World} (h : Labels w) (hb : Below w.heap.size w w') : Labels w' := ⟨cell_keep hb h.streamW, cell_keep hb h.heardW, cell_keep hb h.nonceW, cell_keep hb h.signW, cell_keep hb h.macW, cell_keep hb h.sealW, cell_keep hb h.spkiW, cell_keep hb h.rollW, cell_keep hb h.masterW, cell_keep hb h.verifyW, cell_keep hb h.finishW, cell_keep hb h.upW, cell_keep hb h.downW⟩

theorem Labels.grew {w w' : World} {row : Option Nat} (h : Labels w) (hg : w.grownBy w' row) (hr : ∀ k, row = some k → 0 < k) : Labels w' := by
  have hn : ∀ i, some (Addr.block ⟨0, i, none⟩) ≠ row := fun i e => by have := hr _ e.symm; exact absurd this (Nat.lt_irrefl _)
  exact ⟨hg.cell h.streamW (hn 0), hg.cell h.heardW (hn 1), hg.cell h.nonceW (hn 2), hg.cell h.signW (hn 3), hg.cell h.macW (hn 4), hg.cell h.sealW (hn 5), hg.cell h.spkiW (hn 6), hg.cell h.rollW (hn 7), hg.cell h.masterW (hn 8), hg.cell h.verifyW (hn 9), hg.cell h.finishW (hn 10), hg.cell h.upW (hn 11), hg.cell h.downW (hn 12)⟩
theorem Labels.keep {w w' : World} (h : Labels w) (hb : w'.heap[0]? = w.heap[0]?) : Labels w' := ⟨(World.cell?_of_block (w := w) (a := ⟨0, 0, none⟩) hb).trans h.streamW, (World.cell?_of_block (w := w) (a := ⟨0, 1, none⟩) hb).trans h.heardW, (World.cell?_of_block (w := w) (a := ⟨0, 2, none⟩) hb).trans h.nonceW, (World.cell?_of_block (w := w) (a := ⟨0, 3, none⟩) hb).trans h.signW, (World.cell?_of_block (w := w) (a := ⟨0, 4, none⟩) hb).trans h.macW, (World.cell?_of_block (w := w) (a := ⟨0, 5, none⟩) hb).trans h.sealW, (World.cell?_of_block (w := w) (a := ⟨0, 6, none⟩) hb).trans h.spkiW, (World.cell?_of_block (w := w) (a := ⟨0, 7, none⟩) hb).trans h.rollW, (World.cell?_of_block (w := w) (a := ⟨0, 8, none⟩) hb).trans h.masterW, (World.cell?_of_block (w := w) (a := ⟨0, 9, none⟩) hb).trans h.verifyW, (World.cell?_of_block (w := w) (a := ⟨0, 10, none⟩) hb).trans h.finishW, (World.cell?_of_block (w := w) (a := ⟨0, 11, none⟩) hb).trans h.upW, (World.cell?_of_block (w := w) (a := ⟨0, 12, none⟩) hb).trans h.downW⟩
theorem Labels.lt {w : World} (h : Labels w) : 0 < w.heap.size := cell_lt h.streamW

/-- A code and bytes in new memory. -/
def BytesRes (c : Int) (zs : List Int) (w : World) (r : Ending) (w' : World) : Prop :=
  ∃ a len cap, r = .returned (.agg #[.int .i64 c, .slice a len cap]) ∧ OwnK .u8 w' w.heap.size (.slice a len cap) zs ∧ Below w.heap.size w w'

theorem row_three {w : World} (x y z : Int) (t : TypeId) (hx : M.sumB x = true) (hy : M.sumB y = true) (hz : M.sumB z = true) : Row .i64 (w.alloc (.cells #[.int .i64 x, .int .i64 y, .int .i64 z] t)) (w.heap.size + 1) (some ⟨w.heap.size, 0, none⟩) 3 3 [x, y, z] :=
  row_at w.heap.size 3 [x, y, z] t (MapKept.heap_alloc w _).1 rfl (by simp only [maxLen]; omega) (fun u hu => by
    simp at hu
    rcases hu with rfl | rfl | rfl
    · exact sum_wf hx
    · exact sum_wf hy
    · exact sum_wf hz)

def StreamRel (W : World) (key seq : Int) (k : Nat) (v : Value) (wr : World) : Prop := OwnK .u8 wr W.heap.size v (M.streamL key seq k) ∧ Below W.heap.size W wr
theorem StreamRel.step {W wr w1 w2 : World} {key seq : Int} {k : Nat} {v v' : Value} {o o' : Obj} (h : StreamRel W key seq k v wr) (hb : Below (wr.alloc o).heap.size (wr.alloc o) w1)
    (ho : Own w2 W.heap.size 1 v' ((M.streamL key seq k).length + 1) ((M.streamL key seq k).map (Value.int .u8) ++ [.int .u8 (M.streamB key seq k)])) (hg : (w1.alloc o').grownBy w2 v.ownBlock) : StreamRel W key seq (k + 1) v' w2 := by
  refine ⟨?_, ?_⟩
  · unfold OwnK
    rw [M.streamL_succ]
    simpa using ho
  · have h1 : Below W.heap.size W (w1.alloc o') := bal (btr (bal h.2 o) hb) o'
    have h2 : Own (w1.alloc o') W.heap.size 1 v _ _ := ((h.1.alloc o).below hb).alloc o'
    exact h2.grown h1 h1.size hg

theorem StreamRel.step1 {W wr w1 w2 : World} {key seq : Int} {k : Nat} {v v' : Value} {o' : Obj} (h : StreamRel W key seq k v wr) (hb : Below wr.heap.size wr w1)
    (ho : Own w2 W.heap.size 1 v' ((M.streamL key seq k).length + 1) ((M.streamL key seq k).map (Value.int .u8) ++ [.int .u8 (M.streamB key seq k)])) (hg : (w1.alloc o').grownBy w2 v.ownBlock) : StreamRel W key seq (k + 1) v' w2 := by
  refine ⟨?_, ?_⟩
  · unfold OwnK
    rw [M.streamL_succ]
    simpa using ho
  · have h1 : Below W.heap.size W (w1.alloc o') := bal (btr h.2 hb) o'
    have h2 : Own (w1.alloc o') W.heap.size 1 v _ _ := (h.1.below hb).alloc o'
    exact h2.grown h1 h1.size hg

def StreamOwn (key seq : Int) (n : Nat) (w : World) (r : Ending) (w' : World) : Prop := ∃ a len cap, r = .returned (.slice a len cap) ∧ OwnK .u8 w' w.heap.size (.slice a len cap) (M.streamL key seq n) ∧ Below w.heap.size w w'
theorem own_empty (w : World) (e : TypeId) : Own (w.alloc (.cells #[] e)) w.heap.size 1 (.slice (some ⟨w.heap.size, 0, none⟩) 0 0) 0 [] :=
  Own.made w #[] e 0 (Nat.le_refl _) (Nat.zero_le _) rfl

theorem strB_yes {key seq n : Int} (h : M.strB key seq n = true) : M.sumB key = true ∧ M.sumB seq = true ∧ 0 ≤ n ∧ n ≤ 200 := by
  simp only [M.strB, Bool.and_eq_true, decide_eq_true_eq] at h
  exact ⟨h.1.1, h.1.2, h.2.1, h.2.2⟩
end Go.Proofs.YtlodhleihnlchaaDoor
