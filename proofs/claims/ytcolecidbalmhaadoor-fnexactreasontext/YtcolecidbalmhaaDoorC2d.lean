/- Contracts of the derived numbers of chapter 2, and of their model's. Conditions: as each theorem states. -/
import Derived.Test.YtcolecidbalmhaaDoorC2c
namespace Go.Proofs.YtcolecidbalmhaaDoor
open Go.RowKit

/-- A block of numbers that is known whole, read as a slice. -/
theorem row_at {k : IntKind} {w : World} (g n : Nat) (zs : List Int) (t : TypeId) (hg : w.heap[g]? = some (.cells (zs.map (Value.int k)).toArray t)) (hn : zs.length = n) (hm : n ≤ maxLen) (hw : ∀ z ∈ zs, (Lit.int k z).wf = true) :
    Row k w (g + 1) (some ⟨g, 0, none⟩) n n zs :=
  ⟨hn, hw, Nat.le_refl _, hm, fun _ => ⟨g, 0, rfl, by omega, fun j hj => by
    rw [Nat.zero_add]
    unfold World.cell?
    rw [hg]
    simp [List.getD, show j < zs.length by omega]⟩⟩
theorem sum_wf {z : Int} (h : M.sumB z = true) : (Lit.int .i64 z).wf = true := by
  simp only [M.sumB, decide_eq_true_eq] at h
  simp [Lit.wf, IntKind.min, IntKind.max, IntKind.signed, IntKind.bits]; omega
theorem row_one {w : World} (o : Obj) (z : Int) (t : TypeId) (h : M.sumB z = true) : Row .i64 ((w.alloc o).alloc (.cells #[.int .i64 z] t)) (w.heap.size + 1 + 1) (some ⟨w.heap.size + 1, 0, none⟩) 1 1 [z] := by
  refine row_at (w.heap.size + 1) 1 [z] t ?_ rfl (by simp only [maxLen]; omega) (fun x hx => by simp at hx; subst hx; exact sum_wf h)
  have := (MapKept.heap_alloc (w.alloc o) (.cells #[.int .i64 z] t)).1
  rw [show (w.alloc o).heap.size = w.heap.size + 1 by simp] at this
  exact this

theorem row_one0 {w : World} (z : Int) (t : TypeId) (h : M.sumB z = true) : Row .i64 (w.alloc (.cells #[.int .i64 z] t)) (w.heap.size + 1) (some ⟨w.heap.size, 0, none⟩) 1 1 [z] :=
  row_at w.heap.size 1 [z] t (MapKept.heap_alloc w _).1 rfl (by simp only [maxLen]; omega) (fun x hx => by simp at hx; subst hx; exact sum_wf h)
theorem keyD_ok {k : Int} {s : ByteArray} (h : ((M.keyD k s).1 == 0) = true) : M.sumB k = true := by
  cases hk : M.sumB k
  · simp [M.keyD, hk] at h
  · rfl
def sameS (a b : Int) : Bool := M.sumB a && (a == b)
end Go.Proofs.YtcolecidbalmhaaDoor
