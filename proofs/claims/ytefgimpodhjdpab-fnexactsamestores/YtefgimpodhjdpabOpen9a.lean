/- A disk, opened as an argument. No condition. -/
import Derived.Test.YtefgimpodhjdpabMath9a
import Derived.Test.YtefgimpodhjdpabG2
import Derived.Test.YtefgimpodhjdpabOpen2
import Derived.Lib.SmallJoins
import Derived.OpenShut
import Derived.Deep.Slices
namespace Go.Proofs.Ytefgimpodhjdpab
open Go.Joins Go.ChangeShapes Go.WideShapes Go.RowKit Go.Deep
set_option maxRecDepth 100000

theorem disk_cells {H : Type} {enc : TypeId × Value → H} {w : World} {fuel : Nat} {cs : List Value} {x : DataW H × List MemPlace} (hl : cs.length = 2)
    (h : DataW.trod enc Try.prog w 0 (fun _ => true) true fuel 25 cs = some x) : ∃ (a : Option Addr) (n c : Nat) (zss : List (List Int)) (y : Int), cs = [.slice a n c, .int .i64 y] ∧ Grid w w.heap.size a n c zss ∧ ∀ zs ∈ zss, ∀ z ∈ zs, (Lit.int .u8 z).wf = true := by
  have q0 : Try.prog.cellsOf 23 = 1 := by kernel_rfl
  have q1 : Try.prog.cellsOf 2 = 1 := by kernel_rfl
  obtain ⟨xs, n, -, -, -, hlen, hx⟩ := DataW.trod_struct Try.underlying25 h
  match cs, hl, xs, hlen with
  | [c0, c1], _, [y0, y1], _ =>
    have h0 := hx 0 _ rfl
    have h1 := hx 1 _ rfl
    simp [q0, q1] at h0 h1
    obtain ⟨y, hy, -, -⟩ := DataW.trod_int Try.underlying2 h1
    simp only [List.cons.injEq, and_true] at hy
    subst hy
    have hs : ∃ a n c, c0 = .slice a n c := by
      rcases open_slice Try.underlying23 h0 with ⟨hcs, _⟩ | ⟨x, l, c, m, n, D, Pl, hcs, _⟩
      · simp only [List.cons.injEq, and_true] at hcs
        exact ⟨none, 0, 0, hcs⟩
      · simp only [List.cons.injEq, and_true] at hcs
        exact ⟨some x, l, c, hcs⟩
    obtain ⟨a, m, c, rfl⟩ := hs
    obtain ⟨zss, hG, hw⟩ := open_grid (d := y0.1) (p := y0.2) ⟨n, by simpa [Value.cells] using h0⟩
    exact ⟨a, m, c, zss, y, rfl, hG, hw⟩
theorem open_disk {H : Type} {enc : TypeId × Value → H} {w : World} {r : Reach} {b0 : Nat} {v : Value} {d : DataW H} {p : List MemPlace} (hv : Value.okWide Try.prog w r b0 25 v) (h : DataW.Trod enc Try.prog w 0 (fun _ => true) true 25 v d p) :
    ∃ (a : Option Addr) (n c : Nat) (t : DiskD), v = .agg #[.slice a n c, .int .i64 t.s] ∧ Grid w w.heap.size a n c t.rs ∧ ∀ zs ∈ t.rs, ∀ z ∈ zs, (Lit.int .u8 z).wf = true := by
  have hC : Try.prog.cellsOf 25 = 2 := by kernel_rfl
  obtain ⟨cs, rfl, hsz⟩ := okWide_struct Try.underlying25 hv
  obtain ⟨fuel, hf⟩ := h
  obtain ⟨a, n, c, zss, y, hq, hG, hw⟩ := disk_cells (cs := cs.toList) (by simpa using hsz.trans hC) hf
  refine ⟨a, n, c, ⟨zss, y⟩, ?_, hG, hw⟩
  have : cs = [Value.slice a n c, .int .i64 y].toArray := by rw [← hq]
  rw [this]
end Go.Proofs.Ytefgimpodhjdpab
