/- A store, opened as an argument. No condition. -/
import Derived.Test.YtefgimpodhjdpabG9
import Derived.Test.YtefgimpodhjdpabOpen9a
import Derived.Test.YtefgimpodhjdpabOpen7
namespace Go.Proofs.Ytefgimpodhjdpab
open Go.Joins Go.ChangeShapes Go.WideShapes Go.RowKit Go.Deep
set_option maxRecDepth 100000

theorem open_store {H : Type} {enc : TypeId × Value → H} {w : World} {r : Reach} {b0 : Nat} {v : Value} {d : DataW H} {p : List MemPlace} (hv : Value.okWide Try.prog w r b0 27 v) (h : DataW.Trod enc Try.prog w 0 (fun _ => true) true 27 v d p) :
    ∃ (a1 : Option Addr) (n1 c1 : Nat) (a2 : Option Addr) (n2 c2 : Nat) (t : StoreD), v = .agg #[.slice a1 n1 c1, .slice a2 n2 c2, .int .i64 t.d.s] ∧ SRow w w.heap.size a1 n1 c1 a2 n2 c2 t := by
  have hC : Try.prog.cellsOf 27 = 3 := by kernel_rfl
  have q0 : Try.prog.cellsOf 22 = 1 := by kernel_rfl
  have q1 : Try.prog.cellsOf 25 = 2 := by kernel_rfl
  obtain ⟨cs, rfl, hsz⟩ := okWide_struct Try.underlying27 hv
  obtain ⟨fuel, hf⟩ := h
  obtain ⟨xs, n, -, -, -, hlen, hx⟩ := DataW.trod_struct Try.underlying27 hf
  have hl : cs.toList.length = 3 := by simpa using hsz.trans hC
  have key : ∃ (a1 : Option Addr) (n1 c1 : Nat) (a2 : Option Addr) (n2 c2 : Nat) (t : StoreD), cs.toList = [.slice a1 n1 c1, .slice a2 n2 c2, .int .i64 t.d.s] ∧ SRow w w.heap.size a1 n1 c1 a2 n2 c2 t := by
    simp only [Value.cells] at hx hlen
    generalize cs.toList = l at *
    match l, hl, xs, hlen with
    | [c0, c1, c2], _, [y0, y1], _ =>
      have h0 := hx 0 _ rfl
      have h1 := hx 1 _ rfl
      simp [q0, q1] at h0 h1
      obtain ⟨a2, n2, k2, zss, y, hq, hG, hw⟩ := disk_cells rfl h1
      simp only [List.cons.injEq, and_true] at hq
      obtain ⟨rfl, rfl⟩ := hq
      have hs : ∃ a n c, c0 = .slice a n c := by
        rcases open_slice Try.underlying22 h0 with ⟨hcs, _⟩ | ⟨x, l, c, m, n, D, Pl, hcs, _⟩
        · simp only [List.cons.injEq, and_true] at hcs
          exact ⟨none, 0, 0, hcs⟩
        · simp only [List.cons.injEq, and_true] at hcs
          exact ⟨some x, l, c, hcs⟩
      obtain ⟨a1, n1, k1, rfl⟩ := hs
      obtain ⟨ps, hP⟩ := open_pins (d := y0.1) (p := y0.2) (a := a1) (len := n1) (cap := k1) Try.underlying22 Try.underlying47 Try.underlying9 Try.underlying2 Try.underlying2 Try.underlying2 Try.underlying2 rfl (by kernel_rfl) (by kernel_rfl) ⟨n, by simpa [Value.cells] using h0⟩
      exact ⟨a1, n1, k1, a2, n2, k2, ⟨ps, ⟨zss, y⟩⟩, rfl, hP, hG, hw⟩
  obtain ⟨a1, n1, c1, a2, n2, c2, t, he, hS⟩ := key
  refine ⟨a1, n1, c1, a2, n2, c2, t, ?_, hS⟩
  have : cs = [Value.slice a1 n1 c1, .slice a2 n2 c2, .int .i64 t.d.s].toArray := by rw [← he]
  rw [this]
end Go.Proofs.Ytefgimpodhjdpab
