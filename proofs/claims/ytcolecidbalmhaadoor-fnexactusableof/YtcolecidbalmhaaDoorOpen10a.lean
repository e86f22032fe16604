/- An asking in memory, and opened as an argument. No condition. -/
import Derived.Test.YtcolecidbalmhaaDoorOpen10
import Derived.Test.YtcolecidbalmhaaDoorOpen7
namespace Go.Proofs.YtcolecidbalmhaaDoor
open Go.Joins Go.ChangeShapes Go.WideShapes Go.RowKit Go.Deep
set_option maxRecDepth 100000

/-- An asking that is read: its pins, its supplied keys; it lies below block B. -/
structure ARow (w : World) (B : Nat) (a1 : Option Addr) (n1 c1 : Nat) (a2 : Option Addr) (n2 c2 : Nat) (q : AskD) : Prop where
  ps : PRow w B a1 n1 c1 q.ps
  ts : TRow w B a2 n2 c2 q.ts
  nm : q.n.size ≤ maxLen
section
variable {w w' : World} {B B' : Nat} {a1 a2 : Option Addr} {n1 c1 n2 c2 : Nat} {q : AskD}
theorem ARow.below (h : ARow w B a1 n1 c1 a2 n2 c2 q) (hb : Below B w w') : ARow w' B a1 n1 c1 a2 n2 c2 q := ⟨h.ps.below hb, h.ts.below hb, h.nm⟩
theorem ARow.more (h : ARow w B a1 n1 c1 a2 n2 c2 q) (hB : B ≤ B') : ARow w B' a1 n1 c1 a2 n2 c2 q := ⟨h.ps.more hB, h.ts.more hB, h.nm⟩
theorem ARow.on (h : ARow w w.heap.size a1 n1 c1 a2 n2 c2 q) (hb : Below w.heap.size w w') : ARow w' w'.heap.size a1 n1 c1 a2 n2 c2 q := (h.below hb).more hb.size
theorem ARow.on' (h : ARow w B a1 n1 c1 a2 n2 c2 q) (hB : B ≤ w.heap.size) (hb : Below w.heap.size w w') : ARow w' B a1 n1 c1 a2 n2 c2 q := h.below (hb.mono hB)
end
abbrev A6 (a1 : Option Addr) (n1 c1 : Nat) (a2 : Option Addr) (n2 c2 : Nat) (q : AskD) : Value := .agg #[.bool q.first, .slice a1 n1 c1, .slice a2 n2 c2, .string q.n, .int .i64 q.p, .int .i64 q.t]
def A6L (a1 : Option Addr) (n1 c1 : Nat) (a2 : Option Addr) (n2 c2 : Nat) (q : AskD) : List Value := [.bool q.first, .slice a1 n1 c1, .slice a2 n2 c2, .string q.n, .int .i64 q.p, .int .i64 q.t]
theorem open_ask {H : Type} {enc : TypeId × Value → H} {w : World} {r : Reach} {b0 : Nat} {v : Value} {d : DataW H} {p : List MemPlace} (hv : Value.okWide Tryd.prog w r b0 25 v) (h : DataW.Trod enc Tryd.prog w 0 (fun _ => true) true 25 v d p) :
    ∃ (a1 : Option Addr) (n1 c1 : Nat) (a2 : Option Addr) (n2 c2 : Nat) (t : AskD), v = A6 a1 n1 c1 a2 n2 c2 t ∧ ARow w w.heap.size a1 n1 c1 a2 n2 c2 t := by
  have hC : Tryd.prog.cellsOf 25 = 6 := by kernel_rfl
  have qb : Tryd.prog.cellsOf 4 = 1 := by kernel_rfl
  have qp : Tryd.prog.cellsOf 22 = 1 := by kernel_rfl
  have qt : Tryd.prog.cellsOf 23 = 1 := by kernel_rfl
  have qs : Tryd.prog.cellsOf 9 = 1 := by kernel_rfl
  have qi : Tryd.prog.cellsOf 2 = 1 := by kernel_rfl
  obtain ⟨cs, rfl, hsz⟩ := okWide_struct Tryd.underlying25 hv
  obtain ⟨fuel, hf⟩ := h
  obtain ⟨xs, n, -, -, -, hlen, hx⟩ := DataW.trod_struct Tryd.underlying25 hf
  have hl : cs.toList.length = 6 := by simpa using hsz.trans hC
  have key : ∃ (a1 : Option Addr) (n1 c1 : Nat) (a2 : Option Addr) (n2 c2 : Nat) (t : AskD), cs.toList = A6L a1 n1 c1 a2 n2 c2 t ∧ ARow w w.heap.size a1 n1 c1 a2 n2 c2 t := by
    simp only [Value.cells] at hx hlen
    generalize cs.toList = l at *
    match l, hl, xs, hlen with
    | [c0, c1, c2, c3, c4, c5], _, [y0, y1, y2, y3, y4, y5], _ =>
      have h0 := hx 0 _ rfl
      have h1 := hx 1 _ rfl
      have h2 := hx 2 _ rfl
      have h3 := hx 3 _ rfl
      have h4 := hx 4 _ rfl
      have h5 := hx 5 _ rfl
      simp [qb, qp, qt, qs, qi] at h0 h1 h2 h3 h4 h5
      obtain ⟨f, hy0, -⟩ := DataW.trod_bool Tryd.underlying4 h0
      obtain ⟨s, hy3, -, ws⟩ := DataW.trod_string Tryd.underlying9 h3
      obtain ⟨x4, hy4, -, -⟩ := DataW.trod_int Tryd.underlying2 h4
      obtain ⟨x5, hy5, -, -⟩ := DataW.trod_int Tryd.underlying2 h5
      simp only [List.cons.injEq, and_true] at hy0 hy3 hy4 hy5
      subst hy0; subst hy3; subst hy4; subst hy5
      have sp : ∃ a n c, c1 = .slice a n c := by
        rcases open_slice Tryd.underlying22 h1 with ⟨hcs, _⟩ | ⟨x, l, c, m, n, D, Pl, hcs, _⟩
        · simp only [List.cons.injEq, and_true] at hcs
          exact ⟨none, 0, 0, hcs⟩
        · simp only [List.cons.injEq, and_true] at hcs
          exact ⟨some x, l, c, hcs⟩
      have st : ∃ a n c, c2 = .slice a n c := by
        rcases open_slice Tryd.underlying23 h2 with ⟨hcs, _⟩ | ⟨x, l, c, m, n, D, Pl, hcs, _⟩
        · simp only [List.cons.injEq, and_true] at hcs
          exact ⟨none, 0, 0, hcs⟩
        · simp only [List.cons.injEq, and_true] at hcs
          exact ⟨some x, l, c, hcs⟩
      obtain ⟨a1, n1, k1, rfl⟩ := sp
      obtain ⟨a2, n2, k2, rfl⟩ := st
      obtain ⟨ps, hP⟩ := open_pins (d := y1.1) (p := y1.2) (a := a1) (len := n1) (cap := k1) Tryd.underlying22 Tryd.underlying72 Tryd.underlying9 Tryd.underlying2 Tryd.underlying2 Tryd.underlying2 Tryd.underlying2 rfl (by kernel_rfl) (by kernel_rfl) ⟨n, by simpa [Value.cells] using h1⟩
      obtain ⟨ts, hT⟩ := open_tlsas (d := y2.1) (p := y2.2) (a := a2) (len := n2) (cap := k2) Tryd.underlying23 Tryd.underlying59 Tryd.underlying9 Tryd.underlying2 Tryd.underlying2 Tryd.underlying2 rfl (by kernel_rfl) (by kernel_rfl) ⟨n, by simpa [Value.cells] using h2⟩
      exact ⟨a1, n1, k1, a2, n2, k2, ⟨f, ps, ts, s, x4, x5⟩, rfl, hP, hT, ws⟩
  obtain ⟨a1, n1, c1, a2, n2, c2, t, he, hS⟩ := key
  refine ⟨a1, n1, c1, a2, n2, c2, t, ?_, hS⟩
  have : cs = (A6L a1 n1 c1 a2 n2 c2 t).toArray := by rw [← he]
  rw [this]
  rfl
end Go.Proofs.YtcolecidbalmhaaDoor
