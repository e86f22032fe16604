/- Arguments that are slices of slices of bytes, opened. No condition. -/
import Derived.Test.YtefgimpodhjdpabC2f
import Derived.ProofKit
import Derived.OpenShut
import Derived.Deep.Matrix
namespace Go.Proofs.Ytefgimpodhjdpab
open Go.ChangeShapes Go.WideShapes Go.ChangeAt Go.RowKit
set_option maxRecDepth 100000

theorem row_open {k : IntKind} {w : World} {A : Option Addr} {L C : Nat} {Z : List Int} (h1 : L ≤ C) (h2 : C ≤ maxLen) (h3 : Z.length = C) (h4 : ∀ n ∈ Z, (Lit.int k n).wf = true) (h5 : A = none → C = 0)
    (h6 : ∀ a', A = some a' → ∀ c, c < C → w.cell? (a'.add c) = some (.int k (Z.getD c 0))) : Row k w w.heap.size A L C (Z.take L) := by
  cases A with
  | none =>
    have := h5 rfl
    subst this
    obtain rfl : L = 0 := by omega
    exact ⟨by simp, fun z hz => by simp at hz, Nat.le_refl _, h2, fun h => absurd h (by omega)⟩
  | some a' => exact Row.of_open h1 h2 h3 (fun i hi => h6 a' rfl i (by omega)) h4

theorem open_grid {H : Type} {enc : TypeId × Value → H} {W : World} {a : Option Addr} {len cap : Nat} {d : DataW H} {p : List MemPlace} (h : DataW.Trod enc Try.prog W 0 (fun _ => true) true 23 (.slice a len cap) d p) :
    ∃ zss, Grid W W.heap.size a len cap zss ∧ ∀ zs ∈ zss, ∀ z ∈ zs, (Lit.int .u8 z).wf = true := by
  obtain ⟨fuel, hf⟩ := h
  rcases Deep.open_int_rows Try.underlying23 Try.underlying39 Try.underlying5 (by kernel_rfl) (by kernel_rfl) hf with ⟨hcs, _⟩ | ⟨x, l, c, A, L, C, Z, hcs, _, hl, hm, _, hx⟩
  · simp [Value.cells] at hcs
    obtain ⟨rfl, rfl, rfl⟩ := hcs
    exact ⟨[], Grid.nil _ _, fun _ h => by cases h⟩
  · simp [Value.cells] at hcs
    obtain ⟨rfl, rfl, rfl⟩ := hcs
    refine ⟨(List.range len).map fun r => (Z r).take (L r), ⟨by simp, hl, hm, fun hp => ?_⟩, fun zs hzs z hz => ?_⟩
    · have hs : x.spot = none := by
        have := World.cell?_spot (hx 0 (by omega)).1
        simpa [Addr.add] using this
      obtain ⟨b, off, spot⟩ := x
      simp at hs
      subst hs
      refine ⟨b, off, rfl, ?_, fun j hj => ?_⟩
      · have := cell_lt (hx 0 (by omega)).1
        simpa [Addr.add] using this
      · obtain ⟨q1, q2, q3, q4, q5, q6, q7⟩ := hx j (by omega)
        rw [add_plain] at q1
        refine ⟨A j, L j, C j, q1, ?_⟩
        have e : ((List.range len).map fun r => (Z r).take (L r))[j]?.getD [] = (Z j).take (L j) := by simp [hj]
        rw [e]
        exact row_open q2 q3 q4 q5 q6 (fun a' ha c hc => (q7 a' ha).2 c hc)
    · obtain ⟨r, hr, rfl⟩ := List.mem_map.1 hzs
      exact (hx r (by have := List.mem_range.1 hr; omega)).2.2.2.2.1 z (List.mem_of_mem_take hz)

end Go.Proofs.Ytefgimpodhjdpab
