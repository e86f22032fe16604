/- Contracts of the draws that the laws of chapter 2 choose their inputs by. Conditions: as each theorem states. -/
import Derived.Test.YtdkgiiikcapjcaaDoorD1
import Derived.Test.YtdkgiiikcapjcaaDoorOwn2
namespace Go.Proofs.YtdkgiiikcapjcaaDoor
open Go.RowKit
set_option maxRecDepth 100000

theorem Own.only {g : Nat} {w w' : World} {B size : Nat} {v : Value} {n : Nat} {xs : List Value} (h : Own w B size v n xs) (hO : Only g w w') (hg : g < B) : Own w' B size v n xs :=
  h.keep (by rw [hO.size]; exact Nat.le_refl _) fun k hk => hO.block k (by have := (h.lt k hk).1; omega)
theorem Only.grown {g : Nat} {w w' : World} (h : Only g w w') : w.grownBy w' (some g) := ⟨h.os, h.tape, h.output, by rw [h.size]; exact Nat.le_refl _, fun k _ hne => h.block k (fun e => hne (by rw [e]))⟩
section
variable {w0 : World} {a : Option Addr} {len cap : Nat} {zs : List Int} {p : Nat} {w w' : World}
theorem Draw.lt (h : Draw w0 a len cap zs p w) : w0.heap.size < w.heap.size := h.src.lt
theorem Draw.grown {row : Option Nat} (h : Draw w0 a len cap zs p w) (hg : w.grownBy w' row) (hr : ∀ k, row = some k → w0.heap.size < k) : Draw w0 a len cap zs p w' :=
  ⟨h.src.keep (hg.block _ h.lt (fun e => by have := hr _ e.symm; omega)),
   h.row.keep (fun i hi => hg.block i (by have := h.lt; omega) (fun e => by have := hr _ e.symm; omega)),
   h.bel.grown hg h.bel.size (fun k hk => by have := hr k hk; omega)⟩
end

/-- Bytes that were drawn, in new memory. -/
def DSome (w0 : World) (a : Option Addr) (len cap : Nat) (zs : List Int) (p n : Nat) (w : World) (r : Ending) (w' : World) : Prop :=
  ∃ a' c' zs', r = .returned (.slice a' n c') ∧ OwnK .u8 w' w.heap.size (.slice a' n c') zs' ∧ (∀ z ∈ zs', (Lit.int .u8 z).wf = true) ∧ Draw w0 a len cap zs (p + n) w' ∧ w.grownBy w' (some w0.heap.size)
structure SomeRel (w0 : World) (a : Option Addr) (len cap : Nat) (zs : List Int) (p : Nat) (w : World) (k : Nat) (v : Value) (wr : World) : Prop where
  own : ∃ zs', zs'.length = k ∧ OwnK .u8 wr w.heap.size v zs' ∧ ∀ z ∈ zs', (Lit.int .u8 z).wf = true
  draw : Draw w0 a len cap zs (p + k) wr
  grew : w.grownBy wr (some w0.heap.size)
theorem u8_wf {x : Int} (h0 : 0 ≤ x) (h1 : x < 256) : (Lit.int .u8 x).wf = true := byte_wf ⟨h0, by omega⟩

abbrev labS : List ByteArray := [{ data := #[107, 101, 121] }, { data := #[105, 118] }, { data := #[97] }, { data := #[] }, { data := #[116, 104, 105, 114, 116, 101, 101, 110, 99, 104, 97, 114, 115] }, { data := #[75] }, { data := #[116, 119, 101, 108, 118, 101, 99, 104, 97, 114, 115, 115] }]
theorem labS_size (k : Nat) : ((labS.getD k ByteArray.empty).size) ≤ 13 := by
  rcases Nat.lt_or_ge k 7 with h | h
  · have : ∀ j : Fin 7, ((labS.getD j.val ByteArray.empty).size) ≤ 13 := by decide
    exact this ⟨k, h⟩
  · have : labS.getD k ByteArray.empty = ByteArray.empty := by simp [List.getD, h]
    rw [this]; decide
def DLabel (w0 : World) (a : Option Addr) (len cap : Nat) (zs : List Int) (p : Nat) (w : World) (r : Ending) (w' : World) : Prop :=
  ∃ s : ByteArray, s.size ≤ 13 ∧ r = .returned (.string s) ∧ Draw w0 a len cap zs (p + 1) w' ∧ w.grownBy w' (some w0.heap.size)
def DrawnKL (w : World) (r : Ending) (w' : World) : Prop := ∃ (k : Int) (s : ByteArray), r = .returned (.tuple #[.int .i64 k, .string s]) ∧ s.size ≤ 13 ∧ Below w.heap.size w w'
def DrawnRow (w : World) (r : Ending) (w' : World) : Prop := ∃ a n c zs, r = .returned (.slice a n c) ∧ Row .u8 w' w'.heap.size a n c zs ∧ Below w.heap.size w w'
def DrawnGrid (w : World) (r : Ending) (w' : World) : Prop := ∃ a n c zss, r = .returned (.slice a n c) ∧ Grid w' w'.heap.size a n c zss ∧ Below w.heap.size w w'
def DrawnSI (w : World) (r : Ending) (w' : World) : Prop := ∃ (s : ByteArray) (a : Option Addr) (n c : Nat) (zs : List Int), r = .returned (.tuple #[.string s, .slice a n c]) ∧ s.size ≤ 13 ∧ Row .i64 w' w'.heap.size a n c zs ∧ Below w.heap.size w w'

end Go.Proofs.YtdkgiiikcapjcaaDoor
