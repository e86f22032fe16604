/- Stores in memory: that are read, that a call made. No condition beside what each theorem states. -/
import Derived.Test.YtefgimpodhjdpabG9a
import Derived.Test.YtefgimpodhjdpabG7
import Derived.Test.YtefgimpodhjdpabMath9a
namespace Go.Proofs.Ytefgimpodhjdpab
open Go.RowKit
set_option maxRecDepth 100000
set_option linter.unusedVariables false

/-- A store that is read: its pins, its records; it lies below block B. -/
structure SRow (w : World) (B : Nat) (a1 : Option Addr) (n1 c1 : Nat) (a2 : Option Addr) (n2 c2 : Nat) (s : StoreD) : Prop where
  ps : PRow w B a1 n1 c1 s.ps
  rs : Grid w B a2 n2 c2 s.d.rs
  wf : ∀ zs ∈ s.d.rs, ∀ z ∈ zs, (Lit.int .u8 z).wf = true
section
variable {w w' : World} {B B' : Nat} {a1 a2 : Option Addr} {n1 c1 n2 c2 : Nat} {s : StoreD}
theorem SRow.below (h : SRow w B a1 n1 c1 a2 n2 c2 s) (hb : Below B w w') : SRow w' B a1 n1 c1 a2 n2 c2 s := ⟨h.ps.below hb, h.rs.below hb, h.wf⟩
theorem SRow.on' (h : SRow w B a1 n1 c1 a2 n2 c2 s) (hB : B ≤ w.heap.size) (hb : Below w.heap.size w w') : SRow w' B a1 n1 c1 a2 n2 c2 s := h.below (hb.mono hB)
theorem SRow.more (h : SRow w B a1 n1 c1 a2 n2 c2 s) (hB : B ≤ B') : SRow w B' a1 n1 c1 a2 n2 c2 s := ⟨h.ps.more hB, h.rs.more hB, h.wf⟩
theorem SRow.on (h : SRow w w.heap.size a1 n1 c1 a2 n2 c2 s) (hb : Below w.heap.size w w') : SRow w' w'.heap.size a1 n1 c1 a2 n2 c2 s := (h.below hb).more hb.size
theorem SRow.nil (w : World) (B : Nat) : SRow w B none 0 0 none 0 0 store0 := ⟨PRow.nil w B, Grid.nil w B, fun _ h => by cases h⟩
end
/-- A store that a call made: its pins lie from block lo on, its records behind them, all of it ahead of block hi. -/
def SOwn (w : World) (lo hi : Nat) (v1 v2 : Value) (s : StoreD) : Prop :=
  ∃ mid xs, lo ≤ mid ∧ mid ≤ hi ∧ OwnP w lo v1 s.ps ∧ (∀ k, v1.ownBlock = some k → k < mid) ∧ OwnG w mid hi v2 s.d.rs xs ∧ (∀ p ∈ s.ps, p.n.size ≤ maxLen) ∧ ∀ zs ∈ s.d.rs, ∀ z ∈ zs, (Lit.int .u8 z).wf = true
section
variable {w w' : World} {lo hi : Nat} {v1 v2 : Value} {s : StoreD}
theorem SOwn.keep (h : SOwn w lo hi v1 v2 s) (hs : w.heap.size ≤ w'.heap.size) (hk : ∀ k, lo ≤ k → k < hi → w'.heap[k]? = w.heap[k]?) : SOwn w' lo hi v1 v2 s := by
  obtain ⟨mid, xs, h1, h2, h3, h4, h5, h6⟩ := h
  exact ⟨mid, xs, h1, h2, Own.keep h3 hs (fun k e => hk k (Own.lt h3 k e).1 (by have := h4 k e; omega)), h4, h5.keep hs (fun k e1 e2 => hk k (by omega) e2), h6⟩
theorem SOwn.top (h : SOwn w lo hi v1 v2 s) : lo ≤ hi ∧ hi ≤ w.heap.size := by
  obtain ⟨mid, xs, h1, h2, h3, h4, h5, h6⟩ := h
  exact ⟨by omega, h5.top⟩
theorem SOwn.below (h : SOwn w lo hi v1 v2 s) (hb : Below w.heap.size w w') : SOwn w' lo hi v1 v2 s := h.keep hb.size fun k _ h2 => hb.block k (by have := h.top; omega)
theorem SOwn.inn {l2 h2 : Nat} (h : SOwn w lo hi v1 v2 s) (k : Inn l2 h2 w w') (hd : hi ≤ l2 ∨ h2 ≤ lo) : SOwn w' lo hi v1 v2 s := h.keep k.size fun i h3 h4 => k.block i (by have := h.top; omega) (by omega)
theorem SOwn.setCell (h : SOwn w lo hi v1 v2 s) {p : Addr} (hp : p.block < lo ∨ hi ≤ p.block) (u : Value) : SOwn (w.setCell p u) lo hi v1 v2 s := h.keep (by simp [World.setCell]) fun k h1 h2 => Below.heap_setCell w p u k (by omega)
theorem SOwn.less {lo' : Nat} (h : SOwn w lo hi v1 v2 s) (hl : lo' ≤ lo) : SOwn w lo' hi v1 v2 s := by
  obtain ⟨mid, xs, h1, h2, h3, h4, h5, h6⟩ := h
  exact ⟨mid, xs, by omega, h2, OwnP.less h3 hl, h4, h5, h6⟩
theorem SOwn.more {hi' : Nat} (h : SOwn w lo hi v1 v2 s) (h1 : hi ≤ hi') (h2 : hi' ≤ w.heap.size) : SOwn w lo hi' v1 v2 s := by
  obtain ⟨mid, xs, q1, q2, h3, h4, h5, h6⟩ := h
  exact ⟨mid, xs, q1, by omega, h3, h4, h5.more h1 h2, h6⟩
theorem SOwn.nil (w : World) (lo : Nat) (hl : lo ≤ w.heap.size) : SOwn w lo w.heap.size (.slice none 0 0) (.slice none 0 0) store0 :=
  ⟨lo, [], Nat.le_refl _, hl, OwnP.nil _ _, fun k hk => by simp [Value.ownBlock] at hk, OwnG.nil _ _ _ (Nat.le_refl _), (fun _ h => by cases h), fun _ h => by cases h⟩
theorem SOwn.row {a1 a2 : Option Addr} {n1 c1 n2 c2 : Nat} (h : SOwn w lo hi (.slice a1 n1 c1) (.slice a2 n2 c2) s) : SRow w w.heap.size a1 n1 c1 a2 n2 c2 s := by
  obtain ⟨mid, xs, h1, h2, h3, h4, h5, h6, h7⟩ := h
  exact ⟨OwnP.row h3 h6, h5.grid h7, h7⟩
theorem SOwn.len {a1 a2 : Option Addr} {n1 c1 n2 c2 : Nat} (h : SOwn w lo hi (.slice a1 n1 c1) (.slice a2 n2 c2) s) : n1 = s.ps.length ∧ n2 = s.d.rs.length := by
  have := h.row
  exact ⟨this.ps.length.symm, this.rs.length.symm⟩
/-- Pins and records, each of a call's own, one behind the other. -/
theorem SOwn.mk' {W : World} {v1 v2 : Value} {ps : List PinD} {rs : List (List Int)} {x : Int} {xs : List Value} {mid : Nat} (h1 : OwnP w lo v1 ps) (hm : lo ≤ mid) (h2 : ∀ k, v1.ownBlock = some k → k < mid) (h3 : OwnG w mid hi v2 rs xs) (hh : mid ≤ hi) (h4 : ∀ p ∈ ps, p.n.size ≤ maxLen) (h5 : ∀ zs ∈ rs, ∀ z ∈ zs, (Lit.int .u8 z).wf = true) : SOwn w lo hi v1 v2 ⟨ps, ⟨rs, x⟩⟩ := ⟨mid, xs, hm, hh, h1, h2, h3, h4, h5⟩
end
/-- A store's value. -/
abbrev S3 (a1 : Option Addr) (n1 c1 : Nat) (a2 : Option Addr) (n2 c2 : Nat) (x : Int) : Value := .agg #[.slice a1 n1 c1, .slice a2 n2 c2, .int .i64 x]
def S3L (a1 : Option Addr) (n1 c1 : Nat) (a2 : Option Addr) (n2 c2 : Nat) (x : Int) : List Value := [.slice a1 n1 c1, .slice a2 n2 c2, .int .i64 x]
/-- A store's value in a result. -/
abbrev V4 (c : Int) (a1 : Option Addr) (n1 c1 : Nat) (a2 : Option Addr) (n2 c2 : Nat) (x : Int) : Value := .agg #[.int .i64 c, .slice a1 n1 c1, .slice a2 n2 c2, .int .i64 x]
/-- A code and a store of new memory were answered. -/
def StoreRes (c : Int) (s : StoreD) (w : World) (e : Ending) (w' : World) : Prop :=
  ∃ a1 n1 c1 a2 n2 c2, e = .returned (V4 c a1 n1 c1 a2 n2 c2 s.d.s) ∧ SOwn w' w.heap.size w'.heap.size (.slice a1 n1 c1) (.slice a2 n2 c2) s ∧ Below w.heap.size w w'
end Go.Proofs.Ytefgimpodhjdpab
