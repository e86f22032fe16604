/- Slices of supplied keys: read, and made. No condition beside what each theorem states. -/
import Derived.Test.YtcolecidbalmhaaDoorMath10
import Derived.Test.YtcolecidbalmhaaDoorG7
namespace Go.Proofs.YtcolecidbalmhaaDoor
open Go.RowKit
set_option maxRecDepth 100000
set_option linter.unusedVariables false

/-- A slice of supplied keys that is read: 'ps' are its elements; it lies below block B. -/
structure TRow (w : World) (B : Nat) (a : Option Addr) (len cap : Nat) (ps : List TlsaD) : Prop where
  length : ps.length = len
  fits : len ≤ cap
  most : cap ≤ maxLen
  names : ∀ p ∈ ps, p.n.size ≤ maxLen
  cells : 0 < len → ∃ b off, a = some ⟨b, off, none⟩ ∧ b < B ∧ ∀ j, j < len → ∀ i v, (ps[j]?.getD tls0).vals[i]? = some v → w.cell? ⟨b, off + j * 4 + i, none⟩ = some v
section
variable {w w' : World} {B B' : Nat} {a : Option Addr} {len cap : Nat} {ps : List TlsaD}
theorem TRow.keep (h : TRow w B a len cap ps) (hk : ∀ i, i < B → w'.heap[i]? = w.heap[i]?) : TRow w' B a len cap ps :=
  ⟨h.length, h.fits, h.most, h.names, fun hp => by
    obtain ⟨b, off, e, hb, hc⟩ := h.cells hp
    exact ⟨b, off, e, hb, fun j hj i v hv => (World.cell?_of_block (w := w) (hk b hb)).trans (hc j hj i v hv)⟩⟩
theorem TRow.below (h : TRow w B a len cap ps) (hb : Below B w w') : TRow w' B a len cap ps := h.keep hb.block
theorem TRow.more (h : TRow w B a len cap ps) (hB : B ≤ B') : TRow w B' a len cap ps :=
  ⟨h.length, h.fits, h.most, h.names, fun hp => by
    obtain ⟨b, off, e, hb, hc⟩ := h.cells hp
    exact ⟨b, off, e, by omega, hc⟩⟩
theorem TRow.on (h : TRow w w.heap.size a len cap ps) (hb : Below w.heap.size w w') : TRow w' w'.heap.size a len cap ps := (h.below hb).more hb.size
theorem TRow.on' (h : TRow w B a len cap ps) (hB : B ≤ w.heap.size) (hb : Below w.heap.size w w') : TRow w' B a len cap ps := h.below (hb.mono hB)
theorem TRow.alloc (h : TRow w B a len cap ps) (hB : B ≤ w.heap.size) (o : Obj) : TRow (w.alloc o) B a len cap ps := h.below ((Below.refl B w).alloc hB o)
theorem TRow.nil (w : World) (B : Nat) : TRow w B none 0 0 [] := ⟨rfl, Nat.le_refl _, Nat.zero_le _, by simp, fun h => absurd h (by omega)⟩
/-- Element k's cells. -/
theorem TRow.at' (h : TRow w B a len cap ps) {k : Nat} (hk : k < len) : ∃ b off, a = some ⟨b, off, none⟩ ∧ b < B ∧
    w.cell? ⟨b, off + k * 4, none⟩ = some (.string (ps[k]?.getD tls0).n) ∧ w.cell? ⟨b, off + k * 4 + 1, none⟩ = some (.int .i64 (ps[k]?.getD tls0).u) ∧ w.cell? ⟨b, off + k * 4 + 2, none⟩ = some (.int .i64 (ps[k]?.getD tls0).m) ∧ w.cell? ⟨b, off + k * 4 + 3, none⟩ = some (.int .i64 (ps[k]?.getD tls0).v) := by
  obtain ⟨b, off, e, hb, hc⟩ := h.cells (by omega)
  exact ⟨b, off, e, hb, hc k hk 0 _ rfl, hc k hk 1 _ rfl, hc k hk 2 _ rfl, hc k hk 3 _ rfl⟩
theorem TRow.mem (h : TRow w B a len cap ps) {k : Nat} (hk : k < len) : (ps[k]?.getD tls0) ∈ ps := by
  have := h.length
  rw [List.getElem?_eq_getElem (by omega)]
  exact List.getElem_mem _
theorem TRow.name (h : TRow w B a len cap ps) {k : Nat} (hk : k < len) : (ps[k]?.getD tls0).n.size ≤ maxLen := h.names _ (h.mem hk)
end

/-- A slice of supplied keys of the call's own. -/
def OwnT (w : World) (B : Nat) (v : Value) (ps : List TlsaD) : Prop := Own w B 4 v ps.length (flatT ps)
section
variable {w w' : World} {B : Nat} {v : Value} {ps : List TlsaD}
theorem OwnT.row {a : Option Addr} {len cap : Nat} (h : OwnT w B (.slice a len cap) ps) (hs : ∀ p ∈ ps, p.n.size ≤ maxLen) : TRow w w.heap.size a len cap ps := by
  rcases h.2 with ⟨e, h0⟩ | ⟨g, c, e, hb, hg, h1, h2, hc, _⟩
  · injection e with e1 e2 e3
    subst e1; subst e2; subst e3
    obtain rfl : ps = [] := List.eq_nil_of_length_eq_zero h0
    exact TRow.nil _ _
  · injection e with e1 e2 e3
    subst e1; subst e2; subst e3
    exact ⟨rfl, h1, h2, hs, fun hp => ⟨g, 0, rfl, hg, fun j hj i v hv => by
      rw [Nat.zero_add]
      exact hc _ v (flatT_get ps j i v hj hv)⟩⟩
theorem OwnT.nil (w : World) (B : Nat) : OwnT w B (.slice none 0 0) [] := Own.nil w B 4
theorem OwnT.alloc (h : OwnT w B v ps) (o : Obj) : OwnT (w.alloc o) B v ps := Own.alloc h o
theorem OwnT.below (h : OwnT w B v ps) (hb : Below w.heap.size w w') : OwnT w' B v ps := Own.below h hb
theorem OwnT.form (h : OwnT w B v ps) : ∃ a cap, v = .slice a ps.length cap ∧ ps.length ≤ cap ∧ cap ≤ maxLen ∧ (a = none → ps.length = 0 ∧ cap = 0) := Own.form h
theorem OwnT.less {B' : Nat} (h : OwnT w B v ps) (hB : B' ≤ B) : OwnT w B' v ps := Own.less h hB
theorem OwnT.lt (h : OwnT w B v ps) : ∀ k, v.ownBlock = some k → B ≤ k ∧ k < w.heap.size := Own.lt h
theorem OwnT.len {a : Option Addr} {len cap : Nat} (h : OwnT w B (.slice a len cap) ps) : len = ps.length := by
  obtain ⟨a', c', e, -⟩ := h.form
  injection e
theorem OwnT.grown {g : Option Nat} (h : OwnT w B v ps) (hg : w.grownBy w' g) (hne : ∀ k, v.ownBlock = some k → some k ≠ g) : OwnT w' B v ps := Own.keep h hg.size fun k hk => hg.block k (Own.lt h k hk).2 (hne k hk)
end
/-- One element of an owned slice is stored. -/
theorem OwnT.put {w : World} {B g n c : Nat} {ps : List TlsaD} {k : Nat} {p : TlsaD} (h : OwnT w B (.slice (some ⟨g, 0, none⟩) n c) ps) (hk : k < ps.length) :
    OwnT ((((w.setCell ⟨g, k * 4, none⟩ (.string p.n)).setCell ⟨g, k * 4 + 1, none⟩ (.int .i64 p.u)).setCell ⟨g, k * 4 + 2, none⟩ (.int .i64 p.m)).setCell ⟨g, k * 4 + 3, none⟩ (.int .i64 p.v)) B (.slice (some ⟨g, 0, none⟩) n c) (ps.set k p) := by
  have hn : n = ps.length := by
    obtain ⟨a, cap, e, _⟩ := h.form
    injection e
  subst hn
  have hl := flatT_length ps
  unfold OwnT
  rw [flatT_set ps k p hk, List.length_set]
  refine Own.putCell (Own.putCell (Own.putCell (Own.putCell h ?_) ?_) ?_) ?_ <;> (try simp only [List.length_set]) <;> omega
/-- That a cell of an owned slice can be written. -/
theorem OwnT.cell {w : World} {B g n c : Nat} {ps : List TlsaD} (h : OwnT w B (.slice (some ⟨g, 0, none⟩) n c) ps) {k i : Nat} (hk : k < ps.length) {u : Value} (hu : (ps[k]?.getD tls0).vals[i]? = some u) :
    w.cell? ⟨g, k * 4 + i, none⟩ = some u ∧ w.frozen? ⟨g, k * 4 + i, none⟩ = false := by
  rcases h.2 with ⟨e, h0⟩ | ⟨g', c', e, hB, hg, hn, hm, hcell, hroom⟩
  · cases e
  injection e with e1 e2 e3
  injection e1 with e1
  injection e1 with e1 _ _
  subst e1
  subst e3
  have hi : i < 4 := by have := (List.getElem?_eq_some_iff.1 hu).1; simpa [TlsaD.vals_length] using this
  have : (k + 1) * 4 ≤ c * 4 := Nat.mul_le_mul_right _ (by omega)
  exact ⟨hcell _ _ (flatT_get ps k i u hk hu), (hroom _ (by omega)).2⟩
theorem TlsaD.oneCell (p : TlsaD) : ∀ v ∈ p.vals, v.oneCell' = true := by
  intro v hv
  simp only [TlsaD.vals, List.mem_cons, List.not_mem_nil, or_false] at hv
  rcases hv with rfl | rfl | rfl | rfl <;> rfl
end Go.Proofs.YtcolecidbalmhaaDoor
