/- Contracts of what the exact laws do with bytes that were answered: compare them, write marks into them, read the marks. Conditions: as each theorem states. -/
import Derived.Test.YtcolecidbalmhaaDoorC2c
namespace Go.Proofs.YtcolecidbalmhaaDoor
open Go.RowKit

def marks (k : Int) (n : Nat) : List Int := (List.range n).map fun i : Nat => (k + (i : Int)) % 256
theorem marks_length (k : Int) (n : Nat) : (marks k n).length = n := by simp [marks]
theorem marks_at (k : Int) (n j : Nat) (h : j < n) : (marks k n)[j]? = some ((k + (j : Int)) % 256) := by simp [marks, h]
theorem marks_wf (k : Int) (n : Nat) : ∀ z ∈ marks k n, (Lit.int .u8 z).wf = true := by
  intro z hz
  simp only [marks, List.mem_map] at hz
  obtain ⟨i, _, rfl⟩ := hz
  simp [Lit.wf, IntKind.min, IntKind.max, IntKind.signed, IntKind.bits]; omega

structure MarkRel (w : World) (g cap : Nat) (k : Int) (j : Nat) (wr : World) : Prop where
  grew : w.grownBy wr (some g)
  lt : g < wr.heap.size
  room : ∀ i, i < cap → (∃ u, wr.cell? ⟨g, i, none⟩ = some u) ∧ wr.frozen? ⟨g, i, none⟩ = false
  told : ∀ i, i < j → wr.cell? ⟨g, i, none⟩ = some (.int .u8 ((k + (i : Int)) % 256))
theorem MarkRel.step {w : World} {g cap : Nat} {k : Int} {j : Nat} {wr : World} (h : MarkRel w g cap k j wr) (hj : j < cap) : MarkRel w g cap k (j + 1) (wr.setCell ⟨g, j, none⟩ (.int .u8 ((k + (j : Int)) % 256))) := by
  refine ⟨⟨h.grew.os, h.grew.tape, h.grew.output, by simpa [World.setCell] using h.grew.size, fun i hi hne => (Below.heap_setCell wr _ _ i (fun e => hne (by subst e; rfl))).trans (h.grew.block i hi hne)⟩, by simpa [World.setCell] using h.lt, fun i hi => ?_, fun i hi => ?_⟩
  · obtain ⟨⟨u, hu⟩, hf⟩ := h.room i hi
    refine ⟨?_, by rw [World.frozen?_setCell]; exact hf⟩
    obtain ⟨v, hv⟩ := cell?_setCell_some (w := wr) (p := ⟨g, j, none⟩) (x := .int .u8 ((k + (j : Int)) % 256)) (q := ⟨g, i, none⟩) (v := u) hu
    exact ⟨v, hv⟩
  · rcases Nat.lt_or_ge i j with hlt | hge
    · rw [World.cell?_setCell_other _ _ _ _ (fun e => by injection e with _ e2; omega)]
      exact h.told i hlt
    · obtain rfl : i = j := by omega
      obtain ⟨⟨u, hu⟩, _⟩ := h.room i hj
      rw [World.cell?_setCell_same _ _ _ (by rw [hu])]
def Marked (B : Nat) (k : Int) (v : Value) (n : Nat) (w : World) (r : Ending) (w' : World) : Prop := r = .returned (.int .i64 (k + n)) ∧ OwnK .u8 w' B v (marks k n) ∧ w.grownBy w' v.ownBlock
theorem MarkRel.own {w : World} {g cap : Nat} {k : Int} {n B : Nat} {wr : World} (h : MarkRel w g cap k n wr) (hB : B ≤ g) (hn : n ≤ cap) (hm : cap ≤ maxLen) : OwnK .u8 wr B (.slice (some ⟨g, 0, none⟩) n cap) (marks k n) := by
  unfold OwnK
  rw [marks_length]
  refine ⟨by simp [marks_length], .inr ⟨g, cap, rfl, hB, h.lt, hn, hm, fun j u hu => ?_, fun j hj => ?_⟩⟩
  · have hj := (List.getElem?_eq_some_iff.1 hu).1
    simp [marks_length] at hj
    rw [h.told j hj, ← hu]
    simp [marks_at k n j hj]
  · obtain ⟨⟨u, hu⟩, hf⟩ := h.room j (by omega)
    exact ⟨by rw [hu]; rfl, hf⟩

theorem OwnK.len {k : IntKind} {w : World} {B : Nat} {a : Option Addr} {len cap : Nat} {zs : List Int} (h : OwnK k w B (.slice a len cap) zs) : len = zs.length := by
  rcases h.2 with ⟨e, h0⟩ | ⟨g, c, e, _⟩
  · injection e with e1 e2 e3
    omega
  · injection e with e1 e2 e3

/-- Two answers of bytes lie in memory, the model's at block p1, the program's at block p2; the program's bytes are ms by now. -/
structure TwoRes (w : World) (c : Int) (zs : List Int) (p1 p2 : Nat) (a1 a2 : Option Addr) (n c1 c2 : Nat) (ms : List Int) (cur : World) : Prop where
  bel : Below w.heap.size w cur
  x0 : cur.cell? ⟨p1, 0, none⟩ = some (.int .i64 c)
  x1 : cur.cell? ⟨p1, 1, none⟩ = some (.slice a1 n c1)
  row : Row .u8 cur p1 a1 n c1 zs
  y0 : cur.cell? ⟨p2, 0, none⟩ = some (.int .i64 c)
  y1 : cur.cell? ⟨p2, 1, none⟩ = some (.slice a2 n c2)
  own : OwnK .u8 cur (p1 + 1) (.slice a2 n c2) ms
  old : w.heap.size ≤ p1
  sep : ∀ k, Value.ownBlock (.slice a2 n c2) = some k → k < p2
  ahead : p1 < p2
section
variable {w : World} {c : Int} {zs : List Int} {p1 p2 : Nat} {a1 a2 : Option Addr} {n c1 c2 : Nat} {ms : List Int} {cur cur' : World}
theorem TwoRes.lt1 (h : TwoRes w c zs p1 p2 a1 a2 n c1 c2 ms cur) : p1 < cur.heap.size := cell_lt h.x0
theorem TwoRes.lt2 (h : TwoRes w c zs p1 p2 a1 a2 n c1 c2 ms cur) : p2 < cur.heap.size := cell_lt h.y0
theorem TwoRes.on (h : TwoRes w c zs p1 p2 a1 a2 n c1 c2 ms cur) (hb : Below cur.heap.size cur cur') : TwoRes w c zs p1 p2 a1 a2 n c1 c2 ms cur' :=
  ⟨btr h.bel hb, cell_keep hb h.x0, cell_keep hb h.x1, h.row.below (hb.mono (by have := h.lt1; omega)), cell_keep hb h.y0, cell_keep hb h.y1, h.own.below hb, h.old, h.sep, h.ahead⟩
theorem TwoRes.grew (h : TwoRes w c zs p1 p2 a1 a2 n c1 c2 ms cur) {ms' : List Int} (ho : OwnK .u8 cur' (p1 + 1) (.slice a2 n c2) ms') (hg : cur.grownBy cur' (Value.ownBlock (.slice a2 n c2))) : TwoRes w c zs p1 p2 a1 a2 n c1 c2 ms' cur' := by
  have hlo := fun k hk => (h.own.lt k hk).1
  have hp1 : some p1 ≠ Value.ownBlock (.slice a2 n c2) := fun e => by have := hlo p1 e.symm; omega
  have hp2 : some p2 ≠ Value.ownBlock (.slice a2 n c2) := fun e => by have := h.sep p2 e.symm; omega
  have l1 := h.lt1
  have hold := h.old
  refine ⟨h.bel.grown hg h.bel.size (fun k hk => by have := hlo k hk; omega), hg.cell h.x0 hp1, hg.cell h.x1 hp1, h.row.keep (fun i hi => hg.block i (by omega) (fun e => by have := hlo i e.symm; omega)), hg.cell h.y0 hp2, hg.cell h.y1 hp2, ho, h.old, h.sep, h.ahead⟩
/-- The model's answer, and then the program's, are stored. -/
theorem TwoRes.new {u1 u2 : World} {t : TypeId} (b1 : Below w.heap.size w u1) (O1 : OwnK .u8 u1 w.heap.size (.slice a1 n c1) zs) (hw : ∀ z ∈ zs, (Lit.int .u8 z).wf = true)
    (b2 : Below (u1.alloc (.cells #[.int .i64 c, .slice a1 n c1] t)).heap.size (u1.alloc (.cells #[.int .i64 c, .slice a1 n c1] t)) u2) (O2 : OwnK .u8 u2 (u1.alloc (.cells #[.int .i64 c, .slice a1 n c1] t)).heap.size (.slice a2 n c2) zs) :
    TwoRes w c zs u1.heap.size u2.heap.size a1 a2 n c1 c2 zs (u2.alloc (.cells #[.int .i64 c, .slice a2 n c2] t)) := by
  have hs := b2.size
  simp at hs
  have x0 : (u1.alloc (.cells #[.int .i64 c, .slice a1 n c1] t)).cell? ⟨u1.heap.size, 0, none⟩ = some (.int .i64 c) := by simp
  have x1 : (u1.alloc (.cells #[.int .i64 c, .slice a1 n c1] t)).cell? ⟨u1.heap.size, 1, none⟩ = some (.slice a1 n c1) := by simp
  have b3 := bal b2 (.cells #[.int .i64 c, .slice a2 n c2] t)
  have R1 := Own.row O1 hw
  refine ⟨btr (bal b1 _) b3, cell_keep b3 x0, cell_keep b3 x1, ?_, by simp, by simp, ?_, b1.size, fun k hk => (O2.lt k hk).2, by omega⟩
  · exact (R1.alloc (Nat.le_refl _) _).below (b3.mono (by simp))
  · have := O2.alloc (.cells #[.int .i64 c, .slice a2 n c2] t)
    simpa [OwnK] using this
end

end Go.Proofs.YtcolecidbalmhaaDoor
