/- Contracts of what the laws do with pins: compare them, copy them, count them. Conditions: as each theorem states. -/
import Derived.Test.YtmdknbgpddnplaaDoorG7
namespace Go.Proofs.YtmdknbgpddnplaaDoor
open Go.RowKit
set_option maxRecDepth 100000
set_option linter.unusedVariables false

theorem toPin_any (p : PinD) (w : World) : Calls Tryd.prog 11 #[P5 p] w fun e w' => e = .returned (P5 p) ∧ Below w.heap.size w w' := by
  have b0 := bal (bal (bal (Below.refl _ w) (.cells #[.string p.n, .int .i64 p.a, .int .i64 p.b, .int .i64 p.e, .int .i64 p.u] 23)) (.cells #[.string p.n, .int .i64 p.a, .int .i64 p.b, .int .i64 p.e, .int .i64 p.u] 30)) (.cells #[.string p.n, .int .i64 p.a, .int .i64 p.b, .int .i64 p.e, .int .i64 p.u] 30)
  go_enter Tryd.func11, Tryd.ntmps11
  go_wp2_with fail
  exact bodyPost_ret (v := P5 p) (by simp [results, Tryd.results11, go_sem]) rfl ⟨rfl, b0⟩
theorem szPin_any (p : PinD) (l : Int) (w : World) (hn : p.n.size ≤ maxLen) (l0 : 0 ≤ l) (l1 : l ≤ 1048576) :
    Calls Tryd.prog 9 #[P5 p, .int .i64 l] w fun e w' => e = .returned (.int .i64 (if l < p.n.size then -1 else l - p.n.size)) ∧ Below w.heap.size w w' := by
  have hb := bal (Below.refl _ w) (.cells #[.string p.n, .int .i64 p.a, .int .i64 p.b, .int .i64 p.e, .int .i64 p.u] 23)
  unfold maxLen at hn
  by_cases h : l < p.n.size
  · have h' : l - p.n.size < 0 := by omega
    rw [if_pos h]
    go_enter Tryd.func9, Tryd.ntmps9
    go_wp2_with fail
    go_ret
    exact ⟨rfl, hb⟩
  · have h' : ¬ l - p.n.size < 0 := by omega
    rw [if_neg h]
    go_enter Tryd.func9, Tryd.ntmps9
    go_wp2_with fail
    go_ret
    exact ⟨rfl, hb⟩

/-- How much of a bound pins leave. -/
def szL : List PinD → Int → Int
  | [], l => l
  | p :: r, l => if l < p.n.size then -1 else szL r (l - p.n.size)
def szP (ps : List PinD) (l : Int) : Int := if l < ps.length then -1 else szL ps (l - ps.length)
theorem szL_le : ∀ (ps : List PinD) (l : Int), 0 ≤ l → szL ps l ≤ l ∧ -1 ≤ szL ps l
  | [], l, h => ⟨Int.le_refl _, by unfold szL; omega⟩
  | p :: r, l, h => by
    unfold szL
    split
    · omega
    · have := szL_le r (l - p.n.size) (by omega)
      omega
theorem szL_mem : ∀ (ps : List PinD) (l : Int), 0 ≤ szL ps l → ∀ p ∈ ps, (p.n.size : Int) ≤ l
  | [], l, _, _, hp => by cases hp
  | q :: r, l, h, p, hp => by
    unfold szL at h
    split at h
    · omega
    · rcases List.mem_cons.1 hp with rfl | hp
      · omega
      · have := szL_mem r _ h p hp
        omega
theorem szP_ok {ps : List PinD} {l : Int} (h : 0 ≤ szP ps l) : (ps.length : Int) ≤ l ∧ (∀ p ∈ ps, (p.n.size : Int) ≤ l) ∧ szP ps l ≤ l := by
  unfold szP at h ⊢
  split at h
  · omega
  · rw [if_neg ‹_›]
    refine ⟨by omega, fun p hp => ?_, ?_⟩
    · have := szL_mem _ _ h p hp
      omega
    · have := (szL_le ps (l - ps.length) (by omega)).1
      omega
theorem szL_step {ps : List PinD} {k : Nat} (hk : k < ps.length) (l : Int) : szL (ps.drop k) l = if l < (ps[k]?.getD pin0).n.size then -1 else szL (ps.drop (k + 1)) (l - (ps[k]?.getD pin0).n.size) := by
  have e : ps.drop k = (ps[k]?.getD pin0) :: ps.drop (k + 1) := by
    rw [List.drop_eq_getElem_cons hk, List.getElem?_eq_getElem hk]
    rfl
  rw [e]
  rfl
def SzRel (w : World) (ps : List PinD) (t : Int) (k : Nat) (l : Int) (wr : World) : Prop := 0 ≤ l ∧ l ≤ 1048576 ∧ szL (ps.drop k) l = t ∧ Below w.heap.size w wr
/-- The pins that have been laid so far into a new block. -/
structure FillP (w : World) (n : Nat) (ps : List PinD) (k : Nat) (wr : World) : Prop where
  told : ∀ j, j < k → ∀ i v, (ps[j]?.getD pin0).vals[i]? = some v → wr.cell? ⟨w.heap.size, j * 5 + i, none⟩ = some v
  room : ∀ j, j < n * 5 → (∃ u, wr.cell? ⟨w.heap.size, j, none⟩ = some u) ∧ wr.frozen? ⟨w.heap.size, j, none⟩ = false
  lt : w.heap.size < wr.heap.size
  bel : Below w.heap.size w wr
theorem FillP.new (w : World) (n : Nat) (ps : List PinD) (cs : Array Value) (t : TypeId) (hs : cs.size = n * 5) : FillP w n ps 0 (w.alloc (.cells cs t)) := by
  have e1 : (w.alloc (.cells cs t)).heap[w.heap.size]? = some (.cells cs t) := (MapKept.heap_alloc w _).1
  refine ⟨fun j hj => absurd hj (by omega), fun j hj => ?_, by simp, bal (Below.refl _ _) _⟩
  unfold World.cell? World.frozen?
  rw [e1]
  exact ⟨⟨cs[j], by simp [show j < cs.size by omega]⟩, by simp⟩
theorem FillP.on {w wr wr' : World} {n : Nat} {ps : List PinD} {k : Nat} (h : FillP w n ps k wr) (hb : Below wr.heap.size wr wr') : FillP w n ps k wr' := by
  have e := hb.block w.heap.size h.lt
  refine ⟨fun j hj i v hv => cell_keep hb (h.told j hj i v hv), fun j hj => ?_, Nat.lt_of_lt_of_le h.lt hb.size, btr h.bel hb⟩
  rw [World.cell?_of_block (w := wr) (a := ⟨w.heap.size, j, none⟩) e, World.frozen?_of_block (w := wr) (a := ⟨w.heap.size, j, none⟩) e]
  exact h.room j hj
theorem FillP.one {w wr : World} {n : Nat} {ps : List PinD} {k : Nat} (h : FillP w n ps k wr) {j : Nat} (hj : k * 5 ≤ j) (v : Value) : FillP w n ps k (wr.setCell ⟨w.heap.size, j, none⟩ v) := by
  refine ⟨fun i hi c u hu => ?_, fun i hi => ?_, by simpa [World.setCell] using h.lt, bset h.bel (Nat.le_refl _) v⟩
  · have hc : c < 5 := by have := (List.getElem?_eq_some_iff.1 hu).1; simpa [PinD.vals_length] using this
    rw [World.cell?_setCell_other _ _ _ _ (fun e => by injection e with _ e2; omega)]
    exact h.told i hi c u hu
  · obtain ⟨⟨u, hu⟩, hf⟩ := h.room i hi
    exact ⟨cell?_setCell_some (w := wr) (p := ⟨w.heap.size, j, none⟩) (x := v) (q := ⟨w.heap.size, i, none⟩) (v := u) hu, by rw [World.frozen?_setCell]; exact hf⟩
theorem set5_cell {w : World} {g k : Nat} {p : PinD} (hs : ∀ i, i < 5 → ∃ u, w.cell? ⟨g, k * 5 + i, none⟩ = some u) (i : Nat) (v : Value) (hv : p.vals[i]? = some v) :
    (((((w.setCell ⟨g, k * 5, none⟩ (.string p.n)).setCell ⟨g, k * 5 + 1, none⟩ (.int .i64 p.a)).setCell ⟨g, k * 5 + 2, none⟩ (.int .i64 p.b)).setCell ⟨g, k * 5 + 3, none⟩ (.int .i64 p.e)).setCell ⟨g, k * 5 + 4, none⟩ (.int .i64 p.u)).cell? ⟨g, k * 5 + i, none⟩ = some v := by
  have hi : i < 5 := by have := (List.getElem?_eq_some_iff.1 hv).1; simpa [PinD.vals_length] using this
  have ne : ∀ {a b : Nat}, a ≠ b → (⟨g, k * 5 + a, none⟩ : Addr) ≠ ⟨g, k * 5 + b, none⟩ := fun h e => by injection e with _ e2; omega
  have ne0 : ∀ {b : Nat}, b ≠ 0 → (⟨g, k * 5 + b, none⟩ : Addr) ≠ ⟨g, k * 5, none⟩ := fun h e => by injection e with _ e2; omega
  have st : ∀ (w : World) (q : Addr) (x : Value), (∀ i, i < 5 → ∃ u, w.cell? ⟨g, k * 5 + i, none⟩ = some u) → ∀ i, i < 5 → ∃ u, (w.setCell q x).cell? ⟨g, k * 5 + i, none⟩ = some u := fun w q x h i hi => by
    obtain ⟨u, hu⟩ := h i hi
    exact cell?_setCell_some (w := w) (p := q) (x := x) (q := ⟨g, k * 5 + i, none⟩) (v := u) hu
  have s1 := st _ ⟨g, k * 5, none⟩ (.string p.n) hs
  have s2 := st _ ⟨g, k * 5 + 1, none⟩ (.int .i64 p.a) s1
  have s3 := st _ ⟨g, k * 5 + 2, none⟩ (.int .i64 p.b) s2
  have s4 := st _ ⟨g, k * 5 + 3, none⟩ (.int .i64 p.e) s3
  match i, hi with
  | 0, _ =>
    obtain ⟨u, hu⟩ := hs 0 (by omega)
    rw [World.cell?_setCell_other _ _ _ _ (by intro e; injection e with _ e2; omega), World.cell?_setCell_other _ _ _ _ (by intro e; injection e with _ e2; omega), World.cell?_setCell_other _ _ _ _ (by intro e; injection e with _ e2; omega), World.cell?_setCell_other _ _ _ _ (by intro e; injection e with _ e2; omega)]
    rw [show k * 5 + 0 = k * 5 from rfl] at hu ⊢
    rw [World.cell?_setCell_same _ _ _ (by rw [hu])]
    exact hv
  | 1, _ =>
    obtain ⟨u, hu⟩ := s1 1 (by omega)
    rw [World.cell?_setCell_other _ _ _ _ (by intro e; injection e with _ e2; omega), World.cell?_setCell_other _ _ _ _ (by intro e; injection e with _ e2; omega), World.cell?_setCell_other _ _ _ _ (by intro e; injection e with _ e2; omega), World.cell?_setCell_same _ _ _ (by rw [hu])]
    exact hv
  | 2, _ =>
    obtain ⟨u, hu⟩ := s2 2 (by omega)
    rw [World.cell?_setCell_other _ _ _ _ (by intro e; injection e with _ e2; omega), World.cell?_setCell_other _ _ _ _ (by intro e; injection e with _ e2; omega), World.cell?_setCell_same _ _ _ (by rw [hu])]
    exact hv
  | 3, _ =>
    obtain ⟨u, hu⟩ := s3 3 (by omega)
    rw [World.cell?_setCell_other _ _ _ _ (by intro e; injection e with _ e2; omega), World.cell?_setCell_same _ _ _ (by rw [hu])]
    exact hv
  | 4, _ =>
    obtain ⟨u, hu⟩ := s4 4 (by omega)
    rw [World.cell?_setCell_same _ _ _ (by rw [hu])]
    exact hv
theorem FillP.step {w wr : World} {n : Nat} {ps : List PinD} {k : Nat} (h : FillP w n ps k wr) (hk : k < n) {p : PinD} (hp : ps[k]?.getD pin0 = p) :
    FillP w n ps (k + 1) (((((wr.setCell ⟨w.heap.size, k * 5, none⟩ (.string p.n)).setCell ⟨w.heap.size, k * 5 + 1, none⟩ (.int .i64 p.a)).setCell ⟨w.heap.size, k * 5 + 2, none⟩ (.int .i64 p.b)).setCell ⟨w.heap.size, k * 5 + 3, none⟩ (.int .i64 p.e)).setCell ⟨w.heap.size, k * 5 + 4, none⟩ (.int .i64 p.u)) := by
  have hall := ((((h.one (j := k * 5) (by omega) (.string p.n)).one (j := k * 5 + 1) (by omega) (.int .i64 p.a)).one (j := k * 5 + 2) (by omega) (.int .i64 p.b)).one (j := k * 5 + 3) (by omega) (.int .i64 p.e)).one (j := k * 5 + 4) (by omega) (.int .i64 p.u)
  refine ⟨fun j hj i v hv => ?_, hall.room, hall.lt, hall.bel⟩
  by_cases e : j = k
  · subst e
    rw [hp] at hv
    exact set5_cell (fun i hi => (h.room (j * 5 + i) (by omega)).1) i v hv
  · exact hall.told j (by omega) i v hv
theorem FillP.own {w wr : World} {n : Nat} {ps : List PinD} (h : FillP w n ps n wr) (hl : ps.length = n) (hm : n ≤ maxLen) : OwnP wr w.heap.size (.slice (some ⟨w.heap.size, 0, none⟩) n n) ps := by
  subst hl
  refine ⟨flat_length ps, .inr ⟨w.heap.size, _, rfl, Nat.le_refl _, h.lt, Nat.le_refl _, hm, fun j u hu => ?_, fun j hj => ?_⟩⟩
  · have hj := (List.getElem?_eq_some_iff.1 hu).1
    rw [flat_length] at hj
    have hjk : j / 5 < ps.length := by omega
    have hjj : j / 5 * 5 + j % 5 = j := by omega
    have h5 : j % 5 < 5 := Nat.mod_lt _ (by omega)
    have hv : (ps[j / 5]?.getD pin0).vals[j % 5]? = some ((ps[j / 5]?.getD pin0).vals[j % 5]'(by rw [PinD.vals_length]; exact h5)) := List.getElem?_eq_getElem _
    have q1 := flat_get ps (j / 5) (j % 5) _ hjk hv
    have q2 := h.told (j / 5) hjk (j % 5) _ hv
    rw [hjj] at q1 q2
    rw [hu] at q1
    injection q1 with q1
    rw [q1]
    exact q2
  · obtain ⟨⟨u, hu⟩, hf⟩ := h.room j hj
    exact ⟨by rw [hu]; rfl, hf⟩

/-- A slice of pins was copied. -/
def CopiedP (n : Nat) (ps : List PinD) (w : World) (r : Ending) (w' : World) : Prop :=
  r = .returned (.slice (some ⟨w.heap.size, 0, none⟩) n n) ∧ OwnP w' w.heap.size (.slice (some ⟨w.heap.size, 0, none⟩) n n) ps ∧ Below w.heap.size w w'
theorem pin_info : (Tryd.prog.info? 30).map (fun i => (i.zero, i.size, i.bytes)) = some (some (P5 pin0), 5, 48) := by kernel_rfl
end Go.Proofs.YtmdknbgpddnplaaDoor
