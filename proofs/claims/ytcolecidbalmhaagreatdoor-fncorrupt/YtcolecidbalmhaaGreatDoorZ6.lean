/- Texts of this seat that several laws rest on, laid into one. Conditions: as each theorem states. -/
import Derived.Test.YtcolecidbalmhaaGreatDoorZ5
import Derived.Shelf.Abstract
import Derived.Test.YtcolecidbalmhaaGreatDoorProg
import Derived.Shelf.Small.Strs
import Derived.Shelf.Small.Bits
import Derived.Shelf.SlSortCmp.SmallK
import Derived.Sort.LotA
namespace Go.Proofs.YtcolecidbalmhaaGreatDoor
open Go.RowKit
set_option maxRecDepth 100000
set_option linter.unusedVariables false

/-- How much of a bound pins leave. -/
def szL : List PinD → Int → Int
  | [], l => l
  | p :: r, l => if l < p.n.size then -1 else szL r (l - p.n.size)
def szP (ps : List PinD) (l : Int) : Int := if l < ps.length then -1 else szL ps (l - ps.length)
def SzRel (w : World) (ps : List PinD) (t : Int) (k : Nat) (l : Int) (wr : World) : Prop := 0 ≤ l ∧ l ≤ 1048576 ∧ szL (ps.drop k) l = t ∧ Below w.heap.size w wr
/-- The pins that have been laid so far into a new block. -/
structure FillP (w : World) (n : Nat) (ps : List PinD) (k : Nat) (wr : World) : Prop where
  told : ∀ j, j < k → ∀ i v, (ps[j]?.getD pin0).vals[i]? = some v → wr.cell? ⟨w.heap.size, j * 5 + i, none⟩ = some v
  room : ∀ j, j < n * 5 → (∃ u, wr.cell? ⟨w.heap.size, j, none⟩ = some u) ∧ wr.frozen? ⟨w.heap.size, j, none⟩ = false
  lt : w.heap.size < wr.heap.size
  bel : Below w.heap.size w wr
theorem FillP.new (w : World) (n : Nat) (ps : List PinD) (cs : Array Value) (t : TypeId) (hs : cs.size = n * 5) : FillP w n ps 0 (w.alloc (.cells cs t)) := by
  have e1 : (w.alloc (.cells cs t)).heap[w.heap.size]? = some (.cells cs t) := (MapKept.heap_alloc w _).1
  refine ⟨fun j hj => absurd hj (by omega), fun j hj => ?_, by simp, bal (Below.refl _ _) _⟩
  unfold World.cell? World.frozen?
  rw [e1]
  exact ⟨⟨cs[j], by simp [show j < cs.size by omega]⟩, by simp⟩
theorem FillP.on {w wr wr' : World} {n : Nat} {ps : List PinD} {k : Nat} (h : FillP w n ps k wr) (hb : Below wr.heap.size wr wr') : FillP w n ps k wr' := by
  have e := hb.block w.heap.size h.lt
  refine ⟨fun j hj i v hv => cell_keep hb (h.told j hj i v hv), fun j hj => ?_, Nat.lt_of_lt_of_le h.lt hb.size, btr h.bel hb⟩
  rw [World.cell?_of_block (w := wr) (a := ⟨w.heap.size, j, none⟩) e, World.frozen?_of_block (w := wr) (a := ⟨w.heap.size, j, none⟩) e]
  exact h.room j hj
theorem FillP.one {w wr : World} {n : Nat} {ps : List PinD} {k : Nat} (h : FillP w n ps k wr) {j : Nat} (hj : k * 5 ≤ j) (v : Value) : FillP w n ps k (wr.setCell ⟨w.heap.size, j, none⟩ v) := by
  refine ⟨fun i hi c u hu => ?_, fun i hi => ?_, by simpa [World.setCell] using h.lt, bset h.bel (Nat.le_refl _) v⟩
  · have hc : c < 5 := by have := (List.getElem?_eq_some_iff.1 hu).1; simpa [PinD.vals_length] using this
    rw [World.cell?_setCell_other _ _ _ _ (fun e => by injection e with _ e2; omega)]
    exact h.told i hi c u hu
  · obtain ⟨⟨u, hu⟩, hf⟩ := h.room i hi
    exact ⟨cell?_setCell_some (w := wr) (p := ⟨w.heap.size, j, none⟩) (x := v) (q := ⟨w.heap.size, i, none⟩) (v := u) hu, by rw [World.frozen?_setCell]; exact hf⟩
theorem set5_cell {w : World} {g k : Nat} {p : PinD} (hs : ∀ i, i < 5 → ∃ u, w.cell? ⟨g, k * 5 + i, none⟩ = some u) (i : Nat) (v : Value) (hv : p.vals[i]? = some v) :
    (((((w.setCell ⟨g, k * 5, none⟩ (.string p.n)).setCell ⟨g, k * 5 + 1, none⟩ (.int .i64 p.a)).setCell ⟨g, k * 5 + 2, none⟩ (.int .i64 p.b)).setCell ⟨g, k * 5 + 3, none⟩ (.int .i64 p.e)).setCell ⟨g, k * 5 + 4, none⟩ (.int .i64 p.u)).cell? ⟨g, k * 5 + i, none⟩ = some v := by
  have hi : i < 5 := by have := (List.getElem?_eq_some_iff.1 hv).1; simpa [PinD.vals_length] using this
  have ne : ∀ {a b : Nat}, a ≠ b → (⟨g, k * 5 + a, none⟩ : Addr) ≠ ⟨g, k * 5 + b, none⟩ := fun h e => by injection e with _ e2; omega
  have ne0 : ∀ {b : Nat}, b ≠ 0 → (⟨g, k * 5 + b, none⟩ : Addr) ≠ ⟨g, k * 5, none⟩ := fun h e => by injection e with _ e2; omega
  have st : ∀ (w : World) (q : Addr) (x : Value), (∀ i, i < 5 → ∃ u, w.cell? ⟨g, k * 5 + i, none⟩ = some u) → ∀ i, i < 5 → ∃ u, (w.setCell q x).cell? ⟨g, k * 5 + i, none⟩ = some u := fun w q x h i hi => by
    obtain ⟨u, hu⟩ := h i hi
    exact cell?_setCell_some (w := w) (p := q) (x := x) (q := ⟨g, k * 5 + i, none⟩) (v := u) hu
  have s1 := st _ ⟨g, k * 5, none⟩ (.string p.n) hs
  have s2 := st _ ⟨g, k * 5 + 1, none⟩ (.int .i64 p.a) s1
  have s3 := st _ ⟨g, k * 5 + 2, none⟩ (.int .i64 p.b) s2
  have s4 := st _ ⟨g, k * 5 + 3, none⟩ (.int .i64 p.e) s3
  match i, hi with
  | 0, _ =>
    obtain ⟨u, hu⟩ := hs 0 (by omega)
    rw [World.cell?_setCell_other _ _ _ _ (by intro e; injection e with _ e2; omega), World.cell?_setCell_other _ _ _ _ (by intro e; injection e with _ e2; omega), World.cell?_setCell_other _ _ _ _ (by intro e; injection e with _ e2; omega), World.cell?_setCell_other _ _ _ _ (by intro e; injection e with _ e2; omega)]
    rw [show k * 5 + 0 = k * 5 from rfl] at hu ⊢
    rw [World.cell?_setCell_same _ _ _ (by rw [hu])]
    exact hv
  | 1, _ =>
    obtain ⟨u, hu⟩ := s1 1 (by omega)
    rw [World.cell?_setCell_other _ _ _ _ (by intro e; injection e with _ e2; omega), World.cell?_setCell_other _ _ _ _ (by intro e; injection e with _ e2; omega), World.cell?_setCell_other _ _ _ _ (by intro e; injection e with _ e2; omega), World.cell?_setCell_same _ _ _ (by rw [hu])]
    exact hv
  | 2, _ =>
    obtain ⟨u, hu⟩ := s2 2 (by omega)
    rw [World.cell?_setCell_other _ _ _ _ (by intro e; injection e with _ e2; omega), World.cell?_setCell_other _ _ _ _ (by intro e; injection e with _ e2; omega), World.cell?_setCell_same _ _ _ (by rw [hu])]
    exact hv
  | 3, _ =>
    obtain ⟨u, hu⟩ := s3 3 (by omega)
    rw [World.cell?_setCell_other _ _ _ _ (by intro e; injection e with _ e2; omega), World.cell?_setCell_same _ _ _ (by rw [hu])]
    exact hv
  | 4, _ =>
    obtain ⟨u, hu⟩ := s4 4 (by omega)
    rw [World.cell?_setCell_same _ _ _ (by rw [hu])]
    exact hv
theorem FillP.step {w wr : World} {n : Nat} {ps : List PinD} {k : Nat} (h : FillP w n ps k wr) (hk : k < n) {p : PinD} (hp : ps[k]?.getD pin0 = p) :
    FillP w n ps (k + 1) (((((wr.setCell ⟨w.heap.size, k * 5, none⟩ (.string p.n)).setCell ⟨w.heap.size, k * 5 + 1, none⟩ (.int .i64 p.a)).setCell ⟨w.heap.size, k * 5 + 2, none⟩ (.int .i64 p.b)).setCell ⟨w.heap.size, k * 5 + 3, none⟩ (.int .i64 p.e)).setCell ⟨w.heap.size, k * 5 + 4, none⟩ (.int .i64 p.u)) := by
  have hall := ((((h.one (j := k * 5) (by omega) (.string p.n)).one (j := k * 5 + 1) (by omega) (.int .i64 p.a)).one (j := k * 5 + 2) (by omega) (.int .i64 p.b)).one (j := k * 5 + 3) (by omega) (.int .i64 p.e)).one (j := k * 5 + 4) (by omega) (.int .i64 p.u)
  refine ⟨fun j hj i v hv => ?_, hall.room, hall.lt, hall.bel⟩
  by_cases e : j = k
  · subst e
    rw [hp] at hv
    exact set5_cell (fun i hi => (h.room (j * 5 + i) (by omega)).1) i v hv
  · exact hall.told j (by omega) i v hv
theorem FillP.own {w wr : World} {n : Nat} {ps : List PinD} (h : FillP w n ps n wr) (hl : ps.length = n) (hm : n ≤ maxLen) : OwnP wr w.heap.size (.slice (some ⟨w.heap.size, 0, none⟩) n n) ps := by
  subst hl
  refine ⟨flat_length ps, .inr ⟨w.heap.size, _, rfl, Nat.le_refl _, h.lt, Nat.le_refl _, hm, fun j u hu => ?_, fun j hj => ?_⟩⟩
  · have hj := (List.getElem?_eq_some_iff.1 hu).1
    rw [flat_length] at hj
    have hjk : j / 5 < ps.length := by omega
    have hjj : j / 5 * 5 + j % 5 = j := by omega
    have h5 : j % 5 < 5 := Nat.mod_lt _ (by omega)
    have hv : (ps[j / 5]?.getD pin0).vals[j % 5]? = some ((ps[j / 5]?.getD pin0).vals[j % 5]'(by rw [PinD.vals_length]; exact h5)) := List.getElem?_eq_getElem _
    have q1 := flat_get ps (j / 5) (j % 5) _ hjk hv
    have q2 := h.told (j / 5) hjk (j % 5) _ hv
    rw [hjj] at q1 q2
    rw [hu] at q1
    injection q1 with q1
    rw [q1]
    exact q2
  · obtain ⟨⟨u, hu⟩, hf⟩ := h.room j hj
    exact ⟨by rw [hu]; rfl, hf⟩

/-- A slice of pins was copied. -/
def CopiedP (n : Nat) (ps : List PinD) (w : World) (r : Ending) (w' : World) : Prop :=
  r = .returned (.slice (some ⟨w.heap.size, 0, none⟩) n n) ∧ OwnP w' w.heap.size (.slice (some ⟨w.heap.size, 0, none⟩) n n) ps ∧ Below w.heap.size w w'
theorem pin_info : (Tryz.prog.info? 31).map (fun i => (i.zero, i.size, i.bytes)) = some (some (P5 pin0), 5, 48) := by kernel_rfl
end Go.Proofs.YtcolecidbalmhaaGreatDoor
namespace Go.Proofs.YtcolecidbalmhaaGreatDoor
open Go.RowKit Go.Maps Go.Sort
set_option maxRecDepth 100000
set_option linter.unusedVariables false
attribute [local go_sem] Oper.semAt_some

theorem wpListIn_append_src {F : Fence} {nn : Nat} {P : Program} (w : World) {ops : Array Oper} {rest : List Oper} {o : Oper} {a : Act} {Q : Exit → Act → World → Prop} (hgd : o.guard = none) (s y : Operand) (t tx : TypeId)
    (ho : o.op = .call { callee := .builtin .append, args := #[s, y], argTypes := #[t, tx] })
    (B : Nat) (e : TypeId) (i : TypeInfo) (z : Value) (size bytes : Nat) (ht : P.underlying t = some (.slice e)) (hi : P.info? e = some i) (hz : i.zero = some z)
    (hsize : i.size = size) (hby : i.bytes = bytes) (hzs : z.cells.size = size)
    (v : Value) (n : Nat) (xs : List Value) (hsv : a.eval s = v) (hown : Own w B size v n xs)
    (x : Value) (m : Nat) (news : List Value) (hx : a.eval y = x) (hs : Go.Src P size tx x m news w)
    (h63 : n + m ≤ maxLen) (hbytes : (n + m) * bytes ≤ 140737488355328) (hB : B ≤ w.heap.size)
    (h : ∀ v' w', Own w' B size v' (n + m) (xs ++ news) → w.grownBy w' v.ownBlock → (v'.ownBlock = v.ownBlock ∨ v'.ownBlock = some w.heap.size) → wpListIn F nn P ops Q rest (a.put o.dst v') w') : wpListIn F nn P ops Q (o :: rest) a w := by
  refine wpListIn_plain hgd fun K hK' => ?_
  obtain ⟨v', w', hr, h2, h3, h4⟩ := run_append_src (P := P) w B t tx o.type e i z size bytes ht hi hz hsize hby hzs v n xs hown x m news hs h63 hbytes hB
  unfold Oper.wpIn
  refine ⟨?_, ?_⟩
  · simp [Oper.about, ho, resolve, Target.leads, Sem.run_pure]
  · rw [Oper.semAt_plain F _ _ (by rw [ho]; intro c hc'; cases hc')]
    simp [execOp, ho, resolve, invoke, builtin, hsv, hx, hr, Result.andThen]
    exact hK' _ _ (h v' w' h2 h3 h4)
theorem src_new5 {P : Program} (w : World) (p : PinD) (t tx e' : TypeId) (hk : P.underlying tx = some (.slice e')) :
    Go.Src P 5 tx (.slice (some ⟨w.heap.size, 0, none⟩) 1 1) 1 p.vals (w.alloc (.cells #[.string p.n, .int .i64 p.a, .int .i64 p.b, .int .i64 p.e, .int .i64 p.u] t)) := by
  refine Src.ofSlice _ hk _ _ _ _ rfl (fun j u hu => ?_) (pin_oneCell p)
  have A : At w.heap.size p.vals (w.alloc (.cells #[.string p.n, .int .i64 p.a, .int .i64 p.b, .int .i64 p.e, .int .i64 p.u] t)) := At.new w p.vals t
  rw [Addr.add_lit, Nat.zero_add]
  exact A.cell j u hu
theorem values_any (b : Nat) (w : World) : Calls Tryz.prog 195 #[.map (some b)] w fun e w' =>
    e = .returned (.func (.func 236) #[] #[.pointer (some ⟨w.heap.size, 0, none⟩)]) ∧ w' = w.alloc (.cells #[.map (some b)] 134) := by
  go_enter Tryz.func195, Tryz.ntmps195
  go_wp2_with fail
  go_ret
  exact ⟨rfl, rfl⟩
/-- Between two rounds: the box holds a slice of what has been told. -/
structure ApI (w : World) (bx : Nat) (pre : List PinD) (W : World) : Prop where
  box : ∃ v, At bx [v] W ∧ OwnP W w.heap.size v pre ∧ (pre = [] → v = .slice none 0 0) ∧ v.ownBlock ≠ some bx
  bel : Below w.heap.size w W
  lt : w.heap.size ≤ bx
theorem Own.isCells {w : World} {B size : Nat} {v : Value} {n : Nat} {xs : List Value} (h : Own w B size v n xs) (hn : 0 < n) (hs : 0 < size) : ∀ (j : Nat) (o : Obj), v.ownBlock = some j → w.heap[j]? = some o → o.isCells = true := by
  intro j o hj ho
  rcases h.2 with ⟨rfl, h0⟩ | ⟨g, cap, rfl, _, _, h1, _, _, hroom⟩
  · omega
  · simp [Value.ownBlock] at hj
    subst hj
    have : 0 < cap * size := Nat.mul_pos (by omega) hs
    have hc := (hroom 0 this).1
    unfold World.cell? at hc
    rw [ho] at hc
    cases o <;> simp_all [Obj.isCells]
theorem ApI.from {w : World} {bx B : Nat} (hB : bx < B) : OwnFrom B (ApI w bx) := fun s W W' row hs hgr hr => by
  obtain ⟨v, hA, hO, hn, hv⟩ := hs.box
  have hne : ∀ k, row = some k → k ≠ bx := fun k e h => by have := (hr k e).1; omega
  refine ⟨⟨v, hA.keep (fun hl => hgr.block bx hl (fun e => hne bx e.symm rfl)), ?_, hn, hv⟩, ?_, hs.lt⟩
  · refine Own.keep hO hgr.size (fun k hk => hgr.block k (Own.lt hO k hk).2 (fun e => ?_))
    obtain ⟨hB', o, ho, hc⟩ := hr k e.symm
    cases s with
    | nil => rw [hn rfl] at hk; simp [Value.ownBlock] at hk
    | cons p r =>
      have := Own.isCells hO (by simp) (by omega) k o hk ho
      rw [hc] at this
      cases this
  · exact hs.bel.grown hgr hs.bel.size (fun k e => by have := (hr k e).1; have := hs.lt; omega)

theorem At.isCells {g : Nat} {v : Value} {cs : List Value} {w : World} (h : At g (v :: cs) w) {o : Obj} (ho : w.heap[g]? = some o) : o.isCells = true := by
  have hc := h.cell 0 v rfl
  unfold World.cell? at hc
  rw [ho] at hc
  cases o <;> simp_all [Obj.isCells]
/-- The round's own variable lies in a new block. -/
def BoxA (mk : Nat → Act) (bx : Nat) (x : PinD) (a' : Act) (W : World) : Prop := ∃ g, a' = mk g ∧ At g x.vals W
theorem BoxA.from {mk : Nat → Act} {bx B : Nat} (x : PinD) (a' : Act) : OwnFrom B (fun (_ : Unit) W => BoxA mk bx x a' W) := fun _ W W' row hs hgr hr => by
  obtain ⟨g, rfl, hA⟩ := hs
  refine ⟨g, rfl, hA.keep (fun hl => hgr.block g hl (fun e => ?_))⟩
  obtain ⟨_, o, ho, hc⟩ := hr g e.symm
  have := At.isCells (cs := [.int .i64 x.a, .int .i64 x.b, .int .i64 x.e, .int .i64 x.u]) hA ho
  rw [hc] at this
  cases this
/-- What an append and a store into the box make of it. -/
theorem ApI.step {w W w3 : World} {bx : Nat} {pre : List PinD} {x : PinD} {v v3 : Value} {o : Obj} (h : ApI w bx pre W) (hA : At bx [v] W) (hO : OwnP W w.heap.size v pre) (hn : pre = [] → v = .slice none 0 0) (hv : v.ownBlock ≠ some bx)
    (hown : Own w3 w.heap.size 5 v3 (pre.length + 1) (flat pre ++ x.vals)) (hgrow : (W.alloc o).grownBy w3 v.ownBlock) (hat : v3.ownBlock = v.ownBlock ∨ v3.ownBlock = some (W.alloc o).heap.size) :
    ApI w bx (pre ++ [x]) (w3.setCell ⟨bx, 0, none⟩ v3) ∧ KeepsOthers W (w3.setCell ⟨bx, 0, none⟩ v3) := by
  have hlt := hA.lt (by simp)
  have hv3 : v3.ownBlock ≠ some bx := by
    rcases hat with e | e
    · rw [e]; exact hv
    · rw [e]; intro e2; injection e2 with e2; simp at e2; omega
  have hO2 : OwnP w3 w.heap.size v3 (pre ++ [x]) := by
    unfold OwnP
    rw [flat_append, List.length_append]
    simpa [flat] using hown
  have hb3 : Below w.heap.size w w3 := (bal h.bel o).grown hgrow (bal h.bel o).size (fun k e => (Own.lt hO k e).1)
  have hA3 : At bx [v] w3 := (hA.alloc o).kept hgrow (fun e => hv e.symm)
  refine ⟨⟨⟨v3, ?_, ?_, fun e => by simp at e, hv3⟩, bset hb3 h.lt v3, h.lt⟩, ?_⟩
  · have := hA3.set 0 v3
    simpa using this
  · exact Own.setCell hO2 (fun k hk e => hv3 (by rw [hk]; exact congrArg some e)) v3
  · refine ((KeepsOthers.alloc W o).trans (KeepsOthers.of_grownBy hgrow ?_)).trans (KeepsOthers.setCell _ _ _)
    intro j o' hj ho'
    cases pre with
    | nil => rw [hn rfl] at hj; simp [Value.ownBlock] at hj
    | cons p r => exact Own.isCells (OwnP.alloc hO o) (by simp) (by omega) j o' hj ho'

set_option maxHeartbeats 4000000 in
theorem appendSeq_any (b Bm : Nat) (ps : List PinD) (w : World) (hBm : Bm < w.heap.size) (cm : w.cell? ⟨Bm, 0, none⟩ = some (.map (some b))) (hM : PMap w b ps) (hl : ps.length ≤ 1000) :
    Calls Tryz.prog 259 #[.slice none 0 0, .func (.func 236) #[] #[.pointer (some ⟨Bm, 0, none⟩)]] w fun e w' =>
      ∃ v xs, e = .returned v ∧ xs.Perm ps ∧ OwnP w' w.heap.size v xs ∧ Below w.heap.size w w' := by
  obtain ⟨i0, hi0, hz0, hz1, hz2⟩ := info_parts pin_info
  refine (callsIn_wide (n := 5)).1 ?_
  refine callsIn_of_wp_marks Tryz.func259 rfl trivial ?_ rfl
  simp only [Tryz.ntmps259, List.size_toArray, List.length_cons, List.length_nil, Nat.reduceAdd, Nat.reduceSub, Array.replicate_succ, Array.replicate_zero, List.push_toArray, List.append_toArray, List.nil_append, List.cons_append]
  refine wpIn_wide.2 ?_
  go_wp2_with fail
  have b0 := bal (Below.refl _ w) (.cells #[.slice none 0 0] 24)
  have X0 := At.new w [.slice none 0 0] 24
  have I0 : ApI w w.heap.size [] (w.alloc (.cells #[.slice none 0 0] 24)) := ⟨⟨_, X0, OwnP.nil _ _, fun _ => rfl, by simp [Value.ownBlock]⟩, b0, Nat.le_refl _⟩
  have hB0 : Bm < (w.alloc (.cells #[.slice none 0 0] 24)).heap.size := by simp; omega
  have hsz0 : (w.alloc (.cells #[.slice none 0 0] 24)).heap.size = w.heap.size + 1 := by simp
  have hS := values_stops (5 - 1) (by omega) Bm b ps w hBm cm hM
  clear X0
  generalize w.alloc (.cells #[.slice none 0 0] 24) = w1 at *
  refine (wpIn_wide (n := 5)).1 ?_
  refine wpIn_rangeFunc_ownH rfl (by omega) (gf := 236) (lb := #[.pointer (some ⟨Bm, 0, none⟩)]) rfl trivial (enters_of Tryz.func236 (by kernel_rfl) rfl)
    hS (fun h k => h.trans k) (walksK_b (w := w1)) b0 (fun _ => rfl)
    (ApI w w.heap.size) (fun _ _ _ => False) (ApI.from (by omega)) (fun _ _ _ _ _ hs _ _ => hs) I0
    (fun x a' W => ∃ g, a' = { tmps := #[.slice none 0 0, .func (.func 236) #[] #[.pointer (some ⟨Bm, 0, none⟩)], .pointer (some ⟨w.heap.size, 0, none⟩), undef, .slice none 0 0, .pointer (some ⟨g, 0, none⟩), .func (.func 236) #[] #[.pointer (some ⟨Bm, 0, none⟩)], P5 x, undef, undef, undef, undef, undef], defers := [] } ∧ At g x.vals W)
    (fun x a' => BoxA.from (mk := fun g => { tmps := #[.slice none 0 0, .func (.func 236) #[] #[.pointer (some ⟨Bm, 0, none⟩)], .pointer (some ⟨w.heap.size, 0, none⟩), undef, .slice none 0 0, .pointer (some ⟨g, 0, none⟩), .func (.func 236) #[] #[.pointer (some ⟨Bm, 0, none⟩)], P5 x, undef, undef, undef, undef, undef], defers := [] }) (bx := 0) x a') ?assign ?body ?done ?stop
  case assign =>
    intro l pre x W K hI hK
    gi_wp2
    exact hK _ _ ((KeepsOthers.alloc W _).from _) (KeepsWalks.alloc W _) (OwnFrom.alloc (ApI.from (B := w.heap.size + 1) (by omega)) _ hI) ⟨W.heap.size, rfl, At.new W x.vals 31⟩
  case body =>
    rintro l pre x a' W - - hI ⟨g, rfl, hAg⟩ hlen
    obtain ⟨v, hAx, hO, hn, hv⟩ := hI.box
    obtain ⟨a0, c0, rfl, -⟩ := hO.form
    have hsrc := src_new5 (P := Tryz.prog) W x 31 24 31 Tryz.underlying24
    have x0 := hAx.cell 0 _ rfl
    have hbs := hI.bel.size
    have S3 := Lib.hid (fun (w3 : World) (v3 : Value) => hI.step (w3 := w3) (v3 := v3) (x := x) (o := .cells #[.string x.n, .int .i64 x.a, .int .i64 x.b, .int .i64 x.e, .int .i64 x.u] 31) hAx hO hn hv)
    have A3' := Lib.hid (fun (w3 : World) (hgrow : (W.alloc (.cells #[.string x.n, .int .i64 x.a, .int .i64 x.b, .int .i64 x.e, .int .i64 x.u] 31)).grownBy w3 (Value.slice a0 pre.length c0).ownBlock) => (hAx.alloc (.cells #[.string x.n, .int .i64 x.a, .int .i64 x.b, .int .i64 x.e, .int .i64 x.u] 31)).kept hgrow (fun e => hv e.symm))
    have HO := Lib.hid hO
    have y0 := hAg.cell 0 _ rfl
    have y1 := hAg.cell 1 _ rfl
    have y2 := hAg.cell 2 _ rfl
    have y3 := hAg.cell 3 _ rfl
    have y4 := hAg.cell 4 _ rfl
    clear hO hn hI hAg hAx hS hM cm
    gi_wp2_with (first
      | (gi_at_builtin; refine wpListIn_append_src _ rfl (.tmp 8) (.tmp 10) 24 24 rfl w.heap.size 31 i0 (P5 pin0) 5 48 Tryz.underlying24 hi0 hz0 hz1 hz2 rfl _ _ _ rfl (Own.alloc HO.out _) _ 1 x.vals rfl hsrc (by simp only [maxLen]; omega) (by omega) (by simp; omega) ?_; intro v3 w3 hown hgrow hat
         have st := S3.out w3 v3 hown hgrow hat
         have A3 := A3'.out w3 hgrow
         have z0 := A3.cell 0 _ rfl
         have f0 := A3.free 0 _ rfl
         obtain ⟨a3, c3, rfl, -⟩ := Own.form hown
         go_frame)
      | gi_in)
    exact ⟨st.2.from _, st.2.walks, st.1⟩
  case done =>
    rintro D xs W hD hxs hI hdef
    obtain ⟨v, hAx, hO, hn, hv⟩ := hI.box
    have hb := hI.bel
    obtain ⟨a0, c0, rfl, -⟩ := hO.form
    have x0 := hAx.cell 0 _ rfl
    have HO := Lib.hid hO
    have HB := Lib.hid hb
    have HX := Lib.hid hxs
    have HN := Lib.hid hn
    have hDD : w.heap.size ≤ D := by omega
    have HD := Lib.hid hDD
    clear hO hn hI hAx hS hM cm hb hxs
    gi_wp2
    go_wp2_with fail
    refine ⟨by simp, .inl ⟨_, _, rfl, run_takeDeferred hdef, ?_⟩⟩
    have hgr := grownBy_putObj' W D (.deferred none)
    refine ⟨_, results_tmp rfl _ _ _, ?_⟩
    refine ⟨_, xs, rfl, HX.out, ?_, HB.out.trans (belowK_b (w := w) (Nat.le_refl _) W D _ _ HD.out hdef rfl rfl)⟩
    refine Own.keep HO.out hgr.size (fun q hq => hgr.block q (Own.lt HO.out q hq).2 (fun e => ?_))
    injection e with e
    subst e
    cases xs with
    | nil => rw [HN.out rfl] at hq; simp [Value.ownBlock] at hq
    | cons p r =>
      have := Own.isCells HO.out (by simp) (by omega) q _ hq hdef
      cases this
  case stop =>
    rintro D c' pre W _ _ h _
    exact h.elim

theorem collect_any (b Bm : Nat) (ps : List PinD) (w : World) (hBm : Bm < w.heap.size) (cm : w.cell? ⟨Bm, 0, none⟩ = some (.map (some b))) (hM : PMap w b ps) (hl : ps.length ≤ 1000) :
    Calls Tryz.prog 234 #[.func (.func 236) #[] #[.pointer (some ⟨Bm, 0, none⟩)]] w fun e w' =>
      ∃ v xs, e = .returned v ∧ xs.Perm ps ∧ OwnP w' w.heap.size v xs ∧ Below w.heap.size w w' := by
  have S := appendSeq_any b Bm ps w hBm cm hM hl
  clear hM cm
  go_enter Tryz.func234, Tryz.ntmps234
  go_wp2_with fail
  refine S.mono ?_
  rintro r u1 ⟨v, xs, rfl, hp, hO, b1⟩
  have HO := Lib.hid hO
  obtain ⟨a0, c0, rfl, -⟩ := hO.form
  clear hO
  go_wp2_with fail
  go_ret
  exact ⟨_, xs, rfl, hp, HO.out, b1⟩
end Go.Proofs.YtcolecidbalmhaaGreatDoor
namespace Go.Proofs.YtcolecidbalmhaaGreatDoor
open Go.Shelf
def lays106_ren : Go.Shelf.Ren := ⟨fun | 106 => 197 | 213 => 237 | 265 => 262 | n => n, fun | 9 => 9 | 3 => 3 | n => n, fun | n => n⟩
theorem lays106 : Go.Proofs.Lays.n106 Tryz.prog lays106_ren := {
  mixed := by kernel_rfl
  f106 := Tryz.func197.trans (congrArg some (by kernel_rfl))
  f213 := Tryz.func237.trans (congrArg some (by kernel_rfl))
  f265 := Tryz.func262.trans (congrArg some (by kernel_rfl))
  t3 := Tryz.underlying3
  a3 := Tryz.isAgg3
  z3 := Tryz.sizeOf3
  v3 := Tryz.zeroValue3
  t9 := Tryz.underlying9
  a9 := Tryz.isAgg9
  z9 := Tryz.sizeOf9
  v9 := Tryz.zeroValue9 }
def lays125_ren : Go.Shelf.Ren := ⟨fun | 125 => 261 | 128 => 282 | 129 => 283 | n => n, fun | 46 => 234 | 3 => 3 | 51 => 188 | 53 => 348 | 4 => 4 | 5 => 5 | 9 => 9 | n => n, fun | n => n⟩
theorem lays125 : Go.Proofs.Lays.n125 Tryz.prog lays125_ren := {
  mixed := by kernel_rfl
  f125 := Tryz.func261.trans (congrArg some (by kernel_rfl))
  f128 := Tryz.func282.trans (congrArg some (by kernel_rfl))
  f129 := Tryz.func283.trans (congrArg some (by kernel_rfl))
  t3 := Tryz.underlying3
  a3 := Tryz.isAgg3
  z3 := Tryz.sizeOf3
  v3 := Tryz.zeroValue3
  t4 := Tryz.underlying4
  a4 := Tryz.isAgg4
  z4 := Tryz.sizeOf4
  v4 := Tryz.zeroValue4
  t5 := Tryz.underlying5
  a5 := Tryz.isAgg5
  z5 := Tryz.sizeOf5
  v5 := Tryz.zeroValue5
  t9 := Tryz.underlying9
  a9 := Tryz.isAgg9
  z9 := Tryz.sizeOf9
  v9 := Tryz.zeroValue9
  t46 := Tryz.underlying234
  a46 := Tryz.isAgg234
  z46 := Tryz.sizeOf234
  v46 := Tryz.zeroValue234
  t51 := Tryz.underlying188
  a51 := Tryz.isAgg188
  z51 := Tryz.sizeOf188
  v51 := Tryz.zeroValue188
  t53 := Tryz.underlying348
  a53 := Tryz.isAgg348
  z53 := Tryz.sizeOf348
  v53 := Tryz.zeroValue348 }
def laysSort_ren : Go.Shelf.Ren := ⟨fun | 6 => 235 | 15 => 261 | 14 => 260 | 28 => 282 | 29 => 283 | 20 => 274 | 21 => 275 | 22 => 276 | 23 => 277 | 24 => 278 | 25 => 279 | 26 => 280 | 27 => 281 | 46 => 287 | 47 => 288 | 48 => 289 | 49 => 290 | 50 => 291 | 57 => 292 | n => n, fun | 22 => 24 | 24 => 31 | 25 => 240 | 3 => 3 | 39 => 234 | 0 => 0 | 53 => 188 | 55 => 348 | 4 => 4 | 46 => 340 | 45 => 339 | 50 => 344 | 5 => 5 | 9 => 9 | 66 => 356 | 70 => 360 | 76 => 366 | 77 => 367 | n => n, fun | n => n⟩
theorem laysSort : Go.Proofs.SlLaysF0.n6 Tryz.prog laysSort_ren := {
  mixed := by kernel_rfl
  f6 := ⟨Tryz.f235.name, by decide, Tryz.func235.trans (congrArg some (by kernel_rfl))⟩
  f14 := ⟨Tryz.f260.name, by decide, Tryz.func260.trans (congrArg some (by kernel_rfl))⟩
  f15 := Tryz.func261.trans (congrArg some (by kernel_rfl))
  f20 := ⟨Tryz.f274.name, by decide, Tryz.func274.trans (congrArg some (by kernel_rfl))⟩
  f21 := ⟨Tryz.f275.name, by decide, Tryz.func275.trans (congrArg some (by kernel_rfl))⟩
  f22 := ⟨Tryz.f276.name, by decide, Tryz.func276.trans (congrArg some (by kernel_rfl))⟩
  f23 := ⟨Tryz.f277.name, by decide, Tryz.func277.trans (congrArg some (by kernel_rfl))⟩
  f24 := ⟨Tryz.f278.name, by decide, Tryz.func278.trans (congrArg some (by kernel_rfl))⟩
  f25 := ⟨Tryz.f279.name, by decide, Tryz.func279.trans (congrArg some (by kernel_rfl))⟩
  f26 := ⟨Tryz.f280.name, by decide, Tryz.func280.trans (congrArg some (by kernel_rfl))⟩
  f27 := ⟨Tryz.f281.name, by decide, Tryz.func281.trans (congrArg some (by kernel_rfl))⟩
  f28 := Tryz.func282.trans (congrArg some (by kernel_rfl))
  f29 := Tryz.func283.trans (congrArg some (by kernel_rfl))
  f46 := ⟨Tryz.f287.name, by decide, Tryz.func287.trans (congrArg some (by kernel_rfl))⟩
  f47 := Tryz.func288.trans (congrArg some (by kernel_rfl))
  f48 := Tryz.func289.trans (congrArg some (by kernel_rfl))
  f49 := ⟨Tryz.f290.name, by decide, Tryz.func290.trans (congrArg some (by kernel_rfl))⟩
  f50 := ⟨Tryz.f291.name, by decide, Tryz.func291.trans (congrArg some (by kernel_rfl))⟩
  f57 := ⟨Tryz.f292.name, by decide, Tryz.func292.trans (congrArg some (by kernel_rfl))⟩
  t0 := Tryz.underlying0
  a0 := Tryz.isAgg0
  z0 := Tryz.sizeOf0
  v0 := Tryz.zeroValue0
  t3 := Tryz.underlying3
  a3 := Tryz.isAgg3
  z3 := Tryz.sizeOf3
  v3 := Tryz.zeroValue3
  t4 := Tryz.underlying4
  a4 := Tryz.isAgg4
  z4 := Tryz.sizeOf4
  v4 := Tryz.zeroValue4
  t5 := Tryz.underlying5
  a5 := Tryz.isAgg5
  z5 := Tryz.sizeOf5
  v5 := Tryz.zeroValue5
  t9 := Tryz.underlying9
  a9 := Tryz.isAgg9
  z9 := Tryz.sizeOf9
  v9 := Tryz.zeroValue9
  t22 := Tryz.underlying24
  a22 := Tryz.isAgg24
  z22 := Tryz.sizeOf24
  v22 := Tryz.zeroValue24
  t25 := Tryz.underlying240
  a25 := Tryz.isAgg240
  z25 := Tryz.sizeOf240
  v25 := Tryz.zeroValue240
  t39 := Tryz.underlying234
  a39 := Tryz.isAgg234
  z39 := Tryz.sizeOf234
  v39 := Tryz.zeroValue234
  t45 := Tryz.underlying339
  a45 := Tryz.isAgg339
  z45 := Tryz.sizeOf339
  v45 := Tryz.zeroValue339
  t46 := Tryz.underlying340
  a46 := Tryz.isAgg340
  z46 := Tryz.sizeOf340
  v46 := Tryz.zeroValue340
  t50 := Tryz.underlying344
  a50 := Tryz.isAgg344
  z50 := Tryz.sizeOf344
  v50 := Tryz.zeroValue344
  t53 := Tryz.underlying188
  a53 := Tryz.isAgg188
  z53 := Tryz.sizeOf188
  v53 := Tryz.zeroValue188
  t55 := Tryz.underlying348
  a55 := Tryz.isAgg348
  z55 := Tryz.sizeOf348
  v55 := Tryz.zeroValue348
  t66 := Tryz.underlying356
  a66 := Tryz.isAgg356
  z66 := Tryz.sizeOf356
  v66 := Tryz.zeroValue356
  t70 := Tryz.underlying360
  a70 := Tryz.isAgg360
  z70 := Tryz.sizeOf360
  v70 := Tryz.zeroValue360
  t76 := Tryz.underlying366
  a76 := Tryz.isAgg366
  z76 := Tryz.sizeOf366
  v76 := Tryz.zeroValue366
  t77 := Tryz.underlying367
  a77 := Tryz.isAgg367
  z77 := Tryz.sizeOf367
  v77 := Tryz.zeroValue367 }
end Go.Proofs.YtcolecidbalmhaaGreatDoor
namespace Go.Proofs.YtcolecidbalmhaaGreatDoor
open Go.RowKit Go.Maps Go.Sort Go.Shelf
set_option maxRecDepth 100000
set_option linter.unusedVariables false

theorem flatK_get (ps : List PinD) (t : Nat) (h : t < ps.length * 5) : (flatK PinD.vals 5 ps.toArray)[t]! = ((ps[t / 5]?.getD pin0).vals)[t % 5]! := by
  rw [get_flatK _ _ _ _ (by simpa using h)]
  have h5 : t / 5 < ps.length := by omega
  congr 2
  simp [h5]
theorem vals_get (p : PinD) {i : Nat} (hi : i < 5) : p.vals[i]? = some p.vals[i]! := by
  rw [List.getElem?_eq_getElem (by rw [PinD.vals_length]; exact hi), List.getElem!_eq_getElem?_getD, List.getElem?_eq_getElem (by rw [PinD.vals_length]; exact hi)]
  rfl
theorem OwnP.holds {w : World} {B g n c : Nat} {ps : List PinD} (h : OwnP w B (.slice (some ⟨g, 0, none⟩) n c) ps) : HoldsK PinD.vals 5 w g 0 ps.toArray := by
  intro j hj
  rw [size_flatK] at hj
  have hj' : j < ps.length * 5 := by simpa using hj
  have h5 : j / 5 < ps.length := by omega
  have hm : j % 5 < 5 := Nat.mod_lt _ (by omega)
  have hjj : j / 5 * 5 + j % 5 = j := by omega
  rw [flatK_get ps j hj']
  have := h.cell h5 (vals_get (ps[j / 5]?.getD pin0) hm)
  rw [hjj] at this
  rw [Nat.zero_add]
  exact this
theorem grownBy_sortK {w : World} {g m : Nat} {os : Array Obj} (d : Array PinD) : w.grownBy (sortWorldK PinD.vals 5 w g 0 m d os) (some g) := by
  refine ⟨rfl, rfl, rfl, by simp [sortWorldK, putRowK], fun k hk hne => ?_⟩
  unfold sortWorldK putRowK putRow mapBlock
  rw [heap_grow_old _ _ (by simpa using hk)]
  have : g ≠ k := fun e => hne (by rw [e])
  simp [Array.getElem?_modify, this]
theorem OwnP.sorted {w : World} {B g n c m : Nat} {xs ys : List PinD} {os : Array Obj} (h : OwnP w B (.slice (some ⟨g, 0, none⟩) n c) xs) (hl : ys.length = xs.length) :
    OwnP (sortWorldK PinD.vals 5 w g 0 m ys.toArray os) B (.slice (some ⟨g, 0, none⟩) n c) ys := by
  have hH := h.holds
  rcases h.2 with ⟨e, h0⟩ | ⟨g', c', e, hB, hg, hn, hm, hcell, hroom⟩
  · cases e
  injection e with e1 e2 e3
  injection e1 with e1
  injection e1 with e1 _ _
  subst e1
  subst e3
  have hK : HoldsK PinD.vals 5 (sortWorldK PinD.vals 5 w g 0 m ys.toArray os) g 0 ys.toArray :=
    holdsK_grow _ _ _ _ _ _ _ (by simp [putRowK]; exact hg) (holdsK_putRowK _ _ _ _ _ xs.toArray _ (holdsK_ahead _ _ _ _ _ _ _ hH) (by simpa using hl))
  refine ⟨by rw [flat_length], .inr ⟨g, c, by rw [e2, hl], hB, ?_, by omega, hm, fun j u hu => ?_, fun j hj => ?_⟩⟩
  · simp [sortWorldK, putRowK]; omega
  · have hj := (List.getElem?_eq_some_iff.1 hu).1
    rw [flat_length] at hj
    have h5 : j / 5 < ys.length := by omega
    have hm5 : j % 5 < 5 := Nat.mod_lt _ (by omega)
    have hjj : j / 5 * 5 + j % 5 = j := by omega
    have q1 := flat_get ys (j / 5) (j % 5) _ h5 (vals_get _ hm5)
    rw [hjj, hu] at q1
    injection q1 with q1
    have := (hK j (by rw [size_flatK]; simpa using hj)).1
    rw [flatK_get ys j hj, Nat.zero_add] at this
    rw [q1]
    exact this
  · by_cases hj5 : j < ys.length * 5
    · have := hK j (by rw [size_flatK]; simpa using hj5)
      rw [Nat.zero_add] at this
      exact ⟨by rw [this.1]; rfl, this.2⟩
    · obtain ⟨q1, q2⟩ := hroom j hj
      have hgw : g < (putRowK PinD.vals 5 (Sort.ahead w m) g 0 ys.toArray).heap.size := by simp [putRowK]; exact hg
      unfold sortWorldK
      rw [cell?_grow _ _ ⟨g, j, none⟩ hgw, frozen?_grow _ _ ⟨g, j, none⟩ hgw]
      unfold putRowK
      rw [frozen?_putRow, cell?_putRow_other _ _ _ _ _ ⟨g, j, none⟩ (.inr (.inr (by rw [size_flatK]; simp; omega)))]
      exact ⟨q1, q2⟩

theorem cmpPin_any (p q : PinD) (W : World) : Calls Tryz.prog 196 #[P5 p, P5 q] W fun e w' => e = .returned (.int .i64 (Lib.compareBytes p.nm q.nm)) ∧ ∃ n os', w' = grow (W.drewN n) os' := by
  have hcon : ∀ W', Calls Tryz.prog 197 #[.string p.n, .string q.n] W' fun e w' => e = .returned (.int .i64 (Lib.compareBytes p.nm q.nm)) ∧ w' = W' := fun W' => Any.strings_Compare lays106 p.n q.n W'
  generalize Lib.compareBytes p.nm q.nm = r at hcon ⊢
  go_enter Tryz.func196, Tryz.ntmps196
  go_wp2_with fail
  refine (hcon _).mono ?_
  rintro e w' ⟨rfl, rfl⟩
  go_wp2_with fail
  go_ret
  exact ⟨rfl, 0, _, by rw [alloc_eq_grow, alloc_eq_grow, grow_grow]; rfl⟩
def cfP (p q : PinD) : Int := Lib.compareBytes p.nm q.nm
theorem ltOf_cfP (p q : PinD) : ltOf cfP p q = nlt p.nm q.nm := cmp_lt p.nm q.nm
theorem swo_cfP : SWO (ltOf cfP) where
  irrefl x := by rw [ltOf_cfP]; exact nlt_irrefl _
  trans x y z h1 h2 := by rw [ltOf_cfP] at *; exact nlt_trans h1 h2
  ntrans x y z h1 h2 := by
    rw [ltOf_cfP] at *
    cases h : nlt x.nm z.nm
    · rfl
    · by_cases e : x.nm = y.nm
      · rw [e, h2] at h; cases h
      · have h3 := nlt_trans (nlt_total h1 e) h
        rw [h2] at h3
        cases h3
theorem sortFunc_any (blk cap : Nat) (xs : List PinD) (w : World) (hH : HoldsK PinD.vals 5 w blk 0 xs.toArray) (hb : blk < w.heap.size) (h12 : xs.length ≤ 12) :
    Calls Tryz.prog 235 #[.slice (some ⟨blk, 0, none⟩) xs.length cap, .func (.func 196) #[] #[]] w fun e w' =>
      e = .returned (.tuple #[]) ∧ ∃ (ys : List PinD) (n : Nat) (os : Array Obj), ys.Perm xs ∧ ys.Pairwise (fun p q => nlt q.nm p.nm = false) ∧ w' = sortWorldK PinD.vals 5 w blk 0 n ys.toArray os := by
  have eg : ∀ args w, (callFunc 196 args).run Tryz.prog w = .ok (.enter 196 args) w := enters_of Tryz.func196 (by kernel_rfl) rfl
  have hlen : ∀ (n : Nat) (W : World), n ≤ 12 → Calls Tryz.prog 261 #[.int .u64 n] W fun e w' => (∃ l : Int, e = .returned (.int .i64 l)) ∧ w' = W := fun n W h => (Any.bits_Len lays125 n W (by omega) (by omega)).mono fun _ _ ⟨he, hw⟩ => ⟨⟨_, he⟩, hw⟩
  have hcon := AnyQ.slices_SortFunc_small_sorted laysSort 5 Tryz.isAgg31 Tryz.sizeOf31 PinD.vals (fun _ => rfl) pin_oneCell cfP 196 #[] swo_cfP blk 0 cap xs.toArray w eg (fun _ _ _ _ x y => cmpPin_any x y _) hH hb (by simpa using h12) hlen
  simp only [List.size_toArray] at hcon
  refine Calls.mono (show Calls Tryz.prog 235 _ _ _ from hcon) ?_
  rintro e w' ⟨rfl, d', n, os, ⟨p1, p2, p3⟩, hs, rfl⟩
  refine ⟨rfl, d'.toList, n, os, ?_, ?_, by simp⟩
  · have e1 : d'.extract 0 xs.length = d' := by rw [Array.extract_eq_self_iff]; right; exact ⟨rfl, by simp at p1; omega⟩
    rw [e1] at p3
    simpa using p3
  · rw [List.pairwise_iff_getElem]
    intro i j hi hj hij
    have := hs i j (Nat.zero_le _) hij (by simp at p1 hj; omega)
    rw [ltOf_cfP] at this
    simp at hi hj
    simpa [hi, hj] using this

theorem OwnP.some' {w : World} {B : Nat} {v : Value} {xs : List PinD} (h : OwnP w B v xs) (hx : 0 < xs.length) : ∃ g c, v = .slice (some ⟨g, 0, none⟩) xs.length c ∧ B ≤ g ∧ g < w.heap.size := by
  rcases h.2 with ⟨e, h0⟩ | ⟨g, c, e, hB, hg, _⟩
  · omega
  · exact ⟨g, c, e, hB, hg⟩
theorem rise_of {xs ys ps : List PinD} (hp : ys.Perm ps) (ha : Apart ps) (h : ys.Pairwise (fun p q => nlt q.nm p.nm = false)) : Rise ys := by
  have ha' : Apart ys := (hp.symm.pairwise_iff (fun {a b} (h : a.nm ≠ b.nm) => h.symm)).1 ha
  exact (ha'.and h).imp fun ⟨h1, h2⟩ => nlt_total h2 (fun e => h1 e.symm)
/-- A new slice of the pins of ps in rising order was answered. -/
def Sorted (ps : List PinD) (w : World) (e : Ending) (w' : World) : Prop := ∃ g c ys, e = .returned (.slice (some ⟨g, 0, none⟩) ys.length c) ∧ ys.Perm ps ∧ Rise ys ∧ OwnP w' w.heap.size (.slice (some ⟨g, 0, none⟩) ys.length c) ys ∧ Below w.heap.size w w'
theorem sortedFunc_any (b Bm : Nat) (ps : List PinD) (w : World) (hBm : Bm < w.heap.size) (cm : w.cell? ⟨Bm, 0, none⟩ = some (.map (some b))) (hM : PMap w b ps) (hl : ps.length ≤ 12) (h0 : 0 < ps.length) :
    Calls Tryz.prog 194 #[.func (.func 236) #[] #[.pointer (some ⟨Bm, 0, none⟩)], .func (.func 196) #[] #[]] w (Sorted ps w) := by
  have ha := hM.apart
  have S := collect_any b Bm ps w hBm cm hM (by omega)
  clear hM cm
  go_enter Tryz.func194, Tryz.ntmps194
  go_wp2_with fail
  refine S.mono ?_
  rintro r u1 ⟨v, xs, rfl, hp, hO, b1⟩
  have hlx := hp.length_eq
  obtain ⟨g, c, rfl, hg0, hg1⟩ := hO.some' (by omega)
  have T := sortFunc_any g c xs u1 hO.holds hg1 (by omega)
  have HO := Lib.hid hO
  have HP := Lib.hid hp
  clear hO S hlx hp
  go_wp2_with fail
  refine T.mono ?_
  rintro r u2 ⟨rfl, ys, n, os, hq, hs, hw⟩
  have hl2 : xs.length = ys.length := hq.length_eq.symm
  have O2 : OwnP u2 w.heap.size (.slice (some ⟨g, 0, none⟩) xs.length c) ys := by
    rw [hw]
    exact HO.out.sorted (m := n) (os := os) (ys := ys) hq.length_eq
  have b2 : RowKit.Below w.heap.size w u2 := by
    rw [hw]
    exact b1.grown (grownBy_sortK (w := u1) (g := g) (m := n) (os := os) ys.toArray) b1.size (fun k e => by injection e with e; subst e; exact hg0)
  have H : Sorted ps w (.returned (.slice (some ⟨g, 0, none⟩) xs.length c)) u2 := ⟨g, c, ys, by rw [hl2], hq.trans HP.out, rise_of (xs := xs) (hq.trans HP.out) ha hs, by rw [← hl2]; exact O2, b2⟩
  have HH := Lib.hid H
  clear O2 b2 hs T HO hw H hq hl2
  go_wp2_with fail
  go_ret
  exact HH.out
theorem risingPins_any (b : Nat) (ps : List PinD) (w : World) (hM : PMap w b ps) (hl : ps.length ≤ 12) (h0 : 0 < ps.length) :
    Calls Tryz.prog 139 #[.map (some b)] w (Sorted ps w) := by
  have b0 := bal (Below.refl _ w) (.cells #[.map (some b)] 134)
  have X0 := (At.new w [.map (some b)] 134).cell 0 _ rfl
  have S := sortedFunc_any b w.heap.size ps _ (by simp) X0 (hM.alloc _) hl h0
  clear X0 hM
  go_enter Tryz.func139, Tryz.ntmps139
  go_wp2_with fail
  refine (values_any b _).mono ?_
  rintro r u1 ⟨rfl, rfl⟩
  go_wp2_with fail
  refine S.mono ?_
  rintro r u2 ⟨g, c, ys, rfl, hp, hr, hO, b2⟩
  have bb := btr b0 b2
  have hO2 := hO.less b0.size
  have H := Lib.hid (show Sorted ps w (.returned (.slice (some ⟨g, 0, none⟩) ys.length c)) u2 from ⟨g, c, ys, rfl, hp, hr, hO2, bb⟩)
  clear hO hO2 hr b2 bb
  go_wp2_with fail
  go_ret
  exact H.out
end Go.Proofs.YtcolecidbalmhaaGreatDoor
namespace Go.Proofs.YtcolecidbalmhaaGreatDoor
open Go.RowKit
set_option maxRecDepth 100000
set_option linter.unusedVariables false

/-- A code and a new slice of pins were answered. -/
def PinsRes (c : Int) (ps : List PinD) (w : World) (e : Ending) (w' : World) : Prop := ∃ a n cap, e = .returned (.agg #[.int .i64 c, .slice a n cap]) ∧ OwnP w' w.heap.size (.slice a n cap) ps ∧ Below w.heap.size w w'
theorem At.turned {g b : Nat} {cs : List Value} {w w' : World} (h : At g cs w) (ht : w.mapTurned w' b) (hne : g ≠ b) : At g cs w' := h.kept ht.grown (fun e => by injection e with e; exact hne e)
theorem putC_list {ps : List PinD} {p : PinD} (h : pinsF ps ≠ 0) : putC ps p = pinsF ps ∧ putR ps p = [] := by
  have e : putC ps p = pinsF ps := by unfold putC; rw [if_pos h]
  exact ⟨e, by unfold putR; rw [e, if_neg h]⟩
theorem putC_pin {ps : List PinD} {p : PinD} (h0 : pinsF ps = 0) (h : p.f ≠ 0) : putC ps p = p.f ∧ putR ps p = [] := by
  have e : putC ps p = p.f := by unfold putC; rw [if_neg (fun h => h h0), if_pos h]
  exact ⟨e, by unfold putR; rw [e, if_neg h]⟩
theorem putC_old {ps : List PinD} {p q : PinD} (h0 : pinsF ps = 0) (h1 : p.f = 0) (hq : findP ps p.nm = some q) (h : p.e ≤ q.e) : putC ps p = 11 ∧ putR ps p = [] := by
  have e : putC ps p = 11 := by unfold putC; rw [if_neg (fun h => h h0), if_neg (fun h => h h1), hq]; simp only; rw [if_pos h]
  exact ⟨e, by unfold putR; rw [e, if_neg (by decide)]⟩
theorem putC_young {ps : List PinD} {p q : PinD} (h0 : pinsF ps = 0) (h1 : p.f = 0) (hq : findP ps p.nm = some q) (h : ¬ p.e ≤ q.e) : putC ps p = 0 ∧ putR ps p = putL ps p := by
  have e : putC ps p = 0 := by unfold putC; rw [if_neg (fun h => h h0), if_neg (fun h => h h1), hq]; simp only; rw [if_neg h]
  exact ⟨e, by unfold putR; rw [if_pos e]⟩
theorem putC_full {ps : List PinD} {p : PinD} (h0 : pinsF ps = 0) (h1 : p.f = 0) (hq : findP ps p.nm = none) (h : ps.length = 4) : putC ps p = 7 ∧ putR ps p = [] := by
  have e : putC ps p = 7 := by unfold putC; rw [if_neg (fun h => h h0), if_neg (fun h => h h1), hq]; simp only; rw [if_pos h]
  exact ⟨e, by unfold putR; rw [e, if_neg (by decide)]⟩
theorem putC_new {ps : List PinD} {p : PinD} (h0 : pinsF ps = 0) (h1 : p.f = 0) (hq : findP ps p.nm = none) (h : ps.length ≠ 4) : putC ps p = 0 ∧ putR ps p = putL ps p := by
  have e : putC ps p = 0 := by unfold putC; rw [if_neg (fun h => h h0), if_neg (fun h => h h1), hq]; simp only; rw [if_neg h]
  exact ⟨e, by unfold putR; rw [if_pos e]⟩
abbrev Others (ps : List PinD) (p : PinD) : List PinD := ps.filter fun q => !decide (q.nm = p.nm)
theorem others_ne {ps : List PinD} {p : PinD} : ∀ q ∈ Others ps p, q.nm ≠ p.nm := by
  intro q hq
  have := (List.mem_filter.1 hq).2
  simpa using this
theorem others_none {ps : List PinD} {p : PinD} (h : findP ps p.nm = none) : Others ps p = ps := List.filter_eq_self.2 fun q hq => by simpa using findP_none h q hq
theorem others_lt {ps : List PinD} {p q : PinD} (h : findP ps p.nm = some q) : (Others ps p).length < ps.length := by
  obtain ⟨h1, h2⟩ := findP_mem h
  have h3 := List.length_filter_le (fun q => !decide (q.nm = p.nm)) ps
  have h4 : (Others ps p).length ≠ ps.length := fun e => by
    have := (List.length_filter_eq_length_iff.1 e) q h1
    simp [h2] at this
  have : (Others ps p).length ≤ ps.length := h3
  omega
/-- What is left, and the pin, in rising order: just what the model makes. -/
theorem put_eq {ps ys : List PinD} {p : PinD} (hr : Rise ps) (hp : ys.Perm (Others ps p ++ [p])) (hy : Rise ys) : ys = putL ps p := by
  refine rise_eq ?_ hy (putL_rise p hr)
  exact hp.trans ((List.perm_append_singleton p (Others ps p)).trans (putG_perm p ps).symm)

theorem implPutPin_any (a : Option Addr) (len cap B : Nat) (ps : List PinD) (p : PinD) (w : World) (hR : PRow w B a len cap ps) (hB : B ≤ w.heap.size) (hn : p.n.size ≤ maxLen) :
    Calls Tryz.prog 72 #[.slice a len cap, P5 p] w (PinsRes (putC ps p) (putR ps p) w) := by
  have hL := Lib.hid hR.length
  have b0 := bal (bal (Below.refl _ w) (.cells #[.string p.n, .int .i64 p.a, .int .i64 p.b, .int .i64 p.e, .int .i64 p.u] 31)) (.cells #[.int .i64 0, .slice none 0 0] 120)
  have A1 : At w.heap.size p.vals ((w.alloc (.cells #[.string p.n, .int .i64 p.a, .int .i64 p.b, .int .i64 p.e, .int .i64 p.u] 31)).alloc (.cells #[.int .i64 0, .slice none 0 0] 120)) := (At.new w p.vals 31).alloc _
  have A2 := At.new (w.alloc (.cells #[.string p.n, .int .i64 p.a, .int .i64 p.b, .int .i64 p.e, .int .i64 p.u] 31)) [.int .i64 0, .slice none 0 0] 120
  rw [show (w.alloc (.cells #[.string p.n, .int .i64 p.a, .int .i64 p.b, .int .i64 p.e, .int .i64 p.u] 31)).heap.size = w.heap.size + 1 by simp] at A2
  have F := implPinsFault_any a len cap B ps _ (hR.below (b0.mono hB)) (Nat.le_trans hB b0.size)
  by_cases h0 : pinsF ps = 0
  case neg =>
    rw [(putC_list h0).1, (putC_list h0).2]
    generalize pinsF ps = c at *
    clear hR
    go_enter Tryz.func72, Tryz.ntmps72
    go_wp2_with fail
    generalize (w.alloc (.cells #[.string p.n, .int .i64 p.a, .int .i64 p.b, .int .i64 p.e, .int .i64 p.u] 31)).alloc (.cells #[.int .i64 0, .slice none 0 0] 120) = W0 at *
    refine F.mono ?_
    rintro r u1 ⟨rfl, b1⟩
    have q0 := (A2.on b1).cell 0 _ rfl
    have q1 := (A2.on b1).cell 1 _ rfl
    have z0 := (A2.on b1).free 0 _ rfl
    have z1 := (A2.on b1).free 1 _ rfl
    have B1 := btr b0 b1
    clear A1 A2 b0 b1 F
    go_wp2_with fail
    refine bodyPost_ret (v := .agg #[.int .i64 c, .slice none 0 0]) (by simp [results, Tryz.results72, go_sem, q0, q1]) rfl ⟨none, 0, 0, rfl, OwnP.nil _ _, ?_⟩
    exact (by (iterate 2 (refine bset ?_ (by dsimp only; omega) _)); exact B1)
  rw [h0] at F
  have F2 := fun w => implPinFault_any p w hn
  by_cases h1 : p.f = 0
  case neg =>
    rw [(putC_pin h0 h1).1, (putC_pin h0 h1).2]
    clear hR
    go_enter Tryz.func72, Tryz.ntmps72
    go_wp2_with fail
    generalize (w.alloc (.cells #[.string p.n, .int .i64 p.a, .int .i64 p.b, .int .i64 p.e, .int .i64 p.u] 31)).alloc (.cells #[.int .i64 0, .slice none 0 0] 120) = W0 at *
    refine F.mono ?_
    rintro r u1 ⟨rfl, b1⟩
    have x0 := (A1.on b1).cell 0 _ rfl
    have x1 := (A1.on b1).cell 1 _ rfl
    have x2 := (A1.on b1).cell 2 _ rfl
    have x3 := (A1.on b1).cell 3 _ rfl
    have x4 := (A1.on b1).cell 4 _ rfl
    go_wp2_with fail
    refine (F2 _).mono ?_
    rintro r u2 ⟨rfl, b2⟩
    have bb := btr b1 b2
    have q0 := (A2.on bb).cell 0 _ rfl
    have q1 := (A2.on bb).cell 1 _ rfl
    have z0 := (A2.on bb).free 0 _ rfl
    have z1 := (A2.on bb).free 1 _ rfl
    have B1 := btr b0 bb
    clear A1 A2 b0 b1 b2 bb F F2 x0 x1 x2 x3 x4
    go_wp2_with fail
    refine bodyPost_ret (v := .agg #[.int .i64 p.f, .slice none 0 0]) (by simp [results, Tryz.results72, go_sem, q0, q1]) rfl ⟨none, 0, 0, rfl, OwnP.nil _ _, ?_⟩
    exact (by (iterate 2 (refine bset ?_ (by dsimp only; omega) _)); exact B1)
  rw [h1] at F2
  obtain ⟨hl4, hgood, hrise⟩ := pinsF_zero h0
  have LK := Lib.hid (fun (w : World) (b : Nat) (h : PMap w b ps) => h.look (s := p.n) hn)
  have BN := Lib.hid (fun (w1 : World) (h : Below w.heap.size w w1) => pinsByName_any a len cap B ps w1 (hR.below (h.mono hB)) (Nat.le_trans hB h.size) (by have := hL.out; omega) hrise.apart)
  clear hR
  cases hf : findP ps p.nm with
  | none =>
    have hf2 : findP ps p.n.data.toList = none := hf
    simp only [hf2] at LK
    by_cases h4 : ps.length = 4
    · rw [(putC_full h0 h1 hf h4).1, (putC_full h0 h1 hf h4).2]
      have ho : (Others ps p).length = 4 := by rw [others_none hf]; exact h4
      go_enter Tryz.func72, Tryz.ntmps72
      go_wp2_with fail
      generalize (w.alloc (.cells #[.string p.n, .int .i64 p.a, .int .i64 p.b, .int .i64 p.e, .int .i64 p.u] 31)).alloc (.cells #[.int .i64 0, .slice none 0 0] 120) = W0 at *
      refine F.mono ?_
      rintro r u1 ⟨rfl, b1⟩
      have x0 := (A1.on b1).cell 0 _ rfl
      have x1 := (A1.on b1).cell 1 _ rfl
      have x2 := (A1.on b1).cell 2 _ rfl
      have x3 := (A1.on b1).cell 3 _ rfl
      have x4 := (A1.on b1).cell 4 _ rfl
      go_wp2_with fail
      refine (F2 _).mono ?_
      rintro r u2 ⟨rfl, b2⟩
      have B0 := btr b0 (btr b1 b2)
      go_wp2_with fail
      refine (BN.out _ B0).mono ?_
      rintro r u3 ⟨rfl, M3, b3⟩
      have bb := btr b1 (btr b2 b3)
      have B3 := btr B0 b3
      have lk := LK.out _ _ M3
      have A13 := A1.on bb
      have A23 := A2.on bb
      have lt2 := (A2.on (btr b1 b2)).lt (by simp)
      have lt3 := M3.lt
      have ltp : w.heap.size < u3.heap.size := by omega
      have ltr : w.heap.size + 1 < u3.heap.size := by omega
      have y0 := A13.cell 0 _ rfl
      have y1 := A13.cell 1 _ rfl
      have y2 := A13.cell 2 _ rfl
      have y3 := A13.cell 3 _ rfl
      have y4 := A13.cell 4 _ rfl
      have q0 := A23.cell 0 _ rfl
      have q1 := A23.cell 1 _ rfl
      have z0 := A23.free 0 _ rfl
      have z1 := A23.free 1 _ rfl
      have B1 := B3
      clear x0 x1 x2 x3 x4 A1 A2 b0 b1 b2 b3 F F2 BN LK B0 bb
      have Mb := M3.alloc (.cells #[.string pin0.n, .int .i64 pin0.a, .int .i64 pin0.b, .int .i64 pin0.e, .int .i64 pin0.u] 31)
      obtain ⟨w4, hdel, M4', tn4⟩ := Mb.drop (s := p.n) hn 0
      have M4 : PMap w4 u2.heap.size (Others ps p) := M4'
      have B4 := turned_below tn4 (bal B3 _) (by omega)
      have A14 := (A13.alloc (.cells #[.string pin0.n, .int .i64 pin0.a, .int .i64 pin0.b, .int .i64 pin0.e, .int .i64 pin0.u] 31)).turned tn4 (by omega)
      have A24 := (A23.alloc (.cells #[.string pin0.n, .int .i64 pin0.a, .int .i64 pin0.b, .int .i64 pin0.e, .int .i64 pin0.u] 31)).turned tn4 (by omega)
      have hlen := fun ty => M4.len ty
      clear Mb M3 M4' A13 A23 B3 B1 tn4 q0 q1 z0 z1
      rw [ho] at hlen
      have B1 := B4
      have q0 := A24.cell 0 _ rfl
      have q1 := A24.cell 1 _ rfl
      have z0 := A24.free 0 _ rfl
      have z1 := A24.free 1 _ rfl
      go_wp2_with fail
      refine bodyPost_ret (v := .agg #[.int .i64 7, .slice none 0 0]) (by simp [results, Tryz.results72, go_sem, q0, q1]) rfl ⟨none, 0, 0, rfl, OwnP.nil _ _, ?_⟩
      exact (by (iterate 2 (refine bset ?_ (by dsimp only; omega) _)); exact B1)
    · rw [(putC_new h0 h1 hf h4).1, (putC_new h0 h1 hf h4).2]
      have ho4 : ¬ (((Others ps p).length : Nat) : Int) = 4 := by rw [others_none hf]; omega
      have ho5 : (Others ps p).length ≤ 4 := by rw [others_none hf]; omega
      go_enter Tryz.func72, Tryz.ntmps72
      go_wp2_with fail
      generalize (w.alloc (.cells #[.string p.n, .int .i64 p.a, .int .i64 p.b, .int .i64 p.e, .int .i64 p.u] 31)).alloc (.cells #[.int .i64 0, .slice none 0 0] 120) = W0 at *
      refine F.mono ?_
      rintro r u1 ⟨rfl, b1⟩
      have x0 := (A1.on b1).cell 0 _ rfl
      have x1 := (A1.on b1).cell 1 _ rfl
      have x2 := (A1.on b1).cell 2 _ rfl
      have x3 := (A1.on b1).cell 3 _ rfl
      have x4 := (A1.on b1).cell 4 _ rfl
      go_wp2_with fail
      refine (F2 _).mono ?_
      rintro r u2 ⟨rfl, b2⟩
      have B0 := btr b0 (btr b1 b2)
      go_wp2_with fail
      refine (BN.out _ B0).mono ?_
      rintro r u3 ⟨rfl, M3, b3⟩
      have bb := btr b1 (btr b2 b3)
      have B3 := btr B0 b3
      have lk := LK.out _ _ M3
      have A13 := A1.on bb
      have A23 := A2.on bb
      have lt2 := (A2.on (btr b1 b2)).lt (by simp)
      have lt3 := M3.lt
      have ltp : w.heap.size < u3.heap.size := by omega
      have ltr : w.heap.size + 1 < u3.heap.size := by omega
      have y0 := A13.cell 0 _ rfl
      have y1 := A13.cell 1 _ rfl
      have y2 := A13.cell 2 _ rfl
      have y3 := A13.cell 3 _ rfl
      have y4 := A13.cell 4 _ rfl
      have q0 := A23.cell 0 _ rfl
      have q1 := A23.cell 1 _ rfl
      have z0 := A23.free 0 _ rfl
      have z1 := A23.free 1 _ rfl
      have B1 := B3
      clear x0 x1 x2 x3 x4 A1 A2 b0 b1 b2 b3 F F2 BN LK B0 bb
      have Mb := M3.alloc (.cells #[.string pin0.n, .int .i64 pin0.a, .int .i64 pin0.b, .int .i64 pin0.e, .int .i64 pin0.u] 31)
      obtain ⟨w4, hdel, M4', tn4⟩ := Mb.drop (s := p.n) hn 0
      have M4 : PMap w4 u2.heap.size (Others ps p) := M4'
      have B4 := turned_below tn4 (bal B3 _) (by omega)
      have A14 := (A13.alloc (.cells #[.string pin0.n, .int .i64 pin0.a, .int .i64 pin0.b, .int .i64 pin0.e, .int .i64 pin0.u] 31)).turned tn4 (by omega)
      have A24 := (A23.alloc (.cells #[.string pin0.n, .int .i64 pin0.a, .int .i64 pin0.b, .int .i64 pin0.e, .int .i64 pin0.u] 31)).turned tn4 (by omega)
      have hlen := fun ty => M4.len ty
      clear Mb M3 M4' A13 A23 B3 B1 tn4 q0 q1 z0 z1
      obtain ⟨w5, hst, M5, tn5⟩ := M4.store (p := p) (by omega) hn others_ne
      have B5 := turned_below tn5 B4 (by omega)
      have A25 := A24.turned tn5 (by omega)
      have lt5 := A25.lt (by simp)
      have x0 := A14.cell 0 _ rfl
      have x1 := A14.cell 1 _ rfl
      have x2 := A14.cell 2 _ rfl
      have x3 := A14.cell 3 _ rfl
      have x4 := A14.cell 4 _ rfl
      have RP := risingPins_any _ _ _ M5 (by simp; omega) (by simp)
      have hob : (((Others ps p).length : Int) == 4) = false := by simpa using ho4
      generalize (Others ps p).length = n4 at *
      clear A14 A24 M4 tn5 B4 M5
      go_wp2_with fail
      refine RP.mono ?_
      rintro r u6 ⟨g, c, ys, rfl, hp, hr, hO, b6⟩
      have hys := put_eq hrise hp hr
      have A26 := A25.on b6
      have q0 := A26.cell 0 _ rfl
      have q1 := A26.cell 1 _ rfl
      have z0 := A26.free 0 _ rfl
      have z1 := A26.free 1 _ rfl
      have hgl := (Own.lt hO g rfl)
      have B1 := btr B5 b6
      have O6 := Lib.hid (hO.less B5.size)
      have HY := Lib.hid hys
      have hne : w.heap.size + 1 ≠ g := by omega
      clear hO hp hr hys A25 A26 b6 B5 RP
      go_wp2_with fail
      refine bodyPost_ret (v := .agg #[.int .i64 0, .slice (some ⟨g, 0, none⟩) ys.length c]) (by simp [results, Tryz.results72, go_sem, q0, q1]) rfl ⟨_, _, c, rfl, ?_, (by (iterate 2 (refine bset ?_ (by dsimp only; omega) _)); exact B1)⟩
      rw [← HY.out]
      refine Own.setCell (Own.setCell O6.out (fun k hk e => ?_) _) (fun k hk e => ?_) _
      · simp [Value.ownBlock] at hk; dsimp only at e; omega
      · simp [Value.ownBlock] at hk; dsimp only at e; omega
  | some q =>
    have hf2 : findP ps p.n.data.toList = some q := hf
    simp only [hf2] at LK
    by_cases he : p.e ≤ q.e
    · rw [(putC_old h0 h1 hf he).1, (putC_old h0 h1 hf he).2]
      go_enter Tryz.func72, Tryz.ntmps72
      go_wp2_with fail
      generalize (w.alloc (.cells #[.string p.n, .int .i64 p.a, .int .i64 p.b, .int .i64 p.e, .int .i64 p.u] 31)).alloc (.cells #[.int .i64 0, .slice none 0 0] 120) = W0 at *
      refine F.mono ?_
      rintro r u1 ⟨rfl, b1⟩
      have x0 := (A1.on b1).cell 0 _ rfl
      have x1 := (A1.on b1).cell 1 _ rfl
      have x2 := (A1.on b1).cell 2 _ rfl
      have x3 := (A1.on b1).cell 3 _ rfl
      have x4 := (A1.on b1).cell 4 _ rfl
      go_wp2_with fail
      refine (F2 _).mono ?_
      rintro r u2 ⟨rfl, b2⟩
      have B0 := btr b0 (btr b1 b2)
      go_wp2_with fail
      refine (BN.out _ B0).mono ?_
      rintro r u3 ⟨rfl, M3, b3⟩
      have bb := btr b1 (btr b2 b3)
      have B3 := btr B0 b3
      have lk := LK.out _ _ M3
      have A13 := A1.on bb
      have A23 := A2.on bb
      have lt2 := (A2.on (btr b1 b2)).lt (by simp)
      have lt3 := M3.lt
      have ltp : w.heap.size < u3.heap.size := by omega
      have ltr : w.heap.size + 1 < u3.heap.size := by omega
      have y0 := A13.cell 0 _ rfl
      have y1 := A13.cell 1 _ rfl
      have y2 := A13.cell 2 _ rfl
      have y3 := A13.cell 3 _ rfl
      have y4 := A13.cell 4 _ rfl
      have q0 := A23.cell 0 _ rfl
      have q1 := A23.cell 1 _ rfl
      have z0 := A23.free 0 _ rfl
      have z1 := A23.free 1 _ rfl
      have B1 := B3
      clear x0 x1 x2 x3 x4 A1 A2 b0 b1 b2 b3 F F2 BN LK B0 bb
      go_wp2_with fail
      refine bodyPost_ret (v := .agg #[.int .i64 11, .slice none 0 0]) (by simp [results, Tryz.results72, go_sem, q0, q1, ltr]) rfl ⟨none, 0, 0, rfl, OwnP.nil _ _, ?_⟩
      exact bal (by (iterate 2 (refine bset ?_ (by dsimp only; omega) _)); exact B1) _
    · rw [(putC_young h0 h1 hf he).1, (putC_young h0 h1 hf he).2]
      have ho := others_lt hf
      have ho4 : ¬ (((Others ps p).length : Nat) : Int) = 4 := by omega
      have ho5 : (Others ps p).length ≤ 4 := by omega
      go_enter Tryz.func72, Tryz.ntmps72
      go_wp2_with fail
      generalize (w.alloc (.cells #[.string p.n, .int .i64 p.a, .int .i64 p.b, .int .i64 p.e, .int .i64 p.u] 31)).alloc (.cells #[.int .i64 0, .slice none 0 0] 120) = W0 at *
      refine F.mono ?_
      rintro r u1 ⟨rfl, b1⟩
      have x0 := (A1.on b1).cell 0 _ rfl
      have x1 := (A1.on b1).cell 1 _ rfl
      have x2 := (A1.on b1).cell 2 _ rfl
      have x3 := (A1.on b1).cell 3 _ rfl
      have x4 := (A1.on b1).cell 4 _ rfl
      go_wp2_with fail
      refine (F2 _).mono ?_
      rintro r u2 ⟨rfl, b2⟩
      have B0 := btr b0 (btr b1 b2)
      go_wp2_with fail
      refine (BN.out _ B0).mono ?_
      rintro r u3 ⟨rfl, M3, b3⟩
      have bb := btr b1 (btr b2 b3)
      have B3 := btr B0 b3
      have lk := LK.out _ _ M3
      have A13 := A1.on bb
      have A23 := A2.on bb
      have lt2 := (A2.on (btr b1 b2)).lt (by simp)
      have lt3 := M3.lt
      have ltp : w.heap.size < u3.heap.size := by omega
      have ltr : w.heap.size + 1 < u3.heap.size := by omega
      have y0 := A13.cell 0 _ rfl
      have y1 := A13.cell 1 _ rfl
      have y2 := A13.cell 2 _ rfl
      have y3 := A13.cell 3 _ rfl
      have y4 := A13.cell 4 _ rfl
      have q0 := A23.cell 0 _ rfl
      have q1 := A23.cell 1 _ rfl
      have z0 := A23.free 0 _ rfl
      have z1 := A23.free 1 _ rfl
      have B1 := B3
      clear x0 x1 x2 x3 x4 A1 A2 b0 b1 b2 b3 F F2 BN LK B0 bb
      have Mb := M3.alloc (.cells #[.string q.n, .int .i64 q.a, .int .i64 q.b, .int .i64 q.e, .int .i64 q.u] 31)
      obtain ⟨w4, hdel, M4', tn4⟩ := Mb.drop (s := p.n) hn 0
      have M4 : PMap w4 u2.heap.size (Others ps p) := M4'
      have B4 := turned_below tn4 (bal B3 _) (by omega)
      have A14 := (A13.alloc (.cells #[.string q.n, .int .i64 q.a, .int .i64 q.b, .int .i64 q.e, .int .i64 q.u] 31)).turned tn4 (by omega)
      have A24 := (A23.alloc (.cells #[.string q.n, .int .i64 q.a, .int .i64 q.b, .int .i64 q.e, .int .i64 q.u] 31)).turned tn4 (by omega)
      have hlen := fun ty => M4.len ty
      clear Mb M3 M4' A13 A23 B3 B1 tn4 q0 q1 z0 z1
      obtain ⟨w5, hst, M5, tn5⟩ := M4.store (p := p) (by omega) hn others_ne
      have B5 := turned_below tn5 B4 (by omega)
      have A25 := A24.turned tn5 (by omega)
      have lt5 := A25.lt (by simp)
      have x0 := A14.cell 0 _ rfl
      have x1 := A14.cell 1 _ rfl
      have x2 := A14.cell 2 _ rfl
      have x3 := A14.cell 3 _ rfl
      have x4 := A14.cell 4 _ rfl
      have RP := risingPins_any _ _ _ M5 (by simp; omega) (by simp)
      have hob : (((Others ps p).length : Int) == 4) = false := by simpa using ho4
      generalize (Others ps p).length = n4 at *
      clear A14 A24 M4 tn5 B4 M5
      go_wp2_with fail
      refine RP.mono ?_
      rintro r u6 ⟨g, c, ys, rfl, hp, hr, hO, b6⟩
      have hys := put_eq hrise hp hr
      have A26 := A25.on b6
      have q0 := A26.cell 0 _ rfl
      have q1 := A26.cell 1 _ rfl
      have z0 := A26.free 0 _ rfl
      have z1 := A26.free 1 _ rfl
      have hgl := (Own.lt hO g rfl)
      have B1 := btr B5 b6
      have O6 := Lib.hid (hO.less B5.size)
      have HY := Lib.hid hys
      have hne : w.heap.size + 1 ≠ g := by omega
      clear hO hp hr hys A25 A26 b6 B5 RP
      go_wp2_with fail
      refine bodyPost_ret (v := .agg #[.int .i64 0, .slice (some ⟨g, 0, none⟩) ys.length c]) (by simp [results, Tryz.results72, go_sem, q0, q1]) rfl ⟨_, _, c, rfl, ?_, (by (iterate 2 (refine bset ?_ (by dsimp only; omega) _)); exact B1)⟩
      rw [← HY.out]
      refine Own.setCell (Own.setCell O6.out (fun k hk e => ?_) _) (fun k hk e => ?_) _
      · simp [Value.ownBlock] at hk; dsimp only at e; omega
      · simp [Value.ownBlock] at hk; dsimp only at e; omega
end Go.Proofs.YtcolecidbalmhaaGreatDoor
