/- Texts of this seat that several laws rest on, laid into one. Conditions: as each theorem states. -/
import Derived.Test.YtmdknbgpddnplaaGreatDoorS0
import Derived.Test.YtmdknbgpddnplaaGreatDoorS1
import Derived.Test.YtmdknbgpddnplaaGreatDoorS2
import Derived.Test.YtmdknbgpddnplaaGreatDoorS4
import Derived.Test.YtmdknbgpddnplaaGreatDoorS9
import Derived.Test.YtmdknbgpddnplaaGreatDoorS10
namespace Go.Proofs.YtmdknbgpddnplaaGreatDoor
open Go.RowKit
set_option maxRecDepth 100000

theorem Own.only {g : Nat} {w w' : World} {B size : Nat} {v : Value} {n : Nat} {xs : List Value} (h : Own w B size v n xs) (hO : Only g w w') (hg : g < B) : Own w' B size v n xs :=
  h.keep (by rw [hO.size]; exact Nat.le_refl _) fun k hk => hO.block k (by have := (h.lt k hk).1; omega)
theorem Only.grown {g : Nat} {w w' : World} (h : Only g w w') : w.grownBy w' (some g) := ⟨h.os, h.tape, h.output, by rw [h.size]; exact Nat.le_refl _, fun k _ hne => h.block k (fun e => hne (by rw [e]))⟩
section
variable {w0 : World} {a : Option Addr} {len cap : Nat} {zs : List Int} {p : Nat} {w w' : World}
theorem Draw.lt (h : Draw w0 a len cap zs p w) : w0.heap.size < w.heap.size := h.src.lt
theorem Draw.grown {row : Option Nat} (h : Draw w0 a len cap zs p w) (hg : w.grownBy w' row) (hr : ∀ k, row = some k → w0.heap.size < k) : Draw w0 a len cap zs p w' :=
  ⟨h.src.keep (hg.block _ h.lt (fun e => by have := hr _ e.symm; omega)),
   h.row.keep (fun i hi => hg.block i (by have := h.lt; omega) (fun e => by have := hr _ e.symm; omega)),
   h.bel.grown hg h.bel.size (fun k hk => by have := hr k hk; omega)⟩
end

/-- Bytes that were drawn, in new memory. -/
def DSome (w0 : World) (a : Option Addr) (len cap : Nat) (zs : List Int) (p n : Nat) (w : World) (r : Ending) (w' : World) : Prop :=
  ∃ a' c' zs', r = .returned (.slice a' n c') ∧ OwnK .u8 w' w.heap.size (.slice a' n c') zs' ∧ (∀ z ∈ zs', (Lit.int .u8 z).wf = true) ∧ Draw w0 a len cap zs (p + n) w' ∧ w.grownBy w' (some w0.heap.size)
structure SomeRel (w0 : World) (a : Option Addr) (len cap : Nat) (zs : List Int) (p : Nat) (w : World) (k : Nat) (v : Value) (wr : World) : Prop where
  own : ∃ zs', zs'.length = k ∧ OwnK .u8 wr w.heap.size v zs' ∧ ∀ z ∈ zs', (Lit.int .u8 z).wf = true
  draw : Draw w0 a len cap zs (p + k) wr
  grew : w.grownBy wr (some w0.heap.size)
theorem u8_wf {x : Int} (h0 : 0 ≤ x) (h1 : x < 256) : (Lit.int .u8 x).wf = true := byte_wf ⟨h0, by omega⟩

abbrev labS : List ByteArray := [{ data := #[107, 101, 121] }, { data := #[105, 118] }, { data := #[97] }, { data := #[] }, { data := #[116, 104, 105, 114, 116, 101, 101, 110, 99, 104, 97, 114, 115] }, { data := #[75] }, { data := #[116, 119, 101, 108, 118, 101, 99, 104, 97, 114, 115, 115] }]
theorem labS_size (k : Nat) : ((labS.getD k ByteArray.empty).size) ≤ 13 := by
  rcases Nat.lt_or_ge k 7 with h | h
  · have : ∀ j : Fin 7, ((labS.getD j.val ByteArray.empty).size) ≤ 13 := by decide
    exact this ⟨k, h⟩
  · have : labS.getD k ByteArray.empty = ByteArray.empty := by simp [List.getD, h]
    rw [this]; decide
def DLabel (w0 : World) (a : Option Addr) (len cap : Nat) (zs : List Int) (p : Nat) (w : World) (r : Ending) (w' : World) : Prop :=
  ∃ s : ByteArray, s.size ≤ 13 ∧ r = .returned (.string s) ∧ Draw w0 a len cap zs (p + 1) w' ∧ w.grownBy w' (some w0.heap.size)
def DrawnKL (w : World) (r : Ending) (w' : World) : Prop := ∃ (k : Int) (s : ByteArray), r = .returned (.tuple #[.int .i64 k, .string s]) ∧ s.size ≤ 13 ∧ Below w.heap.size w w'
def DrawnRow (w : World) (r : Ending) (w' : World) : Prop := ∃ a n c zs, r = .returned (.slice a n c) ∧ Row .u8 w' w'.heap.size a n c zs ∧ Below w.heap.size w w'
def DrawnGrid (w : World) (r : Ending) (w' : World) : Prop := ∃ a n c zss, r = .returned (.slice a n c) ∧ Grid w' w'.heap.size a n c zss ∧ Below w.heap.size w w'
def DrawnSI (w : World) (r : Ending) (w' : World) : Prop := ∃ (s : ByteArray) (a : Option Addr) (n c : Nat) (zs : List Int), r = .returned (.tuple #[.string s, .slice a n c]) ∧ s.size ≤ 13 ∧ Row .i64 w' w'.heap.size a n c zs ∧ Below w.heap.size w w'

end Go.Proofs.YtmdknbgpddnplaaGreatDoor
namespace Go.Proofs.YtmdknbgpddnplaaGreatDoor
open Go.RowKit
set_option maxRecDepth 100000
set_option linter.unusedVariables false

abbrev bentN : List ByteArray := [{ data := #[97, 46, 98] }, { data := #[65, 46, 66, 46] }, { data := #[109, 97, 105, 108, 46, 120] }, { data := #[45, 97] }, { data := #[97, 45] }, { data := #[97, 46, 46, 98] }, { data := #[46] }, { data := #[] }, { data := #[97, 95, 98] }, { data := #[97, 98, 99, 100, 101, 102, 103, 104, 105, 106, 46, 97, 98, 99, 100, 101, 102, 103, 104, 105] }, { data := #[97, 98, 99, 100, 101, 102, 103, 104, 105, 106, 46, 97, 98, 99, 100, 101, 102, 103, 104, 105, 106] }, { data := #[122, 46] }]
abbrev drawN : List ByteArray := [{ data := #[97, 46, 98] }, { data := #[109, 97, 105, 108, 46, 120] }, { data := #[104, 111, 115, 116, 45, 49] }, { data := #[122] }]
theorem bentN_size (k : Nat) : ((bentN.getD k ByteArray.empty).size) ≤ 21 := by
  rcases Nat.lt_or_ge k 12 with h | h
  · have : ∀ j : Fin 12, ((bentN.getD j.val ByteArray.empty).size) ≤ 21 := by decide
    exact this ⟨k, h⟩
  · have : bentN.getD k ByteArray.empty = ByteArray.empty := by simp [List.getD, h]
    rw [this]; decide
theorem drawN_size (k : Nat) : ((drawN.getD k ByteArray.empty).size) ≤ 20 := by
  rcases Nat.lt_or_ge k 4 with h | h
  · have : ∀ j : Fin 4, ((drawN.getD j.val ByteArray.empty).size) ≤ 20 := by decide
    exact this ⟨k, h⟩
  · have : drawN.getD k ByteArray.empty = ByteArray.empty := by simp [List.getD, h]
    rw [this]; decide
theorem drawN_norm (k : Nat) (h : k < 4) : M.normF (drawN.getD k ByteArray.empty).data.toList = 0 := by
  have : ∀ j : Fin 4, M.normF (drawN.getD j.val ByteArray.empty).data.toList = 0 := by decide +kernel
  exact this ⟨k, h⟩

theorem gtr {w w1 w2 : World} {g : Nat} (h : w.grownBy w1 (some g)) (k : w1.grownBy w2 (some g)) : w.grownBy w2 (some g) := grown_trans h k (fun _ e => .inr e) (fun _ e => .inr e)
theorem gal {w w1 : World} {g : Nat} (h : w.grownBy w1 (some g)) (o : Obj) : w.grownBy (w1.alloc o) (some g) :=
  ⟨h.os, h.tape, h.output, Nat.le_trans h.size (by simp), fun k hk hne => (Below.heap_alloc w1 o k (Nat.lt_of_lt_of_le hk h.size)).trans (h.block k hk hne)⟩
theorem gbe {w w1 w2 : World} {g : Nat} (h : w.grownBy w1 (some g)) (k : Below w1.heap.size w1 w2) : w.grownBy w2 (some g) :=
  ⟨k.os.trans h.os, k.tape.trans h.tape, k.output.trans h.output, Nat.le_trans h.size k.size, fun i hi hne => (k.block i (Nat.lt_of_lt_of_le hi h.size)).trans (h.block i hi hne)⟩
theorem gset {w w1 : World} {g : Nat} (h : w.grownBy w1 (some g)) {p : Addr} (hp : w.heap.size ≤ p.block) (v : Value) : w.grownBy (w1.setCell p v) (some g) :=
  ⟨h.os, h.tape, h.output, by simpa [World.setCell] using h.size, fun k hk hne => (Below.heap_setCell w1 p v k (by omega)).trans (h.block k hk hne)⟩

theorem Draw.put {w0 : World} {a : Option Addr} {len cap : Nat} {zs : List Int} {p : Nat} {w : World} {x : Addr} (h : Draw w0 a len cap zs p w) (hx : w0.heap.size < x.block) (u : Value) : Draw w0 a len cap zs p (w.setCell x u) :=
  h.grown (row := some x.block) ⟨rfl, rfl, rfl, by simp [World.setCell], fun k hk hne => Below.heap_setCell w x u k (fun e => hne (by rw [e]))⟩ (fun k e => by injection e with e; omega)
theorem At.only5 {g g0 : Nat} {cs : List Value} {w w' : World} (h : At g cs w) (hO : Only g0 w w') (hg : g ≠ g0) : At g cs w' := h.keep fun _ => hO.block g hg
/-- A text was drawn. -/
def DText (Q : ByteArray → Prop) (w0 : World) (a : Option Addr) (len cap : Nat) (zs : List Int) (p : Nat) (w : World) (r : Ending) (w' : World) : Prop :=
  ∃ s : ByteArray, Q s ∧ r = .returned (.string s) ∧ Draw w0 a len cap zs (p + 1) w' ∧ w.grownBy w' (some w0.heap.size)
theorem dl5Bent {w0 : World} {a : Option Addr} {len cap : Nat} {zs : List Int} {p : Nat} {w : World} (D : Draw w0 a len cap zs p w) (hp : p ≤ 1000000) :
    Calls Tryz.prog 93 #[.pointer (some ⟨w0.heap.size, 0, none⟩)] w (DText (fun s => s.size ≤ 21) w0 a len cap zs p w) := by
  have hlt := D.lt
  have D1 := D.alloc (.cells (bentN.map Value.string).toArray 9)
  go_enter Tryz.func93, Tryz.ntmps93
  go_wp2_with fail
  refine (dnext _ D1 hp).mono ?_
  rintro r w2 ⟨x, x0, x1, rfl, D2, O2⟩
  obtain ⟨k, rfl⟩ := Int.eq_ofNat_of_zero_le x0
  have hk : k < 12 := by omega
  have hcell : w2.cell? ⟨w.heap.size, k, none⟩ = some (.string (bentN.getD k ByteArray.empty)) := by
    have e1 : (w.alloc (.cells (bentN.map Value.string).toArray 9)).heap[w.heap.size]? = some (.cells (bentN.map Value.string).toArray 9) := (MapKept.heap_alloc w _).1
    have e2 := O2.block w.heap.size (by omega)
    unfold World.cell?
    rw [e2, e1]
    have : k < bentN.length := hk
    simp only [Option.isSome_none, Bool.false_eq_true, if_false, List.getElem?_toArray, List.getElem?_map]
    rw [List.getElem?_eq_getElem this]
    simp [List.getD, List.getElem?_eq_getElem this]
  have hsz := bentN_size k
  generalize bentN.getD k ByteArray.empty = s at hcell hsz
  have HF := Lib.hid (And.intro D2 (grown_alloc O2.grown))
  have HS := Lib.hid hsz
  clear D D1 D2 O2 x0 x1 hsz
  go_wp2_with fail
  go_ret
  exact ⟨s, HS.out, rfl, HF.out.1, HF.out.2⟩

theorem dl5DrawName {w0 : World} {a : Option Addr} {len cap : Nat} {zs : List Int} {p : Nat} {w : World} (D : Draw w0 a len cap zs p w) (hp : p ≤ 1000000) :
    Calls Tryz.prog 102 #[.pointer (some ⟨w0.heap.size, 0, none⟩)] w (DText (fun s => s.size ≤ 20 ∧ M.normF s.data.toList = 0) w0 a len cap zs p w) := by
  have hlt := D.lt
  have D1 := D.alloc (.cells (drawN.map Value.string).toArray 9)
  go_enter Tryz.func102, Tryz.ntmps102
  go_wp2_with fail
  refine (dnext _ D1 hp).mono ?_
  rintro r w2 ⟨x, x0, x1, rfl, D2, O2⟩
  obtain ⟨k, rfl⟩ := Int.eq_ofNat_of_zero_le x0
  have hk : k < 4 := by omega
  have hcell : w2.cell? ⟨w.heap.size, k, none⟩ = some (.string (drawN.getD k ByteArray.empty)) := by
    have e1 : (w.alloc (.cells (drawN.map Value.string).toArray 9)).heap[w.heap.size]? = some (.cells (drawN.map Value.string).toArray 9) := (MapKept.heap_alloc w _).1
    have e2 := O2.block w.heap.size (by omega)
    unfold World.cell?
    rw [e2, e1]
    have : k < drawN.length := hk
    simp only [Option.isSome_none, Bool.false_eq_true, if_false, List.getElem?_toArray, List.getElem?_map]
    rw [List.getElem?_eq_getElem this]
    simp [List.getD, List.getElem?_eq_getElem this]
  have hsz := And.intro (drawN_size k) (drawN_norm k hk)
  generalize drawN.getD k ByteArray.empty = s at hcell hsz
  have HF := Lib.hid (And.intro D2 (grown_alloc O2.grown))
  have HS := Lib.hid hsz
  clear D D1 D2 O2 x0 x1 hsz
  go_wp2_with fail
  go_ret
  exact ⟨s, HS.out, rfl, HF.out.1, HF.out.2⟩

theorem key1 (a b : Int) (w : World) : Sem.run Tryz.prog (Instr.field 103 (.agg #[.int .i64 a, .int .i64 b]) 1) w = .ok (.int .i64 b) w := by kernel_rfl
theorem base_sum (n : Nat) : M.sumB (M.pw 4 n 2879) = true := by
  obtain ⟨h0, h1⟩ := M.pw_bd 4 n (m := 2879) (by omega)
  simp only [M.sumB, decide_eq_true_eq]
  omega
/-- A supplied key was drawn. -/
def DTlsa (K : Nat) (Q : ByteArray → Int → Int → Int → Prop) (w0 : World) (a : Option Addr) (len cap : Nat) (zs : List Int) (w : World) (r : Ending) (w' : World) : Prop :=
  ∃ (n : ByteArray) (u m v : Int) (p : Nat), Q n u m v ∧ p ≤ K ∧ r = .returned (T4 n u m v) ∧ Draw w0 a len cap zs p w' ∧ w.grownBy w' (some w0.heap.size)
end Go.Proofs.YtmdknbgpddnplaaGreatDoor
namespace Go.Proofs.YtmdknbgpddnplaaGreatDoor
open Go.RowKit
set_option maxRecDepth 100000
set_option linter.unusedVariables false

/-- While a drawn supplied key is bent: the result's block, and that of the key. -/
structure BentT (w0 : World) (a : Option Addr) (len cap : Nat) (zs : List Int) (p : Nat) (w : World) (rb tb : Nat) (n : ByteArray) (u m v : Int) (cur : World) : Prop where
  draw : Draw w0 a len cap zs p cur
  grew : w.grownBy cur (some w0.heap.size)
  res : At rb (TL4 { data := #[] } 0 0 0) cur
  one : At tb (TL4 n u m v) cur
  size : n.size ≤ 21
  few : p ≤ 10
section
variable {w0 : World} {a : Option Addr} {len cap : Nat} {zs : List Int} {p p' : Nat} {w : World} {rb tb : Nat} {n : ByteArray} {u m v : Int} {cur cur' : World}
theorem BentT.only (h : BentT w0 a len cap zs p w rb tb n u m v cur) (hO : Only w0.heap.size cur cur') (D : Draw w0 a len cap zs p' cur') (h1 : rb ≠ w0.heap.size) (h2 : tb ≠ w0.heap.size) (hp : p' ≤ 10) : BentT w0 a len cap zs p' w rb tb n u m v cur' :=
  ⟨D, gtr h.grew hO.grown, h.res.only5 hO h1, h.one.only5 hO h2, h.size, hp⟩
theorem BentT.kept (h : BentT w0 a len cap zs p w rb tb n u m v cur) (hO : cur.grownBy cur' (some w0.heap.size)) (D : Draw w0 a len cap zs p' cur') (h1 : rb ≠ w0.heap.size) (h2 : tb ≠ w0.heap.size) (hp : p' ≤ 10) : BentT w0 a len cap zs p' w rb tb n u m v cur' :=
  ⟨D, gtr h.grew hO, h.res.kept hO (fun e => by injection e with e; exact h1 e), h.one.kept hO (fun e => by injection e with e; exact h2 e), h.size, hp⟩
theorem BentT.alloc (h : BentT w0 a len cap zs p w rb tb n u m v cur) (o : Obj) : BentT w0 a len cap zs p w rb tb n u m v (cur.alloc o) :=
  ⟨h.draw.alloc o, gal h.grew o, h.res.alloc o, h.one.alloc o, h.size, h.few⟩
theorem BentT.put {n' : ByteArray} {u' m' v' : Int} (i : Nat) (x : Value) (h : BentT w0 a len cap zs p w rb tb n u m v cur) (he : (TL4 n u m v).set i x = TL4 n' u' m' v') (hs : n'.size ≤ 21) (h1 : rb ≠ tb) (h2 : w0.heap.size < tb) (h3 : w.heap.size ≤ tb) : BentT w0 a len cap zs p w rb tb n' u' m' v' (cur.setCell ⟨tb, i, none⟩ x) :=
  ⟨h.draw.put h2 x, gset h.grew h3 x, h.res.setB (p := ⟨tb, i, none⟩) h1 x, by have := h.one.set i x; rwa [he] at this, hs, h.few⟩
end
def DrawnText (w : World) (r : Ending) (w' : World) : Prop := ∃ s : ByteArray, r = .returned (.string s) ∧ s.size ≤ 21 ∧ Below w.heap.size w w'
def DrawnTlsa (w : World) (r : Ending) (w' : World) : Prop := ∃ (n : ByteArray) (u m v : Int), r = .returned (T4 n u m v) ∧ n.size ≤ 21 ∧ Below w.heap.size w w'
def DrawnFor (w : World) (r : Ending) (w' : World) : Prop := ∃ (s : ByteArray) (x y : Int), r = .returned (.tuple #[.string s, .int .i64 x, .int .i64 y]) ∧ s.size ≤ 21 ∧ Below w.heap.size w w'
end Go.Proofs.YtmdknbgpddnplaaGreatDoor
namespace Go.Proofs.YtmdknbgpddnplaaGreatDoor
open Go.RowKit

def marks (k : Int) (n : Nat) : List Int := (List.range n).map fun i : Nat => (k + (i : Int)) % 256
theorem marks_length (k : Int) (n : Nat) : (marks k n).length = n := by simp [marks]
theorem marks_at (k : Int) (n j : Nat) (h : j < n) : (marks k n)[j]? = some ((k + (j : Int)) % 256) := by simp [marks, h]
theorem marks_wf (k : Int) (n : Nat) : ∀ z ∈ marks k n, (Lit.int .u8 z).wf = true := by
  intro z hz
  simp only [marks, List.mem_map] at hz
  obtain ⟨i, _, rfl⟩ := hz
  simp [Lit.wf, IntKind.min, IntKind.max, IntKind.signed, IntKind.bits]; omega

structure MarkRel (w : World) (g cap : Nat) (k : Int) (j : Nat) (wr : World) : Prop where
  grew : w.grownBy wr (some g)
  lt : g < wr.heap.size
  room : ∀ i, i < cap → (∃ u, wr.cell? ⟨g, i, none⟩ = some u) ∧ wr.frozen? ⟨g, i, none⟩ = false
  told : ∀ i, i < j → wr.cell? ⟨g, i, none⟩ = some (.int .u8 ((k + (i : Int)) % 256))
theorem MarkRel.step {w : World} {g cap : Nat} {k : Int} {j : Nat} {wr : World} (h : MarkRel w g cap k j wr) (hj : j < cap) : MarkRel w g cap k (j + 1) (wr.setCell ⟨g, j, none⟩ (.int .u8 ((k + (j : Int)) % 256))) := by
  refine ⟨⟨h.grew.os, h.grew.tape, h.grew.output, by simpa [World.setCell] using h.grew.size, fun i hi hne => (Below.heap_setCell wr _ _ i (fun e => hne (by subst e; rfl))).trans (h.grew.block i hi hne)⟩, by simpa [World.setCell] using h.lt, fun i hi => ?_, fun i hi => ?_⟩
  · obtain ⟨⟨u, hu⟩, hf⟩ := h.room i hi
    refine ⟨?_, by rw [World.frozen?_setCell]; exact hf⟩
    obtain ⟨v, hv⟩ := cell?_setCell_some (w := wr) (p := ⟨g, j, none⟩) (x := .int .u8 ((k + (j : Int)) % 256)) (q := ⟨g, i, none⟩) (v := u) hu
    exact ⟨v, hv⟩
  · rcases Nat.lt_or_ge i j with hlt | hge
    · rw [World.cell?_setCell_other _ _ _ _ (fun e => by injection e with _ e2; omega)]
      exact h.told i hlt
    · obtain rfl : i = j := by omega
      obtain ⟨⟨u, hu⟩, _⟩ := h.room i hj
      rw [World.cell?_setCell_same _ _ _ (by rw [hu])]
def Marked (B : Nat) (k : Int) (v : Value) (n : Nat) (w : World) (r : Ending) (w' : World) : Prop := r = .returned (.int .i64 (k + n)) ∧ OwnK .u8 w' B v (marks k n) ∧ w.grownBy w' v.ownBlock
theorem MarkRel.own {w : World} {g cap : Nat} {k : Int} {n B : Nat} {wr : World} (h : MarkRel w g cap k n wr) (hB : B ≤ g) (hn : n ≤ cap) (hm : cap ≤ maxLen) : OwnK .u8 wr B (.slice (some ⟨g, 0, none⟩) n cap) (marks k n) := by
  unfold OwnK
  rw [marks_length]
  refine ⟨by simp [marks_length], .inr ⟨g, cap, rfl, hB, h.lt, hn, hm, fun j u hu => ?_, fun j hj => ?_⟩⟩
  · have hj := (List.getElem?_eq_some_iff.1 hu).1
    simp [marks_length] at hj
    rw [h.told j hj, ← hu]
    simp [marks_at k n j hj]
  · obtain ⟨⟨u, hu⟩, hf⟩ := h.room j (by omega)
    exact ⟨by rw [hu]; rfl, hf⟩

theorem OwnK.len {k : IntKind} {w : World} {B : Nat} {a : Option Addr} {len cap : Nat} {zs : List Int} (h : OwnK k w B (.slice a len cap) zs) : len = zs.length := by
  rcases h.2 with ⟨e, h0⟩ | ⟨g, c, e, _⟩
  · injection e with e1 e2 e3
    omega
  · injection e with e1 e2 e3

/-- Two answers of bytes lie in memory, the model's at block p1, the program's at block p2; the program's bytes are ms by now. -/
structure TwoRes (w : World) (c : Int) (zs : List Int) (p1 p2 : Nat) (a1 a2 : Option Addr) (n c1 c2 : Nat) (ms : List Int) (cur : World) : Prop where
  bel : Below w.heap.size w cur
  x0 : cur.cell? ⟨p1, 0, none⟩ = some (.int .i64 c)
  x1 : cur.cell? ⟨p1, 1, none⟩ = some (.slice a1 n c1)
  row : Row .u8 cur p1 a1 n c1 zs
  y0 : cur.cell? ⟨p2, 0, none⟩ = some (.int .i64 c)
  y1 : cur.cell? ⟨p2, 1, none⟩ = some (.slice a2 n c2)
  own : OwnK .u8 cur (p1 + 1) (.slice a2 n c2) ms
  old : w.heap.size ≤ p1
  sep : ∀ k, Value.ownBlock (.slice a2 n c2) = some k → k < p2
  ahead : p1 < p2
section
variable {w : World} {c : Int} {zs : List Int} {p1 p2 : Nat} {a1 a2 : Option Addr} {n c1 c2 : Nat} {ms : List Int} {cur cur' : World}
theorem TwoRes.lt1 (h : TwoRes w c zs p1 p2 a1 a2 n c1 c2 ms cur) : p1 < cur.heap.size := cell_lt h.x0
theorem TwoRes.lt2 (h : TwoRes w c zs p1 p2 a1 a2 n c1 c2 ms cur) : p2 < cur.heap.size := cell_lt h.y0
theorem TwoRes.on (h : TwoRes w c zs p1 p2 a1 a2 n c1 c2 ms cur) (hb : Below cur.heap.size cur cur') : TwoRes w c zs p1 p2 a1 a2 n c1 c2 ms cur' :=
  ⟨btr h.bel hb, cell_keep hb h.x0, cell_keep hb h.x1, h.row.below (hb.mono (by have := h.lt1; omega)), cell_keep hb h.y0, cell_keep hb h.y1, h.own.below hb, h.old, h.sep, h.ahead⟩
theorem TwoRes.grew (h : TwoRes w c zs p1 p2 a1 a2 n c1 c2 ms cur) {ms' : List Int} (ho : OwnK .u8 cur' (p1 + 1) (.slice a2 n c2) ms') (hg : cur.grownBy cur' (Value.ownBlock (.slice a2 n c2))) : TwoRes w c zs p1 p2 a1 a2 n c1 c2 ms' cur' := by
  have hlo := fun k hk => (h.own.lt k hk).1
  have hp1 : some p1 ≠ Value.ownBlock (.slice a2 n c2) := fun e => by have := hlo p1 e.symm; omega
  have hp2 : some p2 ≠ Value.ownBlock (.slice a2 n c2) := fun e => by have := h.sep p2 e.symm; omega
  have l1 := h.lt1
  have hold := h.old
  refine ⟨h.bel.grown hg h.bel.size (fun k hk => by have := hlo k hk; omega), hg.cell h.x0 hp1, hg.cell h.x1 hp1, h.row.keep (fun i hi => hg.block i (by omega) (fun e => by have := hlo i e.symm; omega)), hg.cell h.y0 hp2, hg.cell h.y1 hp2, ho, h.old, h.sep, h.ahead⟩
/-- The model's answer, and then the program's, are stored. -/
theorem TwoRes.new {u1 u2 : World} {t : TypeId} (b1 : Below w.heap.size w u1) (O1 : OwnK .u8 u1 w.heap.size (.slice a1 n c1) zs) (hw : ∀ z ∈ zs, (Lit.int .u8 z).wf = true)
    (b2 : Below (u1.alloc (.cells #[.int .i64 c, .slice a1 n c1] t)).heap.size (u1.alloc (.cells #[.int .i64 c, .slice a1 n c1] t)) u2) (O2 : OwnK .u8 u2 (u1.alloc (.cells #[.int .i64 c, .slice a1 n c1] t)).heap.size (.slice a2 n c2) zs) :
    TwoRes w c zs u1.heap.size u2.heap.size a1 a2 n c1 c2 zs (u2.alloc (.cells #[.int .i64 c, .slice a2 n c2] t)) := by
  have hs := b2.size
  simp at hs
  have x0 : (u1.alloc (.cells #[.int .i64 c, .slice a1 n c1] t)).cell? ⟨u1.heap.size, 0, none⟩ = some (.int .i64 c) := by simp
  have x1 : (u1.alloc (.cells #[.int .i64 c, .slice a1 n c1] t)).cell? ⟨u1.heap.size, 1, none⟩ = some (.slice a1 n c1) := by simp
  have b3 := bal b2 (.cells #[.int .i64 c, .slice a2 n c2] t)
  have R1 := Own.row O1 hw
  refine ⟨btr (bal b1 _) b3, cell_keep b3 x0, cell_keep b3 x1, ?_, by simp, by simp, ?_, b1.size, fun k hk => (O2.lt k hk).2, by omega⟩
  · exact (R1.alloc (Nat.le_refl _) _).below (b3.mono (by simp))
  · have := O2.alloc (.cells #[.int .i64 c, .slice a2 n c2] t)
    simpa [OwnK] using this
end

end Go.Proofs.YtmdknbgpddnplaaGreatDoor
namespace Go.Proofs.YtmdknbgpddnplaaGreatDoor
open Go.RowKit
set_option maxRecDepth 100000
set_option linter.unusedVariables false

theorem packT_byte {n : ByteArray} {u m v : Int} (h : M.tlsaF n.data.toList u m v = 0) : ∀ z ∈ packT n u m v, M.byteB z := by
  intro z hz
  obtain ⟨hn, hu0, hu1, hm0, hm1, hv⟩ := tlsa_bounds h
  unfold packT headT at hz
  simp only [M.sumB, decide_eq_true_eq] at hv
  rcases List.mem_append.1 hz with hz | hz
  · simp only [M.two, List.cons_append, List.nil_append, List.mem_cons, List.not_mem_nil, or_false] at hz
    unfold M.byteB
    omega
  · exact M.textL_byte n z hz
/-- The first n of a slice. -/
theorem Row.upto {k : IntKind} {w : World} {B : Nat} {a : Option Addr} {len cap : Nat} {zs : List Int} (h : Row k w B a len cap zs) (n : Nat) (hn : n ≤ len) : Row k w B a n cap (zs.take n) :=
  ⟨by simp [h.length]; omega, fun z hz => h.wf z (List.mem_of_mem_take hz), Nat.le_trans hn h.fits, h.most, fun hp => by
    obtain ⟨b, off, e, hb, hc⟩ := h.cells (by omega)
    refine ⟨b, off, e, hb, fun j hj => ?_⟩
    rw [hc j (by omega)]
    simp [List.getD, hj]⟩
def DrawnData (w : World) (r : Ending) (w' : World) : Prop := ∃ a n c zs, r = .returned (.slice a n c) ∧ n ≤ 100 ∧ Row .u8 w' w'.heap.size a n c zs ∧ Below w.heap.size w w'

theorem l1Chance_any {w0 : World} {a : Option Addr} {len cap : Nat} {zs : List Int} {p : Nat} {w : World} (n : Int) (D : Draw w0 a len cap zs p w) (hp : p ≤ 1000000) :
    Calls Tryz.prog 85 #[.pointer (some ⟨w0.heap.size, 0, none⟩), .int .i64 n] w fun r w' => ∃ b : Bool, r = .returned (.bool b) ∧ Draw w0 a len cap zs (p + 1) w' ∧ Only w0.heap.size w w' := by
  go_enter Tryz.func85, Tryz.ntmps85
  go_wp2_with fail
  refine (dnext n D hp).mono ?_
  rintro r w1 ⟨x, x0, x1, rfl, D1, O1⟩
  have HD := Lib.hid (And.intro D1 O1)
  clear D D1 O1 x0 x1
  go_wp2_with fail
  go_ret
  exact ⟨_, rfl, HD.out.1, HD.out.2⟩

def DrawnMatch (w : World) (r : Ending) (w' : World) : Prop := ∃ (n : ByteArray) (u m v : Int) (s : ByteArray) (x : Int), r = .returned (.tuple #[T4 n u m v, .string s, .int .i64 x]) ∧ n.size ≤ 21 ∧ s.size ≤ 21 ∧ Below w.heap.size w w'
/-- Ahead of what is handed back: the result's block, the key's, the source. -/
structure MatchRel (w W0 : World) (a : Option Addr) (len cap : Nat) (zs : List Int) (p tb : Nat) (n : ByteArray) (u m v : Int) (cur : World) : Prop where
  draw : Draw W0 a len cap zs p cur
  bel : Below w.heap.size w cur
  res : At w.heap.size (TL4 { data := #[] } 0 0 0) cur
  one : At tb (TL4 n u m v) cur
end Go.Proofs.YtmdknbgpddnplaaGreatDoor
namespace Go.Proofs.YtmdknbgpddnplaaGreatDoor
open Go.RowKit

def DSecret (w0 : World) (a : Option Addr) (len cap : Nat) (zs : List Int) (p : Nat) (r : Ending) (w' : World) : Prop :=
  ∃ v : Int, 1 ≤ v ∧ v ≤ 1438 ∧ r = .returned (.int .i64 v) ∧ Draw w0 a len cap zs (p + 1) w'
theorem kfld0 (a b : Int) (w : World) : Sem.run Tryz.prog (Instr.field 103 (.agg #[.int .i64 a, .int .i64 b]) 0) w = .ok (.int .i64 a) w := by kernel_rfl
theorem kfld1 (a b : Int) (w : World) : Sem.run Tryz.prog (Instr.field 103 (.agg #[.int .i64 a, .int .i64 b]) 1) w = .ok (.int .i64 b) w := by kernel_rfl

def Secreted (w : World) (r : Ending) (w' : World) : Prop := ∃ v : Int, 1 ≤ v ∧ v ≤ 1438 ∧ r = .returned (.int .i64 v) ∧ Below w.heap.size w w'
theorem invR_form (v : Int) : invR v = (3, 0) ∨ (1 ≤ v ∧ v ≤ 2878 ∧ ∃ V, invR v = (0, V) ∧ 1 ≤ V ∧ V ≤ 2878 ∧ mulR v V 2879 = (0, 1) ∧ invR V = (0, v)) := by
  cases h : inB v 1 2878
  · exact .inl (by simp [invR, h])
  · have h' := h
    simp only [inB, decide_eq_true_eq] at h'
    refine .inr ⟨h'.1, h'.2, M.pw v 2877 2879, by simp [invR, h], ?_⟩
    have b := M.inv_pos h'.1 h'.2
    refine ⟨b.1, b.2, ?_, ?_⟩
    · have : restB v 2879 = true ∧ restB (M.pw v 2877 2879) 2879 = true := by simp only [restB, decide_eq_true_eq]; omega
      simp only [mulR, this.1, this.2, Bool.and_self, if_true, M.inv_mul h'.1 h'.2]
    · have : inB (M.pw v 2877 2879) 1 2878 = true := by simp only [inB, decide_eq_true_eq]; omega
      simp only [invR, this, if_true, M.inv_inv h'.1 h'.2]

theorem pub_base {a : Int} (a0 : 1 ≤ a) (a1 : a ≤ 1438) : pubB (M.pw 4 a.toNat 2879) = true := by
  have h := M.base_pub a.toNat (by omega) (by omega)
  simp only [pubB, inB, Bool.and_eq_true, decide_eq_true_eq, beq_iff_eq]
  exact ⟨h, M.base_raised _⟩
theorem pub_shared {a b : Int} (a0 : 1 ≤ a) (a1 : a ≤ 1438) (b0 : 1 ≤ b) (b1 : b ≤ 1438) : pubB (M.pw (M.pw 4 b.toNat 2879) a.toNat 2879) = true := by
  have h := M.shared_bd (a := a.toNat) (b := b.toNat) (by omega) (by omega) (by omega) (by omega)
  simp only [pubB, inB, Bool.and_eq_true, decide_eq_true_eq, beq_iff_eq]
  exact ⟨h, M.shared_raised _ _⟩

end Go.Proofs.YtmdknbgpddnplaaGreatDoor
namespace Go.Proofs.YtmdknbgpddnplaaGreatDoor
open Go.RowKit
set_option maxRecDepth 100000
set_option linter.unusedVariables false

/-- While something is drawn: the source, and the result's block. -/
structure DrwP (w0 : World) (a : Option Addr) (len cap : Nat) (zs : List Int) (p : Nat) (w : World) (rb : Nat) (rs : List Value) (cur : World) : Prop where
  draw : Draw w0 a len cap zs p cur
  grew : w.grownBy cur (some w0.heap.size)
  res : At rb rs cur
section
variable {w0 : World} {a : Option Addr} {len cap : Nat} {zs : List Int} {p p' : Nat} {w : World} {rb tb : Nat} {rs cs : List Value} {cur cur' : World}
theorem DrwP.only (h : DrwP w0 a len cap zs p w rb rs cur) (hO : Only w0.heap.size cur cur') (D : Draw w0 a len cap zs p' cur') (h1 : rb ≠ w0.heap.size) : DrwP w0 a len cap zs p' w rb rs cur' :=
  ⟨D, gtr h.grew hO.grown, h.res.only5 hO h1⟩
theorem DrwP.kept (h : DrwP w0 a len cap zs p w rb rs cur) (hO : cur.grownBy cur' (some w0.heap.size)) (D : Draw w0 a len cap zs p' cur') (h1 : rb ≠ w0.heap.size) : DrwP w0 a len cap zs p' w rb rs cur' :=
  ⟨D, gtr h.grew hO, h.res.kept hO (fun e => by injection e with e; exact h1 e)⟩
theorem DrwP.on (h : DrwP w0 a len cap zs p w rb rs cur) (hb : Below cur.heap.size cur cur') : DrwP w0 a len cap zs p w rb rs cur' := ⟨h.draw.below hb, gbe h.grew hb, h.res.on hb⟩
theorem DrwP.alloc (h : DrwP w0 a len cap zs p w rb rs cur) (o : Obj) : DrwP w0 a len cap zs p w rb rs (cur.alloc o) := ⟨h.draw.alloc o, gal h.grew o, h.res.alloc o⟩
/-- And a second block. -/
structure BentP (w0 : World) (a : Option Addr) (len cap : Nat) (zs : List Int) (p : Nat) (w : World) (rb : Nat) (rs : List Value) (tb : Nat) (cs : List Value) (cur : World) : Prop where
  drw : DrwP w0 a len cap zs p w rb rs cur
  one : At tb cs cur
theorem BentP.only (h : BentP w0 a len cap zs p w rb rs tb cs cur) (hO : Only w0.heap.size cur cur') (D : Draw w0 a len cap zs p' cur') (h1 : rb ≠ w0.heap.size) (h2 : tb ≠ w0.heap.size) : BentP w0 a len cap zs p' w rb rs tb cs cur' :=
  ⟨h.drw.only hO D h1, h.one.only5 hO h2⟩
theorem BentP.kept (h : BentP w0 a len cap zs p w rb rs tb cs cur) (hO : cur.grownBy cur' (some w0.heap.size)) (D : Draw w0 a len cap zs p' cur') (h1 : rb ≠ w0.heap.size) (h2 : tb ≠ w0.heap.size) : BentP w0 a len cap zs p' w rb rs tb cs cur' :=
  ⟨h.drw.kept hO D h1, h.one.kept hO (fun e => by injection e with e; exact h2 e)⟩
theorem BentP.alloc (h : BentP w0 a len cap zs p w rb rs tb cs cur) (o : Obj) : BentP w0 a len cap zs p w rb rs tb cs (cur.alloc o) := ⟨h.drw.alloc o, h.one.alloc o⟩
theorem BentP.put (i : Nat) (x : Value) (h : BentP w0 a len cap zs p w rb rs tb cs cur) (h1 : rb ≠ tb) (h2 : w0.heap.size < tb) (h3 : w.heap.size ≤ tb) : BentP w0 a len cap zs p w rb rs tb (cs.set i x) (cur.setCell ⟨tb, i, none⟩ x) :=
  ⟨⟨h.drw.draw.put h2 x, gset h.drw.grew h3 x, h.drw.res.setB (p := ⟨tb, i, none⟩) h1 x⟩, h.one.set i x⟩
end
/-- A pin was drawn. -/
def DPin (K : Nat) (Q : PinD → Prop) (w0 : World) (a : Option Addr) (len cap : Nat) (zs : List Int) (w : World) (e : Ending) (w' : World) : Prop :=
  ∃ (q : PinD) (p : Nat), Q q ∧ p ≤ K ∧ e = .returned (P5 q) ∧ Draw w0 a len cap zs p w' ∧ w.grownBy w' (some w0.heap.size)
theorem dl7Public {w0 : World} {a : Option Addr} {len cap : Nat} {zs : List Int} {p : Nat} {w : World} (D : Draw w0 a len cap zs p w) (hp : p ≤ 1000) :
    Calls Tryz.prog 96 #[.pointer (some ⟨w0.heap.size, 0, none⟩)] w fun r w' => ∃ v : Int, pubB v = true ∧ r = .returned (.int .i64 v) ∧ Draw w0 a len cap zs (p + 1) w' ∧ w.grownBy w' (some w0.heap.size) := by
  have g1 := key1
  go_enter Tryz.func96, Tryz.ntmps96
  go_wp2_with fail
  refine (dnext 4 D (by omega)).mono ?_
  rintro r w1 ⟨x, x0, x1, rfl, D1, O1⟩
  have hx : x < 4 := by omega
  have hpub := pub_base (a := 1 + x) (by omega) (by omega)
  clear x1 D
  go_wp2_with fail
  refine (l1Key_any _ _ (by omega) (by omega)).mono ?_
  rintro r w2 ⟨rfl, b2⟩
  generalize M.pw 4 (1 + x).toNat 2879 = v at *
  have HD := Lib.hid (And.intro (D1.below b2) (gbe O1.grown b2))
  clear D1 O1 b2
  go_wp2_with fail
  go_ret
  exact ⟨v, hpub, rfl, HD.out.1, HD.out.2⟩

theorem pub_two {v : Int} (h : pubB v = true) : 2 ≤ v := by
  simp only [pubB, inB, Bool.and_eq_true, decide_eq_true_eq] at h
  omega
theorem drawn_ok {n : ByteArray} {a b e u : Int} (hn : n.size ≤ 20 ∧ M.normF n.data.toList = 0) (ha : pubB a = true) (hb : b = 0 ∨ pubB b = true) (hba : b ≠ a) (he : 1 ≤ e ∧ e ≤ 200) (hu : 0 ≤ u ∧ u ≤ 9999) : (PinD.mk n a b e u).f = 0 := by
  refine pinF_yes hn.2 ?_ hba
  have h1 : bakB b = true := by
    unfold bakB
    rcases hb with hb | hb <;> simp [hb]
  have h2 : epB e = true := by simp [epB]; omega
  have h3 : timB u = true := by simp [timB]; omega
  simp [pinB, ha, h1, h2, h3]
abbrev pinZero : List Value := [.string { data := #[] }, .int .i64 0, .int .i64 0, .int .i64 0, .int .i64 0]
set_option maxHeartbeats 1000000 in
theorem dl7Draw {w0 : World} {a : Option Addr} {len cap : Nat} {zs : List Int} {p0 : Nat} {w : World} (D : Draw w0 a len cap zs p0 w) (hp0 : p0 ≤ 500) :
    Calls Tryz.prog 54 #[.pointer (some ⟨w0.heap.size, 0, none⟩)] w (DPin (p0 + 6) (fun q => q.f = 0) w0 a len cap zs w) := by
  have hlt := D.lt
  have R0 : DrwP w0 a len cap zs p0 w w.heap.size pinZero (w.alloc (.cells #[.string { data := #[] }, .int .i64 0, .int .i64 0, .int .i64 0, .int .i64 0] 25)) :=
    ⟨D.alloc _, gal (World.grownBy.refl w (some w0.heap.size)) _, At.new w pinZero 25⟩
  go_enter Tryz.func54, Tryz.ntmps54
  go_wp2_with fail
  generalize w.alloc (.cells #[.string { data := #[] }, .int .i64 0, .int .i64 0, .int .i64 0, .int .i64 0] 25) = W0 at *
  refine (dl5DrawName R0.draw (by omega)).mono ?_
  rintro r w1 ⟨n, hn, rfl, D1, g1⟩
  have HN := Lib.hid hn
  have R1 := R0.kept g1 D1 (by omega)
  clear D R0 D1 g1 hn
  go_wp2_with fail
  refine (dl7Public R1.draw (by omega)).mono ?_
  rintro r w2 ⟨ac, hac, rfl, D2, g2⟩
  have HAC := Lib.hid hac
  have R2 := R1.kept g2 D2 (by omega)
  clear R1 D2 g2 hac
  go_wp2_with fail
  refine (dnext 3 R2.draw (by omega)).mono ?_
  rintro r w3 ⟨e, e0, e1, rfl, D3, O3⟩
  have he : e < 3 := by omega
  have R3 := R2.only O3 D3 (by omega)
  clear R2 D3 O3 e1
  go_wp2_with fail
  refine (dpick [0, 50, 9999] 3 R3.draw (by omega) (by omega) (by omega) rfl 2).mono ?_
  rintro r w4 ⟨u, hu, rfl, D4, O4⟩
  have HU := Lib.hid (show 0 ≤ u ∧ u ≤ 9999 by simp at hu; omega)
  have R4 := (R3.alloc (.cells #[.int .i64 0, .int .i64 50, .int .i64 9999] 2)).only O4 D4 (by omega)
  have lt4 := R4.res.lt (by simp)
  have B4 : BentP w0 a len cap zs (p0 + 1 + 1 + 1 + 1) w w.heap.size pinZero w4.heap.size [.string n, .int .i64 ac, .int .i64 0, .int .i64 (1 + e), .int .i64 u] (w4.alloc (.cells #[.string n, .int .i64 ac, .int .i64 0, .int .i64 (1 + e), .int .i64 u] 25)) :=
    ⟨R4.alloc _, At.new w4 [.string n, .int .i64 ac, .int .i64 0, .int .i64 (1 + e), .int .i64 u] 25⟩
  clear R3 R4 D4 O4 hu
  go_wp2_with fail
  generalize w4.alloc (.cells #[.string n, .int .i64 ac, .int .i64 0, .int .i64 (1 + e), .int .i64 u] 25) = v4 at *
  refine (dl7Public B4.drw.draw (by omega)).mono ?_
  rintro r w5 ⟨b, hb, rfl, D5, g5⟩
  have HBB := Lib.hid hb
  have B5 := B4.kept g5 D5 (by omega) (by omega)
  have hac2 := pub_two HAC.out
  clear B4 D5 g5 hb
  by_cases hba : b = ac
  · subst hba
    have x0 := B5.one.cell 0 _ rfl
    have x1 := B5.one.cell 1 _ rfl
    have x2 := B5.one.cell 2 _ rfl
    have x3 := B5.one.cell 3 _ rfl
    have x4 := B5.one.cell 4 _ rfl
    have B6 := B5
    have q0 := B5.drw.res.cell 0 _ rfl
    have q1 := B5.drw.res.cell 1 _ rfl
    have q2 := B5.drw.res.cell 2 _ rfl
    have q3 := B5.drw.res.cell 3 _ rfl
    have q4 := B5.drw.res.cell 4 _ rfl
    have z0 := B5.drw.res.free 0 _ rfl
    have z1 := B5.drw.res.free 1 _ rfl
    have z2 := B5.drw.res.free 2 _ rfl
    have z3 := B5.drw.res.free 3 _ rfl
    have z4 := B5.drw.res.free 4 _ rfl
    have x0 := B5.one.cell 0 _ rfl
    have x1 := B5.one.cell 1 _ rfl
    have x2 := B5.one.cell 2 _ rfl
    have x3 := B5.one.cell 3 _ rfl
    have x4 := B5.one.cell 4 _ rfl
    have f0 := B5.one.free 0 _ rfl
    have f1 := B5.one.free 1 _ rfl
    have f2 := B5.one.free 2 _ rfl
    have f3 := B5.one.free 3 _ rfl
    have f4 := B5.one.free 4 _ rfl
    have hrb : w.heap.size ≠ w4.heap.size := by omega
    have HB := Lib.hid B6
    clear B5 B6
    go_wp2_with fail
    refine bodyPost_ret (v := P5 ⟨n, b, 0, 1 + e, u⟩) (by simp [results, Tryz.results54, go_sem, q0, q1, q2, q3, q4]) rfl ?_
    refine ⟨_, p0 + 1 + 1 + 1 + 1 + 1, drawn_ok HN.out HAC.out (.inl rfl) (by omega) (by omega) HU.out, by omega, rfl, ?hd, ?hg⟩
    case hd =>
      iterate 5 (refine Draw.put ?_ (by dsimp only; omega) _)
      exact HB.out.drw.draw
    case hg =>
      iterate 5 (refine gset ?_ (Nat.le_refl _) _)
      exact HB.out.drw.grew
  · have nba : (b == ac) = false := by rw [beq_eq_false_iff_ne]; exact hba
    have x0 := B5.one.cell 0 _ rfl
    have x1 := B5.one.cell 1 _ rfl
    have x2 := B5.one.cell 2 _ rfl
    have x3 := B5.one.cell 3 _ rfl
    have x4 := B5.one.cell 4 _ rfl
    go_wp2_with fail
    refine (l1Chance_any 2 B5.drw.draw (by omega)).mono ?_
    rintro r w6 ⟨c, rfl, D6, O6⟩
    have B6 := B5.only O6 D6 (by omega) (by omega)
    clear B5 D6 O6 x0 x1 x2 x3 x4
    cases c
    · have B7 := B6
      have q0 := B6.drw.res.cell 0 _ rfl
      have q1 := B6.drw.res.cell 1 _ rfl
      have q2 := B6.drw.res.cell 2 _ rfl
      have q3 := B6.drw.res.cell 3 _ rfl
      have q4 := B6.drw.res.cell 4 _ rfl
      have z0 := B6.drw.res.free 0 _ rfl
      have z1 := B6.drw.res.free 1 _ rfl
      have z2 := B6.drw.res.free 2 _ rfl
      have z3 := B6.drw.res.free 3 _ rfl
      have z4 := B6.drw.res.free 4 _ rfl
      have x0 := B6.one.cell 0 _ rfl
      have x1 := B6.one.cell 1 _ rfl
      have x2 := B6.one.cell 2 _ rfl
      have x3 := B6.one.cell 3 _ rfl
      have x4 := B6.one.cell 4 _ rfl
      have f0 := B6.one.free 0 _ rfl
      have f1 := B6.one.free 1 _ rfl
      have f2 := B6.one.free 2 _ rfl
      have f3 := B6.one.free 3 _ rfl
      have f4 := B6.one.free 4 _ rfl
      have hrb : w.heap.size ≠ w4.heap.size := by omega
      have HB := Lib.hid B7
      clear B6 B7
      go_wp2_with fail
      refine bodyPost_ret (v := P5 ⟨n, ac, 0, 1 + e, u⟩) (by simp [results, Tryz.results54, go_sem, q0, q1, q2, q3, q4]) rfl ?_
      refine ⟨_, p0 + 1 + 1 + 1 + 1 + 1 + 1, drawn_ok HN.out HAC.out (.inl rfl) (by omega) (by omega) HU.out, by omega, rfl, ?hd, ?hg⟩
      case hd =>
        iterate 5 (refine Draw.put ?_ (by dsimp only; omega) _)
        exact HB.out.drw.draw
      case hg =>
        iterate 5 (refine gset ?_ (Nat.le_refl _) _)
        exact HB.out.drw.grew
    · have B7 := B6.put 2 (.int .i64 b) (by omega) (by omega) (by omega)
      have q0 := B6.drw.res.cell 0 _ rfl
      have q1 := B6.drw.res.cell 1 _ rfl
      have q2 := B6.drw.res.cell 2 _ rfl
      have q3 := B6.drw.res.cell 3 _ rfl
      have q4 := B6.drw.res.cell 4 _ rfl
      have z0 := B6.drw.res.free 0 _ rfl
      have z1 := B6.drw.res.free 1 _ rfl
      have z2 := B6.drw.res.free 2 _ rfl
      have z3 := B6.drw.res.free 3 _ rfl
      have z4 := B6.drw.res.free 4 _ rfl
      have x0 := B6.one.cell 0 _ rfl
      have x1 := B6.one.cell 1 _ rfl
      have x2 := B6.one.cell 2 _ rfl
      have x3 := B6.one.cell 3 _ rfl
      have x4 := B6.one.cell 4 _ rfl
      have f0 := B6.one.free 0 _ rfl
      have f1 := B6.one.free 1 _ rfl
      have f2 := B6.one.free 2 _ rfl
      have f3 := B6.one.free 3 _ rfl
      have f4 := B6.one.free 4 _ rfl
      have hrb : w.heap.size ≠ w4.heap.size := by omega
      have HB := Lib.hid B7
      clear B6 B7
      go_wp2_with fail
      refine bodyPost_ret (v := P5 ⟨n, ac, b, 1 + e, u⟩) (by simp [results, Tryz.results54, go_sem, q0, q1, q2, q3, q4]) rfl ?_
      refine ⟨_, p0 + 1 + 1 + 1 + 1 + 1 + 1, drawn_ok HN.out HAC.out (.inr HBB.out) hba (by omega) HU.out, by omega, rfl, ?hd, ?hg⟩
      case hd =>
        iterate 5 (refine Draw.put ?_ (by dsimp only; omega) _)
        exact HB.out.drw.draw
      case hg =>
        iterate 5 (refine gset ?_ (Nat.le_refl _) _)
        exact HB.out.drw.grew

set_option maxHeartbeats 1000000 in
theorem dl7Bent {w0 : World} {a : Option Addr} {len cap : Nat} {zs : List Int} {p0 : Nat} {w : World} (D : Draw w0 a len cap zs p0 w) (hp0 : p0 ≤ 500) :
    Calls Tryz.prog 48 #[.pointer (some ⟨w0.heap.size, 0, none⟩)] w (DPin (p0 + 8) (fun q => q.n.size ≤ 21) w0 a len cap zs w) := by
  have hlt := D.lt
  have R0 : DrwP w0 a len cap zs p0 w w.heap.size pinZero (w.alloc (.cells #[.string { data := #[] }, .int .i64 0, .int .i64 0, .int .i64 0, .int .i64 0] 25)) :=
    ⟨D.alloc _, gal (World.grownBy.refl w (some w0.heap.size)) _, At.new w pinZero 25⟩
  go_enter Tryz.func48, Tryz.ntmps48
  go_wp2_with fail
  generalize w.alloc (.cells #[.string { data := #[] }, .int .i64 0, .int .i64 0, .int .i64 0, .int .i64 0] 25) = W0 at *
  refine (dl7Draw R0.draw hp0).mono ?_
  rintro r w4 ⟨⟨n, ac, bk, e, u⟩, p, hf, hp, rfl, D1, g1⟩
  have hn : n.size ≤ 21 := by have := pin_size hf; dsimp only at this; omega
  have R1 := R0.kept g1 D1 (by omega)
  have lt4 := R1.res.lt (by simp)
  have B1 : BentP w0 a len cap zs p w w.heap.size pinZero w4.heap.size [.string n, .int .i64 ac, .int .i64 bk, .int .i64 e, .int .i64 u] (w4.alloc (.cells #[.string n, .int .i64 ac, .int .i64 bk, .int .i64 e, .int .i64 u] 25)) :=
    ⟨R1.alloc _, At.new w4 [.string n, .int .i64 ac, .int .i64 bk, .int .i64 e, .int .i64 u] 25⟩
  clear D R0 R1 D1 g1 hf
  go_wp2_with fail
  generalize w4.alloc (.cells #[.string n, .int .i64 ac, .int .i64 bk, .int .i64 e, .int .i64 u] 25) = v4 at *
  refine (dnext 10 B1.drw.draw (by omega)).mono ?_
  rintro r w5 ⟨sw, t0, t1, rfl, D2, O2⟩
  have B2 := B1.only O2 D2 (by omega) (by omega)
  clear B1 D2 O2 t1
  by_cases e0 : sw = 0
  · subst e0
    go_wp2_with fail
    refine (dl5Bent B2.drw.draw (by omega)).mono ?_
    rintro r w6 ⟨m, hs, rfl, D3, g3⟩
    have B3 := B2.kept g3 D3 (by omega) (by omega)
    have B4 := B3.put 0 (.string m) (by omega) (by omega) (by omega)
    clear B2 D3 g3
    have q0 := B3.drw.res.cell 0 _ rfl
    have q1 := B3.drw.res.cell 1 _ rfl
    have q2 := B3.drw.res.cell 2 _ rfl
    have q3 := B3.drw.res.cell 3 _ rfl
    have q4 := B3.drw.res.cell 4 _ rfl
    have z0 := B3.drw.res.free 0 _ rfl
    have z1 := B3.drw.res.free 1 _ rfl
    have z2 := B3.drw.res.free 2 _ rfl
    have z3 := B3.drw.res.free 3 _ rfl
    have z4 := B3.drw.res.free 4 _ rfl
    have x0 := B3.one.cell 0 _ rfl
    have x1 := B3.one.cell 1 _ rfl
    have x2 := B3.one.cell 2 _ rfl
    have x3 := B3.one.cell 3 _ rfl
    have x4 := B3.one.cell 4 _ rfl
    have f0 := B3.one.free 0 _ rfl
    have f1 := B3.one.free 1 _ rfl
    have f2 := B3.one.free 2 _ rfl
    have f3 := B3.one.free 3 _ rfl
    have f4 := B3.one.free 4 _ rfl
    have hrb : w.heap.size ≠ w4.heap.size := by omega
    have HB := Lib.hid B4
    clear B3 B4
    go_wp2_with fail
    refine bodyPost_ret (v := P5 ⟨m, ac, bk, e, u⟩) (by simp [results, Tryz.results48, go_sem, q0, q1, q2, q3, q4]) rfl ?_
    refine ⟨_, p + 1 + 1, hs, by omega, rfl, ?hd, ?hg⟩
    case hd =>
      iterate 5 (refine Draw.put ?_ (by dsimp only; omega) _)
      exact HB.out.drw.draw
    case hg =>
      iterate 5 (refine gset ?_ (Nat.le_refl _) _)
      exact HB.out.drw.grew
  by_cases e1 : sw = 1
  · subst e1
    have y0 := B2.one.cell 0 _ rfl
    have y1 := B2.one.cell 1 _ rfl
    have y2 := B2.one.cell 2 _ rfl
    have y3 := B2.one.cell 3 _ rfl
    have y4 := B2.one.cell 4 _ rfl
    go_wp2_with fail
    refine (dpick [ac, 5] 2 B2.drw.draw (by omega) (by omega) (by omega) rfl 2).mono ?_
    rintro r w6 ⟨y, hy, rfl, D3, O3⟩
    have B3 := (B2.alloc (.cells #[.int .i64 ac, .int .i64 5] 2)).only O3 D3 (by omega) (by omega)
    have B4 := B3.put 2 (.int .i64 y) (by omega) (by omega) (by omega)
    clear B2 D3 O3 hy y0 y1 y2 y3 y4
    have q0 := B3.drw.res.cell 0 _ rfl
    have q1 := B3.drw.res.cell 1 _ rfl
    have q2 := B3.drw.res.cell 2 _ rfl
    have q3 := B3.drw.res.cell 3 _ rfl
    have q4 := B3.drw.res.cell 4 _ rfl
    have z0 := B3.drw.res.free 0 _ rfl
    have z1 := B3.drw.res.free 1 _ rfl
    have z2 := B3.drw.res.free 2 _ rfl
    have z3 := B3.drw.res.free 3 _ rfl
    have z4 := B3.drw.res.free 4 _ rfl
    have x0 := B3.one.cell 0 _ rfl
    have x1 := B3.one.cell 1 _ rfl
    have x2 := B3.one.cell 2 _ rfl
    have x3 := B3.one.cell 3 _ rfl
    have x4 := B3.one.cell 4 _ rfl
    have f0 := B3.one.free 0 _ rfl
    have f1 := B3.one.free 1 _ rfl
    have f2 := B3.one.free 2 _ rfl
    have f3 := B3.one.free 3 _ rfl
    have f4 := B3.one.free 4 _ rfl
    have hrb : w.heap.size ≠ w4.heap.size := by omega
    have HB := Lib.hid B4
    clear B3 B4
    go_wp2_with fail
    refine bodyPost_ret (v := P5 ⟨n, ac, y, e, u⟩) (by simp [results, Tryz.results48, go_sem, q0, q1, q2, q3, q4]) rfl ?_
    refine ⟨_, p + 1 + 1, hn, by omega, rfl, ?hd, ?hg⟩
    case hd =>
      iterate 5 (refine Draw.put ?_ (by dsimp only; omega) _)
      exact HB.out.drw.draw
    case hg =>
      iterate 5 (refine gset ?_ (Nat.le_refl _) _)
      exact HB.out.drw.grew
  by_cases e2 : sw = 2
  · subst e2
    go_wp2_with fail
    refine (dpick [0, 200, 201] 3 B2.drw.draw (by omega) (by omega) (by omega) rfl 2).mono ?_
    rintro r w6 ⟨y, hy, rfl, D3, O3⟩
    have B3 := (B2.alloc (.cells #[.int .i64 0, .int .i64 200, .int .i64 201] 2)).only O3 D3 (by omega) (by omega)
    have B4 := B3.put 3 (.int .i64 y) (by omega) (by omega) (by omega)
    clear B2 D3 O3 hy
    have q0 := B3.drw.res.cell 0 _ rfl
    have q1 := B3.drw.res.cell 1 _ rfl
    have q2 := B3.drw.res.cell 2 _ rfl
    have q3 := B3.drw.res.cell 3 _ rfl
    have q4 := B3.drw.res.cell 4 _ rfl
    have z0 := B3.drw.res.free 0 _ rfl
    have z1 := B3.drw.res.free 1 _ rfl
    have z2 := B3.drw.res.free 2 _ rfl
    have z3 := B3.drw.res.free 3 _ rfl
    have z4 := B3.drw.res.free 4 _ rfl
    have x0 := B3.one.cell 0 _ rfl
    have x1 := B3.one.cell 1 _ rfl
    have x2 := B3.one.cell 2 _ rfl
    have x3 := B3.one.cell 3 _ rfl
    have x4 := B3.one.cell 4 _ rfl
    have f0 := B3.one.free 0 _ rfl
    have f1 := B3.one.free 1 _ rfl
    have f2 := B3.one.free 2 _ rfl
    have f3 := B3.one.free 3 _ rfl
    have f4 := B3.one.free 4 _ rfl
    have hrb : w.heap.size ≠ w4.heap.size := by omega
    have HB := Lib.hid B4
    clear B3 B4
    go_wp2_with fail
    refine bodyPost_ret (v := P5 ⟨n, ac, bk, y, u⟩) (by simp [results, Tryz.results48, go_sem, q0, q1, q2, q3, q4]) rfl ?_
    refine ⟨_, p + 1 + 1, hn, by omega, rfl, ?hd, ?hg⟩
    case hd =>
      iterate 5 (refine Draw.put ?_ (by dsimp only; omega) _)
      exact HB.out.drw.draw
    case hg =>
      iterate 5 (refine gset ?_ (Nat.le_refl _) _)
      exact HB.out.drw.grew
  by_cases e3 : sw = 3
  · subst e3
    go_wp2_with fail
    refine (dpick [-1, 10000] 2 B2.drw.draw (by omega) (by omega) (by omega) rfl 2).mono ?_
    rintro r w6 ⟨y, hy, rfl, D3, O3⟩
    have B3 := (B2.alloc (.cells #[.int .i64 (-1), .int .i64 10000] 2)).only O3 D3 (by omega) (by omega)
    have B4 := B3.put 4 (.int .i64 y) (by omega) (by omega) (by omega)
    clear B2 D3 O3 hy
    have q0 := B3.drw.res.cell 0 _ rfl
    have q1 := B3.drw.res.cell 1 _ rfl
    have q2 := B3.drw.res.cell 2 _ rfl
    have q3 := B3.drw.res.cell 3 _ rfl
    have q4 := B3.drw.res.cell 4 _ rfl
    have z0 := B3.drw.res.free 0 _ rfl
    have z1 := B3.drw.res.free 1 _ rfl
    have z2 := B3.drw.res.free 2 _ rfl
    have z3 := B3.drw.res.free 3 _ rfl
    have z4 := B3.drw.res.free 4 _ rfl
    have x0 := B3.one.cell 0 _ rfl
    have x1 := B3.one.cell 1 _ rfl
    have x2 := B3.one.cell 2 _ rfl
    have x3 := B3.one.cell 3 _ rfl
    have x4 := B3.one.cell 4 _ rfl
    have f0 := B3.one.free 0 _ rfl
    have f1 := B3.one.free 1 _ rfl
    have f2 := B3.one.free 2 _ rfl
    have f3 := B3.one.free 3 _ rfl
    have f4 := B3.one.free 4 _ rfl
    have hrb : w.heap.size ≠ w4.heap.size := by omega
    have HB := Lib.hid B4
    clear B3 B4
    go_wp2_with fail
    refine bodyPost_ret (v := P5 ⟨n, ac, bk, e, y⟩) (by simp [results, Tryz.results48, go_sem, q0, q1, q2, q3, q4]) rfl ?_
    refine ⟨_, p + 1 + 1, hn, by omega, rfl, ?hd, ?hg⟩
    case hd =>
      iterate 5 (refine Draw.put ?_ (by dsimp only; omega) _)
      exact HB.out.drw.draw
    case hg =>
      iterate 5 (refine gset ?_ (Nat.le_refl _) _)
      exact HB.out.drw.grew
  · have n0 : (sw == 0) = false := by rw [beq_eq_false_iff_ne]; exact e0
    have n1 : (sw == 1) = false := by rw [beq_eq_false_iff_ne]; exact e1
    have n2 : (sw == 2) = false := by rw [beq_eq_false_iff_ne]; exact e2
    have n3 : (sw == 3) = false := by rw [beq_eq_false_iff_ne]; exact e3
    have B4 := B2
    have q0 := B2.drw.res.cell 0 _ rfl
    have q1 := B2.drw.res.cell 1 _ rfl
    have q2 := B2.drw.res.cell 2 _ rfl
    have q3 := B2.drw.res.cell 3 _ rfl
    have q4 := B2.drw.res.cell 4 _ rfl
    have z0 := B2.drw.res.free 0 _ rfl
    have z1 := B2.drw.res.free 1 _ rfl
    have z2 := B2.drw.res.free 2 _ rfl
    have z3 := B2.drw.res.free 3 _ rfl
    have z4 := B2.drw.res.free 4 _ rfl
    have x0 := B2.one.cell 0 _ rfl
    have x1 := B2.one.cell 1 _ rfl
    have x2 := B2.one.cell 2 _ rfl
    have x3 := B2.one.cell 3 _ rfl
    have x4 := B2.one.cell 4 _ rfl
    have f0 := B2.one.free 0 _ rfl
    have f1 := B2.one.free 1 _ rfl
    have f2 := B2.one.free 2 _ rfl
    have f3 := B2.one.free 3 _ rfl
    have f4 := B2.one.free 4 _ rfl
    have hrb : w.heap.size ≠ w4.heap.size := by omega
    have HB := Lib.hid B4
    clear B2 B4
    go_wp2_with fail
    refine bodyPost_ret (v := P5 ⟨n, ac, bk, e, u⟩) (by simp [results, Tryz.results48, go_sem, q0, q1, q2, q3, q4]) rfl ?_
    refine ⟨_, p + 1, hn, by omega, rfl, ?hd, ?hg⟩
    case hd =>
      iterate 5 (refine Draw.put ?_ (by dsimp only; omega) _)
      exact HB.out.drw.draw
    case hg =>
      iterate 5 (refine gset ?_ (Nat.le_refl _) _)
      exact HB.out.drw.grew
end Go.Proofs.YtmdknbgpddnplaaGreatDoor
namespace Go.Proofs.YtmdknbgpddnplaaGreatDoor
open Go.RowKit
set_option maxRecDepth 100000
set_option linter.unusedVariables false

theorem l1Digits_any (k : Nat) (w : World) (hk : k < 10) : Calls Tryz.prog 101 #[.int .i64 k] w fun e w' => ∃ t : ByteArray, t.size = 1 ∧ e = .returned (.string t) ∧ Below w.heap.size w w' := by
  have hO := own_lit (k := .u8) w [48 + (k : Int)] 1 5 (B := w.heap.size) (Nat.le_refl _) rfl (by simp only [maxLen]; omega)
  have hrow := Own.row hO (by intro z hz; simp at hz; subst hz; exact byte_wf (show M.byteB _ by unfold M.byteB; omega))
  have cv : (convert 22 9 (.slice (some ⟨w.heap.size, 0, none⟩) 1 1)).run Tryz.prog (w.alloc (.cells #[.int .u8 (48 + (k : Int))] 5)) = .ok (.string (strOf [48 + (k : Int)])) (w.alloc (.cells #[.int .u8 (48 + (k : Int))] 5)) := conv_row hrow
  have hs : (strOf [48 + (k : Int)]).size = 1 := rfl
  have hb := bal (Below.refl _ w) (.cells #[.int .u8 (48 + (k : Int))] 5)
  have HS := Lib.hid hs
  generalize strOf [48 + (k : Int)] = tx at *
  clear hO hrow hs
  have hk2 : (k : Int) < 10 := by omega
  go_enter Tryz.func101, Tryz.ntmps101
  go_wp2_with fail
  go_ret
  exact ⟨tx, HS.out, rfl, hb⟩

/-- Pins were drawn. -/
def DPins (K : Nat) (Q : List PinD → Prop) (w0 : World) (a : Option Addr) (len cap : Nat) (zs : List Int) (w : World) (e : Ending) (w' : World) : Prop :=
  ∃ (x : Option Addr) (n c : Nat) (ps : List PinD) (p : Nat), Q ps ∧ p ≤ K ∧ e = .returned (.slice x n c) ∧ OwnP w' w.heap.size (.slice x n c) ps ∧ Draw w0 a len cap zs p w' ∧ w.grownBy w' (some w0.heap.size)
theorem put1_ok {ps : List PinD} {q : PinD} (h : ∀ p ∈ ps, p.f = 0) (hq : q.f = 0) : (∀ p ∈ put1 ps q, p.f = 0) ∧ (put1 ps q).length ≤ ps.length + 1 := by
  unfold put1
  split
  · refine ⟨fun p hp => ?_, ?_⟩
    · rcases putL_mem hp with rfl | hp
      · exact hq
      · exact h p hp
    · have h2 := (putG_perm q ps).length_eq
      have h3 := List.length_filter_le (fun x => !decide (x.nm = q.nm)) ps
      unfold putL
      simp only [List.length_cons] at h2
      omega
  · exact ⟨by simp, by simp⟩
structure DLoop (w0 : World) (a : Option Addr) (len cap : Nat) (zs : List Int) (p0 : Nat) (w : World) (k : Nat) (x : Option Addr) (n c : Nat) (ps : List PinD) (cur : World) : Prop where
  draw : ∃ p, p + 6 * k ≤ p0 + 25 ∧ Draw w0 a len cap zs p cur
  grew : w.grownBy cur (some w0.heap.size)
  own : OwnP cur w.heap.size (.slice x n c) ps
  ok : ∀ p ∈ ps, p.f = 0
  few : ps.length + k ≤ 4
set_option maxHeartbeats 1000000 in
theorem dl7DrawPins {w0 : World} {a : Option Addr} {len cap : Nat} {zs : List Int} {p0 : Nat} {w : World} (D : Draw w0 a len cap zs p0 w) (hp0 : p0 ≤ 400) :
    Calls Tryz.prog 100 #[.pointer (some ⟨w0.heap.size, 0, none⟩)] w (DPins (p0 + 25) (fun ps => (∀ p ∈ ps, p.f = 0) ∧ ps.length ≤ 4) w0 a len cap zs w) := by
  have hlt := D.lt
  go_enter Tryz.func100, Tryz.ntmps100
  have O0 : OwnP (w.alloc (.cells #[] 25)) w.heap.size (.slice (some ⟨w.heap.size, 0, none⟩) 0 0) [] := Own.made w #[] 25 0 (Nat.le_refl _) (by simp) rfl
  go_wp2_with fail
  refine (dnext 5 (D.alloc _) (by omega)).mono ?_
  rintro r w1 ⟨v, v0, v1, rfl, D1, O1⟩
  have hv : v < 5 := by omega
  obtain ⟨v, rfl⟩ := Int.eq_ofNat_of_zero_le v0
  have T0 : DLoop w0 a len cap zs p0 w v (some ⟨w.heap.size, 0, none⟩) 0 0 [] w1 := ⟨⟨_, by omega, D1⟩, gtr (gal (World.grownBy.refl w _) _) O1.grown, Own.only O0 O1 (by omega), by simp, by simp; omega⟩
  clear O0 D D1 O1 v0 v1
  go_wp2_with fail
  go_loopw [3, 4] (fun x i wr => ∃ (k : Nat) (b : Option Addr) (n c : Nat) (ps : List PinD), k ≤ 4 ∧ i = .int .i64 k ∧ x = .slice b n c ∧ DLoop w0 a len cap zs p0 w k b n c ps wr) (fun _ i _ => (intOf i).toNat)
  case atStart => exact ⟨v, _, _, _, _, by omega, rfl, rfl, T0⟩
  case round =>
    obtain ⟨k, b, n, c, ps, hk, rfl, rfl, hT⟩ := hrel
    clear T0
    by_cases h0 : k = 0
    · subst h0
      obtain ⟨p, hp, DD⟩ := hT.draw
      have F := Lib.hid (show DPins (p0 + 25) (fun ps => (∀ p ∈ ps, p.f = 0) ∧ ps.length ≤ 4) w0 a len cap zs w (.returned (.slice b n c)) wr from ⟨b, n, c, ps, p, ⟨hT.ok, hT.few⟩, by omega, rfl, hT.own, DD, hT.grew⟩)
      clear hT DD
      go_wp2_with fail
      go_ret
      exact F.out
    · have hk0 : (0 : Int) < k := by omega
      obtain ⟨p, hp, DD⟩ := hT.draw
      have hgt : ∀ {u1 u2 : World} {v : Value} {qs : List PinD}, OwnP u1 w.heap.size v qs → u1.grownBy u2 (some w0.heap.size) → OwnP u2 w.heap.size v qs := fun h g => Own.keep h g.size fun k hk => g.block k (Own.lt h k hk).2 (fun e => by injection e with e; have := (Own.lt h k hk).1; omega)
      go_wp2_with fail
      refine (dl7Draw DD (by omega)).mono ?_
      rintro r w2 ⟨q, p2, hq, hp2, rfl, D2, g2⟩
      have Q2 := hgt hT.own g2
      have G2 := gtr hT.grew g2
      have hok := hT.ok
      have hfew := hT.few
      have R2 := Q2.row (fun x hx => by have := pin_size (hok x hx); simp only [maxLen]; omega)
      have hnl : n ≤ 1000 := by have := R2.length; omega
      have PT := l7Put_any b n c _ ps q w2 R2 (Nat.le_refl _) hnl
      have h1 := put1_ok hok hq
      clear DD g2 hT
      go_wp2_with fail
      refine PT.mono ?_
      rintro r w3 ⟨x3, n3, c3, rfl, O3, b3⟩
      clear PT R2
      by_cases hc : put0 ps q = 0
      · have T3 : DLoop w0 a len cap zs p0 w (k - 1) x3 n3 c3 (put1 ps q) w3 := ⟨⟨_, by omega, D2.below b3⟩, gbe G2 b3, O3.less G2.size, h1.1, by omega⟩
        clear D2 G2 Q2 b3 O3 h1
        rw [hc]
        go_wp2_with fail
        go_roundw
        case rel => exact ⟨k - 1, _, _, _, _, by omega, by go_num, rfl, T3⟩
        case measure => simp [intOf]; omega
      · have T3 : DLoop w0 a len cap zs p0 w (k - 1) b n c ps w3 := ⟨⟨_, by omega, D2.below b3⟩, gbe G2 b3, Q2.below b3, hok, by omega⟩
        have hc2 : (put0 ps q == 0) = false := by rw [beq_eq_false_iff_ne]; exact hc
        generalize put0 ps q = pc at *
        clear D2 G2 Q2 b3 O3 h1
        go_wp2_with fail
        go_roundw
        case rel => exact ⟨k - 1, _, _, _, _, by omega, by go_num, rfl, T3⟩
        case measure => simp [intOf]; omega
theorem gown {w u u' : World} {g : Nat} {row : Option Nat} (h : w.grownBy u (some g)) (k : u.grownBy u' row) (hr : ∀ i, row = some i → w.heap.size ≤ i) : w.grownBy u' (some g) :=
  ⟨k.os.trans h.os, k.tape.trans h.tape, k.output.trans h.output, Nat.le_trans h.size k.size, fun i hi hne => (k.block i (Nat.lt_of_lt_of_le hi h.size) (fun e => by have := hr i e.symm; omega)).trans (h.block i hi hne)⟩
structure DList (w0 : World) (a : Option Addr) (len cap : Nat) (zs : List Int) (p : Nat) (w : World) (v : Value) (ps : List PinD) (cur : World) : Prop where
  draw : Draw w0 a len cap zs p cur
  grew : w.grownBy cur (some w0.heap.size)
  own : OwnP cur w.heap.size v ps
theorem DList.app {w0 : World} {a : Option Addr} {len cap : Nat} {zs : List Int} {p : Nat} {w : World} {v v3 : Value} {ps : List PinD} {cur w3 : World} {o : Obj} {q : PinD} (h : DList w0 a len cap zs p w v ps cur) (hw : w0.heap.size < w.heap.size)
    (hown : Own w3 w.heap.size 5 v3 (ps.length + 1) (flat ps ++ q.vals)) (hg : (cur.alloc o).grownBy w3 v.ownBlock) : DList w0 a len cap zs p w v3 (ps ++ [q]) w3 := by
  have hl := fun k hk => (Own.lt h.own k hk).1
  refine ⟨(h.draw.alloc o).grown hg (fun k hk => by have := hl k hk; omega), gown (gal h.grew o) hg hl, ?_⟩
  unfold OwnP
  rw [flat_append, List.length_append]
  simpa [flat] using hown
theorem own_cells (w : World) (xs : List Value) (n s : Nat) (t : TypeId) (hl : xs.length = n * s) (hm : n ≤ maxLen) : Own (w.alloc (.cells xs.toArray t)) w.heap.size s (.slice (some ⟨w.heap.size, 0, none⟩) n n) n xs :=
  ⟨hl, .inr ⟨w.heap.size, n, rfl, Nat.le_refl _, by simp, Nat.le_refl _, hm, fun j u hu => (At.new w xs t).cell j u hu, fun j hj => by
    have h1 := (At.new w xs t).cell j (xs[j]'(by omega)) (by simp [show j < xs.length by omega])
    exact ⟨by rw [h1]; rfl, (At.new w xs t).free j (xs[j]'(by omega)) (by simp [show j < xs.length by omega])⟩⟩⟩
set_option maxHeartbeats 2000000 in
theorem dl7BentPins {w0 : World} {a : Option Addr} {len cap : Nat} {zs : List Int} {p0 : Nat} {w : World} (D : Draw w0 a len cap zs p0 w) (hp0 : p0 ≤ 400) :
    Calls Tryz.prog 53 #[.pointer (some ⟨w0.heap.size, 0, none⟩)] w (DPins (p0 + 40) (fun ps => (∀ p ∈ ps, p.n.size ≤ 21) ∧ ps.length ≤ 5) w0 a len cap zs w) := by
  have hlt := D.lt
  have hgt : ∀ {u1 u2 : World} {v : Value} {qs : List PinD}, OwnP u1 w.heap.size v qs → u1.grownBy u2 (some w0.heap.size) → OwnP u2 w.heap.size v qs := fun h g => Own.keep h g.size fun k hk => g.block k (Own.lt h k hk).2 (fun e => by injection e with e; have := (Own.lt h k hk).1; omega)
  obtain ⟨i0, hi0, hz0, hz1, hz2⟩ := info_parts pin_info
  go_enter Tryz.func53, Tryz.ntmps53
  go_wp2_with fail
  refine (dl7DrawPins D hp0).mono ?_
  rintro r w1 ⟨x, n, c, ps, p, ⟨hok, hfew⟩, hp, rfl, O1, D1, g1⟩
  have hsz : ∀ q ∈ ps, q.n.size ≤ 21 := fun q hq => by have := pin_size (hok q hq); omega
  have HSZ := Lib.hid hsz
  clear D hok hsz
  go_wp2_with fail
  refine (dnext 12 D1 (by omega)).mono ?_
  rintro r w2 ⟨sw, t0, t1, rfl, D2, O2⟩
  have Q2 := hgt O1 O2.grown
  have G2 := gtr g1 O2.grown
  clear O1 D1 g1 O2 t1
  by_cases e0 : sw = 0
  · subst e0
    go_wp2_with fail
    refine (dl7Bent D2 (by omega)).mono ?_
    rintro r w3' ⟨q, p3, hq, hp3, rfl, D3, g3⟩
    have L3 : DList w0 a len cap zs p3 w (.slice x n c) ps w3' := ⟨D3, gtr G2 g3, hgt Q2 g3⟩
    have sz3 := L3.grew.size
    have HQ := Lib.hid hq
    clear D3 g3 Q2 G2 D2 hq
    go_wp2_with (at_builtin; refine wpList_append_src _ rfl (.tmp 11) (.tmp 14) 33 33 rfl w.heap.size 25 i0 (P5 pin0) 5 48 Tryz.underlying33 hi0 hz0 hz1 hz2 rfl _ _ _ rfl (Own.alloc L3.own _) _ 1 (PinD.vals q) rfl (src_new5 _ q _ _ _ Tryz.underlying33) (by simp only [maxLen]; omega) (by omega) (by simp; omega) ?_; intro v3 w3 hown hgrow hat)
    have L4 := L3.app hlt hown hgrow
    obtain ⟨x4, c4, e4, -⟩ := L4.own.form
    subst e4
    clear hown hgrow hat L3 hi0 hz0 hz1 hz2
    go_wp2_with fail
    go_ret
    exact ⟨_, _, _, ps ++ [q], _, ⟨fun y hy => by rcases List.mem_append.1 hy with hy | hy; exact HSZ.out y hy; simp at hy; subst hy; exact HQ.out, by simp; omega⟩, by omega, rfl, L4.own, L4.draw, L4.grew⟩
  by_cases e1 : sw = 1
  · subst e1
    have hmk : (Instr.makeSlice 33 (.int .i64 5) (.int .i64 5)).run Tryz.prog w2 = .ok (.slice (some ⟨w2.heap.size, 0, none⟩) 5 5) (w2.alloc (.cells (flat (List.replicate 5 pin0)).toArray 25)) := by
      have := run_make (P := Tryz.prog) w2 33 25 i0 (P5 pin0) Tryz.underlying33 hi0 hz0 .i64 .i64 5 5 (by omega) (by omega) (by rw [hz2]; omega) (by omega)
      rw [hz1] at this
      have e5 : madeCells (P5 pin0).cells (Int.toNat 5 * 5) = (flat (List.replicate 5 pin0)).toArray := by kernel_rfl
      rw [e5] at this
      exact this
    have O5 : OwnP (w2.alloc (.cells (flat (List.replicate 5 pin0)).toArray 25)) w2.heap.size (.slice (some ⟨w2.heap.size, 0, none⟩) 5 5) (List.replicate 5 pin0) := own_cells w2 (flat (List.replicate 5 pin0)) 5 5 25 rfl (by simp only [maxLen]; omega)
    have F : DPins (p0 + 40) (fun ps => (∀ p ∈ ps, p.n.size ≤ 21) ∧ ps.length ≤ 5) w0 a len cap zs w (.returned (.slice (some ⟨w2.heap.size, 0, none⟩) 5 5)) (w2.alloc (.cells (flat (List.replicate 5 pin0)).toArray 25)) :=
      ⟨_, _, _, List.replicate 5 pin0, _, ⟨fun y hy => by rw [List.eq_of_mem_replicate hy]; exact Nat.zero_le _, by simp⟩, by omega, rfl, O5.less G2.size, D2.alloc _, gal G2 _⟩
    have HF := Lib.hid F
    generalize w2.alloc (.cells (flat (List.replicate 5 pin0)).toArray 25) = w5 at *
    clear F O5 hi0 hz0 hz1 hz2 Q2 G2 D2
    go_wp2_with fail
    go_ret
    exact HF.out
  by_cases e2 : sw = 2
  · subst e2
    have T0 : DList w0 a len cap zs (p + 1) w (.slice none 0 0) [] w2 := ⟨D2, G2, OwnP.nil _ _⟩
    clear Q2 D2 G2
    go_wp2_with fail
    go_loopw [3, 4] (fun v i wr => ∃ (k : Nat) (qs : List PinD), k ≤ 4 ∧ i = .int .i64 k ∧ qs.length = k ∧ (∀ q ∈ qs, q.n.size ≤ 21) ∧ DList w0 a len cap zs (p + 1) w v qs wr) (fun _ i _ => 4 - (intOf i).toNat)
    case atStart => exact ⟨0, [], by omega, rfl, rfl, by simp, T0⟩
    case round =>
      obtain ⟨k, qs, hk, rfl, hql, hqs, hT⟩ := hrel
      clear T0
      obtain ⟨vx, vc, hv, -⟩ := hT.own.form
      subst hv
      by_cases hk4 : k < 4
      · have hk4' : (k : Int) < 4 := by omega
        have HQ := Lib.hid hqs
        have HQL := Lib.hid hql
        clear hqs
        have DG := l1Digits_any k wr (by omega)
        go_wp2_with fail
        refine DG.mono ?_
        rintro r u1 ⟨tx, htx, rfl, b1⟩
        have hT1 : DList w0 a len cap zs (p + 1) w (.slice vx qs.length vc) qs u1 := ⟨hT.draw.below b1, gbe hT.grew b1, hT.own.below b1⟩
        have hsum : (⟨#[110]⟩ : ByteArray).size + tx.size ≤ 9223372036854775807 := by show 1 + tx.size ≤ _; omega
        have hadd := run_string_add_sum (P := Tryz.prog) u1 ⟨#[110]⟩ tx hsum
        have hns : ((⟨#[110]⟩ : ByteArray) ++ tx).size ≤ 21 := by
          have : ((⟨#[110]⟩ : ByteArray) ++ tx).size = 1 + tx.size := by simp [ByteArray.size_append]; rfl
          omega
        have HNS := Lib.hid hns
        have sz1 := hT1.grew.size
        clear hT DG b1 hns hql htx hsum
        generalize (⟨#[110]⟩ : ByteArray) ++ tx = nm at *
        have hqn : qs.length ≤ 4 := by have := HQL.out; omega
        go_wp2_with (at_builtin; refine wpList_append_src _ rfl (.tmp 25) (.tmp 30) 33 33 rfl w.heap.size 25 i0 (P5 pin0) 5 48 Tryz.underlying33 hi0 hz0 hz1 hz2 rfl _ _ _ rfl (Own.alloc hT1.own _) _ 1 (PinD.vals (PinD.mk nm 4 0 1 0)) rfl (src_new5 _ (PinD.mk nm 4 0 1 0) _ _ _ Tryz.underlying33) (by simp only [maxLen]; omega) (by omega) (by simp; omega) ?_; intro v3 w3 hown hgrow hat)
        have L4 := hT1.app hlt hown hgrow
        clear hown hgrow hat hT1
        go_wp2_with fail
        go_roundw
        case rel => exact ⟨k + 1, _, by omega, by go_num, by rw [List.length_append, HQL.out]; rfl, fun y hy => by rcases List.mem_append.1 hy with hy | hy; exact HQ.out y hy; simp at hy; subst hy; exact HNS.out, L4⟩
        case measure => simp [intOf]; omega
      · obtain rfl : k = 4 := by omega
        clear hi0 hz0 hz1 hz2
        have F := Lib.hid (show DPins (p0 + 40) (fun ps => (∀ p ∈ ps, p.n.size ≤ 21) ∧ ps.length ≤ 5) w0 a len cap zs w (.returned (.slice vx qs.length vc)) wr from ⟨_, _, _, qs, _, ⟨hqs, by omega⟩, by omega, rfl, hT.own, hT.draw, hT.grew⟩)
        clear hT hqs hql
        go_wp2_with fail
        go_ret
        exact F.out
  · have n0 : (sw == 0) = false := by rw [beq_eq_false_iff_ne]; exact e0
    have n1 : (sw == 1) = false := by rw [beq_eq_false_iff_ne]; exact e1
    have n2 : (sw == 2) = false := by rw [beq_eq_false_iff_ne]; exact e2
    clear hi0 hz0 hz1 hz2
    go_wp2_with fail
    go_ret
    exact ⟨_, _, _, ps, _, ⟨HSZ.out, by omega⟩, by omega, rfl, Q2, D2, G2⟩
end Go.Proofs.YtmdknbgpddnplaaGreatDoor
