/- Texts of this seat that several laws rest on, laid into one. Conditions: as each theorem states. -/
import Derived.Test.YtepailfhagaboaaGreatDoorPk0
import Derived.LaidEql
import Derived.Stop.Asserts
import Derived.RowKitTokens
import Derived.Laws.IdiomCopy
import Derived.Defers
import Derived.Recover
namespace Go.Proofs.YtepailfhagaboaaGreatDoor
open Go.RowKit
set_option maxRecDepth 100000

/-- The slice v holds the rows, each of them a slice of bytes of the call's own, none of them in v's own block. -/
structure Own2 (w : World) (B : Nat) (v : Value) (rows : List (Value × List Int)) : Prop where
  own : Own w B 1 v rows.length (rows.map (·.1))
  each : ∀ x ∈ rows, ∃ a n c, x.1 = .slice a n c ∧ OwnK .u8 w B (.slice a n c) x.2 ∧ ∀ z ∈ x.2, (Lit.int .u8 z).wf = true
  apart : ∀ x ∈ rows, ∀ k, x.1.ownBlock = some k → v.ownBlock ≠ some k
section
variable {w w' : World} {B : Nat} {v : Value} {rows : List (Value × List Int)}
theorem Own2.keep (h : Own2 w B v rows) (hs : w.heap.size ≤ w'.heap.size) (hk : ∀ k, B ≤ k → k < w.heap.size → w'.heap[k]? = w.heap[k]?) : Own2 w' B v rows :=
  ⟨h.own.keep hs fun k e => hk k (h.own.lt k e).1 (h.own.lt k e).2, fun x hx => by
    obtain ⟨a, n, c, e, o, z⟩ := h.each x hx
    exact ⟨a, n, c, e, o.keep hs fun k e => hk k (o.lt k e).1 (o.lt k e).2, z⟩, h.apart⟩
theorem Own2.below (h : Own2 w B v rows) (hb : Below w.heap.size w w') : Own2 w' B v rows := h.keep hb.size fun k _ hk => hb.block k hk
theorem Own2.alloc (h : Own2 w B v rows) (o : Obj) : Own2 (w.alloc o) B v rows := h.below (bal (Below.refl _ _) o)
theorem Own2.kept {g : Nat} (h : Own2 w B v rows) (hg : w.grownBy w' (some g)) (hne : g < B) : Own2 w' B v rows :=
  h.keep hg.size fun k hB hk => hg.block k hk (fun e => by injection e with e; omega)
theorem Own2.only {g : Nat} (h : Own2 w B v rows) (hg : Only g w w') (hne : g < B) : Own2 w' B v rows :=
  h.keep (by rw [hg.size]; exact Nat.le_refl _) fun k hB _ => hg.block k (by omega)
theorem Own2.nil (w : World) (B : Nat) : Own2 w B (.slice none 0 0) [] := ⟨Own.nil _ _ _, (fun _ h => by cases h), (fun _ h => by cases h)⟩
theorem Own2.empty (h : Own w B 1 v 0 []) : Own2 w B v [] := ⟨h, (fun _ h => by cases h), (fun _ h => by cases h)⟩
/-- One more row was appended. -/
theorem Own2.more {w1 w2 : World} {v' : Value} {a : Option Addr} {n c : Nat} {zs : List Int} (h : Own2 w1 B v rows) (ho : OwnK .u8 w1 B (.slice a n c) zs) (hz : ∀ z ∈ zs, (Lit.int .u8 z).wf = true)
    (hne : ∀ k, Value.ownBlock (.slice a n c) = some k → v.ownBlock ≠ some k)
    (hn : Own w2 B 1 v' (rows.length + 1) (rows.map (·.1) ++ [.slice a n c])) (hg : w1.grownBy w2 v.ownBlock) (hat : v'.ownBlock = v.ownBlock ∨ v'.ownBlock = some w1.heap.size) : Own2 w2 B v' (rows ++ [(.slice a n c, zs)]) := by
  have keepRow : ∀ {u : Value} {m : Nat} {xs : List Value}, Own w1 B 1 u m xs → (∀ k, u.ownBlock = some k → v.ownBlock ≠ some k) → Own w2 B 1 u m xs := fun {u m xs} o hne => by
    refine o.keep hg.size fun k hk => hg.block k (o.lt k hk).2 (fun e => hne k hk e.symm)
  have newApart : ∀ {u : Value} {m : Nat} {xs : List Value}, Own w1 B 1 u m xs → (∀ k, u.ownBlock = some k → v.ownBlock ≠ some k) → ∀ k, u.ownBlock = some k → v'.ownBlock ≠ some k := fun {u m xs} o hne k hk => by
    rcases hat with e | e
    · rw [e]; exact hne k hk
    · rw [e]
      intro e2
      injection e2 with e2
      have := (o.lt k hk).2
      omega
  refine ⟨by simpa using hn, fun x hx => ?_, fun x hx k hk => ?_⟩
  · rcases List.mem_append.1 hx with hx | hx
    · obtain ⟨a1, n1, c1, e1, o1, z1⟩ := h.each x hx
      exact ⟨a1, n1, c1, e1, keepRow o1 (by rw [← e1]; exact h.apart x hx), z1⟩
    · simp at hx
      subst hx
      exact ⟨a, n, c, rfl, keepRow ho hne, hz⟩
  · rcases List.mem_append.1 hx with hx | hx
    · obtain ⟨a1, n1, c1, e1, o1, z1⟩ := h.each x hx
      exact newApart o1 (by rw [← e1]; exact h.apart x hx) k (by rw [← e1]; exact hk)
    · simp at hx
      subst hx
      exact newApart ho hne k hk
/-- It can be read. -/
theorem Own2.grid (h : Own2 w B v rows) : ∃ a n c, v = .slice a n c ∧ n = rows.length ∧ Grid w w.heap.size a n c (rows.map (·.2)) := by
  rcases h.own.2 with ⟨rfl, h0⟩ | ⟨g, cap, rfl, hb, hg, h1, h2, hc, _⟩
  · have : rows = [] := List.eq_nil_of_length_eq_zero h0
    subst this
    exact ⟨none, 0, 0, rfl, rfl, Grid.nil _ _⟩
  · refine ⟨some ⟨g, 0, none⟩, rows.length, cap, rfl, rfl, by simp, h1, h2, fun hp => ⟨g, 0, rfl, hg, fun j hj => ?_⟩⟩
    have hx : rows[j] ∈ rows := List.getElem_mem hj
    obtain ⟨a, n, c, e, o, z⟩ := h.each _ hx
    refine ⟨a, n, c, ?_, ?_⟩
    · rw [Nat.zero_add]
      exact hc j _ (by simp [hj, e])
    · have e2 : (rows.map (·.2))[j]?.getD [] = rows[j].2 := by simp [hj]
      rw [e2]
      exact Own.row o z
theorem Own2.rows_wf (h : Own2 w B v rows) : ∀ zs ∈ rows.map (·.2), ∀ z ∈ zs, (Lit.int .u8 z).wf = true := by
  intro zs hzs z hz
  obtain ⟨x, hx, rfl⟩ := List.mem_map.1 hzs
  obtain ⟨_, _, _, _, _, hw⟩ := h.each x hx
  exact hw z hz
/-- n nil rows, newly made. -/
theorem Own2.made (w : World) (n : Nat) (e : TypeId) (hB : B ≤ w.heap.size) (hm : n ≤ maxLen) : Own2 (w.alloc (.cells (madeCells #[.slice none 0 0] n) e)) B (.slice (some ⟨w.heap.size, 0, none⟩) n n) (List.replicate n (.slice none 0 0, [])) := by
  have e1 : (w.alloc (.cells (madeCells #[.slice none 0 0] n) e)).heap[w.heap.size]? = some (.cells (madeCells #[.slice none 0 0] n) e) := (MapKept.heap_alloc w _).1
  have hs : (madeCells #[Value.slice none 0 0] n).size = n := size_madeCells _ _
  refine ⟨⟨by simp, .inr ⟨w.heap.size, n, by simp, hB, by simp, by simp, hm, fun j u hu => ?_, fun j hj => ?_⟩⟩, fun x hx => ?_, fun x hx k hk => ?_⟩
  · unfold World.cell?
    rw [e1]
    have ht := toList_madeCells_one (.slice none 0 0) n
    simp only [Option.isSome_none, Bool.false_eq_true, if_false]
    rw [← Array.getElem?_toList, ht]
    simpa using hu
  · unfold World.cell? World.frozen?
    rw [e1]
    simp [show j < (madeCells #[Value.slice none 0 0] n).size by rw [hs]; omega]
  · obtain ⟨_, rfl⟩ := List.mem_replicate.1 hx
    exact ⟨none, 0, 0, rfl, Own.nil _ _ _, fun _ h => by cases h⟩
  · obtain ⟨_, rfl⟩ := List.mem_replicate.1 hx
    simp [Value.ownBlock] at hk
end
/-- n zero numbers, newly made. -/
theorem OwnK.made (k : IntKind) {B : Nat} (w : World) (n : Nat) (e : TypeId) (hB : B ≤ w.heap.size) (hm : n ≤ maxLen) : OwnK k (w.alloc (.cells (madeCells #[.int k 0] n) e)) B (.slice (some ⟨w.heap.size, 0, none⟩) n n) (List.replicate n 0) := by
  have e1 : (w.alloc (.cells (madeCells #[.int k 0] n) e)).heap[w.heap.size]? = some (.cells (madeCells #[.int k 0] n) e) := (MapKept.heap_alloc w _).1
  have hs : (madeCells #[Value.int k 0] n).size = n := size_madeCells _ _
  refine ⟨by simp, .inr ⟨w.heap.size, n, by simp, hB, by simp, by simp, hm, fun j u hu => ?_, fun j hj => ?_⟩⟩
  · unfold World.cell?
    rw [e1]
    have ht := toList_madeCells_one (.int k 0) n
    simp only [Option.isSome_none, Bool.false_eq_true, if_false]
    rw [← Array.getElem?_toList, ht]
    simpa using hu
  · unfold World.cell? World.frozen?
    rw [e1]
    simp [show j < (madeCells #[Value.int k 0] n).size by rw [hs]; omega]
theorem zeros_wf (k : IntKind) (n : Nat) : ∀ z ∈ List.replicate n (0 : Int), (Lit.int k z).wf = true := by
  intro z hz
  obtain ⟨_, rfl⟩ := List.mem_replicate.1 hz
  cases k <;> decide
end Go.Proofs.YtepailfhagaboaaGreatDoor
namespace Go.Proofs.YtepailfhagaboaaGreatDoor
open Go.RowKit
set_option maxRecDepth 100000

theorem Own.only {g : Nat} {w w' : World} {B size : Nat} {v : Value} {n : Nat} {xs : List Value} (h : Own w B size v n xs) (hO : Only g w w') (hg : g < B) : Own w' B size v n xs :=
  h.keep (by rw [hO.size]; exact Nat.le_refl _) fun k hk => hO.block k (by have := (h.lt k hk).1; omega)
theorem Only.grown {g : Nat} {w w' : World} (h : Only g w w') : w.grownBy w' (some g) := ⟨h.os, h.tape, h.output, by rw [h.size]; exact Nat.le_refl _, fun k _ hne => h.block k (fun e => hne (by rw [e]))⟩
section
variable {w0 : World} {a : Option Addr} {len cap : Nat} {zs : List Int} {p : Nat} {w w' : World}
theorem Draw.lt (h : Draw w0 a len cap zs p w) : w0.heap.size < w.heap.size := h.src.lt
theorem Draw.grown {row : Option Nat} (h : Draw w0 a len cap zs p w) (hg : w.grownBy w' row) (hr : ∀ k, row = some k → w0.heap.size < k) : Draw w0 a len cap zs p w' :=
  ⟨h.src.keep (hg.block _ h.lt (fun e => by have := hr _ e.symm; omega)),
   h.row.keep (fun i hi => hg.block i (by have := h.lt; omega) (fun e => by have := hr _ e.symm; omega)),
   h.bel.grown hg h.bel.size (fun k hk => by have := hr k hk; omega)⟩
end

/-- Bytes that were drawn, in new memory. -/
def DSome (w0 : World) (a : Option Addr) (len cap : Nat) (zs : List Int) (p n : Nat) (w : World) (r : Ending) (w' : World) : Prop :=
  ∃ a' c' zs', r = .returned (.slice a' n c') ∧ OwnK .u8 w' w.heap.size (.slice a' n c') zs' ∧ (∀ z ∈ zs', (Lit.int .u8 z).wf = true) ∧ Draw w0 a len cap zs (p + n) w' ∧ w.grownBy w' (some w0.heap.size)
structure SomeRel (w0 : World) (a : Option Addr) (len cap : Nat) (zs : List Int) (p : Nat) (w : World) (k : Nat) (v : Value) (wr : World) : Prop where
  own : ∃ zs', zs'.length = k ∧ OwnK .u8 wr w.heap.size v zs' ∧ ∀ z ∈ zs', (Lit.int .u8 z).wf = true
  draw : Draw w0 a len cap zs (p + k) wr
  grew : w.grownBy wr (some w0.heap.size)
theorem u8_wf {x : Int} (h0 : 0 ≤ x) (h1 : x < 256) : (Lit.int .u8 x).wf = true := byte_wf ⟨h0, by omega⟩

abbrev labS : List ByteArray := [{ data := #[107, 101, 121] }, { data := #[105, 118] }, { data := #[97] }, { data := #[] }, { data := #[116, 104, 105, 114, 116, 101, 101, 110, 99, 104, 97, 114, 115] }, { data := #[75] }, { data := #[116, 119, 101, 108, 118, 101, 99, 104, 97, 114, 115, 115] }]
theorem labS_size (k : Nat) : ((labS.getD k ByteArray.empty).size) ≤ 13 := by
  rcases Nat.lt_or_ge k 7 with h | h
  · have : ∀ j : Fin 7, ((labS.getD j.val ByteArray.empty).size) ≤ 13 := by decide
    exact this ⟨k, h⟩
  · have : labS.getD k ByteArray.empty = ByteArray.empty := by simp [List.getD, h]
    rw [this]; decide
def DLabel (w0 : World) (a : Option Addr) (len cap : Nat) (zs : List Int) (p : Nat) (w : World) (r : Ending) (w' : World) : Prop :=
  ∃ s : ByteArray, s.size ≤ 13 ∧ r = .returned (.string s) ∧ Draw w0 a len cap zs (p + 1) w' ∧ w.grownBy w' (some w0.heap.size)
def DrawnKL (w : World) (r : Ending) (w' : World) : Prop := ∃ (k : Int) (s : ByteArray), r = .returned (.tuple #[.int .i64 k, .string s]) ∧ s.size ≤ 13 ∧ Below w.heap.size w w'
def DrawnRow (w : World) (r : Ending) (w' : World) : Prop := ∃ a n c zs, r = .returned (.slice a n c) ∧ Row .u8 w' w'.heap.size a n c zs ∧ Below w.heap.size w w'
def DrawnGrid (w : World) (r : Ending) (w' : World) : Prop := ∃ a n c zss, r = .returned (.slice a n c) ∧ Grid w' w'.heap.size a n c zss ∧ Below w.heap.size w w'
def DrawnSI (w : World) (r : Ending) (w' : World) : Prop := ∃ (s : ByteArray) (a : Option Addr) (n c : Nat) (zs : List Int), r = .returned (.tuple #[.string s, .slice a n c]) ∧ s.size ≤ 13 ∧ Row .i64 w' w'.heap.size a n c zs ∧ Below w.heap.size w w'

end Go.Proofs.YtepailfhagaboaaGreatDoor
namespace Go.Proofs.YtepailfhagaboaaGreatDoor
open Go.RowKit
set_option maxRecDepth 100000
set_option linter.unusedVariables false

abbrev bentN : List ByteArray := [{ data := #[97, 46, 98] }, { data := #[65, 46, 66, 46] }, { data := #[109, 97, 105, 108, 46, 120] }, { data := #[45, 97] }, { data := #[97, 45] }, { data := #[97, 46, 46, 98] }, { data := #[46] }, { data := #[] }, { data := #[97, 95, 98] }, { data := #[97, 98, 99, 100, 101, 102, 103, 104, 105, 106, 46, 97, 98, 99, 100, 101, 102, 103, 104, 105] }, { data := #[97, 98, 99, 100, 101, 102, 103, 104, 105, 106, 46, 97, 98, 99, 100, 101, 102, 103, 104, 105, 106] }, { data := #[122, 46] }]
abbrev drawN : List ByteArray := [{ data := #[97, 46, 98] }, { data := #[109, 97, 105, 108, 46, 120] }, { data := #[104, 111, 115, 116, 45, 49] }, { data := #[122] }]
theorem bentN_size (k : Nat) : ((bentN.getD k ByteArray.empty).size) ≤ 21 := by
  rcases Nat.lt_or_ge k 12 with h | h
  · have : ∀ j : Fin 12, ((bentN.getD j.val ByteArray.empty).size) ≤ 21 := by decide
    exact this ⟨k, h⟩
  · have : bentN.getD k ByteArray.empty = ByteArray.empty := by simp [List.getD, h]
    rw [this]; decide
theorem drawN_size (k : Nat) : ((drawN.getD k ByteArray.empty).size) ≤ 20 := by
  rcases Nat.lt_or_ge k 4 with h | h
  · have : ∀ j : Fin 4, ((drawN.getD j.val ByteArray.empty).size) ≤ 20 := by decide
    exact this ⟨k, h⟩
  · have : drawN.getD k ByteArray.empty = ByteArray.empty := by simp [List.getD, h]
    rw [this]; decide
theorem drawN_norm (k : Nat) (h : k < 4) : M.normF (drawN.getD k ByteArray.empty).data.toList = 0 := by
  have : ∀ j : Fin 4, M.normF (drawN.getD j.val ByteArray.empty).data.toList = 0 := by decide +kernel
  exact this ⟨k, h⟩

theorem gtr {w w1 w2 : World} {g : Nat} (h : w.grownBy w1 (some g)) (k : w1.grownBy w2 (some g)) : w.grownBy w2 (some g) := grown_trans h k (fun _ e => .inr e) (fun _ e => .inr e)
theorem gal {w w1 : World} {g : Nat} (h : w.grownBy w1 (some g)) (o : Obj) : w.grownBy (w1.alloc o) (some g) :=
  ⟨h.os, h.tape, h.output, Nat.le_trans h.size (by simp), fun k hk hne => (Below.heap_alloc w1 o k (Nat.lt_of_lt_of_le hk h.size)).trans (h.block k hk hne)⟩
theorem gbe {w w1 w2 : World} {g : Nat} (h : w.grownBy w1 (some g)) (k : Below w1.heap.size w1 w2) : w.grownBy w2 (some g) :=
  ⟨k.os.trans h.os, k.tape.trans h.tape, k.output.trans h.output, Nat.le_trans h.size k.size, fun i hi hne => (k.block i (Nat.lt_of_lt_of_le hi h.size)).trans (h.block i hi hne)⟩
theorem gset {w w1 : World} {g : Nat} (h : w.grownBy w1 (some g)) {p : Addr} (hp : w.heap.size ≤ p.block) (v : Value) : w.grownBy (w1.setCell p v) (some g) :=
  ⟨h.os, h.tape, h.output, by simpa [World.setCell] using h.size, fun k hk hne => (Below.heap_setCell w1 p v k (by omega)).trans (h.block k hk hne)⟩

theorem Draw.put {w0 : World} {a : Option Addr} {len cap : Nat} {zs : List Int} {p : Nat} {w : World} {x : Addr} (h : Draw w0 a len cap zs p w) (hx : w0.heap.size < x.block) (u : Value) : Draw w0 a len cap zs p (w.setCell x u) :=
  h.grown (row := some x.block) ⟨rfl, rfl, rfl, by simp [World.setCell], fun k hk hne => Below.heap_setCell w x u k (fun e => hne (by rw [e]))⟩ (fun k e => by injection e with e; omega)
theorem At.only5 {g g0 : Nat} {cs : List Value} {w w' : World} (h : At g cs w) (hO : Only g0 w w') (hg : g ≠ g0) : At g cs w' := h.keep fun _ => hO.block g hg
/-- A text was drawn. -/
def DText (Q : ByteArray → Prop) (w0 : World) (a : Option Addr) (len cap : Nat) (zs : List Int) (p : Nat) (w : World) (r : Ending) (w' : World) : Prop :=
  ∃ s : ByteArray, Q s ∧ r = .returned (.string s) ∧ Draw w0 a len cap zs (p + 1) w' ∧ w.grownBy w' (some w0.heap.size)
theorem dl5Bent {w0 : World} {a : Option Addr} {len cap : Nat} {zs : List Int} {p : Nat} {w : World} (D : Draw w0 a len cap zs p w) (hp : p ≤ 1000000) :
    Calls Tryz.prog 64 #[.pointer (some ⟨w0.heap.size, 0, none⟩)] w (DText (fun s => s.size ≤ 21) w0 a len cap zs p w) := by
  have hlt := D.lt
  have D1 := D.alloc (.cells (bentN.map Value.string).toArray 9)
  go_enter Tryz.func64, Tryz.ntmps64
  go_wp2_with fail
  refine (dnext _ D1 hp).mono ?_
  rintro r w2 ⟨x, x0, x1, rfl, D2, O2⟩
  obtain ⟨k, rfl⟩ := Int.eq_ofNat_of_zero_le x0
  have hk : k < 12 := by omega
  have hcell : w2.cell? ⟨w.heap.size, k, none⟩ = some (.string (bentN.getD k ByteArray.empty)) := by
    have e1 : (w.alloc (.cells (bentN.map Value.string).toArray 9)).heap[w.heap.size]? = some (.cells (bentN.map Value.string).toArray 9) := (MapKept.heap_alloc w _).1
    have e2 := O2.block w.heap.size (by omega)
    unfold World.cell?
    rw [e2, e1]
    have : k < bentN.length := hk
    simp only [Option.isSome_none, Bool.false_eq_true, if_false, List.getElem?_toArray, List.getElem?_map]
    rw [List.getElem?_eq_getElem this]
    simp [List.getD, List.getElem?_eq_getElem this]
  have hsz := bentN_size k
  generalize bentN.getD k ByteArray.empty = s at hcell hsz
  have HF := Lib.hid (And.intro D2 (grown_alloc O2.grown))
  have HS := Lib.hid hsz
  clear D D1 D2 O2 x0 x1 hsz
  go_wp2_with fail
  go_ret
  exact ⟨s, HS.out, rfl, HF.out.1, HF.out.2⟩

theorem dl5DrawName {w0 : World} {a : Option Addr} {len cap : Nat} {zs : List Int} {p : Nat} {w : World} (D : Draw w0 a len cap zs p w) (hp : p ≤ 1000000) :
    Calls Tryz.prog 56 #[.pointer (some ⟨w0.heap.size, 0, none⟩)] w (DText (fun s => s.size ≤ 20 ∧ M.normF s.data.toList = 0) w0 a len cap zs p w) := by
  have hlt := D.lt
  have D1 := D.alloc (.cells (drawN.map Value.string).toArray 9)
  go_enter Tryz.func56, Tryz.ntmps56
  go_wp2_with fail
  refine (dnext _ D1 hp).mono ?_
  rintro r w2 ⟨x, x0, x1, rfl, D2, O2⟩
  obtain ⟨k, rfl⟩ := Int.eq_ofNat_of_zero_le x0
  have hk : k < 4 := by omega
  have hcell : w2.cell? ⟨w.heap.size, k, none⟩ = some (.string (drawN.getD k ByteArray.empty)) := by
    have e1 : (w.alloc (.cells (drawN.map Value.string).toArray 9)).heap[w.heap.size]? = some (.cells (drawN.map Value.string).toArray 9) := (MapKept.heap_alloc w _).1
    have e2 := O2.block w.heap.size (by omega)
    unfold World.cell?
    rw [e2, e1]
    have : k < drawN.length := hk
    simp only [Option.isSome_none, Bool.false_eq_true, if_false, List.getElem?_toArray, List.getElem?_map]
    rw [List.getElem?_eq_getElem this]
    simp [List.getD, List.getElem?_eq_getElem this]
  have hsz := And.intro (drawN_size k) (drawN_norm k hk)
  generalize drawN.getD k ByteArray.empty = s at hcell hsz
  have HF := Lib.hid (And.intro D2 (grown_alloc O2.grown))
  have HS := Lib.hid hsz
  clear D D1 D2 O2 x0 x1 hsz
  go_wp2_with fail
  go_ret
  exact ⟨s, HS.out, rfl, HF.out.1, HF.out.2⟩

theorem key1 (a b : Int) (w : World) : Sem.run Tryz.prog (Instr.field 96 (.agg #[.int .i64 a, .int .i64 b]) 1) w = .ok (.int .i64 b) w := by kernel_rfl
theorem base_sum (n : Nat) : M.sumB (M.pw 4 n 2879) = true := by
  obtain ⟨h0, h1⟩ := M.pw_bd 4 n (m := 2879) (by omega)
  simp only [M.sumB, decide_eq_true_eq]
  omega
/-- A supplied key was drawn. -/
def DTlsa (K : Nat) (Q : ByteArray → Int → Int → Int → Prop) (w0 : World) (a : Option Addr) (len cap : Nat) (zs : List Int) (w : World) (r : Ending) (w' : World) : Prop :=
  ∃ (n : ByteArray) (u m v : Int) (p : Nat), Q n u m v ∧ p ≤ K ∧ r = .returned (T4 n u m v) ∧ Draw w0 a len cap zs p w' ∧ w.grownBy w' (some w0.heap.size)
end Go.Proofs.YtepailfhagaboaaGreatDoor
namespace Go.Proofs.YtepailfhagaboaaGreatDoor.M

def allB (f : Nat → Bool) : Nat → Bool
  | 0 => true
  | n + 1 => f n && allB f n
theorem allB_out {f : Nat → Bool} {n : Nat} (h : allB f n = true) {k : Nat} (hk : k < n) : f k = true := by
  induction n with
  | zero => omega
  | succ n ih =>
    simp only [allB, Bool.and_eq_true] at h
    rcases Nat.lt_or_ge k n with h1 | h1
    · exact ih h.2 h1
    · obtain rfl : k = n := by omega
      exact h.1

theorem pw_nat (v e m : Nat) : pw v e m = ((v ^ e % m : Nat) : Int) := by
  unfold pw; rw [← Int.natCast_pow, ← Int.natCast_emod]

theorem fermat_all : allB (fun v => v == 0 || v ^ 2878 % 2879 == 1) 2879 = true := by decide +kernel
theorem fermat {v : Int} (h0 : 1 ≤ v) (h1 : v ≤ 2878) : pw v 2878 2879 = 1 := by
  obtain ⟨n, rfl⟩ := Int.eq_ofNat_of_zero_le (show 0 ≤ v by omega)
  have h := allB_out fermat_all (k := n) (by omega)
  simp only [Bool.or_eq_true, beq_iff_eq] at h
  have hn : n ^ 2878 % 2879 = 1 := by
    rcases h with h | h
    · omega
    · exact h
  have := pw_nat n 2878 2879
  rw [hn] at this
  exact this

theorem inv_mul {v : Int} (h0 : 1 ≤ v) (h1 : v ≤ 2878) : v * pw v 2877 2879 % 2879 = 1 := by
  have e : pw v 1 2879 = v := pw_one (by omega) (by omega)
  have := pw_add v 1 2877 2879
  rw [e] at this
  rw [this]
  exact fermat h0 h1
theorem inv_pos {v : Int} (h0 : 1 ≤ v) (h1 : v ≤ 2878) : 1 ≤ pw v 2877 2879 ∧ pw v 2877 2879 ≤ 2878 := by
  have b := pw_bd v 2877 (m := 2879) (by omega)
  have h := inv_mul h0 h1
  have : pw v 2877 2879 ≠ 0 := by
    intro e
    rw [e, Int.mul_zero] at h
    exact absurd h (by decide)
  omega
theorem inv_inv {v : Int} (h0 : 1 ≤ v) (h1 : v ≤ 2878) : pw (pw v 2877 2879) 2877 2879 = v := by
  rw [pw_pw]
  have e : 2877 * 2877 = 2878 * 2876 + 1 := by decide
  rw [e, ← pw_add, ← pw_pw, fermat h0 h1, pw_one_base, pw_one (by omega) (by omega)]
  show 1 * v % 2879 = v
  rw [Int.one_mul]; exact Int.emod_eq_of_lt (by omega) (by omega)

theorem base_order : pw 4 1439 2879 = 1 := by
  have := pw_nat 4 1439 2879
  have e : 4 ^ 1439 % 2879 = 1 := by decide +kernel
  rw [e] at this; exact this
theorem base_all : allB (fun a => a == 0 || (2 ≤ 4 ^ a % 2879 && 4 ^ a % 2879 ≤ 2878)) 1439 = true := by decide +kernel
theorem base_pub (a : Nat) (h0 : 1 ≤ a) (h1 : a ≤ 1438) : 2 ≤ pw 4 a 2879 ∧ pw 4 a 2879 ≤ 2878 := by
  have h := allB_out base_all (k := a) (by omega)
  simp only [Bool.or_eq_true, beq_iff_eq, Bool.and_eq_true, decide_eq_true_eq] at h
  have := pw_nat 4 a 2879
  rw [show ((4 : Nat) : Int) = 4 from rfl, show ((2879 : Nat) : Int) = 2879 from rfl] at this
  rw [this]
  omega
theorem base_mod (n : Nat) : pw 4 n 2879 = pw 4 (n % 1439) 2879 := by
  have e : n = 1439 * (n / 1439) + n % 1439 := by omega
  have h : pw 4 (1439 * (n / 1439)) 2879 = 1 := by rw [← pw_pw, base_order, pw_one_base]; rfl
  have h2 := pw_add 4 (1439 * (n / 1439)) (n % 1439) 2879
  rw [h, ← e, Int.one_mul] at h2
  rw [← h2]
  have b := pw_bd 4 (n % 1439) (m := 2879) (by omega)
  exact Int.emod_eq_of_lt b.1 b.2
theorem base_raised (n : Nat) : pw (pw 4 n 2879) 1439 2879 = 1 := by
  rw [pw_pw, Nat.mul_comm, ← pw_pw, base_order, pw_one_base]; rfl
theorem gcd_all : allB (fun a => a == 0 || Nat.gcd 1439 a == 1) 1439 = true := by decide +kernel
theorem prod_mod {a b : Nat} (a0 : 1 ≤ a) (a1 : a ≤ 1438) (b0 : 1 ≤ b) (b1 : b ≤ 1438) : 1 ≤ a * b % 1439 ∧ a * b % 1439 ≤ 1438 := by
  have h := allB_out gcd_all (k := a) (by omega)
  simp only [Bool.or_eq_true, beq_iff_eq] at h
  have hg : Nat.gcd 1439 a = 1 := by omega
  have hne : a * b % 1439 ≠ 0 := by
    intro e
    have hd : 1439 ∣ b := Nat.Coprime.dvd_of_dvd_mul_left hg (Nat.dvd_of_mod_eq_zero e)
    have := Nat.le_of_dvd (by omega) hd
    omega
  have := Nat.mod_lt (a * b) (show 1439 > 0 by omega)
  omega
theorem shared_eq (a b : Nat) : pw (pw 4 b 2879) a 2879 = pw (pw 4 a 2879) b 2879 := by
  rw [pw_pw, pw_pw, Nat.mul_comm]
theorem shared_bd {a b : Nat} (a0 : 1 ≤ a) (a1 : a ≤ 1438) (b0 : 1 ≤ b) (b1 : b ≤ 1438) : 2 ≤ pw (pw 4 b 2879) a 2879 ∧ pw (pw 4 b 2879) a 2879 ≤ 2878 := by
  have h := prod_mod b0 b1 a0 a1
  rw [pw_pw, base_mod]
  exact base_pub _ h.1 h.2
theorem shared_raised (a b : Nat) : pw (pw (pw 4 b 2879) a 2879) 1439 2879 = 1 := by
  rw [pw_pw 4 b a]; exact base_raised _
end Go.Proofs.YtepailfhagaboaaGreatDoor.M
namespace Go.Proofs.YtepailfhagaboaaGreatDoor
open Go.RowKit

def DSecret (w0 : World) (a : Option Addr) (len cap : Nat) (zs : List Int) (p : Nat) (r : Ending) (w' : World) : Prop :=
  ∃ v : Int, 1 ≤ v ∧ v ≤ 1438 ∧ r = .returned (.int .i64 v) ∧ Draw w0 a len cap zs (p + 1) w'
theorem dsecret {w0 : World} {a : Option Addr} {len cap : Nat} {zs : List Int} {p : Nat} {w : World} (D : Draw w0 a len cap zs p w) (hp : p ≤ 1000000) :
    Calls Tryz.prog 55 #[.pointer (some ⟨w0.heap.size, 0, none⟩)] w (DSecret w0 a len cap zs p) := by
  go_enter Tryz.func55, Tryz.ntmps55
  go_wp2_with fail
  refine (dnext _ D hp).mono ?_
  rintro r w2 ⟨x, x0, x1, rfl, D2, O2⟩
  have x2 : x < 1438 := by omega
  clear O2 x1 D
  go_wp2_with fail
  go_ret
  exact ⟨1 + x, by omega, by omega, rfl, D2⟩

theorem kfld0 (a b : Int) (w : World) : Sem.run Tryz.prog (Instr.field 96 (.agg #[.int .i64 a, .int .i64 b]) 0) w = .ok (.int .i64 a) w := by kernel_rfl
theorem kfld1 (a b : Int) (w : World) : Sem.run Tryz.prog (Instr.field 96 (.agg #[.int .i64 a, .int .i64 b]) 1) w = .ok (.int .i64 b) w := by kernel_rfl

def Secreted (w : World) (r : Ending) (w' : World) : Prop := ∃ v : Int, 1 ≤ v ∧ v ≤ 1438 ∧ r = .returned (.int .i64 v) ∧ Below w.heap.size w w'
theorem invR_form (v : Int) : invR v = (3, 0) ∨ (1 ≤ v ∧ v ≤ 2878 ∧ ∃ V, invR v = (0, V) ∧ 1 ≤ V ∧ V ≤ 2878 ∧ mulR v V 2879 = (0, 1) ∧ invR V = (0, v)) := by
  cases h : inB v 1 2878
  · exact .inl (by simp [invR, h])
  · have h' := h
    simp only [inB, decide_eq_true_eq] at h'
    refine .inr ⟨h'.1, h'.2, M.pw v 2877 2879, by simp [invR, h], ?_⟩
    have b := M.inv_pos h'.1 h'.2
    refine ⟨b.1, b.2, ?_, ?_⟩
    · have : restB v 2879 = true ∧ restB (M.pw v 2877 2879) 2879 = true := by simp only [restB, decide_eq_true_eq]; omega
      simp only [mulR, this.1, this.2, Bool.and_self, if_true, M.inv_mul h'.1 h'.2]
    · have : inB (M.pw v 2877 2879) 1 2878 = true := by simp only [inB, decide_eq_true_eq]; omega
      simp only [invR, this, if_true, M.inv_inv h'.1 h'.2]

theorem pub_base {a : Int} (a0 : 1 ≤ a) (a1 : a ≤ 1438) : pubB (M.pw 4 a.toNat 2879) = true := by
  have h := M.base_pub a.toNat (by omega) (by omega)
  simp only [pubB, inB, Bool.and_eq_true, decide_eq_true_eq, beq_iff_eq]
  exact ⟨h, M.base_raised _⟩
theorem pub_shared {a b : Int} (a0 : 1 ≤ a) (a1 : a ≤ 1438) (b0 : 1 ≤ b) (b1 : b ≤ 1438) : pubB (M.pw (M.pw 4 b.toNat 2879) a.toNat 2879) = true := by
  have h := M.shared_bd (a := a.toNat) (b := b.toNat) (by omega) (by omega) (by omega) (by omega)
  simp only [pubB, inB, Bool.and_eq_true, decide_eq_true_eq, beq_iff_eq]
  exact ⟨h, M.shared_raised _ _⟩

end Go.Proofs.YtepailfhagaboaaGreatDoor
namespace Go.Proofs.YtepailfhagaboaaGreatDoor.M
open Go.Proofs.YtepailfhagaboaaGreatDoor (inB pubB)

def secB (s : Int) : Bool := inB s 1 1438
def nonceN (s t : Int) : Int := 1 + tagL nonceS [s, t] % 1438
def nonceR (s t : Int) : Int × Int := if inB s 1 1438 && sumB t then (0, nonceN s t) else (3, 0)
def chalN (p q t : Int) : Int := tagL signS [p, q, t] % 1439
def pubN (s : Int) : Int := pw 4 s.toNat 2879
def sigPt (s t : Int) : Int := pw 4 (nonceN s t).toNat 2879
def sigPr (s t : Int) : Int := (nonceN s t + chalN (pubN s) (sigPt s t) t * s) % 1439
def signR (s t : Int) : Int × Int × Int := if inB s 1 1438 && sumB t then (0, sigPt s t, sigPr s t) else (3, 0, 0)
/-- A signature without a fault. -/
def sigB (p q : Int) : Bool := pubB p && inB q 0 1438
def sigF (p q : Int) : Int := if sigB p q then 0 else 3
def checkB (u t p q : Int) : Bool := pubB u && sumB t && sigB p q && (pw 4 q.toNat 2879 == p * pw u (chalN u p t).toNat 2879 % 2879)
def packL (p q : Int) : List Int := if sigB p q then two p ++ two q else []
def readP (zs : List Int) : Int := 256 * zs.getD 0 0 + zs.getD 1 0
def readQ (zs : List Int) : Int := 256 * zs.getD 2 0 + zs.getD 3 0
def readB (zs : List Int) : Bool := decide (zs.length = 4) && sigB (readP zs) (readQ zs)
def readR (zs : List Int) : Int × Int × Int := if readB zs then (0, readP zs, readQ zs) else (5, 0, 0)

theorem nonceN_bd (s t : Int) : 1 ≤ nonceN s t ∧ nonceN s t ≤ 1438 := by unfold nonceN; omega
theorem chalN_bd (p q t : Int) : 0 ≤ chalN p q t ∧ chalN p q t ≤ 1438 := by unfold chalN; omega
theorem sigPr_bd (s t : Int) : 0 ≤ sigPr s t ∧ sigPr s t ≤ 1438 := by unfold sigPr; omega
theorem pub_pow {a : Int} (a0 : 1 ≤ a) (a1 : a ≤ 1438) : pubB (pw 4 a.toNat 2879) = true := by
  have h := base_pub a.toNat (by omega) (by omega)
  simp only [pubB, inB, Bool.and_eq_true, decide_eq_true_eq, beq_iff_eq]
  exact ⟨h, base_raised _⟩
theorem sigPt_pub (s t : Int) : pubB (sigPt s t) = true := pub_pow (nonceN_bd s t).1 (nonceN_bd s t).2
theorem sigB_signed (s t : Int) : sigB (sigPt s t) (sigPr s t) = true := by
  have h := sigPr_bd s t
  simp only [sigB, sigPt_pub, inB, Bool.true_and, decide_eq_true_eq]
  exact h
theorem sum_of_pub {p : Int} (h : pubB p = true) : sumB p = true := by
  have := Go.Proofs.YtepailfhagaboaaGreatDoor.pubB_bd h
  simp only [sumB, decide_eq_true_eq]; omega
theorem sum_of_sec {p : Int} (h : inB p 1 1438 = true) : sumB p = true := by
  simp only [inB, decide_eq_true_eq] at h
  simp only [sumB, decide_eq_true_eq]; omega
theorem pow_sum {a : Int} (e : Nat) : sumB (pw a e 2879) = true := by
  have := pw_bd a e (m := 2879) (by omega)
  simp only [sumB, decide_eq_true_eq]; omega

/-- The equation of a signature that was made. -/
theorem sign_eq {s t : Int} (s0 : 1 ≤ s) : pw 4 (sigPr s t).toNat 2879 = sigPt s t * pw (pubN s) (chalN (pubN s) (sigPt s t) t).toNat 2879 % 2879 := by
  have hh := nonceN_bd s t
  have he := chalN_bd (pubN s) (sigPt s t) t
  unfold sigPr
  generalize chalN (pubN s) (sigPt s t) t = e at *
  unfold sigPt pubN
  generalize nonceN s t = h at *
  rw [pw_pw, pw_add]
  rw [base_mod (h.toNat + s.toNat * e.toNat)]
  congr 1
  obtain ⟨h, rfl⟩ := Int.eq_ofNat_of_zero_le (show 0 ≤ h by omega)
  obtain ⟨e, rfl⟩ := Int.eq_ofNat_of_zero_le he.1
  obtain ⟨s, rfl⟩ := Int.eq_ofNat_of_zero_le (show 0 ≤ s by omega)
  have q : ((h : Int) + (e : Int) * (s : Int)) % 1439 = ((h + e * s) % 1439 : Nat) := by simp
  rw [q]
  show (h + e * s) % 1439 = (h + s * e) % 1439
  rw [Nat.mul_comm s e]
theorem checked {s t : Int} (hs : inB s 1 1438 = true) (ht : sumB t = true) : checkB (pubN s) t (sigPt s t) (sigPr s t) = true := by
  have hs' := hs
  simp only [inB, decide_eq_true_eq] at hs'
  have hp : pubB (pubN s) = true := pub_pow hs'.1 hs'.2
  have he := sign_eq (t := t) hs'.1
  simp only [checkB, hp, ht, sigB_signed, Bool.and_self, Bool.true_and, beq_iff_eq]
  exact he
theorem four_moves {q : Int} (q0 : 0 ≤ q) (q1 : q ≤ 1438) : pw 4 ((q + 1) % 1439).toNat 2879 ≠ pw 4 q.toNat 2879 := by
  obtain ⟨q, rfl⟩ := Int.eq_ofNat_of_zero_le q0
  have e : (((q : Int) + 1) % 1439).toNat = (q + 1) % 1439 := by
    have : ((q : Int) + 1) % 1439 = ((q + 1) % 1439 : Nat) := by simp
    rw [this]; rfl
  have e2 : ((q : Int)).toNat = q := rfl
  rw [e, e2, ← base_mod, ← pw_add]
  have h1 : pw 4 1 2879 = 4 := pw_one (by omega) (by omega)
  rw [h1]
  have b := pw_bd 4 q (m := 2879) (by omega)
  have hpos : 1 ≤ pw 4 q 2879 := by
    rcases Nat.eq_zero_or_pos q with h | h
    · subst h; rw [pw_zero]; decide
    · have := (base_pub q h (by omega)).1; omega
  omega
theorem turned {s t : Int} (hs : inB s 1 1438 = true) : checkB (pubN s) t (sigPt s t) ((sigPr s t + 1) % 1439) = false := by
  have hs' := hs
  simp only [inB, decide_eq_true_eq] at hs'
  have he := sign_eq (t := t) hs'.1
  have hq := sigPr_bd s t
  have hm := four_moves hq.1 hq.2
  have : (pw 4 ((sigPr s t + 1) % 1439).toNat 2879 == sigPt s t * pw (pubN s) (chalN (pubN s) (sigPt s t) t).toNat 2879 % 2879) = false := by
    rw [← he, beq_eq_false_iff_ne]; exact hm
  simp only [checkB, this, Bool.and_false]

theorem sigB_bd {p q : Int} (h : sigB p q = true) : 2 ≤ p ∧ p ≤ 2878 ∧ 0 ≤ q ∧ q ≤ 1438 := by
  simp only [sigB, Bool.and_eq_true] at h
  have := Go.Proofs.YtepailfhagaboaaGreatDoor.pubB_bd h.1
  have h2 := h.2
  simp only [inB, decide_eq_true_eq] at h2
  omega
theorem packL_byte (p q : Int) : ∀ b ∈ packL p q, byteB b := by
  unfold packL
  split
  · rename_i h
    have := sigB_bd h
    intro b hb
    rcases List.mem_append.1 hb with hb | hb
    · exact two_byte (by simp only [sumB, decide_eq_true_eq]; omega) b hb
    · exact two_byte (by simp only [sumB, decide_eq_true_eq]; omega) b hb
  · intro b hb; cases hb
theorem packL_yes {p q : Int} (h : sigB p q = true) : packL p q = [p / 256, p % 256, q / 256, q % 256] := by simp [packL, h, two]
theorem packL_no {p q : Int} (h : sigB p q = false) : packL p q = [] := by simp [packL, h]
theorem read_packed {p q : Int} (h : sigB p q = true) : readR (packL p q) = (0, p, q) := by
  rw [packL_yes h]
  have e1 : readP [p / 256, p % 256, q / 256, q % 256] = p := by simp [readP]; omega
  have e2 : readQ [p / 256, p % 256, q / 256, q % 256] = q := by simp [readQ]; omega
  simp [readR, readB, e1, e2, h]
theorem pack_read {zs : List Int} (hb : ∀ z ∈ zs, byteB z) (h : readB zs = true) : packL (readP zs) (readQ zs) = zs := by
  simp only [readB, Bool.and_eq_true, decide_eq_true_eq] at h
  obtain ⟨hl, hs⟩ := h
  rw [packL_yes hs]
  match zs, hl with
  | [a, b, c, d], _ =>
    have ha := hb a (by simp)
    have h1 := hb b (by simp)
    have hc := hb c (by simp)
    have hd := hb d (by simp)
    unfold byteB at ha h1 hc hd
    simp only [readP, readQ, List.getD_eq_getElem?_getD, List.getElem?_cons_zero, List.getElem?_cons_succ, Option.getD_some]
    have q1 : (256 * a + b) / 256 = a := by omega
    have q2 : (256 * a + b) % 256 = b := by omega
    have q3 : (256 * c + d) / 256 = c := by omega
    have q4 : (256 * c + d) % 256 = d := by omega
    rw [q1, q2, q3, q4]
theorem readR_code (zs : List Int) : (readR zs).1 = if readB zs then 0 else 5 := by unfold readR; split <;> rfl
end Go.Proofs.YtepailfhagaboaaGreatDoor.M
namespace Go.Proofs.YtepailfhagaboaaGreatDoor
set_option linter.unusedVariables false

/-- What is wrong with a hello; with a reply. -/
def helF (l : List UInt8) (r s : Int) : Int := if M.sumB r && pubB s then M.normF l else 3
def repF (r s p x y f : Int) : Int := if M.sumB r && pubB s && pubB p && M.sumB f then M.sigF x y else 3
theorem helF_no {l : List UInt8} {r s : Int} (h : (M.sumB r && pubB s) = false) : helF l r s = 3 := by simp [helF, h]
theorem helF_yes {l : List UInt8} {r s : Int} (h : (M.sumB r && pubB s) = true) : helF l r s = M.normF l := by simp [helF, h]
theorem helF_zero {l : List UInt8} {r s : Int} (h : helF l r s = 0) : M.sumB r = true ∧ pubB s = true ∧ M.normF l = 0 := by
  cases hc : (M.sumB r && pubB s)
  · rw [helF_no hc] at h
    omega
  · rw [helF_yes hc] at h
    simp only [Bool.and_eq_true] at hc
    exact ⟨hc.1, hc.2, h⟩
theorem repF_no {r s p x y f : Int} (h : (M.sumB r && pubB s && pubB p && M.sumB f) = false) : repF r s p x y f = 3 := by simp [repF, h]
theorem repF_yes {r s p x y f : Int} (h : (M.sumB r && pubB s && pubB p && M.sumB f) = true) : repF r s p x y f = M.sigF x y := by simp [repF, h]
theorem repF_zero {r s p x y f : Int} (h : repF r s p x y f = 0) : M.sumB r = true ∧ pubB s = true ∧ pubB p = true ∧ M.sumB f = true ∧ M.sigB x y = true := by
  cases hc : (M.sumB r && pubB s && pubB p && M.sumB f)
  · rw [repF_no hc] at h
    omega
  · rw [repF_yes hc] at h
    simp only [Bool.and_eq_true] at hc
    refine ⟨hc.1.1.1, hc.1.1.2, hc.1.2, hc.2, ?_⟩
    unfold M.sigF at h
    split at h
    · assumption
    · omega
theorem pub_bd {p : Int} (h : pubB p = true) : 0 ≤ p ∧ p ≤ 2878 := by
  simp only [pubB, inB, Bool.and_eq_true, decide_eq_true_eq] at h
  omega
theorem pub_sum6 {p : Int} (h : pubB p = true) : M.sumB p = true := by
  have := pub_bd h
  simp only [M.sumB, decide_eq_true_eq]
  omega
theorem hel_size {n : ByteArray} {r s : Int} (h : helF n.data.toList r s = 0) : n.size ≤ 20 := by
  have h4 := (M.nameF_zero (M.normF_zero (helF_zero h).2.2).1).1
  have hL : n.data.toList.length = n.size := by simp
  omega
/-- The bytes ahead of a hello's name; the bytes of a hello. -/
def helHead (r s : Int) : List Int := [1] ++ M.two r ++ M.two s
def packH (n : ByteArray) (r s : Int) : List Int := helHead r s ++ M.textL n
def packHL (n : ByteArray) (r s : Int) : List Int := if helF n.data.toList r s = 0 then packH n r s else []
/-- The bytes ahead of a reply's signature; the bytes of a reply. -/
def frontR (r s p : Int) : List Int := [2] ++ M.two r ++ M.two s ++ M.two p
def packR (r s p x y f : Int) : List Int := frontR r s p ++ (M.two x ++ M.two y) ++ M.two f
def packRL (r s p x y f : Int) : List Int := if repF r s p x y f = 0 then packR r s p x y f else []
theorem helHead_length (r s : Int) : (helHead r s).length = 5 := rfl
theorem frontR_length (r s p : Int) : (frontR r s p).length = 7 := rfl
theorem packR_length (r s p x y f : Int) : (packR r s p x y f).length = 13 := rfl
theorem packH_length (n : ByteArray) (r s : Int) : (packH n r s).length = 5 + n.size := by
  unfold packH
  rw [List.length_append, helHead_length, M.textL_length]
theorem two_byte {v : Int} (h : M.sumB v = true) : ∀ z ∈ M.two v, M.byteB z := by
  intro z hz
  simp only [M.sumB, decide_eq_true_eq] at h
  simp only [M.two, List.mem_cons, List.not_mem_nil, or_false] at hz
  unfold M.byteB
  omega
theorem packH_byte {n : ByteArray} {r s : Int} (h : helF n.data.toList r s = 0) : ∀ z ∈ packH n r s, M.byteB z := by
  intro z hz
  obtain ⟨h1, h2, -⟩ := helF_zero h
  simp only [packH, helHead, List.mem_append] at hz
  rcases hz with ((hz | hz) | hz) | hz
  · simp only [List.mem_cons, List.not_mem_nil, or_false] at hz
    unfold M.byteB
    omega
  · exact two_byte h1 z hz
  · exact two_byte (pub_sum6 h2) z hz
  · exact M.textL_byte n z hz
theorem sig_sums {x y : Int} (h : M.sigB x y = true) : M.sumB x = true ∧ M.sumB y = true := by
  have := M.sigB_bd h
  simp only [M.sumB, decide_eq_true_eq]
  omega
theorem packR_byte {r s p x y f : Int} (h : repF r s p x y f = 0) : ∀ z ∈ packR r s p x y f, M.byteB z := by
  intro z hz
  obtain ⟨h1, h2, h3, h4, h5⟩ := repF_zero h
  obtain ⟨h6, h7⟩ := sig_sums h5
  simp only [packR, frontR, List.mem_append] at hz
  rcases hz with ((((hz | hz) | hz) | hz) | (hz | hz)) | hz
  · simp only [List.mem_cons, List.not_mem_nil, or_false] at hz
    unfold M.byteB
    omega
  · exact two_byte h1 z hz
  · exact two_byte (pub_sum6 h2) z hz
  · exact two_byte (pub_sum6 h3) z hz
  · exact two_byte h6 z hz
  · exact two_byte h7 z hz
  · exact two_byte h4 z hz
theorem packHL_len (n : ByteArray) (r s : Int) : (packHL n r s).length ≤ 25 := by
  unfold packHL
  split
  · rename_i h
    have hb := hel_size h
    rw [packH_length]
    omega
  · simp
theorem packHL_byte (n : ByteArray) (r s : Int) : ∀ z ∈ packHL n r s, M.byteB z := by
  intro z hz
  unfold packHL at hz
  split at hz
  · rename_i h
    exact packH_byte h z hz
  · cases hz
theorem packRL_len (r s p x y f : Int) : (packRL r s p x y f).length ≤ 13 := by
  unfold packRL
  split
  · rw [packR_length]
    omega
  · simp
theorem packRL_byte (r s p x y f : Int) : ∀ z ∈ packRL r s p x y f, M.byteB z := by
  intro z hz
  unfold packRL at hz
  split at hz
  · rename_i h
    exact packR_byte h z hz
  · cases hz

/-- What bytes say, read as a hello; as a reply. -/
def helNm (zs : List Int) : List UInt8 := (zs.drop 5).map fun z => UInt8.ofNat z.toNat
def tw (zs : List Int) (i : Nat) : Int := 256 * zs.getD i 0 + zs.getD (i + 1) 0
def helB (zs : List Int) : Bool := decide (helF (helNm zs) (tw zs 1) (tw zs 3) = 0)
def helOk (zs : List Int) : Bool := decide (5 ≤ zs.length) && decide (zs.getD 0 0 = 1) && helB zs
def repB (zs : List Int) : Bool := decide (repF (tw zs 1) (tw zs 3) (tw zs 5) (tw zs 7) (tw zs 9) (tw zs 11) = 0)
def repOk (zs : List Int) : Bool := decide (zs.length = 13) && decide (zs.getD 0 0 = 2) && repB zs
theorem not_both {zs : List Int} (h : helOk zs = true) : repOk zs = false := by
  simp only [helOk, Bool.and_eq_true, decide_eq_true_eq] at h
  unfold repOk
  rw [h.1.2]
  simp
theorem helOk_short {zs : List Int} (h : zs.length < 6) : helOk zs = false := by
  unfold helOk
  by_cases h5 : 5 ≤ zs.length
  · have e : helNm zs = [] := by
      unfold helNm
      rw [List.drop_of_length_le (by omega)]
      rfl
    have : helB zs = false := by
      unfold helB
      rw [e, decide_eq_false_iff_not]
      intro h0
      have h5 : M.nameF [] = 5 := by decide
      have h6 : M.normF [] = 5 := by rw [M.normF_no (by rw [h5]; omega), h5]
      have := (helF_zero h0).2.2
      omega
    rw [this]
    simp
  · simp [h5]
end Go.Proofs.YtepailfhagaboaaGreatDoor
namespace Go.Proofs.YtepailfhagaboaaGreatDoor
open Go.RowKit Go.Extern.Stop Go.Stop Go.Extern

/-- The variable errors.errorType holds the handle of the type 'error'. -/
structure ErrT (w : World) : Prop where
  cell : w.cell? ⟨2, 0, none⟩ = some (.iface 177 (.agg #[.pointer (some ⟨7, 73, none⟩)]))
theorem ErrT.on {w w' : World} (h : ErrT w) (hb : Below w.heap.size w w') : ErrT w' := ⟨cell_keep hb h.cell⟩
theorem ErrT.grew {w w' : World} {row : Option Nat} (h : ErrT w) (hg : w.grownBy w' row) (hr : ∀ k, row = some k → 2 < k) : ErrT w' :=
  ⟨hg.cell h.cell (fun e => by have := hr _ e.symm; exact absurd this (Nat.lt_irrefl _))⟩
theorem ErrT.lt {w : World} (h : ErrT w) : 2 < w.heap.size := cell_lt h.cell

/-- An error of what does not fit. -/
abbrev misV (c : Int) (s : ByteArray) : Value := .iface 137 (.agg #[.int .i64 c, .string s])
abbrev hdl (t : Nat) : Value := .pointer (some ⟨7, t, none⟩)
abbrev rval (t : Nat) (a : Addr) (f : Int) : Value := .agg #[hdl t, .pointer (some a), .int .u64 f]

theorem as_nil (t : Value) (w : World) :
    Calls Tryz.prog 98 #[.nilIface, t] w fun e w' => e = .returned (.bool false) ∧ w = w' := by
  go_enter Tryz.func98, Tryz.ntmps98
  go_wp2
  go_ret
  exact ⟨rfl, rfl⟩

theorem rl_valueOfP (t : Addr) (w : World) : (ReflectliteValue.unpack (.iface 140 (.pointer (some t)))).run Tryz.prog w
    = .ok (rval 140 ⟨w.heap.size, 0, none⟩ 150) (w.alloc (.cells #[.pointer (some t)] 140)) := by kernel_rfl
theorem rl_typeP (a : Addr) (w : World) : (ReflectliteValue.methodAny (ReflectliteValue.valueError "reflectlite.Value.Type" 0) (fun t _ _ _ => ReflectliteType.toType t) #[rval 140 a 150]).run Tryz.prog w
    = .ok (.iface 177 (.agg #[hdl 140])) w := by kernel_rfl
theorem rl_mKind (h : Value) (w : World) : (Go.method 337 177 (.agg #[h]) "Kind").run Tryz.prog w = .ok (150, h) w := by kernel_rfl
theorem rl_mElem (h : Value) (w : World) : (Go.method 337 177 (.agg #[h]) "Elem").run Tryz.prog w = .ok (163, .agg #[h]) w := by kernel_rfl
theorem rl_mImpl (h : Value) (w : World) : (Go.method 337 177 (.agg #[h]) "Implements").run Tryz.prog w = .ok (164, .agg #[h]) w := by kernel_rfl
theorem rl_mAsgn (h : Value) (w : World) : (Go.method 337 177 (.agg #[h]) "AssignableTo").run Tryz.prog w = .ok (161, .agg #[h]) w := by kernel_rfl
theorem rl_kindP (w : World) : ((ReflectliteType.abiMethod fun t => (fun a : Nat => Value.int IntKind.u8 (a : Int)) <$> Rtype.kind t) #[hdl 140]).run Tryz.prog w = .ok (.int .u8 22) w := by kernel_rfl
theorem rl_kindM (w : World) : ((ReflectliteType.abiMethod fun t => (fun a : Nat => Value.int IntKind.u8 (a : Int)) <$> Rtype.kind t) #[hdl 137]).run Tryz.prog w = .ok (.int .u8 25) w := by kernel_rfl
theorem rl_elemP (w : World) : (ReflectliteType.method ReflectliteType.elem #[.agg #[hdl 140]]).run Tryz.prog w = .ok (.iface 177 (.agg #[hdl 137])) w := by kernel_rfl
theorem rl_implM (w : World) : (ReflectliteType.relation "Implements" ReflectliteType.implements_ #[.agg #[hdl 137], .iface 177 (.agg #[hdl 73])]).run Tryz.prog w = .ok (.bool true) w := by kernel_rfl
theorem rl_typeOfM (v : Value) (w : World) : (ReflectliteType.typeOf #[.iface 137 v]).run Tryz.prog w = .ok (.iface 177 (.agg #[hdl 137])) w := by kernel_rfl
theorem rl_asgnM (w : World) : (ReflectliteType.relation "AssignableTo" ReflectliteType.assignableTo #[.agg #[hdl 137], .iface 177 (.agg #[hdl 137])]).run Tryz.prog w = .ok (.bool true) w := by kernel_rfl
theorem rl_valueOfM (c : Int) (s : ByteArray) (w : World) : (ReflectliteValue.unpack (misV c s)).run Tryz.prog w
    = .ok (rval 137 ⟨w.heap.size, 0, none⟩ 153) (w.alloc (.cells #[.int .i64 c, .string s] 137)) := by kernel_rfl

theorem rl_partsP (a : Addr) (w : World) : (ReflectliteValue.parts (rval 140 a 150)).run Tryz.prog w = .ok (some (140, a, 150)) w := by kernel_rfl
theorem rl_method {P : Program} {w : World} {z : Sem Value} {f : TypeId → Addr → Nat → Nat → Sem Value} {v : Value} {t : TypeId} {a : Addr} {k : Nat} (h : (ReflectliteValue.parts v).run P w = .ok (some (t, a, k)) w) :
    (ReflectliteValue.method z f #[v]).run P w = (f t a k (k % 32)).run P w := by
  rw [show ReflectliteValue.method z f #[v] = ReflectliteValue.parts v >>= _ from rfl]
  simp only [Sem.run_bind, h, Result.andThen]
theorem rl_isNilP (a p : Addr) (W : World) (ha : W.cell? a = some (.pointer (some p))) :
    (ReflectliteValue.method (ReflectliteValue.valueError "reflectlite.Value.IsNil" 0) ReflectliteValue.isNil #[rval 140 a 150]).run Tryz.prog W = .ok (.bool false) W := by
  rw [rl_method (rl_partsP _ _)]
  simp [ReflectliteValue.isNil, loadVar, isAgg, underlying, Tryz.underlying140, ha, Result.andThen]
theorem rl_elemOfP (w : World) : (Rtype.elem? 140).run Tryz.prog w = .ok (some 137) w := by kernel_rfl
theorem rl_mkM (p : Addr) (w : World) : (ReflectliteValue.mk 137 p ReflectliteValue.flagAddr).run Tryz.prog w = .ok (rval 137 p 409) w := by kernel_rfl
theorem rl_elemV (a p : Addr) (W : World) (ha : W.cell? a = some (.pointer (some p))) :
    (ReflectliteValue.method (ReflectliteValue.valueError "reflectlite.Value.Elem" 0) ReflectliteValue.elem #[rval 140 a 150]).run Tryz.prog W = .ok (rval 137 p 409) W := by
  rw [rl_method (rl_partsP _ _)]
  simp [ReflectliteValue.elem, loadVar, isAgg, underlying, Tryz.underlying140, ha, Result.andThen, rl_elemOfP, rl_mkM]
theorem rl_partsMa (a : Addr) (w : World) : (ReflectliteValue.parts (rval 137 a 409)).run Tryz.prog w = .ok (some (137, a, 409)) w := by kernel_rfl
theorem rl_partsM (a : Addr) (w : World) : (ReflectliteValue.parts (rval 137 a 153)).run Tryz.prog w = .ok (some (137, a, 153)) w := by kernel_rfl
theorem rl_directM (w : World) : (Rtype.directlyAssignable 137 137).run Tryz.prog w = .ok true w := by kernel_rfl
/-- (Value).Set: the struct at 'ta' gets what the Value's own variable holds. -/
theorem rl_setM (tb b : Nat) (c : Int) (s : ByteArray) (o0 o1 : Value) (W : World) (b0 : W.cell? ⟨b, 0, none⟩ = some (.int .i64 c)) (b1 : W.cell? ⟨b, 1, none⟩ = some (.string s))
    (t0 : W.cell? ⟨tb, 0, none⟩ = some o0) (t1 : W.cell? ⟨tb, 1, none⟩ = some o1) (f0 : W.frozen? ⟨tb, 0, none⟩ = false) (f1 : W.frozen? ⟨tb, 1, none⟩ = false) :
    (ReflectliteValue.set #[rval 137 ⟨tb, 0, none⟩ 409, rval 137 ⟨b, 0, none⟩ 153]).run Tryz.prog W = .ok (.tuple #[]) ((W.setCell ⟨tb, 0, none⟩ (.int .i64 c)).setCell ⟨tb, 1, none⟩ (.string s)) := by
  have hl : (loadCells ⟨b, 0, none⟩ 2).run Tryz.prog W = .ok #[.int .i64 c, .string s] W := by
    have := run_loadCells_list (P := Tryz.prog) (w := W) ⟨b, 0, none⟩ [.int .i64 c, .string s] (fun j v hj => by
      rcases j with _ | _ | j
      · simp at hj; subst hj; exact b0
      · simp at hj; subst hj; exact b1
      · first | (simp at hj; done) | (simp at hj; omega))
    exact this
  generalize hv : rval 137 ⟨tb, 0, none⟩ 409 = v
  generalize hx : rval 137 ⟨b, 0, none⟩ 153 = x
  rw [show ReflectliteValue.set #[v, x] = (ReflectliteValue.parts v >>= fun p => ReflectliteValue.parts x >>= fun q => _) from rfl]
  subst hv; subst hx
  simp only [Sem.run_bind, rl_partsMa, rl_partsM, Result.andThen]
  simp [ReflectliteValue.flagAddr, loadVar, isAgg, underlying, Tryz.underlying137, hl, Result.andThen, rl_directM, storeVar, Value.cells]
  have hst := run_storeCells_cells (P := Tryz.prog) tb 0 [.int .i64 c, .string s] 0 W
    (fun j hj => by
      rcases j with _ | _ | j
      · simp [t0]
      · simp [t1]
      · first | (simp at hj; done) | (simp at hj; omega))
    (fun j hj => by
      rcases j with _ | _ | j
      · exact f0
      · exact f1
      · first | (simp at hj; done) | (simp at hj; omega))
    (fun v hv => by
      simp at hv
      rcases hv with rfl | rfl <;> rfl)
  rw [hst]
  rfl
end Go.Proofs.YtepailfhagaboaaGreatDoor
namespace Go.Proofs.YtepailfhagaboaaGreatDoor
open Go.RowKit Go.Extern.Stop Go.Stop Go.Extern

set_option maxHeartbeats 4000000 in
set_option maxRecDepth 100000 in
theorem as_hit (c : Int) (s : ByteArray) (tb : Nat) (o0 o1 : Value) (w : World) (hg : ErrT w) (t0 : w.cell? ⟨tb, 0, none⟩ = some o0) (t1 : w.cell? ⟨tb, 1, none⟩ = some o1) (f0 : w.frozen? ⟨tb, 0, none⟩ = false) (f1 : w.frozen? ⟨tb, 1, none⟩ = false) :
    Calls Tryz.prog 98 #[misV c s, .iface 140 (.pointer (some ⟨tb, 0, none⟩))] w fun ev w' => ev = .returned (.bool true) ∧ w'.cell? ⟨tb, 0, none⟩ = some (.int .i64 c) ∧ Below tb w w' := by
  have hV := @run_callFunc_extern Tryz.prog 113 _ (fun args => ReflectliteValue.unpack (args.getD 0 (.tuple #[]))) Tryz.func113 (by kernel_rfl) (by kernel_rfl) (by kernel_rfl) (by kernel_rfl)
  have hT := @run_callFunc_extern Tryz.prog 114 _ (ReflectliteValue.methodAny (ReflectliteValue.valueError "reflectlite.Value.Type" 0) (fun t _ _ _ => ReflectliteType.toType t)) Tryz.func114 (by kernel_rfl) (by kernel_rfl) (by kernel_rfl) (by kernel_rfl)
  have hN := @run_callFunc_extern Tryz.prog 115 _ (ReflectliteValue.method (ReflectliteValue.valueError "reflectlite.Value.IsNil" 0) ReflectliteValue.isNil) Tryz.func115 (by kernel_rfl) (by kernel_rfl) (by kernel_rfl) (by kernel_rfl)
  have hK := @run_callFunc_extern Tryz.prog 150 _ (ReflectliteType.abiMethod fun t => do pure (.int .u8 (← Rtype.kind t))) Tryz.func150 (by kernel_rfl) (by kernel_rfl) (by kernel_rfl) (by kernel_rfl)
  have hE := @run_callFunc_extern Tryz.prog 163 _ (ReflectliteType.method ReflectliteType.elem) Tryz.func163 (by kernel_rfl) (by kernel_rfl) (by kernel_rfl) (by kernel_rfl)
  have hI := @run_callFunc_extern Tryz.prog 164 _ (ReflectliteType.relation "Implements" ReflectliteType.implements_) Tryz.func164 (by kernel_rfl) (by kernel_rfl) (by kernel_rfl) (by kernel_rfl)
  have hO := @run_callFunc_extern Tryz.prog 125 _ ReflectliteType.typeOf Tryz.func125 (by kernel_rfl) (by kernel_rfl) (by kernel_rfl) (by kernel_rfl)
  have hA := @run_callFunc_extern Tryz.prog 161 _ (ReflectliteType.relation "AssignableTo" ReflectliteType.assignableTo) Tryz.func161 (by kernel_rfl) (by kernel_rfl) (by kernel_rfl) (by kernel_rfl)
  have hL := @run_callFunc_extern Tryz.prog 126 _ (ReflectliteValue.method (ReflectliteValue.valueError "reflectlite.Value.Elem" 0) ReflectliteValue.elem) Tryz.func126 (by kernel_rfl) (by kernel_rfl) (by kernel_rfl) (by kernel_rfl)
  have hS := @run_callFunc_extern Tryz.prog 127 _ ReflectliteValue.set Tryz.func127 (by kernel_rfl) (by kernel_rfl) (by kernel_rfl) (by kernel_rfl)
  have tO := rl_typeOfM
  have mA := rl_mAsgn
  have a1 := rl_asgnM
  have v1 := rl_valueOfM
  have v2 := rl_valueOfP
  have ty := rl_typeP
  have mK := rl_mKind
  have mE := rl_mElem
  have mI := rl_mImpl
  have k1 := rl_kindP
  have k2 := rl_kindM
  have e1 := rl_elemP
  have i1 := rl_implM
  have n1 := rl_isNilP ⟨w.heap.size, 0, none⟩ ⟨tb, 0, none⟩ ((w.alloc (.cells #[.pointer (some ⟨tb, 0, none⟩)] 140)).alloc (.cells #[hdl 140, .pointer (some ⟨w.heap.size, 0, none⟩), .int .u64 150] 158)) (by simp)
  have hlt := hg.lt
  have hg2 : ((w.alloc (.cells #[.pointer (some ⟨tb, 0, none⟩)] 140)).alloc (.cells #[hdl 140, .pointer (some ⟨w.heap.size, 0, none⟩), .int .u64 150] 158)).cell? ⟨2, 0, none⟩ = some (.iface 177 (.agg #[.pointer (some ⟨7, 73, none⟩)])) :=
    ((hg.on (bal (Below.refl _ _) _)).on (bal (Below.refl _ _) _)).cell
  have htl : tb < w.heap.size := cell_lt t0
  have el := rl_elemV ⟨w.heap.size, 0, none⟩ ⟨tb, 0, none⟩ (((w.alloc (.cells #[.pointer (some ⟨tb, 0, none⟩)] 140)).alloc (.cells #[hdl 140, .pointer (some ⟨w.heap.size, 0, none⟩), .int .u64 150] 158)).alloc (.cells #[hdl 140, .pointer (some ⟨w.heap.size, 0, none⟩), .int .u64 150] 158)) (by rw [World.cell?_alloc_lt _ _ ⟨w.heap.size, 0, none⟩ (by simp; omega)]; simp)
  have hb4 : Below w.heap.size w ((((w.alloc (.cells #[.pointer (some ⟨tb, 0, none⟩)] 140)).alloc (.cells #[hdl 140, .pointer (some ⟨w.heap.size, 0, none⟩), .int .u64 150] 158)).alloc (.cells #[hdl 140, .pointer (some ⟨w.heap.size, 0, none⟩), .int .u64 150] 158)).alloc (.cells #[.int .i64 c, .string s] 137)) := bal (bal (bal (bal (Below.refl _ _) _) _) _) _
  have q0 := cell_keep hb4 t0
  have q1 := cell_keep hb4 t1
  have p0 := (hb4.frozen (p := ⟨tb, 0, none⟩) htl).trans f0
  have p1 := (hb4.frozen (p := ⟨tb, 1, none⟩) htl).trans f1
  have st := rl_setM tb (w.heap.size + 1 + 1 + 1) c s o0 o1 ((((w.alloc (.cells #[.pointer (some ⟨tb, 0, none⟩)] 140)).alloc (.cells #[hdl 140, .pointer (some ⟨w.heap.size, 0, none⟩), .int .u64 150] 158)).alloc (.cells #[hdl 140, .pointer (some ⟨w.heap.size, 0, none⟩), .int .u64 150] 158)).alloc (.cells #[.int .i64 c, .string s] 137))
    (by rw [World.cell?_alloc_at _ _ _ _ (by simp)]; rfl) (by rw [World.cell?_alloc_at _ _ _ _ (by simp)]; rfl) q0 q1 p0 p1
  have F := Lib.hid (And.intro q0 (And.intro q1 (hb4.mono (Nat.le_of_lt htl))))
  clear hb4 q0 q1 p0 p1 t0 t1 f0 f1 hg
  go_enter Tryz.func98, Tryz.ntmps98
  go_wp2
  refine wp_loop_rounds 1 ?_
  rw [rounds_succ]
  go_wp2
  go_ret
  refine ⟨rfl, ?_, ?_⟩
  · rw [World.cell?_setCell_other _ _ _ _ (fun e => by injection e with _ e2; omega), World.cell?_setCell_same _ _ _ (by rw [F.out.1])]
  · exact (F.out.2.2.setCell (Nat.le_refl _) _).setCell (Nat.le_refl _) _

theorem codeOf_nil (w : World) :
    Calls Tryz.prog 76 #[.nilIface] w fun r w' => r = .returned (.int .i64 0) ∧ Below w.heap.size w w' := by
  go_enter Tryz.func76, Tryz.ntmps76
  go_wp2_with fail
  refine (as_nil _ _).mono ?_
  rintro r w' ⟨rfl, rfl⟩
  go_wp2_with fail
  go_ret
  exact ⟨rfl, bal (Below.refl _ _) _⟩

theorem codeOf_mis (c : Int) (s : ByteArray) (w : World) (hg : ErrT w) :
    Calls Tryz.prog 76 #[misV c s] w fun r w' => r = .returned (.int .i64 c) ∧ Below w.heap.size w w' := by
  have hg1 := fun o => hg.on (bal (Below.refl _ w) o)
  clear hg
  go_enter Tryz.func76, Tryz.ntmps76
  go_wp2_with fail
  refine (as_hit c s w.heap.size (.int .i64 0) (.string { data := #[] }) _ (hg1 _) (by go_simp) (by go_simp) (by go_simp) (by go_simp)).mono ?_
  rintro r w1 ⟨rfl, q0, hb⟩
  have hb2 := Below.trans (bal (Below.refl _ w) _) hb
  clear hb hg1
  go_wp2_with fail
  go_ret
  exact ⟨rfl, hb2⟩
end Go.Proofs.YtepailfhagaboaaGreatDoor
namespace Go.Proofs.YtepailfhagaboaaGreatDoor
open Go.RowKit
set_option maxRecDepth 100000

/-! Whole numbers below 2879 as floats, and back. -/
def floatBackB (n : Nat) : Bool := floatToIntVal .f64 (floatOfInt .f64 (n : Int)) .i64 == some (n : Int)
theorem float_all : M.allB floatBackB 2879 = true := by decide +kernel
theorem float_back {n : Int} (h0 : 0 ≤ n) (h1 : n ≤ 2878) : floatToIntVal .f64 (floatOfInt .f64 n) .i64 = some n := by
  obtain ⟨n, rfl⟩ := Int.eq_ofNat_of_zero_le h0
  have h := M.allB_out float_all (k := n) (by omega)
  simp only [floatBackB, beq_iff_eq] at h
  exact h
/-- The two numbers as one complex one. -/
def pairV (p q : Int) : Value := .complex .f64 (floatOfInt .f64 p) (floatOfInt .f64 q)

theorem point_any (p q : Int) (w : World) (h0 : 0 ≤ p) (h1 : p ≤ 2878) :
    Calls Tryz.prog 102 #[pairV p q] w fun r w' => r = .returned (.int .i64 p) ∧ w = w' := by
  have hf := float_back h0 h1
  have hc := fun (w : World) => run_convert_float_int (P := Tryz.prog) w 138 2 .f64 .i64 (floatOfInt .f64 p) p (by kernel_rfl) Tryz.underlying2 hf
  unfold pairV
  go_enter Tryz.func102, Tryz.ntmps102
  go_wp2_with fail
  go_ret
  simp
theorem proof_any (p q : Int) (w : World) (h0 : 0 ≤ q) (h1 : q ≤ 2878) :
    Calls Tryz.prog 103 #[pairV p q] w fun r w' => r = .returned (.int .i64 q) ∧ w = w' := by
  have hf := float_back h0 h1
  have hc := fun (w : World) => run_convert_float_int (P := Tryz.prog) w 138 2 .f64 .i64 (floatOfInt .f64 q) q (by kernel_rfl) Tryz.underlying2 hf
  unfold pairV
  go_enter Tryz.func103, Tryz.ntmps103
  go_wp2_with fail
  go_ret
  simp

/-- An error of what does not fit was answered. -/
def Misfit (w : World) (r : Ending) (w' : World) : Prop := ∃ s, r = .returned (misV 3 s) ∧ Below w.heap.size w w'
theorem pairOf_yes (p q : Int) (w : World) (h : M.sigB p q = true) :
    Calls Tryz.prog 75 #[I2 p q] w fun r w' => r = .returned (.tuple #[pairV p q, .nilIface]) ∧ Below w.heap.size w w' := by
  obtain ⟨p0, p1, q0, q1⟩ := M.sigB_bd h
  have hp : pubB p = true := by simp only [M.sigB, Bool.and_eq_true] at h; exact h.1
  unfold pairV
  clear h
  go_enter Tryz.func75, Tryz.ntmps75
  go_wp2_with fail
  refine (implIsPublic_any _ _).mono ?_
  rintro r w1 ⟨rfl, hb_w1⟩
  obtain ⟨hc_w1, hf_w1⟩ := bcell hb_w1
  have hz_w1 := hb_w1.size
  (try simp at hz_w1)
  go_wp2_with fail
  go_ret2
  exact ⟨rfl, btr (bal (Below.refl _ _) _) hb_w1⟩
def PairNo (w : World) (r : Ending) (w' : World) : Prop := ∃ s v, r = .returned (.tuple #[v, misV 3 s]) ∧ Below w.heap.size w w'
theorem pairOf_no (p q : Int) (w : World) (h : M.sigB p q = false) :
    Calls Tryz.prog 75 #[I2 p q] w (PairNo w) := by
  cases hp : pubB p
  · clear h
    go_enter Tryz.func75, Tryz.ntmps75
    go_wp2_with fail
    refine (implIsPublic_any _ _).mono ?_
    rintro r w1 ⟨rfl, hb_w1⟩
    obtain ⟨hc_w1, hf_w1⟩ := bcell hb_w1
    have hz_w1 := hb_w1.size
    (try simp at hz_w1)
    go_wp2_with fail
    go_ret2
    exact ⟨_, _, rfl, btr (bal (Below.refl _ _) _) hb_w1⟩
  · have hq : ¬ (0 ≤ q ∧ q ≤ 1438) := by
      intro hq
      simp only [M.sigB, hp, inB, hq, and_self, decide_true, Bool.and_self] at h
      cases h
    clear h
    by_cases q0 : q < 0
    · go_enter Tryz.func75, Tryz.ntmps75
      go_wp2_with fail
      refine (implIsPublic_any _ _).mono ?_
      rintro r w1 ⟨rfl, hb_w1⟩
      obtain ⟨hc_w1, hf_w1⟩ := bcell hb_w1
      have hz_w1 := hb_w1.size
      (try simp at hz_w1)
      go_wp2_with fail
      go_ret2
      exact ⟨_, _, rfl, btr (bal (Below.refl _ _) _) hb_w1⟩
    · have q1 : 1438 < q := by omega
      clear hq
      go_enter Tryz.func75, Tryz.ntmps75
      go_wp2_with fail
      refine (implIsPublic_any _ _).mono ?_
      rintro r w1 ⟨rfl, hb_w1⟩
      obtain ⟨hc_w1, hf_w1⟩ := bcell hb_w1
      have hz_w1 := hb_w1.size
      (try simp at hz_w1)
      go_wp2_with fail
      go_ret2
      exact ⟨_, _, rfl, btr (bal (Below.refl _ _) _) hb_w1⟩

theorem l3Nonce_any (s t : Int) (w : World) (hs : M.sumB s = true) (ht : M.sumB t = true) :
    Calls Tryz.prog 85 #[.int .i64 s, .int .i64 t] w fun r w' => r = .returned (.int .i64 (M.nonceN s t)) ∧ Below w.heap.size w w' := by
  have hR := row_two (w := w) s t 2 hs ht
  have HA := Lib.hid (show [s, t].all M.sumB = true by simp [hs, ht])
  obtain ⟨t0, t1⟩ := M.tagL_bd M.nonceS [s, t]
  unfold M.nonceN
  clear hs ht
  go_enter Tryz.func85, Tryz.ntmps85
  go_wp2_with fail
  refine (l2Tag_any M.nonceS _ _ _ _ _ _ (by decide) hR (by simp) HA.out (by omega)).mono ?_
  rintro r w2 ⟨rfl, hb2⟩
  have hb := btr (bal (Below.refl _ _) _) hb2
  clear hb2 hR HA
  go_wp2_with fail
  go_ret
  exact ⟨rfl, hb⟩
theorem l3Challenge_any (p q t : Int) (w : World) (hp : M.sumB p = true) (hq : M.sumB q = true) (ht : M.sumB t = true) :
    Calls Tryz.prog 86 #[.int .i64 p, .int .i64 q, .int .i64 t] w fun r w' => r = .returned (.int .i64 (M.chalN p q t)) ∧ Below w.heap.size w w' := by
  have hR := row_three (w := w) p q t 2 hp hq ht
  have HA := Lib.hid (show [p, q, t].all M.sumB = true by simp [hp, hq, ht])
  obtain ⟨t0, t1⟩ := M.tagL_bd M.signS [p, q, t]
  unfold M.chalN
  clear hp hq ht
  go_enter Tryz.func86, Tryz.ntmps86
  go_wp2_with fail
  refine (l2Tag_any M.signS _ _ _ _ _ _ (by decide) hR (by simp) HA.out (by omega)).mono ?_
  rintro r w2 ⟨rfl, hb2⟩
  have hb := btr (bal (Below.refl _ _) _) hb2
  clear hb2 hR HA
  go_wp2_with fail
  go_ret
  exact ⟨rfl, hb⟩

theorem l3Fault_any (g : Nat) (p q : Int) (w : World) (c0 : w.cell? ⟨g, 0, none⟩ = some (.int .i64 p)) (c1 : w.cell? ⟨g, 1, none⟩ = some (.int .i64 q)) :
    Calls Tryz.prog 77 #[.pointer (some ⟨g, 0, none⟩)] w fun r w' => r = .returned (.int .i64 (M.sigF p q)) ∧ w = w' := by
  cases hp : pubB p
  · have E : M.sigF p q = 3 := by simp [M.sigF, M.sigB, hp]
    rw [E]; clear E
    go_enter Tryz.func77, Tryz.ntmps77
    go_wp2_with fail
    refine (l1Public_any _ _).mono ?_
    rintro r w' ⟨rfl, rfl⟩
    go_wp2_with fail
    go_ret
    simp
  cases hq : inB q 0 1438
  · have E : M.sigF p q = 3 := by simp [M.sigF, M.sigB, hq]
    rw [E]; clear E
    go_enter Tryz.func77, Tryz.ntmps77
    go_wp2_with fail
    refine (l1Public_any _ _).mono ?_
    rintro r w' ⟨rfl, rfl⟩
    go_wp2_with fail
    refine (l1In_any _ _ _ _).mono ?_
    rintro r w' ⟨rfl, rfl⟩
    go_wp2_with fail
    go_ret
    simp
  · have E : M.sigF p q = 0 := by simp [M.sigF, M.sigB, hp, hq]
    rw [E]; clear E
    go_enter Tryz.func77, Tryz.ntmps77
    go_wp2_with fail
    refine (l1Public_any _ _).mono ?_
    rintro r w' ⟨rfl, rfl⟩
    go_wp2_with fail
    refine (l1In_any _ _ _ _).mono ?_
    rintro r w' ⟨rfl, rfl⟩
    go_wp2_with fail
    go_ret
    simp
theorem implSignFault_any (p q : Int) (w : World) (hg : ErrT w) :
    Calls Tryz.prog 48 #[I2 p q] w fun r w' => r = .returned (.int .i64 (M.sigF p q)) ∧ Below w.heap.size w w' := by
  cases hB : M.sigB p q
  · have E : M.sigF p q = 3 := by simp [M.sigF, hB]
    rw [E]; clear E
    go_enter Tryz.func48, Tryz.ntmps48
    go_wp2_with fail
    refine (pairOf_no p q _ hB).mono ?_
    rintro r w1 ⟨s, v, rfl, hb0⟩
    have hb1 := btr (bal (Below.refl _ w) _) hb0
    clear hb0
    have hg1 := hg.on hb1
    go_wp2_with fail
    refine (codeOf_mis _ _ _ hg1).mono ?_
    rintro r w2 ⟨rfl, hb_w2⟩
    obtain ⟨hc_w2, hf_w2⟩ := bcell hb_w2
    have hz_w2 := hb_w2.size
    (try simp at hz_w2)
    go_wp2_with fail
    go_ret
    exact ⟨rfl, btr hb1 hb_w2⟩
  · have E : M.sigF p q = 0 := by simp [M.sigF, hB]
    rw [E]; clear E
    go_enter Tryz.func48, Tryz.ntmps48
    go_wp2_with fail
    refine (pairOf_yes p q _ hB).mono ?_
    rintro r w1 ⟨rfl, hb0⟩
    have hb1 := btr (bal (Below.refl _ w) _) hb0
    clear hb0
    go_wp2_with fail
    refine (codeOf_nil _).mono ?_
    rintro r w2 ⟨rfl, hb_w2⟩
    obtain ⟨hc_w2, hf_w2⟩ := bcell hb_w2
    have hz_w2 := hb_w2.size
    (try simp at hz_w2)
    go_wp2_with fail
    go_ret
    exact ⟨rfl, btr hb1 hb_w2⟩

theorem toSigned_any (p q : Int) (w : World) :
    Calls Tryz.prog 53 #[I2 p q] w fun r w' => r = .returned (I2 p q) ∧ Below w.heap.size w w' := by
  go_enter Tryz.func53, Tryz.ntmps53
  go_wp2_with fail
  exact bodyPost_ret (v := I2 p q) (by simp [results, Tryz.results53, go_sem]) rfl ⟨rfl, bal (bal (bal (Below.refl _ _) _) _) _⟩
end Go.Proofs.YtepailfhagaboaaGreatDoor
namespace Go.Proofs.YtepailfhagaboaaGreatDoor
open Go.RowKit
set_option maxRecDepth 100000
set_option linter.unusedVariables false

abbrev R6 (r s p x y f : Int) : Value := .agg #[.int .i64 r, .int .i64 s, .int .i64 p, .int .i64 x, .int .i64 y, .int .i64 f]
abbrev RL6 (r s p x y f : Int) : List Value := [.int .i64 r, .int .i64 s, .int .i64 p, .int .i64 x, .int .i64 y, .int .i64 f]
abbrev R7 (c r s p x y f : Int) : Value := .agg #[.int .i64 c, .int .i64 r, .int .i64 s, .int .i64 p, .int .i64 x, .int .i64 y, .int .i64 f]
abbrev RL7 (c r s p x y f : Int) : List Value := [.int .i64 c, .int .i64 r, .int .i64 s, .int .i64 p, .int .i64 x, .int .i64 y, .int .i64 f]

theorem implReplyFault_any (r s p x y f : Int) (w : World) (hg : ErrT w) :
    Calls Tryz.prog 19 #[R6 r s p x y f] w fun e w' => e = .returned (.int .i64 (repF r s p x y f)) ∧ Below w.heap.size w w' := by
  have b0 := bal (Below.refl _ w) (.cells #[.int .i64 r, .int .i64 s, .int .i64 p, .int .i64 x, .int .i64 y, .int .i64 f] 33)
  have A0 := At.new w (RL6 r s p x y f) 33
  have E0 := hg.on b0
  clear hg
  cases hr : M.sumB r
  · rw [repF_no (by rw [hr]; rfl)]
    go_enter Tryz.func19, Tryz.ntmps19
    go_wp2_with fail
    refine (isSum_any _ _).mono ?_
    rintro r w' ⟨rfl, rfl⟩
    go_wp2_with fail
    go_ret
    exact ⟨rfl, b0⟩
  cases hs : pubB s
  · rw [repF_no (by rw [hs]; simp)]
    go_enter Tryz.func19, Tryz.ntmps19
    go_wp2_with fail
    refine (isSum_any _ _).mono ?_
    rintro r w' ⟨rfl, rfl⟩
    go_wp2_with fail
    generalize w.alloc (.cells #[.int .i64 r, .int .i64 s, .int .i64 p, .int .i64 x, .int .i64 y, .int .i64 f] 33) = W0 at *
    refine (implIsPublic_any _ _).mono ?_
    rintro e u1 ⟨rfl, b1⟩
    have B1 := btr b0 b1
    have d0 := (A0.on b1).cell 0 _ rfl
    have d1 := (A0.on b1).cell 1 _ rfl
    have d2 := (A0.on b1).cell 2 _ rfl
    have d3 := (A0.on b1).cell 3 _ rfl
    have d4 := (A0.on b1).cell 4 _ rfl
    have d5 := (A0.on b1).cell 5 _ rfl
    go_wp2_with fail
    go_ret
    exact ⟨rfl, B1⟩
  cases hp : pubB p
  · rw [repF_no (by rw [hp]; simp)]
    go_enter Tryz.func19, Tryz.ntmps19
    go_wp2_with fail
    refine (isSum_any _ _).mono ?_
    rintro r w' ⟨rfl, rfl⟩
    go_wp2_with fail
    generalize w.alloc (.cells #[.int .i64 r, .int .i64 s, .int .i64 p, .int .i64 x, .int .i64 y, .int .i64 f] 33) = W0 at *
    refine (implIsPublic_any _ _).mono ?_
    rintro e u1 ⟨rfl, b1⟩
    have B1 := btr b0 b1
    have d0 := (A0.on b1).cell 0 _ rfl
    have d1 := (A0.on b1).cell 1 _ rfl
    have d2 := (A0.on b1).cell 2 _ rfl
    have d3 := (A0.on b1).cell 3 _ rfl
    have d4 := (A0.on b1).cell 4 _ rfl
    have d5 := (A0.on b1).cell 5 _ rfl
    go_wp2_with fail
    refine (implIsPublic_any _ _).mono ?_
    rintro e u2 ⟨rfl, b2⟩
    have B2 := btr B1 b2
    have b12 := btr b1 b2
    clear d0 d1 d2 d3 d4 d5 b1 b2
    have d0 := (A0.on b12).cell 0 _ rfl
    have d1 := (A0.on b12).cell 1 _ rfl
    have d2 := (A0.on b12).cell 2 _ rfl
    have d3 := (A0.on b12).cell 3 _ rfl
    have d4 := (A0.on b12).cell 4 _ rfl
    have d5 := (A0.on b12).cell 5 _ rfl
    go_wp2_with fail
    go_ret
    exact ⟨rfl, B2⟩
  cases hf : M.sumB f
  · rw [repF_no (by rw [hf]; simp)]
    go_enter Tryz.func19, Tryz.ntmps19
    go_wp2_with fail
    refine (isSum_any _ _).mono ?_
    rintro r w' ⟨rfl, rfl⟩
    go_wp2_with fail
    generalize w.alloc (.cells #[.int .i64 r, .int .i64 s, .int .i64 p, .int .i64 x, .int .i64 y, .int .i64 f] 33) = W0 at *
    refine (implIsPublic_any _ _).mono ?_
    rintro e u1 ⟨rfl, b1⟩
    have B1 := btr b0 b1
    have d0 := (A0.on b1).cell 0 _ rfl
    have d1 := (A0.on b1).cell 1 _ rfl
    have d2 := (A0.on b1).cell 2 _ rfl
    have d3 := (A0.on b1).cell 3 _ rfl
    have d4 := (A0.on b1).cell 4 _ rfl
    have d5 := (A0.on b1).cell 5 _ rfl
    go_wp2_with fail
    refine (implIsPublic_any _ _).mono ?_
    rintro e u2 ⟨rfl, b2⟩
    have B2 := btr B1 b2
    have b12 := btr b1 b2
    clear d0 d1 d2 d3 d4 d5 b1 b2
    have d0 := (A0.on b12).cell 0 _ rfl
    have d1 := (A0.on b12).cell 1 _ rfl
    have d2 := (A0.on b12).cell 2 _ rfl
    have d3 := (A0.on b12).cell 3 _ rfl
    have d4 := (A0.on b12).cell 4 _ rfl
    have d5 := (A0.on b12).cell 5 _ rfl
    go_wp2_with fail
    refine (isSum_any _ _).mono ?_
    rintro r w' ⟨rfl, rfl⟩
    go_wp2_with fail
    go_ret
    exact ⟨rfl, B2⟩
  · rw [repF_yes (by rw [hr, hs, hp, hf]; rfl)]
    go_enter Tryz.func19, Tryz.ntmps19
    go_wp2_with fail
    refine (isSum_any _ _).mono ?_
    rintro r w' ⟨rfl, rfl⟩
    go_wp2_with fail
    generalize w.alloc (.cells #[.int .i64 r, .int .i64 s, .int .i64 p, .int .i64 x, .int .i64 y, .int .i64 f] 33) = W0 at *
    refine (implIsPublic_any _ _).mono ?_
    rintro e u1 ⟨rfl, b1⟩
    have B1 := btr b0 b1
    have d0 := (A0.on b1).cell 0 _ rfl
    have d1 := (A0.on b1).cell 1 _ rfl
    have d2 := (A0.on b1).cell 2 _ rfl
    have d3 := (A0.on b1).cell 3 _ rfl
    have d4 := (A0.on b1).cell 4 _ rfl
    have d5 := (A0.on b1).cell 5 _ rfl
    go_wp2_with fail
    refine (implIsPublic_any _ _).mono ?_
    rintro e u2 ⟨rfl, b2⟩
    have B2 := btr B1 b2
    have b12 := btr b1 b2
    clear d0 d1 d2 d3 d4 d5 b1 b2
    have d0 := (A0.on b12).cell 0 _ rfl
    have d1 := (A0.on b12).cell 1 _ rfl
    have d2 := (A0.on b12).cell 2 _ rfl
    have d3 := (A0.on b12).cell 3 _ rfl
    have d4 := (A0.on b12).cell 4 _ rfl
    have d5 := (A0.on b12).cell 5 _ rfl
    go_wp2_with fail
    refine (isSum_any _ _).mono ?_
    rintro r w' ⟨rfl, rfl⟩
    go_wp2_with fail
    refine (implSignFault_any x y _ (E0.on b12)).mono ?_
    rintro e u3 ⟨rfl, b3⟩
    have B3 := btr B2 b3
    go_wp2_with fail
    go_ret
    exact ⟨rfl, B3⟩

theorem l3Fault3_any (g : Nat) (p q : Int) (w : World) (c0 : w.cell? ⟨g, 3, none⟩ = some (.int .i64 p)) (c1 : w.cell? ⟨g, 4, none⟩ = some (.int .i64 q)) :
    Calls Tryz.prog 77 #[.pointer (some ⟨g, 3, none⟩)] w fun r w' => r = .returned (.int .i64 (M.sigF p q)) ∧ w = w' := by
  cases hp : pubB p
  · have E : M.sigF p q = 3 := by simp [M.sigF, M.sigB, hp]
    rw [E]; clear E
    go_enter Tryz.func77, Tryz.ntmps77
    go_wp2_with fail
    refine (l1Public_any _ _).mono ?_
    rintro r w' ⟨rfl, rfl⟩
    go_wp2_with fail
    go_ret
    simp
  cases hq : inB q 0 1438
  · have E : M.sigF p q = 3 := by simp [M.sigF, M.sigB, hq]
    rw [E]; clear E
    go_enter Tryz.func77, Tryz.ntmps77
    go_wp2_with fail
    refine (l1Public_any _ _).mono ?_
    rintro r w' ⟨rfl, rfl⟩
    go_wp2_with fail
    refine (l1In_any _ _ _ _).mono ?_
    rintro r w' ⟨rfl, rfl⟩
    go_wp2_with fail
    go_ret
    simp
  · have E : M.sigF p q = 0 := by simp [M.sigF, M.sigB, hp, hq]
    rw [E]; clear E
    go_enter Tryz.func77, Tryz.ntmps77
    go_wp2_with fail
    refine (l1Public_any _ _).mono ?_
    rintro r w' ⟨rfl, rfl⟩
    go_wp2_with fail
    refine (l1In_any _ _ _ _).mono ?_
    rintro r w' ⟨rfl, rfl⟩
    go_wp2_with fail
    go_ret
    simp
theorem l6Reply_any (g : Nat) (r s p x y f : Int) (w : World) (A0 : At g (RL6 r s p x y f) w) :
    Calls Tryz.prog 49 #[.pointer (some ⟨g, 0, none⟩)] w fun e w' => e = .returned (.int .i64 (repF r s p x y f)) ∧ w = w' := by
  have d0 := A0.cell 0 _ rfl
  have d1 := A0.cell 1 _ rfl
  have d2 := A0.cell 2 _ rfl
  have d3 := A0.cell 3 _ rfl
  have d4 := A0.cell 4 _ rfl
  have d5 := A0.cell 5 _ rfl
  cases hr : M.sumB r
  · rw [repF_no (by rw [hr]; rfl)]
    go_enter Tryz.func49, Tryz.ntmps49
    go_wp2_with fail
    refine (l2Is_any _ _).mono ?_
    rintro r w' ⟨rfl, rfl⟩
    go_wp2_with fail
    go_ret
    simp
  cases hs : pubB s
  · rw [repF_no (by rw [hs]; simp)]
    go_enter Tryz.func49, Tryz.ntmps49
    go_wp2_with fail
    refine (l2Is_any _ _).mono ?_
    rintro r w' ⟨rfl, rfl⟩
    go_wp2_with fail
    refine (l1Public_any _ _).mono ?_
    rintro r w' ⟨rfl, rfl⟩
    go_wp2_with fail
    go_ret
    simp
  cases hp : pubB p
  · rw [repF_no (by rw [hp]; simp)]
    go_enter Tryz.func49, Tryz.ntmps49
    go_wp2_with fail
    refine (l2Is_any _ _).mono ?_
    rintro r w' ⟨rfl, rfl⟩
    go_wp2_with fail
    refine (l1Public_any _ _).mono ?_
    rintro r w' ⟨rfl, rfl⟩
    go_wp2_with fail
    refine (l1Public_any _ _).mono ?_
    rintro r w' ⟨rfl, rfl⟩
    go_wp2_with fail
    go_ret
    simp
  cases hf : M.sumB f
  · rw [repF_no (by rw [hf]; simp)]
    go_enter Tryz.func49, Tryz.ntmps49
    go_wp2_with fail
    refine (l2Is_any _ _).mono ?_
    rintro r w' ⟨rfl, rfl⟩
    go_wp2_with fail
    refine (l1Public_any _ _).mono ?_
    rintro r w' ⟨rfl, rfl⟩
    go_wp2_with fail
    refine (l1Public_any _ _).mono ?_
    rintro r w' ⟨rfl, rfl⟩
    go_wp2_with fail
    refine (l2Is_any _ _).mono ?_
    rintro r w' ⟨rfl, rfl⟩
    go_wp2_with fail
    go_ret
    simp
  · rw [repF_yes (by rw [hr, hs, hp, hf]; rfl)]
    go_enter Tryz.func49, Tryz.ntmps49
    go_wp2_with fail
    refine (l2Is_any _ _).mono ?_
    rintro r w' ⟨rfl, rfl⟩
    go_wp2_with fail
    refine (l1Public_any _ _).mono ?_
    rintro r w' ⟨rfl, rfl⟩
    go_wp2_with fail
    refine (l1Public_any _ _).mono ?_
    rintro r w' ⟨rfl, rfl⟩
    go_wp2_with fail
    refine (l2Is_any _ _).mono ?_
    rintro r w' ⟨rfl, rfl⟩
    go_wp2_with fail
    refine (l3Fault3_any g x y _ d3 d4).mono ?_
    rintro r w' ⟨rfl, rfl⟩
    go_wp2_with fail
    go_ret
    simp
theorem specReplyFault_any (r s p x y f : Int) (w : World) :
    Calls Tryz.prog 20 #[R6 r s p x y f] w fun e w' => e = .returned (.int .i64 (repF r s p x y f)) ∧ Below w.heap.size w w' := by
  have b0 := bal (Below.refl _ w) (.cells #[.int .i64 r, .int .i64 s, .int .i64 p, .int .i64 x, .int .i64 y, .int .i64 f] 33)
  have A0 := At.new w (RL6 r s p x y f) 33
  go_enter Tryz.func20, Tryz.ntmps20
  go_wp2_with fail
  refine (l6Reply_any _ r s p x y f _ A0).mono ?_
  rintro r w' ⟨rfl, rfl⟩
  go_wp2_with fail
  go_ret
  exact ⟨rfl, b0⟩
end Go.Proofs.YtepailfhagaboaaGreatDoor
namespace Go.Proofs.YtepailfhagaboaaGreatDoor
open Go.RowKit
set_option maxRecDepth 100000
set_option linter.unusedVariables false

abbrev H3 (r s : Int) (n : ByteArray) : Value := .agg #[.int .i64 r, .int .i64 s, .string n]
abbrev HL3 (r s : Int) (n : ByteArray) : List Value := [.int .i64 r, .int .i64 s, .string n]
abbrev H4 (c r s : Int) (n : ByteArray) : Value := .agg #[.int .i64 c, .int .i64 r, .int .i64 s, .string n]
abbrev HL4 (c r s : Int) (n : ByteArray) : List Value := [.int .i64 c, .int .i64 r, .int .i64 s, .string n]

theorem implHelloFault_any (r s : Int) (n : ByteArray) (w : World) (hn : n.size ≤ maxLen) :
    Calls Tryz.prog 17 #[H3 r s n] w fun e w' => e = .returned (.int .i64 (helF n.data.toList r s)) ∧ Below w.heap.size w w' := by
  have b0 := bal (Below.refl _ w) (.cells #[.int .i64 r, .int .i64 s, .string n] 26)
  have A0 := At.new w (HL3 r s n) 26
  have F := fun w => implNormalFault_any n w hn
  cases hr : M.sumB r
  · rw [helF_no (by rw [hr]; rfl)]
    go_enter Tryz.func17, Tryz.ntmps17
    go_wp2_with fail
    refine (isSum_any _ _).mono ?_
    rintro r w' ⟨rfl, rfl⟩
    go_wp2_with fail
    go_ret
    exact ⟨rfl, b0⟩
  cases hs : pubB s
  · rw [helF_no (by rw [hs]; simp)]
    go_enter Tryz.func17, Tryz.ntmps17
    go_wp2_with fail
    refine (isSum_any _ _).mono ?_
    rintro r w' ⟨rfl, rfl⟩
    go_wp2_with fail
    generalize w.alloc (.cells #[.int .i64 r, .int .i64 s, .string n] 26) = W0 at *
    refine (implIsPublic_any _ _).mono ?_
    rintro e u1 ⟨rfl, b1⟩
    have B1 := btr b0 b1
    have p0 := (A0.on b1).cell 0 _ rfl
    have p1 := (A0.on b1).cell 1 _ rfl
    have p2 := (A0.on b1).cell 2 _ rfl
    clear A0 b0 b1
    go_wp2_with fail
    go_ret
    exact ⟨rfl, B1⟩
  · rw [helF_yes (by rw [hr, hs]; rfl)]
    generalize M.normF n.data.toList = c at *
    go_enter Tryz.func17, Tryz.ntmps17
    go_wp2_with fail
    refine (isSum_any _ _).mono ?_
    rintro r w' ⟨rfl, rfl⟩
    go_wp2_with fail
    generalize w.alloc (.cells #[.int .i64 r, .int .i64 s, .string n] 26) = W0 at *
    refine (implIsPublic_any _ _).mono ?_
    rintro e u1 ⟨rfl, b1⟩
    have B1 := btr b0 b1
    have p0 := (A0.on b1).cell 0 _ rfl
    have p1 := (A0.on b1).cell 1 _ rfl
    have p2 := (A0.on b1).cell 2 _ rfl
    clear A0 b0 b1
    go_wp2_with fail
    refine (F _).mono ?_
    rintro e u2 ⟨rfl, b2⟩
    have B2 := btr B1 b2
    go_wp2_with fail
    go_ret
    exact ⟨rfl, B2⟩

theorem l6Hello_any (g : Nat) (r s : Int) (n : ByteArray) (w : World) (A0 : At g (HL3 r s n) w) (hn : n.size ≤ maxLen) :
    Calls Tryz.prog 47 #[.pointer (some ⟨g, 0, none⟩)] w fun e w' => e = .returned (.int .i64 (helF n.data.toList r s)) ∧ Below w.heap.size w w' := by
  have hL : n.data.toList.length = n.size := by simp
  have F := fun w => l5Fault_any n w hn
  have d0 := A0.cell 0 _ rfl
  have d1 := A0.cell 1 _ rfl
  have d2 := A0.cell 2 _ rfl
  cases hr : M.sumB r
  · rw [helF_no (by rw [hr]; rfl)]
    go_enter Tryz.func47, Tryz.ntmps47
    go_wp2_with fail
    refine (l2Is_any _ _).mono ?_
    rintro r w' ⟨rfl, rfl⟩
    go_wp2_with fail
    go_ret
    exact ⟨rfl, Below.refl _ _⟩
  cases hs : pubB s
  · rw [helF_no (by rw [hs]; simp)]
    go_enter Tryz.func47, Tryz.ntmps47
    go_wp2_with fail
    refine (l2Is_any _ _).mono ?_
    rintro r w' ⟨rfl, rfl⟩
    go_wp2_with fail
    refine (l1Public_any _ _).mono ?_
    rintro r w' ⟨rfl, rfl⟩
    go_wp2_with fail
    go_ret
    exact ⟨rfl, Below.refl _ _⟩
  rw [helF_yes (by rw [hr, hs]; rfl)]
  by_cases h0 : M.nameF n.data.toList = 0
  · obtain ⟨h20, hm⟩ := M.nameF_zero h0
    rw [hL] at h20
    have N := fun w : World => l5Normal_any n w h20
    have Q := text_beq (M.bs (M.nrm n.data.toList)) n
    rw [M.bs_list] at Q
    rw [h0] at F
    by_cases hq : M.nrm n.data.toList = n.data.toList
    · rw [M.normF_yes h0 hq]
      rw [decide_eq_true hq] at Q
      generalize M.bs (M.nrm n.data.toList) = R at *
      clear h0 hm hq hL
      go_enter Tryz.func47, Tryz.ntmps47
      go_wp2_with fail
      refine (l2Is_any _ _).mono ?_
      rintro r w' ⟨rfl, rfl⟩
      go_wp2_with fail
      refine (l1Public_any _ _).mono ?_
      rintro r w' ⟨rfl, rfl⟩
      go_wp2_with fail
      refine (F _).mono ?_
      rintro e u1 ⟨rfl, b1⟩
      have p0 := (A0.on b1).cell 0 _ rfl
      have p1 := (A0.on b1).cell 1 _ rfl
      have p2 := (A0.on b1).cell 2 _ rfl
      go_wp2_with fail
      refine wp_region_line (Bel u1) [(0, true), (1, true), (2, true), (3, true), (5, true), (6, true), (7, true), (8, true), (4, false), (9, true)] (by kernel_rfl) (by kernel_rfl) (fun _ _ d _ _ h => by cases d <;> exact h) (Bel.drew u1) ?_
      have hst := Bel.drew u1
      have inst : Nonempty (Of (Bel u1)) := ⟨⟨_, hst⟩⟩
      have q2 := bel_cell p2
      iterate 8 (refine line_read rfl (by kernel_rfl) (fun K hK => ?_); go_big_quiet_op; refine hK _ ?_; clear hK K)
      refine line_alone rfl (by kernel_rfl) (fun K hK => ?_)
      refine call_wp (args := #[.string n]) rfl (by kernel_rfl) (by kernel_rfl) (N _) (fun wn hbn => ?_)
      have hst2 := hst.on hbn
      refine hK _ _ hst2 ?_
      clear hK K hst hbn
      have hst := hst2
      clear hst2
      simp only [Act.put, List.setIfInBounds_toArray, List.set_cons_zero, List.set_cons_succ]
      iterate 1 (refine line_read rfl (by kernel_rfl) (fun K hK => ?_); go_big_quiet_op; refine hK _ ?_; clear hK K)
      refine line_nil ?_
      have bb := btr b1 hst.out
      go_wp2_with fail
      go_ret
      exact ⟨rfl, bb⟩
    · rw [M.normF_form h0 hq]
      rw [decide_eq_false hq] at Q
      generalize M.bs (M.nrm n.data.toList) = R at *
      clear h0 hm hq hL
      go_enter Tryz.func47, Tryz.ntmps47
      go_wp2_with fail
      refine (l2Is_any _ _).mono ?_
      rintro r w' ⟨rfl, rfl⟩
      go_wp2_with fail
      refine (l1Public_any _ _).mono ?_
      rintro r w' ⟨rfl, rfl⟩
      go_wp2_with fail
      refine (F _).mono ?_
      rintro e u1 ⟨rfl, b1⟩
      have p0 := (A0.on b1).cell 0 _ rfl
      have p1 := (A0.on b1).cell 1 _ rfl
      have p2 := (A0.on b1).cell 2 _ rfl
      go_wp2_with fail
      refine wp_region_line (Bel u1) [(0, true), (1, true), (2, true), (3, true), (5, true), (6, true), (7, true), (8, true), (4, false), (9, true)] (by kernel_rfl) (by kernel_rfl) (fun _ _ d _ _ h => by cases d <;> exact h) (Bel.drew u1) ?_
      have hst := Bel.drew u1
      have inst : Nonempty (Of (Bel u1)) := ⟨⟨_, hst⟩⟩
      have q2 := bel_cell p2
      iterate 8 (refine line_read rfl (by kernel_rfl) (fun K hK => ?_); go_big_quiet_op; refine hK _ ?_; clear hK K)
      refine line_alone rfl (by kernel_rfl) (fun K hK => ?_)
      refine call_wp (args := #[.string n]) rfl (by kernel_rfl) (by kernel_rfl) (N _) (fun wn hbn => ?_)
      have hst2 := hst.on hbn
      refine hK _ _ hst2 ?_
      clear hK K hst hbn
      have hst := hst2
      clear hst2
      simp only [Act.put, List.setIfInBounds_toArray, List.set_cons_zero, List.set_cons_succ]
      iterate 1 (refine line_read rfl (by kernel_rfl) (fun K hK => ?_); go_big_quiet_op; refine hK _ ?_; clear hK K)
      refine line_nil ?_
      have bb := btr b1 hst.out
      go_wp2_with fail
      go_ret
      exact ⟨rfl, bb⟩
  · rw [M.normF_no h0]
    generalize M.nameF n.data.toList = c at *
    go_enter Tryz.func47, Tryz.ntmps47
    go_wp2_with fail
    refine (l2Is_any _ _).mono ?_
    rintro r w' ⟨rfl, rfl⟩
    go_wp2_with fail
    refine (l1Public_any _ _).mono ?_
    rintro r w' ⟨rfl, rfl⟩
    go_wp2_with fail
    refine (F _).mono ?_
    rintro e u1 ⟨rfl, b1⟩
    have p0 := (A0.on b1).cell 0 _ rfl
    have p1 := (A0.on b1).cell 1 _ rfl
    have p2 := (A0.on b1).cell 2 _ rfl
    go_wp2_with fail
    go_ret
    exact ⟨rfl, b1⟩
theorem specHelloFault_any (r s : Int) (n : ByteArray) (w : World) (hn : n.size ≤ maxLen) :
    Calls Tryz.prog 18 #[H3 r s n] w fun e w' => e = .returned (.int .i64 (helF n.data.toList r s)) ∧ Below w.heap.size w w' := by
  have b0 := bal (Below.refl _ w) (.cells #[.int .i64 r, .int .i64 s, .string n] 26)
  have A0 := At.new w (HL3 r s n) 26
  go_enter Tryz.func18, Tryz.ntmps18
  go_wp2_with fail
  refine (l6Hello_any _ r s n _ A0 hn).mono ?_
  rintro e u1 ⟨rfl, b1⟩
  have hb := btr b0 b1
  go_wp2_with fail
  go_ret
  exact ⟨rfl, hb⟩
end Go.Proofs.YtepailfhagaboaaGreatDoor
namespace Go.Proofs.YtepailfhagaboaaGreatDoor
open Go.RowKit
set_option maxRecDepth 100000

theorem signer_split {s t : Int} (h : (inB s 1 1438 && M.sumB t) = true) : inB s 1 1438 = true ∧ M.sumB t = true := by simpa using h

end Go.Proofs.YtepailfhagaboaaGreatDoor
namespace Go.Proofs.YtepailfhagaboaaGreatDoor
open Go.RowKit
set_option maxRecDepth 100000

theorem kf0 (a b : Int) (w : World) : Sem.run Tryz.prog (Instr.field 96 (.agg #[.int .i64 a, .int .i64 b]) 0) w = .ok (.int .i64 a) w := by kernel_rfl
theorem kf1 (a b : Int) (w : World) : Sem.run Tryz.prog (Instr.field 96 (.agg #[.int .i64 a, .int .i64 b]) 1) w = .ok (.int .i64 b) w := by kernel_rfl

theorem l3Sign_any (s t : Int) (w : World) (hs : inB s 1 1438 = true) (ht : M.sumB t = true) :
    Calls Tryz.prog 61 #[.int .i64 s, .int .i64 t] w fun r w' => r = .returned (I2 (M.sigPt s t) (M.sigPr s t)) ∧ Below w.heap.size w w' := by
  have hs' := hs
  simp only [inB, decide_eq_true_eq] at hs'
  obtain ⟨s0, s1⟩ := hs'
  have hS := M.sum_of_sec hs
  have e1 : M.sigPt s t = M.pw 4 (M.nonceN s t).toNat 2879 := rfl
  have e2 : M.sigPr s t = (M.nonceN s t + M.chalN (M.pw 4 s.toNat 2879) (M.pw 4 (M.nonceN s t).toNat 2879) t * s) % 1439 := rfl
  rw [e1, e2]
  clear e1 e2
  obtain ⟨n0, n1⟩ := M.nonceN_bd s t
  obtain ⟨c0, c1⟩ := M.chalN_bd (M.pw 4 s.toNat 2879) (M.pw 4 (M.nonceN s t).toNat 2879) t
  obtain ⟨m0, m1⟩ := M.mul_bd (M := 1439) c0 (by omega) (show 0 ≤ s by omega) (by omega) (by omega)
  have hp1 := M.pow_sum (a := 4) s.toNat
  have hp2 := M.pow_sum (a := 4) (M.nonceN s t).toNat
  have K1 := fun w => l1Key_any s w (by omega) (by omega)
  have K2 := fun w => l1Key_any (M.nonceN s t) w (by omega) (by omega)
  generalize M.pw 4 s.toNat 2879 = U at *
  generalize M.pw 4 (M.nonceN s t).toNat 2879 = P at *
  have g0 := kf0
  have g1 := kf1
  have N1 := fun w => l3Nonce_any s t w hS ht
  generalize M.nonceN s t = n at *
  go_enter Tryz.func61, Tryz.ntmps61
  go_wp2_with fail
  refine (N1 _).mono ?_
  rintro r w1 ⟨rfl, h1⟩
  go_wp2_with fail
  refine (K2 _).mono ?_
  rintro r w2 ⟨rfl, h2⟩
  have k0 : (w2.alloc (.cells #[.int .i64 n, .int .i64 P] 96)).drew.cell? ⟨w2.heap.size, 0, none⟩ = some (.int .i64 n) := by go_simp
  have k1 : (w2.alloc (.cells #[.int .i64 n, .int .i64 P] 96)).drew.cell? ⟨w2.heap.size, 1, none⟩ = some (.int .i64 P) := by go_simp
  have hbel := (bal (btr h1 h2) (.cells #[.int .i64 n, .int .i64 P] 96)).drew
  have hR0 := Res2.new w 31
  have hb0 := bal (Below.refl _ w) (.cells #[.int .i64 0, .int .i64 0] 31)
  clear h1 h2
  go_wp2_with fail
  generalize w2.alloc (.cells #[.int .i64 n, .int .i64 P] 96) = v2 at *
  generalize w.alloc (.cells #[.int .i64 0, .int .i64 0] 31) = W0 at *
  go_region_held3 (fun w' => w'.cell? ⟨w2.heap.size, 1, none⟩ = some (.int .i64 P)) (first | exact k1) (first | (go_at_call 54; refine (K1 _).mono ?_; rintro r wn ⟨rfl, hbn⟩; have pk := cell_keep hbn k0; clear k0; have k0 := pk; clear pk; have pk := cell_keep hbn k1; clear k1; have k1 := pk; clear pk; have bk := btr hbel hbn; clear hbel; have hbel := bk; clear bk hbn) | (go_at_call 86; refine (l3Challenge_any _ _ _ _ hp1 hp2 ht).mono ?_; rintro r wn ⟨rfl, hbn⟩; have pk := cell_keep hbn k0; clear k0; have k0 := pk; clear pk; have pk := cell_keep hbn k1; clear k1; have k1 := pk; clear pk; have bk := btr hbel hbn; clear hbel; have hbel := bk; clear bk hbn))
  all_goals
    obtain ⟨q0, q1, z0, z1⟩ := hR0.on hbel
    go_wp2_with fail
    exact bodyPost_ret (v := I2 P ((n + M.chalN U P t * s) % 1439)) (by simp [results, Tryz.results61, go_sem, q0, q1]) rfl ⟨rfl, bset (bset (btr hb0 hbel) (Nat.le_refl _) _) (Nat.le_refl _) _⟩

theorem checkB_yes {u t p q : Int} (hu : pubB u = true) (ht : M.sumB t = true) (hg : M.sigB p q = true) : M.checkB u t p q = (M.pw 4 q.toNat 2879 == p * M.pw u (M.chalN u p t).toNat 2879 % 2879) := by
  simp only [M.checkB, hu, ht, hg, Bool.and_self, Bool.true_and]

end Go.Proofs.YtepailfhagaboaaGreatDoor
namespace Go.Proofs.YtepailfhagaboaaGreatDoor
open Go.RowKit
set_option maxRecDepth 100000
set_option linter.unusedVariables false

theorem dsecret6 {w0 : World} {a : Option Addr} {len cap : Nat} {zs : List Int} {p : Nat} {w : World} (D : Draw w0 a len cap zs p w) (hp : p ≤ 1000000) :
    Calls Tryz.prog 55 #[.pointer (some ⟨w0.heap.size, 0, none⟩)] w fun r w' => ∃ v : Int, 1 ≤ v ∧ v ≤ 1438 ∧ r = .returned (.int .i64 v) ∧ Draw w0 a len cap zs (p + 1) w' ∧ Only w0.heap.size w w' := by
  go_enter Tryz.func55, Tryz.ntmps55
  go_wp2_with fail
  refine (dnext _ D hp).mono ?_
  rintro r w2 ⟨x, x0, x1, rfl, D2, O2⟩
  have x2 : x < 1438 := by omega
  clear x1 D
  go_wp2_with fail
  go_ret
  exact ⟨1 + x, by omega, by omega, rfl, D2, O2⟩

/-- While something is drawn: the source, and the result's block. -/
structure Drw (w0 : World) (a : Option Addr) (len cap : Nat) (zs : List Int) (p : Nat) (w : World) (rb : Nat) (rs : List Value) (cur : World) : Prop where
  draw : Draw w0 a len cap zs p cur
  grew : w.grownBy cur (some w0.heap.size)
  res : At rb rs cur
section
variable {w0 : World} {a : Option Addr} {len cap : Nat} {zs : List Int} {p p' : Nat} {w : World} {rb tb : Nat} {rs cs : List Value} {cur cur' : World}
theorem Drw.only (h : Drw w0 a len cap zs p w rb rs cur) (hO : Only w0.heap.size cur cur') (D : Draw w0 a len cap zs p' cur') (h1 : rb ≠ w0.heap.size) : Drw w0 a len cap zs p' w rb rs cur' :=
  ⟨D, gtr h.grew hO.grown, h.res.only5 hO h1⟩
theorem Drw.kept (h : Drw w0 a len cap zs p w rb rs cur) (hO : cur.grownBy cur' (some w0.heap.size)) (D : Draw w0 a len cap zs p' cur') (h1 : rb ≠ w0.heap.size) : Drw w0 a len cap zs p' w rb rs cur' :=
  ⟨D, gtr h.grew hO, h.res.kept hO (fun e => by injection e with e; exact h1 e)⟩
theorem Drw.on (h : Drw w0 a len cap zs p w rb rs cur) (hb : Below cur.heap.size cur cur') : Drw w0 a len cap zs p w rb rs cur' := ⟨h.draw.below hb, gbe h.grew hb, h.res.on hb⟩
theorem Drw.alloc (h : Drw w0 a len cap zs p w rb rs cur) (o : Obj) : Drw w0 a len cap zs p w rb rs (cur.alloc o) := ⟨h.draw.alloc o, gal h.grew o, h.res.alloc o⟩
/-- And a second block. -/
structure BentX (w0 : World) (a : Option Addr) (len cap : Nat) (zs : List Int) (p : Nat) (w : World) (rb : Nat) (rs : List Value) (tb : Nat) (cs : List Value) (cur : World) : Prop where
  drw : Drw w0 a len cap zs p w rb rs cur
  one : At tb cs cur
theorem BentX.only (h : BentX w0 a len cap zs p w rb rs tb cs cur) (hO : Only w0.heap.size cur cur') (D : Draw w0 a len cap zs p' cur') (h1 : rb ≠ w0.heap.size) (h2 : tb ≠ w0.heap.size) : BentX w0 a len cap zs p' w rb rs tb cs cur' :=
  ⟨h.drw.only hO D h1, h.one.only5 hO h2⟩
theorem BentX.kept (h : BentX w0 a len cap zs p w rb rs tb cs cur) (hO : cur.grownBy cur' (some w0.heap.size)) (D : Draw w0 a len cap zs p' cur') (h1 : rb ≠ w0.heap.size) (h2 : tb ≠ w0.heap.size) : BentX w0 a len cap zs p' w rb rs tb cs cur' :=
  ⟨h.drw.kept hO D h1, h.one.kept hO (fun e => by injection e with e; exact h2 e)⟩
theorem BentX.alloc (h : BentX w0 a len cap zs p w rb rs tb cs cur) (o : Obj) : BentX w0 a len cap zs p w rb rs tb cs (cur.alloc o) := ⟨h.drw.alloc o, h.one.alloc o⟩
theorem BentX.put (i : Nat) (x : Value) (h : BentX w0 a len cap zs p w rb rs tb cs cur) (h1 : rb ≠ tb) (h2 : w0.heap.size < tb) (h3 : w.heap.size ≤ tb) : BentX w0 a len cap zs p w rb rs tb (cs.set i x) (cur.setCell ⟨tb, i, none⟩ x) :=
  ⟨⟨h.drw.draw.put h2 x, gset h.drw.grew h3 x, h.drw.res.setB (p := ⟨tb, i, none⟩) h1 x⟩, h.one.set i x⟩
end

/-- A hello was drawn; a reply. -/
def DHello (K : Nat) (Q : ByteArray → Int → Int → Prop) (w0 : World) (a : Option Addr) (len cap : Nat) (zs : List Int) (w : World) (e : Ending) (w' : World) : Prop :=
  ∃ (r s : Int) (n : ByteArray) (p : Nat), Q n r s ∧ p ≤ K ∧ e = .returned (H3 r s n) ∧ Draw w0 a len cap zs p w' ∧ w.grownBy w' (some w0.heap.size)
def DReply (K : Nat) (Q : Int → Int → Int → Int → Int → Int → Prop) (w0 : World) (a : Option Addr) (len cap : Nat) (zs : List Int) (w : World) (e : Ending) (w' : World) : Prop :=
  ∃ (r s t x y f : Int) (p : Nat), Q r s t x y f ∧ p ≤ K ∧ e = .returned (R6 r s t x y f) ∧ Draw w0 a len cap zs p w' ∧ w.grownBy w' (some w0.heap.size)

theorem dl6DrawHello {w0 : World} {a : Option Addr} {len cap : Nat} {zs : List Int} {w : World} (D : Draw w0 a len cap zs 0 w) :
    Calls Tryz.prog 30 #[.pointer (some ⟨w0.heap.size, 0, none⟩)] w (DHello 3 (fun n r s => helF n.data.toList r s = 0) w0 a len cap zs w) := by
  have g1 := key1
  have hlt := D.lt
  have B0 : Drw w0 a len cap zs 0 w w.heap.size (HL3 0 0 { data := #[] }) (w.alloc (.cells #[.int .i64 0, .int .i64 0, .string { data := #[] }] 26)) :=
    ⟨D.alloc _, gal (World.grownBy.refl w (some w0.heap.size)) _, At.new w (HL3 0 0 { data := #[] }) 26⟩
  clear D
  go_enter Tryz.func30, Tryz.ntmps30
  go_wp2_with fail
  generalize w.alloc (.cells #[.int .i64 0, .int .i64 0, .string { data := #[] }] 26) = W0 at *
  refine (dnext 65521 B0.draw (by omega)).mono ?_
  rintro e w1 ⟨x, x0, x1, rfl, D1, O1⟩
  have hx : M.sumB x = true := by simp only [M.sumB, decide_eq_true_eq]; omega
  have B1 := B0.only O1 D1 (by omega)
  clear B0 D1 O1 x0 x1
  go_wp2_with fail
  refine (dsecret6 B1.draw (by omega)).mono ?_
  rintro e w2 ⟨k, k0, k1, rfl, D2, O2⟩
  have B2 := B1.only O2 D2 (by omega)
  clear B1 D2 O2
  go_wp2_with fail
  refine (l1Key_any _ _ (by omega) (by omega)).mono ?_
  rintro e w3 ⟨rfl, b3⟩
  have B3 := B2.on b3
  have hs := pub_base k0 k1
  generalize M.pw 4 k.toNat 2879 = s at *
  clear B2 b3
  go_wp2_with fail
  refine (dl5DrawName B3.draw (by omega)).mono ?_
  rintro e w4 ⟨n, hn, rfl, D4, g4⟩
  have B4 := B3.kept g4 D4 (by omega)
  have hF : helF n.data.toList x s = 0 := by rw [helF_yes (by rw [hx, hs]; rfl)]; exact hn.2
  have q0 := B4.res.cell 0 _ rfl
  have q1 := B4.res.cell 1 _ rfl
  have q2 := B4.res.cell 2 _ rfl
  have z0 := B4.res.free 0 _ rfl
  have z1 := B4.res.free 1 _ rfl
  have z2 := B4.res.free 2 _ rfl
  have HD := Lib.hid (And.intro hF B4)
  clear B3 B4 D4 g4 hn hF hx hs k0 k1
  go_wp2_with fail
  refine bodyPost_ret (v := H3 x s n) (by simp [results, Tryz.results30, go_sem, q0, q1, q2]) rfl ?_
  refine ⟨x, s, n, _, HD.out.1, Nat.le_refl _, rfl, ?_, ?_⟩
  · iterate 3 (refine Draw.put ?_ (by dsimp only; omega) _)
    exact HD.out.2.draw
  · iterate 3 (refine gset ?_ (Nat.le_refl _) _)
    exact HD.out.2.grew
theorem dl6DrawReply {w0 : World} {a : Option Addr} {len cap : Nat} {zs : List Int} {p : Nat} {w : World} (D : Draw w0 a len cap zs p w) (hp : p ≤ 100) :
    Calls Tryz.prog 36 #[.pointer (some ⟨w0.heap.size, 0, none⟩)] w (DReply (p + 6) (fun r s t x y f => repF r s t x y f = 0) w0 a len cap zs w) := by
  have g1 := key1
  have hlt := D.lt
  have B0 : Drw w0 a len cap zs p w w.heap.size (RL6 0 0 0 0 0 0) (w.alloc (.cells #[.int .i64 0, .int .i64 0, .int .i64 0, .int .i64 0, .int .i64 0, .int .i64 0] 33)) :=
    ⟨D.alloc _, gal (World.grownBy.refl w (some w0.heap.size)) _, At.new w (RL6 0 0 0 0 0 0) 33⟩
  clear D
  go_enter Tryz.func36, Tryz.ntmps36
  go_wp2_with fail
  generalize w.alloc (.cells #[.int .i64 0, .int .i64 0, .int .i64 0, .int .i64 0, .int .i64 0, .int .i64 0] 33) = W0 at *
  refine (dnext 65521 B0.draw (by omega)).mono ?_
  rintro e w1 ⟨r, r0, r1, rfl, D1, O1⟩
  have hr : M.sumB r = true := by simp only [M.sumB, decide_eq_true_eq]; omega
  have B1 := B0.only O1 D1 (by omega)
  clear B0 D1 O1 r0 r1
  go_wp2_with fail
  refine (dsecret6 B1.draw (by omega)).mono ?_
  rintro e w2 ⟨k, k0, k1, rfl, D2, O2⟩
  have B2 := B1.only O2 D2 (by omega)
  clear B1 D2 O2
  go_wp2_with fail
  refine (l1Key_any _ _ (by omega) (by omega)).mono ?_
  rintro e w3 ⟨rfl, b3⟩
  have B3 := B2.on b3
  have hs := pub_base k0 k1
  generalize M.pw 4 k.toNat 2879 = s at *
  clear B2 b3
  go_wp2_with fail
  refine (dnext 3 B3.draw (by omega)).mono ?_
  rintro e w4 ⟨u, u0, u1, rfl, D4, O4⟩
  have B4 := B3.only O4 D4 (by omega)
  have u2 : u < 3 := by omega
  clear B3 D4 O4 u1
  go_wp2_with fail
  refine (l1Key_any _ _ (by omega) (by omega)).mono ?_
  rintro e w5 ⟨rfl, b5⟩
  have B5 := B4.on b5
  have ht := pub_base (a := 1 + u) (by omega) (by omega)
  generalize M.pw 4 (1 + u).toNat 2879 = t at *
  clear B4 b5
  go_wp2_with fail
  refine (dnext 3 B5.draw (by omega)).mono ?_
  rintro e w6 ⟨v, v0, v1, rfl, D6, O6⟩
  have B6 := B5.only O6 D6 (by omega)
  have v2 : v < 3 := by omega
  clear B5 D6 O6 v1
  go_wp2_with fail
  refine (dnext 65521 B6.draw (by omega)).mono ?_
  rintro e w7 ⟨m, m0, m1, rfl, D7, O7⟩
  have hm : M.sumB m = true := by simp only [M.sumB, decide_eq_true_eq]; omega
  have B7 := B6.only O7 D7 (by omega)
  clear B6 D7 O7 m0 m1
  have SG := fun w => l3Sign_any (1 + v) m w (by simp only [inB, decide_eq_true_eq]; omega) hm
  have hsg := M.sigB_signed (1 + v) m
  generalize M.sigPt (1 + v) m = x at *
  generalize M.sigPr (1 + v) m = y at *
  go_wp2_with fail
  refine (SG _).mono ?_
  rintro e w8 ⟨rfl, b8⟩
  have B8 := B7.on b8
  clear B7 b8 SG
  go_wp2_with fail
  refine (dnext 65521 B8.draw (by omega)).mono ?_
  rintro e w9 ⟨f, f0, f1, rfl, D9, O9⟩
  have hf : M.sumB f = true := by simp only [M.sumB, decide_eq_true_eq]; omega
  have B9 := B8.only O9 D9 (by omega)
  have hF : repF r s t x y f = 0 := by rw [repF_yes (by rw [hr, hs, ht, hf]; rfl)]; simp [M.sigF, hsg]
  have q0 := B9.res.cell 0 _ rfl
  have q1 := B9.res.cell 1 _ rfl
  have q2 := B9.res.cell 2 _ rfl
  have q3 := B9.res.cell 3 _ rfl
  have q4 := B9.res.cell 4 _ rfl
  have q5 := B9.res.cell 5 _ rfl
  have z0 := B9.res.free 0 _ rfl
  have z1 := B9.res.free 1 _ rfl
  have z2 := B9.res.free 2 _ rfl
  have z3 := B9.res.free 3 _ rfl
  have z4 := B9.res.free 4 _ rfl
  have z5 := B9.res.free 5 _ rfl
  have HD := Lib.hid (And.intro hF B9)
  clear B8 B9 D9 O9 f0 f1 hF hr hs ht hf hm hsg k0 k1
  go_wp2_with fail
  refine bodyPost_ret (v := R6 r s t x y f) (by simp [results, Tryz.results36, go_sem, q0, q1, q2, q3, q4, q5]) rfl ?_
  refine ⟨r, s, t, x, y, f, p + 1 + 1 + 1 + 1 + 1 + 1, HD.out.1, ?hp, rfl, ?hd, ?hg⟩
  case hd =>
    iterate 6 (refine Draw.put ?_ (by dsimp only; omega) _)
    exact HD.out.2.draw
  case hg =>
    iterate 6 (refine gset ?_ (Nat.le_refl _) _)
    exact HD.out.2.grew
  case hp => omega

theorem dl6BentHello {w0 : World} {a : Option Addr} {len cap : Nat} {zs : List Int} {w : World} (D : Draw w0 a len cap zs 0 w) :
    Calls Tryz.prog 39 #[.pointer (some ⟨w0.heap.size, 0, none⟩)] w (DHello 10 (fun n r s => n.size ≤ 21) w0 a len cap zs w) := by
  have hlt := D.lt
  have D0 := D.alloc (.cells #[.int .i64 0, .int .i64 0, .string { data := #[] }] 26)
  have A0 := At.new w (HL3 0 0 { data := #[] }) 26
  have G0 := gal (World.grownBy.refl w (some w0.heap.size)) (.cells #[.int .i64 0, .int .i64 0, .string { data := #[] }] 26)
  have lt0 : w.heap.size < (w.alloc (.cells #[.int .i64 0, .int .i64 0, .string { data := #[] }] 26)).heap.size := by simp
  go_enter Tryz.func39, Tryz.ntmps39
  go_wp2_with fail
  generalize w.alloc (.cells #[.int .i64 0, .int .i64 0, .string { data := #[] }] 26) = W0 at *
  refine (dl6DrawHello D0).mono ?_
  rintro e w1 ⟨r, s, n, p, hf, hp, rfl, D1, g1⟩
  have hn := hel_size hf
  have lt1 : W0.heap.size ≤ w1.heap.size := g1.size
  have B1 : BentX w0 a len cap zs p w w.heap.size (HL3 0 0 { data := #[] }) w1.heap.size (HL3 r s n) (w1.alloc (.cells #[.int .i64 r, .int .i64 s, .string n] 26)) :=
    ⟨⟨D1.alloc _, gal (gtr G0 g1) _, (A0.kept g1 (fun e => by injection e with e; omega)).alloc _⟩, At.new w1 (HL3 r s n) 26⟩
  have hn' : n.size ≤ 21 := by omega
  clear D D0 A0 G0 D1 g1 hf hn
  go_wp2_with fail
  generalize w1.alloc (.cells #[.int .i64 r, .int .i64 s, .string n] 26) = v1 at *
  refine (dnext 8 B1.drw.draw (by omega)).mono ?_
  rintro e w2 ⟨sw, t0, t1, rfl, D2, O2⟩
  have B2 := B1.only O2 D2 (by omega) (by omega)
  clear B1 D2 O2 t1
  by_cases e0 : sw = 0
  · subst e0
    go_wp2_with fail
    refine (dl5Bent B2.drw.draw (by omega)).mono ?_
    rintro e w3 ⟨m, hs, rfl, D3, g3⟩
    have B3 := B2.kept g3 D3 (by omega) (by omega)
    have B4 := B3.put 2 (.string m) (by omega) (by omega) (by omega)
    clear B2 D3 g3
    have q0 := B3.drw.res.cell 0 _ rfl
    have q1 := B3.drw.res.cell 1 _ rfl
    have q2 := B3.drw.res.cell 2 _ rfl
    have z0 := B3.drw.res.free 0 _ rfl
    have z1 := B3.drw.res.free 1 _ rfl
    have z2 := B3.drw.res.free 2 _ rfl
    have x0 := B3.one.cell 0 _ rfl
    have x1 := B3.one.cell 1 _ rfl
    have x2 := B3.one.cell 2 _ rfl
    have f0 := B3.one.free 0 _ rfl
    have f1 := B3.one.free 1 _ rfl
    have f2 := B3.one.free 2 _ rfl
    have hrb : w.heap.size ≠ w1.heap.size := by omega
    have HB := Lib.hid B4
    clear B3 B4
    go_wp2_with fail
    refine bodyPost_ret (v := H3 r s m) (by simp [results, Tryz.results39, go_sem, q0, q1, q2]) rfl ?_
    refine ⟨_, _, _, p + 1 + 1, hs, ?hp, rfl, ?hd, ?hg⟩
    case hd =>
      iterate 3 (refine Draw.put ?_ (by dsimp only; omega) _)
      exact HB.out.drw.draw
    case hg =>
      iterate 3 (refine gset ?_ (Nat.le_refl _) _)
      exact HB.out.drw.grew
    case hp => omega
  by_cases e1 : sw = 1
  · subst e1
    go_wp2_with fail
    refine (dpick [1, 5, 2879] 3 B2.drw.draw (by omega) (by omega) (by omega) rfl 2).mono ?_
    rintro e w3 ⟨y, hy, rfl, D3, O3⟩
    have B3 := (B2.alloc (.cells #[.int .i64 1, .int .i64 5, .int .i64 2879] 2)).only O3 D3 (by omega) (by omega)
    have B4 := B3.put 1 (.int .i64 y) (by omega) (by omega) (by omega)
    clear B2 D3 O3 hy
    have q0 := B3.drw.res.cell 0 _ rfl
    have q1 := B3.drw.res.cell 1 _ rfl
    have q2 := B3.drw.res.cell 2 _ rfl
    have z0 := B3.drw.res.free 0 _ rfl
    have z1 := B3.drw.res.free 1 _ rfl
    have z2 := B3.drw.res.free 2 _ rfl
    have x0 := B3.one.cell 0 _ rfl
    have x1 := B3.one.cell 1 _ rfl
    have x2 := B3.one.cell 2 _ rfl
    have f0 := B3.one.free 0 _ rfl
    have f1 := B3.one.free 1 _ rfl
    have f2 := B3.one.free 2 _ rfl
    have hrb : w.heap.size ≠ w1.heap.size := by omega
    have HB := Lib.hid B4
    clear B3 B4
    go_wp2_with fail
    refine bodyPost_ret (v := H3 r y n) (by simp [results, Tryz.results39, go_sem, q0, q1, q2]) rfl ?_
    refine ⟨_, _, _, p + 1 + 1, hn', ?hp, rfl, ?hd, ?hg⟩
    case hd =>
      iterate 3 (refine Draw.put ?_ (by dsimp only; omega) _)
      exact HB.out.drw.draw
    case hg =>
      iterate 3 (refine gset ?_ (Nat.le_refl _) _)
      exact HB.out.drw.grew
    case hp => omega
  by_cases e2 : sw = 2
  · subst e2
    go_wp2_with fail
    refine (dpick [65521, -1] 2 B2.drw.draw (by omega) (by omega) (by omega) rfl 2).mono ?_
    rintro e w3 ⟨y, hy, rfl, D3, O3⟩
    have B3 := (B2.alloc (.cells #[.int .i64 65521, .int .i64 (-1)] 2)).only O3 D3 (by omega) (by omega)
    have B4 := B3.put 0 (.int .i64 y) (by omega) (by omega) (by omega)
    clear B2 D3 O3 hy
    have q0 := B3.drw.res.cell 0 _ rfl
    have q1 := B3.drw.res.cell 1 _ rfl
    have q2 := B3.drw.res.cell 2 _ rfl
    have z0 := B3.drw.res.free 0 _ rfl
    have z1 := B3.drw.res.free 1 _ rfl
    have z2 := B3.drw.res.free 2 _ rfl
    have x0 := B3.one.cell 0 _ rfl
    have x1 := B3.one.cell 1 _ rfl
    have x2 := B3.one.cell 2 _ rfl
    have f0 := B3.one.free 0 _ rfl
    have f1 := B3.one.free 1 _ rfl
    have f2 := B3.one.free 2 _ rfl
    have hrb : w.heap.size ≠ w1.heap.size := by omega
    have HB := Lib.hid B4
    clear B3 B4
    go_wp2_with fail
    refine bodyPost_ret (v := H3 y s n) (by simp [results, Tryz.results39, go_sem, q0, q1, q2]) rfl ?_
    refine ⟨_, _, _, p + 1 + 1, hn', ?hp, rfl, ?hd, ?hg⟩
    case hd =>
      iterate 3 (refine Draw.put ?_ (by dsimp only; omega) _)
      exact HB.out.drw.draw
    case hg =>
      iterate 3 (refine gset ?_ (Nat.le_refl _) _)
      exact HB.out.drw.grew
    case hp => omega
  · have n0 : (sw == 0) = false := by rw [beq_eq_false_iff_ne]; exact e0
    have n1 : (sw == 1) = false := by rw [beq_eq_false_iff_ne]; exact e1
    have n2 : (sw == 2) = false := by rw [beq_eq_false_iff_ne]; exact e2
    have B4 := B2
    have q0 := B2.drw.res.cell 0 _ rfl
    have q1 := B2.drw.res.cell 1 _ rfl
    have q2 := B2.drw.res.cell 2 _ rfl
    have z0 := B2.drw.res.free 0 _ rfl
    have z1 := B2.drw.res.free 1 _ rfl
    have z2 := B2.drw.res.free 2 _ rfl
    have x0 := B2.one.cell 0 _ rfl
    have x1 := B2.one.cell 1 _ rfl
    have x2 := B2.one.cell 2 _ rfl
    have f0 := B2.one.free 0 _ rfl
    have f1 := B2.one.free 1 _ rfl
    have f2 := B2.one.free 2 _ rfl
    have hrb : w.heap.size ≠ w1.heap.size := by omega
    have HB := Lib.hid B4
    clear B2 B4
    go_wp2_with fail
    refine bodyPost_ret (v := H3 r s n) (by simp [results, Tryz.results39, go_sem, q0, q1, q2]) rfl ?_
    refine ⟨_, _, _, p + 1, hn', ?hp, rfl, ?hd, ?hg⟩
    case hd =>
      iterate 3 (refine Draw.put ?_ (by dsimp only; omega) _)
      exact HB.out.drw.draw
    case hg =>
      iterate 3 (refine gset ?_ (Nat.le_refl _) _)
      exact HB.out.drw.grew
    case hp => omega
theorem dl6BentReply {w0 : World} {a : Option Addr} {len cap : Nat} {zs : List Int} {p0 : Nat} {w : World} (D : Draw w0 a len cap zs p0 w) (hp0 : p0 ≤ 20) :
    Calls Tryz.prog 41 #[.pointer (some ⟨w0.heap.size, 0, none⟩)] w (DReply 50 (fun _ _ _ _ _ _ => True) w0 a len cap zs w) := by
  have hlt := D.lt
  have D0 := D.alloc (.cells #[.int .i64 0, .int .i64 0, .int .i64 0, .int .i64 0, .int .i64 0, .int .i64 0] 33)
  have A0 := At.new w (RL6 0 0 0 0 0 0) 33
  have G0 := gal (World.grownBy.refl w (some w0.heap.size)) (.cells #[.int .i64 0, .int .i64 0, .int .i64 0, .int .i64 0, .int .i64 0, .int .i64 0] 33)
  have lt0 : w.heap.size < (w.alloc (.cells #[.int .i64 0, .int .i64 0, .int .i64 0, .int .i64 0, .int .i64 0, .int .i64 0] 33)).heap.size := by simp
  go_enter Tryz.func41, Tryz.ntmps41
  go_wp2_with fail
  generalize w.alloc (.cells #[.int .i64 0, .int .i64 0, .int .i64 0, .int .i64 0, .int .i64 0, .int .i64 0] 33) = W0 at *
  refine (dl6DrawReply D0 (by omega)).mono ?_
  rintro e w1 ⟨r, s, t, x, y, f, p, hf, hp, rfl, D1, g1⟩
  have lt1 : W0.heap.size ≤ w1.heap.size := g1.size
  have B1 : BentX w0 a len cap zs p w w.heap.size (RL6 0 0 0 0 0 0) w1.heap.size (RL6 r s t x y f) (w1.alloc (.cells #[.int .i64 r, .int .i64 s, .int .i64 t, .int .i64 x, .int .i64 y, .int .i64 f] 33)) :=
    ⟨⟨D1.alloc _, gal (gtr G0 g1) _, (A0.kept g1 (fun e => by injection e with e; omega)).alloc _⟩, At.new w1 (RL6 r s t x y f) 33⟩
  clear D D0 A0 G0 D1 g1 hf
  go_wp2_with fail
  generalize w1.alloc (.cells #[.int .i64 r, .int .i64 s, .int .i64 t, .int .i64 x, .int .i64 y, .int .i64 f] 33) = v1 at *
  refine (dnext 8 B1.drw.draw (by omega)).mono ?_
  rintro e w2 ⟨sw, t0, t1, rfl, D2, O2⟩
  have B2 := B1.only O2 D2 (by omega) (by omega)
  clear B1 D2 O2 t1
  by_cases e0 : sw = 0
  · subst e0
    go_wp2_with fail
    refine (dpick [1, 5] 2 B2.drw.draw (by omega) (by omega) (by omega) rfl 2).mono ?_
    rintro e w3 ⟨u, hu, rfl, D3, O3⟩
    have B3 := (B2.alloc (.cells #[.int .i64 1, .int .i64 5] 2)).only O3 D3 (by omega) (by omega)
    have B4 := B3.put 2 (.int .i64 u) (by omega) (by omega) (by omega)
    clear B2 D3 O3 hu
    have q0 := B3.drw.res.cell 0 _ rfl
    have q1 := B3.drw.res.cell 1 _ rfl
    have q2 := B3.drw.res.cell 2 _ rfl
    have q3 := B3.drw.res.cell 3 _ rfl
    have q4 := B3.drw.res.cell 4 _ rfl
    have q5 := B3.drw.res.cell 5 _ rfl
    have z0 := B3.drw.res.free 0 _ rfl
    have z1 := B3.drw.res.free 1 _ rfl
    have z2 := B3.drw.res.free 2 _ rfl
    have z3 := B3.drw.res.free 3 _ rfl
    have z4 := B3.drw.res.free 4 _ rfl
    have z5 := B3.drw.res.free 5 _ rfl
    have k0 := B3.one.cell 0 _ rfl
    have k1 := B3.one.cell 1 _ rfl
    have k2 := B3.one.cell 2 _ rfl
    have k3 := B3.one.cell 3 _ rfl
    have k4 := B3.one.cell 4 _ rfl
    have k5 := B3.one.cell 5 _ rfl
    have h0 := B3.one.free 0 _ rfl
    have h1 := B3.one.free 1 _ rfl
    have h2 := B3.one.free 2 _ rfl
    have h3 := B3.one.free 3 _ rfl
    have h4 := B3.one.free 4 _ rfl
    have h5 := B3.one.free 5 _ rfl
    have hrb : w.heap.size ≠ w1.heap.size := by omega
    have HB := Lib.hid B4
    clear B3 B4
    go_wp2_with fail
    refine bodyPost_ret (v := R6 r s u x y f) (by simp [results, Tryz.results41, go_sem, q0, q1, q2, q3, q4, q5]) rfl ?_
    refine ⟨_, _, _, _, _, _, p + 1 + 1, trivial, ?hp, rfl, ?hd, ?hg⟩
    case hd =>
      iterate 6 (refine Draw.put ?_ (by dsimp only; omega) _)
      exact HB.out.drw.draw
    case hg =>
      iterate 6 (refine gset ?_ (Nat.le_refl _) _)
      exact HB.out.drw.grew
    case hp => omega
  by_cases e1 : sw = 1
  · subst e1
    go_wp2_with fail
    refine (dpick [1439, 0] 2 B2.drw.draw (by omega) (by omega) (by omega) rfl 2).mono ?_
    rintro e w3 ⟨u, hu, rfl, D3, O3⟩
    have B3 := (B2.alloc (.cells #[.int .i64 1439, .int .i64 0] 2)).only O3 D3 (by omega) (by omega)
    have B4 := B3.put 4 (.int .i64 u) (by omega) (by omega) (by omega)
    clear B2 D3 O3 hu
    have q0 := B3.drw.res.cell 0 _ rfl
    have q1 := B3.drw.res.cell 1 _ rfl
    have q2 := B3.drw.res.cell 2 _ rfl
    have q3 := B3.drw.res.cell 3 _ rfl
    have q4 := B3.drw.res.cell 4 _ rfl
    have q5 := B3.drw.res.cell 5 _ rfl
    have z0 := B3.drw.res.free 0 _ rfl
    have z1 := B3.drw.res.free 1 _ rfl
    have z2 := B3.drw.res.free 2 _ rfl
    have z3 := B3.drw.res.free 3 _ rfl
    have z4 := B3.drw.res.free 4 _ rfl
    have z5 := B3.drw.res.free 5 _ rfl
    have k0 := B3.one.cell 0 _ rfl
    have k1 := B3.one.cell 1 _ rfl
    have k2 := B3.one.cell 2 _ rfl
    have k3 := B3.one.cell 3 _ rfl
    have k4 := B3.one.cell 4 _ rfl
    have k5 := B3.one.cell 5 _ rfl
    have h0 := B3.one.free 0 _ rfl
    have h1 := B3.one.free 1 _ rfl
    have h2 := B3.one.free 2 _ rfl
    have h3 := B3.one.free 3 _ rfl
    have h4 := B3.one.free 4 _ rfl
    have h5 := B3.one.free 5 _ rfl
    have hrb : w.heap.size ≠ w1.heap.size := by omega
    have HB := Lib.hid B4
    clear B3 B4
    go_wp2_with fail
    refine bodyPost_ret (v := R6 r s t x u f) (by simp [results, Tryz.results41, go_sem, q0, q1, q2, q3, q4, q5]) rfl ?_
    refine ⟨_, _, _, _, _, _, p + 1 + 1, trivial, ?hp, rfl, ?hd, ?hg⟩
    case hd =>
      iterate 6 (refine Draw.put ?_ (by dsimp only; omega) _)
      exact HB.out.drw.draw
    case hg =>
      iterate 6 (refine gset ?_ (Nat.le_refl _) _)
      exact HB.out.drw.grew
    case hp => omega
  by_cases e2 : sw = 2
  · subst e2
    go_wp2_with fail
    refine (dpick [65521, 0] 2 B2.drw.draw (by omega) (by omega) (by omega) rfl 2).mono ?_
    rintro e w3 ⟨u, hu, rfl, D3, O3⟩
    have B3 := (B2.alloc (.cells #[.int .i64 65521, .int .i64 0] 2)).only O3 D3 (by omega) (by omega)
    have B4 := B3.put 5 (.int .i64 u) (by omega) (by omega) (by omega)
    clear B2 D3 O3 hu
    have q0 := B3.drw.res.cell 0 _ rfl
    have q1 := B3.drw.res.cell 1 _ rfl
    have q2 := B3.drw.res.cell 2 _ rfl
    have q3 := B3.drw.res.cell 3 _ rfl
    have q4 := B3.drw.res.cell 4 _ rfl
    have q5 := B3.drw.res.cell 5 _ rfl
    have z0 := B3.drw.res.free 0 _ rfl
    have z1 := B3.drw.res.free 1 _ rfl
    have z2 := B3.drw.res.free 2 _ rfl
    have z3 := B3.drw.res.free 3 _ rfl
    have z4 := B3.drw.res.free 4 _ rfl
    have z5 := B3.drw.res.free 5 _ rfl
    have k0 := B3.one.cell 0 _ rfl
    have k1 := B3.one.cell 1 _ rfl
    have k2 := B3.one.cell 2 _ rfl
    have k3 := B3.one.cell 3 _ rfl
    have k4 := B3.one.cell 4 _ rfl
    have k5 := B3.one.cell 5 _ rfl
    have h0 := B3.one.free 0 _ rfl
    have h1 := B3.one.free 1 _ rfl
    have h2 := B3.one.free 2 _ rfl
    have h3 := B3.one.free 3 _ rfl
    have h4 := B3.one.free 4 _ rfl
    have h5 := B3.one.free 5 _ rfl
    have hrb : w.heap.size ≠ w1.heap.size := by omega
    have HB := Lib.hid B4
    clear B3 B4
    go_wp2_with fail
    refine bodyPost_ret (v := R6 r s t x y u) (by simp [results, Tryz.results41, go_sem, q0, q1, q2, q3, q4, q5]) rfl ?_
    refine ⟨_, _, _, _, _, _, p + 1 + 1, trivial, ?hp, rfl, ?hd, ?hg⟩
    case hd =>
      iterate 6 (refine Draw.put ?_ (by dsimp only; omega) _)
      exact HB.out.drw.draw
    case hg =>
      iterate 6 (refine gset ?_ (Nat.le_refl _) _)
      exact HB.out.drw.grew
    case hp => omega
  · have n0 : (sw == 0) = false := by rw [beq_eq_false_iff_ne]; exact e0
    have n1 : (sw == 1) = false := by rw [beq_eq_false_iff_ne]; exact e1
    have n2 : (sw == 2) = false := by rw [beq_eq_false_iff_ne]; exact e2
    have B4 := B2
    have q0 := B2.drw.res.cell 0 _ rfl
    have q1 := B2.drw.res.cell 1 _ rfl
    have q2 := B2.drw.res.cell 2 _ rfl
    have q3 := B2.drw.res.cell 3 _ rfl
    have q4 := B2.drw.res.cell 4 _ rfl
    have q5 := B2.drw.res.cell 5 _ rfl
    have z0 := B2.drw.res.free 0 _ rfl
    have z1 := B2.drw.res.free 1 _ rfl
    have z2 := B2.drw.res.free 2 _ rfl
    have z3 := B2.drw.res.free 3 _ rfl
    have z4 := B2.drw.res.free 4 _ rfl
    have z5 := B2.drw.res.free 5 _ rfl
    have k0 := B2.one.cell 0 _ rfl
    have k1 := B2.one.cell 1 _ rfl
    have k2 := B2.one.cell 2 _ rfl
    have k3 := B2.one.cell 3 _ rfl
    have k4 := B2.one.cell 4 _ rfl
    have k5 := B2.one.cell 5 _ rfl
    have h0 := B2.one.free 0 _ rfl
    have h1 := B2.one.free 1 _ rfl
    have h2 := B2.one.free 2 _ rfl
    have h3 := B2.one.free 3 _ rfl
    have h4 := B2.one.free 4 _ rfl
    have h5 := B2.one.free 5 _ rfl
    have hrb : w.heap.size ≠ w1.heap.size := by omega
    have HB := Lib.hid B4
    clear B2 B4
    go_wp2_with fail
    refine bodyPost_ret (v := R6 r s t x y f) (by simp [results, Tryz.results41, go_sem, q0, q1, q2, q3, q4, q5]) rfl ?_
    refine ⟨_, _, _, _, _, _, p + 1, trivial, ?hp, rfl, ?hd, ?hg⟩
    case hd =>
      iterate 6 (refine Draw.put ?_ (by dsimp only; omega) _)
      exact HB.out.drw.draw
    case hg =>
      iterate 6 (refine gset ?_ (Nat.le_refl _) _)
      exact HB.out.drw.grew
    case hp => omega
end Go.Proofs.YtepailfhagaboaaGreatDoor
namespace Go.Proofs.YtepailfhagaboaaGreatDoor
open Go.RowKit

def marks (k : Int) (n : Nat) : List Int := (List.range n).map fun i : Nat => (k + (i : Int)) % 256
theorem marks_length (k : Int) (n : Nat) : (marks k n).length = n := by simp [marks]
theorem marks_at (k : Int) (n j : Nat) (h : j < n) : (marks k n)[j]? = some ((k + (j : Int)) % 256) := by simp [marks, h]
theorem marks_wf (k : Int) (n : Nat) : ∀ z ∈ marks k n, (Lit.int .u8 z).wf = true := by
  intro z hz
  simp only [marks, List.mem_map] at hz
  obtain ⟨i, _, rfl⟩ := hz
  simp [Lit.wf, IntKind.min, IntKind.max, IntKind.signed, IntKind.bits]; omega

structure MarkRel (w : World) (g cap : Nat) (k : Int) (j : Nat) (wr : World) : Prop where
  grew : w.grownBy wr (some g)
  lt : g < wr.heap.size
  room : ∀ i, i < cap → (∃ u, wr.cell? ⟨g, i, none⟩ = some u) ∧ wr.frozen? ⟨g, i, none⟩ = false
  told : ∀ i, i < j → wr.cell? ⟨g, i, none⟩ = some (.int .u8 ((k + (i : Int)) % 256))
theorem MarkRel.step {w : World} {g cap : Nat} {k : Int} {j : Nat} {wr : World} (h : MarkRel w g cap k j wr) (hj : j < cap) : MarkRel w g cap k (j + 1) (wr.setCell ⟨g, j, none⟩ (.int .u8 ((k + (j : Int)) % 256))) := by
  refine ⟨⟨h.grew.os, h.grew.tape, h.grew.output, by simpa [World.setCell] using h.grew.size, fun i hi hne => (Below.heap_setCell wr _ _ i (fun e => hne (by subst e; rfl))).trans (h.grew.block i hi hne)⟩, by simpa [World.setCell] using h.lt, fun i hi => ?_, fun i hi => ?_⟩
  · obtain ⟨⟨u, hu⟩, hf⟩ := h.room i hi
    refine ⟨?_, by rw [World.frozen?_setCell]; exact hf⟩
    obtain ⟨v, hv⟩ := cell?_setCell_some (w := wr) (p := ⟨g, j, none⟩) (x := .int .u8 ((k + (j : Int)) % 256)) (q := ⟨g, i, none⟩) (v := u) hu
    exact ⟨v, hv⟩
  · rcases Nat.lt_or_ge i j with hlt | hge
    · rw [World.cell?_setCell_other _ _ _ _ (fun e => by injection e with _ e2; omega)]
      exact h.told i hlt
    · obtain rfl : i = j := by omega
      obtain ⟨⟨u, hu⟩, _⟩ := h.room i hj
      rw [World.cell?_setCell_same _ _ _ (by rw [hu])]
def Marked (B : Nat) (k : Int) (v : Value) (n : Nat) (w : World) (r : Ending) (w' : World) : Prop := r = .returned (.int .i64 (k + n)) ∧ OwnK .u8 w' B v (marks k n) ∧ w.grownBy w' v.ownBlock
theorem MarkRel.own {w : World} {g cap : Nat} {k : Int} {n B : Nat} {wr : World} (h : MarkRel w g cap k n wr) (hB : B ≤ g) (hn : n ≤ cap) (hm : cap ≤ maxLen) : OwnK .u8 wr B (.slice (some ⟨g, 0, none⟩) n cap) (marks k n) := by
  unfold OwnK
  rw [marks_length]
  refine ⟨by simp [marks_length], .inr ⟨g, cap, rfl, hB, h.lt, hn, hm, fun j u hu => ?_, fun j hj => ?_⟩⟩
  · have hj := (List.getElem?_eq_some_iff.1 hu).1
    simp [marks_length] at hj
    rw [h.told j hj, ← hu]
    simp [marks_at k n j hj]
  · obtain ⟨⟨u, hu⟩, hf⟩ := h.room j (by omega)
    exact ⟨by rw [hu]; rfl, hf⟩

theorem OwnK.len {k : IntKind} {w : World} {B : Nat} {a : Option Addr} {len cap : Nat} {zs : List Int} (h : OwnK k w B (.slice a len cap) zs) : len = zs.length := by
  rcases h.2 with ⟨e, h0⟩ | ⟨g, c, e, _⟩
  · injection e with e1 e2 e3
    omega
  · injection e with e1 e2 e3

/-- Two answers of bytes lie in memory, the model's at block p1, the program's at block p2; the program's bytes are ms by now. -/
structure TwoRes (w : World) (c : Int) (zs : List Int) (p1 p2 : Nat) (a1 a2 : Option Addr) (n c1 c2 : Nat) (ms : List Int) (cur : World) : Prop where
  bel : Below w.heap.size w cur
  x0 : cur.cell? ⟨p1, 0, none⟩ = some (.int .i64 c)
  x1 : cur.cell? ⟨p1, 1, none⟩ = some (.slice a1 n c1)
  row : Row .u8 cur p1 a1 n c1 zs
  y0 : cur.cell? ⟨p2, 0, none⟩ = some (.int .i64 c)
  y1 : cur.cell? ⟨p2, 1, none⟩ = some (.slice a2 n c2)
  own : OwnK .u8 cur (p1 + 1) (.slice a2 n c2) ms
  old : w.heap.size ≤ p1
  sep : ∀ k, Value.ownBlock (.slice a2 n c2) = some k → k < p2
  ahead : p1 < p2
section
variable {w : World} {c : Int} {zs : List Int} {p1 p2 : Nat} {a1 a2 : Option Addr} {n c1 c2 : Nat} {ms : List Int} {cur cur' : World}
theorem TwoRes.lt1 (h : TwoRes w c zs p1 p2 a1 a2 n c1 c2 ms cur) : p1 < cur.heap.size := cell_lt h.x0
theorem TwoRes.lt2 (h : TwoRes w c zs p1 p2 a1 a2 n c1 c2 ms cur) : p2 < cur.heap.size := cell_lt h.y0
theorem TwoRes.on (h : TwoRes w c zs p1 p2 a1 a2 n c1 c2 ms cur) (hb : Below cur.heap.size cur cur') : TwoRes w c zs p1 p2 a1 a2 n c1 c2 ms cur' :=
  ⟨btr h.bel hb, cell_keep hb h.x0, cell_keep hb h.x1, h.row.below (hb.mono (by have := h.lt1; omega)), cell_keep hb h.y0, cell_keep hb h.y1, h.own.below hb, h.old, h.sep, h.ahead⟩
theorem TwoRes.grew (h : TwoRes w c zs p1 p2 a1 a2 n c1 c2 ms cur) {ms' : List Int} (ho : OwnK .u8 cur' (p1 + 1) (.slice a2 n c2) ms') (hg : cur.grownBy cur' (Value.ownBlock (.slice a2 n c2))) : TwoRes w c zs p1 p2 a1 a2 n c1 c2 ms' cur' := by
  have hlo := fun k hk => (h.own.lt k hk).1
  have hp1 : some p1 ≠ Value.ownBlock (.slice a2 n c2) := fun e => by have := hlo p1 e.symm; omega
  have hp2 : some p2 ≠ Value.ownBlock (.slice a2 n c2) := fun e => by have := h.sep p2 e.symm; omega
  have l1 := h.lt1
  have hold := h.old
  refine ⟨h.bel.grown hg h.bel.size (fun k hk => by have := hlo k hk; omega), hg.cell h.x0 hp1, hg.cell h.x1 hp1, h.row.keep (fun i hi => hg.block i (by omega) (fun e => by have := hlo i e.symm; omega)), hg.cell h.y0 hp2, hg.cell h.y1 hp2, ho, h.old, h.sep, h.ahead⟩
/-- The model's answer, and then the program's, are stored. -/
theorem TwoRes.new {u1 u2 : World} {t : TypeId} (b1 : Below w.heap.size w u1) (O1 : OwnK .u8 u1 w.heap.size (.slice a1 n c1) zs) (hw : ∀ z ∈ zs, (Lit.int .u8 z).wf = true)
    (b2 : Below (u1.alloc (.cells #[.int .i64 c, .slice a1 n c1] t)).heap.size (u1.alloc (.cells #[.int .i64 c, .slice a1 n c1] t)) u2) (O2 : OwnK .u8 u2 (u1.alloc (.cells #[.int .i64 c, .slice a1 n c1] t)).heap.size (.slice a2 n c2) zs) :
    TwoRes w c zs u1.heap.size u2.heap.size a1 a2 n c1 c2 zs (u2.alloc (.cells #[.int .i64 c, .slice a2 n c2] t)) := by
  have hs := b2.size
  simp at hs
  have x0 : (u1.alloc (.cells #[.int .i64 c, .slice a1 n c1] t)).cell? ⟨u1.heap.size, 0, none⟩ = some (.int .i64 c) := by simp
  have x1 : (u1.alloc (.cells #[.int .i64 c, .slice a1 n c1] t)).cell? ⟨u1.heap.size, 1, none⟩ = some (.slice a1 n c1) := by simp
  have b3 := bal b2 (.cells #[.int .i64 c, .slice a2 n c2] t)
  have R1 := Own.row O1 hw
  refine ⟨btr (bal b1 _) b3, cell_keep b3 x0, cell_keep b3 x1, ?_, by simp, by simp, ?_, b1.size, fun k hk => (O2.lt k hk).2, by omega⟩
  · exact (R1.alloc (Nat.le_refl _) _).below (b3.mono (by simp))
  · have := O2.alloc (.cells #[.int .i64 c, .slice a2 n c2] t)
    simpa [OwnK] using this
end

end Go.Proofs.YtepailfhagaboaaGreatDoor
namespace Go.Proofs.YtepailfhagaboaaGreatDoor
open Go.RowKit
set_option maxRecDepth 100000
set_option linter.unusedVariables false

/-- A mark, and numbers in two bytes each. -/
def headL (m : Int) (zs : List Int) : List Int := m :: zs.flatMap M.two
def HeadRel (w : World) (m : Int) (zs : List Int) (k : Nat) (v : Value) (wr : World) : Prop := OwnK .u8 wr w.heap.size v (headL m (zs.take k)) ∧ Below w.heap.size w wr
theorem headL_take (m : Int) (zs : List Int) (k : Nat) (hk : k < zs.length) : headL m (zs.take k) ++ M.two (zs[k]?.getD 0) = headL m (zs.take (k + 1)) := by
  have e : zs.take (k + 1) = zs.take k ++ [zs[k]] := List.take_succ_eq_append_getElem hk
  rw [e, List.getElem?_eq_getElem hk]
  simp only [headL, List.flatMap_append, List.flatMap_cons, List.flatMap_nil, List.append_nil, List.cons_append, Option.getD_some]
theorem headL_length (m : Int) : ∀ zs : List Int, (headL m zs).length = 1 + 2 * zs.length
  | [] => rfl
  | z :: r => by
    have := headL_length m r
    simp only [headL, List.length_cons, List.flatMap_cons, List.length_append, M.two, List.length_nil] at *
    omega
theorem HeadRel.step {w w1 w2 : World} {m : Int} {zs : List Int} {k : Nat} {v v' : Value} (h : HeadRel w m zs k v w1) (hk : k < zs.length) (ho : OwnK .u8 w2 w.heap.size v' (headL m (zs.take k) ++ M.two (zs[k]?.getD 0))) (hg : w1.grownBy w2 v.ownBlock) : HeadRel w m zs (k + 1) v' w2 :=
  ⟨by rw [← headL_take m zs k hk]; exact ho, h.1.grown h.2 h.2.size hg⟩
theorem wordHead_any (m : Int) (a : Option Addr) (len cap B : Nat) (zs : List Int) (w : World) (hR : Row .i64 w B a len cap zs) (hB : B ≤ w.heap.size) (hz : zs.all M.sumB = true) (hl : len ≤ 10) :
    Calls Tryz.prog 87 #[.int .u8 m, .slice a len cap] w (Made (headL m zs) w) := by
  have hL := Lib.hid hR.length
  have HZ := Lib.hid hz
  have O0 : OwnK .u8 (w.alloc (.cells #[.int .u8 m] 5)) w.heap.size (.slice (some ⟨w.heap.size, 0, none⟩) 1 1) [m] := own_lit (k := .u8) w [m] 1 5 (Nat.le_refl _) rfl (by simp only [maxLen]; omega)
  have T1 : HeadRel w m zs 0 (.slice (some ⟨w.heap.size, 0, none⟩) 1 1) (w.alloc (.cells #[.int .u8 m] 5)) := ⟨by simpa [headL] using O0, bal (Below.refl _ _) _⟩
  clear hz O0
  go_enter Tryz.func87, Tryz.ntmps87
  go_wp2_with fail
  generalize w.alloc (.cells #[.int .u8 m] 5) = W0 at *
  go_loopw [5, 12] (fun v i wr => ∃ k : Nat, k ≤ len ∧ i = .int .i64 k ∧ HeadRel w m zs k v wr) (fun _ i _ => len - (intOf i).toNat)
  case atStart => exact ⟨0, Nat.zero_le _, rfl, T1⟩
  case round =>
    obtain ⟨k, hk, rfl, hT⟩ := hrel
    by_cases hlt : k < len
    · obtain ⟨b, off, ha, hb, hc⟩ := hR.cells (by omega)
      have hcell := (hT.2.cell (p := ⟨b, off + k, none⟩) (by show b < _; omega)).trans (hc k hlt)
      simp only [List.getD_eq_getElem?_getD] at hcell
      clear hc
      have hzk : M.sumB (zs[k]?.getD 0) = true := List.all_eq_true.1 HZ.out _ (by simp [show k < zs.length by rw [hL.out]; exact hlt])
      have HK := Lib.hid hzk
      have hlen : (headL m (zs.take k)).length ≤ 1000000 := by rw [headL_length]; simp; omega
      subst ha
      clear hzk
      go_wp2_with fail
      refine (appendTwo_any _ _ _ _ _ hT.1 hT.2.size HK.out hlen).mono ?_
      rintro r w2 ⟨v2, rfl, ho2, hg2⟩
      have T2 := hT.step (by rw [hL.out]; exact hlt) ho2 hg2
      clear ho2 hg2 hT hcell HK hlen
      go_wp2_with fail
      go_roundw
      case rel => exact ⟨k + 1, by omega, by go_num, T2⟩
      case measure => simp [intOf]; omega
    · obtain rfl : k = len := by omega
      have hT' := hT
      rw [← hL.out] at hT'
      obtain ⟨ho, hb⟩ := hT'
      rw [List.take_length] at ho
      obtain ⟨a', c', hv, -⟩ := ho.form
      have HB := Lib.hid (And.intro ho hb)
      clear hT ho hb
      subst hv
      go_wp2_with fail
      go_ret
      exact ⟨_, _, _, rfl, HB.out.1, HB.out.2⟩

theorem bytes_cells (n : ByteArray) : (M.textL n).map (Value.int .u8) = byteCells n := by simp [M.textL, byteCells, List.map_map, Function.comp_def]
theorem wordBytes_hello (r s : Int) (n : ByteArray) (w : World) (h : helF n.data.toList r s = 0) :
    Calls Tryz.prog 65 #[.iface 26 (H3 r s n)] w (Made (packH n r s) w) := by
  obtain ⟨hr, hs, -⟩ := helF_zero h
  have hn := hel_size h
  have hss := pub_sum6 hs
  obtain ⟨i0, hi0, hz0, hz1, hz2⟩ := info_parts u8_info
  have ta : ∀ W : World, (Instr.typeAssert (.iface 26 (H3 r s n)) 70 26 true).run Tryz.prog W = .ok (.tuple #[H3 r s n, .bool true]) W := fun _ => by kernel_rfl
  have A0 := At.new w (HL3 r s n) 26
  have b0 := bal (Below.refl _ w) (.cells #[.int .i64 r, .int .i64 s, .string n] 26)
  have hall : [r, s].all M.sumB = true := by simp [hr, hss]
  clear h
  go_enter Tryz.func65, Tryz.ntmps65
  go_wp2_with fail
  generalize w.alloc (.cells #[.int .i64 r, .int .i64 s, .string n] 26) = W0 at *
  have d0 := A0.cell 0 _ rfl
  have d1 := A0.cell 1 _ rfl
  have d2 := A0.cell 2 _ rfl
  refine wp_region_line (Bel W0) [(0, true), (1, true), (2, true), (3, true), (6, true), (7, true), (4, false), (5, false), (8, false), (9, true)] (by kernel_rfl) (by kernel_rfl) (fun _ _ d _ _ h => by cases d <;> exact h) (Bel.drew W0) ?_
  have hst := Bel.drew W0
  have inst : Nonempty (Of (Bel W0)) := ⟨⟨_, hst⟩⟩
  have u0 := bel_cell d0
  have u1 := bel_cell d1
  have u2 := bel_cell d2
  generalize W0.drew = V1 at *
  iterate 6 (refine line_read rfl (by kernel_rfl) (fun K hK => ?_); go_big_quiet_op; refine hK _ ?_; clear hK K)
  refine line_alone rfl (by kernel_rfl) (fun K hK => ?_)
  go_big_op
  refine hK _ _ (hst.on (bal (Below.refl _ V1) _)) ?_
  clear hK K
  have st2 := hst.on (bal (Below.refl _ V1) (.cells #[.int .i64 r, .int .i64 s] 2))
  have R2 := row_two (w := V1) r s 2 hr hss
  have lt2 : V1.heap.size + 1 ≤ (V1.alloc (.cells #[.int .i64 r, .int .i64 s] 2)).heap.size := by simp
  generalize V1.alloc (.cells #[.int .i64 r, .int .i64 s] 2) = V2 at *
  refine line_alone rfl (by kernel_rfl) (fun K hK => ?_)
  refine call_any (args := #[.int .u8 1, .slice (some ⟨V1.heap.size, 0, none⟩) 2 2]) rfl (by kernel_rfl) (by kernel_rfl) (wordHead_any 1 _ 2 2 _ [r, s] V2 R2 lt2 hall (by omega)) ?_
  rintro e V3 ⟨a3, n3, c3, rfl, O3, b3⟩
  have l3 : n3 = 5 := O3.len
  subst l3
  have st3 := st2.on b3
  refine ⟨_, rfl, hK _ _ st3 ?_⟩
  clear hK K
  simp only [Act.put, List.setIfInBounds_toArray, List.set_cons_zero, List.set_cons_succ]
  have hz3 := b3.size
  refine line_alone rfl (by kernel_rfl) (fun K hK => ?_)
  refine wp_append_src _ (.tmp 15) (.tmp 17) 22 9 rfl V2.heap.size 5 i0 (.int .u8 0) 1 1 Tryz.underlying22 hi0 hz0 hz1 hz2 rfl _ _ _ rfl O3 _ n.size _ rfl (Src.ofString (P := Tryz.prog) V3 (tx := 9) Tryz.underlying9 n) (by rw [headL_length]; simp only [maxLen, List.length_cons, List.length_nil]; omega) (by rw [headL_length]; simp only [List.length_cons, List.length_nil]; omega) hz3 (fun v4 w4 hown hgrow hat => ?_)
  have b4 : Below V2.heap.size V2 w4 := Own.grown O3 b3 hz3 hgrow
  have O4 : OwnK .u8 w4 V2.heap.size v4 (packH n r s) := by
    have e : packH n r s = headL 1 [r, s] ++ M.textL n := by simp [packH, helHead, headL]
    unfold OwnK
    rw [e, List.length_append, M.textL_length, List.map_append, bytes_cells]
    exact hown
  have st4 := st2.on b4
  refine hK _ _ st4 ?_
  have B4 := btr b0 st4.out
  obtain ⟨a4, c4, hv4, -⟩ := O4.form
  have hle : w.heap.size ≤ V2.heap.size := (btr b0 st2.out).size
  have HT := Lib.hid (And.intro (O4.less hle) B4)
  clear hK K hown hgrow hat O3 O4 b3 b4 B4 st3 st4 st2
  subst hv4
  simp only [Act.put, List.setIfInBounds_toArray, List.set_cons_zero, List.set_cons_succ]
  iterate 1 (refine line_read rfl (by kernel_rfl) (fun K hK => ?_); go_big_quiet_op; refine hK _ ?_; clear hK K)
  refine line_nil ?_
  go_wp2_with fail
  go_ret
  exact ⟨_, _, _, rfl, HT.out.1, HT.out.2⟩
theorem helloFault_method (r s : Int) (n : ByteArray) (w : World) (hn : n.size ≤ maxLen) :
    Calls Tryz.prog 153 #[H3 r s n] w fun e w' => e = .returned (.int .i64 (helF n.data.toList r s)) ∧ Below w.heap.size w w' := by
  have b0 := bal (Below.refl _ w) (.cells #[.int .i64 r, .int .i64 s, .string n] 26)
  have F := fun w => implHelloFault_any r s n w hn
  go_enter Tryz.func153, Tryz.ntmps153
  go_wp2_with fail
  refine (F _).mono ?_
  rintro e u1 ⟨rfl, b1⟩
  have hb := btr b0 b1
  go_wp2_with fail
  go_ret
  exact ⟨rfl, hb⟩
theorem packWord_hello (r s : Int) (n : ByteArray) (w : World) (hn : n.size ≤ maxLen) :
    Calls Tryz.prog 40 #[.iface 26 (H3 r s n)] w (BytesRes (helF n.data.toList r s) (packHL n r s) w) := by
  have hm : ∀ w : World, (method 337 26 (H3 r s n) "loop.example/g00618/impl.fault").run Tryz.prog w = .ok (153, H3 r s n) w := fun _ => by kernel_rfl
  have F := fun w => helloFault_method r s n w hn
  have A0 := At.new w [.int .i64 0, .slice none 0 0] 39
  have b0 := bal (Below.refl _ w) (.cells #[.int .i64 0, .slice none 0 0] 39)
  by_cases h : helF n.data.toList r s = 0
  · have e : packHL n r s = packH n r s := by simp [packHL, h]
    rw [e]
    have P1 := fun w => wordBytes_hello r s n w h
    simp only [h] at F ⊢
    clear e h
    go_enter Tryz.func40, Tryz.ntmps40
    go_wp2_with fail
    generalize w.alloc (.cells #[.int .i64 0, .slice none 0 0] 39) = W0 at *
    refine (F _).mono ?_
    rintro e u1 ⟨rfl, b1⟩
    go_wp2_with fail
    refine (P1 _).mono ?_
    rintro e u2 ⟨a2, n2, c2, rfl, O2, b2⟩
    have lt1 : w.heap.size < u1.heap.size := (A0.on b1).lt (by simp)
    have p0 := ((A0.on b1).on b2).cell 0 _ rfl
    have p1 := ((A0.on b1).on b2).cell 1 _ rfl
    have z0 := ((A0.on b1).on b2).free 0 _ rfl
    have z1 := ((A0.on b1).on b2).free 1 _ rfl
    have HT := Lib.hid (And.intro O2 (btr b0 (btr b1 b2)))
    have hzs := (btr b0 b1).size
    clear A0 O2 b2 b1 b0
    go_wp2_with fail
    refine bodyPost_ret (v := .agg #[.int .i64 0, .slice a2 n2 c2]) (by simp [results, Tryz.results40, go_sem, p0, p1]) rfl ?_
    exact ⟨_, _, _, rfl, (by (iterate 2 (refine Own.setCell ?_ (fun g hg => by have := (HT.out.1.lt g hg).1; dsimp only; omega) _)); exact HT.out.1.less (by omega)), (by (iterate 2 (refine bset ?_ (by dsimp only; omega) _)); exact HT.out.2)⟩
  · have e : packHL n r s = [] := by simp [packHL, h]
    rw [e]
    generalize helF n.data.toList r s = cd at *
    clear e
    go_enter Tryz.func40, Tryz.ntmps40
    go_wp2_with fail
    generalize w.alloc (.cells #[.int .i64 0, .slice none 0 0] 39) = W0 at *
    refine (F _).mono ?_
    rintro e u1 ⟨rfl, b1⟩
    have q0 := (A0.on b1).cell 0 _ rfl
    have q1 := (A0.on b1).cell 1 _ rfl
    have z0 := (A0.on b1).free 0 _ rfl
    have z1 := (A0.on b1).free 1 _ rfl
    have hb := btr b0 b1
    clear A0 b0 b1 F
    go_wp2_with fail
    refine bodyPost_ret (v := .agg #[.int .i64 cd, .slice none 0 0]) (by simp [results, Tryz.results40, go_sem, q0, q1]) rfl ?_
    exact ⟨_, _, _, rfl, Own.nil _ _ _, (by (iterate 2 (refine bset ?_ (by dsimp only; omega) _)); exact hb)⟩
theorem implPackHello_any (r s : Int) (n : ByteArray) (w : World) (hn : n.size ≤ maxLen) :
    Calls Tryz.prog 11 #[H3 r s n] w (BytesRes (helF n.data.toList r s) (packHL n r s) w) := by
  have F := fun w => packWord_hello r s n w hn
  have b0 := bal (bal (Below.refl _ w) (.cells #[.int .i64 r, .int .i64 s, .string n] 26)) (.cells #[.int .i64 0, .slice none 0 0] 39)
  have A2 := At.new (w.alloc (.cells #[.int .i64 r, .int .i64 s, .string n] 26)) [.int .i64 0, .slice none 0 0] 39
  simp only [World.size_alloc] at A2
  generalize helF n.data.toList r s = cd at *
  generalize packHL n r s = zs at *
  go_enter Tryz.func11, Tryz.ntmps11
  go_wp2_with fail
  generalize (w.alloc (.cells #[.int .i64 r, .int .i64 s, .string n] 26)).alloc (.cells #[.int .i64 0, .slice none 0 0] 39) = W0 at *
  refine (F _).mono ?_
  rintro e u1 ⟨a2, n2, c2, rfl, O2, b2⟩
  have lt1 : w.heap.size + 1 < W0.heap.size := A2.lt (by simp)
  have p0 := (A2.on b2).cell 0 _ rfl
  have p1 := (A2.on b2).cell 1 _ rfl
  have z0 := (A2.on b2).free 0 _ rfl
  have z1 := (A2.on b2).free 1 _ rfl
  have HT := Lib.hid (And.intro O2 (btr b0 b2))
  clear A2 O2 b2 b0
  go_wp2_with fail
  refine bodyPost_ret (v := .agg #[.int .i64 cd, .slice a2 n2 c2]) (by simp [results, Tryz.results11, go_sem, p0, p1]) rfl ?_
  exact ⟨_, _, _, rfl, (by (iterate 2 (refine Own.setCell ?_ (fun g hg => by have := (HT.out.1.lt g hg).1; dsimp only; omega) _)); exact HT.out.1.less (by omega)), (by (iterate 2 (refine bset ?_ (by dsimp only; omega) _)); exact HT.out.2)⟩
end Go.Proofs.YtepailfhagaboaaGreatDoor
namespace Go.Proofs.YtepailfhagaboaaGreatDoor
open Go.RowKit
set_option maxRecDepth 100000
set_option linter.unusedVariables false

/-- What is appended are the numbers of a slice that the call made. -/
theorem OwnK.src6 {w : World} {B : Nat} {a : Option Addr} {len cap : Nat} {zs : List Int} (h : OwnK .u8 w B (.slice a len cap) zs) (hz : ∀ z ∈ zs, M.byteB z) : Go.Src Tryz.prog 1 22 (.slice a len cap) len (zs.map (Value.int .u8)) w :=
  (Own.row h (fun z hm => byte_wf (hz z hm))).src Tryz.underlying22
theorem OwnK.kept6 {w w' : World} {B : Nat} {v : Value} {zs : List Int} {row : Option Nat} (h : OwnK .u8 w B v zs) (hg : w.grownBy w' row) (hne : ∀ k, row = some k → k < B) : OwnK .u8 w' B v zs :=
  Own.kept h hg (by
    cases hv : v.ownBlock with
    | none => exact .inl rfl
    | some k =>
      refine .inr fun e => ?_
      have h1 := (Own.lt h k hv).1
      have h2 := hne k e.symm
      omega)
theorem two_own (w : World) (s : Int) : OwnK .u8 (w.alloc (.cells #[.int .u8 (s / 256), .int .u8 (s % 256)] 5)) w.heap.size (.slice (some ⟨w.heap.size, 0, none⟩) 2 2) (M.two s) := own_lit (k := .u8) w (M.two s) 2 5 (Nat.le_refl _) rfl (by simp only [maxLen]; omega)
theorem text_own (w : World) (n : ByteArray) (hn : n.size ≤ maxLen) : OwnK .u8 (w.alloc (textObj w n 5)).drew w.heap.size (.slice (some ⟨w.heap.size, 0, none⟩) n.size (grownCap w n.size 0 5)) (M.textL n) := by
  have := (own_text w n 5 hn).drew
  unfold OwnK
  rw [M.textL_length]
  exact this

set_option maxHeartbeats 1000000 in
theorem l6PackHello_any (g : Nat) (r s : Int) (n : ByteArray) (w : World) (hA : At g (HL3 r s n) w) (h : helF n.data.toList r s = 0) :
    Calls Tryz.prog 31 #[.pointer (some ⟨g, 0, none⟩)] w (Made (packH n r s) w) := by
  obtain ⟨hr, hs, -⟩ := helF_zero h
  have hn := hel_size h
  have hnm : n.size ≤ maxLen := size_max hn
  have hss := pub_sum6 hs
  obtain ⟨i0, hi0, hz0, hz1, hz2⟩ := info_parts u8_info
  have hcv := fun (W : World) => run_bytes_of_string (P := Tryz.prog) W 9 22 5 n Tryz.underlying9 Tryz.underlying22 Tryz.underlying5
  have ltg := hA.lt (by simp)
  have d0 := hA.cell 0 _ rfl
  have d1 := hA.cell 1 _ rfl
  have d2 := hA.cell 2 _ rfl
  have b1 := bal (Below.refl _ w) (.cells #[.int .u8 1] 5)
  have O1 : OwnK .u8 (w.alloc (.cells #[.int .u8 1] 5)) w.heap.size (.slice (some ⟨w.heap.size, 0, none⟩) 1 1) [1] := own_lit (k := .u8) w [1] 1 5 (Nat.le_refl _) rfl (by simp only [maxLen]; omega)
  clear h
  go_enter Tryz.func31, Tryz.ntmps31
  go_wp2_with fail
  generalize w.alloc (.cells #[.int .u8 1] 5) = W1 at *
  refine (l1Two_any r _ hr).mono ?_
  rintro e w2 ⟨rfl, rfl⟩
  have O2 := Own.alloc O1 (.cells #[.int .u8 (r / 256), .int .u8 (r % 256)] 5)
  have b2 := bal b1 (.cells #[.int .u8 (r / 256), .int .u8 (r % 256)] 5)
  have hle := b2.size
  have hsrc := src_new (P := Tryz.prog) W1 [.int .u8 (r / 256), .int .u8 (r % 256)] 2 2 5 22 5 Tryz.underlying22 rfl (ints_oneCell .u8 [r / 256, r % 256])
  go_wp2_with (at_builtin; refine wpList_append_src _ rfl (.tmp 4) (.tmp 9) 22 22 rfl w.heap.size 5 i0 (.int .u8 0) 1 1 Tryz.underlying22 hi0 hz0 hz1 hz2 rfl _ 1 [.int .u8 1] rfl O2 _ 2 _ rfl hsrc (by simp only [maxLen]; omega) (by omega) hle ?_; intro v3 w3 hown hgrow hat)
  have b3 : Below w.heap.size w w3 := Own.grown O2 b2 hle hgrow
  have O3 : OwnK .u8 w3.drew w.heap.size v3 ([1] ++ M.two r) := by unfold OwnK; simpa [M.two] using hown.drew
  clear O1 O2 b1 b2 hle hsrc hown hgrow hat
  refine wp_region_fork (Bel w) (by kernel_rfl) (Bel.mk b3.drew) ?_
  have hst : (Bel w) _ := (Bel.mk b3.drew)
  have inst : Nonempty (Of (Bel w)) := ⟨⟨_, hst⟩⟩
  have u1 := bel_cell d1
  have u2 := bel_cell d2
  clear b3 d0 d1 d2
  generalize w3.drew = V1 at *
  refine any_seg 5 [(0, true), (1, true), (2, true), (3, true), (4, true), (7, true), (8, true), (9, true), (10, true)] (by kernel_rfl) (fun _ _ d _ _ h => by cases d <;> exact h) ?_
  iterate 9 (refine line_read rfl (by kernel_rfl) (fun K hK => ?_); go_big_quiet_op; refine hK _ ?_; clear hK K)
  refine line_nil ?_
  clear u1 u2
  refine any_fork 5 11 (by kernel_rfl) rfl rfl (by kernel_rfl) (by kernel_rfl) (fun K hK => ?_) (fun K hK => ?_)
  · refine call_any (args := #[.int .i64 s]) rfl (by kernel_rfl) (by kernel_rfl) (l1Two_any s _ hss) ?_
    rintro e w4 ⟨rfl, rfl⟩
    have st4 := hst.on (bal (Below.refl _ V1) (.cells #[.int .u8 (s / 256), .int .u8 (s % 256)] 5))
    have O4 : OwnK .u8 _ w.heap.size v3 ([1] ++ M.two r) := Own.alloc O3 (.cells #[.int .u8 (s / 256), .int .u8 (s % 256)] 5)
    have T4 := two_own V1 s
    refine ⟨_, rfl, hK _ _ st4 ?_⟩
    clear hK K
    simp only [Act.put, List.setIfInBounds_toArray, List.set_cons_zero, List.set_cons_succ]
    generalize V1.alloc (.cells #[.int .u8 (s / 256), .int .u8 (s % 256)] 5) = V4 at *
    refine any_fork 6 11 (by kernel_rfl) rfl rfl (by kernel_rfl) (by kernel_rfl) (fun K hK => ?_) (fun K hK => ?_)
    · refine wp_append_src _ (.tmp 11) (.tmp 16) 22 22 rfl w.heap.size 5 i0 (.int .u8 0) 1 1 Tryz.underlying22 hi0 hz0 hz1 hz2 rfl _ _ _ rfl O4 _ 2 _ rfl (T4.src6 (two_byte hss)) (by simp only [maxLen, M.two, List.length_append, List.length_cons, List.length_nil]; omega) (by simp only [M.two, List.length_append, List.length_cons, List.length_nil]; omega) st4.out.size (fun v5 w5 hown hgrow hat => ?_)
      have b5 : Below w.heap.size w w5 := Own.grown O4 st4.out st4.out.size hgrow
      have O5 : OwnK .u8 w5 w.heap.size v5 (helHead r s) := by unfold OwnK helHead; simpa [M.two] using hown
      refine hK _ _ ⟨b5⟩ ?_
      clear hK K hown hgrow hat O3 O4 T4 st4 hst
      simp only [Act.put, List.setIfInBounds_toArray, List.set_cons_zero, List.set_cons_succ]
      refine any_rest [(11, false), (12, false), (13, true)] (by kernel_rfl) (fun _ _ d _ _ h => by cases d <;> exact h) ?_
      refine line_alone rfl (by kernel_rfl) (fun K hK => ?_)
      have st5 : Bel w w5 := ⟨b5⟩
      go_big_op
      have st6 := st5.on (bal (Below.refl _ w5) (textObj w5 n 5)).drew
      have X6 := text_own w5 n hnm
      refine hK _ _ st6 ?_
      clear hK K
      have O6 : OwnK .u8 (w5.alloc (textObj w5 n 5)).drew w.heap.size v5 (helHead r s) := (Own.alloc O5 _).drew
      have hsrc := X6.src6 (M.textL_byte n)
      clear b5 O5 X6 st5
      refine line_alone rfl (by kernel_rfl) (fun K hK => ?_)
      refine wp_append_src _ (.tmp 17) (.tmp 22) 22 22 rfl w.heap.size 5 i0 (.int .u8 0) 1 1 Tryz.underlying22 hi0 hz0 hz1 hz2 rfl _ _ _ rfl O6 _ n.size _ rfl hsrc (by rw [helHead_length]; simp only [maxLen]; omega) (by rw [helHead_length]; omega) st6.out.size (fun v7 w7 hown hgrow hat => ?_)
      have b7 : Below w.heap.size w w7 := Own.grown O6 st6.out st6.out.size hgrow
      have O7 : OwnK .u8 w7 w.heap.size v7 (packH n r s) := by
        unfold OwnK packH
        rw [List.length_append, M.textL_length, List.map_append]
        exact hown
      refine hK _ _ ⟨b7⟩ ?_
      obtain ⟨a7, c7, hv7, -⟩ := O7.form
      have HT := Lib.hid (And.intro O7 b7)
      clear hK K hown hgrow hat O7 b7 O6 st6 hsrc
      subst hv7
      simp only [Act.put, List.setIfInBounds_toArray, List.set_cons_zero, List.set_cons_succ]
      iterate 1 (refine line_read rfl (by kernel_rfl) (fun K hK => ?_); go_big_quiet_op; refine hK _ ?_; clear hK K)
      refine line_nil ?_
      go_wp2_with fail
      go_ret
      exact ⟨_, _, _, rfl, HT.out.1, HT.out.2⟩
    · go_big_op
      have st5 := st4.on (bal (Below.refl _ V4) (textObj V4 n 5)).drew
      have X5 := text_own V4 n hnm
      refine hK _ _ st5 ?_
      clear hK K
      have O5' : OwnK .u8 (V4.alloc (textObj V4 n 5)).drew w.heap.size v3 ([1] ++ M.two r) := (Own.alloc O4 _).drew
      have T5 : OwnK .u8 (V4.alloc (textObj V4 n 5)).drew V1.heap.size (.slice (some ⟨V1.heap.size, 0, none⟩) 2 2) (M.two s) := (Own.alloc T4 _).drew
      have hk3 : ∀ k, v3.ownBlock = some k → k < V4.heap.size := fun k hk => (Own.lt O4 k hk).2
      refine any_rest [(6, false), (12, false), (13, true)] (by kernel_rfl) (fun _ _ d _ _ h => by cases d <;> exact h) ?_
      refine line_alone rfl (by kernel_rfl) (fun K hK => ?_)
      refine wp_append_src _ (.tmp 11) (.tmp 16) 22 22 rfl w.heap.size 5 i0 (.int .u8 0) 1 1 Tryz.underlying22 hi0 hz0 hz1 hz2 rfl _ _ _ rfl O5' _ 2 _ rfl (T5.src6 (two_byte hss)) (by simp only [maxLen, M.two, List.length_append, List.length_cons, List.length_nil]; omega) (by simp only [M.two, List.length_append, List.length_cons, List.length_nil]; omega) st5.out.size (fun v5 w5 hown hgrow hat => ?_)
      have b5 : Below w.heap.size w w5 := Own.grown O5' st5.out st5.out.size hgrow
      have O5 : OwnK .u8 w5 w.heap.size v5 (helHead r s) := by unfold OwnK helHead; simpa [M.two] using hown
      have X6 := X5.kept6 hgrow hk3
      refine hK _ _ ⟨b5⟩ ?_
      clear hK K hown hgrow hat O3 O4 T4 st4 hst O5' T5 st5 X5
      simp only [Act.put, List.setIfInBounds_toArray, List.set_cons_zero, List.set_cons_succ]
      have st6 : Bel w w5 := ⟨b5⟩
      have O6 := O5
      have hsrc := X6.src6 (M.textL_byte n)
      clear b5 O5 X6
      refine line_alone rfl (by kernel_rfl) (fun K hK => ?_)
      refine wp_append_src _ (.tmp 17) (.tmp 22) 22 22 rfl w.heap.size 5 i0 (.int .u8 0) 1 1 Tryz.underlying22 hi0 hz0 hz1 hz2 rfl _ _ _ rfl O6 _ n.size _ rfl hsrc (by rw [helHead_length]; simp only [maxLen]; omega) (by rw [helHead_length]; omega) st6.out.size (fun v7 w7 hown hgrow hat => ?_)
      have b7 : Below w.heap.size w w7 := Own.grown O6 st6.out st6.out.size hgrow
      have O7 : OwnK .u8 w7 w.heap.size v7 (packH n r s) := by
        unfold OwnK packH
        rw [List.length_append, M.textL_length, List.map_append]
        exact hown
      refine hK _ _ ⟨b7⟩ ?_
      obtain ⟨a7, c7, hv7, -⟩ := O7.form
      have HT := Lib.hid (And.intro O7 b7)
      clear hK K hown hgrow hat O7 b7 O6 st6 hsrc
      subst hv7
      simp only [Act.put, List.setIfInBounds_toArray, List.set_cons_zero, List.set_cons_succ]
      iterate 1 (refine line_read rfl (by kernel_rfl) (fun K hK => ?_); go_big_quiet_op; refine hK _ ?_; clear hK K)
      refine line_nil ?_
      go_wp2_with fail
      go_ret
      exact ⟨_, _, _, rfl, HT.out.1, HT.out.2⟩
  · go_big_op
    have st4 := hst.on (bal (Below.refl _ V1) (textObj V1 n 5)).drew
    have X4 := text_own V1 n hnm
    refine hK _ _ st4 ?_
    clear hK K
    have O4' : OwnK .u8 (V1.alloc (textObj V1 n 5)).drew w.heap.size v3 ([1] ++ M.two r) := (Own.alloc O3 _).drew
    have hk3 : ∀ k, v3.ownBlock = some k → k < V1.heap.size := fun k hk => (Own.lt O3 k hk).2
    have lt4 : V1.heap.size < (V1.alloc (textObj V1 n 5)).drew.heap.size := by simp
    generalize (V1.alloc (textObj V1 n 5)).drew = V4 at *
    refine any_rest [(5, false), (6, false), (12, false), (13, true)] (by kernel_rfl) (fun _ _ d _ _ h => by cases d <;> exact h) ?_
    refine line_alone rfl (by kernel_rfl) (fun K hK => ?_)
    have st4' := st4
    clear st4
    refine call_any (args := #[.int .i64 s]) rfl (by kernel_rfl) (by kernel_rfl) (l1Two_any s _ hss) ?_
    rintro e w4 ⟨rfl, rfl⟩
    have st4 := st4'.on (bal (Below.refl _ V4) (.cells #[.int .u8 (s / 256), .int .u8 (s % 256)] 5))
    have O4 : OwnK .u8 _ w.heap.size v3 ([1] ++ M.two r) := Own.alloc O4' (.cells #[.int .u8 (s / 256), .int .u8 (s % 256)] 5)
    have T4 := two_own V4 s
    refine ⟨_, rfl, hK _ _ st4 ?_⟩
    clear hK K
    simp only [Act.put, List.setIfInBounds_toArray, List.set_cons_zero, List.set_cons_succ]
    have X5 : OwnK .u8 (V4.alloc (.cells #[.int .u8 (s / 256), .int .u8 (s % 256)] 5)) V1.heap.size (.slice (some ⟨V1.heap.size, 0, none⟩) n.size (grownCap V1 n.size 0 5)) (M.textL n) := Own.alloc X4 _
    refine line_alone rfl (by kernel_rfl) (fun K hK => ?_)
    refine wp_append_src _ (.tmp 11) (.tmp 16) 22 22 rfl w.heap.size 5 i0 (.int .u8 0) 1 1 Tryz.underlying22 hi0 hz0 hz1 hz2 rfl _ _ _ rfl O4 _ 2 _ rfl (T4.src6 (two_byte hss)) (by simp only [maxLen, M.two, List.length_append, List.length_cons, List.length_nil]; omega) (by simp only [M.two, List.length_append, List.length_cons, List.length_nil]; omega) st4.out.size (fun v5 w5 hown hgrow hat => ?_)
    have b5 : Below w.heap.size w w5 := Own.grown O4 st4.out st4.out.size hgrow
    have O5 : OwnK .u8 w5 w.heap.size v5 (helHead r s) := by unfold OwnK helHead; simpa [M.two] using hown
    have X6 := X5.kept6 hgrow hk3
    refine hK _ _ ⟨b5⟩ ?_
    clear hK K hown hgrow hat O3 O4 T4 st4 hst O4' st4' X4 X5
    simp only [Act.put, List.setIfInBounds_toArray, List.set_cons_zero, List.set_cons_succ]
    have st6 : Bel w w5 := ⟨b5⟩
    have O6 := O5
    have hsrc := X6.src6 (M.textL_byte n)
    clear b5 O5 X6
    refine line_alone rfl (by kernel_rfl) (fun K hK => ?_)
    refine wp_append_src _ (.tmp 17) (.tmp 22) 22 22 rfl w.heap.size 5 i0 (.int .u8 0) 1 1 Tryz.underlying22 hi0 hz0 hz1 hz2 rfl _ _ _ rfl O6 _ n.size _ rfl hsrc (by rw [helHead_length]; simp only [maxLen]; omega) (by rw [helHead_length]; omega) st6.out.size (fun v7 w7 hown hgrow hat => ?_)
    have b7 : Below w.heap.size w w7 := Own.grown O6 st6.out st6.out.size hgrow
    have O7 : OwnK .u8 w7 w.heap.size v7 (packH n r s) := by
      unfold OwnK packH
      rw [List.length_append, M.textL_length, List.map_append]
      exact hown
    refine hK _ _ ⟨b7⟩ ?_
    obtain ⟨a7, c7, hv7, -⟩ := O7.form
    have HT := Lib.hid (And.intro O7 b7)
    clear hK K hown hgrow hat O7 b7 O6 st6 hsrc
    subst hv7
    simp only [Act.put, List.setIfInBounds_toArray, List.set_cons_zero, List.set_cons_succ]
    iterate 1 (refine line_read rfl (by kernel_rfl) (fun K hK => ?_); go_big_quiet_op; refine hK _ ?_; clear hK K)
    refine line_nil ?_
    go_wp2_with fail
    go_ret
    exact ⟨_, _, _, rfl, HT.out.1, HT.out.2⟩

end Go.Proofs.YtepailfhagaboaaGreatDoor
namespace Go.Proofs.YtepailfhagaboaaGreatDoor
open Go.RowKit
set_option maxRecDepth 100000
set_option linter.unusedVariables false

theorem implPackSign_no (p q : Int) (w : World) (hg : ErrT w) (h : M.sigB p q = false) :
    Calls Tryz.prog 88 #[I2 p q] w (BytesRes 3 [] w) := by
  have hR0 := ResB.new2 w (.cells #[.int .i64 p, .int .i64 q] 31) 39
  have hb0 := bal (bal (Below.refl _ w) (.cells #[.int .i64 p, .int .i64 q] 31)) (.cells #[.int .i64 0, .slice none 0 0] 39)
  go_enter Tryz.func88, Tryz.ntmps88
  go_wp2_with fail
  generalize (w.alloc (.cells #[.int .i64 p, .int .i64 q] 31)).alloc (.cells #[.int .i64 0, .slice none 0 0] 39) = W0 at *
  refine (pairOf_no p q _ h).mono ?_
  rintro r w1 ⟨s, v, rfl, h1⟩
  have b1 := btr hb0 h1
  have hR1 := hR0.on h1
  have hg1 := hg.on b1
  clear h1 hb0 hR0 hg h
  go_wp2_with fail
  refine (codeOf_mis _ _ _ hg1).mono ?_
  rintro r w2 ⟨rfl, h2⟩
  have b2 := btr b1 h2
  obtain ⟨q0, q1, z0, z1⟩ := hR1.on h2
  have F : BytesRes 3 [] w (.returned (.agg #[.int .i64 3, .slice none 0 0])) ((w2.setCell ⟨w.heap.size + 1, 0, none⟩ (.int .i64 3)).setCell ⟨w.heap.size + 1, 1, none⟩ (.slice none 0 0)) :=
    ⟨none, 0, 0, rfl, Own.nil _ _ _, bset (bset b2 (by show w.heap.size ≤ w.heap.size + 1; omega) _) (by show w.heap.size ≤ w.heap.size + 1; omega) _⟩
  clear b1 b2 hR1 hg1 h2
  go_wp2_with fail
  exact bodyPost_ret (v := .agg #[.int .i64 3, .slice none 0 0]) (by simp [results, Tryz.results88, go_sem, q0, q1]) rfl F

theorem implPackSign_yes (p q : Int) (w : World) (h : M.sigB p q = true) :
    Calls Tryz.prog 88 #[I2 p q] w (BytesRes 0 (M.two p ++ M.two q) w) := by
  obtain ⟨p0, p1, q0', q1'⟩ := M.sigB_bd h
  obtain ⟨i0, hi0, hz0, hz1, hz2⟩ := info_parts u8_info
  have hmk : ∀ W : World, (Instr.makeSlice 22 (.int .i64 0) (.int .i64 4)).run Tryz.prog W = .ok (.slice (some ⟨W.heap.size, 0, none⟩) 0 4) (W.alloc (.cells (madeCells #[.int .u8 0] 4) 5)) := by
    intro W
    have := run_make (P := Tryz.prog) W 22 5 i0 (.int .u8 0) Tryz.underlying22 hi0 hz0 .i64 .i64 0 4 (by omega) (by omega) (by rw [hz2]; omega) (by omega)
    simpa [hz1, Value.cells] using this
  have Y1 := fun w => pairOf_yes p q w h
  have P1 := fun w => point_any p q w (by omega) (by omega)
  have P2 := fun w => proof_any p q w (by omega) (by omega)
  have sp : M.sumB p = true := by simp only [M.sumB, decide_eq_true_eq]; omega
  have sq : M.sumB q = true := by simp only [M.sumB, decide_eq_true_eq]; omega
  generalize pairV p q = V at *
  have hR0 := ResB.new2 w (.cells #[.int .i64 p, .int .i64 q] 31) 39
  have hb0 := bal (bal (Below.refl _ w) (.cells #[.int .i64 p, .int .i64 q] 31)) (.cells #[.int .i64 0, .slice none 0 0] 39)
  clear hi0 hz0 hz1 hz2
  go_enter Tryz.func88, Tryz.ntmps88
  go_wp2_with fail
  generalize (w.alloc (.cells #[.int .i64 p, .int .i64 q] 31)).alloc (.cells #[.int .i64 0, .slice none 0 0] 39) = W0 at *
  refine (Y1 _).mono ?_
  rintro r w1 ⟨rfl, h1⟩
  have b1 := btr hb0 h1
  have hR1 := hR0.on h1
  clear h1 hb0 hR0
  have O1 : OwnK .u8 (w1.alloc (.cells (madeCells #[.int .u8 0] 4) 5)) w1.heap.size (.slice (some ⟨w1.heap.size, 0, none⟩) 0 4) [] := by
    have := Own.made (size := 1) (B := w1.heap.size) w1 (madeCells #[.int .u8 0] 4) 5 4 (Nat.le_refl _) (by simp only [maxLen]; omega) (by rw [size_madeCells])
    simpa [OwnK] using this
  have c1 : Below w1.heap.size w1 (w1.alloc (.cells (madeCells #[.int .u8 0] 4) 5)) := bal (Below.refl _ _) _
  go_wp2_with fail
  generalize w1.alloc (.cells (madeCells #[.int .u8 0] 4) 5) = v1 at *
  refine (P1 _).mono ?_
  rintro r w2 ⟨rfl, rfl⟩
  go_wp2_with fail
  refine (appendTwo_any _ p w1.heap.size [] _ O1 c1.size sp (by simp)).mono ?_
  rintro r w3 ⟨v3, rfl, O3, g3⟩
  have c3 := O1.grown c1 c1.size g3
  rw [List.nil_append] at O3
  clear O1 c1 g3
  go_wp2_with fail
  refine (P2 _).mono ?_
  rintro r w4 ⟨rfl, rfl⟩
  go_wp2_with fail
  refine (appendTwo_any _ q w1.heap.size (M.two p) _ O3 c3.size sq (by simp [M.two])).mono ?_
  rintro r w5 ⟨v5, rfl, O5, g5⟩
  have c5 := O3.grown c3 c3.size g5
  clear O3 c3 g5
  obtain ⟨q0, q1, z0, z1⟩ := hR1.on c5
  have lt1 : w.heap.size + 1 < w1.heap.size := cell_lt hR1.c0
  obtain ⟨a, cap, hv, -⟩ := O5.form
  have hne := fun g hg => (O5.lt g hg).1
  have b5 := btr b1 c5
  have HT := Lib.hid (And.intro O5 b5)
  clear O5 b5 c5 b1 hR1
  subst hv
  go_wp2_with fail
  refine bodyPost_ret (v := .agg #[.int .i64 0, .slice a (M.two p ++ M.two q).length cap]) (by simp [results, Tryz.results88, go_sem, q0, q1]) rfl ?_
  refine ⟨a, _, cap, rfl, ?_, ?_⟩
  · exact ((HT.out.1.less (by omega)).setCell (fun g hg => by have := hne g hg; show g ≠ w.heap.size + 1; omega) _).setCell (fun g hg => by have := hne g hg; show g ≠ w.heap.size + 1; omega) _
  · exact bset (bset HT.out.2 (by show w.heap.size ≤ w.heap.size + 1; omega) _) (by show w.heap.size ≤ w.heap.size + 1; omega) _

theorem implPackSign_any (p q : Int) (w : World) (hg : ErrT w) :
    Calls Tryz.prog 88 #[I2 p q] w (BytesRes (M.sigF p q) (M.packL p q) w) := by
  cases h : M.sigB p q
  · have := implPackSign_no p q w hg h
    simpa [M.sigF, M.packL, h] using this
  · have := implPackSign_yes p q w h
    simpa [M.sigF, M.packL, h] using this

theorem l3Pack_any (g : Nat) (p q : Int) (w : World) (d0 : w.cell? ⟨g, 0, none⟩ = some (.int .i64 p)) (d1 : w.cell? ⟨g, 1, none⟩ = some (.int .i64 q)) (hp : M.sumB p = true) (hq : M.sumB q = true) :
    Calls Tryz.prog 63 #[.pointer (some ⟨g, 0, none⟩)] w (Made (M.two p ++ M.two q) w) := by
  obtain ⟨i0, hi0, hz0, hz1, hz2⟩ := info_parts u8_info
  have T0 : SigAt w g p q w.drew := ⟨(Below.refl _ _).drew, d0, d1⟩
  go_enter Tryz.func63, Tryz.ntmps63
  go_wp2_with fail
  refine wp_region_line (SigAt w g p q) [(0, true), (1, true), (2, true), (3, true), (5, true), (6, true), (7, true), (8, true), (4, false), (9, false), (10, false), (11, true)] (by kernel_rfl) (by kernel_rfl) (fun _ _ d _ _ h => by cases d <;> exact h) T0 ?_
  have hst := T0
  have hgl : g < w.heap.size := cell_lt d0
  clear T0 d0 d1
  have hVs : w.drew.heap.size = w.heap.size := rfl
  have inst : Nonempty (Of (SigAt w g p q)) := ⟨⟨_, hst⟩⟩
  have q8 : ∀ z : Of (SigAt w g p q), z.val.cell? ⟨g, 0, none⟩ = some (.int .i64 p) := fun z => z.prop.c0
  have q9 : ∀ z : Of (SigAt w g p q), z.val.cell? ⟨g, 1, none⟩ = some (.int .i64 q) := fun z => z.prop.c1
  generalize w.drew = V at *
  iterate 8 (refine line_read rfl (by kernel_rfl) (fun K hK => ?_); go_big_quiet_op; refine hK _ ?_; clear hK K)
  refine line_alone rfl (by kernel_rfl) (fun K hK => ?_)
  refine call_wp (args := #[.int .i64 p]) rfl (by kernel_rfl) (by kernel_rfl) (l1Two_any p _ hp) (fun wn hwn => ?_)
  subst hwn
  have O1 := own_lit (k := .u8) V (M.two p) 2 5 (B := w.heap.size) (by omega) rfl (by simp only [maxLen]; omega)
  have hst1 := hst.on (bal (Below.refl _ V) (.cells #[.int .u8 (p / 256), .int .u8 (p % 256)] 5))
  refine hK _ _ hst1 ?_
  clear hK K hst
  simp only [Act.put, List.setIfInBounds_toArray, List.set_cons_zero, List.set_cons_succ]
  refine line_alone rfl (by kernel_rfl) (fun K hK => ?_)
  refine call_wp (args := #[.int .i64 q]) rfl (by kernel_rfl) (by kernel_rfl) (l1Two_any q _ hq) (fun wn hwn => ?_)
  subst hwn
  have O2 := O1.alloc (.cells #[.int .u8 (q / 256), .int .u8 (q % 256)] 5)
  have hst2 := hst1.on (bal (Below.refl _ _) (.cells #[.int .u8 (q / 256), .int .u8 (q % 256)] 5))
  have hsrc := src_new (P := Tryz.prog) (V.alloc (.cells #[.int .u8 (p / 256), .int .u8 (p % 256)] 5)) [.int .u8 (q / 256), .int .u8 (q % 256)] 2 2 5 22 5 Tryz.underlying22 rfl (ints_oneCell .u8 [q / 256, q % 256])
  refine hK _ _ hst2 ?_
  clear hK K hst1 O1
  simp only [Act.put, List.setIfInBounds_toArray, List.set_cons_zero, List.set_cons_succ]
  refine line_alone rfl (by kernel_rfl) (fun K hK => ?_)
  refine wp_append_src _ (.tmp 7) (.tmp 12) 22 22 rfl w.heap.size 5 i0 (.int .u8 0) 1 1 Tryz.underlying22 hi0 hz0 hz1 hz2 rfl _ 2 ((M.two p).map (Value.int .u8)) rfl O2 _ 2 [.int .u8 (q / 256), .int .u8 (q % 256)] rfl hsrc (by simp only [maxLen]; omega) (by omega) (by simp; omega) (fun v w3 hown hgrow hat => ?_)
  have b3 := O2.grown hst2.bel (by simp; omega) hgrow
  have ne : ∀ i, some (Addr.block ⟨g, i, none⟩) ≠ Value.ownBlock (.slice (some ⟨V.heap.size, 0, none⟩) 2 2) := fun i e => by
    simp [Value.ownBlock] at e
    omega
  have hst3 : SigAt w g p q w3 := ⟨b3, hgrow.cell hst2.c0 (ne 0), hgrow.cell hst2.c1 (ne 1)⟩
  have O3 : OwnK .u8 w3 w.heap.size v (M.two p ++ M.two q) := by unfold OwnK; simpa [M.two] using hown
  refine hK _ _ hst3 ?_
  clear hK K hst2 O2 hown hgrow hat hsrc ne hst3
  obtain ⟨a, cap, hv, -⟩ := O3.form
  have HT := Lib.hid (And.intro O3 b3)
  clear O3 b3
  subst hv
  simp only [Act.put, List.setIfInBounds_toArray, List.set_cons_zero, List.set_cons_succ]
  iterate 1 (refine line_read rfl (by kernel_rfl) (fun K hK => ?_); go_big_quiet_op; refine hK _ ?_; clear hK K)
  refine line_nil ?_
  go_wp2_with fail
  go_ret
  exact ⟨a, _, cap, rfl, HT.out.1, HT.out.2⟩

end Go.Proofs.YtepailfhagaboaaGreatDoor
namespace Go.Proofs.YtepailfhagaboaaGreatDoor
open Go.RowKit
set_option maxRecDepth 100000
set_option linter.unusedVariables false

theorem by6 (c : Int) (a : Option Addr) (n k : Nat) (w : World) : Sem.run Tryz.prog (Instr.field 39 (.agg #[.int .i64 c, .slice a n k]) 1) w = .ok (.slice a n k) w := by kernel_rfl
theorem wordBytes_reply (r s p x y f : Int) (w : World) (h : repF r s p x y f = 0) :
    Calls Tryz.prog 65 #[.iface 33 (R6 r s p x y f)] w (Made (packR r s p x y f) w) := by
  obtain ⟨hr, hs, hp, hf, hg⟩ := repF_zero h
  have hss := pub_sum6 hs
  have hps := pub_sum6 hp
  obtain ⟨hxs, hys⟩ := sig_sums hg
  obtain ⟨i0, hi0, hz0, hz1, hz2⟩ := info_parts u8_info
  have g1 := by6
  have ta : ∀ W : World, (Instr.typeAssert (.iface 33 (R6 r s p x y f)) 70 26 true).run Tryz.prog W = .ok (.tuple #[.agg #[.int .i64 0, .int .i64 0, .string { data := #[] }], .bool false]) W := fun _ => by kernel_rfl
  have tb : ∀ W : World, (Instr.typeAssert (.iface 33 (R6 r s p x y f)) 70 33 true).run Tryz.prog W = .ok (.tuple #[R6 r s p x y f, .bool true]) W := fun _ => by kernel_rfl
  have A0 := At.new w (RL6 r s p x y f) 33
  have b0 := bal (Below.refl _ w) (.cells #[.int .i64 r, .int .i64 s, .int .i64 p, .int .i64 x, .int .i64 y, .int .i64 f] 33)
  have hall : [r, s, p].all M.sumB = true := by simp [hr, hss, hps]
  have hby : ∀ z ∈ M.two x ++ M.two y, M.byteB z := fun z hz => by
    rcases List.mem_append.1 hz with h | h
    · exact two_byte hxs z h
    · exact two_byte hys z h
  clear h
  go_enter Tryz.func65, Tryz.ntmps65
  go_wp2_with fail
  generalize w.alloc (.cells #[.int .i64 r, .int .i64 s, .int .i64 p, .int .i64 x, .int .i64 y, .int .i64 f] 33) = W0 at *
  have d0 := A0.cell 0 _ rfl
  have d1 := A0.cell 1 _ rfl
  have d2 := A0.cell 2 _ rfl
  have d3 := A0.cell 3 _ rfl
  have d4 := A0.cell 4 _ rfl
  have d5 := A0.cell 5 _ rfl
  refine wp_region_line (Bel W0) [(0, true), (1, true), (2, true), (3, true), (4, true), (5, true), (8, true), (9, true), (6, false), (7, false), (10, false), (11, true), (12, false), (13, true)] (by kernel_rfl) (by kernel_rfl) (fun _ _ d _ _ h => by cases d <;> exact h) (Bel.drew W0) ?_
  have hst := Bel.drew W0
  have inst : Nonempty (Of (Bel W0)) := ⟨⟨_, hst⟩⟩
  have u0 := bel_cell d0
  have u1 := bel_cell d1
  have u2 := bel_cell d2
  have u3 := bel_cell d3
  have u4 := bel_cell d4
  generalize W0.drew = V1 at *
  iterate 8 (refine line_read rfl (by kernel_rfl) (fun K hK => ?_); go_big_quiet_op; refine hK _ ?_; clear hK K)
  clear u0 u1 u2 u3 u4 d0 d1 d2 d3 d4 d5
  refine line_alone rfl (by kernel_rfl) (fun K hK => ?_)
  go_big_op
  refine hK _ _ (hst.on (bal (Below.refl _ V1) _)) ?_
  clear hK K
  have st2 := hst.on (bal (Below.refl _ V1) (.cells #[.int .i64 r, .int .i64 s, .int .i64 p] 2))
  have R2 := row_three (w := V1) r s p 2 hr hss hps
  have lt2 : V1.heap.size + 1 ≤ (V1.alloc (.cells #[.int .i64 r, .int .i64 s, .int .i64 p] 2)).heap.size := by simp
  generalize V1.alloc (.cells #[.int .i64 r, .int .i64 s, .int .i64 p] 2) = V2 at *
  refine line_alone rfl (by kernel_rfl) (fun K hK => ?_)
  refine call_any (args := #[.int .u8 2, .slice (some ⟨V1.heap.size, 0, none⟩) 3 3]) rfl (by kernel_rfl) (by kernel_rfl) (wordHead_any 2 _ 3 3 _ [r, s, p] V2 R2 lt2 hall (by omega)) ?_
  rintro e V3 ⟨a3, n3, c3, rfl, O3', b3⟩
  have O3 : OwnK .u8 V3 V2.heap.size (.slice a3 n3 c3) (frontR r s p) := O3'
  have l3 : n3 = 7 := O3.len
  subst l3
  have st3 := st2.on b3
  refine ⟨_, rfl, hK _ _ st3 ?_⟩
  clear hK K O3'
  simp only [Act.put, List.setIfInBounds_toArray, List.set_cons_zero, List.set_cons_succ]
  refine line_alone rfl (by kernel_rfl) (fun K hK => ?_)
  refine call_any (args := #[I2 x y]) rfl (by kernel_rfl) (by kernel_rfl) (implPackSign_yes x y V3 hg) ?_
  rintro e V4 ⟨a4, n4, c4, rfl, O4, b4⟩
  have l4 : n4 = 4 := O4.len
  subst l4
  have st4 := st3.on b4
  have b34 := btr b3 b4
  have O5 : OwnK .u8 V4 V2.heap.size (.slice a3 7 c3) (frontR r s p) := Own.below O3 b4
  refine ⟨_, rfl, hK _ _ st4 ?_⟩
  clear hK K O3 b3
  simp only [Act.put, List.setIfInBounds_toArray, List.set_cons_zero, List.set_cons_succ]
  iterate 1 (refine line_read rfl (by kernel_rfl) (fun K hK => ?_); go_big_quiet_op; refine hK _ ?_; clear hK K)
  refine line_alone rfl (by kernel_rfl) (fun K hK => ?_)
  refine wp_append_src _ (.tmp 29) (.tmp 33) 22 22 rfl V2.heap.size 5 i0 (.int .u8 0) 1 1 Tryz.underlying22 hi0 hz0 hz1 hz2 rfl _ _ _ rfl O5 _ 4 _ rfl (O4.src6 hby) (by rw [frontR_length]; simp only [maxLen]; omega) (by rw [frontR_length]; omega) b34.size (fun v6 w6 hown hgrow hat => ?_)
  have b6 : Below V2.heap.size V2 w6 := Own.grown O5 b34 b34.size hgrow
  have O6 : OwnK .u8 w6 V2.heap.size v6 (frontR r s p ++ (M.two x ++ M.two y)) := by
    unfold OwnK
    rw [List.length_append, List.map_append]
    exact hown
  have st6 := st2.on b6
  refine hK _ _ st6 ?_
  have A6 := A0.on st6.out
  have b7 := btr b0 st6.out
  have hle : w.heap.size ≤ V2.heap.size := (btr b0 st2.out).size
  have O7 : OwnK .u8 w6 w.heap.size v6 (frontR r s p ++ (M.two x ++ M.two y)) := O6.less hle
  clear hK K hown hgrow hat O4 O5 O6 b4 b34 b6 st2 st3 st4 st6 A0 b0
  simp only [Act.put, List.setIfInBounds_toArray, List.set_cons_zero, List.set_cons_succ]
  iterate 1 (refine line_read rfl (by kernel_rfl) (fun K hK => ?_); go_big_quiet_op; refine hK _ ?_; clear hK K)
  refine line_nil ?_
  have d5 := A6.cell 5 _ rfl
  have HF := Lib.hid hf
  go_wp2_with fail
  refine (appendTwo_any _ f w.heap.size _ _ O7 b7.size HF.out (by simp only [frontR, M.two, List.length_append, List.length_cons, List.length_nil]; omega)).mono ?_
  rintro e w8 ⟨v8, rfl, O8, g8⟩
  have b8 := O7.grown b7 b7.size g8
  obtain ⟨a8, c8, hv8, -⟩ := O8.form
  have HT := Lib.hid (And.intro (show OwnK .u8 w8 w.heap.size v8 (packR r s p x y f) from O8) b8)
  clear O8 b8 g8 O7 b7 A6
  subst hv8
  go_wp2_with fail
  go_ret
  exact ⟨_, _, _, rfl, HT.out.1, HT.out.2⟩
theorem replyFault_method (r s p x y f : Int) (w : World) (hg : ErrT w) :
    Calls Tryz.prog 154 #[R6 r s p x y f] w fun e w' => e = .returned (.int .i64 (repF r s p x y f)) ∧ Below w.heap.size w w' := by
  have b0 := bal (Below.refl _ w) (.cells #[.int .i64 r, .int .i64 s, .int .i64 p, .int .i64 x, .int .i64 y, .int .i64 f] 33)
  have F := fun w hg => implReplyFault_any r s p x y f w hg
  have E0 := hg.on b0
  go_enter Tryz.func154, Tryz.ntmps154
  go_wp2_with fail
  refine (F _ E0).mono ?_
  rintro e u1 ⟨rfl, b1⟩
  have hb := btr b0 b1
  go_wp2_with fail
  go_ret
  exact ⟨rfl, hb⟩
theorem packWord_reply (r s p x y f : Int) (w : World) (hg : ErrT w) :
    Calls Tryz.prog 40 #[.iface 33 (R6 r s p x y f)] w (BytesRes (repF r s p x y f) (packRL r s p x y f) w) := by
  have hm : ∀ w : World, (method 337 33 (R6 r s p x y f) "loop.example/g00618/impl.fault").run Tryz.prog w = .ok (154, R6 r s p x y f) w := fun _ => by kernel_rfl
  have F := fun w hg => replyFault_method r s p x y f w hg
  have A0 := At.new w [.int .i64 0, .slice none 0 0] 39
  have b0 := bal (Below.refl _ w) (.cells #[.int .i64 0, .slice none 0 0] 39)
  have E0 := hg.on b0
  by_cases h : repF r s p x y f = 0
  · have e : packRL r s p x y f = packR r s p x y f := by simp [packRL, h]
    rw [e]
    have P1 := fun w => wordBytes_reply r s p x y f w h
    simp only [h] at F ⊢
    clear e h
    go_enter Tryz.func40, Tryz.ntmps40
    go_wp2_with fail
    generalize w.alloc (.cells #[.int .i64 0, .slice none 0 0] 39) = W0 at *
    refine (F _ E0).mono ?_
    rintro e u1 ⟨rfl, b1⟩
    go_wp2_with fail
    refine (P1 _).mono ?_
    rintro e u2 ⟨a2, n2, c2, rfl, O2, b2⟩
    have lt1 : w.heap.size < u1.heap.size := (A0.on b1).lt (by simp)
    have q0 := ((A0.on b1).on b2).cell 0 _ rfl
    have q1 := ((A0.on b1).on b2).cell 1 _ rfl
    have z0 := ((A0.on b1).on b2).free 0 _ rfl
    have z1 := ((A0.on b1).on b2).free 1 _ rfl
    have HT := Lib.hid (And.intro O2 (btr b0 (btr b1 b2)))
    have hzs := (btr b0 b1).size
    clear A0 O2 b2 b1 b0
    go_wp2_with fail
    refine bodyPost_ret (v := .agg #[.int .i64 0, .slice a2 n2 c2]) (by simp [results, Tryz.results40, go_sem, q0, q1]) rfl ?_
    exact ⟨_, _, _, rfl, (by (iterate 2 (refine Own.setCell ?_ (fun g hg => by have := (HT.out.1.lt g hg).1; dsimp only; omega) _)); exact HT.out.1.less (by omega)), (by (iterate 2 (refine bset ?_ (by dsimp only; omega) _)); exact HT.out.2)⟩
  · have e : packRL r s p x y f = [] := by simp [packRL, h]
    rw [e]
    generalize repF r s p x y f = cd at *
    clear e
    go_enter Tryz.func40, Tryz.ntmps40
    go_wp2_with fail
    generalize w.alloc (.cells #[.int .i64 0, .slice none 0 0] 39) = W0 at *
    refine (F _ E0).mono ?_
    rintro e u1 ⟨rfl, b1⟩
    have q0 := (A0.on b1).cell 0 _ rfl
    have q1 := (A0.on b1).cell 1 _ rfl
    have z0 := (A0.on b1).free 0 _ rfl
    have z1 := (A0.on b1).free 1 _ rfl
    have hb := btr b0 b1
    clear A0 b0 b1 F
    go_wp2_with fail
    refine bodyPost_ret (v := .agg #[.int .i64 cd, .slice none 0 0]) (by simp [results, Tryz.results40, go_sem, q0, q1]) rfl ?_
    exact ⟨_, _, _, rfl, Own.nil _ _ _, (by (iterate 2 (refine bset ?_ (by dsimp only; omega) _)); exact hb)⟩
theorem implPackReply_any (r s p x y f : Int) (w : World) (hg : ErrT w) :
    Calls Tryz.prog 13 #[R6 r s p x y f] w (BytesRes (repF r s p x y f) (packRL r s p x y f) w) := by
  have F := fun w hg => packWord_reply r s p x y f w hg
  have b0 := bal (bal (Below.refl _ w) (.cells #[.int .i64 r, .int .i64 s, .int .i64 p, .int .i64 x, .int .i64 y, .int .i64 f] 33)) (.cells #[.int .i64 0, .slice none 0 0] 39)
  have A2 := At.new (w.alloc (.cells #[.int .i64 r, .int .i64 s, .int .i64 p, .int .i64 x, .int .i64 y, .int .i64 f] 33)) [.int .i64 0, .slice none 0 0] 39
  simp only [World.size_alloc] at A2
  have E0 := hg.on b0
  generalize repF r s p x y f = cd at *
  generalize packRL r s p x y f = zs at *
  go_enter Tryz.func13, Tryz.ntmps13
  go_wp2_with fail
  generalize (w.alloc (.cells #[.int .i64 r, .int .i64 s, .int .i64 p, .int .i64 x, .int .i64 y, .int .i64 f] 33)).alloc (.cells #[.int .i64 0, .slice none 0 0] 39) = W0 at *
  refine (F _ E0).mono ?_
  rintro e u1 ⟨a2, n2, c2, rfl, O2, b2⟩
  have lt1 : w.heap.size + 1 < W0.heap.size := A2.lt (by simp)
  have q0 := (A2.on b2).cell 0 _ rfl
  have q1 := (A2.on b2).cell 1 _ rfl
  have z0 := (A2.on b2).free 0 _ rfl
  have z1 := (A2.on b2).free 1 _ rfl
  have HT := Lib.hid (And.intro O2 (btr b0 b2))
  clear A2 O2 b2 b0
  go_wp2_with fail
  refine bodyPost_ret (v := .agg #[.int .i64 cd, .slice a2 n2 c2]) (by simp [results, Tryz.results13, go_sem, q0, q1]) rfl ?_
  exact ⟨_, _, _, rfl, (by (iterate 2 (refine Own.setCell ?_ (fun g hg => by have := (HT.out.1.lt g hg).1; dsimp only; omega) _)); exact HT.out.1.less (by omega)), (by (iterate 2 (refine bset ?_ (by dsimp only; omega) _)); exact HT.out.2)⟩

theorem l3Pack3_any (g : Nat) (p q : Int) (w : World) (d0 : w.cell? ⟨g, 3, none⟩ = some (.int .i64 p)) (d1 : w.cell? ⟨g, 4, none⟩ = some (.int .i64 q)) (hp : M.sumB p = true) (hq : M.sumB q = true) :
    Calls Tryz.prog 63 #[.pointer (some ⟨g, 3, none⟩)] w (Made (M.two p ++ M.two q) w) := by
  obtain ⟨i0, hi0, hz0, hz1, hz2⟩ := info_parts u8_info
  go_enter Tryz.func63, Tryz.ntmps63
  go_wp2_with fail
  refine wp_region_line (Bel w) [(0, true), (1, true), (2, true), (3, true), (5, true), (6, true), (7, true), (8, true), (4, false), (9, false), (10, false), (11, true)] (by kernel_rfl) (by kernel_rfl) (fun _ _ d _ _ h => by cases d <;> exact h) (Bel.drew w) ?_
  have hst := Bel.drew w
  have inst : Nonempty (Of (Bel w)) := ⟨⟨_, hst⟩⟩
  have u0 := bel_cell d0
  have u1 := bel_cell d1
  have eV := Lib.hid (show w.drew.heap.size = w.heap.size from rfl)
  generalize w.drew = V at *
  iterate 8 (refine line_read rfl (by kernel_rfl) (fun K hK => ?_); go_big_quiet_op; refine hK _ ?_; clear hK K)
  clear u0 u1 d0 d1
  refine line_alone rfl (by kernel_rfl) (fun K hK => ?_)
  refine call_any (args := #[.int .i64 p]) rfl (by kernel_rfl) (by kernel_rfl) (l1Two_any p _ hp) ?_
  rintro e w1 ⟨rfl, rfl⟩
  have O1 := (two_own V p).less (Nat.le_of_eq eV.out.symm)
  have st1 := hst.on (bal (Below.refl _ V) (.cells #[.int .u8 (p / 256), .int .u8 (p % 256)] 5))
  refine ⟨_, rfl, hK _ _ st1 ?_⟩
  clear hK K hst
  simp only [Act.put, List.setIfInBounds_toArray, List.set_cons_zero, List.set_cons_succ]
  generalize V.alloc (.cells #[.int .u8 (p / 256), .int .u8 (p % 256)] 5) = V1 at *
  refine line_alone rfl (by kernel_rfl) (fun K hK => ?_)
  refine call_any (args := #[.int .i64 q]) rfl (by kernel_rfl) (by kernel_rfl) (l1Two_any q _ hq) ?_
  rintro e w2 ⟨rfl, rfl⟩
  have O2 : OwnK .u8 (V1.alloc (.cells #[.int .u8 (q / 256), .int .u8 (q % 256)] 5)) w.heap.size (.slice (some ⟨V.heap.size, 0, none⟩) 2 2) (M.two p) := Own.alloc O1 _
  have T2 := two_own V1 q
  have st2 := st1.on (bal (Below.refl _ V1) (.cells #[.int .u8 (q / 256), .int .u8 (q % 256)] 5))
  refine ⟨_, rfl, hK _ _ st2 ?_⟩
  clear hK K st1 O1
  simp only [Act.put, List.setIfInBounds_toArray, List.set_cons_zero, List.set_cons_succ]
  refine line_alone rfl (by kernel_rfl) (fun K hK => ?_)
  refine wp_append_src _ (.tmp 7) (.tmp 12) 22 22 rfl w.heap.size 5 i0 (.int .u8 0) 1 1 Tryz.underlying22 hi0 hz0 hz1 hz2 rfl _ _ _ rfl O2 _ 2 _ rfl (T2.src6 (two_byte hq)) (by simp only [maxLen, M.two, List.length_cons, List.length_nil]; omega) (by simp only [M.two, List.length_cons, List.length_nil]; omega) st2.out.size (fun v3 w3 hown hgrow hat => ?_)
  have b3 : Below w.heap.size w w3 := Own.grown O2 st2.out st2.out.size hgrow
  have O3 : OwnK .u8 w3 w.heap.size v3 (M.two p ++ M.two q) := by
    unfold OwnK
    rw [List.length_append, List.map_append]
    exact hown
  refine hK _ _ ⟨b3⟩ ?_
  obtain ⟨a3, c3, hv3, -⟩ := O3.form
  have HT := Lib.hid (And.intro O3 b3)
  clear hK K hown hgrow hat O2 T2 st2 O3 b3
  subst hv3
  simp only [Act.put, List.setIfInBounds_toArray, List.set_cons_zero, List.set_cons_succ]
  iterate 1 (refine line_read rfl (by kernel_rfl) (fun K hK => ?_); go_big_quiet_op; refine hK _ ?_; clear hK K)
  refine line_nil ?_
  go_wp2_with fail
  go_ret
  exact ⟨_, _, _, rfl, HT.out.1, HT.out.2⟩

theorem l6Front_any (g : Nat) (r s p x y f : Int) (w : World) (hA : At g (RL6 r s p x y f) w) (hr : M.sumB r = true) (hs : M.sumB s = true) (hp : M.sumB p = true) :
    Calls Tryz.prog 62 #[.pointer (some ⟨g, 0, none⟩)] w (Made (frontR r s p) w) := by
  obtain ⟨i0, hi0, hz0, hz1, hz2⟩ := info_parts u8_info
  have d0 := hA.cell 0 _ rfl
  have d1 := hA.cell 1 _ rfl
  have d2 := hA.cell 2 _ rfl
  have d3 := hA.cell 3 _ rfl
  have d4 := hA.cell 4 _ rfl
  have d5 := hA.cell 5 _ rfl
  have b1 := bal (Below.refl _ w) (.cells #[.int .u8 2] 5)
  have ltg := hA.lt (by simp)
  have O1 : OwnK .u8 (w.alloc (.cells #[.int .u8 2] 5)) w.heap.size (.slice (some ⟨w.heap.size, 0, none⟩) 1 1) [2] := own_lit (k := .u8) w [2] 1 5 (Nat.le_refl _) rfl (by simp only [maxLen]; omega)
  go_enter Tryz.func62, Tryz.ntmps62
  go_wp2_with fail
  generalize w.alloc (.cells #[.int .u8 2] 5) = W1 at *
  refine (l1Two_any r _ hr).mono ?_
  rintro e w2 ⟨rfl, rfl⟩
  have O2 := Own.alloc O1 (.cells #[.int .u8 (r / 256), .int .u8 (r % 256)] 5)
  have b2 := bal b1 (.cells #[.int .u8 (r / 256), .int .u8 (r % 256)] 5)
  have hle := b2.size
  have hsrc := src_new (P := Tryz.prog) W1 [.int .u8 (r / 256), .int .u8 (r % 256)] 2 2 5 22 5 Tryz.underlying22 rfl (ints_oneCell .u8 [r / 256, r % 256])
  go_wp2_with (at_builtin; refine wpList_append_src _ rfl (.tmp 4) (.tmp 9) 22 22 rfl w.heap.size 5 i0 (.int .u8 0) 1 1 Tryz.underlying22 hi0 hz0 hz1 hz2 rfl _ 1 [.int .u8 2] rfl O2 _ 2 _ rfl hsrc (by simp only [maxLen]; omega) (by omega) hle ?_; intro v3 w3 hown hgrow hat)
  have b3 : Below w.heap.size w w3 := Own.grown O2 b2 hle hgrow
  have O3 : OwnK .u8 w3.drew w.heap.size v3 ([2] ++ M.two r) := by unfold OwnK; simpa [M.two] using hown.drew
  clear O1 O2 b1 b2 hle hsrc hown hgrow hat
  have S0 : Bel w w3.drew := ⟨b3.drew⟩
  refine wp_region_line (Bel w) [(0, true), (1, true), (2, true), (3, true), (4, true), (7, true), (8, true), (9, true), (10, true), (5, false), (6, false), (11, false), (12, false), (13, true)] (by kernel_rfl) (by kernel_rfl) (fun _ _ d _ _ h => by cases d <;> exact h) S0 ?_
  have inst : Nonempty (Of (Bel w)) := ⟨⟨_, S0⟩⟩
  have u1 := bel_cell d1
  have u2 := bel_cell d2
  clear b3 d0 d1 d2 d3 d4 d5
  generalize w3.drew = V1 at *
  iterate 9 (refine line_read rfl (by kernel_rfl) (fun K hK => ?_); go_big_quiet_op; refine hK _ ?_; clear hK K)
  clear u1 u2
  refine line_alone rfl (by kernel_rfl) (fun K hK => ?_)
  refine call_any (args := #[.int .i64 s]) rfl (by kernel_rfl) (by kernel_rfl) (l1Two_any s _ hs) ?_
  rintro e _ ⟨rfl, rfl⟩
  have st5 := S0.on (bal (Below.refl _ V1) (.cells #[.int .u8 (s / 256), .int .u8 (s % 256)] 5))
  have O5 : OwnK .u8 (V1.alloc (.cells #[.int .u8 (s / 256), .int .u8 (s % 256)] 5)) w.heap.size v3 ([2] ++ M.two r) := Own.alloc O3 _
  have T5 := two_own V1 s
  refine ⟨_, rfl, hK _ _ st5 ?_⟩
  clear hK K
  simp only [Act.put, List.setIfInBounds_toArray, List.set_cons_zero, List.set_cons_succ]
  refine line_alone rfl (by kernel_rfl) (fun K hK => ?_)
  refine wp_append_src _ (.tmp 11) (.tmp 16) 22 22 rfl w.heap.size 5 i0 (.int .u8 0) 1 1 Tryz.underlying22 hi0 hz0 hz1 hz2 rfl _ _ _ rfl O5 _ 2 _ rfl (T5.src6 (two_byte hs)) (by simp only [maxLen, M.two, List.length_append, List.length_cons, List.length_nil]; omega) (by simp only [M.two, List.length_append, List.length_cons, List.length_nil]; omega) st5.out.size (fun v5 w5 hown hgrow hat => ?_)
  have b5 : Below w.heap.size w w5 := Own.grown O5 st5.out st5.out.size hgrow
  have P5 : OwnK .u8 w5 w.heap.size v5 ([2] ++ M.two r ++ M.two s) := by
    unfold OwnK
    rw [List.length_append, List.map_append]
    exact hown
  have S5 : Bel w w5 := ⟨b5⟩
  refine hK _ _ S5 ?_
  clear hK K hown hgrow hat O5 T5 st5 O3 S0 b5
  simp only [Act.put, List.setIfInBounds_toArray, List.set_cons_zero, List.set_cons_succ]
  refine line_alone rfl (by kernel_rfl) (fun K hK => ?_)
  refine call_any (args := #[.int .i64 p]) rfl (by kernel_rfl) (by kernel_rfl) (l1Two_any p _ hp) ?_
  rintro e _ ⟨rfl, rfl⟩
  have st6 := S5.on (bal (Below.refl _ w5) (.cells #[.int .u8 (p / 256), .int .u8 (p % 256)] 5))
  have O6 : OwnK .u8 (w5.alloc (.cells #[.int .u8 (p / 256), .int .u8 (p % 256)] 5)) w.heap.size v5 ([2] ++ M.two r ++ M.two s) := Own.alloc P5 _
  have T6 := two_own w5 p
  refine ⟨_, rfl, hK _ _ st6 ?_⟩
  clear hK K
  simp only [Act.put, List.setIfInBounds_toArray, List.set_cons_zero, List.set_cons_succ]
  refine line_alone rfl (by kernel_rfl) (fun K hK => ?_)
  refine wp_append_src _ (.tmp 17) (.tmp 22) 22 22 rfl w.heap.size 5 i0 (.int .u8 0) 1 1 Tryz.underlying22 hi0 hz0 hz1 hz2 rfl _ _ _ rfl O6 _ 2 _ rfl (T6.src6 (two_byte hp)) (by simp only [maxLen, M.two, List.length_append, List.length_cons, List.length_nil]; omega) (by simp only [M.two, List.length_append, List.length_cons, List.length_nil]; omega) st6.out.size (fun v6 w6 hown hgrow hat => ?_)
  have b6 : Below w.heap.size w w6 := Own.grown O6 st6.out st6.out.size hgrow
  have P6 : OwnK .u8 w6 w.heap.size v6 ([2] ++ M.two r ++ M.two s ++ M.two p) := by
    unfold OwnK
    rw [List.length_append, List.map_append]
    exact hown
  have S6 : Bel w w6 := ⟨b6⟩
  refine hK _ _ S6 ?_
  clear hK K hown hgrow hat O6 T6 st6 P5 S5 b6
  simp only [Act.put, List.setIfInBounds_toArray, List.set_cons_zero, List.set_cons_succ]
  obtain ⟨a7, c7, hv7, -⟩ := P6.form
  have HT := Lib.hid (And.intro (show OwnK .u8 w6 w.heap.size v6 (frontR r s p) from P6) S6.out)
  clear P6 S6
  subst hv7
  iterate 1 (refine line_read rfl (by kernel_rfl) (fun K hK => ?_); go_big_quiet_op; refine hK _ ?_; clear hK K)
  refine line_nil ?_
  go_wp2_with fail
  go_ret
  exact ⟨_, _, _, rfl, HT.out.1, HT.out.2⟩

theorem l6PackReply_any (g : Nat) (r s p x y f : Int) (w : World) (hA : At g (RL6 r s p x y f) w) (h : repF r s p x y f = 0) :
    Calls Tryz.prog 37 #[.pointer (some ⟨g, 0, none⟩)] w (Made (packR r s p x y f) w) := by
  obtain ⟨hr, hs, hp, hf, hg⟩ := repF_zero h
  obtain ⟨hxs, hys⟩ := sig_sums hg
  obtain ⟨i0, hi0, hz0, hz1, hz2⟩ := info_parts u8_info
  have P1 := fun w hA => l6Front_any g r s p x y f w hA hr (pub_sum6 hs) (pub_sum6 hp)
  have P2 := fun w d3 d4 => l3Pack3_any g x y w d3 d4 hxs hys
  have hby : ∀ z ∈ M.two x ++ M.two y, M.byteB z := fun z hz => by
    rcases List.mem_append.1 hz with h | h
    · exact two_byte hxs z h
    · exact two_byte hys z h
  clear h
  go_enter Tryz.func37, Tryz.ntmps37
  go_wp2_with fail
  refine wp_region_line (Bel w) [(0, true), (2, true), (3, true), (4, true), (1, false), (5, false), (6, false), (7, true)] (by kernel_rfl) (by kernel_rfl) (fun _ _ d _ _ h => by cases d <;> exact h) (Bel.drew w) ?_
  have hst := Bel.drew w
  have inst : Nonempty (Of (Bel w)) := ⟨⟨_, hst⟩⟩
  have eV := Lib.hid (show w.drew.heap.size = w.heap.size from rfl)
  generalize w.drew = V at *
  iterate 4 (refine line_read rfl (by kernel_rfl) (fun K hK => ?_); go_big_quiet_op; refine hK _ ?_; clear hK K)
  refine line_alone rfl (by kernel_rfl) (fun K hK => ?_)
  refine call_any (args := #[.pointer (some ⟨g, 0, none⟩)]) rfl (by kernel_rfl) (by kernel_rfl) (P1 _ (hA.on hst.out)) ?_
  rintro e w1 ⟨a1, n1, c1, rfl, O1, b1⟩
  have l1 : n1 = 7 := O1.len
  subst l1
  have st1 := hst.on b1
  refine ⟨_, rfl, hK _ _ st1 ?_⟩
  clear hK K
  simp only [Act.put, List.setIfInBounds_toArray, List.set_cons_zero, List.set_cons_succ]
  have A1 := hA.on st1.out
  refine line_alone rfl (by kernel_rfl) (fun K hK => ?_)
  refine call_any (args := #[.pointer (some ⟨g, 3, none⟩)]) rfl (by kernel_rfl) (by kernel_rfl) (P2 _ (A1.cell 3 _ rfl) (A1.cell 4 _ rfl)) ?_
  rintro e w2 ⟨a2, n2, c2, rfl, O2, b2⟩
  have l2 : n2 = 4 := O2.len
  subst l2
  have st2 := st1.on b2
  have O1' : OwnK .u8 w2 w.heap.size (.slice a1 7 c1) (frontR r s p) := (Own.below O1 b2).less (Nat.le_of_eq eV.out.symm)
  refine ⟨_, rfl, hK _ _ st2 ?_⟩
  clear hK K
  simp only [Act.put, List.setIfInBounds_toArray, List.set_cons_zero, List.set_cons_succ]
  refine line_alone rfl (by kernel_rfl) (fun K hK => ?_)
  refine wp_append_src _ (.tmp 5) (.tmp 9) 22 22 rfl w.heap.size 5 i0 (.int .u8 0) 1 1 Tryz.underlying22 hi0 hz0 hz1 hz2 rfl _ _ _ rfl O1' _ 4 _ rfl (O2.src6 hby) (by rw [frontR_length]; simp only [maxLen]; omega) (by rw [frontR_length]; omega) st2.out.size (fun v3 w3 hown hgrow hat => ?_)
  have b3 : Below w.heap.size w w3 := Own.grown O1' st2.out st2.out.size hgrow
  have O3 : OwnK .u8 w3 w.heap.size v3 (frontR r s p ++ (M.two x ++ M.two y)) := by
    unfold OwnK
    rw [List.length_append, List.map_append]
    exact hown
  refine hK _ _ ⟨b3⟩ ?_
  clear hK K hown hgrow hat O1' O1 O2 st1 st2 hst b1 b2 P1 P2 A1
  simp only [Act.put, List.setIfInBounds_toArray, List.set_cons_zero, List.set_cons_succ]
  iterate 1 (refine line_read rfl (by kernel_rfl) (fun K hK => ?_); go_big_quiet_op; refine hK _ ?_; clear hK K)
  refine line_nil ?_
  have d5 := (hA.on b3).cell 5 _ rfl
  clear inst
  go_wp2_with fail
  refine (l1Two_any f _ hf).mono ?_
  rintro e w4 ⟨rfl, rfl⟩
  have O4 : OwnK .u8 (w3.alloc (.cells #[.int .u8 (f / 256), .int .u8 (f % 256)] 5)) w.heap.size v3 (frontR r s p ++ (M.two x ++ M.two y)) := Own.alloc O3 _
  have T4 := (two_own w3 f).src6 (two_byte hf)
  have b4 := bal b3 (.cells #[.int .u8 (f / 256), .int .u8 (f % 256)] 5)
  have hle := b4.size
  have hlen : (frontR r s p ++ (M.two x ++ M.two y)).length = 11 := rfl
  go_wp2_with (at_builtin; refine wpList_append_src _ rfl (.tmp 11) (.tmp 16) 22 22 rfl w.heap.size 5 i0 (.int .u8 0) 1 1 Tryz.underlying22 hi0 hz0 hz1 hz2 rfl _ _ _ rfl O4 _ 2 _ rfl T4 (by rw [hlen]; simp only [maxLen]; omega) (by rw [hlen]; omega) hle ?_; intro v5 w5 hown hgrow hat)
  have b5 : Below w.heap.size w w5 := Own.grown O4 b4 hle hgrow
  have O5 : OwnK .u8 w5 w.heap.size v5 (packR r s p x y f) := by
    unfold OwnK packR
    generalize frontR r s p ++ (M.two x ++ M.two y) = L at hown ⊢
    rw [List.length_append, List.map_append]
    exact hown
  obtain ⟨a5, c5, hv5, -⟩ := O5.form
  have HT := Lib.hid (And.intro O5 b5)
  clear hown hgrow hat O4 T4 b4 O5 b5 O3 b3
  subst hv5
  go_wp2_with fail
  go_ret
  exact ⟨_, _, _, rfl, HT.out.1, HT.out.2⟩
end Go.Proofs.YtepailfhagaboaaGreatDoor
namespace Go.Proofs.YtepailfhagaboaaGreatDoor
open Go.RowKit
set_option maxRecDepth 100000
set_option linter.unusedVariables false

/-- Two slices of bytes in a new block. -/
theorem grid_two {w : World} {a1 a2 : Option Addr} {n1 n2 c1 c2 : Nat} {z1 z2 : List Int} (t : TypeId) (R1 : Row .u8 w w.heap.size a1 n1 c1 z1) (R2 : Row .u8 w w.heap.size a2 n2 c2 z2) :
    Grid (w.alloc (.cells #[.slice a1 n1 c1, .slice a2 n2 c2] t)) (w.heap.size + 1) (some ⟨w.heap.size, 0, none⟩) 2 2 [z1, z2] :=
  ⟨rfl, Nat.le_refl _, by simp only [maxLen]; omega, fun _ => ⟨w.heap.size, 0, rfl, by omega, fun j hj => by
    have e1 : (w.alloc (.cells #[.slice a1 n1 c1, .slice a2 n2 c2] t)).heap[w.heap.size]? = some (.cells #[.slice a1 n1 c1, .slice a2 n2 c2] t) := (MapKept.heap_alloc w _).1
    match j, hj with
    | 0, _ => exact ⟨a1, n1, c1, by unfold World.cell?; show (match (w.alloc (.cells #[.slice a1 n1 c1, .slice a2 n2 c2] t)).heap[w.heap.size]? with | some (Obj.cells c elem frozen) => c[0]? | x => none) = _; rw [e1]; rfl, (R1.alloc (Nat.le_refl _) _).more (by omega)⟩
    | 1, _ => exact ⟨a2, n2, c2, by unfold World.cell?; show (match (w.alloc (.cells #[.slice a1 n1 c1, .slice a2 n2 c2] t)).heap[w.heap.size]? with | some (Obj.cells c elem frozen) => c[1]? | x => none) = _; rw [e1]; rfl, (R2.alloc (Nat.le_refl _) _).more (by omega)⟩⟩⟩
/-- The first n of a slice. -/
theorem Row.upto6 {k : IntKind} {w : World} {B : Nat} {a : Option Addr} {len cap : Nat} {zs : List Int} (h : Row k w B a len cap zs) (n : Nat) (hn : n ≤ len) : Row k w B a n cap (zs.take n) :=
  ⟨by simp [h.length]; omega, fun z hz => h.wf z (List.mem_of_mem_take hz), Nat.le_trans hn h.fits, h.most, fun hp => by
    obtain ⟨b, off, e, hb, hc⟩ := h.cells (by omega)
    refine ⟨b, off, e, hb, fun j hj => ?_⟩
    rw [hc j (by omega)]
    simp [List.getD, hj]⟩
/-- Below W, and two blocks hold their cells. -/
structure Hold2 (W : World) (g : Nat) (cs : List Value) (h : Nat) (ds : List Value) (cur : World) : Prop where
  bel : Below W.heap.size W cur
  one : At g cs cur
  two : At h ds cur
theorem Hold2.on {W : World} {g h : Nat} {cs ds : List Value} {cur cur' : World} (x : Hold2 W g cs h ds cur) (hb : Below cur.heap.size cur cur') : Hold2 W g cs h ds cur' := ⟨btr x.bel hb, x.one.on hb, x.two.on hb⟩
theorem Hold2.setB {W : World} {g h : Nat} {cs ds : List Value} {cur : World} (x : Hold2 W g cs h ds cur) {p : Addr} (hW : W.heap.size ≤ p.block) (hg : g ≠ p.block) (hh : h ≠ p.block) (u : Value) : Hold2 W g cs h ds (cur.setCell p u) := ⟨bset x.bel hW u, x.one.setB hg u, x.two.setB hh u⟩
theorem hold2_one {W : World} {g h : Nat} {cs ds : List Value} (i : Nat) (v : Value) (e : cs[i]? = some v) : ∀ z : Of (Hold2 W g cs h ds), z.val.cell? ⟨g, i, none⟩ = some v := fun z => z.prop.one.cell i v e
theorem hold2_two {W : World} {g h : Nat} {cs ds : List Value} (i : Nat) (v : Value) (e : ds[i]? = some v) : ∀ z : Of (Hold2 W g cs h ds), z.val.cell? ⟨h, i, none⟩ = some v := fun z => z.prop.two.cell i v e

def heaC (n : ByteArray) (r s : Int) (r2 s2 p x y f : Int) : Int := if helF n.data.toList r s = 0 then repF r2 s2 p x y f else helF n.data.toList r s
def heaV (n : ByteArray) (r s : Int) (r2 s2 p x y f : Int) : Int := if heaC n r s r2 s2 p x y f = 0 then M.heardL [packH n r s, frontR r2 s2 p] else 0
theorem hea_hel {n : ByteArray} {r s r2 s2 p x y f : Int} (h : ¬ helF n.data.toList r s = 0) : heaC n r s r2 s2 p x y f = helF n.data.toList r s ∧ heaV n r s r2 s2 p x y f = 0 := by
  have e : heaC n r s r2 s2 p x y f = helF n.data.toList r s := by simp [heaC, h]
  exact ⟨e, by unfold heaV; rw [e, if_neg h]⟩
theorem hea_rep {n : ByteArray} {r s r2 s2 p x y f : Int} (h : helF n.data.toList r s = 0) (h2 : ¬ repF r2 s2 p x y f = 0) : heaC n r s r2 s2 p x y f = repF r2 s2 p x y f ∧ heaV n r s r2 s2 p x y f = 0 := by
  have e : heaC n r s r2 s2 p x y f = repF r2 s2 p x y f := by simp [heaC, h]
  exact ⟨e, by unfold heaV; rw [e, if_neg h2]⟩
theorem hea_yes {n : ByteArray} {r s r2 s2 p x y f : Int} (h : helF n.data.toList r s = 0) (h2 : repF r2 s2 p x y f = 0) : heaC n r s r2 s2 p x y f = 0 ∧ heaV n r s r2 s2 p x y f = M.heardL [packH n r s, frontR r2 s2 p] := by
  have e : heaC n r s r2 s2 p x y f = 0 := by simp [heaC, h, h2]
  exact ⟨e, by unfold heaV; rw [if_pos e]⟩
theorem hea_R {n : ByteArray} {r s r2 s2 p : Int} (hn : n.size ≤ 20) : M.heardR [packH n r s, frontR r2 s2 p] = (0, M.heardL [packH n r s, frontR r2 s2 p]) := by
  unfold M.heardR
  have l1 := packH_length n r s
  have l2 := frontR_length r2 s2 p
  simp [M.longB, l1, l2]
  omega

theorem l6Heard_any (g h : Nat) (n : ByteArray) (r s r2 s2 p x y f : Int) (w : World) (A1 : At g (HL3 r s n) w) (A2 : At h (RL6 r2 s2 p x y f) w) (hh : helF n.data.toList r s = 0) (hr : repF r2 s2 p x y f = 0) :
    Calls Tryz.prog 50 #[.pointer (some ⟨g, 0, none⟩), .pointer (some ⟨h, 0, none⟩)] w fun e w' => e = .returned (.int .i64 (M.heardL [packH n r s, frontR r2 s2 p])) ∧ Below w.heap.size w w' := by
  obtain ⟨h1, h2, h3, h4, h5⟩ := repF_zero hr
  have P1 := fun w A => l6PackHello_any g r s n w A hh
  have P2 := fun w A => l6Front_any h r2 s2 p x y f w A h1 (pub_sum6 h2) (pub_sum6 h3)
  have HW := Lib.hid (And.intro (fun z hz => byte_wf (packH_byte hh z hz)) (fun z hz => byte_wf (packR_byte hr z (List.mem_append_left _ (List.mem_append_left _ hz)))))
  generalize packH n r s = z1 at *
  generalize frontR r2 s2 p = z2 at *
  have F3 := fun a len cap B w G hB hl => l2Heard_any a len cap B [z1, z2] w G hB hl
  generalize M.heardL [z1, z2] = hv at *
  go_enter Tryz.func50, Tryz.ntmps50
  go_wp2_with fail
  refine (P1 _ A1).mono ?_
  rintro e u1 ⟨a1, n1, c1, rfl, O1, b1⟩
  go_wp2_with fail
  refine (P2 _ (A2.on b1)).mono ?_
  rintro e u2 ⟨a2, n2, c2, rfl, O2, b2⟩
  have G := grid_two 22 ((Own.row O1 HW.out.1).on b2) (Own.row O2 HW.out.2)
  have B3 := bal (btr b1 b2) (.cells #[.slice a1 n1 c1, .slice a2 n2 c2] 22)
  have hle : u2.heap.size + 1 ≤ (u2.alloc (.cells #[.slice a1 n1 c1, .slice a2 n2 c2] 22)).heap.size := by simp
  clear O1 O2 b1 b2 P1 P2
  go_wp2_with fail
  generalize u2.alloc (.cells #[.slice a1 n1 c1, .slice a2 n2 c2] 22) = v2 at *
  refine (F3 _ _ _ _ _ G hle (by omega)).mono ?_
  rintro e u3 ⟨rfl, b3⟩
  have hb := btr B3 b3
  clear G
  go_wp2_with fail
  go_ret
  exact ⟨rfl, hb⟩
theorem specHeardOf_any (n : ByteArray) (r s r2 s2 p x y f : Int) (w : World) (hn : n.size ≤ maxLen) :
    Calls Tryz.prog 23 #[H3 r s n, R6 r2 s2 p x y f] w fun e w' => e = .returned (I2 (heaC n r s r2 s2 p x y f) (heaV n r s r2 s2 p x y f)) ∧ Below w.heap.size w w' := by
  have b0 := bal (bal (bal (Below.refl _ w) (.cells #[.int .i64 r, .int .i64 s, .string n] 26)) (.cells #[.int .i64 r2, .int .i64 s2, .int .i64 p, .int .i64 x, .int .i64 y, .int .i64 f] 33)) (.cells #[.int .i64 0, .int .i64 0] 49)
  have A1 := ((At.new w (HL3 r s n) 26).alloc (.cells #[.int .i64 r2, .int .i64 s2, .int .i64 p, .int .i64 x, .int .i64 y, .int .i64 f] 33)).alloc (.cells #[.int .i64 0, .int .i64 0] 49)
  have A2 := (At.new (w.alloc (.cells #[.int .i64 r, .int .i64 s, .string n] 26)) (RL6 r2 s2 p x y f) 33).alloc (.cells #[.int .i64 0, .int .i64 0] 49)
  have A3 := At.new ((w.alloc (.cells #[.int .i64 r, .int .i64 s, .string n] 26)).alloc (.cells #[.int .i64 r2, .int .i64 s2, .int .i64 p, .int .i64 x, .int .i64 y, .int .i64 f] 33)) [.int .i64 0, .int .i64 0] 49
  simp only [World.size_alloc] at A1 A2 A3
  have F1 := fun g w A => l6Hello_any g r s n w A hn
  have F2 := fun g w A => l6Reply_any g r2 s2 p x y f w A
  by_cases h1 : helF n.data.toList r s = 0
  · by_cases h2 : repF r2 s2 p x y f = 0
    · obtain ⟨e1, e2⟩ := hea_yes (x := x) (y := y) (f := f) h1 h2
      rw [e1, e2]
      have F3 := fun g h w A1 A2 => l6Heard_any g h n r s r2 s2 p x y f w A1 A2 h1 h2
      rw [h1] at F1
      rw [h2] at F2
      generalize M.heardL [packH n r s, frontR r2 s2 p] = hv at *
      clear e1 e2 h1 h2
      go_enter Tryz.func23, Tryz.ntmps23
      go_wp2_with fail
      generalize ((w.alloc (.cells #[.int .i64 r, .int .i64 s, .string n] 26)).alloc (.cells #[.int .i64 r2, .int .i64 s2, .int .i64 p, .int .i64 x, .int .i64 y, .int .i64 f] 33)).alloc (.cells #[.int .i64 0, .int .i64 0] 49) = W0 at *
      refine (F1 _ _ A1).mono ?_
      rintro e u1 ⟨rfl, b1⟩
      go_wp2_with fail
      refine (F2 _ _ (A2.on b1)).mono ?_
      rintro e u2 ⟨rfl, rfl⟩
      go_wp2_with fail
      refine (F3 _ _ _ (A1.on b1) (A2.on b1)).mono ?_
      rintro e u3 ⟨rfl, b3⟩
      have b13 := btr b1 b3
      have B3 := btr b0 b13
      clear b1 b3 F1 F2 F3
      have q0 := (A3.on b13).cell 0 _ rfl
      have q1 := (A3.on b13).cell 1 _ rfl
      have z0 := (A3.on b13).free 0 _ rfl
      have z1 := (A3.on b13).free 1 _ rfl
      clear A1 A2 A3
      go_wp2_with fail
      refine bodyPost_ret (v := I2 0 hv) (by simp [results, Tryz.results23, go_sem, q0, q1]) rfl ⟨rfl, ?_⟩
      exact (by (iterate 2 (refine bset ?_ (by dsimp only; omega) _)); exact B3)
    · obtain ⟨e1, e2⟩ := hea_rep (x := x) (y := y) (f := f) h1 h2
      rw [e1, e2]
      rw [h1] at F1
      generalize repF r2 s2 p x y f = cd at *
      clear e1 e2 h1
      go_enter Tryz.func23, Tryz.ntmps23
      go_wp2_with fail
      generalize ((w.alloc (.cells #[.int .i64 r, .int .i64 s, .string n] 26)).alloc (.cells #[.int .i64 r2, .int .i64 s2, .int .i64 p, .int .i64 x, .int .i64 y, .int .i64 f] 33)).alloc (.cells #[.int .i64 0, .int .i64 0] 49) = W0 at *
      refine (F1 _ _ A1).mono ?_
      rintro e u1 ⟨rfl, b1⟩
      go_wp2_with fail
      refine (F2 _ _ (A2.on b1)).mono ?_
      rintro e u2 ⟨rfl, rfl⟩
      have B3 := btr b0 b1
      clear F1 F2
      have q0 := (A3.on b1).cell 0 _ rfl
      have q1 := (A3.on b1).cell 1 _ rfl
      have z0 := (A3.on b1).free 0 _ rfl
      have z1 := (A3.on b1).free 1 _ rfl
      clear A1 A2 A3
      go_wp2_with fail
      refine bodyPost_ret (v := I2 cd 0) (by simp [results, Tryz.results23, go_sem, q0, q1]) rfl ⟨rfl, ?_⟩
      exact (by (iterate 2 (refine bset ?_ (by dsimp only; omega) _)); exact B3)
  · obtain ⟨e1, e2⟩ := hea_hel (r2 := r2) (s2 := s2) (p := p) (x := x) (y := y) (f := f) h1
    rw [e1, e2]
    generalize helF n.data.toList r s = cd at *
    clear e1 e2
    go_enter Tryz.func23, Tryz.ntmps23
    go_wp2_with fail
    generalize ((w.alloc (.cells #[.int .i64 r, .int .i64 s, .string n] 26)).alloc (.cells #[.int .i64 r2, .int .i64 s2, .int .i64 p, .int .i64 x, .int .i64 y, .int .i64 f] 33)).alloc (.cells #[.int .i64 0, .int .i64 0] 49) = W0 at *
    refine (F1 _ _ A1).mono ?_
    rintro e u1 ⟨rfl, b1⟩
    have B3 := btr b0 b1
    clear F1 F2
    have q0 := (A3.on b1).cell 0 _ rfl
    have q1 := (A3.on b1).cell 1 _ rfl
    have z0 := (A3.on b1).free 0 _ rfl
    have z1 := (A3.on b1).free 1 _ rfl
    clear A1 A2 A3
    go_wp2_with fail
    refine bodyPost_ret (v := I2 cd 0) (by simp [results, Tryz.results23, go_sem, q0, q1]) rfl ⟨rfl, ?_⟩
    exact (by (iterate 2 (refine bset ?_ (by dsimp only; omega) _)); exact B3)

theorem implHeardOf_any (n : ByteArray) (r s r2 s2 p x y f : Int) (w : World) (lab : Labels w) (ert : ErrT w) (hn : n.size ≤ maxLen) :
    Calls Tryz.prog 22 #[H3 r s n, R6 r2 s2 p x y f] w fun e w' => e = .returned (I2 (heaC n r s r2 s2 p x y f) (heaV n r s r2 s2 p x y f)) ∧ Below w.heap.size w w' := by
  have b0 := bal (bal (bal (Below.refl _ w) (.cells #[.int .i64 r, .int .i64 s, .string n] 26)) (.cells #[.int .i64 r2, .int .i64 s2, .int .i64 p, .int .i64 x, .int .i64 y, .int .i64 f] 33)) (.cells #[.int .i64 0, .int .i64 0] 49)
  have A1 := ((At.new w (HL3 r s n) 26).alloc (.cells #[.int .i64 r2, .int .i64 s2, .int .i64 p, .int .i64 x, .int .i64 y, .int .i64 f] 33)).alloc (.cells #[.int .i64 0, .int .i64 0] 49)
  have A2 := (At.new (w.alloc (.cells #[.int .i64 r, .int .i64 s, .string n] 26)) (RL6 r2 s2 p x y f) 33).alloc (.cells #[.int .i64 0, .int .i64 0] 49)
  have A3 := At.new ((w.alloc (.cells #[.int .i64 r, .int .i64 s, .string n] 26)).alloc (.cells #[.int .i64 r2, .int .i64 s2, .int .i64 p, .int .i64 x, .int .i64 y, .int .i64 f] 33)) [.int .i64 0, .int .i64 0] 49
  simp only [World.size_alloc] at A1 A2 A3
  have F1 := fun w => implPackHello_any r s n w hn
  have F2 := fun w E => implPackReply_any r2 s2 p x y f w E
  have L0 := lab.on b0
  have E0 := ert.on b0
  clear lab ert
  by_cases h1 : helF n.data.toList r s = 0
  · have k1 : packHL n r s = packH n r s := by simp [packHL, h1]
    rw [k1, h1] at F1
    by_cases h2 : repF r2 s2 p x y f = 0
    · obtain ⟨e1, e2⟩ := hea_yes (x := x) (y := y) (f := f) h1 h2
      rw [e1, e2]
      have k2 : packRL r2 s2 p x y f = packR r2 s2 p x y f := by simp [packRL, h2]
      rw [k2, h2] at F2
      have F3 := fun a len cap B zss w L G hB => implTranscript_any a len cap B zss w L G hB
      have hR := hea_R (r := r) (s := s) (r2 := r2) (s2 := s2) (p := p) (hel_size h1)
      have HW := Lib.hid (And.intro (fun z hz => byte_wf (packH_byte h1 z hz)) (fun z hz => byte_wf (packR_byte h2 z hz)))
      have ht : (packR r2 s2 p x y f).take 7 = frontR r2 s2 p := rfl
      have hl : (packR r2 s2 p x y f).length = 13 := rfl
      generalize M.heardL [packH n r s, frontR r2 s2 p] = hv at *
      generalize packR r2 s2 p x y f = z2 at *
      generalize frontR r2 s2 p = z3 at *
      generalize packH n r s = z1 at *
      clear e1 e2 h1 h2 k1 k2
      go_enter Tryz.func22, Tryz.ntmps22
      go_wp2_with fail
      generalize ((w.alloc (.cells #[.int .i64 r, .int .i64 s, .string n] 26)).alloc (.cells #[.int .i64 r2, .int .i64 s2, .int .i64 p, .int .i64 x, .int .i64 y, .int .i64 f] 33)).alloc (.cells #[.int .i64 0, .int .i64 0] 49) = W0 at *
      refine (F1 _).mono ?_
      rintro e u1 ⟨a1, n1, c1, rfl, O1, b1⟩
      have D1 := (At.new u1 [.int .i64 0, .slice a1 n1 c1] 39)
      have b2 := bal b1 (.cells #[.int .i64 0, .slice a1 n1 c1] 39)
      have R1 := (Own.row O1 HW.out.1).on (bal (Below.refl _ u1) (.cells #[.int .i64 0, .slice a1 n1 c1] 39))
      have B2 := btr b0 b2
      have A2' := A2.on b2
      have A3' := A3.on b2
      have E2 := E0.on b2
      have L2 := L0.on b2
      have lt1 : w.heap.size + 2 < u1.heap.size := (A3.on b1).lt (by simp)
      have d0 := A2'.cell 0 _ rfl
      have d1 := A2'.cell 1 _ rfl
      have d2 := A2'.cell 2 _ rfl
      have d3 := A2'.cell 3 _ rfl
      have d4 := A2'.cell 4 _ rfl
      have d5 := A2'.cell 5 _ rfl
      clear O1 b1 b0 b2 A1 A2 A3 E0 L0 F1
      go_wp2_with fail
      generalize u1.alloc (.cells #[.int .i64 0, .slice a1 n1 c1] 39) = v1 at *
      refine (F2 _ E2).mono ?_
      rintro e u2 ⟨a2, n2, c2, rfl, O2, b3⟩
      have l2 : n2 = 13 := (OwnK.len O2).trans hl
      subst l2
      have hc2 : 13 ≤ c2 ∧ c2 ≤ maxLen := by
        have := Own.row O2 HW.out.2
        exact ⟨this.fits, this.most⟩
      obtain ⟨g2, rfl⟩ : ∃ g, a2 = some ⟨g, 0, none⟩ := by
        rcases O2.2 with ⟨e, hz⟩ | ⟨g, cp, e, _⟩
        · rw [hl] at hz; omega
        · injection e with e1; exact ⟨g, e1⟩
      obtain ⟨hc2, hc3⟩ := hc2
      unfold maxLen at hc3
      have D2 := (At.new u2 [.int .i64 0, .slice (some ⟨g2, 0, none⟩) 13 c2] 39)
      have b4 := bal b3 (.cells #[.int .i64 0, .slice (some ⟨g2, 0, none⟩) 13 c2] 39)
      have R2 := ((Own.row O2 HW.out.2).upto6 7 (by omega)).on (bal (Below.refl _ u2) (.cells #[.int .i64 0, .slice (some ⟨g2, 0, none⟩) 13 c2] 39))
      rw [ht] at R2
      have R1' := R1.on b4
      have B4 := btr B2 b4
      have L4 := L2.on b4
      have A4 := A3'.on b4
      have lt2 : u1.heap.size < u2.heap.size := (D1.on b3).lt (by simp)
      have D1' := D1.on b4
      have k0 := D1'.cell 0 _ rfl
      have k1 := D1'.cell 1 _ rfl
      clear O2 b3 b4 B2 A2' A3' E2 L2 R1 F2 d0 d1 d2 d3 d4 d5
      go_wp2_with fail
      generalize u2.alloc (.cells #[.int .i64 0, .slice (some ⟨g2, 0, none⟩) 13 c2] 39) = v2 at *
      have S0 : Hold2 w u1.heap.size [.int .i64 0, .slice a1 n1 c1] u2.heap.size [.int .i64 0, .slice (some ⟨g2, 0, none⟩) 13 c2] v2.drew := ⟨B4.drew, D1'.on (bdrew v2), D2.on (bdrew v2)⟩
      have RA := R1'.on (bdrew v2)
      have RB := R2.on (bdrew v2)
      have AA := A4.on (bdrew v2)
      have LL := L4.on (bdrew v2)
      refine wp_region_line (Hold2 w u1.heap.size [.int .i64 0, .slice a1 n1 c1] u2.heap.size [.int .i64 0, .slice (some ⟨g2, 0, none⟩) 13 c2]) [(0, true), (1, true), (2, true), (3, true), (4, true), (5, false), (6, false), (7, false)] (by kernel_rfl) (by kernel_rfl) (fun _ _ d _ _ h => by cases d <;> exact h) S0 ?_
      have hst := S0
      have inst : Nonempty (Of (Hold2 w u1.heap.size [.int .i64 0, .slice a1 n1 c1] u2.heap.size [.int .i64 0, .slice (some ⟨g2, 0, none⟩) 13 c2])) := ⟨⟨_, hst⟩⟩
      have q1 := hold2_one (W := w) (g := u1.heap.size) (h := u2.heap.size) (cs := [.int .i64 0, .slice a1 n1 c1]) (ds := [.int .i64 0, .slice (some ⟨g2, 0, none⟩) 13 c2]) 1 _ rfl
      have q2 := hold2_two (W := w) (g := u1.heap.size) (h := u2.heap.size) (cs := [.int .i64 0, .slice a1 n1 c1]) (ds := [.int .i64 0, .slice (some ⟨g2, 0, none⟩) 13 c2]) 1 _ rfl
      clear S0 R1' R2 A4 L4 B4 D1' D2 D1 k0 k1
      generalize v2.drew = V at *
      iterate 5 (refine line_read rfl (by kernel_rfl) (fun K hK => ?_); go_big_quiet_op; refine hK _ ?_; clear hK K)
      clear q1 q2
      refine line_alone rfl (by kernel_rfl) (fun K hK => ?_)
      go_big_op
      refine hK _ _ (hst.on (bal (Below.refl _ V) _)) ?_
      clear hK K
      have G := grid_two 22 RA RB
      have st2 := hst.on (bal (Below.refl _ V) (.cells #[.slice a1 n1 c1, .slice (some ⟨g2, 0, none⟩) 7 c2] 22))
      have A5 := AA.alloc (.cells #[.slice a1 n1 c1, .slice (some ⟨g2, 0, none⟩) 7 c2] 22)
      have L5 := LL.on (bal (Below.refl _ V) (.cells #[.slice a1 n1 c1, .slice (some ⟨g2, 0, none⟩) 7 c2] 22))
      have hle : V.heap.size + 1 ≤ (V.alloc (.cells #[.slice a1 n1 c1, .slice (some ⟨g2, 0, none⟩) 7 c2] 22)).heap.size := by simp
      generalize V.alloc (.cells #[.slice a1 n1 c1, .slice (some ⟨g2, 0, none⟩) 7 c2] 22) = V2 at *
      have T := F3 _ _ _ _ _ _ L5 G hle
      rw [hR] at T
      refine line_alone rfl (by kernel_rfl) (fun K hK => ?_)
      refine call_any (args := #[.slice (some ⟨V.heap.size, 0, none⟩) 2 2]) rfl (by kernel_rfl) (by kernel_rfl) T ?_
      rintro e V3 ⟨rfl, b5⟩
      have st3 := st2.on b5
      have A6 := A5.on b5
      refine ⟨_, rfl, hK _ _ st3 ?_⟩
      clear hK K st2 A5 L5 G T b5
      simp only [Act.put, List.setIfInBounds_toArray, List.set_cons_zero, List.set_cons_succ]
      have q0 := A6.cell 0 _ rfl
      have q1 := A6.cell 1 _ rfl
      have z0 := A6.free 0 _ rfl
      have z1 := A6.free 1 _ rfl
      refine line_alone rfl (by kernel_rfl) (fun K hK => ?_)
      go_big_op
      refine hK _ _ ((by (iterate 2 (refine Hold2.setB ?_ (by dsimp only; omega) (by dsimp only; omega) (by dsimp only; omega) _)); exact st3)) ?_
      clear hK K
      refine line_nil ?_
      have HB := Lib.hid st3.bel
      clear st3 inst A6 hst
      go_wp2_with fail
      refine bodyPost_ret (v := I2 0 hv) (by simp [results, Tryz.results22, go_sem, q0, q1]) rfl ⟨rfl, ?_⟩
      exact (by (iterate 2 (refine bset ?_ (by dsimp only; omega) _)); exact HB.out)
    · obtain ⟨e1, e2⟩ := hea_rep (x := x) (y := y) (f := f) h1 h2
      rw [e1, e2]
      generalize repF r2 s2 p x y f = cd at *
      generalize packRL r2 s2 p x y f = z2 at *
      generalize packH n r s = z1 at *
      clear e1 e2 h1 k1
      go_enter Tryz.func22, Tryz.ntmps22
      go_wp2_with fail
      generalize ((w.alloc (.cells #[.int .i64 r, .int .i64 s, .string n] 26)).alloc (.cells #[.int .i64 r2, .int .i64 s2, .int .i64 p, .int .i64 x, .int .i64 y, .int .i64 f] 33)).alloc (.cells #[.int .i64 0, .int .i64 0] 49) = W0 at *
      refine (F1 _).mono ?_
      rintro e u1 ⟨a1, n1, c1, rfl, O1, b1⟩
      have D1 := (At.new u1 [.int .i64 0, .slice a1 n1 c1] 39)
      have b2 := bal b1 (.cells #[.int .i64 0, .slice a1 n1 c1] 39)
      have B2 := btr b0 b2
      have A2' := A2.on b2
      have A3' := A3.on b2
      have E2 := E0.on b2
      have lt1 : w.heap.size + 2 < u1.heap.size := (A3.on b1).lt (by simp)
      have d0 := A2'.cell 0 _ rfl
      have d1 := A2'.cell 1 _ rfl
      have d2 := A2'.cell 2 _ rfl
      have d3 := A2'.cell 3 _ rfl
      have d4 := A2'.cell 4 _ rfl
      have d5 := A2'.cell 5 _ rfl
      clear O1 b1 b0 b2 A1 A2 A3 E0 L0 F1
      go_wp2_with fail
      generalize u1.alloc (.cells #[.int .i64 0, .slice a1 n1 c1] 39) = v1 at *
      refine (F2 _ E2).mono ?_
      rintro e u2 ⟨a2, n2, c2, rfl, O2, b3⟩
      have A4 := (((A3'.on b3).set 0 (.int .i64 cd)).set 1 (.int .i64 0)).alloc (.cells #[.int .i64 cd, .slice a2 n2 c2] 39)
      have lt2 : w.heap.size + 2 < u2.heap.size := (A3'.on b3).lt (by simp)
      have k0 := (A3'.on b3).cell 0 _ rfl
      have k1 := (A3'.on b3).cell 1 _ rfl
      have z0 := (A3'.on b3).free 0 _ rfl
      have z1 := (A3'.on b3).free 1 _ rfl
      have q0 := A4.cell 0 _ rfl
      have q1 := A4.cell 1 _ rfl
      have HB := Lib.hid (bal (bset (bset (btr B2 b3) (p := ⟨w.heap.size + 2, 0, none⟩) (by show w.heap.size ≤ w.heap.size + 2; omega) (.int .i64 cd)) (p := ⟨w.heap.size + 2, 1, none⟩) (by show w.heap.size ≤ w.heap.size + 2; omega) (.int .i64 0)) (.cells #[.int .i64 cd, .slice a2 n2 c2] 39))
      clear O2 b3 B2 A2' A3' A4 E2 F2 D1
      go_wp2_with fail
      refine bodyPost_ret (v := I2 cd 0) (by simp [results, Tryz.results22, go_sem, q0, q1]) rfl ⟨rfl, HB.out⟩
  · obtain ⟨e1, e2⟩ := hea_hel (r2 := r2) (s2 := s2) (p := p) (x := x) (y := y) (f := f) h1
    rw [e1, e2]
    generalize helF n.data.toList r s = cd at *
    generalize packHL n r s = z1 at *
    clear e1 e2
    go_enter Tryz.func22, Tryz.ntmps22
    go_wp2_with fail
    generalize ((w.alloc (.cells #[.int .i64 r, .int .i64 s, .string n] 26)).alloc (.cells #[.int .i64 r2, .int .i64 s2, .int .i64 p, .int .i64 x, .int .i64 y, .int .i64 f] 33)).alloc (.cells #[.int .i64 0, .int .i64 0] 49) = W0 at *
    refine (F1 _).mono ?_
    rintro e u1 ⟨a1, n1, c1, rfl, O1, b1⟩
    have A4 := (((A3.on b1).set 0 (.int .i64 cd)).set 1 (.int .i64 0)).alloc (.cells #[.int .i64 cd, .slice a1 n1 c1] 39)
    have lt2 : w.heap.size + 2 < u1.heap.size := (A3.on b1).lt (by simp)
    have k0 := (A3.on b1).cell 0 _ rfl
    have k1 := (A3.on b1).cell 1 _ rfl
    have z0 := (A3.on b1).free 0 _ rfl
    have z1 := (A3.on b1).free 1 _ rfl
    have q0 := A4.cell 0 _ rfl
    have q1 := A4.cell 1 _ rfl
    have HB := Lib.hid (bal (bset (bset (btr b0 b1) (p := ⟨w.heap.size + 2, 0, none⟩) (by show w.heap.size ≤ w.heap.size + 2; omega) (.int .i64 cd)) (p := ⟨w.heap.size + 2, 1, none⟩) (by show w.heap.size ≤ w.heap.size + 2; omega) (.int .i64 0)) (.cells #[.int .i64 cd, .slice a1 n1 c1] 39))
    clear O1 b1 b0 A1 A2 A3 A4 E0 L0 F1 F2
    go_wp2_with fail
    refine bodyPost_ret (v := I2 cd 0) (by simp [results, Tryz.results22, go_sem, q0, q1]) rfl ⟨rfl, HB.out⟩
end Go.Proofs.YtepailfhagaboaaGreatDoor
namespace Go.Proofs.YtepailfhagaboaaGreatDoor
open Go.RowKit
set_option maxRecDepth 100000
set_option linter.unusedVariables false

def DrawnD (w : World) (r : Ending) (w' : World) : Prop := ∃ a n c zs, r = .returned (.slice a n c) ∧ n ≤ 100 ∧ Row .u8 w' w'.heap.size a n c zs ∧ Below w.heap.size w w'
def DrawnH (w : World) (e : Ending) (w' : World) : Prop := ∃ (r s : Int) (n : ByteArray), e = .returned (H3 r s n) ∧ n.size ≤ 21 ∧ Below w.heap.size w w'
def DrawnR (w : World) (e : Ending) (w' : World) : Prop := ∃ (r s t x y f : Int), e = .returned (R6 r s t x y f) ∧ Below w.heap.size w w'
def DrawnHR (w : World) (e : Ending) (w' : World) : Prop := ∃ (r s : Int) (n : ByteArray) (r2 s2 t x y f : Int), e = .returned (.tuple #[H3 r s n, R6 r2 s2 t x y f]) ∧ n.size ≤ 21 ∧ Below w.heap.size w w'

set_option maxHeartbeats 1000000 in
theorem DrawReadHello_any {a : Option Addr} {len cap : Nat} {zs : List Int} {w : World} (hR : Row .u8 w w.heap.size a len cap zs) :
    Calls Tryz.prog 6 #[.slice a len cap] w (DrawnD w) := by
  go_enter Tryz.func6, Tryz.ntmps6
  go_wp2_with fail
  refine (dsource hR).mono ?_
  rintro r w1 ⟨rfl, D1⟩
  go_wp2_with fail
  refine (dl6DrawHello D1).mono ?_
  rintro r w5 ⟨u, v, n, p, hf, hp, rfl, D4, g4⟩
  have D5 := D4.alloc (.cells #[.int .i64 u, .int .i64 v, .string n] 26)
  have A5 := At.new w5 (HL3 u v n) 26
  have P1 := fun g w hA => l6PackHello_any g u v n w hA hf
  obtain ⟨m, hm⟩ : ∃ m, m = n.size := ⟨_, rfl⟩
  have hm20 : m ≤ 20 := by rw [hm]; exact hel_size hf
  have hpl : (packH n u v).length = m + 5 := by rw [packH_length]; omega
  have hpw := fun z hz => byte_wf (packH_byte hf z hz)
  generalize packH n u v = ps at *
  have HPL := Lib.hid hpl
  have HPW := Lib.hid hpw
  clear D1 D4 g4 hpl hpw hf hm
  go_wp2_with fail
  generalize w5.alloc (.cells #[.int .i64 u, .int .i64 v, .string n] 26) = v5 at *
  refine (P1 _ _ A5).mono ?_
  rintro r w6 ⟨a6, n6, c6, rfl, O6, b6⟩
  have l6 : n6 = m + 5 := O6.len.trans HPL.out
  subst l6
  have D6 := D5.below b6
  have lt5 := D5.src.lt
  obtain ⟨g, rfl⟩ : ∃ g, a6 = some ⟨g, 0, none⟩ := by
    rcases O6.2 with ⟨e, hz⟩ | ⟨g, cp, e, _⟩
    · rw [HPL.out] at hz; omega
    · injection e with e1; exact ⟨g, e1⟩
  have hgw : w.heap.size < g := by have := (O6.lt g rfl).1; omega
  have hc6 : m + 5 ≤ c6 ∧ c6 ≤ maxLen := by
    rcases O6.2 with ⟨e, hz⟩ | ⟨g', cp, e, _, _, h1, h2, _⟩
    · cases e
    · injection e with e1 e2 e3; exact ⟨by rw [← e3] at h1; omega, by rw [e3]; exact h2⟩
  obtain ⟨hc1, hc2⟩ := hc6
  unfold maxLen at hc2
  have Q6 : OwnK .u8 w6 (w.heap.size + 1) (.slice (some ⟨g, 0, none⟩) (m + 5) c6) ps := O6.less (by omega)
  clear P1 A5 D5 O6 b6
  go_wp2_with fail
  refine (dnext 5 D6 (by omega)).mono ?_
  rintro r w7 ⟨sw, t0, t1, rfl, D7, O7⟩
  have Q7 : OwnK .u8 w7 (w.heap.size + 1) (.slice (some ⟨g, 0, none⟩) (m + 5) c6) ps := Own.only Q6 O7 (by omega)
  clear D6 Q6 O7 t1
  by_cases e0 : sw = 0
  · subst e0
    go_wp2_with fail
    refine (dnext _ D7 (by omega)).mono ?_
    rintro r w8 ⟨i, i0, i1, rfl, D8, O8⟩
    have i2 : i < m + 5 := by omega
    obtain ⟨i, rfl⟩ := Int.eq_ofNat_of_zero_le i0
    have i3 : i < m + 5 := by omega
    have Q8 : OwnK .u8 w8 (w.heap.size + 1) (.slice (some ⟨g, 0, none⟩) (m + 5) c6) ps := Own.only Q7 O8 (by omega)
    clear D7 Q7 O8 i0 i1
    go_wp2_with fail
    refine (dpick [0, 255, 65, 46] 4 D8 (by omega) (by omega) (by omega) rfl 2).mono ?_
    rintro r w9 ⟨x, hx, rfl, D9, O9⟩
    have hx' : 0 ≤ x ∧ x ≤ 255 := by simp at hx; omega
    obtain ⟨x0, x1⟩ := hx'
    have Q9 : OwnK .u8 w9 (w.heap.size + 1) (.slice (some ⟨g, 0, none⟩) (m + 5) c6) ps := Own.only (Own.alloc Q8 (.cells #[.int .i64 0, .int .i64 255, .int .i64 65, .int .i64 46] 2)) O9 (by omega)
    rcases Q9.2 with ⟨e, h0⟩ | ⟨g', c', e, hB8, hg8, hn8, hm8, hcell, hroom⟩
    · cases e
    injection e with e1 e2 e3
    injection e1 with e1
    injection e1 with e1 _ _
    subst e1
    subst e3
    obtain ⟨y, hy⟩ := Option.isSome_iff_exists.1 (hroom i (by omega)).1
    have hf := (hroom i (by omega)).2
    have Q10 := Q9.put (i := i) (m := x) (by rw [HPL.out]; exact i3)
    have b10 := bset D9.bel (p := ⟨g, i, none⟩) (by show w.heap.size ≤ g; omega) (.int .u8 x)
    have hw10 : ∀ z ∈ ps.set i x, (Lit.int .u8 z).wf = true := fun z hz => by
      rcases List.mem_or_eq_of_mem_set hz with h | h
      · exact HPW.out z h
      · subst h; exact u8_wf x0 (by omega)
    have F := Lib.hid (And.intro (Own.row Q10 hw10) b10)
    clear hx D8 D9 Q8 Q9 O9 hcell hroom e2 Q10 b10 hw10
    go_wp2_with fail
    go_ret
    exact ⟨_, _, _, _, rfl, by omega, F.out.1, F.out.2⟩
  by_cases e1 : sw = 1
  · subst e1
    go_wp2_with fail
    refine (dnext _ D7 (by omega)).mono ?_
    rintro r w8 ⟨i, i0, i1, rfl, D8, O8⟩
    obtain ⟨i, rfl⟩ := Int.eq_ofNat_of_zero_le i0
    have i3 : i < m + 5 := by omega
    have Q8 : OwnK .u8 w8 (w.heap.size + 1) (.slice (some ⟨g, 0, none⟩) (m + 5) c6) ps := Own.only Q7 O8 (by omega)
    have F := Lib.hid (And.intro ((Own.row Q8 HPW.out).upto6 i (by omega)) D8.bel)
    clear D7 Q7 O8 D8 Q8 i1
    go_wp2_with fail
    go_ret
    exact ⟨_, _, _, _, rfl, by omega, F.out.1, F.out.2⟩
  · have n0 : (sw == 0) = false := by rw [beq_eq_false_iff_ne]; exact e0
    have n1 : (sw == 1) = false := by rw [beq_eq_false_iff_ne]; exact e1
    have F := Lib.hid (And.intro (Own.row Q7 HPW.out) D7.bel)
    clear D7 Q7 e0 e1
    go_wp2_with fail
    go_ret
    exact ⟨_, _, _, _, rfl, by omega, F.out.1, F.out.2⟩

set_option maxHeartbeats 1000000 in
theorem DrawReadReply_any {a : Option Addr} {len cap : Nat} {zs : List Int} {w : World} (hR : Row .u8 w w.heap.size a len cap zs) :
    Calls Tryz.prog 8 #[.slice a len cap] w (DrawnD w) := by
  go_enter Tryz.func8, Tryz.ntmps8
  go_wp2_with fail
  refine (dsource hR).mono ?_
  rintro r w1 ⟨rfl, D1⟩
  go_wp2_with fail
  refine (dl6DrawReply D1 (by omega)).mono ?_
  rintro r w5 ⟨r1, s1, t1, x1, y1, f1, p, hf, hp, rfl, D4, g4⟩
  have D5 := D4.alloc (.cells #[.int .i64 r1, .int .i64 s1, .int .i64 t1, .int .i64 x1, .int .i64 y1, .int .i64 f1] 33)
  have A5 := At.new w5 (RL6 r1 s1 t1 x1 y1 f1) 33
  have P1 := fun g w hA => l6PackReply_any g r1 s1 t1 x1 y1 f1 w hA hf
  have hpl : (packR r1 s1 t1 x1 y1 f1).length = 13 := rfl
  have hpw := fun z hz => byte_wf (packR_byte hf z hz)
  generalize packR r1 s1 t1 x1 y1 f1 = ps at *
  have HPL := Lib.hid hpl
  have HPW := Lib.hid hpw
  clear D1 D4 g4 hpl hpw hf
  go_wp2_with fail
  generalize w5.alloc (.cells #[.int .i64 r1, .int .i64 s1, .int .i64 t1, .int .i64 x1, .int .i64 y1, .int .i64 f1] 33) = v5 at *
  refine (P1 _ _ A5).mono ?_
  rintro r w6 ⟨a6, n6, c6, rfl, O6, b6⟩
  have l6 : n6 = 13 := O6.len.trans HPL.out
  subst l6
  have D6 := D5.below b6
  have lt5 := D5.src.lt
  obtain ⟨g, rfl⟩ : ∃ g, a6 = some ⟨g, 0, none⟩ := by
    rcases O6.2 with ⟨e, hz⟩ | ⟨g, cp, e, _⟩
    · rw [HPL.out] at hz; omega
    · injection e with e1; exact ⟨g, e1⟩
  have hgw : w.heap.size < g := by have := (O6.lt g rfl).1; omega
  have hc6 : 13 ≤ c6 ∧ c6 ≤ maxLen := by
    rcases O6.2 with ⟨e, hz⟩ | ⟨g', cp, e, _, _, h1, h2, _⟩
    · cases e
    · injection e with e1 e2 e3; exact ⟨by rw [← e3] at h1; omega, by rw [e3]; exact h2⟩
  obtain ⟨hc1, hc2⟩ := hc6
  unfold maxLen at hc2
  have Q6 : OwnK .u8 w6 (w.heap.size + 1) (.slice (some ⟨g, 0, none⟩) (13) c6) ps := O6.less (by omega)
  clear P1 A5 D5 O6 b6
  go_wp2_with fail
  refine (dnext 5 D6 (by omega)).mono ?_
  rintro r w7 ⟨sw, t0, t9, rfl, D7, O7⟩
  have Q7 : OwnK .u8 w7 (w.heap.size + 1) (.slice (some ⟨g, 0, none⟩) (13) c6) ps := Own.only Q6 O7 (by omega)
  clear D6 Q6 O7 t9
  by_cases e0 : sw = 0
  · subst e0
    go_wp2_with fail
    refine (dnext _ D7 (by omega)).mono ?_
    rintro r w8 ⟨i, i0, i1, rfl, D8, O8⟩
    have i2 : i < 13 := by omega
    obtain ⟨i, rfl⟩ := Int.eq_ofNat_of_zero_le i0
    have i3 : i < 13 := by omega
    have Q8 : OwnK .u8 w8 (w.heap.size + 1) (.slice (some ⟨g, 0, none⟩) (13) c6) ps := Own.only Q7 O8 (by omega)
    clear D7 Q7 O8 i0 i1
    go_wp2_with fail
    refine (dpick [0, 255, 11] 3 D8 (by omega) (by omega) (by omega) rfl 2).mono ?_
    rintro r w9 ⟨x, hx, rfl, D9, O9⟩
    have hx' : 0 ≤ x ∧ x ≤ 255 := by simp at hx; omega
    obtain ⟨x0, x1⟩ := hx'
    have Q9 : OwnK .u8 w9 (w.heap.size + 1) (.slice (some ⟨g, 0, none⟩) (13) c6) ps := Own.only (Own.alloc Q8 (.cells #[.int .i64 0, .int .i64 255, .int .i64 11] 2)) O9 (by omega)
    rcases Q9.2 with ⟨e, h0⟩ | ⟨g', c', e, hB8, hg8, hn8, hm8, hcell, hroom⟩
    · cases e
    injection e with e1 e2 e3
    injection e1 with e1
    injection e1 with e1 _ _
    subst e1
    subst e3
    obtain ⟨y, hy⟩ := Option.isSome_iff_exists.1 (hroom i (by omega)).1
    have hf := (hroom i (by omega)).2
    have Q10 := Q9.put (i := i) (m := x) (by rw [HPL.out]; exact i3)
    have b10 := bset D9.bel (p := ⟨g, i, none⟩) (by show w.heap.size ≤ g; omega) (.int .u8 x)
    have hw10 : ∀ z ∈ ps.set i x, (Lit.int .u8 z).wf = true := fun z hz => by
      rcases List.mem_or_eq_of_mem_set hz with h | h
      · exact HPW.out z h
      · subst h; exact u8_wf x0 (by omega)
    have F := Lib.hid (And.intro (Own.row Q10 hw10) b10)
    clear hx D8 D9 Q8 Q9 O9 hcell hroom e2 Q10 b10 hw10
    go_wp2_with fail
    go_ret
    exact ⟨_, _, _, _, rfl, by omega, F.out.1, F.out.2⟩
  by_cases e1 : sw = 1
  · subst e1
    obtain ⟨i0, hi0, hz0, hz1, hz2⟩ := info_parts u8_info
    have Q8 := Own.alloc Q7 (.cells #[.int .u8 1] 5)
    have hle : w.heap.size + 1 ≤ (w7.alloc (.cells #[.int .u8 1] 5)).heap.size := by have := D7.src.lt; simp; omega
    have b8 := bal D7.bel (.cells #[.int .u8 1] 5)
    have hsrc := src_new (P := Tryz.prog) w7 [.int .u8 1] 1 1 5 22 5 Tryz.underlying22 rfl (ints_oneCell .u8 [1])
    have hps : ps.length = 13 := HPL.out
    go_wp2_with (at_builtin; refine wpList_append_src _ rfl (.tmp 25) (.tmp 26) 22 22 rfl (w.heap.size + 1) 5 i0 (.int .u8 0) 1 1 Tryz.underlying22 hi0 hz0 hz1 hz2 rfl _ _ _ rfl Q8 _ 1 _ rfl hsrc (by rw [hps]; simp only [maxLen]; omega) (by rw [hps]; omega) hle ?_; intro v9 w9 hown hgrow hat)
    have b9 : Below w.heap.size w w9 := b8.grown hgrow (by omega) (fun k e => by have := (Own.lt Q8 k e).1; omega)
    have O9 : OwnK .u8 w9 (w.heap.size + 1) v9 (ps ++ [1]) := by
      unfold OwnK
      rw [List.length_append, List.map_append]
      exact hown
    obtain ⟨a9, c9, hv9, -⟩ := O9.form
    have hl9 : (ps ++ [1]).length = 14 := by simp [hps]
    rw [hl9] at hv9
    subst hv9
    have F := Lib.hid (And.intro (Own.row O9 (fun z hz => by
      rcases List.mem_append.1 hz with h | h
      · exact HPW.out z h
      · simp at h; subst h; exact u8_wf (by omega) (by omega))) b9)
    clear hown hgrow hat O9 b9 Q8 b8 hsrc D7 Q7
    go_wp2_with fail
    go_ret
    exact ⟨_, _, _, _, rfl, by omega, F.out.1, F.out.2⟩
  · have n0 : (sw == 0) = false := by rw [beq_eq_false_iff_ne]; exact e0
    have n1 : (sw == 1) = false := by rw [beq_eq_false_iff_ne]; exact e1
    have F := Lib.hid (And.intro (Own.row Q7 HPW.out) D7.bel)
    clear D7 Q7 e0 e1
    go_wp2_with fail
    go_ret
    exact ⟨_, _, _, _, rfl, by omega, F.out.1, F.out.2⟩


theorem DrawPackHello_any {a : Option Addr} {len cap : Nat} {zs : List Int} {w : World} (hR : Row .u8 w w.heap.size a len cap zs) :
    Calls Tryz.prog 10 #[.slice a len cap] w (DrawnH w) := by
  have A0 := At.new w (HL3 0 0 { data := #[] }) 26
  have b0 := bal (Below.refl _ w) (.cells #[.int .i64 0, .int .i64 0, .string { data := #[] }] 26)
  have R0 := hR.on b0
  clear hR
  go_enter Tryz.func10, Tryz.ntmps10
  go_wp2_with fail
  generalize w.alloc (.cells #[.int .i64 0, .int .i64 0, .string { data := #[] }] 26) = W0 at *
  refine (dsource R0).mono ?_
  rintro e w1 ⟨rfl, D⟩
  go_wp2_with fail
  refine (dl6BentHello D).mono ?_
  rintro e w2 ⟨r, s, n, p, hn, hp, rfl, D2, g2⟩
  have q0 := (A0.on D2.bel).cell 0 _ rfl
  have q1 := (A0.on D2.bel).cell 1 _ rfl
  have q2 := (A0.on D2.bel).cell 2 _ rfl
  have z0 := (A0.on D2.bel).free 0 _ rfl
  have z1 := (A0.on D2.bel).free 1 _ rfl
  have z2 := (A0.on D2.bel).free 2 _ rfl
  have HB := Lib.hid (btr b0 D2.bel)
  clear D D2 g2 A0 R0 b0
  go_wp2_with fail
  refine bodyPost_ret (v := H3 r s n) (by simp [results, Tryz.results10, go_sem, q0, q1, q2]) rfl ?_
  exact ⟨r, s, n, rfl, hn, (by (iterate 3 (refine bset ?_ (by dsimp only; omega) _)); exact HB.out)⟩
theorem DrawPackReply_any {a : Option Addr} {len cap : Nat} {zs : List Int} {w : World} (hR : Row .u8 w w.heap.size a len cap zs) :
    Calls Tryz.prog 12 #[.slice a len cap] w (DrawnR w) := by
  have A0 := At.new w (RL6 0 0 0 0 0 0) 33
  have b0 := bal (Below.refl _ w) (.cells #[.int .i64 0, .int .i64 0, .int .i64 0, .int .i64 0, .int .i64 0, .int .i64 0] 33)
  have R0 := hR.on b0
  clear hR
  go_enter Tryz.func12, Tryz.ntmps12
  go_wp2_with fail
  generalize w.alloc (.cells #[.int .i64 0, .int .i64 0, .int .i64 0, .int .i64 0, .int .i64 0, .int .i64 0] 33) = W0 at *
  refine (dsource R0).mono ?_
  rintro e w1 ⟨rfl, D⟩
  go_wp2_with fail
  refine (dl6BentReply D (by omega)).mono ?_
  rintro e w2 ⟨r, s, t, x, y, f, p, -, hp, rfl, D2, g2⟩
  have q0 := (A0.on D2.bel).cell 0 _ rfl
  have q1 := (A0.on D2.bel).cell 1 _ rfl
  have q2 := (A0.on D2.bel).cell 2 _ rfl
  have q3 := (A0.on D2.bel).cell 3 _ rfl
  have q4 := (A0.on D2.bel).cell 4 _ rfl
  have q5 := (A0.on D2.bel).cell 5 _ rfl
  have z0 := (A0.on D2.bel).free 0 _ rfl
  have z1 := (A0.on D2.bel).free 1 _ rfl
  have z2 := (A0.on D2.bel).free 2 _ rfl
  have z3 := (A0.on D2.bel).free 3 _ rfl
  have z4 := (A0.on D2.bel).free 4 _ rfl
  have z5 := (A0.on D2.bel).free 5 _ rfl
  have HB := Lib.hid (btr b0 D2.bel)
  clear D D2 g2 A0 R0 b0
  go_wp2_with fail
  refine bodyPost_ret (v := R6 r s t x y f) (by simp [results, Tryz.results12, go_sem, q0, q1, q2, q3, q4, q5]) rfl ?_
  exact ⟨r, s, t, x, y, f, rfl, (by (iterate 6 (refine bset ?_ (by dsimp only; omega) _)); exact HB.out)⟩
theorem DrawHeardOf_any {a : Option Addr} {len cap : Nat} {zs : List Int} {w : World} (hR : Row .u8 w w.heap.size a len cap zs) :
    Calls Tryz.prog 21 #[.slice a len cap] w (DrawnHR w) := by
  have A0 := (At.new w (HL3 0 0 { data := #[] }) 26).alloc (.cells #[.int .i64 0, .int .i64 0, .int .i64 0, .int .i64 0, .int .i64 0, .int .i64 0] 33)
  have A1 := At.new (w.alloc (.cells #[.int .i64 0, .int .i64 0, .string { data := #[] }] 26)) (RL6 0 0 0 0 0 0) 33
  have b0 := bal (bal (Below.refl _ w) (.cells #[.int .i64 0, .int .i64 0, .string { data := #[] }] 26)) (.cells #[.int .i64 0, .int .i64 0, .int .i64 0, .int .i64 0, .int .i64 0, .int .i64 0] 33)
  simp only [World.size_alloc] at A0 A1
  have R0 := hR.on b0
  clear hR
  go_enter Tryz.func21, Tryz.ntmps21
  go_wp2_with fail
  generalize (w.alloc (.cells #[.int .i64 0, .int .i64 0, .string { data := #[] }] 26)).alloc (.cells #[.int .i64 0, .int .i64 0, .int .i64 0, .int .i64 0, .int .i64 0, .int .i64 0] 33) = W0 at *
  refine (dsource R0).mono ?_
  rintro e w1 ⟨rfl, D⟩
  go_wp2_with fail
  refine (dl6BentHello D).mono ?_
  rintro e w2 ⟨r, s, n, p, hn, hp, rfl, D2, g2⟩
  clear D g2
  go_wp2_with fail
  refine (dl6BentReply D2 (by omega)).mono ?_
  rintro e w3 ⟨r2, s2, t, x, y, f, p2, -, hp2, rfl, D3, g3⟩
  have q0 := (A0.on D3.bel).cell 0 _ rfl
  have q1 := (A0.on D3.bel).cell 1 _ rfl
  have q2 := (A0.on D3.bel).cell 2 _ rfl
  have z0 := (A0.on D3.bel).free 0 _ rfl
  have z1 := (A0.on D3.bel).free 1 _ rfl
  have z2 := (A0.on D3.bel).free 2 _ rfl
  have k0 := (A1.on D3.bel).cell 0 _ rfl
  have k1 := (A1.on D3.bel).cell 1 _ rfl
  have k2 := (A1.on D3.bel).cell 2 _ rfl
  have k3 := (A1.on D3.bel).cell 3 _ rfl
  have k4 := (A1.on D3.bel).cell 4 _ rfl
  have k5 := (A1.on D3.bel).cell 5 _ rfl
  have v0 := (A1.on D3.bel).free 0 _ rfl
  have v1 := (A1.on D3.bel).free 1 _ rfl
  have v2 := (A1.on D3.bel).free 2 _ rfl
  have v3 := (A1.on D3.bel).free 3 _ rfl
  have v4 := (A1.on D3.bel).free 4 _ rfl
  have v5 := (A1.on D3.bel).free 5 _ rfl
  have HB := Lib.hid (btr b0 D3.bel)
  clear D2 D3 g3 A0 A1 R0 b0
  go_wp2_with fail
  refine bodyPost_ret (v := .tuple #[H3 r s n, R6 r2 s2 t x y f]) (by simp [results, Tryz.results21, go_sem, q0, q1, q2, k0, k1, k2, k3, k4, k5]) rfl ?_
  exact ⟨r, s, n, r2, s2, t, x, y, f, rfl, hn, (by (iterate 9 (refine bset ?_ (by dsimp only; omega) _)); exact HB.out)⟩
theorem hea_cases (n : ByteArray) (r s r2 s2 p x y f : Int) : ¬ heaC n r s r2 s2 p x y f = 0 ∨ (heaC n r s r2 s2 p x y f = 0 ∧ (helF n.data.toList r s = 0 ∧ packHL n r s = packH n r s) ∧ (repF r2 s2 p x y f = 0 ∧ packRL r2 s2 p x y f = packR r2 s2 p x y f) ∧
    ((∀ z ∈ packH n r s, (Lit.int .u8 z).wf = true) ∧ (∀ z ∈ packR r2 s2 p x y f, (Lit.int .u8 z).wf = true)) ∧ M.heardR [packH n r s, frontR r2 s2 p] = (0, heaV n r s r2 s2 p x y f)) := by
  by_cases h1 : helF n.data.toList r s = 0
  · by_cases h2 : repF r2 s2 p x y f = 0
    · obtain ⟨e1, e2⟩ := hea_yes (x := x) (y := y) (f := f) h1 h2
      exact .inr ⟨e1, ⟨h1, by simp [packHL, h1]⟩, ⟨h2, by simp [packRL, h2]⟩, ⟨fun z hz => byte_wf (packH_byte h1 z hz), fun z hz => byte_wf (packR_byte h2 z hz)⟩, by rw [e2]; exact hea_R (hel_size h1)⟩
    · exact .inl (by rw [(hea_rep (x := x) (y := y) (f := f) h1 h2).1]; exact h2)
  · exact .inl (by rw [(hea_hel (r2 := r2) (s2 := s2) (p := p) (x := x) (y := y) (f := f) h1).1]; exact h1)
end Go.Proofs.YtepailfhagaboaaGreatDoor
namespace Go.Proofs.YtepailfhagaboaaGreatDoor
open Go.RowKit
set_option maxRecDepth 100000
set_option linter.unusedVariables false

/-- The variable impl.errUnread holds the value v of the type u. -/
structure ErrV (u : TypeId) (v : Value) (w : World) : Prop where
  cell : w.cell? ⟨0, 0, none⟩ = some (.iface u v)
theorem ErrV.on {u : TypeId} {v : Value} {w w' : World} (h : ErrV u v w) (hb : Below w.heap.size w w') : ErrV u v w' := ⟨cell_keep hb h.cell⟩
/-- It holds an error. -/
def ErrU (w : World) : Prop := ∃ u v, ErrV u v w
theorem ErrU.on {w w' : World} (h : ErrU w) (hb : Below w.heap.size w w') : ErrU w' := by
  obtain ⟨u, v, h⟩ := h
  exact ⟨u, v, h.on hb⟩
abbrev unread (u : TypeId) (v : Value) : Ending := .panicked [{ v := .iface u v, recovered := false }]

theorem needs_yes (w : World) : Calls Tryz.prog 58 #[.bool true] w fun e w' => e = .returned (.tuple #[]) ∧ w = w' := by
  go_enter Tryz.func58, Tryz.ntmps58
  go_wp2_with fail
  go_end0
  exact ⟨rfl, rfl⟩
theorem needs_no {u : TypeId} {v : Value} (w : World) (h : ErrV u v w) : Calls Tryz.prog 58 #[.bool false] w fun e w' => e = unread u v ∧ w = w' := by
  have hc := h.cell
  go_enter Tryz.func58, Tryz.ntmps58
  go_wp2_with fail
  exact ⟨rfl, rfl, rfl⟩
end Go.Proofs.YtepailfhagaboaaGreatDoor
namespace Go.Proofs.YtepailfhagaboaaGreatDoor
open Go.RowKit
set_option maxRecDepth 100000
set_option linter.unusedVariables false

/-- What four bytes are, cell by cell. -/
theorem row_four {w : World} {B : Nat} {a : Option Addr} {cap : Nat} {zs : List Int} (hR : Row .u8 w B a 4 cap zs) :
    ∃ b off, ∃ x y u v : Int, a = some ⟨b, off, none⟩ ∧ zs = [x, y, u, v] ∧ w.cell? ⟨b, off, none⟩ = some (.int .u8 x) ∧ w.cell? ⟨b, off + 1, none⟩ = some (.int .u8 y) ∧ w.cell? ⟨b, off + 2, none⟩ = some (.int .u8 u) ∧ w.cell? ⟨b, off + 3, none⟩ = some (.int .u8 v) ∧
      0 ≤ x ∧ x ≤ 255 ∧ 0 ≤ y ∧ y ≤ 255 ∧ 0 ≤ u ∧ u ≤ 255 ∧ 0 ≤ v ∧ v ≤ 255 := by
  obtain ⟨b, off, ha, _, hc⟩ := hR.cells (by omega)
  have b0 := hR.byte 0
  have b1 := hR.byte 1
  have b2 := hR.byte 2
  have b3 := hR.byte 3
  have h0 := hc 0 (by omega)
  have h1 := hc 1 (by omega)
  have h2 := hc 2 (by omega)
  have h3 := hc 3 (by omega)
  have hl := hR.length
  match zs, hl with
  | [x, y, u, v], _ =>
    refine ⟨b, off, x, y, u, v, ha, rfl, h0, h1, h2, h3, b0.1, b0.2, b1.1, b1.2, b2.1, b2.2, b3.1, b3.2⟩

theorem readR_no {zs : List Int} (h : M.readB zs = false) : M.readR zs = (5, 0, 0) := by simp [M.readR, h]
theorem readR_yes {zs : List Int} (h : M.readB zs = true) : M.readR zs = (0, M.readP zs, M.readQ zs) := by simp [M.readR, h]

theorem implReadSign_any (a : Option Addr) (len cap B : Nat) (zs : List Int) (w : World) (hR : Row .u8 w B a len cap zs) (hB : B ≤ w.heap.size) :
    Calls Tryz.prog 84 #[.slice a len cap] w fun r w' => r = .returned (I3 (M.readR zs).1 (M.readR zs).2.1 (M.readR zs).2.2) ∧ Below w.heap.size w w' := by
  have hlen := hR.fits
  have hmost := hR.most
  by_cases h4 : len = 4
  · subst h4
    obtain ⟨b, off, x, y, u, v, rfl, rfl, d0', d1', d2', d3', x0, x1, y0, y1, u0, u1, v0, v1⟩ := row_four hR
    have eP : M.readP [x, y, u, v] = 256 * x + y := by simp [M.readP]
    have eQ : M.readQ [x, y, u, v] = 256 * u + v := by simp [M.readQ]
    have T1 := fun (w' : World) d0 d1 => readTwo_any b off 4 cap x y w' (by omega) hlen hmost d0 d1 x0 x1 y0 y1
    have T2 := fun (w' : World) d2 d3 => readTwo_any b (off + 2) 2 (cap - 2) u v w' (by omega) (by omega) (by omega) d2 d3 u0 u1 v0 v1
    have hb0 := bal (Below.refl _ w) (.cells #[.int .i64 0, .int .i64 0, .int .i64 0] 127)
    have hR0 := Res3.new w 127
    have d0 := cell_keep hb0 d0'
    have d1 := cell_keep hb0 d1'
    have d2 := cell_keep hb0 d2'
    have d3 := cell_keep hb0 d3'
    have hm2 := hmost
    unfold maxLen at hm2
    clear hR d0' d1' d2' d3'
    cases hS : M.sigB (256 * x + y) (256 * u + v)
    · have E : M.readR [x, y, u, v] = (5, 0, 0) := readR_no (by simp only [M.readB, eP, eQ, hS, Bool.and_false])
      rw [E]; clear E eP eQ
      go_enter Tryz.func84, Tryz.ntmps84
      go_wp2_with fail
      generalize w.alloc (.cells #[.int .i64 0, .int .i64 0, .int .i64 0] 127) = W0 at *
      refine wp_region_line (Bel W0) [(0, true), (2, true), (3, true), (1, false), (4, false), (5, false), (6, false), (7, true), (8, true), (9, true), (10, true), (11, true)] (by kernel_rfl) (by kernel_rfl) (fun _ _ d _ _ h => by cases d <;> exact h) (Bel.drew W0) ?_
      have hst := Bel.drew W0
      have inst : Nonempty (Of (Bel W0)) := ⟨⟨_, hst⟩⟩
      iterate 3 (refine line_read rfl (by kernel_rfl) (fun K hK => ?_); go_big_quiet_op; refine hK _ ?_; clear hK K)
      refine line_alone rfl (by kernel_rfl) (fun K hK => ?_)
      refine call_wp (args := #[.slice (some ⟨b, off, none⟩) 4 cap]) rfl (by kernel_rfl) (by kernel_rfl) (T1 _ (cell_keep hst.out d0) (cell_keep hst.out d1)) (fun wn hbn => ?_)
      have hst2 := hst.on hbn
      refine hK _ _ hst2 ?_
      clear hK K hst hbn
      have hst := hst2
      clear hst2
      simp only [Act.put, List.setIfInBounds_toArray, List.set_cons_zero, List.set_cons_succ]
      refine line_alone rfl (by kernel_rfl) (fun K hK => ?_)
      refine call_wp (args := #[.slice (some ⟨b, off + 2, none⟩) 2 (cap - 2)]) rfl (by kernel_rfl) (by kernel_rfl) (T2 _ (cell_keep hst.out d2) (cell_keep hst.out d3)) (fun wn hbn => ?_)
      have hst2 := hst.on hbn
      refine hK _ _ hst2 ?_
      clear hK K hst hbn
      have hst := hst2
      clear hst2
      simp only [Act.put, List.setIfInBounds_toArray, List.set_cons_zero, List.set_cons_succ]
      refine line_value (v := I2 (256 * x + y) (256 * u + v)) rfl (by kernel_rfl) (by kernel_rfl) hst ?_
      simp only [Act.put, List.setIfInBounds_toArray, List.set_cons_zero, List.set_cons_succ]
      refine line_alone rfl (by kernel_rfl) (fun K hK => ?_)
      refine call_any (args := #[I2 (256 * x + y) (256 * u + v)]) rfl (by kernel_rfl) (by kernel_rfl) (pairOf_no _ _ _ hS) ?_
      rintro e wn ⟨m, pv, rfl, hbn⟩
      have hst2 := hst.on hbn
      refine ⟨_, rfl, hK _ _ hst2 ?_⟩
      clear hK K hst hbn
      simp only [Act.put, List.setIfInBounds_toArray, List.set_cons_zero, List.set_cons_succ]
      iterate 5 (refine line_read rfl (by kernel_rfl) (fun K hK => ?_); go_big_quiet_op; refine hK _ ?_; clear hK K)
      refine line_nil ?_
      have hbel := hst2.out
      obtain ⟨q0, q1, q2, z0, z1, z2⟩ := hR0.on hbel
      go_wp2_with fail
      exact bodyPost_ret (v := I3 5 0 0) (by simp [results, Tryz.results84, go_sem, q0, q1, q2]) rfl ⟨rfl, bset (bset (bset (btr hb0 hbel) (Nat.le_refl _) _) (Nat.le_refl _) _) (Nat.le_refl _) _⟩
    · have E : M.readR [x, y, u, v] = (0, 256 * x + y, 256 * u + v) := by rw [readR_yes (by simp only [M.readB, eP, eQ, hS]; rfl), eP, eQ]
      rw [E]; clear E eP eQ
      obtain ⟨p0, p1, q0', q1'⟩ := M.sigB_bd hS
      have Y1 := fun w => pairOf_yes (256 * x + y) (256 * u + v) w hS
      have P1 := fun w => point_any (256 * x + y) (256 * u + v) w (by omega) (by omega)
      have P2 := fun w => proof_any (256 * x + y) (256 * u + v) w (by omega) (by omega)
      generalize pairV (256 * x + y) (256 * u + v) = V at *
      go_enter Tryz.func84, Tryz.ntmps84
      go_wp2_with fail
      generalize w.alloc (.cells #[.int .i64 0, .int .i64 0, .int .i64 0] 127) = W0 at *
      refine wp_region_line (Bel W0) [(0, true), (2, true), (3, true), (1, false), (4, false), (5, false), (6, false), (7, true), (8, true), (9, true), (10, true), (11, true)] (by kernel_rfl) (by kernel_rfl) (fun _ _ d _ _ h => by cases d <;> exact h) (Bel.drew W0) ?_
      have hst := Bel.drew W0
      have inst : Nonempty (Of (Bel W0)) := ⟨⟨_, hst⟩⟩
      iterate 3 (refine line_read rfl (by kernel_rfl) (fun K hK => ?_); go_big_quiet_op; refine hK _ ?_; clear hK K)
      refine line_alone rfl (by kernel_rfl) (fun K hK => ?_)
      refine call_wp (args := #[.slice (some ⟨b, off, none⟩) 4 cap]) rfl (by kernel_rfl) (by kernel_rfl) (T1 _ (cell_keep hst.out d0) (cell_keep hst.out d1)) (fun wn hbn => ?_)
      have hst2 := hst.on hbn
      refine hK _ _ hst2 ?_
      clear hK K hst hbn
      have hst := hst2
      clear hst2
      simp only [Act.put, List.setIfInBounds_toArray, List.set_cons_zero, List.set_cons_succ]
      refine line_alone rfl (by kernel_rfl) (fun K hK => ?_)
      refine call_wp (args := #[.slice (some ⟨b, off + 2, none⟩) 2 (cap - 2)]) rfl (by kernel_rfl) (by kernel_rfl) (T2 _ (cell_keep hst.out d2) (cell_keep hst.out d3)) (fun wn hbn => ?_)
      have hst2 := hst.on hbn
      refine hK _ _ hst2 ?_
      clear hK K hst hbn
      have hst := hst2
      clear hst2
      simp only [Act.put, List.setIfInBounds_toArray, List.set_cons_zero, List.set_cons_succ]
      refine line_value (v := I2 (256 * x + y) (256 * u + v)) rfl (by kernel_rfl) (by kernel_rfl) hst ?_
      simp only [Act.put, List.setIfInBounds_toArray, List.set_cons_zero, List.set_cons_succ]
      refine line_alone rfl (by kernel_rfl) (fun K hK => ?_)
      refine call_wp (args := #[I2 (256 * x + y) (256 * u + v)]) rfl (by kernel_rfl) (by kernel_rfl) (Y1 _) (fun wn hbn => ?_)
      have hst2 := hst.on hbn
      refine hK _ _ hst2 ?_
      clear hK K hst hbn
      have hst := hst2
      clear hst2
      simp only [Act.put, List.setIfInBounds_toArray, List.set_cons_zero, List.set_cons_succ]
      iterate 5 (refine line_read rfl (by kernel_rfl) (fun K hK => ?_); go_big_quiet_op; refine hK _ ?_; clear hK K)
      refine line_nil ?_
      have hbel := hst.out
      go_wp2_with fail
      refine (P1 _).mono ?_
      rintro r w' ⟨rfl, rfl⟩
      go_wp2_with fail
      refine (P2 _).mono ?_
      rintro r w' ⟨rfl, rfl⟩
      obtain ⟨q0, q1, q2, z0, z1, z2⟩ := hR0.on hbel
      go_wp2_with fail
      exact bodyPost_ret (v := I3 0 (256 * x + y) (256 * u + v)) (by simp [results, Tryz.results84, go_sem, q0, q1, q2]) rfl ⟨rfl, bset (bset (bset (btr hb0 hbel) (Nat.le_refl _) _) (Nat.le_refl _) _) (Nat.le_refl _) _⟩
  · have E : M.readR zs = (5, 0, 0) := readR_no (by simp only [M.readB, hR.length, h4, decide_false, Bool.false_and])
    rw [E]; clear E
    have e4 : ((len : Int) == 4) = false := by rw [beq_eq_false_iff_ne]; omega
    unfold maxLen at hmost
    clear h4
    go_enter Tryz.func84, Tryz.ntmps84
    go_wp2_with fail
    exact bodyPost_ret (v := I3 5 0 0) (by simp [results, Tryz.results84, go_sem]) rfl ⟨rfl, bal (Below.refl _ _) _⟩
end Go.Proofs.YtepailfhagaboaaGreatDoor
namespace Go.Proofs.YtepailfhagaboaaGreatDoor
open Go.RowKit
set_option maxRecDepth 100000
set_option linter.unusedVariables false

/-- The name that stands in bytes. -/
def keyNm (zs : List Int) : List UInt8 := (zs.drop 4).map fun z => UInt8.ofNat z.toNat
theorem keyNm_str (zs : List Int) : strOf (zs.drop 4) = M.bs (keyNm zs) := by
  rw [← M.bs_data (strOf _), strOf, strOf_data]
  simp [keyNm]
def keyF (zs : List Int) : Int := M.tlsaF (keyNm zs) (zs.getD 0 0) (zs.getD 1 0) (256 * zs.getD 2 0 + zs.getD 3 0)
def keyOk (zs : List Int) : Bool := decide (4 ≤ zs.length) && decide (keyF zs = 0)
abbrev keyT (zs : List Int) : Value := T5 (if keyOk zs then 0 else 5) (M.bs (if keyOk zs then keyNm zs else [])) (if keyOk zs then zs.getD 0 0 else 0) (if keyOk zs then zs.getD 1 0 else 0) (if keyOk zs then 256 * zs.getD 2 0 + zs.getD 3 0 else 0)
theorem keyT_no {zs : List Int} (h : keyOk zs = false) : keyT zs = T5 5 { data := #[] } 0 0 0 := by simp [keyT, h, M.bs]
theorem keyT_yes {zs : List Int} (h : keyOk zs = true) : keyT zs = T5 0 (M.bs (keyNm zs)) (zs.getD 0 0) (zs.getD 1 0) (256 * zs.getD 2 0 + zs.getD 3 0) := by simp [keyT, h]
theorem keyOk_short {zs : List Int} (h : zs.length < 5) : keyOk zs = false := by
  unfold keyOk
  by_cases h4 : 4 ≤ zs.length
  · have e : keyNm zs = [] := by
      unfold keyNm
      rw [List.drop_of_length_le (by omega)]
      rfl
    have : keyF zs = 5 := by
      unfold keyF
      rw [e]
      have h5 : M.nameF [] = 5 := by decide
      have h6 : M.normF [] = 5 := by rw [M.normF_no (by rw [h5]; omega), h5]
      rw [M.tlsaF_norm (by rw [h6]; omega), h6]
    rw [this]
    simp
  · simp [h4]
/-- A supplied key lies in a block of its own. -/
def KeyAt (V : World) (n : ByteArray) (u m x : Int) (v : Value) (wx : World) : Prop := ∃ g, v = .pointer (some ⟨g, 0, none⟩) ∧ At g (TL4 n u m x) wx ∧ Below V.heap.size V wx ∧ V.heap.size ≤ g

/-- No byte makes no text, wherever it is taken from. -/
theorem conv_none (a a' : Option Addr) (c c' : Nat) (w : World) (hc : c ≤ maxLen) (hc' : c' ≤ maxLen) : (convert 22 9 (.slice a 0 c)).run Tryz.prog w = (convert 22 9 (.slice a' 0 c')).run Tryz.prog w := by
  have hR : ∀ (a : Option Addr) (c : Nat), c ≤ maxLen → Row .u8 w 0 a 0 c [] := fun a c hc => ⟨rfl, (fun _ h => by cases h), Nat.zero_le _, hc, fun h => absurd h (by omega)⟩
  rw [conv_row (hR a c hc), conv_row (hR a' c' hc')]

end Go.Proofs.YtepailfhagaboaaGreatDoor
namespace Go.Proofs.YtepailfhagaboaaGreatDoor
open Go.RowKit
set_option maxRecDepth 100000
set_option linter.unusedVariables false

theorem helNm_str (zs : List Int) : strOf (zs.drop 5) = M.bs (helNm zs) := by
  rw [← M.bs_data (strOf _), strOf, strOf_data]
  simp [helNm]
theorem helNm_size {zs : List Int} (n : Nat) (h : zs.length ≤ n) : (M.bs (helNm zs)).size ≤ n := by
  rw [M.bs_size]
  simp only [helNm, List.length_map, List.length_drop]
  omega

theorem helloIn_no {u : TypeId} {v : Value} (a : Option Addr) (len cap : Nat) (w : World) (hv : ErrV u v w) (h5 : len < 5) :
    Calls Tryz.prog 59 #[.slice a len cap] w fun e w' => e = unread u v ∧ Below w.heap.size w w' := by
  have b0 := bal (Below.refl _ w) (.cells #[.int .i64 0, .int .i64 0, .string { data := #[] }] 26)
  have V0 := hv.on b0
  have h5' : ¬ (5 : Int) ≤ (len : Int) := by omega
  clear hv
  go_enter Tryz.func59, Tryz.ntmps59
  go_wp2_with fail
  generalize w.alloc (.cells #[.int .i64 0, .int .i64 0, .string { data := #[] }] 26) = W0 at *
  refine (needs_no _ V0).mono ?_
  rintro e w' ⟨rfl, rfl⟩
  exact ⟨rfl, rfl, b0⟩
theorem helloIn_yes (a : Option Addr) (len cap B : Nat) (zs : List Int) (w : World) (hR : Row .u8 w B a len cap zs) (hB : B ≤ w.heap.size) (h5 : 5 ≤ len) :
    Calls Tryz.prog 59 #[.slice a len cap] w fun e w' => e = .returned (H3 (tw zs 1) (tw zs 3) (M.bs (helNm zs))) ∧ Below w.heap.size w w' := by
  have hlen := hR.fits
  have hmost := hR.most
  have hzl := hR.length
  have b0 := bal (Below.refl _ w) (.cells #[.int .i64 0, .int .i64 0, .string { data := #[] }] 26)
  have A0 := At.new w (HL3 0 0 { data := #[] }) 26
  obtain ⟨b, off, rfl, hb, hc⟩ := hR.cells (by omega)
  have z1 := hR.byte 1
  have z2 := hR.byte 2
  have z3 := hR.byte 3
  have z4 := hR.byte 4
  have d1 := hc 1 (by omega)
  have d2 := hc 2 (by omega)
  have d3 := hc 3 (by omega)
  have d4 := hc 4 (by omega)
  have hsub := fun (w' : World) (R : Row .u8 w' B (some ⟨b, off, none⟩) len cap zs) => conv_row (R.sub 5 (len - 5) (cap - 5) (by omega) (by omega) (by omega))
  have edrop : (zs.drop 5).take (len - 5) = zs.drop 5 := List.take_of_length_le (by simp; omega)
  simp only [edrop, helNm_str] at hsub
  have T1 := fun (w' : World) d1 d2 => readTwo_any b (off + 1) (len - 1) (cap - 1) (zs.getD 1 0) (zs.getD 2 0) w' (by omega) (by omega) (by omega) d1 d2 z1.1 z1.2 z2.1 z2.2
  have T2 := fun (w' : World) d3 d4 => readTwo_any b (off + 3) (len - 3) (cap - 3) (zs.getD 3 0) (zs.getD 4 0) w' (by omega) (by omega) (by omega) d3 d4 z3.1 z3.2 z4.1 z4.2
  have hm2 := hmost
  unfold maxLen at hm2
  have h5' : (5 : Int) ≤ (len : Int) := by omega
  unfold tw
  generalize M.bs (helNm zs) = N at *
  generalize zs.getD 1 0 = y1 at *
  generalize zs.getD 2 0 = y2 at *
  generalize zs.getD 3 0 = y3 at *
  generalize zs.getD 4 0 = y4 at *
  clear hc edrop hmost
  go_enter Tryz.func59, Tryz.ntmps59
  go_wp2_with fail
  generalize w.alloc (.cells #[.int .i64 0, .int .i64 0, .string { data := #[] }] 26) = W0 at *
  refine (needs_yes _).mono ?_
  rintro e w' ⟨rfl, rfl⟩
  go_wp2_with fail
  have S0 : Bel w W0.drew := ⟨b0.drew⟩
  have AA := A0.on (bdrew W0)
  refine wp_region_line (Bel w) [(0, true), (1, true), (3, true), (4, true), (6, true), (7, true), (8, true), (2, false), (5, false), (9, true), (10, false)] (by kernel_rfl) (by kernel_rfl) (fun _ _ d _ _ h => by cases d <;> exact h) S0 ?_
  have hst := S0
  have inst : Nonempty (Of (Bel w)) := ⟨⟨_, hst⟩⟩
  have cv : ∀ z : Of (Bel w), (convert 22 9 (.slice (if cap = 5 then some ⟨b, off, none⟩ else some ⟨b, off + 5, none⟩) (len - 5) (cap - 5))).run Tryz.prog z.val = .ok (.string N) z.val := fun z => by
    have h := hsub _ (hR.below (z.prop.out.mono hB))
    split
    · rename_i hcap
      have e := conv_none (some ⟨b, off, none⟩) (some ⟨b, off + 5, none⟩) (cap - 5) (cap - 5) z.val (by simp only [maxLen]; omega) (by simp only [maxLen]; omega)
      rw [show len - 5 = 0 by omega] at h ⊢
      rw [e]
      exact h
    · exact h
  clear S0 A0 b0
  generalize W0.drew = V1 at *
  iterate 7 (refine line_read rfl (by kernel_rfl) (fun K hK => ?_); go_big_quiet_op; refine hK _ ?_; clear hK K)
  clear cv
  generalize (if cap = 5 then some (⟨b, off, none⟩ : Addr) else some ⟨b, off + 5, none⟩) = ad
  refine line_alone rfl (by kernel_rfl) (fun K hK => ?_)
  refine call_any (args := #[.slice (some ⟨b, off + 1, none⟩) (len - 1) (cap - 1)]) rfl (by kernel_rfl) (by kernel_rfl) (T1 _ (cell_keep hst.out d1) (cell_keep hst.out d2)) ?_
  rintro e x1 ⟨rfl, hbn⟩
  have hst2 := hst.on hbn
  have AA2 := AA.on hbn
  refine ⟨_, rfl, hK _ _ hst2 ?_⟩
  clear hK K hst hbn AA
  have hst := hst2
  have AA := AA2
  clear hst2 AA2
  simp only [Act.put, List.setIfInBounds_toArray, List.set_cons_zero, List.set_cons_succ]
  refine line_alone rfl (by kernel_rfl) (fun K hK => ?_)
  refine call_any (args := #[.slice (some ⟨b, off + 3, none⟩) (len - 3) (cap - 3)]) rfl (by kernel_rfl) (by kernel_rfl) (T2 _ (cell_keep hst.out d3) (cell_keep hst.out d4)) ?_
  rintro e x2 ⟨rfl, hbn⟩
  have hst2 := hst.on hbn
  have AA2 := AA.on hbn
  refine ⟨_, rfl, hK _ _ hst2 ?_⟩
  clear hK K hst hbn AA
  have hst := hst2
  have AA := AA2
  clear hst2 AA2
  simp only [Act.put, List.setIfInBounds_toArray, List.set_cons_zero, List.set_cons_succ]
  refine line_readv (v := H3 (256 * y1 + y2) (256 * y3 + y4) N) rfl (by kernel_rfl) (fun _ => by kernel_rfl) ?_
  simp only [Act.put, List.setIfInBounds_toArray, List.set_cons_zero, List.set_cons_succ]
  have p0 := AA.cell 0 _ rfl
  have p1 := AA.cell 1 _ rfl
  have p2 := AA.cell 2 _ rfl
  have z0 := AA.free 0 _ rfl
  have z1 := AA.free 1 _ rfl
  have z2 := AA.free 2 _ rfl
  refine line_alone rfl (by kernel_rfl) (fun K hK => ?_)
  go_big_op
  refine hK _ _ (⟨(by (iterate 3 (refine bset ?_ (by dsimp only; omega) _)); exact hst.out)⟩) ?_
  clear hK K
  refine line_nil ?_
  have HB := Lib.hid hst.out
  clear hst inst AA
  go_wp2_with fail
  refine bodyPost_ret (v := H3 (256 * y1 + y2) (256 * y3 + y4) N) (by simp [results, Tryz.results59, go_sem, p0, p1, p2]) rfl ⟨rfl, ?_⟩
  exact (by (iterate 3 (refine bset ?_ (by dsimp only; omega) _)); exact HB.out)

theorem replyIn_short {u : TypeId} {v : Value} (a : Option Addr) (len cap : Nat) (w : World) (hv : ErrV u v w) (h5 : len ≠ 13) (hm : len ≤ maxLen) :
    Calls Tryz.prog 60 #[.slice a len cap] w fun e w' => e = unread u v ∧ Below w.heap.size w w' := by
  have b0 := bal (Below.refl _ w) (.cells #[.int .i64 0, .int .i64 0, .int .i64 0, .int .i64 0, .int .i64 0, .int .i64 0] 33)
  have V0 := hv.on b0
  have h5' : ((len : Int) == 13) = false := by rw [beq_eq_false_iff_ne]; omega
  unfold maxLen at hm
  clear hv
  go_enter Tryz.func60, Tryz.ntmps60
  go_wp2_with fail
  generalize w.alloc (.cells #[.int .i64 0, .int .i64 0, .int .i64 0, .int .i64 0, .int .i64 0, .int .i64 0] 33) = W0 at *
  refine (needs_no _ V0).mono ?_
  rintro e w' ⟨rfl, rfl⟩
  exact ⟨rfl, rfl, b0⟩
/-- The four bytes of a signature. -/
abbrev sigZ (zs : List Int) : List Int := (zs.drop 7).take 4
theorem sigZ_P {zs : List Int} (h : zs.length = 13) : M.readP (sigZ zs) = tw zs 7 ∧ M.readQ (sigZ zs) = tw zs 9 ∧ (sigZ zs).length = 4 := by
  match zs, h with
  | [z0, z1, z2, z3, z4, z5, z6, z7, z8, z9, z10, z11, z12], _ => exact ⟨rfl, rfl, rfl⟩
theorem sigZ_B {zs : List Int} (h : zs.length = 13) : M.readB (sigZ zs) = M.sigB (tw zs 7) (tw zs 9) := by
  obtain ⟨h1, h2, h3⟩ := sigZ_P h
  unfold M.readB
  rw [h1, h2, h3]
  simp
theorem replyIn_bad {u : TypeId} {v : Value} (a : Option Addr) (cap B : Nat) (zs : List Int) (w : World) (hR : Row .u8 w B a 13 cap zs) (hB : B ≤ w.heap.size) (hv : ErrV u v w) (hs : M.sigB (tw zs 7) (tw zs 9) = false) :
    Calls Tryz.prog 60 #[.slice a 13 cap] w fun e w' => e = unread u v ∧ Below w.heap.size w w' := by
  have hlen := hR.fits
  have hmost := hR.most
  have hzl := hR.length
  have b0 := bal (Below.refl _ w) (.cells #[.int .i64 0, .int .i64 0, .int .i64 0, .int .i64 0, .int .i64 0, .int .i64 0] 33)
  have V0 := hv.on b0
  obtain ⟨b, off, rfl, hb, hc⟩ := hR.cells (by omega)
  have R1 := (hR.below (b0.mono hB)).sub 7 4 (cap - 7) (by omega) (by omega) (by omega)
  have F := fun w' R => implReadSign_any (some ⟨b, off + 7, none⟩) 4 (cap - 7) B (sigZ zs) w' R
  rw [readR_no (by rw [sigZ_B hzl]; exact hs)] at F
  have hm2 := hmost
  unfold maxLen at hm2
  have hWB : B ≤ (w.alloc (.cells #[.int .i64 0, .int .i64 0, .int .i64 0, .int .i64 0, .int .i64 0, .int .i64 0] 33)).heap.size := by simp; omega
  clear hR hc hmost hv
  go_enter Tryz.func60, Tryz.ntmps60
  go_wp2_with fail
  generalize w.alloc (.cells #[.int .i64 0, .int .i64 0, .int .i64 0, .int .i64 0, .int .i64 0, .int .i64 0] 33) = W0 at *
  refine (needs_yes _).mono ?_
  rintro e w' ⟨rfl, rfl⟩
  go_wp2_with fail
  refine (F _ R1 hWB).mono ?_
  rintro e u1 ⟨rfl, b1⟩
  have V1 := (V0.on b1).on (bal (Below.refl _ u1) (.cells #[.int .i64 5, .int .i64 0, .int .i64 0] 127))
  have B1 := bal (btr b0 b1) (.cells #[.int .i64 5, .int .i64 0, .int .i64 0] 127)
  clear R1 F b1 V0 b0
  go_wp2_with fail
  refine (needs_no _ V1).mono ?_
  rintro e w' ⟨rfl, rfl⟩
  exact ⟨rfl, rfl, B1⟩
theorem replyIn_yes (a : Option Addr) (cap B : Nat) (zs : List Int) (w : World) (hR : Row .u8 w B a 13 cap zs) (hB : B ≤ w.heap.size) (hs : M.sigB (tw zs 7) (tw zs 9) = true) :
    Calls Tryz.prog 60 #[.slice a 13 cap] w fun e w' => e = .returned (R6 (tw zs 1) (tw zs 3) (tw zs 5) (tw zs 7) (tw zs 9) (tw zs 11)) ∧ Below w.heap.size w w' := by
  have hlen := hR.fits
  have hmost := hR.most
  have hzl := hR.length
  have b0 := bal (Below.refl _ w) (.cells #[.int .i64 0, .int .i64 0, .int .i64 0, .int .i64 0, .int .i64 0, .int .i64 0] 33)
  have A0 := At.new w (RL6 0 0 0 0 0 0) 33
  obtain ⟨b, off, rfl, hb, hc⟩ := hR.cells (by omega)
  have R1 := (hR.below (b0.mono hB)).sub 7 4 (cap - 7) (by omega) (by omega) (by omega)
  have F := fun w' R => implReadSign_any (some ⟨b, off + 7, none⟩) 4 (cap - 7) B (sigZ zs) w' R
  rw [readR_yes (by rw [sigZ_B hzl]; exact hs), (sigZ_P hzl).1, (sigZ_P hzl).2.1] at F
  have T1 := fun (w' : World) d c => readTwo_any b (off + 1) 12 (cap - 1) (zs.getD 1 0) (zs.getD 2 0) w' (by omega) (by omega) (by omega) d c (hR.byte 1).1 (hR.byte 1).2 (hR.byte 2).1 (hR.byte 2).2
  have T2 := fun (w' : World) d c => readTwo_any b (off + 3) 10 (cap - 3) (zs.getD 3 0) (zs.getD 4 0) w' (by omega) (by omega) (by omega) d c (hR.byte 3).1 (hR.byte 3).2 (hR.byte 4).1 (hR.byte 4).2
  have T3 := fun (w' : World) d c => readTwo_any b (off + 5) 8 (cap - 5) (zs.getD 5 0) (zs.getD 6 0) w' (by omega) (by omega) (by omega) d c (hR.byte 5).1 (hR.byte 5).2 (hR.byte 6).1 (hR.byte 6).2
  have T4 := fun (w' : World) d c => readTwo_any b (off + 11) 2 (cap - 11) (zs.getD 11 0) (zs.getD 12 0) w' (by omega) (by omega) (by omega) d c (hR.byte 11).1 (hR.byte 11).2 (hR.byte 12).1 (hR.byte 12).2
  have d1 := hc 1 (by omega)
  have d2 := hc 2 (by omega)
  have d3 := hc 3 (by omega)
  have d4 := hc 4 (by omega)
  have d5 := hc 5 (by omega)
  have d6 := hc 6 (by omega)
  have d11 := hc 11 (by omega)
  have d12 := hc 12 (by omega)
  have hm2 := hmost
  unfold maxLen at hm2
  have hWB : B ≤ (w.alloc (.cells #[.int .i64 0, .int .i64 0, .int .i64 0, .int .i64 0, .int .i64 0, .int .i64 0] 33)).heap.size := by simp; omega
  have e1 : tw zs 1 = 256 * zs.getD 1 0 + zs.getD 2 0 := rfl
  have e3 : tw zs 3 = 256 * zs.getD 3 0 + zs.getD 4 0 := rfl
  have e5 : tw zs 5 = 256 * zs.getD 5 0 + zs.getD 6 0 := rfl
  have e11 : tw zs 11 = 256 * zs.getD 11 0 + zs.getD 12 0 := rfl
  rw [← e1] at T1
  rw [← e3] at T2
  rw [← e5] at T3
  rw [← e11] at T4
  clear e1 e3 e5 e11
  generalize tw zs 1 = y1 at *
  generalize tw zs 3 = y3 at *
  generalize tw zs 5 = y5 at *
  generalize tw zs 7 = y7 at *
  generalize tw zs 9 = y9 at *
  generalize tw zs 11 = y11 at *
  clear hR hc hmost
  go_enter Tryz.func60, Tryz.ntmps60
  go_wp2_with fail
  generalize w.alloc (.cells #[.int .i64 0, .int .i64 0, .int .i64 0, .int .i64 0, .int .i64 0, .int .i64 0] 33) = W0 at *
  refine (needs_yes _).mono ?_
  rintro e w' ⟨rfl, rfl⟩
  go_wp2_with fail
  refine (F _ R1 hWB).mono ?_
  rintro e u1 ⟨rfl, b1⟩
  have G1 := At.new u1 [.int .i64 0, .int .i64 y7, .int .i64 y9] 127
  have b2 := bal b1 (.cells #[.int .i64 0, .int .i64 y7, .int .i64 y9] 127)
  have B1 := btr b0 b2
  have A1 := A0.on b2
  have lt1 : w.heap.size < u1.heap.size := (A0.on b1).lt (by simp)
  clear R1 F b1 b0 A0 b2
  go_wp2_with fail
  generalize u1.alloc (.cells #[.int .i64 0, .int .i64 y7, .int .i64 y9] 127) = v1 at *
  refine (needs_yes _).mono ?_
  rintro e w' ⟨rfl, rfl⟩
  go_wp2_with fail
  have S0 : Hold w u1.heap.size [.int .i64 0, .int .i64 y7, .int .i64 y9] v1.drew := ⟨B1.drew, G1.on (bdrew v1)⟩
  have AA := A1.on (bdrew v1)
  refine wp_region_line (Hold w u1.heap.size [.int .i64 0, .int .i64 y7, .int .i64 y9]) [(0, true), (1, true), (3, true), (4, true), (6, true), (7, true), (9, true), (10, true), (11, true), (12, true), (2, false), (5, false), (8, false), (13, false), (14, true), (15, false)] (by kernel_rfl) (by kernel_rfl) (fun _ _ d _ _ h => by cases d <;> exact h) S0 ?_
  have hst := S0
  have inst : Nonempty (Of (Hold w u1.heap.size [.int .i64 0, .int .i64 y7, .int .i64 y9])) := ⟨⟨_, hst⟩⟩
  have q1 := hold_cell (W := w) (g := u1.heap.size) (cs := [.int .i64 0, .int .i64 y7, .int .i64 y9]) 1 _ rfl
  have q2 := hold_cell (W := w) (g := u1.heap.size) (cs := [.int .i64 0, .int .i64 y7, .int .i64 y9]) 2 _ rfl
  clear S0 A1 B1 G1
  generalize v1.drew = V1 at *
  iterate 10 (refine line_read rfl (by kernel_rfl) (fun K hK => ?_); go_big_quiet_op; refine hK _ ?_; clear hK K)
  clear q1 q2
  refine line_alone rfl (by kernel_rfl) (fun K hK => ?_)
  refine call_any (args := #[.slice (some ⟨b, off + 1, none⟩) 12 (cap - 1)]) rfl (by kernel_rfl) (by kernel_rfl) (T1 _ (cell_keep hst.bel d1) (cell_keep hst.bel d2)) ?_
  rintro e x1 ⟨rfl, hbn⟩
  have hst2 := hst.on hbn
  have AA2 := AA.on hbn
  refine ⟨_, rfl, hK _ _ hst2 ?_⟩
  clear hK K hst hbn AA
  have hst := hst2
  have AA := AA2
  clear hst2 AA2
  simp only [Act.put, List.setIfInBounds_toArray, List.set_cons_zero, List.set_cons_succ]
  refine line_alone rfl (by kernel_rfl) (fun K hK => ?_)
  refine call_any (args := #[.slice (some ⟨b, off + 3, none⟩) 10 (cap - 3)]) rfl (by kernel_rfl) (by kernel_rfl) (T2 _ (cell_keep hst.bel d3) (cell_keep hst.bel d4)) ?_
  rintro e x2 ⟨rfl, hbn⟩
  have hst2 := hst.on hbn
  have AA2 := AA.on hbn
  refine ⟨_, rfl, hK _ _ hst2 ?_⟩
  clear hK K hst hbn AA
  have hst := hst2
  have AA := AA2
  clear hst2 AA2
  simp only [Act.put, List.setIfInBounds_toArray, List.set_cons_zero, List.set_cons_succ]
  refine line_alone rfl (by kernel_rfl) (fun K hK => ?_)
  refine call_any (args := #[.slice (some ⟨b, off + 5, none⟩) 8 (cap - 5)]) rfl (by kernel_rfl) (by kernel_rfl) (T3 _ (cell_keep hst.bel d5) (cell_keep hst.bel d6)) ?_
  rintro e x3 ⟨rfl, hbn⟩
  have hst2 := hst.on hbn
  have AA2 := AA.on hbn
  refine ⟨_, rfl, hK _ _ hst2 ?_⟩
  clear hK K hst hbn AA
  have hst := hst2
  have AA := AA2
  clear hst2 AA2
  simp only [Act.put, List.setIfInBounds_toArray, List.set_cons_zero, List.set_cons_succ]
  refine line_alone rfl (by kernel_rfl) (fun K hK => ?_)
  refine call_any (args := #[.slice (some ⟨b, off + 11, none⟩) 2 (cap - 11)]) rfl (by kernel_rfl) (by kernel_rfl) (T4 _ (cell_keep hst.bel d11) (cell_keep hst.bel d12)) ?_
  rintro e x4 ⟨rfl, hbn⟩
  have hst2 := hst.on hbn
  have AA2 := AA.on hbn
  refine ⟨_, rfl, hK _ _ hst2 ?_⟩
  clear hK K hst hbn AA
  have hst := hst2
  have AA := AA2
  clear hst2 AA2
  simp only [Act.put, List.setIfInBounds_toArray, List.set_cons_zero, List.set_cons_succ]
  refine line_readv (v := R6 y1 y3 y5 y7 y9 y11) rfl (by kernel_rfl) (fun _ => by kernel_rfl) ?_
  simp only [Act.put, List.setIfInBounds_toArray, List.set_cons_zero, List.set_cons_succ]
  have p0 := AA.cell 0 _ rfl
  have p1 := AA.cell 1 _ rfl
  have p2 := AA.cell 2 _ rfl
  have p3 := AA.cell 3 _ rfl
  have p4 := AA.cell 4 _ rfl
  have p5 := AA.cell 5 _ rfl
  have z0 := AA.free 0 _ rfl
  have z1 := AA.free 1 _ rfl
  have z2 := AA.free 2 _ rfl
  have z3 := AA.free 3 _ rfl
  have z4 := AA.free 4 _ rfl
  have z5 := AA.free 5 _ rfl
  refine line_alone rfl (by kernel_rfl) (fun K hK => ?_)
  go_big_op
  refine hK _ _ ((by (iterate 6 (refine Hold.setB ?_ (by dsimp only; omega) (by dsimp only; omega) _)); exact hst)) ?_
  clear hK K
  refine line_nil ?_
  have HB := Lib.hid hst.bel
  clear hst inst AA
  go_wp2_with fail
  refine bodyPost_ret (v := R6 y1 y3 y5 y7 y9 y11) (by simp [results, Tryz.results60, go_sem, p0, p1, p2, p3, p4, p5]) rfl ⟨rfl, ?_⟩
  exact (by (iterate 6 (refine bset ?_ (by dsimp only; omega) _)); exact HB.out)
end Go.Proofs.YtepailfhagaboaaGreatDoor
