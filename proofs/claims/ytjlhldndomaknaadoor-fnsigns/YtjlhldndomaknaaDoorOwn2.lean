/- Slices of slices of bytes that a call makes and appends to. No condition. -/
import Derived.Test.YtjlhldndomaknaaDoorC2f
namespace Go.Proofs.YtjlhldndomaknaaDoor
open Go.RowKit
set_option maxRecDepth 100000

/-- The slice v holds the rows, each of them a slice of bytes of the call's own, none of them in v's own block. -/
structure Own2 (w : World) (B : Nat) (v : Value) (rows : List (Value × List Int)) : Prop where
  own : Own w B 1 v rows.length (rows.map (·.1))
  each : ∀ x ∈ rows, ∃ a n c, x.1 = .slice a n c ∧ OwnK .u8 w B (.slice a n c) x.2 ∧ ∀ z ∈ x.2, (Lit.int .u8 z).wf = true
  apart : ∀ x ∈ rows, ∀ k, x.1.ownBlock = some k → v.ownBlock ≠ some k
section
variable {w w' : World} {B : Nat} {v : Value} {rows : List (Value × List Int)}
theorem Own2.keep (h : Own2 w B v rows) (hs : w.heap.size ≤ w'.heap.size) (hk : ∀ k, B ≤ k → k < w.heap.size → w'.heap[k]? = w.heap[k]?) : Own2 w' B v rows :=
  ⟨h.own.keep hs fun k e => hk k (h.own.lt k e).1 (h.own.lt k e).2, fun x hx => by
    obtain ⟨a, n, c, e, o, z⟩ := h.each x hx
    exact ⟨a, n, c, e, o.keep hs fun k e => hk k (o.lt k e).1 (o.lt k e).2, z⟩, h.apart⟩
theorem Own2.below (h : Own2 w B v rows) (hb : Below w.heap.size w w') : Own2 w' B v rows := h.keep hb.size fun k _ hk => hb.block k hk
theorem Own2.alloc (h : Own2 w B v rows) (o : Obj) : Own2 (w.alloc o) B v rows := h.below (bal (Below.refl _ _) o)
theorem Own2.kept {g : Nat} (h : Own2 w B v rows) (hg : w.grownBy w' (some g)) (hne : g < B) : Own2 w' B v rows :=
  h.keep hg.size fun k hB hk => hg.block k hk (fun e => by injection e with e; omega)
theorem Own2.only {g : Nat} (h : Own2 w B v rows) (hg : Only g w w') (hne : g < B) : Own2 w' B v rows :=
  h.keep (by rw [hg.size]; exact Nat.le_refl _) fun k hB _ => hg.block k (by omega)
theorem Own2.nil (w : World) (B : Nat) : Own2 w B (.slice none 0 0) [] := ⟨Own.nil _ _ _, (fun _ h => by cases h), (fun _ h => by cases h)⟩
theorem Own2.empty (h : Own w B 1 v 0 []) : Own2 w B v [] := ⟨h, (fun _ h => by cases h), (fun _ h => by cases h)⟩
/-- One more row was appended. -/
theorem Own2.more {w1 w2 : World} {v' : Value} {a : Option Addr} {n c : Nat} {zs : List Int} (h : Own2 w1 B v rows) (ho : OwnK .u8 w1 B (.slice a n c) zs) (hz : ∀ z ∈ zs, (Lit.int .u8 z).wf = true)
    (hne : ∀ k, Value.ownBlock (.slice a n c) = some k → v.ownBlock ≠ some k)
    (hn : Own w2 B 1 v' (rows.length + 1) (rows.map (·.1) ++ [.slice a n c])) (hg : w1.grownBy w2 v.ownBlock) (hat : v'.ownBlock = v.ownBlock ∨ v'.ownBlock = some w1.heap.size) : Own2 w2 B v' (rows ++ [(.slice a n c, zs)]) := by
  have keepRow : ∀ {u : Value} {m : Nat} {xs : List Value}, Own w1 B 1 u m xs → (∀ k, u.ownBlock = some k → v.ownBlock ≠ some k) → Own w2 B 1 u m xs := fun {u m xs} o hne => by
    refine o.keep hg.size fun k hk => hg.block k (o.lt k hk).2 (fun e => hne k hk e.symm)
  have newApart : ∀ {u : Value} {m : Nat} {xs : List Value}, Own w1 B 1 u m xs → (∀ k, u.ownBlock = some k → v.ownBlock ≠ some k) → ∀ k, u.ownBlock = some k → v'.ownBlock ≠ some k := fun {u m xs} o hne k hk => by
    rcases hat with e | e
    · rw [e]; exact hne k hk
    · rw [e]
      intro e2
      injection e2 with e2
      have := (o.lt k hk).2
      omega
  refine ⟨by simpa using hn, fun x hx => ?_, fun x hx k hk => ?_⟩
  · rcases List.mem_append.1 hx with hx | hx
    · obtain ⟨a1, n1, c1, e1, o1, z1⟩ := h.each x hx
      exact ⟨a1, n1, c1, e1, keepRow o1 (by rw [← e1]; exact h.apart x hx), z1⟩
    · simp at hx
      subst hx
      exact ⟨a, n, c, rfl, keepRow ho hne, hz⟩
  · rcases List.mem_append.1 hx with hx | hx
    · obtain ⟨a1, n1, c1, e1, o1, z1⟩ := h.each x hx
      exact newApart o1 (by rw [← e1]; exact h.apart x hx) k (by rw [← e1]; exact hk)
    · simp at hx
      subst hx
      exact newApart ho hne k hk
/-- It can be read. -/
theorem Own2.grid (h : Own2 w B v rows) : ∃ a n c, v = .slice a n c ∧ n = rows.length ∧ Grid w w.heap.size a n c (rows.map (·.2)) := by
  rcases h.own.2 with ⟨rfl, h0⟩ | ⟨g, cap, rfl, hb, hg, h1, h2, hc, _⟩
  · have : rows = [] := List.eq_nil_of_length_eq_zero h0
    subst this
    exact ⟨none, 0, 0, rfl, rfl, Grid.nil _ _⟩
  · refine ⟨some ⟨g, 0, none⟩, rows.length, cap, rfl, rfl, by simp, h1, h2, fun hp => ⟨g, 0, rfl, hg, fun j hj => ?_⟩⟩
    have hx : rows[j] ∈ rows := List.getElem_mem hj
    obtain ⟨a, n, c, e, o, z⟩ := h.each _ hx
    refine ⟨a, n, c, ?_, ?_⟩
    · rw [Nat.zero_add]
      exact hc j _ (by simp [hj, e])
    · have e2 : (rows.map (·.2))[j]?.getD [] = rows[j].2 := by simp [hj]
      rw [e2]
      exact Own.row o z
theorem Own2.rows_wf (h : Own2 w B v rows) : ∀ zs ∈ rows.map (·.2), ∀ z ∈ zs, (Lit.int .u8 z).wf = true := by
  intro zs hzs z hz
  obtain ⟨x, hx, rfl⟩ := List.mem_map.1 hzs
  obtain ⟨_, _, _, _, _, hw⟩ := h.each x hx
  exact hw z hz
/-- n nil rows, newly made. -/
theorem Own2.made (w : World) (n : Nat) (e : TypeId) (hB : B ≤ w.heap.size) (hm : n ≤ maxLen) : Own2 (w.alloc (.cells (madeCells #[.slice none 0 0] n) e)) B (.slice (some ⟨w.heap.size, 0, none⟩) n n) (List.replicate n (.slice none 0 0, [])) := by
  have e1 : (w.alloc (.cells (madeCells #[.slice none 0 0] n) e)).heap[w.heap.size]? = some (.cells (madeCells #[.slice none 0 0] n) e) := (MapKept.heap_alloc w _).1
  have hs : (madeCells #[Value.slice none 0 0] n).size = n := size_madeCells _ _
  refine ⟨⟨by simp, .inr ⟨w.heap.size, n, by simp, hB, by simp, by simp, hm, fun j u hu => ?_, fun j hj => ?_⟩⟩, fun x hx => ?_, fun x hx k hk => ?_⟩
  · unfold World.cell?
    rw [e1]
    have ht := toList_madeCells_one (.slice none 0 0) n
    simp only [Option.isSome_none, Bool.false_eq_true, if_false]
    rw [← Array.getElem?_toList, ht]
    simpa using hu
  · unfold World.cell? World.frozen?
    rw [e1]
    simp [show j < (madeCells #[Value.slice none 0 0] n).size by rw [hs]; omega]
  · obtain ⟨_, rfl⟩ := List.mem_replicate.1 hx
    exact ⟨none, 0, 0, rfl, Own.nil _ _ _, fun _ h => by cases h⟩
  · obtain ⟨_, rfl⟩ := List.mem_replicate.1 hx
    simp [Value.ownBlock] at hk
end
/-- n zero numbers, newly made. -/
theorem OwnK.made (k : IntKind) {B : Nat} (w : World) (n : Nat) (e : TypeId) (hB : B ≤ w.heap.size) (hm : n ≤ maxLen) : OwnK k (w.alloc (.cells (madeCells #[.int k 0] n) e)) B (.slice (some ⟨w.heap.size, 0, none⟩) n n) (List.replicate n 0) := by
  have e1 : (w.alloc (.cells (madeCells #[.int k 0] n) e)).heap[w.heap.size]? = some (.cells (madeCells #[.int k 0] n) e) := (MapKept.heap_alloc w _).1
  have hs : (madeCells #[Value.int k 0] n).size = n := size_madeCells _ _
  refine ⟨by simp, .inr ⟨w.heap.size, n, by simp, hB, by simp, by simp, hm, fun j u hu => ?_, fun j hj => ?_⟩⟩
  · unfold World.cell?
    rw [e1]
    have ht := toList_madeCells_one (.int k 0) n
    simp only [Option.isSome_none, Bool.false_eq_true, if_false]
    rw [← Array.getElem?_toList, ht]
    simpa using hu
  · unfold World.cell? World.frozen?
    rw [e1]
    simp [show j < (madeCells #[Value.int k 0] n).size by rw [hs]; omega]
theorem zeros_wf (k : IntKind) (n : Nat) : ∀ z ∈ List.replicate n (0 : Int), (Lit.int k z).wf = true := by
  intro z hz
  obtain ⟨_, rfl⟩ := List.mem_replicate.1 hz
  cases k <;> decide
end Go.Proofs.YtjlhldndomaknaaDoor
