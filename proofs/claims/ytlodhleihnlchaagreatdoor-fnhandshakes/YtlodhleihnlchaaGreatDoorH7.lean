/- Texts of this seat that several laws rest on, laid into one. Conditions: as each theorem states. -/
import Derived.Test.YtlodhleihnlchaaGreatDoorH1
import Derived.Test.YtlodhleihnlchaaGreatDoorH3
import Derived.Test.YtlodhleihnlchaaGreatDoorH6
import Derived.Maps.OwnSet
import Derived.Maps.RangeWalk
import Derived.Maps.OwnIn
import Derived.Sort.MapsRangeIn
import Derived.Sort.KeysCollected
import Derived.RangeFuncMany
import Derived.RangeFuncWrites
import Derived.RangeFuncNested
import Derived.TacticsInMore
import Derived.OwnWalkIn
import Derived.RegionIn
import Derived.LoopNIn
import Derived.LoopIn
import Derived.Shelf.Abstract
namespace Go.Proofs.YtlodhleihnlchaaGreatDoor
open Go.RowKit
set_option maxRecDepth 100000
set_option linter.unusedVariables false

structure PRow (w : World) (B : Nat) (a : Option Addr) (len cap : Nat) (ps : List PinD) : Prop where
  length : ps.length = len
  fits : len ≤ cap
  most : cap ≤ maxLen
  names : ∀ p ∈ ps, p.n.size ≤ maxLen
  cells : 0 < len → ∃ b off, a = some ⟨b, off, none⟩ ∧ b < B ∧ ∀ j, j < len → ∀ i v, (ps[j]?.getD pin0).vals[i]? = some v → w.cell? ⟨b, off + j * 5 + i, none⟩ = some v
section
variable {w w' : World} {B B' : Nat} {a : Option Addr} {len cap : Nat} {ps : List PinD}
theorem PRow.keep (h : PRow w B a len cap ps) (hk : ∀ i, i < B → w'.heap[i]? = w.heap[i]?) : PRow w' B a len cap ps :=
  ⟨h.length, h.fits, h.most, h.names, fun hp => by
    obtain ⟨b, off, e, hb, hc⟩ := h.cells hp
    exact ⟨b, off, e, hb, fun j hj i v hv => (World.cell?_of_block (w := w) (hk b hb)).trans (hc j hj i v hv)⟩⟩
theorem PRow.below (h : PRow w B a len cap ps) (hb : Below B w w') : PRow w' B a len cap ps := h.keep hb.block
theorem PRow.more (h : PRow w B a len cap ps) (hB : B ≤ B') : PRow w B' a len cap ps :=
  ⟨h.length, h.fits, h.most, h.names, fun hp => by
    obtain ⟨b, off, e, hb, hc⟩ := h.cells hp
    exact ⟨b, off, e, by omega, hc⟩⟩
theorem PRow.on (h : PRow w w.heap.size a len cap ps) (hb : Below w.heap.size w w') : PRow w' w'.heap.size a len cap ps := (h.below hb).more hb.size
theorem PRow.alloc (h : PRow w B a len cap ps) (hB : B ≤ w.heap.size) (o : Obj) : PRow (w.alloc o) B a len cap ps := h.below ((Below.refl B w).alloc hB o)
theorem PRow.nil (w : World) (B : Nat) : PRow w B none 0 0 [] := ⟨rfl, Nat.le_refl _, Nat.zero_le _, by simp, fun h => absurd h (by omega)⟩
theorem PRow.mem (h : PRow w B a len cap ps) {k : Nat} (hk : k < len) : (ps[k]?.getD pin0) ∈ ps := by
  have := h.length
  rw [List.getElem?_eq_getElem (by omega)]
  exact List.getElem_mem _
theorem PRow.name (h : PRow w B a len cap ps) {k : Nat} (hk : k < len) : (ps[k]?.getD pin0).n.size ≤ maxLen := h.names _ (h.mem hk)
end

def OwnP (w : World) (B : Nat) (v : Value) (ps : List PinD) : Prop := Own w B 5 v ps.length (flat ps)
section
variable {w w' : World} {B : Nat} {v : Value} {ps : List PinD}
theorem OwnP.row {a : Option Addr} {len cap : Nat} (h : OwnP w B (.slice a len cap) ps) (hs : ∀ p ∈ ps, p.n.size ≤ maxLen) : PRow w w.heap.size a len cap ps := by
  rcases h.2 with ⟨e, h0⟩ | ⟨g, c, e, hb, hg, h1, h2, hc, _⟩
  · injection e with e1 e2 e3
    subst e1; subst e2; subst e3
    obtain rfl : ps = [] := List.eq_nil_of_length_eq_zero h0
    exact PRow.nil _ _
  · injection e with e1 e2 e3
    subst e1; subst e2; subst e3
    exact ⟨rfl, h1, h2, hs, fun hp => ⟨g, 0, rfl, hg, fun j hj i v hv => by
      rw [Nat.zero_add]
      exact hc _ v (flat_get ps j i v hj hv)⟩⟩
theorem OwnP.nil (w : World) (B : Nat) : OwnP w B (.slice none 0 0) [] := Own.nil w B 5
theorem OwnP.alloc (h : OwnP w B v ps) (o : Obj) : OwnP (w.alloc o) B v ps := Own.alloc h o
theorem OwnP.below (h : OwnP w B v ps) (hb : Below w.heap.size w w') : OwnP w' B v ps := Own.below h hb
theorem OwnP.form (h : OwnP w B v ps) : ∃ a cap, v = .slice a ps.length cap ∧ ps.length ≤ cap ∧ cap ≤ maxLen ∧ (a = none → ps.length = 0 ∧ cap = 0) := Own.form h
theorem OwnP.less {B' : Nat} (h : OwnP w B v ps) (hB : B' ≤ B) : OwnP w B' v ps := Own.less h hB
end
theorem Own.putCell {w : World} {B s g n c : Nat} {xs : List Value} {i : Nat} {u : Value} (h : Own w B s (.slice (some ⟨g, 0, none⟩) n c) n xs) (hi : i < xs.length) : Own (w.setCell ⟨g, i, none⟩ u) B s (.slice (some ⟨g, 0, none⟩) n c) n (xs.set i u) := by
  have hlen := h.1
  rcases h.2 with ⟨e, h0⟩ | ⟨g', c', e, hB, hg, hn, hm, hcell, hroom⟩
  · cases e
  injection e with e1 e2 e3
  injection e1 with e1
  injection e1 with e1 _ _
  subst e1
  subst e3
  have hfit : n * s ≤ c * s := Nat.mul_le_mul_right _ hn
  refine ⟨by simpa using hlen, .inr ⟨g, c, rfl, hB, by simpa [World.setCell] using hg, hn, hm, fun j u' hu => ?_, fun j hj => ?_⟩⟩
  · have hj := (List.getElem?_eq_some_iff.1 hu).1
    simp at hj
    by_cases hji : j = i
    · subst hji
      obtain ⟨u0, hu0⟩ := Option.isSome_iff_exists.1 (hroom j (by omega)).1
      rw [World.cell?_setCell_same _ _ _ (by rw [hu0]), ← hu]
      simp [hj]
    · rw [World.cell?_setCell_other _ _ _ _ (fun e => by injection e with _ e2; omega)]
      refine hcell j u' ?_
      rw [← hu]
      simp [show ¬ i = j by omega]
  · obtain ⟨q1, q2⟩ := hroom j hj
    refine ⟨?_, by rw [World.frozen?_setCell]; exact q2⟩
    obtain ⟨u0, hu0⟩ := Option.isSome_iff_exists.1 q1
    obtain ⟨v, hv⟩ := cell?_setCell_some (w := w) (p := ⟨g, i, none⟩) (x := u) (q := ⟨g, j, none⟩) (v := u0) hu0
    rw [hv]; rfl
theorem OwnP.put {w : World} {B g n c : Nat} {ps : List PinD} {k : Nat} {p : PinD} (h : OwnP w B (.slice (some ⟨g, 0, none⟩) n c) ps) (hk : k < ps.length) :
    OwnP (((((w.setCell ⟨g, k * 5, none⟩ (.string p.n)).setCell ⟨g, k * 5 + 1, none⟩ (.int .i64 p.a)).setCell ⟨g, k * 5 + 2, none⟩ (.int .i64 p.b)).setCell ⟨g, k * 5 + 3, none⟩ (.int .i64 p.e)).setCell ⟨g, k * 5 + 4, none⟩ (.int .i64 p.u)) B (.slice (some ⟨g, 0, none⟩) n c) (ps.set k p) := by
  have hn : n = ps.length := by
    obtain ⟨a, cap, e, _⟩ := h.form
    injection e
  subst hn
  have hl := flat_length ps
  unfold OwnP
  rw [flat_set ps k p hk, List.length_set]
  refine Own.putCell (Own.putCell (Own.putCell (Own.putCell (Own.putCell h ?_) ?_) ?_) ?_) ?_ <;> (try simp only [List.length_set]) <;> omega
theorem OwnP.cell {w : World} {B g n c : Nat} {ps : List PinD} (h : OwnP w B (.slice (some ⟨g, 0, none⟩) n c) ps) {k i : Nat} (hk : k < ps.length) {u : Value} (hu : (ps[k]?.getD pin0).vals[i]? = some u) :
    w.cell? ⟨g, k * 5 + i, none⟩ = some u ∧ w.frozen? ⟨g, k * 5 + i, none⟩ = false := by
  rcases h.2 with ⟨e, h0⟩ | ⟨g', c', e, hB, hg, hn, hm, hcell, hroom⟩
  · cases e
  injection e with e1 e2 e3
  injection e1 with e1
  injection e1 with e1 _ _
  subst e1
  subst e3
  have hi : i < 5 := by have := (List.getElem?_eq_some_iff.1 hu).1; simpa [PinD.vals_length] using this
  have : (k + 1) * 5 ≤ c * 5 := Nat.mul_le_mul_right _ (by omega)
  exact ⟨hcell _ _ (flat_get ps k i u hk hu), (hroom _ (by omega)).2⟩
end Go.Proofs.YtlodhleihnlchaaGreatDoor
namespace Go.Proofs.YtlodhleihnlchaaGreatDoor
open Go.RowKit
set_option maxRecDepth 100000
set_option linter.unusedVariables false

end Go.Proofs.YtlodhleihnlchaaGreatDoor
namespace Go.Proofs.YtlodhleihnlchaaGreatDoor
open Go.RowKit
set_option maxRecDepth 100000
set_option linter.unusedVariables false

end Go.Proofs.YtlodhleihnlchaaGreatDoor
namespace Go.Proofs.YtlodhleihnlchaaGreatDoor
open Go.RowKit Go.Maps Go.WideShapes
open Go.ChangeMaps (putKey delKey notKey)
set_option maxRecDepth 100000
set_option linter.unusedVariables false

def pinR (v : Value) : Option (DataW PinD × List MemPlace) :=
  match v with
  | .agg cs => match cs.toList with
    | [.string n, .int .i64 a, .int .i64 b, .int .i64 e, .int .i64 u] => some (.held ⟨n, a, b, e, u⟩, [])
    | _ => none
  | _ => none
def ent (p : PinD) : Lit × DataW PinD := (.string p.nm, .held p)
theorem same_str (x y : List UInt8) : (Lit.string x).sameKey (.string y) = decide (x = y) := by
  show (x == y) = decide (x = y)
  by_cases e : x = y <;> simp [e]
abbrev Apart (ps : List PinD) : Prop := ps.Pairwise fun p q => p.nm ≠ q.nm
theorem Rise.apart {ps : List PinD} (h : Rise ps) : Apart ps := h.imp fun h => nlt_ne h
theorem apart_inj : ∀ {ps : List PinD}, Apart ps → ∀ {p q : PinD}, p ∈ ps → q ∈ ps → p.nm = q.nm → p = q
  | [], _, _, _, h, _, _ => by cases h
  | x :: r, hr, p, q, hp, hq, e => by
    obtain ⟨h1, h2⟩ := List.pairwise_cons.1 hr
    rcases List.mem_cons.1 hp with rfl | hp'
    · rcases List.mem_cons.1 hq with rfl | hq'
      · rfl
      · exact absurd e (h1 q hq')
    · rcases List.mem_cons.1 hq with rfl | hq'
      · exact absurd e.symm (h1 p hp')
      · exact apart_inj h2 hp' hq' e
def MapIs (D : DataW PinD) (ps : List PinD) : Prop := ∃ es, D = .map es ∧ es.Perm (ps.map ent)
theorem MapIs.nil : MapIs (.map []) [] := ⟨[], rfl, .refl _⟩
theorem MapIs.put {D : DataW PinD} {ps : List PinD} (h : MapIs D ps) {p : PinD} (hn : ∀ q ∈ ps, q.nm ≠ p.nm) : MapIs (D.put (.string p.nm) (.held p)) (ps ++ [p]) := by
  obtain ⟨es, rfl, hp⟩ := h
  refine ⟨_, DataW.put_eq _ _ _, ?_⟩
  unfold putKey
  have hf : es.filter (notKey (.string p.nm)) = es := by
    refine List.filter_eq_self.2 fun x hx => ?_
    obtain ⟨q, hq, rfl⟩ := List.mem_map.1 (hp.mem_iff.1 hx)
    have := hn q hq
    simp [notKey, ent, same_str, this]
  have e : delKey (.string p.nm) es = es := hf
  refine (insert_perm _ _).trans ?_
  rw [List.map_append]
  have h1 : ((Lit.string p.nm, DataW.held p) :: es.filter (notKey (.string p.nm))).Perm (ent p :: ps.map ent) := by
    rw [hf]
    exact hp.cons _
  exact h1.trans (List.perm_append_singleton _ _).symm
theorem MapIs.size {D : DataW PinD} {ps : List PinD} (h : MapIs D ps) : Maps.size D = ps.length := by
  obtain ⟨es, rfl, hp⟩ := h
  rw [Maps.size_eq, hp.length_eq, List.length_map]

structure PMap (w : World) (b : Nat) (ps : List PinD) : Prop where
  own : ∃ D, w.ownsMap Tryz.prog 9 pinR b ps.length D ∧ MapIs D ps
  apart : Apart ps
section
variable {w w' : World} {b : Nat} {ps : List PinD}
theorem PMap.lt (h : PMap w b ps) : b < w.heap.size := by
  obtain ⟨D, ho, _⟩ := h.own
  exact ho.lt
theorem PMap.keep (h : PMap w b ps) (hk : w'.heap[b]? = w.heap[b]?) : PMap w' b ps := by
  obtain ⟨D, ⟨es, c, hb, r⟩, hm⟩ := h.own
  exact ⟨⟨D, ⟨es, c, hk.trans hb, r⟩, hm⟩, h.apart⟩
theorem PMap.on (h : PMap w b ps) (hb : Below w.heap.size w w') : PMap w' b ps := h.keep (hb.block b h.lt)
theorem PMap.alloc (h : PMap w b ps) (o : Obj) : PMap (w.alloc o) b ps := h.on (bal (Below.refl _ _) o)
theorem PMap.new (w : World) : PMap (w.alloc (.map #[] 0)) w.heap.size [] := ⟨⟨_, World.ownsMap_made w _ _ _, MapIs.nil⟩, .nil⟩
theorem PMap.len (h : PMap w b ps) (ty : TypeId) : (Builtin.len_ #[204] ty #[.map (some b)]).run Tryz.prog w = .ok (.int .i64 ps.length) w := by
  obtain ⟨D, ho, hm⟩ := h.own
  rw [ho.len Tryz.underlying204 ty, hm.size]
end
end Go.Proofs.YtlodhleihnlchaaGreatDoor
namespace Go.Proofs.YtlodhleihnlchaaGreatDoor
open Go.RowKit
set_option maxRecDepth 100000
set_option linter.unusedVariables false

end Go.Proofs.YtlodhleihnlchaaGreatDoor
namespace Go.Proofs.YtlodhleihnlchaaGreatDoor
open Go.RowKit Go.Maps Go.Sort
set_option maxRecDepth 100000
set_option linter.unusedVariables false

def CollP (ps : List PinD) (left : Lit → Bool) (xs : List PinD) : Prop := xs.Nodup ∧ ∀ x, x ∈ xs ↔ (x ∈ ps ∧ left (.string x.nm) = false)
theorem CollP.step {ps : List PinD} {left : Lit → Bool} {xs : List PinD} {c : PinD} {l : List UInt8} (h : CollP ps left xs) (ha : Apart ps) (hlk : left (.string l) = true) (hf : findP ps l = some c) : CollP ps (fun z => left z && !z.sameKey (.string l)) (xs ++ [c]) := by
  obtain ⟨hc, hl⟩ := findP_mem hf
  have hnew : c ∉ xs := fun hx => by
    have := ((h.2 c).1 hx).2
    rw [hl, hlk] at this
    cases this
  refine ⟨List.nodup_append.2 ⟨h.1, by simp, fun a ha' b hb => by simp at hb; subst hb; exact fun e => hnew (e ▸ ha')⟩, fun x => ?_⟩
  rw [List.mem_append, h.2 x]
  constructor
  · rintro (⟨h1, h2⟩ | hx)
    · exact ⟨h1, by simp [h2]⟩
    · simp at hx
      subst hx
      exact ⟨hc, by simp [hl, same_str]⟩
  · rintro ⟨h1, h2⟩
    by_cases e : x.nm = l
    · refine .inr ?_
      rw [apart_inj ha h1 hc (e.trans hl.symm)]
      simp
    · refine .inl ⟨h1, ?_⟩
      simpa [same_str, e] using h2
end Go.Proofs.YtlodhleihnlchaaGreatDoor
namespace Go.Proofs.YtlodhleihnlchaaGreatDoor
open Go.RowKit
set_option maxRecDepth 100000
set_option linter.unusedVariables false

structure FillP (w : World) (n : Nat) (ps : List PinD) (k : Nat) (wr : World) : Prop where
  told : ∀ j, j < k → ∀ i v, (ps[j]?.getD pin0).vals[i]? = some v → wr.cell? ⟨w.heap.size, j * 5 + i, none⟩ = some v
  room : ∀ j, j < n * 5 → (∃ u, wr.cell? ⟨w.heap.size, j, none⟩ = some u) ∧ wr.frozen? ⟨w.heap.size, j, none⟩ = false
  lt : w.heap.size < wr.heap.size
  bel : Below w.heap.size w wr
theorem FillP.new (w : World) (n : Nat) (ps : List PinD) (cs : Array Value) (t : TypeId) (hs : cs.size = n * 5) : FillP w n ps 0 (w.alloc (.cells cs t)) := by
  have e1 : (w.alloc (.cells cs t)).heap[w.heap.size]? = some (.cells cs t) := (MapKept.heap_alloc w _).1
  refine ⟨fun j hj => absurd hj (by omega), fun j hj => ?_, by simp, bal (Below.refl _ _) _⟩
  unfold World.cell? World.frozen?
  rw [e1]
  exact ⟨⟨cs[j], by simp [show j < cs.size by omega]⟩, by simp⟩
theorem FillP.on {w wr wr' : World} {n : Nat} {ps : List PinD} {k : Nat} (h : FillP w n ps k wr) (hb : Below wr.heap.size wr wr') : FillP w n ps k wr' := by
  have e := hb.block w.heap.size h.lt
  refine ⟨fun j hj i v hv => cell_keep hb (h.told j hj i v hv), fun j hj => ?_, Nat.lt_of_lt_of_le h.lt hb.size, btr h.bel hb⟩
  rw [World.cell?_of_block (w := wr) (a := ⟨w.heap.size, j, none⟩) e, World.frozen?_of_block (w := wr) (a := ⟨w.heap.size, j, none⟩) e]
  exact h.room j hj
theorem FillP.one {w wr : World} {n : Nat} {ps : List PinD} {k : Nat} (h : FillP w n ps k wr) {j : Nat} (hj : k * 5 ≤ j) (v : Value) : FillP w n ps k (wr.setCell ⟨w.heap.size, j, none⟩ v) := by
  refine ⟨fun i hi c u hu => ?_, fun i hi => ?_, by simpa [World.setCell] using h.lt, bset h.bel (Nat.le_refl _) v⟩
  · have hc : c < 5 := by have := (List.getElem?_eq_some_iff.1 hu).1; simpa [PinD.vals_length] using this
    rw [World.cell?_setCell_other _ _ _ _ (fun e => by injection e with _ e2; omega)]
    exact h.told i hi c u hu
  · obtain ⟨⟨u, hu⟩, hf⟩ := h.room i hi
    exact ⟨cell?_setCell_some (w := wr) (p := ⟨w.heap.size, j, none⟩) (x := v) (q := ⟨w.heap.size, i, none⟩) (v := u) hu, by rw [World.frozen?_setCell]; exact hf⟩
theorem set5_cell {w : World} {g k : Nat} {p : PinD} (hs : ∀ i, i < 5 → ∃ u, w.cell? ⟨g, k * 5 + i, none⟩ = some u) (i : Nat) (v : Value) (hv : p.vals[i]? = some v) :
    (((((w.setCell ⟨g, k * 5, none⟩ (.string p.n)).setCell ⟨g, k * 5 + 1, none⟩ (.int .i64 p.a)).setCell ⟨g, k * 5 + 2, none⟩ (.int .i64 p.b)).setCell ⟨g, k * 5 + 3, none⟩ (.int .i64 p.e)).setCell ⟨g, k * 5 + 4, none⟩ (.int .i64 p.u)).cell? ⟨g, k * 5 + i, none⟩ = some v := by
  have hi : i < 5 := by have := (List.getElem?_eq_some_iff.1 hv).1; simpa [PinD.vals_length] using this
  have ne : ∀ {a b : Nat}, a ≠ b → (⟨g, k * 5 + a, none⟩ : Addr) ≠ ⟨g, k * 5 + b, none⟩ := fun h e => by injection e with _ e2; omega
  have ne0 : ∀ {b : Nat}, b ≠ 0 → (⟨g, k * 5 + b, none⟩ : Addr) ≠ ⟨g, k * 5, none⟩ := fun h e => by injection e with _ e2; omega
  have st : ∀ (w : World) (q : Addr) (x : Value), (∀ i, i < 5 → ∃ u, w.cell? ⟨g, k * 5 + i, none⟩ = some u) → ∀ i, i < 5 → ∃ u, (w.setCell q x).cell? ⟨g, k * 5 + i, none⟩ = some u := fun w q x h i hi => by
    obtain ⟨u, hu⟩ := h i hi
    exact cell?_setCell_some (w := w) (p := q) (x := x) (q := ⟨g, k * 5 + i, none⟩) (v := u) hu
  have s1 := st _ ⟨g, k * 5, none⟩ (.string p.n) hs
  have s2 := st _ ⟨g, k * 5 + 1, none⟩ (.int .i64 p.a) s1
  have s3 := st _ ⟨g, k * 5 + 2, none⟩ (.int .i64 p.b) s2
  have s4 := st _ ⟨g, k * 5 + 3, none⟩ (.int .i64 p.e) s3
  match i, hi with
  | 0, _ =>
    obtain ⟨u, hu⟩ := hs 0 (by omega)
    rw [World.cell?_setCell_other _ _ _ _ (by intro e; injection e with _ e2; omega), World.cell?_setCell_other _ _ _ _ (by intro e; injection e with _ e2; omega), World.cell?_setCell_other _ _ _ _ (by intro e; injection e with _ e2; omega), World.cell?_setCell_other _ _ _ _ (by intro e; injection e with _ e2; omega)]
    rw [show k * 5 + 0 = k * 5 from rfl] at hu ⊢
    rw [World.cell?_setCell_same _ _ _ (by rw [hu])]
    exact hv
  | 1, _ =>
    obtain ⟨u, hu⟩ := s1 1 (by omega)
    rw [World.cell?_setCell_other _ _ _ _ (by intro e; injection e with _ e2; omega), World.cell?_setCell_other _ _ _ _ (by intro e; injection e with _ e2; omega), World.cell?_setCell_other _ _ _ _ (by intro e; injection e with _ e2; omega), World.cell?_setCell_same _ _ _ (by rw [hu])]
    exact hv
  | 2, _ =>
    obtain ⟨u, hu⟩ := s2 2 (by omega)
    rw [World.cell?_setCell_other _ _ _ _ (by intro e; injection e with _ e2; omega), World.cell?_setCell_other _ _ _ _ (by intro e; injection e with _ e2; omega), World.cell?_setCell_same _ _ _ (by rw [hu])]
    exact hv
  | 3, _ =>
    obtain ⟨u, hu⟩ := s3 3 (by omega)
    rw [World.cell?_setCell_other _ _ _ _ (by intro e; injection e with _ e2; omega), World.cell?_setCell_same _ _ _ (by rw [hu])]
    exact hv
  | 4, _ =>
    obtain ⟨u, hu⟩ := s4 4 (by omega)
    rw [World.cell?_setCell_same _ _ _ (by rw [hu])]
    exact hv
theorem FillP.step {w wr : World} {n : Nat} {ps : List PinD} {k : Nat} (h : FillP w n ps k wr) (hk : k < n) {p : PinD} (hp : ps[k]?.getD pin0 = p) :
    FillP w n ps (k + 1) (((((wr.setCell ⟨w.heap.size, k * 5, none⟩ (.string p.n)).setCell ⟨w.heap.size, k * 5 + 1, none⟩ (.int .i64 p.a)).setCell ⟨w.heap.size, k * 5 + 2, none⟩ (.int .i64 p.b)).setCell ⟨w.heap.size, k * 5 + 3, none⟩ (.int .i64 p.e)).setCell ⟨w.heap.size, k * 5 + 4, none⟩ (.int .i64 p.u)) := by
  have hall := ((((h.one (j := k * 5) (by omega) (.string p.n)).one (j := k * 5 + 1) (by omega) (.int .i64 p.a)).one (j := k * 5 + 2) (by omega) (.int .i64 p.b)).one (j := k * 5 + 3) (by omega) (.int .i64 p.e)).one (j := k * 5 + 4) (by omega) (.int .i64 p.u)
  refine ⟨fun j hj i v hv => ?_, hall.room, hall.lt, hall.bel⟩
  by_cases e : j = k
  · subst e
    rw [hp] at hv
    exact set5_cell (fun i hi => (h.room (j * 5 + i) (by omega)).1) i v hv
  · exact hall.told j (by omega) i v hv
theorem FillP.own {w wr : World} {n : Nat} {ps : List PinD} (h : FillP w n ps n wr) (hl : ps.length = n) (hm : n ≤ maxLen) : OwnP wr w.heap.size (.slice (some ⟨w.heap.size, 0, none⟩) n n) ps := by
  subst hl
  refine ⟨flat_length ps, .inr ⟨w.heap.size, _, rfl, Nat.le_refl _, h.lt, Nat.le_refl _, hm, fun j u hu => ?_, fun j hj => ?_⟩⟩
  · have hj := (List.getElem?_eq_some_iff.1 hu).1
    rw [flat_length] at hj
    have hjk : j / 5 < ps.length := by omega
    have hjj : j / 5 * 5 + j % 5 = j := by omega
    have h5 : j % 5 < 5 := Nat.mod_lt _ (by omega)
    have hv : (ps[j / 5]?.getD pin0).vals[j % 5]? = some ((ps[j / 5]?.getD pin0).vals[j % 5]'(by rw [PinD.vals_length]; exact h5)) := List.getElem?_eq_getElem _
    have q1 := flat_get ps (j / 5) (j % 5) _ hjk hv
    have q2 := h.told (j / 5) hjk (j % 5) _ hv
    rw [hjj] at q1 q2
    rw [hu] at q1
    injection q1 with q1
    rw [q1]
    exact q2
  · obtain ⟨⟨u, hu⟩, hf⟩ := h.room j hj
    exact ⟨by rw [hu]; rfl, hf⟩

end Go.Proofs.YtlodhleihnlchaaGreatDoor
namespace Go.Proofs.YtlodhleihnlchaaGreatDoor
open Go.RowKit Go.Maps Go.Sort
set_option maxRecDepth 100000
set_option linter.unusedVariables false
attribute [local go_sem] Oper.semAt_some

structure ApI (w : World) (bx : Nat) (pre : List PinD) (W : World) : Prop where
  box : ∃ v, At bx [v] W ∧ OwnP W w.heap.size v pre ∧ (pre = [] → v = .slice none 0 0) ∧ v.ownBlock ≠ some bx
  bel : Below w.heap.size w W
  lt : w.heap.size ≤ bx
theorem Own.isCells {w : World} {B size : Nat} {v : Value} {n : Nat} {xs : List Value} (h : Own w B size v n xs) (hn : 0 < n) (hs : 0 < size) : ∀ (j : Nat) (o : Obj), v.ownBlock = some j → w.heap[j]? = some o → o.isCells = true := by
  intro j o hj ho
  rcases h.2 with ⟨rfl, h0⟩ | ⟨g, cap, rfl, _, _, h1, _, _, hroom⟩
  · omega
  · simp [Value.ownBlock] at hj
    subst hj
    have : 0 < cap * size := Nat.mul_pos (by omega) hs
    have hc := (hroom 0 this).1
    unfold World.cell? at hc
    rw [ho] at hc
    cases o <;> simp_all [Obj.isCells]
theorem ApI.from {w : World} {bx B : Nat} (hB : bx < B) : OwnFrom B (ApI w bx) := fun s W W' row hs hgr hr => by
  obtain ⟨v, hA, hO, hn, hv⟩ := hs.box
  have hne : ∀ k, row = some k → k ≠ bx := fun k e h => by have := (hr k e).1; omega
  refine ⟨⟨v, hA.keep (fun hl => hgr.block bx hl (fun e => hne bx e.symm rfl)), ?_, hn, hv⟩, ?_, hs.lt⟩
  · refine Own.keep hO hgr.size (fun k hk => hgr.block k (Own.lt hO k hk).2 (fun e => ?_))
    obtain ⟨hB', o, ho, hc⟩ := hr k e.symm
    cases s with
    | nil => rw [hn rfl] at hk; simp [Value.ownBlock] at hk
    | cons p r =>
      have := Own.isCells hO (by simp) (by omega) k o hk ho
      rw [hc] at this
      cases this
  · exact hs.bel.grown hgr hs.bel.size (fun k e => by have := (hr k e).1; have := hs.lt; omega)

theorem At.isCells {g : Nat} {v : Value} {cs : List Value} {w : World} (h : At g (v :: cs) w) {o : Obj} (ho : w.heap[g]? = some o) : o.isCells = true := by
  have hc := h.cell 0 v rfl
  unfold World.cell? at hc
  rw [ho] at hc
  cases o <;> simp_all [Obj.isCells]
def BoxA (mk : Nat → Act) (bx : Nat) (x : PinD) (a' : Act) (W : World) : Prop := ∃ g, a' = mk g ∧ At g x.vals W
theorem BoxA.from {mk : Nat → Act} {bx B : Nat} (x : PinD) (a' : Act) : OwnFrom B (fun (_ : Unit) W => BoxA mk bx x a' W) := fun _ W W' row hs hgr hr => by
  obtain ⟨g, rfl, hA⟩ := hs
  refine ⟨g, rfl, hA.keep (fun hl => hgr.block g hl (fun e => ?_))⟩
  obtain ⟨_, o, ho, hc⟩ := hr g e.symm
  have := At.isCells (cs := [.int .i64 x.a, .int .i64 x.b, .int .i64 x.e, .int .i64 x.u]) hA ho
  rw [hc] at this
  cases this
theorem ApI.step {w W w3 : World} {bx : Nat} {pre : List PinD} {x : PinD} {v v3 : Value} {o : Obj} (h : ApI w bx pre W) (hA : At bx [v] W) (hO : OwnP W w.heap.size v pre) (hn : pre = [] → v = .slice none 0 0) (hv : v.ownBlock ≠ some bx)
    (hown : Own w3 w.heap.size 5 v3 (pre.length + 1) (flat pre ++ x.vals)) (hgrow : (W.alloc o).grownBy w3 v.ownBlock) (hat : v3.ownBlock = v.ownBlock ∨ v3.ownBlock = some (W.alloc o).heap.size) :
    ApI w bx (pre ++ [x]) (w3.setCell ⟨bx, 0, none⟩ v3) ∧ KeepsOthers W (w3.setCell ⟨bx, 0, none⟩ v3) := by
  have hlt := hA.lt (by simp)
  have hv3 : v3.ownBlock ≠ some bx := by
    rcases hat with e | e
    · rw [e]; exact hv
    · rw [e]; intro e2; injection e2 with e2; simp at e2; omega
  have hO2 : OwnP w3 w.heap.size v3 (pre ++ [x]) := by
    unfold OwnP
    rw [flat_append, List.length_append]
    simpa [flat] using hown
  have hb3 : Below w.heap.size w w3 := (bal h.bel o).grown hgrow (bal h.bel o).size (fun k e => (Own.lt hO k e).1)
  have hA3 : At bx [v] w3 := (hA.alloc o).kept hgrow (fun e => hv e.symm)
  refine ⟨⟨⟨v3, ?_, ?_, fun e => by simp at e, hv3⟩, bset hb3 h.lt v3, h.lt⟩, ?_⟩
  · have := hA3.set 0 v3
    simpa using this
  · exact Own.setCell hO2 (fun k hk e => hv3 (by rw [hk]; exact congrArg some e)) v3
  · refine ((KeepsOthers.alloc W o).trans (KeepsOthers.of_grownBy hgrow ?_)).trans (KeepsOthers.setCell _ _ _)
    intro j o' hj ho'
    cases pre with
    | nil => rw [hn rfl] at hj; simp [Value.ownBlock] at hj
    | cons p r => exact Own.isCells (OwnP.alloc hO o) (by simp) (by omega) j o' hj ho'

end Go.Proofs.YtlodhleihnlchaaGreatDoor
