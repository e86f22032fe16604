/- Maps of pins that a call makes: what is known of one, and what a look, a store, a deletion make of it. No condition beside what each theorem states. -/
import Derived.Test.YtcnpocppgghejaaDoorG7
import Derived.Maps.OwnSet
import Derived.Maps.RangeWalk
namespace Go.Proofs.YtcnpocppgghejaaDoor
open Go.RowKit Go.Maps Go.WideShapes
open Go.ChangeMaps (putKey delKey notKey)
set_option maxRecDepth 100000
set_option linter.unusedVariables false

/-- How a pin in a map reads. -/
def pinR (v : Value) : Option (DataW PinD × List MemPlace) :=
  match v with
  | .agg cs => match cs.toList with
    | [.string n, .int .i64 a, .int .i64 b, .int .i64 e, .int .i64 u] => some (.held ⟨n, a, b, e, u⟩, [])
    | _ => none
  | _ => none
theorem pinR_mk (p : PinD) : pinR (P5 p) = some (.held p, []) := rfl
theorem pinR_inv {v : Value} {y : DataW PinD × List MemPlace} (h : pinR v = some y) : ∃ p, v = P5 p ∧ y = (.held p, []) := by
  unfold pinR at h
  split at h
  · rename_i cs
    split at h
    · rename_i n a b e u hcs
      injection h with h
      refine ⟨⟨n, a, b, e, u⟩, ?_, h.symm⟩
      have : cs = #[.string n, .int .i64 a, .int .i64 b, .int .i64 e, .int .i64 u] := by
        rw [← Array.toList_inj, hcs]
      rw [this]
    · cases h
  · cases h
def ent (p : PinD) : Lit × DataW PinD := (.string p.nm, .held p)
theorem same_str (x y : List UInt8) : (Lit.string x).sameKey (.string y) = decide (x = y) := by
  show (x == y) = decide (x = y)
  by_cases e : x = y <;> simp [e]
abbrev Apart (ps : List PinD) : Prop := ps.Pairwise fun p q => p.nm ≠ q.nm
theorem Rise.apart {ps : List PinD} (h : Rise ps) : Apart ps := h.imp fun h => nlt_ne h
theorem apart_inj : ∀ {ps : List PinD}, Apart ps → ∀ {p q : PinD}, p ∈ ps → q ∈ ps → p.nm = q.nm → p = q
  | [], _, _, _, h, _, _ => by cases h
  | x :: r, hr, p, q, hp, hq, e => by
    obtain ⟨h1, h2⟩ := List.pairwise_cons.1 hr
    rcases List.mem_cons.1 hp with rfl | hp'
    · rcases List.mem_cons.1 hq with rfl | hq'
      · rfl
      · exact absurd e (h1 q hq')
    · rcases List.mem_cons.1 hq with rfl | hq'
      · exact absurd e.symm (h1 p hp')
      · exact apart_inj h2 hp' hq' e
/-- The map holds just those pins, each at its name. -/
def MapIs (D : DataW PinD) (ps : List PinD) : Prop := ∃ es, D = .map es ∧ es.Perm (ps.map ent)
theorem MapIs.nil : MapIs (.map []) [] := ⟨[], rfl, .refl _⟩
theorem MapIs.has {D : DataW PinD} {ps : List PinD} (h : MapIs D ps) (l : List UInt8) : Maps.has D (.string l) = (findP ps l).isSome := by
  obtain ⟨es, rfl, hp⟩ := h
  rw [Maps.has_eq, Bool.eq_iff_iff, List.any_eq_true]
  unfold findP
  rw [List.find?_isSome]
  constructor
  · rintro ⟨x, hx, hs⟩
    obtain ⟨p, hpm, rfl⟩ := List.mem_map.1 (hp.mem_iff.1 hx)
    exact ⟨p, hpm, by simpa [ent, same_str] using hs⟩
  · rintro ⟨p, hpm, hs⟩
    exact ⟨ent p, hp.mem_iff.2 (List.mem_map.2 ⟨p, hpm, rfl⟩), by simpa [ent, same_str] using hs⟩
theorem MapIs.at' {D : DataW PinD} {ps : List PinD} (h : MapIs D ps) (ha : Apart ps) (l : List UInt8) : D.atKey (.string l) (.held pin0) = .held ((findP ps l).getD pin0) := by
  obtain ⟨es, rfl, hp⟩ := h
  unfold DataW.atKey
  cases hf : es.find? (fun p => p.1.sameKey (.string l)) with
  | none =>
    have : findP ps l = none := by
      unfold findP
      rw [List.find?_eq_none]
      intro p hpm
      have := List.find?_eq_none.1 hf (ent p) (hp.mem_iff.2 (List.mem_map.2 ⟨p, hpm, rfl⟩))
      simpa [ent, same_str] using this
    simp only [hf]
    rw [this]
    rfl
  | some x =>
    have hx := List.mem_of_find?_eq_some hf
    have hs := List.find?_some hf
    obtain ⟨p, hpm, rfl⟩ := List.mem_map.1 (hp.mem_iff.1 hx)
    have hl : p.nm = l := by simpa [ent, same_str] using hs
    have : findP ps l = some p := by
      cases hq : findP ps l with
      | none => exact absurd hl (findP_none hq p hpm)
      | some q =>
        obtain ⟨q1, q2⟩ := findP_mem hq
        rw [apart_inj ha q1 hpm (q2.trans hl.symm)]
    simp only [hf]
    rw [this]
    rfl
theorem MapIs.put {D : DataW PinD} {ps : List PinD} (h : MapIs D ps) {p : PinD} (hn : ∀ q ∈ ps, q.nm ≠ p.nm) : MapIs (D.put (.string p.nm) (.held p)) (ps ++ [p]) := by
  obtain ⟨es, rfl, hp⟩ := h
  refine ⟨_, DataW.put_eq _ _ _, ?_⟩
  unfold putKey
  have hf : es.filter (notKey (.string p.nm)) = es := by
    refine List.filter_eq_self.2 fun x hx => ?_
    obtain ⟨q, hq, rfl⟩ := List.mem_map.1 (hp.mem_iff.1 hx)
    have := hn q hq
    simp [notKey, ent, same_str, this]
  have e : delKey (.string p.nm) es = es := hf
  refine (insert_perm _ _).trans ?_
  rw [List.map_append]
  have h1 : ((Lit.string p.nm, DataW.held p) :: es.filter (notKey (.string p.nm))).Perm (ent p :: ps.map ent) := by
    rw [hf]
    exact hp.cons _
  exact h1.trans (List.perm_append_singleton _ _).symm
theorem MapIs.del {D : DataW PinD} {ps : List PinD} (h : MapIs D ps) (l : List UInt8) : MapIs (D.del (.string l)) (ps.filter fun q => !decide (q.nm = l)) := by
  obtain ⟨es, rfl, hp⟩ := h
  refine ⟨_, DataW.del_eq _ _, ?_⟩
  have e : ((ps.map ent).filter (notKey (.string l))) = (ps.filter fun q => !decide (q.nm = l)).map ent := by
    rw [List.filter_map]
    congr 1
    refine List.filter_congr fun q _ => ?_
    simp [notKey, ent, same_str]
  rw [← e]
  exact hp.filter _
theorem MapIs.size {D : DataW PinD} {ps : List PinD} (h : MapIs D ps) : Maps.size D = ps.length := by
  obtain ⟨es, rfl, hp⟩ := h
  rw [Maps.size_eq, hp.length_eq, List.length_map]

/-- Block b is a map of pins: those of ps. -/
structure PMap (w : World) (b : Nat) (ps : List PinD) : Prop where
  own : ∃ D, w.ownsMap Tryd.prog 9 pinR b ps.length D ∧ MapIs D ps
  apart : Apart ps
theorem str_law : Keyed Tryd.prog 9 := string_keyed Tryd.underlying9
theorem key_str {s : ByteArray} (h : s.size ≤ maxLen) : keyOf Tryd.prog 9 (.string s) = some (.string s.data.toList) := WideMaps.keyOf_string_mk Tryd.underlying9 h
section
variable {w w' : World} {b : Nat} {ps : List PinD}
theorem map_fit {n : Nat} {D : DataW PinD} (h : w.ownsMap Tryd.prog 9 pinR b n D) (hm : MapIs D ps) : w.ownsMap Tryd.prog 9 pinR b ps.length D := by
  have hz := hm.size
  obtain ⟨es, c, hb, F, hs, rfl⟩ := h
  refine ⟨es, c, hb, F, ?_, rfl⟩
  rw [← hz]
  simp [Maps.size, length_sorted]
theorem PMap.lt (h : PMap w b ps) : b < w.heap.size := by
  obtain ⟨D, ho, _⟩ := h.own
  exact ho.lt
theorem PMap.keep (h : PMap w b ps) (hk : w'.heap[b]? = w.heap[b]?) : PMap w' b ps := by
  obtain ⟨D, ⟨es, c, hb, r⟩, hm⟩ := h.own
  exact ⟨⟨D, ⟨es, c, hk.trans hb, r⟩, hm⟩, h.apart⟩
theorem PMap.on (h : PMap w b ps) (hb : Below w.heap.size w w') : PMap w' b ps := h.keep (hb.block b h.lt)
theorem PMap.alloc (h : PMap w b ps) (o : Obj) : PMap (w.alloc o) b ps := h.on (bal (Below.refl _ _) o)
theorem PMap.new (w : World) : PMap (w.alloc (.map #[] 0)) w.heap.size [] := ⟨⟨_, World.ownsMap_made w _ _ _, MapIs.nil⟩, .nil⟩
theorem PMap.look (h : PMap w b ps) {s : ByteArray} (hs : s.size ≤ maxLen) :
    (Instr.lookup 68 (.map (some b)) (.string s) true).run Tryd.prog w = .ok (.tuple #[P5 ((findP ps s.data.toList).getD pin0), .bool (findP ps s.data.toList).isSome]) w := by
  obtain ⟨D, ho, hm⟩ := h.own
  obtain ⟨v, z, hrun, hv⟩ := ho.look_ok str_law Tryd.underlying68 (z := P5 pin0) (by kernel_rfl) (pinR_mk pin0) (key_str hs)
  rw [hm.at' h.apart] at hv
  obtain ⟨p, rfl, e⟩ := pinR_inv hv
  injection e with e1 e2
  injection e1 with e1
  rw [hm.has] at hrun
  rw [hrun, e1]
theorem PMap.len (h : PMap w b ps) (ty : TypeId) : (Builtin.len_ #[68] ty #[.map (some b)]).run Tryd.prog w = .ok (.int .i64 ps.length) w := by
  obtain ⟨D, ho, hm⟩ := h.own
  rw [ho.len Tryd.underlying68 ty, hm.size]
theorem PMap.drop (h : PMap w b ps) {s : ByteArray} (hs : s.size ≤ maxLen) (ty : TypeId) :
    ∃ w', (Builtin.delete_ #[68, 9] ty #[.map (some b), .string s]).run Tryd.prog w = .ok (.tuple #[]) w' ∧ PMap w' b (ps.filter fun q => !decide (q.nm = s.data.toList)) ∧ w.mapTurned w' b := by
  obtain ⟨D, ho, hm⟩ := h.own
  obtain ⟨w', hrun, h1, h2⟩ := ho.drop str_law Tryd.underlying68 (key_str hs) ty
  exact ⟨w', hrun, ⟨⟨_, map_fit h1 (hm.del _), hm.del _⟩, h.apart.filter _⟩, h2⟩
theorem PMap.store (h : PMap w b ps) {p : PinD} (hl : ps.length ≤ 1000) (hs : p.n.size ≤ maxLen) (hn : ∀ q ∈ ps, q.nm ≠ p.nm) :
    ∃ w', (Instr.mapUpdate 68 (.map (some b)) (.string p.n) (P5 p)).run Tryd.prog w = .ok () w' ∧ PMap w' b (ps ++ [p]) ∧ w.mapTurned w' b := by
  obtain ⟨D, ho, hm⟩ := h.own
  obtain ⟨w', hrun, h1, h2⟩ := ho.store str_law Tryd.underlying68 (by simp only [maxLen]; omega) (key_str hs) (pinR_mk p)
  refine ⟨w', hrun, ⟨⟨_, map_fit h1 (hm.put hn), hm.put hn⟩, ?_⟩, h2⟩
  exact List.pairwise_append.2 ⟨h.apart, by simp, fun q hq r hr => by simp at hr; subst hr; exact hn q hq⟩
theorem turned_below {W : World} (h : w.mapTurned w' b) (hb : Below W.heap.size W w) (hB : W.heap.size ≤ b) : Below W.heap.size W w' := hb.grown h.grown hb.size (fun k e => by injection e with e; subst e; exact hB)
end
end Go.Proofs.YtcnpocppgghejaaDoor
