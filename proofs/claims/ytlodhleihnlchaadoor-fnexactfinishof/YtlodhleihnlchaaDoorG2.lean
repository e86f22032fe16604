/- Blocks of cells that are known one by one and may be written; numbers that a region that draws its order reads. No condition. -/
import Derived.Test.YtlodhleihnlchaaDoorG1
import Derived.Laws.BytesString
import Derived.Laws.CopyOwn
namespace Go.Proofs.YtlodhleihnlchaaDoor
open Go.RowKit
set_option maxRecDepth 100000

/-- Block g begins with the cells cs, and they may be written. -/
structure At (g : Nat) (cs : List Value) (w : World) : Prop where
  cell : ∀ i v, cs[i]? = some v → w.cell? ⟨g, i, none⟩ = some v
  free : ∀ i v, cs[i]? = some v → w.frozen? ⟨g, i, none⟩ = false
section
variable {g : Nat} {cs : List Value} {w w' : World}
theorem At.new (w : World) (cs : List Value) (t : TypeId) : At w.heap.size cs (w.alloc (.cells cs.toArray t)) := by
  have e1 : (w.alloc (.cells cs.toArray t)).heap[w.heap.size]? = some (.cells cs.toArray t) := (MapKept.heap_alloc w _).1
  refine ⟨fun i v h => ?_, fun i v h => ?_⟩
  · unfold World.cell?
    rw [e1]
    simpa using h
  · unfold World.frozen?
    rw [e1]
    simp
theorem At.keep (h : At g cs w) (hk : g < w.heap.size → w'.heap[g]? = w.heap[g]?) : At g cs w' :=
  ⟨fun i v hi => (World.cell?_of_block (w := w) (a := ⟨g, i, none⟩) (hk (cell_lt (h.cell i v hi)))).trans (h.cell i v hi),
   fun i v hi => (World.frozen?_of_block (w := w) (a := ⟨g, i, none⟩) (hk (cell_lt (h.cell i v hi)))).trans (h.free i v hi)⟩
theorem At.on (h : At g cs w) (hb : Below w.heap.size w w') : At g cs w' := h.keep fun hg => hb.block g hg
theorem At.alloc (h : At g cs w) (o : Obj) : At g cs (w.alloc o) := h.on (bal (Below.refl _ _) o)
theorem At.kept {row : Option Nat} (h : At g cs w) (hg : w.grownBy w' row) (hne : some g ≠ row) : At g cs w' := h.keep fun hl => hg.block g hl hne
theorem At.setB (h : At g cs w) {p : Addr} (hp : g ≠ p.block) (u : Value) : At g cs (w.setCell p u) := h.keep fun _ => Below.heap_setCell w p u g hp
theorem At.set (h : At g cs w) (i : Nat) (u : Value) : At g (cs.set i u) (w.setCell ⟨g, i, none⟩ u) := by
  refine ⟨fun j v hj => ?_, fun j v hj => ?_⟩
  · by_cases e : i = j
    · subst e
      have hl : i < cs.length := by have := (List.getElem?_eq_some_iff.1 hj).1; simpa using this
      have hc := h.cell i cs[i] (by simp [hl])
      rw [World.cell?_setCell_same _ _ _ (by rw [hc])]
      simpa [hl] using hj
    · rw [World.cell?_setCell_other _ _ _ _ (fun e2 => by injection e2 with _ e3; omega)]
      exact h.cell j v (by simpa [e] using hj)
  · rw [World.frozen?_setCell]
    have hl : j < cs.length := by have := (List.getElem?_eq_some_iff.1 hj).1; simpa using this
    exact h.free j cs[j] (by simp [hl])
theorem At.lt (h : At g cs w) (hl : 0 < cs.length) : g < w.heap.size := cell_lt (h.cell 0 cs[0] (by simp [hl]))
end
/-- Below W, and block g holds the cells cs. -/
structure Hold (W : World) (g : Nat) (cs : List Value) (cur : World) : Prop where
  bel : Below W.heap.size W cur
  at' : At g cs cur
theorem Hold.on {W : World} {g : Nat} {cs : List Value} {cur cur' : World} (h : Hold W g cs cur) (hb : Below cur.heap.size cur cur') : Hold W g cs cur' := ⟨btr h.bel hb, h.at'.on hb⟩
theorem Hold.setB {W : World} {g : Nat} {cs : List Value} {cur : World} (h : Hold W g cs cur) {p : Addr} (hW : W.heap.size ≤ p.block) (hp : g ≠ p.block) (u : Value) : Hold W g cs (cur.setCell p u) := ⟨bset h.bel hW u, h.at'.setB hp u⟩

/-- What a cell holds it holds in each world that has kept it. -/
theorem bel_cell {W : World} {p : Addr} {v : Value} (h : W.cell? p = some v) : ∀ z : Of (Bel W), z.val.cell? p = some v := fun z => cell_keep z.prop.out h
theorem hold_cell {W : World} {g : Nat} {cs : List Value} (i : Nat) (v : Value) (h : cs[i]? = some v) : ∀ z : Of (Hold W g cs), z.val.cell? ⟨g, i, none⟩ = some v := fun z => z.prop.at'.cell i v h
theorem Bel.start (W : World) : Bel W W := ⟨Below.refl _ _⟩
/-- Bytes as a text. -/
def strOf (ns : List Int) : ByteArray := ns.foldl (fun r n => r.push (UInt8.ofNat n.toNat)) ByteArray.empty
theorem conv_row {B : Nat} {a : Option Addr} {len cap : Nat} {zs : List Int} {w : World} (hR : Row .u8 w B a len cap zs) :
    (convert 96 9 (.slice a len cap)).run Tryd.prog w = .ok (.string (strOf zs)) w := by
  rw [run_convert_bytes_string w 96 9 5 a len cap Tryd.underlying96 Tryd.underlying5 Tryd.underlying9]
  rcases Nat.eq_zero_or_pos len with h0 | h0
  · subst h0
    obtain rfl : zs = [] := List.eq_nil_of_length_eq_zero hR.length
    cases a with
    | none => rfl
    | some x => exact run_bytesToString w x 0 cap [] (run_loadCells_list w x [] (fun j v h => by simp at h))
  · obtain ⟨b, off, rfl, hb, hc⟩ := hR.cells h0
    refine run_bytesToString w _ len cap zs ?_
    have := run_loadCells_list (P := Tryd.prog) w ⟨b, off, none⟩ (zs.map (Value.int .u8)) (fun j v h => by
      have hj := (List.getElem?_eq_some_iff.1 h).1
      simp [hR.length] at hj
      rw [Addr.add_lit, hc j hj, ← h]
      simp [List.getD, show j < zs.length by rw [hR.length]; exact hj])
    simpa [hR.length] using this
theorem strOf_data : ∀ (zs : List Int) (s : ByteArray), (zs.foldl (fun r n => r.push (UInt8.ofNat n.toNat)) s).data.toList = s.data.toList ++ zs.map (fun n => UInt8.ofNat n.toNat)
  | [], s => by simp
  | z :: r, s => by
    rw [List.foldl_cons, strOf_data r]
    simp [ByteArray.push]
theorem byte_inj {x y : Int} (hx : M.byteB x) (hy : M.byteB y) (h : UInt8.ofNat x.toNat = UInt8.ofNat y.toNat) : x = y := by
  unfold M.byteB at hx hy
  have := congrArg UInt8.toNat h
  simp at this
  omega
theorem bytes_inj : ∀ {xs ys : List Int}, (∀ z ∈ xs, M.byteB z) → (∀ z ∈ ys, M.byteB z) → xs.map (fun n => UInt8.ofNat n.toNat) = ys.map (fun n => UInt8.ofNat n.toNat) → xs = ys
  | [], [], _, _, _ => rfl
  | [], _ :: _, _, _, h => by simp at h
  | _ :: _, [], _, _, h => by simp at h
  | x :: xs, y :: ys, hx, hy, h => by
    simp only [List.map_cons, List.cons.injEq] at h
    rw [byte_inj (hx x (by simp)) (hy y (by simp)) h.1, bytes_inj (fun z hz => hx z (by simp [hz])) (fun z hz => hy z (by simp [hz])) h.2]
/-- Two texts are one where their bytes are. -/
theorem strOf_inj {xs ys : List Int} (hx : ∀ z ∈ xs, M.byteB z) (hy : ∀ z ∈ ys, M.byteB z) (h : strOf xs = strOf ys) : xs = ys := by
  have := congrArg (fun s : ByteArray => s.data.toList) h
  simp only [strOf, strOf_data] at this
  exact bytes_inj hx hy (by simpa using this)
theorem strOf_beq {xs ys : List Int} (hx : ∀ z ∈ xs, M.byteB z) (hy : ∀ z ∈ ys, M.byteB z) : ((strOf xs).toList == (strOf ys).toList) = decide (xs = ys) := by
  by_cases h : xs = ys
  · subst h; simp
  · rw [decide_eq_false h, beq_eq_false_iff_ne, ByteArray.toList_eq, ByteArray.toList_eq]
    intro e
    simp only [strOf, strOf_data] at e
    exact h (bytes_inj hx hy (by simpa using e))
theorem u8_byte {z : Int} (h : (Lit.int .u8 z).wf = true) : M.byteB z := by
  simp [Lit.wf, IntKind.min, IntKind.max, IntKind.signed, IntKind.bits] at h
  unfold M.byteB
  omega
theorem Row.bytes {w : World} {B : Nat} {a : Option Addr} {len cap : Nat} {zs : List Int} (h : Row .u8 w B a len cap zs) : ∀ z ∈ zs, M.byteB z := fun z hz => u8_byte (h.wf z hz)

/-- A block that is known whole is a slice of the call's own. -/
theorem own_blk {k : IntKind} {w : World} {g B n : Nat} {zs : List Int} {t : TypeId} (hg : w.heap[g]? = some (.cells (zs.map (Value.int k)).toArray t)) (hB : B ≤ g) (hn : zs.length = n) (hm : n ≤ maxLen) : OwnK k w B (.slice (some ⟨g, 0, none⟩) n n) zs := by
  subst hn
  have hl : g < w.heap.size := (Array.getElem?_eq_some_iff.1 hg).1
  refine ⟨by simp, .inr ⟨g, _, rfl, hB, hl, Nat.le_refl _, hm, fun j u hu => ?_, fun j hj => ?_⟩⟩
  · unfold World.cell?
    rw [hg]
    simpa using hu
  · unfold World.cell? World.frozen?
    rw [hg]
    simp [show j < zs.length by omega]
/-- What is appended are the elements of a slice that is read. -/
theorem Row.src {P : Program} {k : IntKind} {w : World} {B : Nat} {a : Option Addr} {len cap : Nat} {zs : List Int} (h : Row k w B a len cap zs) {tx e' : TypeId} (hk : P.underlying tx = some (.slice e')) : Src P 1 tx (.slice a len cap) len (zs.map (Value.int k)) w := by
  rcases Nat.eq_zero_or_pos len with h0 | h0
  · subst h0
    obtain rfl : zs = [] := List.eq_nil_of_length_eq_zero h.length
    cases a with
    | none => exact Src.ofNil w hk cap
    | some x => exact Src.ofSlice w hk x 0 cap [] rfl (fun j u hu => by simp at hu) (fun _ hu => by cases hu)
  · obtain ⟨b, off, rfl, hb, hc⟩ := h.cells h0
    refine Src.ofSlice w hk _ len cap _ (by simp [h.length]) (fun j u hu => ?_) (ints_oneCell k zs)
    have hj := (List.getElem?_eq_some_iff.1 hu).1
    simp [h.length] at hj
    rw [Addr.add_lit, hc j hj, ← hu]
    simp [List.getD, show j < zs.length by rw [h.length]; exact hj]
theorem Row.sub {k : IntKind} {w : World} {B b off len cap : Nat} {zs : List Int} (h : Row k w B (some ⟨b, off, none⟩) len cap zs) (i n' c' : Nat) (hi : i + n' ≤ len) (hn : n' ≤ c') (hc : c' ≤ maxLen) : Row k w B (some ⟨b, off + i, none⟩) n' c' ((zs.drop i).take n') :=
  ⟨by simp [h.length]; omega, fun z hz => h.wf z (List.mem_of_mem_drop (List.mem_of_mem_take hz)), hn, hc, fun hp => by
    obtain ⟨b', off', e, hb, hcell⟩ := h.cells (by omega)
    injection e with e
    injection e with e1 e2
    subst e1
    subst e2
    refine ⟨b, off + i, rfl, hb, fun j hj => ?_⟩
    rw [Nat.add_assoc, hcell (i + j) (by omega)]
    simp [List.getD, List.getElem?_drop, hj]⟩
end Go.Proofs.YtlodhleihnlchaaDoor
