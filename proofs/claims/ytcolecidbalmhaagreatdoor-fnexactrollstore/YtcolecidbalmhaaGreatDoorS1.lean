/- Texts of this seat that several laws rest on, laid into one. Conditions: as each theorem states. -/
import Derived.Test.YtcolecidbalmhaaGreatDoorS0
import Derived.OrdersHeld
import Derived.Deep.Quiet
import Derived.BigQuiet
import Derived.Laws.BytesString
import Derived.Laws.CopyOwn
namespace Go.Proofs.YtcolecidbalmhaaGreatDoor
open Go.RowKit

theorem Row.alloc {k : IntKind} {w : World} {B : Nat} {a : Option Addr} {len cap : Nat} {zs : List Int} (h : Row k w B a len cap zs) (hB : B ≤ w.heap.size) (o : Obj) : Row k (w.alloc o) B a len cap zs :=
  h.below ((Below.refl B w).alloc hB o)

theorem Row.on {k : IntKind} {w w' : World} {a : Option Addr} {len cap : Nat} {zs : List Int} (h : Row k w w.heap.size a len cap zs) (hb : Below w.heap.size w w') : Row k w' w'.heap.size a len cap zs := (h.below hb).more hb.size

/-- The first j of n cells of the block that w's next one is are told. -/
structure Fill (k : IntKind) (w : World) (n : Nat) (zs : List Int) (j : Nat) (wr : World) : Prop where
  bel : Below w.heap.size w wr
  lt : w.heap.size < wr.heap.size
  room : ∀ i, i < n → (∃ u, wr.cell? ⟨w.heap.size, i, none⟩ = some u) ∧ wr.frozen? ⟨w.heap.size, i, none⟩ = false
  told : ∀ i, i < j → wr.cell? ⟨w.heap.size, i, none⟩ = some (.int k (zs.getD i 0))
theorem Fill.new (k : IntKind) (w : World) (n : Nat) (zs : List Int) (cur : Array Value) (e : TypeId) (hs : cur.size = n) : Fill k w n zs 0 (w.alloc (.cells cur e)) := by
  have e1 : (w.alloc (.cells cur e)).heap[w.heap.size]? = some (.cells cur e) := (MapKept.heap_alloc w _).1
  refine ⟨bal (Below.refl _ _) _, by simp, fun i hi => ?_, fun i hi => absurd hi (by omega)⟩
  unfold World.cell? World.frozen?
  rw [e1]
  simp [show i < cur.size by omega]
theorem Fill.step {k : IntKind} {w : World} {n : Nat} {zs : List Int} {j : Nat} {wr : World} (h : Fill k w n zs j wr) (hj : j < n) : Fill k w n zs (j + 1) (wr.setCell ⟨w.heap.size, j, none⟩ (.int k (zs[j]?.getD 0))) := by
  refine ⟨h.bel.setCell (Nat.le_refl _) _, by simpa [World.setCell] using h.lt, fun i hi => ?_, fun i hi => ?_⟩
  · obtain ⟨⟨u, hu⟩, hf⟩ := h.room i hi
    refine ⟨?_, by rw [World.frozen?_setCell]; exact hf⟩
    obtain ⟨v, hv⟩ := cell?_setCell_some (w := wr) (p := ⟨w.heap.size, j, none⟩) (x := .int k (zs[j]?.getD 0)) (q := ⟨w.heap.size, i, none⟩) (v := u) hu
    exact ⟨v, hv⟩
  · rcases Nat.lt_or_ge i j with hlt | hge
    · rw [World.cell?_setCell_other _ _ _ _ (fun e => by injection e with _ e2; omega)]
      exact h.told i hlt
    · obtain rfl : i = j := by omega
      obtain ⟨⟨u, hu⟩, _⟩ := h.room i hj
      rw [World.cell?_setCell_same _ _ _ (by rw [hu])]
      simp [List.getD]
theorem Fill.own {k : IntKind} {w : World} {zs : List Int} {wr : World} {n : Nat} (hn : zs.length = n) (h : Fill k w n zs n wr) (hm : n ≤ maxLen) : OwnK k wr w.heap.size (.slice (some ⟨w.heap.size, 0, none⟩) n n) zs := by
  subst hn
  refine ⟨by simp, .inr ⟨w.heap.size, _, rfl, Nat.le_refl _, h.lt, Nat.le_refl _, hm, fun j u hu => ?_, fun j hj => ?_⟩⟩
  · have hj := (List.getElem?_eq_some_iff.1 hu).1
    simp at hj
    rw [h.told j hj]
    rw [← hu]
    simp [List.getD, hj]
  · obtain ⟨⟨u, hu⟩, hf⟩ := h.room j (by omega)
    exact ⟨by rw [hu]; rfl, hf⟩

/-- A slice of numbers was copied. -/
def Copied (k : IntKind) (n : Nat) (zs : List Int) (w : World) (r : Ending) (w' : World) : Prop :=
  r = .returned (.slice (some ⟨w.heap.size, 0, none⟩) n n) ∧ OwnK k w' w.heap.size (.slice (some ⟨w.heap.size, 0, none⟩) n n) zs ∧ Below w.heap.size w w'

theorem toByteS_any (a : Option Addr) (len cap B : Nat) (zs : List Int) (w : World) (hR : Row .u8 w B a len cap zs) (hB : B ≤ w.heap.size) (hl : len ≤ 1048576) :
    Calls Tryz.prog 230 #[.slice a len cap] w (Copied .u8 len zs w) := by
  obtain ⟨i0, hi0, hz0, hz1, hz2⟩ := info_parts u8_info
  have hmk : ∀ W : World, (Instr.makeSlice 22 (.int .i64 (len : Int)) (.int .i64 (len : Int))).run Tryz.prog W = .ok (.slice (some ⟨W.heap.size, 0, none⟩) len len) (W.alloc (.cells (madeCells #[.int .u8 0] len) 5)) := by
    intro W
    have := run_make (P := Tryz.prog) W 22 5 i0 (.int .u8 0) Tryz.underlying22 hi0 hz0 .i64 .i64 len len (by omega) (by omega) (by rw [hz2]; omega) (by omega)
    simpa [hz1, Value.cells] using this
  have hL := Lib.hid hR.length
  clear hi0 hz0 hz1 hz2
  have T0 := Fill.new .u8 w len zs (madeCells #[.int .u8 0] len) 5 (size_madeCells _ _)
  go_enter Tryz.func230, Tryz.ntmps230
  go_wp2_with fail
  generalize w.alloc (.cells (madeCells #[.int .u8 0] len) 5) = w1 at *
  go_loopw [4] (fun i wr => ∃ k : Nat, k ≤ len ∧ i = .int .i64 k ∧ Fill .u8 w len zs k wr) (fun i _ => len - (intOf i).toNat)
  case atStart => exact ⟨0, Nat.zero_le _, rfl, T0⟩
  case round =>
    obtain ⟨k, hk, rfl, hT⟩ := hrel
    by_cases hlt : k < len
    · obtain ⟨b, off, ha, hb, hc⟩ := hR.cells (by omega)
      have hcell := (hT.bel.cell (p := ⟨b, off + k, none⟩) (by show b < _; omega)).trans (hc k hlt)
      simp only [List.getD_eq_getElem?_getD] at hcell
      obtain ⟨⟨u, hu⟩, hf⟩ := hT.room k hlt
      have T2 := hT.step hlt
      clear hc hT
      subst ha
      go_wp2_with fail
      go_roundw
      case rel => exact ⟨k + 1, by omega, by go_num, T2⟩
      case measure => simp [intOf]; omega
    · obtain rfl : k = len := by omega
      have T2 := hT.own hL.out (by simp only [maxLen]; omega)
      have hb := Lib.hid hT.bel
      clear hT
      go_wp2_with fail
      go_ret
      exact ⟨rfl, T2, hb.out⟩

end Go.Proofs.YtcolecidbalmhaaGreatDoor
namespace Go.Proofs.YtcolecidbalmhaaGreatDoor
open Go.RowKit

/-- A block of numbers that is known whole, read as a slice. -/
theorem row_at {k : IntKind} {w : World} (g n : Nat) (zs : List Int) (t : TypeId) (hg : w.heap[g]? = some (.cells (zs.map (Value.int k)).toArray t)) (hn : zs.length = n) (hm : n ≤ maxLen) (hw : ∀ z ∈ zs, (Lit.int k z).wf = true) :
    Row k w (g + 1) (some ⟨g, 0, none⟩) n n zs :=
  ⟨hn, hw, Nat.le_refl _, hm, fun _ => ⟨g, 0, rfl, by omega, fun j hj => by
    rw [Nat.zero_add]
    unfold World.cell?
    rw [hg]
    simp [List.getD, show j < zs.length by omega]⟩⟩
theorem sum_wf {z : Int} (h : M.sumB z = true) : (Lit.int .i64 z).wf = true := by
  simp only [M.sumB, decide_eq_true_eq] at h
  simp [Lit.wf, IntKind.min, IntKind.max, IntKind.signed, IntKind.bits]; omega
theorem row_one0 {w : World} (z : Int) (t : TypeId) (h : M.sumB z = true) : Row .i64 (w.alloc (.cells #[.int .i64 z] t)) (w.heap.size + 1) (some ⟨w.heap.size, 0, none⟩) 1 1 [z] :=
  row_at w.heap.size 1 [z] t (MapKept.heap_alloc w _).1 rfl (by simp only [maxLen]; omega) (fun x hx => by simp at hx; subst hx; exact sum_wf h)
def sameS (a b : Int) : Bool := M.sumB a && (a == b)
end Go.Proofs.YtcolecidbalmhaaGreatDoor
namespace Go.Proofs.YtcolecidbalmhaaGreatDoor
open Go.RowKit
set_option maxRecDepth 100000

/-- The program's table of labels holds these words. -/
structure Labels (w : World) : Prop where
  streamW : w.cell? ⟨1, 0, none⟩ = some (.string M.streamS)
  heardW : w.cell? ⟨1, 1, none⟩ = some (.string M.heardS)
  nonceW : w.cell? ⟨1, 2, none⟩ = some (.string M.nonceS)
  signW : w.cell? ⟨1, 3, none⟩ = some (.string M.signS)
  macW : w.cell? ⟨1, 4, none⟩ = some (.string M.macS)
  sealW : w.cell? ⟨1, 5, none⟩ = some (.string M.sealS)
  spkiW : w.cell? ⟨1, 6, none⟩ = some (.string M.spkiS)
  rollW : w.cell? ⟨1, 7, none⟩ = some (.string M.rollS)
theorem Labels.on {w w' : World} (h : Labels w) (hb : Below w.heap.size w w') : Labels w' := ⟨cell_keep hb h.streamW, cell_keep hb h.heardW, cell_keep hb h.nonceW, cell_keep hb h.signW, cell_keep hb h.macW, cell_keep hb h.sealW, cell_keep hb h.spkiW, cell_keep hb h.rollW⟩

theorem Labels.grew {w w' : World} {row : Option Nat} (h : Labels w) (hg : w.grownBy w' row) (hr : ∀ k, row = some k → 1 < k) : Labels w' := by
  have hn : ∀ i, some (Addr.block ⟨1, i, none⟩) ≠ row := fun i e => by have := hr _ e.symm; exact absurd this (Nat.lt_irrefl _)
  exact ⟨hg.cell h.streamW (hn 0), hg.cell h.heardW (hn 1), hg.cell h.nonceW (hn 2), hg.cell h.signW (hn 3), hg.cell h.macW (hn 4), hg.cell h.sealW (hn 5), hg.cell h.spkiW (hn 6), hg.cell h.rollW (hn 7)⟩
theorem Labels.keep {w w' : World} (h : Labels w) (hb : w'.heap[1]? = w.heap[1]?) : Labels w' := ⟨(World.cell?_of_block (w := w) (a := ⟨1, 0, none⟩) hb).trans h.streamW, (World.cell?_of_block (w := w) (a := ⟨1, 1, none⟩) hb).trans h.heardW, (World.cell?_of_block (w := w) (a := ⟨1, 2, none⟩) hb).trans h.nonceW, (World.cell?_of_block (w := w) (a := ⟨1, 3, none⟩) hb).trans h.signW, (World.cell?_of_block (w := w) (a := ⟨1, 4, none⟩) hb).trans h.macW, (World.cell?_of_block (w := w) (a := ⟨1, 5, none⟩) hb).trans h.sealW, (World.cell?_of_block (w := w) (a := ⟨1, 6, none⟩) hb).trans h.spkiW, (World.cell?_of_block (w := w) (a := ⟨1, 7, none⟩) hb).trans h.rollW⟩
theorem Labels.lt {w : World} (h : Labels w) : 1 < w.heap.size := cell_lt h.streamW

/-- A code and bytes in new memory. -/
def BytesRes (c : Int) (zs : List Int) (w : World) (r : Ending) (w' : World) : Prop :=
  ∃ a len cap, r = .returned (.agg #[.int .i64 c, .slice a len cap]) ∧ OwnK .u8 w' w.heap.size (.slice a len cap) zs ∧ Below w.heap.size w w'

theorem row_three {w : World} (x y z : Int) (t : TypeId) (hx : M.sumB x = true) (hy : M.sumB y = true) (hz : M.sumB z = true) : Row .i64 (w.alloc (.cells #[.int .i64 x, .int .i64 y, .int .i64 z] t)) (w.heap.size + 1) (some ⟨w.heap.size, 0, none⟩) 3 3 [x, y, z] :=
  row_at w.heap.size 3 [x, y, z] t (MapKept.heap_alloc w _).1 rfl (by simp only [maxLen]; omega) (fun u hu => by
    simp at hu
    rcases hu with rfl | rfl | rfl
    · exact sum_wf hx
    · exact sum_wf hy
    · exact sum_wf hz)

def StreamRel (W : World) (key seq : Int) (k : Nat) (v : Value) (wr : World) : Prop := OwnK .u8 wr W.heap.size v (M.streamL key seq k) ∧ Below W.heap.size W wr
theorem StreamRel.step {W wr w1 w2 : World} {key seq : Int} {k : Nat} {v v' : Value} {o o' : Obj} (h : StreamRel W key seq k v wr) (hb : Below (wr.alloc o).heap.size (wr.alloc o) w1)
    (ho : Own w2 W.heap.size 1 v' ((M.streamL key seq k).length + 1) ((M.streamL key seq k).map (Value.int .u8) ++ [.int .u8 (M.streamB key seq k)])) (hg : (w1.alloc o').grownBy w2 v.ownBlock) : StreamRel W key seq (k + 1) v' w2 := by
  refine ⟨?_, ?_⟩
  · unfold OwnK
    rw [M.streamL_succ]
    simpa using ho
  · have h1 : Below W.heap.size W (w1.alloc o') := bal (btr (bal h.2 o) hb) o'
    have h2 : Own (w1.alloc o') W.heap.size 1 v _ _ := ((h.1.alloc o).below hb).alloc o'
    exact h2.grown h1 h1.size hg

def StreamOwn (key seq : Int) (n : Nat) (w : World) (r : Ending) (w' : World) : Prop := ∃ a len cap, r = .returned (.slice a len cap) ∧ OwnK .u8 w' w.heap.size (.slice a len cap) (M.streamL key seq n) ∧ Below w.heap.size w w'
theorem own_empty (w : World) (e : TypeId) : Own (w.alloc (.cells #[] e)) w.heap.size 1 (.slice (some ⟨w.heap.size, 0, none⟩) 0 0) 0 [] :=
  Own.made w #[] e 0 (Nat.le_refl _) (Nat.zero_le _) rfl

end Go.Proofs.YtcolecidbalmhaaGreatDoor
namespace Go.Proofs.YtcolecidbalmhaaGreatDoor
open Go.RowKit
set_option maxRecDepth 100000

/-- A slice of slices of bytes that is read: 'zss' are its elements; all of it lies below block B. -/
structure Grid (w : World) (B : Nat) (a : Option Addr) (len cap : Nat) (zss : List (List Int)) : Prop where
  length : zss.length = len
  fits : len ≤ cap
  most : cap ≤ maxLen
  cells : 0 < len → ∃ b off, a = some ⟨b, off, none⟩ ∧ b < B ∧ ∀ j, j < len → ∃ a' n' c', w.cell? ⟨b, off + j, none⟩ = some (.slice a' n' c') ∧ Row .u8 w B a' n' c' (zss[j]?.getD [])
section
variable {w w' : World} {B B' : Nat} {a : Option Addr} {len cap : Nat} {zss : List (List Int)}
theorem Grid.keep (h : Grid w B a len cap zss) (hk : ∀ i, i < B → w'.heap[i]? = w.heap[i]?) : Grid w' B a len cap zss :=
  ⟨h.length, h.fits, h.most, fun hp => by
    obtain ⟨b, off, e, hb, hc⟩ := h.cells hp
    refine ⟨b, off, e, hb, fun j hj => ?_⟩
    obtain ⟨a', n', c', h1, h2⟩ := hc j hj
    exact ⟨a', n', c', (World.cell?_of_block (w := w) (hk b hb)).trans h1, h2.keep hk⟩⟩
theorem Grid.below (h : Grid w B a len cap zss) (hb : Below B w w') : Grid w' B a len cap zss := h.keep hb.block
theorem Grid.more (h : Grid w B a len cap zss) (hB : B ≤ B') : Grid w B' a len cap zss :=
  ⟨h.length, h.fits, h.most, fun hp => by
    obtain ⟨b, off, e, hb, hc⟩ := h.cells hp
    refine ⟨b, off, e, by omega, fun j hj => ?_⟩
    obtain ⟨a', n', c', h1, h2⟩ := hc j hj
    exact ⟨a', n', c', h1, h2.more hB⟩⟩
theorem Grid.on (h : Grid w w.heap.size a len cap zss) (hb : Below w.heap.size w w') : Grid w' w'.heap.size a len cap zss := (h.below hb).more hb.size
theorem Grid.alloc (h : Grid w B a len cap zss) (hB : B ≤ w.heap.size) (o : Obj) : Grid (w.alloc o) B a len cap zss := h.below ((Below.refl B w).alloc hB o)
theorem Grid.nil (w : World) (B : Nat) : Grid w B none 0 0 [] := ⟨rfl, Nat.le_refl _, Nat.zero_le _, fun h => absurd h (by omega)⟩
end

def HeardRel (W : World) (zss : List (List Int)) (k : Nat) (v : Value) (wr : World) : Prop := OwnK .i64 wr W.heap.size v ((zss.take k).map M.sumL) ∧ Below W.heap.size W wr
theorem HeardRel.step {W wr w1 w2 : World} {zss : List (List Int)} {k : Nat} {v v' : Value} {o : Obj} (h : HeardRel W zss k v wr) (hk : k < zss.length) (hb : Below wr.heap.size wr w1)
    (ho : Own w2 W.heap.size 1 v' (((zss.take k).map M.sumL).length + 1) (((zss.take k).map M.sumL).map (Value.int .i64) ++ [.int .i64 (M.sumL (zss[k]?.getD []))])) (hg : (w1.alloc o).grownBy w2 v.ownBlock) : HeardRel W zss (k + 1) v' w2 := by
  refine ⟨?_, ?_⟩
  · unfold OwnK
    rw [← M.map_take_snoc M.sumL zss [] k hk]
    simpa using ho
  · have h1 : Below W.heap.size W (w1.alloc o) := bal (btr h.2 hb) o
    have h2 : Own (w1.alloc o) W.heap.size 1 v _ _ := (h.1.below hb).alloc o
    exact h2.grown h1 h1.size hg
theorem HeardRel.row {W wr : World} {zss : List (List Int)} {v : Value} (h : HeardRel W zss zss.length v wr) : ∃ a n c, v = .slice a n c ∧ n = zss.length ∧ Row .i64 wr wr.heap.size a n c (zss.map M.sumL) := by
  obtain ⟨ho, _⟩ := h
  rw [List.take_length] at ho
  obtain ⟨a, c, rfl, _⟩ := ho.form
  exact ⟨a, _, c, rfl, by simp, Own.row ho fun b hb => by
    obtain ⟨zs, _, rfl⟩ := List.mem_map.1 hb
    have := M.sumL_bd zs
    exact sum_wf (by simp [M.sumB]; omega)⟩

end Go.Proofs.YtcolecidbalmhaaGreatDoor
namespace Go.Proofs.YtcolecidbalmhaaGreatDoor
open Go.RowKit

/-- The worlds of which S holds, named by themselves. -/
structure Of (S : World → Prop) where
  val : World
  prop : S val

/-- Nothing of W has turned. -/
structure Bel (W w : World) : Prop where
  out : Below W.heap.size W w
theorem Bel.on {W w w' : World} (h : Bel W w) (hb : Below w.heap.size w w') : Bel W w' := ⟨btr h.out hb⟩
theorem Bel.drew (W : World) : Bel W W.drew := ⟨(Below.refl _ _).drew⟩

/-- Two numbers lie at block g, behind what was there. -/
structure SigAt (w : World) (g : Nat) (p q : Int) (cur : World) : Prop where
  bel : Below w.heap.size w cur
  c0 : cur.cell? ⟨g, 0, none⟩ = some (.int .i64 p)
  c1 : cur.cell? ⟨g, 1, none⟩ = some (.int .i64 q)
theorem SigAt.on {w : World} {g : Nat} {p q : Int} {cur cur' : World} (h : SigAt w g p q cur) (hb : Below cur.heap.size cur cur') : SigAt w g p q cur' := ⟨btr h.bel hb, cell_keep hb h.c0, cell_keep hb h.c1⟩
theorem SigAt.set {w : World} {g : Nat} {p q : Int} {cur : World} (h : SigAt w g p q cur) (hg : w.heap.size < g) {x y : Value} : SigAt w g p q ((cur.setCell ⟨w.heap.size, 0, none⟩ x).setCell ⟨w.heap.size, 1, none⟩ y) := by
  have ne : ∀ i j, (⟨w.heap.size, i, none⟩ : Addr) ≠ ⟨g, j, none⟩ := fun i j e => by injection e with e1; omega
  refine ⟨bset (bset h.bel (Nat.le_refl _) _) (Nat.le_refl _) _, ?_, ?_⟩
  · rw [World.cell?_setCell_other _ _ _ _ (ne 1 0), World.cell?_setCell_other _ _ _ _ (ne 0 0)]; exact h.c0
  · rw [World.cell?_setCell_other _ _ _ _ (ne 1 1), World.cell?_setCell_other _ _ _ _ (ne 0 1)]; exact h.c1

/-- It reads, and does nothing else. -/
def readsB (o : Oper) : Bool := match o.op with
  | .move _ => true
  | .assign _ => true
  | .pick _ _ _ => true
  | .load _ _ => true
  | .binOp _ _ _ _ _ => true
  | .unOp _ _ _ => true
  | .slice _ _ _ _ _ => true
  | .fieldAddr _ _ _ => true
  | .field _ _ _ => true
  | .indexAddr _ _ _ => true
  | .index _ _ _ => true
  | .extract _ _ => true
  | .nilCheck _ => true
  | .convert _ _ _ => true
  | .build _ _ => true
  | .call c => match c.callee with
    | .builtin .len => true
    | _ => false
  | _ => false

theorem value_of_bind {P : Program} {s : Sem Value} {w w' : World} {n : Next} (h : (s >>= fun x => pure (Next.value x)).run P w = .ok n w') : ∃ u, n = .value u := by
  rw [Sem.run_bind] at h
  cases hs : s.run P w with
  | ok x w1 =>
    rw [hs] at h
    simp only [Result.andThen_ok, Sem.run_pure] at h
    injection h with h1 h2
    exact ⟨x, h1.symm⟩
  | halt x w1 =>
    rw [hs] at h
    cases h
theorem bind_tail {P : Program} {α β : Type} {s : Sem α} {f : α → Sem β} {w w' : World} {n : β} (h : (s >>= f).run P w = .ok n w') : ∃ x w1, (f x).run P w1 = .ok n w' := by
  rw [Sem.run_bind] at h
  cases hs : s.run P w with
  | ok x w1 =>
    rw [hs] at h
    exact ⟨x, w1, by simpa only [Result.andThen_ok] using h⟩
  | halt x w1 =>
    rw [hs] at h
    cases h
theorem reads_value {P : Program} {o : Oper} (h : readsB o = true) {ρ : Operand → Value} {w w' : World} {n : Next} (hr : (execOp ρ o).run P w = .ok n w') : ∃ u, n = .value u := by
  unfold execOp at hr
  unfold readsB at h
  cases hop : o.op <;> rw [hop] at h hr <;> first | (cases h; done) | skip
  case move x => simp only [Sem.run_pure] at hr; injection hr with h1 h2; exact ⟨_, h1.symm⟩
  case assign x => simp only [Sem.run_pure] at hr; injection hr with h1 h2; exact ⟨_, h1.symm⟩
  case pick c x y =>
    have := value_of_bind (s := do pure (if ← asBool (ρ c) then ρ x else ρ y)) (P := P) (w := w) (w' := w') (n := n) (by simpa using hr)
    exact this
  case call c =>
    simp only at h
    split at h
    · rename_i hc
      simp only [resolve, hc, invoke, builtin] at hr
      simp only [Sem.run_bind, Sem.run_pure, Result.andThen_ok] at hr
      exact value_of_bind (P := P) (s := Builtin.len_ c.argTypes o.type (Array.map ρ c.args)) (w := w) (w' := w') (by rw [Sem.run_bind]; simpa only [Sem.run_pure] using hr)
    · cases h
  case nilCheck x =>
    simp only at hr
    split at hr
    · simp [runtimePanic, goPanic, Result.andThen] at hr
    · simp [runtimePanic, goPanic, Result.andThen] at hr
    · simp [runtimePanic, goPanic, Result.andThen] at hr
    · split at hr
      · simp [runtimePanic, goPanic, Result.andThen] at hr
      · obtain ⟨_, _, hr⟩ := bind_tail hr
        obtain ⟨_, _, hr⟩ := bind_tail hr
        split at hr
        · obtain ⟨_, _, hr⟩ := bind_tail hr
          simp only [Sem.run_pure] at hr; injection hr with h1 h2; exact ⟨_, h1.symm⟩
        · simp only [Sem.run_pure] at hr; injection hr with h1 h2; exact ⟨_, h1.symm⟩
      · simp only [Sem.run_pure] at hr; injection hr with h1 h2; exact ⟨_, h1.symm⟩
    · simp only [Sem.run_pure] at hr; injection hr with h1 h2; exact ⟨_, h1.symm⟩
  all_goals exact value_of_bind hr

section
variable {P : Program} {ops : Array Oper} {Q : Exit → Act → World → Prop} {md : Region.Mode} {S : World → Prop}

def wpLine (P : Program) (ops : Array Oper) (S : World → Prop) (Q : Exit → Act → World → Prop) (C : Act → World → Prop) : List (Nat × Bool) → Act → World → Prop
  | [], a, w => C a w
  | (i, m) :: r, a, w => match ops[i]? with
    | none => False
    | some o =>
      if Region.wanted o (yielded ops a.tmps) = true then
        (if m = true then o.quiet P a (fun w' => ∃ x : Of S, w' = x.val) (fun a' => wpLine P ops S Q C r a' w) else o.wp P a w (fun a' w' => S w' ∧ wpLine P ops S Q C r a' w') Q)
      else wpLine P ops S Q C r (a.put o.dst undef) w

/-- What has come up behind a line. -/
def marked (listed : Array Bool) : List (Nat × Bool) → Array Bool
  | [] => listed
  | (i, _) :: r => marked (listed.setIfInBounds i true) r
def segB (md : Region.Mode) (ops : Array Oper) : List (Nat × Bool) → Array Bool → Bool
  | [], _ => true
  | (i, m) :: r, listed =>
    (match ops[i]? with
      | some o => if m then (Region.ready md ops listed).contains i && Region.free md ops listed i && readsB o else decide (Region.ready md ops listed = [i])
      | none => false) && segB md ops r (listed.setIfInBounds i true)

theorem wpAnyH_seg (hs : Region.noSelect ops = true) (hQ : ∀ c a d v w, Q (.panic c) (a.put d v) w → Q (.panic c) a w) {C : Act → World → Prop} (n : Nat) : ∀ (l : List (Nat × Bool)) (listed : Array Bool) (a : Act) (w : World),
    segB md ops l listed = true → S w → (∀ a w, C a w → S w → wpAnyH P md ops Q S n (marked listed l) a w) → wpLine P ops S Q C l a w → wpAnyH P md ops Q S (n + l.length) listed a w
  | [], listed, a, w, _, hS, hC, h => hC a w h hS
  | (i, m) :: r, listed, a, w, hB, hS, hC, h => by
    unfold wpLine at h
    unfold segB at hB
    cases ho : ops[i]? with
    | none => rw [ho] at h; exact h.elim
    | some o =>
      rw [ho] at h hB
      simp only [Bool.and_eq_true] at h hB
      obtain ⟨h1, h2⟩ := hB
      have hC' : ∀ a w, C a w → S w → wpAnyH P md ops Q S n (marked (listed.setIfInBounds i true) r) a w := hC
      have e : n + ((i, m) :: r).length = (n + r.length) + 1 := by simp; omega
      rw [e]
      cases m with
      | true =>
        simp only [if_true, Bool.and_eq_true] at h1 h
        obtain ⟨⟨hr, hf⟩, hrd⟩ := h1
        by_cases hw : Region.wanted o (yielded ops a.tmps) = true
        · rw [if_pos hw] at h
          obtain ⟨v, hv, hn⟩ := h
          refine wpAnyH_take ho hs hf hr (fun c a w => hQ c a _ _ w) (Or.inl ⟨hw, fun w1 hS1 => ?_⟩) hS (wpAnyH_seg hs hQ n r _ _ w h2 hS hC' hn)
          have hq := hv w1 ⟨⟨w1, hS1⟩, rfl⟩
          unfold Oper.quietAt at hq
          cases hx : (execOp a.eval o).run P w1 with
          | halt x w2 => rw [hx] at hq; exact hq.elim
          | ok n w2 =>
            obtain ⟨u, rfl⟩ := reads_value hrd hx
            rw [hx] at hq
            obtain ⟨e1, e2⟩ := hq
            rw [e1, e2]
        · rw [if_neg hw] at h
          have hw' : Region.wanted o (yielded ops a.tmps) = false := by simpa using hw
          exact wpAnyH_take ho hs hf hr (fun c a w => hQ c a _ _ w) (Or.inr ⟨hw', rfl⟩) hS (wpAnyH_seg hs hQ n r _ _ w h2 hS hC' h)
      | false =>
        simp only [Bool.false_eq_true, if_false, decide_eq_true_eq] at h1 h
        refine wpAnyH_all h1 (by simp) fun j hj => ?_
        have hj2 : j = i := by simpa using hj
        subst hj2
        unfold wpOp
        rw [ho]
        by_cases hw : Region.wanted o (yielded ops a.tmps) = true
        · simp only [hw, if_true] at h ⊢
          exact .inl (Oper.wp_mono (fun a' w' h' => ⟨h'.1, wpAnyH_seg hs hQ n r _ a' w' h2 h'.1 hC' h'.2⟩) h)
        · simp only [hw] at h ⊢
          exact ⟨hS, wpAnyH_seg hs hQ n r _ _ w h2 hS hC' h⟩

/-- The same, shut: nothing is reckoned of it till it is opened. -/
structure LineP (P : Program) (ops : Array Oper) (S : World → Prop) (Q : Exit → Act → World → Prop) (C : Act → World → Prop) (l : List (Nat × Bool)) (a : Act) (w : World) : Prop where
  out : wpLine P ops S Q C l a w

theorem wp_region_line {id : Nat} {a : Act} {w : World} {l : List Oper} (S : World → Prop) (π : List (Nat × Bool)) (hm : P.follows .mixedOrders = true)
    (hB : (Region.noSelect l.toArray && decide (π.length = l.length) && segB .any l.toArray π (Array.replicate l.toArray.size false) && (Region.ready .any l.toArray (marked (Array.replicate l.toArray.size false) π)).isEmpty) = true) (hQ : ∀ c a d v w, Q (.panic c) (a.put d v) w → Q (.panic c) a w)
    (hS : S w.drew) (h : LineP P l.toArray S Q (Q .normal) π a w.drew) : (Code.region id l.toArray true).wp P Q a w := by
  simp only [Bool.and_eq_true, decide_eq_true_eq] at hB
  refine wp_region_held (S := S) hm ?_
  have := wpAnyH_seg (md := .any) (C := Q .normal) hB.1.1.1 hQ 0 π _ a w.drew hB.1.2 hS (fun a w hc _ => ⟨by simpa using hB.2, hc⟩) h.out
  rw [hB.1.1.2] at this
  simpa using this

/-- It ends as it should, and in no panic. -/
def OnlyN (K : Act → World → Prop) : Exit → Act → World → Prop
  | .normal, a, w => K a w
  | _, _, _ => False
/-- What is left of a region, whichever comes up next. -/
structure AnyP (P : Program) (ops : Array Oper) (S : World → Prop) (Q : Exit → Act → World → Prop) (n : Nat) (listed : Array Bool) (a : Act) (w : World) : Prop where
  out : S w → wpAnyH P .any ops Q S n listed a w
theorem wp_region_fork {id : Nat} {a : Act} {w : World} {l : List Oper} (S : World → Prop) (hm : P.follows .mixedOrders = true) (hS : S w.drew) (h : AnyP P l.toArray S Q l.length (Array.replicate l.toArray.size false) a w.drew) : (Code.region id l.toArray true).wp P Q a w := by
  refine wp_region_held (S := S) hm ?_
  have := h.out hS
  simpa using this
theorem any_seg {a : Act} {w : World} {l : List Oper} {n : Nat} {listed : Array Bool} (m : Nat) (π : List (Nat × Bool)) (hB : (Region.noSelect l.toArray && decide (n = m + π.length) && segB .any l.toArray π listed) = true) (hQ : ∀ c a d v w, Q (.panic c) (a.put d v) w → Q (.panic c) a w)
    (h : LineP P l.toArray S Q (AnyP P l.toArray S Q m (marked listed π)) π a w) : AnyP P l.toArray S Q n listed a w := by
  simp only [Bool.and_eq_true, decide_eq_true_eq] at hB
  refine ⟨fun hS => ?_⟩
  rw [hB.1.2]
  exact wpAnyH_seg (md := .any) hB.1.1 hQ m π _ a w hB.2 hS (fun a w hc hS => hc.out hS) h.out
/-- All that is left, along a line. -/
theorem any_rest {a : Act} {w : World} {l : List Oper} {n : Nat} {listed : Array Bool} (π : List (Nat × Bool)) (hB : (Region.noSelect l.toArray && decide (n = π.length) && segB .any l.toArray π listed && (Region.ready .any l.toArray (marked listed π)).isEmpty) = true) (hQ : ∀ c a d v w, Q (.panic c) (a.put d v) w → Q (.panic c) a w)
    (h : LineP P l.toArray S Q (Q .normal) π a w) : AnyP P l.toArray S Q n listed a w := by
  simp only [Bool.and_eq_true, decide_eq_true_eq] at hB
  refine ⟨fun hS => ?_⟩
  have := wpAnyH_seg (md := .any) (C := Q .normal) hB.1.1.1 hQ 0 π _ a w hB.1.2 hS (fun a w hc _ => ⟨by simpa using hB.2, hc⟩) h.out
  rw [hB.1.1.2]
  simpa using this
/-- Two may come up next. -/
theorem any_fork {a : Act} {w : World} {l : List Oper} {n : Nat} {listed : Array Bool} {o1 o2 : Oper} (i j : Nat) (hr : Region.ready .any l.toArray listed = [i, j]) (ho1 : l[i]? = some o1) (ho2 : l[j]? = some o2) (hw1 : Region.wanted o1 (yielded l.toArray a.tmps) = true) (hw2 : Region.wanted o2 (yielded l.toArray a.tmps) = true)
    (h1 : ∀ K : Act → World → Prop, (∀ a' w', S w' → AnyP P l.toArray S Q n (listed.setIfInBounds i true) a' w' → K a' w') → o1.wp P a w K Q) (h2 : ∀ K : Act → World → Prop, (∀ a' w', S w' → AnyP P l.toArray S Q n (listed.setIfInBounds j true) a' w' → K a' w') → o2.wp P a w K Q) :
    AnyP P l.toArray S Q (n + 1) listed a w := by
  refine ⟨fun hS => wpAnyH_all hr (by simp) fun x hx => ?_⟩
  simp only [List.mem_cons, List.not_mem_nil, or_false] at hx
  rcases hx with rfl | rfl
  · unfold wpOp
    rw [show l.toArray[x]? = some o1 by simpa using ho1]
    simp only [hw1, if_true]
    exact .inl (h1 _ (fun a' w' hS' h' => ⟨hS', h'.out hS'⟩))
  · unfold wpOp
    rw [show l.toArray[x]? = some o2 by simpa using ho2]
    simp only [hw2, if_true]
    exact .inl (h2 _ (fun a' w' hS' h' => ⟨hS', h'.out hS'⟩))

variable {a : Act} {w : World} {i : Nat} {m : Bool} {o : Oper} {r : List (Nat × Bool)} {l : List Oper} {C : Act → World → Prop}
theorem line_read (ho : l[i]? = some o) (hw : Region.wanted o (yielded l.toArray a.tmps) = true)
    (h : ∀ K : Act → Prop, (∀ a', LineP P l.toArray S Q C r a' w → K a') → o.quiet P a (fun w' => ∃ x : Of S, w' = x.val) K) : LineP P l.toArray S Q C ((i, true) :: r) a w := by
  refine ⟨?_⟩
  unfold wpLine
  rw [show l.toArray[i]? = some o by simpa using ho]
  simp only [hw, if_true]
  exact h _ (fun _ h => h.out)
theorem line_skip (ho : l[i]? = some o) (hw : Region.wanted o (yielded l.toArray a.tmps) = false) (h : LineP P l.toArray S Q C r (a.put o.dst undef) w) : LineP P l.toArray S Q C ((i, m) :: r) a w := by
  refine ⟨?_⟩
  unfold wpLine
  rw [show l.toArray[i]? = some o by simpa using ho]
  simp only [hw, Bool.false_eq_true, if_false]
  exact h.out
theorem line_alone (ho : l[i]? = some o) (hw : Region.wanted o (yielded l.toArray a.tmps) = true)
    (h : ∀ K : Act → World → Prop, (∀ a' w', S w' → LineP P l.toArray S Q C r a' w' → K a' w') → o.wp P a w K Q) : LineP P l.toArray S Q C ((i, false) :: r) a w := by
  refine ⟨?_⟩
  unfold wpLine
  rw [show l.toArray[i]? = some o by simpa using ho]
  simp only [hw, if_true, Bool.false_eq_true, if_false]
  exact h _ (fun _ _ h1 h2 => ⟨h1, h2.out⟩)
/-- Function f has a body. -/
def callsB (P : Program) (f : FuncId) : Bool := match P.funcs[f]? with
  | some fn => !(fn.name == "runtime.NumGoroutine") && fn.body.isSome
  | none => false
theorem run_callFunc_body {f : FuncId} (hf : callsB P f = true) (args : Array Value) (w : World) : (callFunc f args).run P w = .ok (.enter f args) w := by
  unfold callsB at hf
  split at hf
  · rename_i fn hfn
    simp only [Bool.and_eq_true, Bool.not_eq_true', beq_eq_false_iff_ne] at hf
    obtain ⟨h1, h2⟩ := hf
    simp [callFunc, hfn, h1]
    intro hb
    rw [hb] at h2
    cases h2
  · cases hf
/-- A call of a Go function, by its contract. -/
theorem call_wp {K : Act → World → Prop} {f : FuncId} {xs : Array Operand} {ts : Array TypeId} {args : Array Value} {v : Value} {R : World → Prop} (ho : o.op = Op.call { callee := .value (.func f), args := xs, argTypes := ts }) (hf : callsB P f = true) (hargs : xs.map a.eval = args)
    (h : Calls P f args w fun e w' => e = .returned v ∧ R w') (hK : ∀ w', R w' → K (a.put o.dst v) w') : o.wp P a w K Q := by
  have e : (execOp a.eval o).run P w = .ok (.enter f args) w := by
    unfold execOp
    simp [ho, resolve, hargs, invoke, Act.eval, Deferred.ofValue, run_callFunc_body hf]
  unfold Oper.wp
  rw [e]
  exact h.mono fun e w' ⟨he, hR⟩ => by subst he; exact hK w' hR
/-- The same where what is answered is known by what it is good for alone. -/
theorem call_any {K : Act → World → Prop} {f : FuncId} {xs : Array Operand} {ts : Array TypeId} {args : Array Value} {R : Ending → World → Prop} (ho : o.op = Op.call { callee := .value (.func f), args := xs, argTypes := ts }) (hf : callsB P f = true) (hargs : xs.map a.eval = args)
    (h : Calls P f args w R) (hK : ∀ e w', R e w' → ∃ v, e = .returned v ∧ K (a.put o.dst v) w') : o.wp P a w K Q := by
  have e : (execOp a.eval o).run P w = .ok (.enter f args) w := by
    unfold execOp
    simp [ho, resolve, hargs, invoke, Act.eval, Deferred.ofValue, run_callFunc_body hf]
  unfold Oper.wp
  rw [e]
  exact h.mono fun e w' hR => by
    obtain ⟨v, he, hk⟩ := hK e w' hR
    subst he
    exact hk
/-- The same as what only reads. -/
theorem line_readv {v : Value} (ho : l[i]? = some o) (hw : Region.wanted o (yielded l.toArray a.tmps) = true) (hv : ∀ w, (execOp a.eval o).run P w = .ok (.value v) w) (h : LineP P l.toArray S Q C r (a.put o.dst v) w) : LineP P l.toArray S Q C ((i, true) :: r) a w :=
  line_read ho hw fun K hK => ⟨v, fun w' _ => by unfold Oper.quietAt; rw [hv]; exact ⟨rfl, rfl⟩, hK _ h⟩
theorem line_nil (h : C a w) : LineP P ops S Q C [] a w := ⟨h⟩
end
end Go.Proofs.YtcolecidbalmhaaGreatDoor
namespace Go.Proofs.YtcolecidbalmhaaGreatDoor
open Go.RowKit
set_option maxRecDepth 100000
set_option linter.unusedVariables false

/-- The cells of a result that is not yet told. -/
structure Res2 (g : Nat) (w : World) : Prop where
  c0 : w.cell? ⟨g, 0, none⟩ = some (.int .i64 0)
  c1 : w.cell? ⟨g, 1, none⟩ = some (.int .i64 0)
  f0 : w.frozen? ⟨g, 0, none⟩ = false
  f1 : w.frozen? ⟨g, 1, none⟩ = false
theorem Res2.new (w : World) (t : TypeId) : Res2 w.heap.size (w.alloc (.cells #[.int .i64 0, .int .i64 0] t)) := ⟨by go_simp, by go_simp, by go_simp, by go_simp⟩
theorem Res2.on {g : Nat} {w w' : World} (h : Res2 g w) (hb : Below w.heap.size w w') : Res2 g w' :=
  ⟨cell_keep hb h.c0, cell_keep hb h.c1, (hb.frozen (p := ⟨g, 0, none⟩) (cell_lt h.c0)).trans h.f0, (hb.frozen (p := ⟨g, 1, none⟩) (cell_lt h.c1)).trans h.f1⟩
structure Res3 (g : Nat) (w : World) : Prop where
  c0 : w.cell? ⟨g, 0, none⟩ = some (.int .i64 0)
  c1 : w.cell? ⟨g, 1, none⟩ = some (.int .i64 0)
  c2 : w.cell? ⟨g, 2, none⟩ = some (.int .i64 0)
  f0 : w.frozen? ⟨g, 0, none⟩ = false
  f1 : w.frozen? ⟨g, 1, none⟩ = false
  f2 : w.frozen? ⟨g, 2, none⟩ = false
theorem Res3.new (w : World) (t : TypeId) : Res3 w.heap.size (w.alloc (.cells #[.int .i64 0, .int .i64 0, .int .i64 0] t)) := ⟨by go_simp, by go_simp, by go_simp, by go_simp, by go_simp, by go_simp⟩
theorem Res3.on {g : Nat} {w w' : World} (h : Res3 g w) (hb : Below w.heap.size w w') : Res3 g w' :=
  ⟨cell_keep hb h.c0, cell_keep hb h.c1, cell_keep hb h.c2, (hb.frozen (p := ⟨g, 0, none⟩) (cell_lt h.c0)).trans h.f0, (hb.frozen (p := ⟨g, 1, none⟩) (cell_lt h.c1)).trans h.f1, (hb.frozen (p := ⟨g, 2, none⟩) (cell_lt h.c2)).trans h.f2⟩
theorem bdrew (w : World) : Below w.heap.size w w.drew := (Below.refl _ _).drew
/-- Two bytes, the higher one first. -/
theorem or_two (x y : Nat) (hx : x ≤ 255) (hy : y ≤ 255) : bits .or .i64 ((x : Int) * 256) (y : Int) = 256 * (x : Int) + y := by
  have e1 : BitVec.ofInt 64 ((x : Int) * 256) = BitVec.ofNat 64 (x * 256) := by
    rw [show (x : Int) * 256 = ((x * 256 : Nat) : Int) by omega, BitVec.ofInt_natCast]
  have e2 : BitVec.ofInt 64 (y : Int) = BitVec.ofNat 64 y := BitVec.ofInt_natCast ..
  show IntKind.i64.wrap ((BitVec.ofInt 64 ((x : Int) * 256) ||| BitVec.ofInt 64 (y : Int)).toNat : Nat) = _
  rw [e1, e2, BitVec.toNat_or, BitVec.toNat_ofNat, BitVec.toNat_ofNat, Nat.mod_eq_of_lt (by omega), Nat.mod_eq_of_lt (by omega)]
  have h := Nat.shiftLeft_add_eq_or_of_lt (i := 8) (b := y) (by omega) x
  rw [Nat.shiftLeft_eq] at h
  rw [show x * 256 = x * 2 ^ 8 from rfl, ← h, IntKind.wrap_i64]
  omega
theorem readTwo_any (b off len cap : Nat) (x y : Int) (w : World) (hl : 2 ≤ len) (hc : len ≤ cap) (hm : cap ≤ maxLen) (c0 : w.cell? ⟨b, off, none⟩ = some (.int .u8 x)) (c1 : w.cell? ⟨b, off + 1, none⟩ = some (.int .u8 y))
    (x0 : 0 ≤ x) (x1 : x ≤ 255) (y0 : 0 ≤ y) (y1 : y ≤ 255) :
    Calls Tryz.prog 158 #[.slice (some ⟨b, off, none⟩) len cap] w fun r w' => r = .returned (.int .i64 (256 * x + y)) ∧ Below w.heap.size w w' := by
  unfold maxLen at hm
  obtain ⟨x, rfl⟩ := Int.eq_ofNat_of_zero_le x0
  obtain ⟨y, rfl⟩ := Int.eq_ofNat_of_zero_le y0
  have ho := or_two x y (by omega) (by omega)
  go_enter Tryz.func158, Tryz.ntmps158
  go_wp2_with fail
  go_quiet (fail)
  go_wp2_with fail
  go_ret
  refine ⟨?_, bdrewN (Below.refl _ _) _⟩
  rfl
theorem l1At_any (b off len cap k : Nat) (x y : Int) (w : World) (hl : k + 1 < len) (hk : k ≤ 1000) (hc : len ≤ cap) (hm : cap ≤ maxLen) (c0 : w.cell? ⟨b, off + k, none⟩ = some (.int .u8 x)) (c1 : w.cell? ⟨b, off + (k + 1), none⟩ = some (.int .u8 y))
    (x0 : 0 ≤ x) (x1 : x ≤ 255) (y0 : 0 ≤ y) (y1 : y ≤ 255) :
    Calls Tryz.prog 217 #[.slice (some ⟨b, off, none⟩) len cap, .int .i64 k] w fun r w' => r = .returned (.int .i64 (256 * x + y)) ∧ Below w.heap.size w w' := by
  unfold maxLen at hm
  go_enter Tryz.func217, Tryz.ntmps217
  go_wp2_with fail
  go_quiet (fail)
  go_wp2_with fail
  go_ret
  refine ⟨?_, bdrewN (Below.refl _ _) _⟩
  rfl
structure ResB (g : Nat) (w : World) : Prop where
  c0 : w.cell? ⟨g, 0, none⟩ = some (.int .i64 0)
  c1 : w.cell? ⟨g, 1, none⟩ = some (.slice none 0 0)
  f0 : w.frozen? ⟨g, 0, none⟩ = false
  f1 : w.frozen? ⟨g, 1, none⟩ = false
theorem ResB.new (w : World) (t : TypeId) : ResB w.heap.size (w.alloc (.cells #[.int .i64 0, .slice none 0 0] t)) := ⟨by go_simp, by go_simp, by go_simp, by go_simp⟩
theorem ResB.on {g : Nat} {w w' : World} (h : ResB g w) (hb : Below w.heap.size w w') : ResB g w' :=
  ⟨cell_keep hb h.c0, cell_keep hb h.c1, (hb.frozen (p := ⟨g, 0, none⟩) (cell_lt h.c0)).trans h.f0, (hb.frozen (p := ⟨g, 1, none⟩) (cell_lt h.c1)).trans h.f1⟩
/-- A slice of new memory was answered. -/
def Made (zs : List Int) (w : World) (r : Ending) (w' : World) : Prop := ∃ a len cap, r = .returned (.slice a len cap) ∧ OwnK .u8 w' w.heap.size (.slice a len cap) zs ∧ Below w.heap.size w w'
theorem own_lit {k : IntKind} (w : World) (zs : List Int) (n : Nat) (t : TypeId) {B : Nat} (hB : B ≤ w.heap.size) (hn : zs.length = n) (hm : n ≤ maxLen) :
    OwnK k (w.alloc (.cells (zs.map (Value.int k)).toArray t)) B (.slice (some ⟨w.heap.size, 0, none⟩) n n) zs := by
  subst hn
  have e1 : (w.alloc (.cells (zs.map (Value.int k)).toArray t)).heap[w.heap.size]? = some (.cells (zs.map (Value.int k)).toArray t) := (MapKept.heap_alloc w _).1
  refine ⟨by simp, .inr ⟨w.heap.size, _, rfl, hB, by simp, Nat.le_refl _, hm, fun j u hu => ?_, fun j hj => ?_⟩⟩
  · unfold World.cell?
    rw [e1]
    simpa using hu
  · unfold World.cell? World.frozen?
    rw [e1]
    simp [show j < zs.length by omega]
theorem blk_cell {w : World} {b : Nat} {cs : Array Value} {t : TypeId} (h : w.heap[b]? = some (.cells cs t)) (i : Nat) : w.cell? ⟨b, i, none⟩ = cs[i]? := by simp [World.cell?, h]
theorem blk_free {w : World} {b : Nat} {cs : Array Value} {t : TypeId} (h : w.heap[b]? = some (.cells cs t)) (i : Nat) : w.frozen? ⟨b, i, none⟩ = false := by simp [World.frozen?, h]
theorem OwnK.put {k : IntKind} {w : World} {B g n c : Nat} {zs : List Int} {i : Nat} {m : Int} (h : OwnK k w B (.slice (some ⟨g, 0, none⟩) n c) zs) (hi : i < zs.length) : OwnK k (w.setCell ⟨g, i, none⟩ (.int k m)) B (.slice (some ⟨g, 0, none⟩) n c) (zs.set i m) := by
  unfold OwnK at *
  rcases h.2 with ⟨e, h0⟩ | ⟨g', c', e, hB, hg, hn, hm, hcell, hroom⟩
  · cases e
  injection e with e1 e2 e3
  injection e1 with e1
  injection e1 with e1 _ _
  subst e1
  subst e3
  refine ⟨by simp, .inr ⟨g, c, by rw [e2]; simp, hB, by simpa [World.setCell] using hg, by simpa using hn, hm, fun j u hu => ?_, fun j hj => ?_⟩⟩
  · have hj := (List.getElem?_eq_some_iff.1 hu).1
    simp at hj
    by_cases hji : j = i
    · subst hji
      obtain ⟨u0, hu0⟩ := Option.isSome_iff_exists.1 (hroom j (by omega)).1
      rw [World.cell?_setCell_same _ _ _ (by rw [hu0]), ← hu]
      simp [hj]
    · rw [World.cell?_setCell_other _ _ _ _ (fun e => by injection e with _ e2; omega)]
      refine hcell j u ?_
      rw [← hu]
      simp [show ¬ i = j by omega]
  · obtain ⟨q1, q2⟩ := hroom j hj
    refine ⟨?_, by rw [World.frozen?_setCell]; exact q2⟩
    obtain ⟨u0, hu0⟩ := Option.isSome_iff_exists.1 q1
    obtain ⟨v, hv⟩ := cell?_setCell_some (w := w) (p := ⟨g, i, none⟩) (x := .int k m) (q := ⟨g, j, none⟩) (v := u0) hu0
    rw [hv]; rfl
end Go.Proofs.YtcolecidbalmhaaGreatDoor
namespace Go.Proofs.YtcolecidbalmhaaGreatDoor
open Go.RowKit
set_option maxRecDepth 100000

/-- Block g begins with the cells cs, and they may be written. -/
structure At (g : Nat) (cs : List Value) (w : World) : Prop where
  cell : ∀ i v, cs[i]? = some v → w.cell? ⟨g, i, none⟩ = some v
  free : ∀ i v, cs[i]? = some v → w.frozen? ⟨g, i, none⟩ = false
section
variable {g : Nat} {cs : List Value} {w w' : World}
theorem At.new (w : World) (cs : List Value) (t : TypeId) : At w.heap.size cs (w.alloc (.cells cs.toArray t)) := by
  have e1 : (w.alloc (.cells cs.toArray t)).heap[w.heap.size]? = some (.cells cs.toArray t) := (MapKept.heap_alloc w _).1
  refine ⟨fun i v h => ?_, fun i v h => ?_⟩
  · unfold World.cell?
    rw [e1]
    simpa using h
  · unfold World.frozen?
    rw [e1]
    simp
theorem At.keep (h : At g cs w) (hk : g < w.heap.size → w'.heap[g]? = w.heap[g]?) : At g cs w' :=
  ⟨fun i v hi => (World.cell?_of_block (w := w) (a := ⟨g, i, none⟩) (hk (cell_lt (h.cell i v hi)))).trans (h.cell i v hi),
   fun i v hi => (World.frozen?_of_block (w := w) (a := ⟨g, i, none⟩) (hk (cell_lt (h.cell i v hi)))).trans (h.free i v hi)⟩
theorem At.on (h : At g cs w) (hb : Below w.heap.size w w') : At g cs w' := h.keep fun hg => hb.block g hg
theorem At.alloc (h : At g cs w) (o : Obj) : At g cs (w.alloc o) := h.on (bal (Below.refl _ _) o)
theorem At.kept {row : Option Nat} (h : At g cs w) (hg : w.grownBy w' row) (hne : some g ≠ row) : At g cs w' := h.keep fun hl => hg.block g hl hne
theorem At.setB (h : At g cs w) {p : Addr} (hp : g ≠ p.block) (u : Value) : At g cs (w.setCell p u) := h.keep fun _ => Below.heap_setCell w p u g hp
theorem At.set (h : At g cs w) (i : Nat) (u : Value) : At g (cs.set i u) (w.setCell ⟨g, i, none⟩ u) := by
  refine ⟨fun j v hj => ?_, fun j v hj => ?_⟩
  · by_cases e : i = j
    · subst e
      have hl : i < cs.length := by have := (List.getElem?_eq_some_iff.1 hj).1; simpa using this
      have hc := h.cell i cs[i] (by simp [hl])
      rw [World.cell?_setCell_same _ _ _ (by rw [hc])]
      simpa [hl] using hj
    · rw [World.cell?_setCell_other _ _ _ _ (fun e2 => by injection e2 with _ e3; omega)]
      exact h.cell j v (by simpa [e] using hj)
  · rw [World.frozen?_setCell]
    have hl : j < cs.length := by have := (List.getElem?_eq_some_iff.1 hj).1; simpa using this
    exact h.free j cs[j] (by simp [hl])
theorem At.lt (h : At g cs w) (hl : 0 < cs.length) : g < w.heap.size := cell_lt (h.cell 0 cs[0] (by simp [hl]))
end
/-- Below W, and block g holds the cells cs. -/
structure Hold (W : World) (g : Nat) (cs : List Value) (cur : World) : Prop where
  bel : Below W.heap.size W cur
  at' : At g cs cur
theorem Hold.on {W : World} {g : Nat} {cs : List Value} {cur cur' : World} (h : Hold W g cs cur) (hb : Below cur.heap.size cur cur') : Hold W g cs cur' := ⟨btr h.bel hb, h.at'.on hb⟩
theorem Hold.setB {W : World} {g : Nat} {cs : List Value} {cur : World} (h : Hold W g cs cur) {p : Addr} (hW : W.heap.size ≤ p.block) (hp : g ≠ p.block) (u : Value) : Hold W g cs (cur.setCell p u) := ⟨bset h.bel hW u, h.at'.setB hp u⟩

/-- What a cell holds it holds in each world that has kept it. -/
theorem bel_cell {W : World} {p : Addr} {v : Value} (h : W.cell? p = some v) : ∀ z : Of (Bel W), z.val.cell? p = some v := fun z => cell_keep z.prop.out h
theorem hold_cell {W : World} {g : Nat} {cs : List Value} (i : Nat) (v : Value) (h : cs[i]? = some v) : ∀ z : Of (Hold W g cs), z.val.cell? ⟨g, i, none⟩ = some v := fun z => z.prop.at'.cell i v h
theorem Bel.start (W : World) : Bel W W := ⟨Below.refl _ _⟩
/-- Bytes as a text. -/
def strOf (ns : List Int) : ByteArray := ns.foldl (fun r n => r.push (UInt8.ofNat n.toNat)) ByteArray.empty
theorem conv_row {B : Nat} {a : Option Addr} {len cap : Nat} {zs : List Int} {w : World} (hR : Row .u8 w B a len cap zs) :
    (convert 22 9 (.slice a len cap)).run Tryz.prog w = .ok (.string (strOf zs)) w := by
  rw [run_convert_bytes_string w 22 9 5 a len cap Tryz.underlying22 Tryz.underlying5 Tryz.underlying9]
  rcases Nat.eq_zero_or_pos len with h0 | h0
  · subst h0
    obtain rfl : zs = [] := List.eq_nil_of_length_eq_zero hR.length
    cases a with
    | none => rfl
    | some x => exact run_bytesToString w x 0 cap [] (run_loadCells_list w x [] (fun j v h => by simp at h))
  · obtain ⟨b, off, rfl, hb, hc⟩ := hR.cells h0
    refine run_bytesToString w _ len cap zs ?_
    have := run_loadCells_list (P := Tryz.prog) w ⟨b, off, none⟩ (zs.map (Value.int .u8)) (fun j v h => by
      have hj := (List.getElem?_eq_some_iff.1 h).1
      simp [hR.length] at hj
      rw [Addr.add_lit, hc j hj, ← h]
      simp [List.getD, show j < zs.length by rw [hR.length]; exact hj])
    simpa [hR.length] using this
theorem strOf_data : ∀ (zs : List Int) (s : ByteArray), (zs.foldl (fun r n => r.push (UInt8.ofNat n.toNat)) s).data.toList = s.data.toList ++ zs.map (fun n => UInt8.ofNat n.toNat)
  | [], s => by simp
  | z :: r, s => by
    rw [List.foldl_cons, strOf_data r]
    simp [ByteArray.push]
theorem u8_byte {z : Int} (h : (Lit.int .u8 z).wf = true) : M.byteB z := by
  simp [Lit.wf, IntKind.min, IntKind.max, IntKind.signed, IntKind.bits] at h
  unfold M.byteB
  omega
theorem Row.bytes {w : World} {B : Nat} {a : Option Addr} {len cap : Nat} {zs : List Int} (h : Row .u8 w B a len cap zs) : ∀ z ∈ zs, M.byteB z := fun z hz => u8_byte (h.wf z hz)

/-- A block that is known whole is a slice of the call's own. -/
theorem own_blk {k : IntKind} {w : World} {g B n : Nat} {zs : List Int} {t : TypeId} (hg : w.heap[g]? = some (.cells (zs.map (Value.int k)).toArray t)) (hB : B ≤ g) (hn : zs.length = n) (hm : n ≤ maxLen) : OwnK k w B (.slice (some ⟨g, 0, none⟩) n n) zs := by
  subst hn
  have hl : g < w.heap.size := (Array.getElem?_eq_some_iff.1 hg).1
  refine ⟨by simp, .inr ⟨g, _, rfl, hB, hl, Nat.le_refl _, hm, fun j u hu => ?_, fun j hj => ?_⟩⟩
  · unfold World.cell?
    rw [hg]
    simpa using hu
  · unfold World.cell? World.frozen?
    rw [hg]
    simp [show j < zs.length by omega]
/-- What is appended are the elements of a slice that is read. -/
theorem Row.src {P : Program} {k : IntKind} {w : World} {B : Nat} {a : Option Addr} {len cap : Nat} {zs : List Int} (h : Row k w B a len cap zs) {tx e' : TypeId} (hk : P.underlying tx = some (.slice e')) : Go.Src P 1 tx (.slice a len cap) len (zs.map (Value.int k)) w := by
  rcases Nat.eq_zero_or_pos len with h0 | h0
  · subst h0
    obtain rfl : zs = [] := List.eq_nil_of_length_eq_zero h.length
    cases a with
    | none => exact Src.ofNil w hk cap
    | some x => exact Src.ofSlice w hk x 0 cap [] rfl (fun j u hu => by simp at hu) (fun _ hu => by cases hu)
  · obtain ⟨b, off, rfl, hb, hc⟩ := h.cells h0
    refine Src.ofSlice w hk _ len cap _ (by simp [h.length]) (fun j u hu => ?_) (ints_oneCell k zs)
    have hj := (List.getElem?_eq_some_iff.1 hu).1
    simp [h.length] at hj
    rw [Addr.add_lit, hc j hj, ← hu]
    simp [List.getD, show j < zs.length by rw [h.length]; exact hj]
theorem Row.sub {k : IntKind} {w : World} {B b off len cap : Nat} {zs : List Int} (h : Row k w B (some ⟨b, off, none⟩) len cap zs) (i n' c' : Nat) (hi : i + n' ≤ len) (hn : n' ≤ c') (hc : c' ≤ maxLen) : Row k w B (some ⟨b, off + i, none⟩) n' c' ((zs.drop i).take n') :=
  ⟨by simp [h.length]; omega, fun z hz => h.wf z (List.mem_of_mem_drop (List.mem_of_mem_take hz)), hn, hc, fun hp => by
    obtain ⟨b', off', e, hb, hcell⟩ := h.cells (by omega)
    injection e with e
    injection e with e1 e2
    subst e1
    subst e2
    refine ⟨b, off + i, rfl, hb, fun j hj => ?_⟩
    rw [Nat.add_assoc, hcell (i + j) (by omega)]
    simp [List.getD, List.getElem?_drop, hj]⟩
end Go.Proofs.YtcolecidbalmhaaGreatDoor
namespace Go.Proofs.YtcolecidbalmhaaGreatDoor
open Go.RowKit
set_option maxRecDepth 100000
set_option linter.unusedVariables false

/-- Nothing that was there has turned but blocks from lo on, ahead of hi. -/
structure Inn (lo hi : Nat) (w w' : World) : Prop where
  os : w'.os = w.os
  tape : w'.tape = w.tape
  output : w'.output = w.output
  size : w.heap.size ≤ w'.heap.size
  block : ∀ k, k < w.heap.size → k < lo ∨ hi ≤ k → w'.heap[k]? = w.heap[k]?
section
variable {lo hi : Nat} {w w' w2 : World}
theorem Inn.refl (lo hi : Nat) (w : World) : Inn lo hi w w := ⟨rfl, rfl, rfl, Nat.le_refl _, fun _ _ _ => rfl⟩
theorem Inn.trans (h : Inn lo hi w w') (k : Inn lo hi w' w2) : Inn lo hi w w2 :=
  ⟨k.os.trans h.os, k.tape.trans h.tape, k.output.trans h.output, Nat.le_trans h.size k.size, fun i hl ho => (k.block i (Nat.lt_of_lt_of_le hl h.size) ho).trans (h.block i hl ho)⟩
theorem Inn.of_below (h : Below w.heap.size w w') : Inn lo hi w w' := ⟨h.os, h.tape, h.output, h.size, fun k hk _ => h.block k hk⟩
theorem Inn.of_grown {v : Value} (h : w.grownBy w' v.ownBlock) (hv : ∀ k, v.ownBlock = some k → lo ≤ k ∧ k < hi) : Inn lo hi w w' :=
  ⟨h.os, h.tape, h.output, h.size, fun k hk ho => h.block k hk fun e => by have := hv k e.symm; omega⟩
theorem Inn.wide {lo' hi' : Nat} (h : Inn lo hi w w') (h1 : lo' ≤ lo) (h2 : hi ≤ hi') : Inn lo' hi' w w' := ⟨h.os, h.tape, h.output, h.size, fun k hk ho => h.block k hk (by omega)⟩
/-- What lies ahead of all that has turned. -/
theorem Inn.below {W : World} (hb : Below W.heap.size W w) (h : Inn lo hi w w') (hl : W.heap.size ≤ lo) : Below W.heap.size W w' :=
  ⟨h.os.trans hb.os, h.tape.trans hb.tape, h.output.trans hb.output, Nat.le_trans hb.size h.size, fun k hk => (h.block k (by have := hb.size; omega) (by omega)).trans (hb.block k hk)⟩
theorem Inn.ahead (h : Inn lo hi w w') (hl : lo ≤ w.heap.size) : Below lo w w' := ⟨h.os, h.tape, h.output, h.size, fun k hk => h.block k (by omega) (by omega)⟩
theorem At.inn {g : Nat} {cs : List Value} (h : At g cs w) (k : Inn lo hi w w') (hg : g < lo ∨ hi ≤ g) : At g cs w' := h.keep fun hl => k.block g hl hg
theorem Own.inn {B s n : Nat} {v : Value} {xs : List Value} (h : Own w B s v n xs) (k : Inn lo hi w w') (hv : ∀ g, v.ownBlock = some g → g < lo ∨ hi ≤ g) : Own w' B s v n xs :=
  h.keep k.size fun g hg => k.block g (h.lt g hg).2 (hv g hg)
end

/-- The two lie in no one block. -/
def ApartV (v1 v2 : Value) : Prop := ∀ k, v1.ownBlock = some k → v2.ownBlock ≠ some k
/-- A slice of slices of bytes that a call made: all of it lies from block lo on, ahead of block hi, no two slices in one block. -/
structure OwnG (w : World) (lo hi : Nat) (v : Value) (zss : List (List Int)) (xs : List Value) : Prop where
  own : Own w lo 1 v zss.length xs
  top : hi ≤ w.heap.size
  lt : ∀ k, v.ownBlock = some k → k < hi
  row : ∀ (j : Nat) (u : Value), xs[j]? = some u → OwnK .u8 w lo u (zss[j]?.getD []) ∧ (∀ k, u.ownBlock = some k → k < hi) ∧ ApartV u v
  sep : ∀ (i j : Nat) (u1 u2 : Value), i ≠ j → xs[i]? = some u1 → xs[j]? = some u2 → ApartV u1 u2
section
variable {w w' : World} {lo hi : Nat} {v : Value} {zss : List (List Int)} {xs : List Value}
theorem OwnG.len (h : OwnG w lo hi v zss xs) : xs.length = zss.length := by have := h.own.1; omega
theorem OwnG.nil (w : World) (lo hi : Nat) (h : hi ≤ w.heap.size) : OwnG w lo hi (.slice none 0 0) [] [] :=
  ⟨Own.nil w lo 1, h, fun k hk => by simp [Value.ownBlock] at hk, fun j u hu => by simp at hu, fun i j u1 u2 _ hu => by simp at hu⟩
theorem OwnG.less {lo' : Nat} (h : OwnG w lo hi v zss xs) (hl : lo' ≤ lo) : OwnG w lo' hi v zss xs :=
  ⟨h.own.less hl, h.top, h.lt, fun j u hu => by obtain ⟨a, b, c⟩ := h.row j u hu; exact ⟨Own.less a hl, b, c⟩, h.sep⟩
theorem OwnG.more {hi' : Nat} (h : OwnG w lo hi v zss xs) (h1 : hi ≤ hi') (h2 : hi' ≤ w.heap.size) : OwnG w lo hi' v zss xs :=
  ⟨h.own, h2, fun k hk => by have := h.lt k hk; omega, fun j u hu => by
    obtain ⟨a, b, c⟩ := h.row j u hu
    exact ⟨a, fun k hk => by have := b k hk; omega, c⟩, h.sep⟩
theorem OwnG.keep (h : OwnG w lo hi v zss xs) (hs : w.heap.size ≤ w'.heap.size) (hk : ∀ k, lo ≤ k → k < hi → w'.heap[k]? = w.heap[k]?) : OwnG w' lo hi v zss xs :=
  ⟨h.own.keep hs fun k e => hk k (h.own.lt k e).1 (h.lt k e), Nat.le_trans h.top hs, h.lt, fun j u hu => by
    obtain ⟨a, b, c⟩ := h.row j u hu
    exact ⟨Own.keep a hs fun k e => hk k (Own.lt a k e).1 (b k e), b, c⟩, h.sep⟩
theorem OwnG.keepP (h : OwnG w lo hi v zss xs) (hs : w.heap.size ≤ w'.heap.size) (hv : ∀ k, v.ownBlock = some k → w'.heap[k]? = w.heap[k]?) (hx : ∀ (i : Nat) (u : Value) (k : Nat), xs[i]? = some u → u.ownBlock = some k → w'.heap[k]? = w.heap[k]?) : OwnG w' lo hi v zss xs :=
  ⟨h.own.keep hs hv, Nat.le_trans h.top hs, h.lt, fun j u hu => by
    obtain ⟨a, b, c⟩ := h.row j u hu
    exact ⟨Own.keep a hs fun k e => hx j u k hu e, b, c⟩, h.sep⟩
theorem OwnG.below (h : OwnG w lo hi v zss xs) (hb : Below w.heap.size w w') : OwnG w' lo hi v zss xs :=
  h.keep hb.size fun k _ h2 => hb.block k (by have := h.top; omega)
theorem OwnG.alloc (h : OwnG w lo hi v zss xs) (o : Obj) : OwnG (w.alloc o) lo hi v zss xs := h.below (bal (Below.refl _ _) o)
theorem OwnG.inn {l2 h2 : Nat} (h : OwnG w lo hi v zss xs) (k : Inn l2 h2 w w') (hd : hi ≤ l2 ∨ h2 ≤ lo) : OwnG w' lo hi v zss xs :=
  h.keep k.size fun i h3 h4 => k.block i (by have := h.top; omega) (by omega)
theorem OwnG.setCell (h : OwnG w lo hi v zss xs) {p : Addr} (hp : p.block < lo ∨ hi ≤ p.block) (u : Value) : OwnG (w.setCell p u) lo hi v zss xs :=
  h.keep (by simp [World.setCell]) fun k h1 h2 => Below.heap_setCell w p u k (by omega)
theorem OwnG.form (h : OwnG w lo hi v zss xs) : ∃ a cap, v = .slice a zss.length cap ∧ zss.length ≤ cap ∧ cap ≤ maxLen ∧ (a = none → zss.length = 0 ∧ cap = 0) := h.own.form
/-- It can be read. -/
theorem OwnG.grid {a : Option Addr} {len cap : Nat} (h : OwnG w lo hi (.slice a len cap) zss xs) (hw : ∀ zs ∈ zss, ∀ z ∈ zs, (Lit.int .u8 z).wf = true) : Grid w w.heap.size a len cap zss := by
  have hl := h.len
  rcases h.own.2 with ⟨e, h0⟩ | ⟨g, c, e, hb, hg, h1, h2, hc, _⟩
  · injection e with e1 e2 e3
    subst e1; subst e2; subst e3
    obtain rfl : zss = [] := List.eq_nil_of_length_eq_zero h0
    exact Grid.nil _ _
  · injection e with e1 e2 e3
    subst e1; subst e2; subst e3
    refine ⟨rfl, h1, h2, fun hp => ⟨g, 0, rfl, hg, fun j hj => ?_⟩⟩
    have hj2 : j < xs.length := by omega
    have hu : xs[j]? = some xs[j] := List.getElem?_eq_getElem hj2
    obtain ⟨hrow, hlt, _⟩ := h.row j _ hu
    obtain ⟨a', c', ev, _⟩ := Own.form hrow
    refine ⟨a', _, c', by rw [Nat.zero_add, hc j _ hu, ev], ?_⟩
    rw [ev] at hrow
    exact Own.row hrow fun z hz => hw _ (by
      have : j < zss.length := by omega
      rw [List.getElem?_eq_getElem this]
      exact List.getElem_mem this) z hz
theorem OwnG.len' {a : Option Addr} {len cap : Nat} (h : OwnG w lo hi (.slice a len cap) zss xs) : len = zss.length := by
  obtain ⟨a', c', e, _⟩ := h.form
  injection e
/-- One more slice of new memory is appended. -/
theorem OwnG.app {w1 w2 : World} {v' u : Value} {zs : List Int} (h : OwnG w lo w.heap.size v zss xs) (hlow : lo ≤ w.heap.size) (hb : Below w.heap.size w w1) (hu : OwnK .u8 w1 w.heap.size u zs)
    (ho : Own w2 lo 1 v' (zss.length + 1) (xs ++ [u])) (hg : w1.grownBy w2 v.ownBlock) (hat : v'.ownBlock = v.ownBlock ∨ v'.ownBlock = some w1.heap.size) : OwnG w2 lo w2.heap.size v' (zss ++ [zs]) (xs ++ [u]) := by
  have hl := h.len
  have old : ∀ j x, xs[j]? = some x → OwnK .u8 w2 lo x (zss[j]?.getD []) ∧ (∀ k, x.ownBlock = some k → k < w.heap.size) ∧ ApartV x v := fun j x hx => by
    obtain ⟨a, b, c⟩ := h.row j x hx
    exact ⟨Own.keep (Own.below a hb) hg.size fun k e => hg.block k (by have := b k e; have := hb.size; omega) (fun e2 => c k e e2.symm), b, c⟩
  have hsz := hb.size
  have hsz2 := hg.size
  have hv := fun k e => h.lt k e
  have new : OwnK .u8 w2 w.heap.size u zs := Own.keep hu hg.size fun k e => hg.block k (Own.lt hu k e).2 (fun e2 => by have := hv k e2.symm; have := (Own.lt hu k e).1; omega)
  have nlt := fun k e => Own.lt hu k e
  refine ⟨by simpa using ho, Nat.le_refl _, fun k e => (ho.lt k e).2, fun j x hx => ?_, fun i j u1 u2 hij h1 h2 => ?_⟩
  · rcases Nat.lt_or_ge j xs.length with hj | hj
    · rw [List.getElem?_append_left hj] at hx
      obtain ⟨a, b, c⟩ := old j x hx
      refine ⟨by rw [List.getElem?_append_left (by omega)]; exact a, fun k e => by have := b k e; omega, fun k e e2 => ?_⟩
      rcases hat with ha | ha
      · rw [ha] at e2; exact c k e e2
      · rw [ha] at e2
        injection e2 with e2
        have := b k e
        omega
    · have hj2 : j = xs.length := by
        have := (List.getElem?_eq_some_iff.1 hx).1
        simp at this
        omega
      subst hj2
      rw [List.getElem?_append_right (Nat.le_refl _), Nat.sub_self] at hx
      simp at hx
      subst hx
      refine ⟨?_, fun k e => by have := (nlt k e).2; omega, fun k e e2 => ?_⟩
      · rw [hl, List.getElem?_append_right (Nat.le_refl _), Nat.sub_self]
        exact Own.less new hlow
      · rcases hat with ha | ha
        · rw [ha] at e2
          have := hv k e2
          have := (nlt k e).1
          omega
        · rw [ha] at e2
          injection e2 with e2
          have := (nlt k e).2
          omega
  · have key : ∀ i x, (xs ++ [u])[i]? = some x → (i < xs.length ∧ xs[i]? = some x) ∨ (i = xs.length ∧ x = u) := fun i x hx => by
      rcases Nat.lt_or_ge i xs.length with hj | hj
      · rw [List.getElem?_append_left hj] at hx
        exact .inl ⟨hj, hx⟩
      · have hj2 : i = xs.length := by
          have := (List.getElem?_eq_some_iff.1 hx).1
          simp at this
          omega
        subst hj2
        rw [List.getElem?_append_right (Nat.le_refl _), Nat.sub_self] at hx
        simp at hx
        exact .inr ⟨rfl, hx.symm⟩
    rcases key i u1 h1 with ⟨a1, a2⟩ | ⟨a1, a2⟩ <;> rcases key j u2 h2 with ⟨b1, b2⟩ | ⟨b1, b2⟩
    · exact h.sep i j u1 u2 hij a2 b2
    · subst b2
      intro k e e2
      have := (old i u1 a2).2.1 k e
      have := (nlt k e2).1
      omega
    · subst a2
      intro k e e2
      have := (old j u2 b2).2.1 k e2
      have := (nlt k e).1
      omega
    · omega
end
end Go.Proofs.YtcolecidbalmhaaGreatDoor
